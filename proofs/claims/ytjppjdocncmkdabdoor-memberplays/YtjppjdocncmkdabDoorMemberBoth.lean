/- Both nodes side by side, the program's and the document's answer's: whatever is called on both, they answer alike and stay alike. -/
import Derived.Test.YtjppjdocncmkdabDoorProgHears
import Derived.Test.YtjppjdocncmkdabDoorProgNode3
import Derived.Test.YtjppjdocncmkdabDoorProgNode4
import Derived.Test.YtjppjdocncmkdabDoorRefMember2
import Derived.Test.YtjppjdocncmkdabDoorRefJudges
import Derived.Test.YtjppjdocncmkdabDoorRefBack
import Derived.Test.YtjppjdocncmkdabDoorErrV
namespace Go.Proofs.YtjppjdocncmkdabDoor
open Go.RowKit

theorem refHears_all {w : World} {P Q : Nat} {id : Int} {n : Nat} {t : Nat → Bool} {g b : Int} {fz : Bool} (h : RefNode w P Q id n t g b fz) (frm what : Int) (hn1 : 1 ≤ n) (hn : n ≤ 16) (hg0 : 0 ≤ g) (hg : g ≤ 4611686018427387904) (hb0 : 0 ≤ b) (hb : b ≤ 4611686018427387904) :
    Calls Tryd.prog 26 #[.pointer (some ⟨P, 0, none⟩), .int .i64 frm, .int .i64 what] w fun e w' => e = .returned (.tuple #[]) ∧ RefNode w' P Q id n (heT id n fz frm what t) (heG id n fz frm what g) (heB id n fz frm what b) fz ∧ Turns P Q w w' := by
  cases q : hearsB id n fz frm what
  · refine (refHears_not h frm what hn1 hn q).mono ?_
    rintro e w' ⟨rfl, rfl⟩
    unfold heG heB
    rw [heT_not t q, q, if_neg (fun y => by cases y.1), if_neg (fun y => by cases y.1)]
    exact ⟨rfl, h, Turns.refl _ _ _⟩
  · obtain ⟨hf, k, rfl, h1, h2, h3, h4⟩ := hears_parts q
    refine (refHears_acts h k what hn hf h1 h2 h3 h4 hg0 hg hb0 hb).mono ?_
    rintro e w' ⟨rfl, a, c⟩
    unfold heG heB
    rw [heT_acts t q, q]
    simp only [true_and]
    rw [hf]
    exact ⟨a, c⟩

/-- What Back answers, and what becomes of a node. -/
def baK (n : Nat) (fz : Bool) (x : Int) : Int := if fz = false then 6 else if 0 ≤ x ∧ x < 2 ^ n then 0 else 1
def baT (i n : Nat) (fz : Bool) (x : Int) (t : Nat → Bool) : Nat → Bool := if baK n fz x = 0 then (fun j => tb x j || decide ((j : Int) = (i : Int))) else t
def baG (n : Nat) (fz : Bool) (x g : Int) : Int := if baK n fz x = 0 then 1 else g
def baB (n : Nat) (fz : Bool) (x b : Int) : Int := if baK n fz x = 0 then 0 else b
def baF (n : Nat) (fz : Bool) (x : Int) : Bool := if baK n fz x = 0 then false else fz

theorem pBack_all {w : World} {P i : Nat} {n : Nat} {t : Nat → Bool} {g b : Int} {fz : Bool} (h : ProgNode w P i n (bitsV t n) g b fz) (x : Int) (hn : n ≤ 16) (hi : i < n) (x0 : -9223372036854775808 ≤ x) (x1 : x < 9223372036854775808) :
    Calls Tryd.prog 29 #[.pointer (some ⟨P, 0, none⟩), .int .i64 x] w fun e w' => e = .returned (errV (baK n fz x)) ∧ ProgNode w' P i n (bitsV (baT i n fz x t) n) (baG n fz x g) (baB n fz x b) (baF n fz x) ∧ Turns P P w w' := by
  unfold baT baG baB baF
  cases fz
  · refine (pBack_state h x rfl).mono ?_
    rintro e w' ⟨rfl, rfl⟩
    have k : baK n false x = 6 := if_pos rfl
    rw [k]
    exact ⟨rfl, h, Turns.refl _ _ _⟩
  · by_cases q : 0 ≤ x ∧ x < 2 ^ n
    · have k : baK n true x = 0 := by unfold baK; rw [if_neg (by decide), if_pos q]
      rw [k]
      exact pBack_in h x rfl hn hi q.1 q.2
    · have k : baK n true x = 1 := by unfold baK; rw [if_neg (by decide), if_neg q]
      rw [k]
      refine (pBack_arg h x rfl hn x0 x1 (by omega)).mono ?_
      rintro e w' ⟨rfl, rfl⟩
      exact ⟨rfl, h, Turns.refl _ _ _⟩
theorem refBack_all {w : World} {P Q i : Nat} {n : Nat} {t : Nat → Bool} {g b : Int} {fz : Bool} (h : RefNode w P Q i n t g b fz) (x : Int) (hn1 : 1 ≤ n) (hn : n ≤ 16) :
    Calls Tryd.prog 30 #[.pointer (some ⟨P, 0, none⟩), .int .i64 x] w fun e w' => e = .returned (.int .i64 (baK n fz x)) ∧ RefNode w' P Q i n (baT i n fz x t) (baG n fz x g) (baB n fz x b) (baF n fz x) ∧ Turns P Q w w' := by
  unfold baT baG baB baF
  cases fz
  · refine (refBack_state h x rfl).mono ?_
    rintro e w' ⟨rfl, rfl⟩
    have k : baK n false x = 6 := if_pos rfl
    rw [k]
    exact ⟨rfl, h, Turns.refl _ _ _⟩
  · by_cases q : 0 ≤ x ∧ x < 2 ^ n
    · have k : baK n true x = 0 := by unfold baK; rw [if_neg (by decide), if_pos q]
      rw [k]
      exact refBack_in h x (tb x) rfl hn q.1 q.2 (fun j hj => and_bit q.1 q.2 hn hj) _ fun w' a c => ⟨rfl, a, c⟩
    · have k : baK n true x = 1 := by unfold baK; rw [if_neg (by decide), if_neg q]
      rw [k]
      refine (refBack_arg h x rfl hn1 hn (by omega)).mono ?_
      rintro e w' ⟨rfl, rfl⟩
      exact ⟨rfl, h, Turns.refl _ _ _⟩

theorem refJudges_all {w : World} {P Q : Nat} {id : Int} {n : Nat} {t : Nat → Bool} {g b : Int} {fz : Bool} (h : RefNode w P Q id n t g b fz) (frm m : Int) (hn1 : 1 ≤ n) (hn : n ≤ 16) :
    Calls Tryd.prog 32 #[.pointer (some ⟨P, 0, none⟩), .int .i64 frm, .int .i64 m] w fun e w' => e = .returned (.int .i64 (judgeV n t (tb m) frm m)) ∧ w' = w :=
  refJudges_any h frm m (tb m) hn1 hn fun m0 m1 _ hj => and_bit m0 m1 hn hj

/-- Both nodes, side by side. -/
structure Both (w : World) (P PR QR i n : Nat) (t : Nat → Bool) (g b : Int) (fz : Bool) : Prop where
  p : ProgNode w P i n (bitsV t n) g b fz
  r : RefNode w PR QR i n t g b fz
  ne1 : P ≠ PR
  ne2 : P ≠ QR
theorem Both.drawn {w : World} {P PR QR i n : Nat} {t : Nat → Bool} {g b : Int} {fz : Bool} (h : Both w P PR QR i n t g b fz) (q : Nat) : Both (w.drewN q) P PR QR i n t g b fz := ⟨h.p.drawn q, h.r.drawn q, h.ne1, h.ne2⟩
theorem Both.below {w w' : World} {P PR QR i n : Nat} {t : Nat → Bool} {g b : Int} {fz : Bool} (h : Both w P PR QR i n t g b fz) (k : Below w.heap.size w w') : Both w' P PR QR i n t g b fz :=
  have hT : Turns w.heap.size w.heap.size w w' := Turns.of_below k
  have h1 := h.p.lp
  have h2 := h.r.lp
  have h3 := h.r.lq
  ⟨h.p.keep hT (by omega) (by omega), h.r.keep hT (by omega) (by omega) (by omega) (by omega), h.ne1, h.ne2⟩
/-- Behind a call on the one. -/
theorem Both.left {w w' : World} {P PR QR i n : Nat} {t t' : Nat → Bool} {g b g' b' : Int} {fz fz' : Bool} (h : Both w P PR QR i n t g b fz) (hp : ProgNode w' P i n (bitsV t' n) g' b' fz') (k : Turns P P w w') : RefNode w' PR QR i n t g b fz :=
  have _ := hp
  h.r.keep k (Ne.symm h.ne1) (Ne.symm h.ne1) (Ne.symm h.ne2) (Ne.symm h.ne2)
theorem Both.mk2 {w w' : World} {P PR QR i n : Nat} {t : Nat → Bool} {g b : Int} {fz : Bool} (hp : ProgNode w P i n (bitsV t n) g b fz) (hr : RefNode w' PR QR i n t g b fz) (k : Turns PR QR w w') (h1 : P ≠ PR) (h2 : P ≠ QR) : Both w' P PR QR i n t g b fz := ⟨hp.keep k h1 h2, hr, h1, h2⟩
end Go.Proofs.YtjppjdocncmkdabDoor
