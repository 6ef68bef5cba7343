/- The document's answer's node: where it lies, and its words Bits, Sends, Hears (ahead of stage 6). -/
import Derived.Test.YtjppjdocncmkdabDoorProg
import Derived.Test.YtjppjdocncmkdabDoorMemberPlain
import Derived.Test.YtjppjdocncmkdabDoorInAny
import Derived.WalkSpells
import Derived.WalkLawsBesides
namespace Go.Proofs.YtjppjdocncmkdabDoor
open Go.RowKit

/-- The document's answer's node in memory: its struct at P, what it takes at Q. -/
structure RefNode (w : World) (P Q : Nat) (id : Int) (n : Nat) (t : Nat → Bool) (g b : Int) (fz : Bool) : Prop where
  c0 : w.cell? ⟨P, 0, none⟩ = some (.int .i64 id)
  c1 : w.cell? ⟨P, 1, none⟩ = some (.int .i64 n)
  c2 : w.cell? ⟨P, 2, none⟩ = some (.slice (some ⟨Q, 0, none⟩) n n)
  c3 : w.cell? ⟨P, 3, none⟩ = some (.int .i64 g)
  c4 : w.cell? ⟨P, 4, none⟩ = some (.int .i64 b)
  c5 : w.cell? ⟨P, 5, none⟩ = some (.bool fz)
  z : ∀ i, w.frozen? ⟨P, i, none⟩ = false
  row : ∀ j, j < n → w.cell? ⟨Q, j, none⟩ = some (.bool (t j))
  zr : ∀ j, w.frozen? ⟨Q, j, none⟩ = false
  ne : P ≠ Q
  lp : P < w.heap.size
  lq : Q < w.heap.size

set_option maxHeartbeats 1000000 in
theorem refBits_any {w : World} {P Q : Nat} {id : Int} {n : Nat} {t : Nat → Bool} {g b : Int} {fz : Bool} (h : RefNode w P Q id n t g b fz) (hn : n ≤ 16) :
    Calls Tryd.prog 35 #[.pointer (some ⟨P, 0, none⟩)] w fun e w' => e = .returned (.int .i64 (bitsV t n)) ∧ w' = w := by
  have HR : Hid (∀ j, j < n → w.cell? ⟨Q, j, none⟩ = some (.bool (t j))) := h.row
  obtain ⟨_, _, c2, _, _, _, _, _, _, _, lp, lq⟩ := h
  go_enter Tryd.func35, Tryd.ntmps35
  go_wp2_with fail
  go_loopw [11, 3] (fun q v wr => ∃ k : Nat, k ≤ n ∧ q = .int .i64 k ∧ v = .int .i64 (bitsV t k) ∧ wr = w) (fun q _ _ => n - (intOf q).toNat)
  case atStart => exact ⟨0, Nat.zero_le _, rfl, rfl, rfl⟩
  case round =>
    obtain ⟨k, hk, rfl, rfl, hwr⟩ := hrel
    subst hwr
    by_cases hlt : k < n
    · have r0 := HR.out k hlt
      have kk : (k : Int) < (n : Int) := by omega
      have b0 := bitsV_in t k
      have p0 := pow_pos k
      have p1 : (2 : Int) ^ k ≤ 2 ^ 16 := pow_le (by omega)
      have p2 : (2 : Int) ^ 16 = 65536 := by decide
      have HS : Hid (bitsV t (k + 1) = bitsV t k + (if t k = true then 2 ^ k else 0)) := rfl
      cases ht : t k
      · rw [ht] at r0 HS
        go_wp2
        exact ⟨⟨k + 1, by omega, by go_num, by rw [HS.out]; simp, trivial⟩, by simp [intOf]; omega⟩
      · rw [ht] at r0 HS
        go_wp2
        exact ⟨⟨k + 1, by omega, by go_num, by rw [HS.out]; simp, trivial⟩, by simp [intOf]; omega⟩
    · go_wp2
      go_ret
      obtain rfl : k = n := by omega
      exact ⟨rfl, rfl⟩

/-- A node stays what it is where nothing of it is turned. -/
theorem RefNode.keep {w : World} {P Q : Nat} {id : Int} {n : Nat} {t : Nat → Bool} {g b : Int} {fz : Bool} {w' : World} (h : RefNode w P Q id n t g b fz) {P' Q' : Nat} (k : Turns P' Q' w w') (h1 : P ≠ P') (h2 : P ≠ Q') (h3 : Q ≠ P') (h4 : Q ≠ Q') : RefNode w' P Q id n t g b fz :=
  ⟨(k.cell (p := ⟨P, 0, none⟩) h.lp h1 h2).trans h.c0, (k.cell (p := ⟨P, 1, none⟩) h.lp h1 h2).trans h.c1, (k.cell (p := ⟨P, 2, none⟩) h.lp h1 h2).trans h.c2, (k.cell (p := ⟨P, 3, none⟩) h.lp h1 h2).trans h.c3, (k.cell (p := ⟨P, 4, none⟩) h.lp h1 h2).trans h.c4, (k.cell (p := ⟨P, 5, none⟩) h.lp h1 h2).trans h.c5, fun i => (k.frozen (p := ⟨P, i, none⟩) h.lp h1 h2).trans (h.z i), fun j hj => (k.cell (p := ⟨Q, j, none⟩) h.lq h3 h4).trans (h.row j hj), fun j => (k.frozen (p := ⟨Q, j, none⟩) h.lq h3 h4).trans (h.zr j), h.ne, Nat.lt_of_lt_of_le h.lp k.size, Nat.lt_of_lt_of_le h.lq k.size⟩

theorem RefNode.good {w : World} {P Q : Nat} {id : Int} {n : Nat} {t : Nat → Bool} {g b : Int} {fz : Bool} (h : RefNode w P Q id n t g b fz) (g' : Int) : RefNode (w.setCell ⟨P, 3, none⟩ (.int .i64 g')) P Q id n t g' b fz :=
  ⟨(cell_other (.inr (by decide))).trans h.c0, (cell_other (.inr (by decide))).trans h.c1, (cell_other (.inr (by decide))).trans h.c2, cell_set h.c3, (cell_other (.inr (by decide))).trans h.c4, (cell_other (.inr (by decide))).trans h.c5, fun i => soft_set.trans (h.z i), fun j hj => (cell_other (.inl (Ne.symm h.ne))).trans (h.row j hj), fun j => soft_set.trans (h.zr j), h.ne, by simpa using h.lp, by simpa using h.lq⟩
theorem RefNode.bad {w : World} {P Q : Nat} {id : Int} {n : Nat} {t : Nat → Bool} {g b : Int} {fz : Bool} (h : RefNode w P Q id n t g b fz) (b' : Int) : RefNode (w.setCell ⟨P, 4, none⟩ (.int .i64 b')) P Q id n t g b' fz :=
  ⟨(cell_other (.inr (by decide))).trans h.c0, (cell_other (.inr (by decide))).trans h.c1, (cell_other (.inr (by decide))).trans h.c2, (cell_other (.inr (by decide))).trans h.c3, cell_set h.c4, (cell_other (.inr (by decide))).trans h.c5, fun i => soft_set.trans (h.z i), fun j hj => (cell_other (.inl (Ne.symm h.ne))).trans (h.row j hj), fun j => soft_set.trans (h.zr j), h.ne, by simpa using h.lp, by simpa using h.lq⟩
theorem RefNode.freeze {w : World} {P Q : Nat} {id : Int} {n : Nat} {t : Nat → Bool} {g b : Int} {fz : Bool} (h : RefNode w P Q id n t g b fz) (f' : Bool) : RefNode (w.setCell ⟨P, 5, none⟩ (.bool f')) P Q id n t g b f' :=
  ⟨(cell_other (.inr (by decide))).trans h.c0, (cell_other (.inr (by decide))).trans h.c1, (cell_other (.inr (by decide))).trans h.c2, (cell_other (.inr (by decide))).trans h.c3, (cell_other (.inr (by decide))).trans h.c4, cell_set h.c5, fun i => soft_set.trans (h.z i), fun j hj => (cell_other (.inl (Ne.symm h.ne))).trans (h.row j hj), fun j => soft_set.trans (h.zr j), h.ne, by simpa using h.lp, by simpa using h.lq⟩
/-- It takes another one as a member, or no more. -/
theorem RefNode.take {w : World} {P Q : Nat} {id : Int} {n : Nat} {t : Nat → Bool} {g b : Int} {fz : Bool} (h : RefNode w P Q id n t g b fz) (k : Nat) (x : Bool) (hk : k < n) : RefNode (w.setCell ⟨Q, k, none⟩ (.bool x)) P Q id n (fun j => if j = k then x else t j) g b fz :=
  ⟨(cell_other (.inl h.ne)).trans h.c0, (cell_other (.inl h.ne)).trans h.c1, (cell_other (.inl h.ne)).trans h.c2, (cell_other (.inl h.ne)).trans h.c3, (cell_other (.inl h.ne)).trans h.c4, (cell_other (.inl h.ne)).trans h.c5, fun i => soft_set.trans (h.z i), fun j hj => by
    by_cases e : j = k
    · subst e; rw [if_pos rfl]; exact cell_set (h.row j hj)
    · rw [if_neg e]; exact (cell_other (.inr e)).trans (h.row j hj), fun j => soft_set.trans (h.zr j), h.ne, by simpa using h.lp, by simpa using h.lq⟩
theorem RefNode.drawn {w : World} {P Q : Nat} {id : Int} {n : Nat} {t : Nat → Bool} {g b : Int} {fz : Bool} (h : RefNode w P Q id n t g b fz) (q : Nat) : RefNode (w.drewN q) P Q id n t g b fz := ⟨h.c0, h.c1, h.c2, h.c3, h.c4, h.c5, h.z, h.row, h.zr, h.ne, h.lp, h.lq⟩
theorem RefNode.same {w : World} {P Q : Nat} {id : Int} {n : Nat} {t : Nat → Bool} {g b : Int} {fz : Bool} {t' : Nat → Bool} (h : RefNode w P Q id n t g b fz) (e : ∀ j, j < n → t' j = t j) : RefNode w P Q id n t' g b fz := ⟨h.c0, h.c1, h.c2, h.c3, h.c4, h.c5, h.z, fun j hj => by rw [e j hj]; exact h.row j hj, h.zr, h.ne, h.lp, h.lq⟩
end Go.Proofs.YtjppjdocncmkdabDoor
