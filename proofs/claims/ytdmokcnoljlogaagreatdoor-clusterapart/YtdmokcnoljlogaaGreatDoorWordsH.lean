/- A region that draws its order, operation by operation (also where one of them panics): plain forms of the library's steps. -/
import Derived.Test.YtdmokcnoljlogaaGreatDoorProg
import Derived.Deep.RegionHeld3
import Derived.KernelRfl
import Derived.WalkKit
import Derived.Test.YtdmokcnoljlogaaGreatDoorWordsB
import Derived.WalkSpells
import Derived.WalkLawsBesides
import Derived.Deep.QuietTactic
import Derived.BigQuiet
namespace Go.Proofs.YtdmokcnoljlogaaGreatDoor


theorem zA {α : Type} (l : List α) (i : Nat) (a : α) : l.toArray.setIfInBounds i a = (l.set i a).toArray := by simp
theorem zB {α : Type} (x : α) (l : List α) (a : α) : (x :: l).set 0 a = a :: l := rfl
theorem zC {α : Type} (x : α) (l : List α) (n : Nat) (a : α) : (x :: l).set (n + 1) a = x :: l.set n a := rfl
theorem opAt {ops : Array Oper} {i : Nat} {o : Oper} {r : List Oper} (h : ops.toList.drop i = o :: r) : ops[i]? = some o := by
  have := congrArg (fun l => l[0]?) h
  simpa using this
section
variable {P : Program} {ops : Array Oper} {Q : Exit → Act → World → Prop} {md : Region.Mode} {S : World → Prop} {fuel : Nat} {listed : Array Bool}
/-- An operation that only reads is taken first. -/
theorem tk (i : Nat) {v : Value} {a b : Act} {w : World} {oi : Oper} {r : List Oper} (hS : S w) (h : wpAnyH P md ops Q S fuel (listed.setIfInBounds i true) b w) (hi : ops.toList.drop i = oi :: r := by exact rfl) (hs : Region.noSelect ops = true := by kernel_rfl) (hf : Region.free md ops listed i = true := by kernel_rfl) (hr : (Region.ready md ops listed).contains i = true := by kernel_rfl) (hQ : ∀ c a w, Q (.panic c) (a.put oi.dst v) w → Q (.panic c) a w := by exact fun _ _ _ h => h) (hy : YieldsIf P ops S oi v a := by exact Or.inl ⟨by rfl, by (intro w hSw; (try dsimp only at hSw); go_simp <;> with_reducible rfl)⟩) (hb : a.put oi.dst v = b := by (simp only [Act.put, zA, zB, zC]; exact rfl)) : wpAnyH P md ops Q S (fuel + 1) listed a w := wpAnyH_take (opAt hi) hs hf hr hQ hy hS (hb ▸ h)
/-- The one that is ready comes. -/
theorem rdy (i : Nat) {o : Oper} {r : List Oper} {a : Act} {w : World} (h : ∀ K' : Act → World → Prop, Shut (∀ a w, S w → (S w → wpAnyH P md ops Q S fuel (listed.setIfInBounds i true) a w) → K' a w) → if Region.wanted o (yielded ops a.tmps) = true then Oper.wp P o a w K' Q else K' (a.put o.dst undef) w) (ho : ops.toList.drop i = o :: r := by exact rfl) (hr : Region.ready md ops listed = [i] := by kernel_rfl) : wpAnyH P md ops Q S (fuel + 1) listed a w := wpAnyH_ready hr (by simp) (AllReadyH.cons (opAt ho) h AllReadyH.nil)
/-- Either of two that are ready comes. -/
theorem rd2 (i j : Nat) {o p : Oper} {r s : List Oper} {a : Act} {w : World} (h : ∀ K' : Act → World → Prop, Shut (∀ a w, S w → (S w → wpAnyH P md ops Q S fuel (listed.setIfInBounds i true) a w) → K' a w) → if Region.wanted o (yielded ops a.tmps) = true then Oper.wp P o a w K' Q else K' (a.put o.dst undef) w) (k : ∀ K' : Act → World → Prop, Shut (∀ a w, S w → (S w → wpAnyH P md ops Q S fuel (listed.setIfInBounds j true) a w) → K' a w) → if Region.wanted p (yielded ops a.tmps) = true then Oper.wp P p a w K' Q else K' (a.put p.dst undef) w) (ho : ops.toList.drop i = o :: r := by exact rfl) (hp : ops.toList.drop j = p :: s := by exact rfl) (hr : Region.ready md ops listed = [i, j] := by kernel_rfl) : wpAnyH P md ops Q S (fuel + 1) listed a w := wpAnyH_ready hr (by simp) (AllReadyH.cons (opAt ho) h (AllReadyH.cons (opAt hp) k AllReadyH.nil))
/-- Behind it all goes on. -/
theorem kp {K : Act → World → Prop} {a b : Act} {w : World} (hK : Shut (∀ a w, S w → (S w → wpAnyH P md ops Q S fuel listed a w) → K a w)) (h : S w → wpAnyH P md ops Q S fuel listed b w) (hs : S w := by ((try dsimp only); go_keep)) (hb : a = b := by ((try simp only [Act.put, zA, zB, zC]); exact rfl)) : K a w := hK.out _ _ hs (hb ▸ h)
theorem dn {a : Act} {w : World} (h : Q .normal a w) (hr : Region.ready md ops listed = [] := by kernel_rfl) : wpAnyH P md ops Q S fuel listed a w := wpAnyH_done hr h _
end
end Go.Proofs.YtdmokcnoljlogaaGreatDoor

/- A region that draws its order, where a guard is not met: all that the guard passes over is taken at once (over any program). -/
namespace Go.Proofs.YtdmokcnoljlogaaGreatDoor

/-- These operations may come up, one behind the other, and each is passed over. -/
def skipB (md : Region.Mode) (ops : Array Oper) : Array Bool → List (Nat × Tmp) → Array Value → Bool
  | _, [], _ => true
  | listed, (i, d) :: r, t => match ops[i]? with
    | some o => (o.dst == some d) && !Region.wanted o (yielded ops t) && Region.free md ops listed i && (Region.ready md ops listed).contains i && skipB md ops (listed.setIfInBounds i true) r (t.setIfInBounds d undef)
    | none => false
def skipL (listed : Array Bool) (is : List (Nat × Tmp)) : Array Bool := is.foldl (fun l p => l.setIfInBounds p.1 true) listed
def skipA (a : Act) (is : List (Nat × Tmp)) : Act := is.foldl (fun a p => a.put (some p.2) undef) a

theorem wpAnyH_skips {P : Program} {md : Region.Mode} {ops : Array Oper} {Q : Exit → Act → World → Prop} {S : World → Prop} (hs : Region.noSelect ops = true) (hQ : ∀ c a d w, Q (.panic c) (a.put (some d) undef) w → Q (.panic c) a w) {w : World} (hS : S w) {fuel : Nat} :
    ∀ (is : List (Nat × Tmp)) {listed : Array Bool} {a : Act}, skipB md ops listed is a.tmps = true → wpAnyH P md ops Q S fuel (skipL listed is) (skipA a is) w → wpAnyH P md ops Q S (fuel + is.length) listed a w
  | [], _, _, _, h => h
  | (i, d) :: r, listed, a, hb, h => by
    unfold skipB at hb
    split at hb
    · rename_i o ho
      simp only [Bool.and_eq_true, Bool.not_eq_true', beq_iff_eq] at hb
      obtain ⟨⟨⟨⟨h1, h2⟩, h3⟩, h4⟩, h5⟩ := hb
      have ih := wpAnyH_skips hs hQ hS r (listed := listed.setIfInBounds i true) (a := a.put (some d) undef) h5 h
      refine wpAnyH_take (i := i) (oi := o) (v := undef) ho hs h3 h4 (by rw [h1]; exact fun c a w => hQ c a d w) (Or.inr ⟨h2, rfl⟩) hS ?_
      rw [h1]; exact ih
    · cases hb
end Go.Proofs.YtdmokcnoljlogaaGreatDoor

/- The program's small words on numbers: between, all, at, checkSpan (package plan): new memory alone is made. -/
namespace Go.Proofs.YtdmokcnoljlogaaGreatDoor
open Go.RowKit

theorem Tryz.mfp (fn : Fn) (first cap : Array Value) (w : World) : (Instr.makeFunc fn first cap).run Tryz.prog w = .ok (.func fn first cap) w := rfl
/-- What between makes: it tells whether a number is from lo to hi. -/
def btw (b c : Nat) : Value := .func (.func 82) #[] #[.pointer (some ⟨b, 0, none⟩), .pointer (some ⟨c, 0, none⟩)]
def Btw (w : World) (fv : Value) (lo hi : Int) : Prop :=
  ∃ b c : Nat, fv = btw b c ∧ w.cell? ⟨b, 0, none⟩ = some (.int .i64 lo) ∧ w.cell? ⟨c, 0, none⟩ = some (.int .i64 hi)
theorem Btw.below {w w' : World} {fv : Value} {lo hi : Int} (h : Btw w fv lo hi) (hb : Below w.heap.size w w') : Btw w' fv lo hi := by
  obtain ⟨b, c, e, h1, h2⟩ := h
  exact ⟨b, c, e, keep_cell h1 hb, keep_cell h2 hb⟩

set_option maxHeartbeats 1000000 in
theorem between_any (lo hi : Int) (w : World) : Calls Tryz.prog 61 #[.int .i64 lo, .int .i64 hi] w fun e w' => ∃ fv, e = .returned fv ∧ Btw w' fv lo hi ∧ Below w.heap.size w w' := by
  have hmf := Tryz.mfp
  go_enter Tryz.func61, Tryz.ntmps61
  go_wp2
  go_ret
  refine ⟨_, rfl, ⟨w.heap.size, w.heap.size + 1, rfl, by simp, by simp⟩, ?_⟩
  repeat (refine Below.alloc ?_ (by simp; try omega) _)
  exact Below.refl _ _

set_option maxHeartbeats 2000000 in
theorem all_any (fv : Value) (lo hi : Int) (b n cap : Nat) (f : Nat → Int) (R : Bool) (w : World) (hn : n ≤ 1000) (hB : Btw w fv lo hi) (hc : ∀ j, j < n → w.cell? ⟨b, j, none⟩ = some (.int .i64 (f j))) (hb : b < w.heap.size)
    (hR : R = true ↔ ∀ j, j < n → lo ≤ f j ∧ f j ≤ hi) :
    Calls Tryz.prog 60 #[fv, .slice (some ⟨b, 0, none⟩) n cap] w fun e w' => e = .returned (.bool R) ∧ Below w.heap.size w w' := by
  obtain ⟨c1, c2, rfl, h1, h2⟩ := hB
  unfold btw
  have l1 : c1 < w.heap.size := lt_of_cell h1
  have l2 : c2 < w.heap.size := lt_of_cell h2
  have HC : Hid (∀ j, j < n → w.cell? ⟨b, j, none⟩ = some (.int .i64 (f j))) := hc
  have HR : Hid (R = true ↔ ∀ j, j < n → lo ≤ f j ∧ f j ≤ hi) := hR
  clear hc hR
  go_enter Tryz.func60, Tryz.ntmps60
  go_wp2
  go_loopw [9] (fun t wr => ∃ k : Nat, k ≤ n ∧ t = .int .i64 k ∧ Hid (∀ j, j < k → lo ≤ f j ∧ f j ≤ hi) ∧ Below w.heap.size w wr) (fun t _ => n - (intOf t).toNat)
  case atStart => exact ⟨0, Nat.zero_le _, rfl, fun j hj => absurd hj (Nat.not_lt_zero _), Below.refl _ _⟩
  case round =>
    obtain ⟨k, hk, rfl, h0, hbe⟩ := hrel
    by_cases hlt : k < n
    · have y0 := (hbe.cell (p := ⟨b, k, none⟩) hb).trans (HC.out k hlt)
      have y1 := (hbe.cell (p := ⟨c1, 0, none⟩) l1).trans h1
      have y2 := (hbe.cell (p := ⟨c2, 0, none⟩) l2).trans h2
      have hz : b < wr.heap.size := Nat.lt_of_lt_of_le hb hbe.size
      by_cases g1 : lo ≤ f k
      · by_cases g2 : f k ≤ hi
        · go_wp2
          refine ⟨⟨k + 1, by omega, by go_num, fun j hj => ?_, hbe⟩, ?_⟩
          · rcases Nat.lt_succ_iff_lt_or_eq.1 hj with q | q
            · exact h0.out j q
            · subst q; exact ⟨g1, g2⟩
          · simp [intOf]; omega
        · have g2' : decide (f k ≤ hi) = false := decide_eq_false g2
          have hRf : R = false := by
            cases R with
            | false => rfl
            | true => exact absurd ((HR.out.1 rfl) k hlt).2 g2
          go_wp2
          go_ret
          exact ⟨rfl, hbe⟩
      · have g1' : decide (lo ≤ f k) = false := decide_eq_false g1
        have hRf : R = false := by
          cases R with
          | false => rfl
          | true => exact absurd ((HR.out.1 rfl) k hlt).1 g1
        go_wp2
        go_ret
        exact ⟨rfl, hbe⟩
    · have hRt : R = true := HR.out.2 (fun j hj => h0.out j (by omega))
      go_wp2
      go_ret
      exact ⟨by rw [hRt]; rfl, hbe⟩

theorem all_1 (fv : Value) (lo hi x : Int) (b cap : Nat) (w : World) (hB : Btw w fv lo hi) (h0 : w.cell? ⟨b, 0, none⟩ = some (.int .i64 x)) :
    Calls Tryz.prog 60 #[fv, .slice (some ⟨b, 0, none⟩) 1 cap] w fun e w' => e = .returned (.bool (decide (lo ≤ x ∧ x ≤ hi))) ∧ Below w.heap.size w w' :=
  all_any fv lo hi b 1 cap (fun _ => x) _ w (by omega) hB (fun j hj => by
    have : j = 0 := by omega
    rw [this]; exact h0) (lt_of_cell h0) (by
    rw [decide_eq_true_iff]
    exact ⟨fun h _ _ => h, fun h => h 0 (by omega)⟩)
theorem all_2 (fv : Value) (lo hi x y : Int) (b cap : Nat) (w : World) (hB : Btw w fv lo hi) (h0 : w.cell? ⟨b, 0, none⟩ = some (.int .i64 x)) (h1 : w.cell? ⟨b, 1, none⟩ = some (.int .i64 y)) :
    Calls Tryz.prog 60 #[fv, .slice (some ⟨b, 0, none⟩) 2 cap] w fun e w' => e = .returned (.bool (decide ((lo ≤ x ∧ x ≤ hi) ∧ lo ≤ y ∧ y ≤ hi))) ∧ Below w.heap.size w w' :=
  all_any fv lo hi b 2 cap (fun j => if j = 0 then x else y) _ w (by omega) hB (fun j hj => by
    have : j = 0 ∨ j = 1 := by omega
    rcases this with rfl | rfl
    · exact h0
    · exact h1) (lt_of_cell h0) (by
    rw [decide_eq_true_iff]
    constructor
    · intro h j hj
      have : j = 0 ∨ j = 1 := by omega
      rcases this with rfl | rfl
      · exact h.1
      · exact h.2
    · intro h
      exact ⟨h 0 (by omega), h 1 (by omega)⟩)
theorem all_3 (fv : Value) (lo hi x y z : Int) (b cap : Nat) (w : World) (hB : Btw w fv lo hi) (h0 : w.cell? ⟨b, 0, none⟩ = some (.int .i64 x)) (h1 : w.cell? ⟨b, 1, none⟩ = some (.int .i64 y)) (h2 : w.cell? ⟨b, 2, none⟩ = some (.int .i64 z)) :
    Calls Tryz.prog 60 #[fv, .slice (some ⟨b, 0, none⟩) 3 cap] w fun e w' => e = .returned (.bool (decide ((lo ≤ x ∧ x ≤ hi) ∧ (lo ≤ y ∧ y ≤ hi) ∧ lo ≤ z ∧ z ≤ hi))) ∧ Below w.heap.size w w' :=
  all_any fv lo hi b 3 cap (fun j => if j = 0 then x else if j = 1 then y else z) _ w (by omega) hB (fun j hj => by
    have : j = 0 ∨ j = 1 ∨ j = 2 := by omega
    rcases this with rfl | rfl | rfl
    · exact h0
    · exact h1
    · exact h2) (lt_of_cell h0) (by
    rw [decide_eq_true_iff]
    constructor
    · intro h j hj
      have : j = 0 ∨ j = 1 ∨ j = 2 := by omega
      rcases this with rfl | rfl | rfl
      · exact h.1
      · exact h.2.1
      · exact h.2.2
    · intro h
      exact ⟨h 0 (by omega), h 1 (by omega), h 2 (by omega)⟩)

set_option maxHeartbeats 1000000 in
theorem at_none (p : Int) (w : World) : Calls Tryz.prog 63 #[.int .i64 0, .int .i64 p] w fun ev w' => ev = .returned .nilIface ∧ Below w.heap.size w w' := by
  go_enter Tryz.func63, Tryz.ntmps63
  go_wp2
  go_ret
  exact ⟨rfl, Below.refl _ _⟩

set_option maxHeartbeats 1000000 in
theorem at_some (e p : Int) (he : e ≠ 0) (w : World) : Calls Tryz.prog 63 #[.int .i64 e, .int .i64 p] w fun ev w' => ∃ b, ev = .returned (.iface 150 (.pointer (some ⟨b, 0, none⟩))) ∧ w'.cell? ⟨b, 0, none⟩ = some (.int .i64 e) ∧ w'.cell? ⟨b, 1, none⟩ = some (.int .i64 p) ∧ Below w.heap.size w w' := by
  have h1 : (e == 0) = false := by simpa using he
  clear he
  go_enter Tryz.func63, Tryz.ntmps63
  go_wp2
  go_ret
  refine ⟨_, rfl, by simp, by simp, ?_⟩
  repeat (first | refine Below.setCell ?_ (by first | omega | (simp; omega) | simp) _ | refine Below.alloc ?_ (by first | omega | (simp; omega) | simp) _)
  exact Below.refl _ _

/-- What is wrong with a span. -/
def spanErr (fr tq least most : Int) : Int := if tq ≤ fr then 1 else if fr < least then 10 else if most < tq then 2 else 0

set_option maxHeartbeats 1000000 in
theorem checkSpan_any (fr tq least most : Int) (w : World) : Calls Tryz.prog 62 #[.agg #[.int .i64 fr, .int .i64 tq], .int .i64 least, .int .i64 most] w fun ev w' => ev = .returned (.int .i64 (spanErr fr tq least most)) ∧ Below w.heap.size w w' := by
  unfold spanErr
  by_cases g1 : tq ≤ fr
  · rw [if_pos g1]
    go_enter Tryz.func62, Tryz.ntmps62
    go_wp2
    go_ret
    exact ⟨rfl, (Below.refl _ _).alloc (Nat.le_refl _) _⟩
  · rw [if_neg g1]
    have g1' : decide (tq ≤ fr) = false := decide_eq_false g1
    by_cases g2 : fr < least
    · rw [if_pos g2]
      go_enter Tryz.func62, Tryz.ntmps62
      go_wp2
      go_ret
      exact ⟨rfl, (Below.refl _ _).alloc (Nat.le_refl _) _⟩
    · rw [if_neg g2]
      have g2' : decide (fr < least) = false := decide_eq_false g2
      by_cases g3 : most < tq
      · rw [if_pos g3]
        go_enter Tryz.func62, Tryz.ntmps62
        go_wp2
        go_ret
        exact ⟨rfl, (Below.refl _ _).alloc (Nat.le_refl _) _⟩
      · rw [if_neg g3]
        have g3' : decide (most < tq) = false := decide_eq_false g3
        go_enter Tryz.func62, Tryz.ntmps62
        go_wp2
        go_ret
        exact ⟨rfl, (Below.refl _ _).alloc (Nat.le_refl _) _⟩
end Go.Proofs.YtdmokcnoljlogaaGreatDoor

/- Small words for walks over package plan: what new memory leaves as it was. -/
namespace Go.Proofs.YtdmokcnoljlogaaGreatDoor
open Go.RowKit

theorem undrewP {V u : World} (h : Below V.drew.heap.size V.drew u) : Below V.heap.size V u := ⟨h.os, h.tape, h.output, h.size, h.block⟩
theorem stepB {V u u' : World} (hW : Below V.heap.size V u) (h : Below u.heap.size u u') : Below V.heap.size V u' := hW.trans (h.mono hW.size)
theorem stepD {V u u' : World} (hW : Below V.heap.size V u) (h : Below u.drew.heap.size u.drew u') : Below V.heap.size V u' := stepB hW (undrewP h)
theorem stepA {V u u' : World} {o : Obj} (hW : Below V.heap.size V u) (h : Below (u.alloc o).heap.size (u.alloc o) u') : Below V.heap.size V u' := stepB (hW.alloc hW.size _) h

theorem stepDA {V u u' : World} {o : Obj} (hW : Below V.heap.size V u) (h : Below (u.drew.alloc o).heap.size (u.drew.alloc o) u') : Below V.heap.size V u' := stepB (hW.alloc hW.size o) ⟨h.os, h.tape, h.output, h.size, h.block⟩
/-- A plan's ten cells. -/
def Cells10 (b : Nat) (nodes faulty skew jitter drift round frame : Int) (sa la wa : Option Addr) (ns sc nl lc nw wc : Nat) (u : World) : Prop :=
  u.cell? ⟨b, 0, none⟩ = some (.int .i64 nodes) ∧ u.cell? ⟨b, 1, none⟩ = some (.int .i64 faulty) ∧ u.cell? ⟨b, 2, none⟩ = some (.int .i64 skew) ∧ u.cell? ⟨b, 3, none⟩ = some (.int .i64 jitter) ∧ u.cell? ⟨b, 4, none⟩ = some (.int .i64 drift) ∧ u.cell? ⟨b, 5, none⟩ = some (.int .i64 round) ∧ u.cell? ⟨b, 6, none⟩ = some (.slice sa ns sc) ∧ u.cell? ⟨b, 7, none⟩ = some (.slice la nl lc) ∧ u.cell? ⟨b, 8, none⟩ = some (.int .i64 frame) ∧ u.cell? ⟨b, 9, none⟩ = some (.slice wa nw wc)
theorem Cells10.below {b : Nat} {nodes faulty skew jitter drift round frame : Int} {sa la wa : Option Addr} {ns sc nl lc nw wc : Nat} {u u' : World} (h : Cells10 b nodes faulty skew jitter drift round frame sa la wa ns sc nl lc nw wc u) (hb : Below u.heap.size u u') : Cells10 b nodes faulty skew jitter drift round frame sa la wa ns sc nl lc nw wc u' := by
  obtain ⟨h0, h1, h2, h3, h4, h5, h6, h7, h8, h9⟩ := h
  exact ⟨keep_cell h0 hb, keep_cell h1 hb, keep_cell h2 hb, keep_cell h3 hb, keep_cell h4 hb, keep_cell h5 hb, keep_cell h6 hb, keep_cell h7 hb, keep_cell h8 hb, keep_cell h9 hb⟩
theorem box10 (nodes faulty skew jitter drift round frame : Int) (sa la wa : Option Addr) (ns sc nl lc nw wc : Nat) (w : World) (t : TypeId) :
    Cells10 w.heap.size nodes faulty skew jitter drift round frame sa la wa ns sc nl lc nw wc (w.alloc (.cells #[.int .i64 nodes, .int .i64 faulty, .int .i64 skew, .int .i64 jitter, .int .i64 drift, .int .i64 round, .slice sa ns sc, .slice la nl lc, .int .i64 frame, .slice wa nw wc] t)) ∧ Below w.heap.size w (w.alloc (.cells #[.int .i64 nodes, .int .i64 faulty, .int .i64 skew, .int .i64 jitter, .int .i64 drift, .int .i64 round, .slice sa ns sc, .slice la nl lc, .int .i64 frame, .slice wa nw wc] t)) :=
  ⟨⟨by simp, by simp, by simp, by simp, by simp, by simp, by simp, by simp, by simp, by simp⟩, (Below.refl _ _).alloc (Nat.le_refl _) _⟩

/-- All of some numbers may be, or not. -/
theorem all_1b (R : Bool) (fv : Value) (lo hi x : Int) (b cap : Nat) (w : World) (hB : Btw w fv lo hi) (h0 : w.cell? ⟨b, 0, none⟩ = some (.int .i64 x)) (hR : decide (lo ≤ x ∧ x ≤ hi) = R) :
    Calls Tryz.prog 60 #[fv, .slice (some ⟨b, 0, none⟩) 1 cap] w fun e w' => e = .returned (.bool R) ∧ Below w.heap.size w w' := hR ▸ all_1 fv lo hi x b cap w hB h0
theorem all_2b (R : Bool) (fv : Value) (lo hi x y : Int) (b cap : Nat) (w : World) (hB : Btw w fv lo hi) (h0 : w.cell? ⟨b, 0, none⟩ = some (.int .i64 x)) (h1 : w.cell? ⟨b, 1, none⟩ = some (.int .i64 y)) (hR : decide ((lo ≤ x ∧ x ≤ hi) ∧ lo ≤ y ∧ y ≤ hi) = R) :
    Calls Tryz.prog 60 #[fv, .slice (some ⟨b, 0, none⟩) 2 cap] w fun e w' => e = .returned (.bool R) ∧ Below w.heap.size w w' := hR ▸ all_2 fv lo hi x y b cap w hB h0 h1
theorem all_3b (R : Bool) (fv : Value) (lo hi x y z : Int) (b cap : Nat) (w : World) (hB : Btw w fv lo hi) (h0 : w.cell? ⟨b, 0, none⟩ = some (.int .i64 x)) (h1 : w.cell? ⟨b, 1, none⟩ = some (.int .i64 y)) (h2 : w.cell? ⟨b, 2, none⟩ = some (.int .i64 z)) (hR : decide ((lo ≤ x ∧ x ≤ hi) ∧ (lo ≤ y ∧ y ≤ hi) ∧ lo ≤ z ∧ z ≤ hi) = R) :
    Calls Tryz.prog 60 #[fv, .slice (some ⟨b, 0, none⟩) 3 cap] w fun e w' => e = .returned (.bool R) ∧ Below w.heap.size w w' := hR ▸ all_3 fv lo hi x y z b cap w hB h0 h1 h2
theorem Btw.alloc {w : World} {fv : Value} {lo hi : Int} (h : Btw w fv lo hi) (o : Obj) : Btw (w.alloc o) fv lo hi := h.below ((Below.refl _ _).alloc (Nat.le_refl _) _)

theorem wrap_smallP (n : Int) (h0 : 0 ≤ n) (h : n ≤ 1000000) : IntKind.i64.wrap n = n := by
  simp [IntKind.wrap, IntKind.bits, IntKind.signed]
  omega
theorem pow_smallP (n : Nat) (h : n ≤ 15) : 1 ≤ (2 : Int) ^ n ∧ (2 : Int) ^ n ≤ 32768 := by
  have : n = 0 ∨ n = 1 ∨ n = 2 ∨ n = 3 ∨ n = 4 ∨ n = 5 ∨ n = 6 ∨ n = 7 ∨ n = 8 ∨ n = 9 ∨ n = 10 ∨ n = 11 ∨ n = 12 ∨ n = 13 ∨ n = 14 ∨ n = 15 := by omega
  rcases this with rfl | rfl | rfl | rfl | rfl | rfl | rfl | rfl | rfl | rfl | rfl | rfl | rfl | rfl | rfl | rfl <;> decide
end Go.Proofs.YtdmokcnoljlogaaGreatDoor
