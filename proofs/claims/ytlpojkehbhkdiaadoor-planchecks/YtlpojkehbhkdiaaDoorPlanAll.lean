/- The program's small words on numbers: between, all, at, checkSpan (package plan): new memory alone is made. -/
import Derived.Test.YtlpojkehbhkdiaaDoorProg
import Derived.Test.YtlpojkehbhkdiaaDoorErrIs
import Derived.WalkKit
import Derived.WalkSpells
import Derived.WalkLawsBesides
import Derived.Deep.QuietTactic
import Derived.BigQuiet
namespace Go.Proofs.YtlpojkehbhkdiaaDoor
open Go.RowKit

theorem Tryd.mfp (fn : Fn) (first cap : Array Value) (w : World) : (Instr.makeFunc fn first cap).run Tryd.prog w = .ok (.func fn first cap) w := rfl
/-- What between makes: it tells whether a number is from lo to hi. -/
def btw (b c : Nat) : Value := .func (.func 43) #[] #[.pointer (some ⟨b, 0, none⟩), .pointer (some ⟨c, 0, none⟩)]
def Btw (w : World) (fv : Value) (lo hi : Int) : Prop :=
  ∃ b c : Nat, fv = btw b c ∧ w.cell? ⟨b, 0, none⟩ = some (.int .i64 lo) ∧ w.cell? ⟨c, 0, none⟩ = some (.int .i64 hi)
theorem Btw.below {w w' : World} {fv : Value} {lo hi : Int} (h : Btw w fv lo hi) (hb : Below w.heap.size w w') : Btw w' fv lo hi := by
  obtain ⟨b, c, e, h1, h2⟩ := h
  exact ⟨b, c, e, keep_cell h1 hb, keep_cell h2 hb⟩

set_option maxHeartbeats 1000000 in
theorem between_any (lo hi : Int) (w : World) : Calls Tryd.prog 31 #[.int .i64 lo, .int .i64 hi] w fun e w' => ∃ fv, e = .returned fv ∧ Btw w' fv lo hi ∧ Below w.heap.size w w' := by
  have hmf := Tryd.mfp
  go_enter Tryd.func31, Tryd.ntmps31
  go_wp2
  go_ret
  refine ⟨_, rfl, ⟨w.heap.size, w.heap.size + 1, rfl, by simp, by simp⟩, ?_⟩
  repeat (refine Below.alloc ?_ (by simp; try omega) _)
  exact Below.refl _ _

set_option maxHeartbeats 2000000 in
theorem all_any (fv : Value) (lo hi : Int) (b n cap : Nat) (f : Nat → Int) (R : Bool) (w : World) (hn : n ≤ 1000) (hB : Btw w fv lo hi) (hc : ∀ j, j < n → w.cell? ⟨b, j, none⟩ = some (.int .i64 (f j))) (hb : b < w.heap.size)
    (hR : R = true ↔ ∀ j, j < n → lo ≤ f j ∧ f j ≤ hi) :
    Calls Tryd.prog 30 #[fv, .slice (some ⟨b, 0, none⟩) n cap] w fun e w' => e = .returned (.bool R) ∧ Below w.heap.size w w' := by
  obtain ⟨c1, c2, rfl, h1, h2⟩ := hB
  unfold btw
  have l1 : c1 < w.heap.size := lt_of_cell h1
  have l2 : c2 < w.heap.size := lt_of_cell h2
  have HC : Hid (∀ j, j < n → w.cell? ⟨b, j, none⟩ = some (.int .i64 (f j))) := hc
  have HR : Hid (R = true ↔ ∀ j, j < n → lo ≤ f j ∧ f j ≤ hi) := hR
  clear hc hR
  go_enter Tryd.func30, Tryd.ntmps30
  go_wp2
  go_loopw [9] (fun t wr => ∃ k : Nat, k ≤ n ∧ t = .int .i64 k ∧ Hid (∀ j, j < k → lo ≤ f j ∧ f j ≤ hi) ∧ Below w.heap.size w wr) (fun t _ => n - (intOf t).toNat)
  case atStart => exact ⟨0, Nat.zero_le _, rfl, fun j hj => absurd hj (Nat.not_lt_zero _), Below.refl _ _⟩
  case round =>
    obtain ⟨k, hk, rfl, h0, hbe⟩ := hrel
    by_cases hlt : k < n
    · have y0 := (hbe.cell (p := ⟨b, k, none⟩) hb).trans (HC.out k hlt)
      have y1 := (hbe.cell (p := ⟨c1, 0, none⟩) l1).trans h1
      have y2 := (hbe.cell (p := ⟨c2, 0, none⟩) l2).trans h2
      have hz : b < wr.heap.size := Nat.lt_of_lt_of_le hb hbe.size
      by_cases g1 : lo ≤ f k
      · by_cases g2 : f k ≤ hi
        · go_wp2
          refine ⟨⟨k + 1, by omega, by go_num, fun j hj => ?_, hbe⟩, ?_⟩
          · rcases Nat.lt_succ_iff_lt_or_eq.1 hj with q | q
            · exact h0.out j q
            · subst q; exact ⟨g1, g2⟩
          · simp [intOf]; omega
        · have g2' : decide (f k ≤ hi) = false := decide_eq_false g2
          have hRf : R = false := by
            cases R with
            | false => rfl
            | true => exact absurd ((HR.out.1 rfl) k hlt).2 g2
          go_wp2
          go_ret
          exact ⟨rfl, hbe⟩
      · have g1' : decide (lo ≤ f k) = false := decide_eq_false g1
        have hRf : R = false := by
          cases R with
          | false => rfl
          | true => exact absurd ((HR.out.1 rfl) k hlt).1 g1
        go_wp2
        go_ret
        exact ⟨rfl, hbe⟩
    · have hRt : R = true := HR.out.2 (fun j hj => h0.out j (by omega))
      go_wp2
      go_ret
      exact ⟨by rw [hRt]; rfl, hbe⟩

theorem all_1 (fv : Value) (lo hi x : Int) (b cap : Nat) (w : World) (hB : Btw w fv lo hi) (h0 : w.cell? ⟨b, 0, none⟩ = some (.int .i64 x)) :
    Calls Tryd.prog 30 #[fv, .slice (some ⟨b, 0, none⟩) 1 cap] w fun e w' => e = .returned (.bool (decide (lo ≤ x ∧ x ≤ hi))) ∧ Below w.heap.size w w' :=
  all_any fv lo hi b 1 cap (fun _ => x) _ w (by omega) hB (fun j hj => by
    have : j = 0 := by omega
    rw [this]; exact h0) (lt_of_cell h0) (by
    rw [decide_eq_true_iff]
    exact ⟨fun h _ _ => h, fun h => h 0 (by omega)⟩)
theorem all_2 (fv : Value) (lo hi x y : Int) (b cap : Nat) (w : World) (hB : Btw w fv lo hi) (h0 : w.cell? ⟨b, 0, none⟩ = some (.int .i64 x)) (h1 : w.cell? ⟨b, 1, none⟩ = some (.int .i64 y)) :
    Calls Tryd.prog 30 #[fv, .slice (some ⟨b, 0, none⟩) 2 cap] w fun e w' => e = .returned (.bool (decide ((lo ≤ x ∧ x ≤ hi) ∧ lo ≤ y ∧ y ≤ hi))) ∧ Below w.heap.size w w' :=
  all_any fv lo hi b 2 cap (fun j => if j = 0 then x else y) _ w (by omega) hB (fun j hj => by
    have : j = 0 ∨ j = 1 := by omega
    rcases this with rfl | rfl
    · exact h0
    · exact h1) (lt_of_cell h0) (by
    rw [decide_eq_true_iff]
    constructor
    · intro h j hj
      have : j = 0 ∨ j = 1 := by omega
      rcases this with rfl | rfl
      · exact h.1
      · exact h.2
    · intro h
      exact ⟨h 0 (by omega), h 1 (by omega)⟩)
theorem all_3 (fv : Value) (lo hi x y z : Int) (b cap : Nat) (w : World) (hB : Btw w fv lo hi) (h0 : w.cell? ⟨b, 0, none⟩ = some (.int .i64 x)) (h1 : w.cell? ⟨b, 1, none⟩ = some (.int .i64 y)) (h2 : w.cell? ⟨b, 2, none⟩ = some (.int .i64 z)) :
    Calls Tryd.prog 30 #[fv, .slice (some ⟨b, 0, none⟩) 3 cap] w fun e w' => e = .returned (.bool (decide ((lo ≤ x ∧ x ≤ hi) ∧ (lo ≤ y ∧ y ≤ hi) ∧ lo ≤ z ∧ z ≤ hi))) ∧ Below w.heap.size w w' :=
  all_any fv lo hi b 3 cap (fun j => if j = 0 then x else if j = 1 then y else z) _ w (by omega) hB (fun j hj => by
    have : j = 0 ∨ j = 1 ∨ j = 2 := by omega
    rcases this with rfl | rfl | rfl
    · exact h0
    · exact h1
    · exact h2) (lt_of_cell h0) (by
    rw [decide_eq_true_iff]
    constructor
    · intro h j hj
      have : j = 0 ∨ j = 1 ∨ j = 2 := by omega
      rcases this with rfl | rfl | rfl
      · exact h.1
      · exact h.2.1
      · exact h.2.2
    · intro h
      exact ⟨h 0 (by omega), h 1 (by omega), h 2 (by omega)⟩)

set_option maxHeartbeats 1000000 in
theorem at_none (p : Int) (w : World) : Calls Tryd.prog 33 #[.int .i64 0, .int .i64 p] w fun ev w' => ev = .returned .nilIface ∧ Below w.heap.size w w' := by
  go_enter Tryd.func33, Tryd.ntmps33
  go_wp2
  go_ret
  exact ⟨rfl, Below.refl _ _⟩

set_option maxHeartbeats 1000000 in
theorem at_some (e p : Int) (he : e ≠ 0) (w : World) : Calls Tryd.prog 33 #[.int .i64 e, .int .i64 p] w fun ev w' => ∃ b, ev = .returned (.iface 73 (.pointer (some ⟨b, 0, none⟩))) ∧ w'.cell? ⟨b, 0, none⟩ = some (.int .i64 e) ∧ w'.cell? ⟨b, 1, none⟩ = some (.int .i64 p) ∧ Below w.heap.size w w' := by
  have h1 : (e == 0) = false := by simpa using he
  clear he
  go_enter Tryd.func33, Tryd.ntmps33
  go_wp2
  go_ret
  refine ⟨_, rfl, by simp, by simp, ?_⟩
  repeat (first | refine Below.setCell ?_ (by first | omega | (simp; omega) | simp) _ | refine Below.alloc ?_ (by first | omega | (simp; omega) | simp) _)
  exact Below.refl _ _

/-- What is wrong with a span. -/
def spanErr (fr tq least most : Int) : Int := if tq ≤ fr then 1 else if fr < least then 10 else if most < tq then 2 else 0

set_option maxHeartbeats 1000000 in
theorem checkSpan_any (fr tq least most : Int) (w : World) : Calls Tryd.prog 32 #[.agg #[.int .i64 fr, .int .i64 tq], .int .i64 least, .int .i64 most] w fun ev w' => ev = .returned (.int .i64 (spanErr fr tq least most)) ∧ Below w.heap.size w w' := by
  unfold spanErr
  by_cases g1 : tq ≤ fr
  · rw [if_pos g1]
    go_enter Tryd.func32, Tryd.ntmps32
    go_wp2
    go_ret
    exact ⟨rfl, (Below.refl _ _).alloc (Nat.le_refl _) _⟩
  · rw [if_neg g1]
    have g1' : decide (tq ≤ fr) = false := decide_eq_false g1
    by_cases g2 : fr < least
    · rw [if_pos g2]
      go_enter Tryd.func32, Tryd.ntmps32
      go_wp2
      go_ret
      exact ⟨rfl, (Below.refl _ _).alloc (Nat.le_refl _) _⟩
    · rw [if_neg g2]
      have g2' : decide (fr < least) = false := decide_eq_false g2
      by_cases g3 : most < tq
      · rw [if_pos g3]
        go_enter Tryd.func32, Tryd.ntmps32
        go_wp2
        go_ret
        exact ⟨rfl, (Below.refl _ _).alloc (Nat.le_refl _) _⟩
      · rw [if_neg g3]
        have g3' : decide (most < tq) = false := decide_eq_false g3
        go_enter Tryd.func32, Tryd.ntmps32
        go_wp2
        go_ret
        exact ⟨rfl, (Below.refl _ _).alloc (Nat.le_refl _) _⟩
end Go.Proofs.YtlpojkehbhkdiaaDoor
