/- The program's Meet, whatever it is asked; new memory alone is made. -/
import Derived.Test.YtlpojkehbhkdiaaProg
import Derived.Test.YtlpojkehbhkdiaaComWords
import Derived.WalkKit
import Derived.WalkSpells
import Derived.WalkLawsBesides
import Derived.Below
namespace Go.Proofs.Ytlpojkehbhkdiaa
open Go.RowKit

set_option maxHeartbeats 1000000 in
theorem meet1 (p q r s : Int) (w : World) (hf : p < r) (ht : s < q) (he : r < s) :
    Calls Try.prog 13 #[.agg #[.int .i64 p, .int .i64 q], .agg #[.int .i64 r, .int .i64 s]] w fun e w' => e = .returned (.bool true) ∧ Below w.heap.size w w' := by
  go_enter Try.func13, Try.ntmps13
  go_wp2
  go_ret
  refine ⟨rfl, ?_⟩
  repeat (first | refine Below.setCell ?_ (by first | omega | (simp; omega) | simp) _ | refine Below.alloc ?_ (by first | omega | (simp; omega) | simp) _)
  exact Below.refl _ _

set_option maxHeartbeats 1000000 in
theorem meet2 (p q r s : Int) (w : World) (hf : p < r) (ht : s < q) (he : s ≤ r) :
    Calls Try.prog 13 #[.agg #[.int .i64 p, .int .i64 q], .agg #[.int .i64 r, .int .i64 s]] w fun e w' => e = .returned (.bool false) ∧ Below w.heap.size w w' := by
  have hn : decide (r < s) = false := decide_eq_false (by omega)
  go_enter Try.func13, Try.ntmps13
  go_wp2
  go_ret
  refine ⟨rfl, ?_⟩
  repeat (first | refine Below.setCell ?_ (by first | omega | (simp; omega) | simp) _ | refine Below.alloc ?_ (by first | omega | (simp; omega) | simp) _)
  exact Below.refl _ _

set_option maxHeartbeats 1000000 in
theorem meet3 (p q r s : Int) (w : World) (hf : p < r) (ht : q < s) (he : r < q) :
    Calls Try.prog 13 #[.agg #[.int .i64 p, .int .i64 q], .agg #[.int .i64 r, .int .i64 s]] w fun e w' => e = .returned (.bool true) ∧ Below w.heap.size w w' := by
  go_enter Try.func13, Try.ntmps13
  go_wp2
  go_ret
  refine ⟨rfl, ?_⟩
  repeat (first | refine Below.setCell ?_ (by first | omega | (simp; omega) | simp) _ | refine Below.alloc ?_ (by first | omega | (simp; omega) | simp) _)
  exact Below.refl _ _

set_option maxHeartbeats 1000000 in
theorem meet4 (p q r s : Int) (w : World) (hf : p < r) (ht : q < s) (he : q ≤ r) :
    Calls Try.prog 13 #[.agg #[.int .i64 p, .int .i64 q], .agg #[.int .i64 r, .int .i64 s]] w fun e w' => e = .returned (.bool false) ∧ Below w.heap.size w w' := by
  have hn : decide (r < q) = false := decide_eq_false (by omega)
  go_enter Try.func13, Try.ntmps13
  go_wp2
  go_ret
  refine ⟨rfl, ?_⟩
  repeat (first | refine Below.setCell ?_ (by first | omega | (simp; omega) | simp) _ | refine Below.alloc ?_ (by first | omega | (simp; omega) | simp) _)
  exact Below.refl _ _

set_option maxHeartbeats 1000000 in
theorem meet5 (p q r : Int) (w : World) (hf : p < r) (he : r < q) :
    Calls Try.prog 13 #[.agg #[.int .i64 p, .int .i64 q], .agg #[.int .i64 r, .int .i64 q]] w fun e w' => e = .returned (.bool true) ∧ Below w.heap.size w w' := by
  go_enter Try.func13, Try.ntmps13
  go_wp2
  go_ret
  refine ⟨rfl, ?_⟩
  repeat (first | refine Below.setCell ?_ (by first | omega | (simp; omega) | simp) _ | refine Below.alloc ?_ (by first | omega | (simp; omega) | simp) _)
  exact Below.refl _ _

set_option maxHeartbeats 1000000 in
theorem meet6 (p q r : Int) (w : World) (hf : p < r) (he : q ≤ r) :
    Calls Try.prog 13 #[.agg #[.int .i64 p, .int .i64 q], .agg #[.int .i64 r, .int .i64 q]] w fun e w' => e = .returned (.bool false) ∧ Below w.heap.size w w' := by
  have hn : decide (r < q) = false := decide_eq_false (by omega)
  go_enter Try.func13, Try.ntmps13
  go_wp2
  go_ret
  refine ⟨rfl, ?_⟩
  repeat (first | refine Below.setCell ?_ (by first | omega | (simp; omega) | simp) _ | refine Below.alloc ?_ (by first | omega | (simp; omega) | simp) _)
  exact Below.refl _ _

set_option maxHeartbeats 1000000 in
theorem meet7 (p q r s : Int) (w : World) (hf : r < p) (ht : s < q) (he : p < s) :
    Calls Try.prog 13 #[.agg #[.int .i64 p, .int .i64 q], .agg #[.int .i64 r, .int .i64 s]] w fun e w' => e = .returned (.bool true) ∧ Below w.heap.size w w' := by
  go_enter Try.func13, Try.ntmps13
  go_wp2
  go_ret
  refine ⟨rfl, ?_⟩
  repeat (first | refine Below.setCell ?_ (by first | omega | (simp; omega) | simp) _ | refine Below.alloc ?_ (by first | omega | (simp; omega) | simp) _)
  exact Below.refl _ _

set_option maxHeartbeats 1000000 in
theorem meet8 (p q r s : Int) (w : World) (hf : r < p) (ht : s < q) (he : s ≤ p) :
    Calls Try.prog 13 #[.agg #[.int .i64 p, .int .i64 q], .agg #[.int .i64 r, .int .i64 s]] w fun e w' => e = .returned (.bool false) ∧ Below w.heap.size w w' := by
  have hn : decide (p < s) = false := decide_eq_false (by omega)
  go_enter Try.func13, Try.ntmps13
  go_wp2
  go_ret
  refine ⟨rfl, ?_⟩
  repeat (first | refine Below.setCell ?_ (by first | omega | (simp; omega) | simp) _ | refine Below.alloc ?_ (by first | omega | (simp; omega) | simp) _)
  exact Below.refl _ _

set_option maxHeartbeats 1000000 in
theorem meet9 (p q r s : Int) (w : World) (hf : r < p) (ht : q < s) (he : p < q) :
    Calls Try.prog 13 #[.agg #[.int .i64 p, .int .i64 q], .agg #[.int .i64 r, .int .i64 s]] w fun e w' => e = .returned (.bool true) ∧ Below w.heap.size w w' := by
  go_enter Try.func13, Try.ntmps13
  go_wp2
  go_ret
  refine ⟨rfl, ?_⟩
  repeat (first | refine Below.setCell ?_ (by first | omega | (simp; omega) | simp) _ | refine Below.alloc ?_ (by first | omega | (simp; omega) | simp) _)
  exact Below.refl _ _

set_option maxHeartbeats 1000000 in
theorem meet10 (p q r s : Int) (w : World) (hf : r < p) (ht : q < s) (he : q ≤ p) :
    Calls Try.prog 13 #[.agg #[.int .i64 p, .int .i64 q], .agg #[.int .i64 r, .int .i64 s]] w fun e w' => e = .returned (.bool false) ∧ Below w.heap.size w w' := by
  have hn : decide (p < q) = false := decide_eq_false (by omega)
  go_enter Try.func13, Try.ntmps13
  go_wp2
  go_ret
  refine ⟨rfl, ?_⟩
  repeat (first | refine Below.setCell ?_ (by first | omega | (simp; omega) | simp) _ | refine Below.alloc ?_ (by first | omega | (simp; omega) | simp) _)
  exact Below.refl _ _

set_option maxHeartbeats 1000000 in
theorem meet11 (p q r : Int) (w : World) (hf : r < p) (he : p < q) :
    Calls Try.prog 13 #[.agg #[.int .i64 p, .int .i64 q], .agg #[.int .i64 r, .int .i64 q]] w fun e w' => e = .returned (.bool true) ∧ Below w.heap.size w w' := by
  go_enter Try.func13, Try.ntmps13
  go_wp2
  go_ret
  refine ⟨rfl, ?_⟩
  repeat (first | refine Below.setCell ?_ (by first | omega | (simp; omega) | simp) _ | refine Below.alloc ?_ (by first | omega | (simp; omega) | simp) _)
  exact Below.refl _ _

set_option maxHeartbeats 1000000 in
theorem meet12 (p q r : Int) (w : World) (hf : r < p) (he : q ≤ p) :
    Calls Try.prog 13 #[.agg #[.int .i64 p, .int .i64 q], .agg #[.int .i64 r, .int .i64 q]] w fun e w' => e = .returned (.bool false) ∧ Below w.heap.size w w' := by
  have hn : decide (p < q) = false := decide_eq_false (by omega)
  go_enter Try.func13, Try.ntmps13
  go_wp2
  go_ret
  refine ⟨rfl, ?_⟩
  repeat (first | refine Below.setCell ?_ (by first | omega | (simp; omega) | simp) _ | refine Below.alloc ?_ (by first | omega | (simp; omega) | simp) _)
  exact Below.refl _ _

set_option maxHeartbeats 1000000 in
theorem meet13 (p q s : Int) (w : World) (ht : s < q) (he : p < s) :
    Calls Try.prog 13 #[.agg #[.int .i64 p, .int .i64 q], .agg #[.int .i64 p, .int .i64 s]] w fun e w' => e = .returned (.bool true) ∧ Below w.heap.size w w' := by
  go_enter Try.func13, Try.ntmps13
  go_wp2
  go_ret
  refine ⟨rfl, ?_⟩
  repeat (first | refine Below.setCell ?_ (by first | omega | (simp; omega) | simp) _ | refine Below.alloc ?_ (by first | omega | (simp; omega) | simp) _)
  exact Below.refl _ _

set_option maxHeartbeats 1000000 in
theorem meet14 (p q s : Int) (w : World) (ht : s < q) (he : s ≤ p) :
    Calls Try.prog 13 #[.agg #[.int .i64 p, .int .i64 q], .agg #[.int .i64 p, .int .i64 s]] w fun e w' => e = .returned (.bool false) ∧ Below w.heap.size w w' := by
  have hn : decide (p < s) = false := decide_eq_false (by omega)
  go_enter Try.func13, Try.ntmps13
  go_wp2
  go_ret
  refine ⟨rfl, ?_⟩
  repeat (first | refine Below.setCell ?_ (by first | omega | (simp; omega) | simp) _ | refine Below.alloc ?_ (by first | omega | (simp; omega) | simp) _)
  exact Below.refl _ _

set_option maxHeartbeats 1000000 in
theorem meet15 (p q s : Int) (w : World) (ht : q < s) (he : p < q) :
    Calls Try.prog 13 #[.agg #[.int .i64 p, .int .i64 q], .agg #[.int .i64 p, .int .i64 s]] w fun e w' => e = .returned (.bool true) ∧ Below w.heap.size w w' := by
  go_enter Try.func13, Try.ntmps13
  go_wp2
  go_ret
  refine ⟨rfl, ?_⟩
  repeat (first | refine Below.setCell ?_ (by first | omega | (simp; omega) | simp) _ | refine Below.alloc ?_ (by first | omega | (simp; omega) | simp) _)
  exact Below.refl _ _

set_option maxHeartbeats 1000000 in
theorem meet16 (p q s : Int) (w : World) (ht : q < s) (he : q ≤ p) :
    Calls Try.prog 13 #[.agg #[.int .i64 p, .int .i64 q], .agg #[.int .i64 p, .int .i64 s]] w fun e w' => e = .returned (.bool false) ∧ Below w.heap.size w w' := by
  have hn : decide (p < q) = false := decide_eq_false (by omega)
  go_enter Try.func13, Try.ntmps13
  go_wp2
  go_ret
  refine ⟨rfl, ?_⟩
  repeat (first | refine Below.setCell ?_ (by first | omega | (simp; omega) | simp) _ | refine Below.alloc ?_ (by first | omega | (simp; omega) | simp) _)
  exact Below.refl _ _

set_option maxHeartbeats 1000000 in
theorem meet17 (p q : Int) (w : World) (he : p < q) :
    Calls Try.prog 13 #[.agg #[.int .i64 p, .int .i64 q], .agg #[.int .i64 p, .int .i64 q]] w fun e w' => e = .returned (.bool true) ∧ Below w.heap.size w w' := by
  go_enter Try.func13, Try.ntmps13
  go_wp2
  go_ret
  refine ⟨rfl, ?_⟩
  repeat (first | refine Below.setCell ?_ (by first | omega | (simp; omega) | simp) _ | refine Below.alloc ?_ (by first | omega | (simp; omega) | simp) _)
  exact Below.refl _ _

set_option maxHeartbeats 1000000 in
theorem meet18 (p q : Int) (w : World) (he : q ≤ p) :
    Calls Try.prog 13 #[.agg #[.int .i64 p, .int .i64 q], .agg #[.int .i64 p, .int .i64 q]] w fun e w' => e = .returned (.bool false) ∧ Below w.heap.size w w' := by
  have hn : decide (p < q) = false := decide_eq_false (by omega)
  go_enter Try.func13, Try.ntmps13
  go_wp2
  go_ret
  refine ⟨rfl, ?_⟩
  repeat (first | refine Below.setCell ?_ (by first | omega | (simp; omega) | simp) _ | refine Below.alloc ?_ (by first | omega | (simp; omega) | simp) _)
  exact Below.refl _ _

theorem meet_any (p q r s : Int) (w : World) : Calls Try.prog 13 #[.agg #[.int .i64 p, .int .i64 q], .agg #[.int .i64 r, .int .i64 s]] w fun e w' => e = .returned (.bool (comB p q r s)) ∧ Below w.heap.size w w' := by
  have hy : ∀ x y : Int, max p r = x → min q s = y → x < y → comB p q r s = true ∧ comF p q r s = x ∧ comT p q r s = y := fun x y h1 h2 h3 => by
    have h : comB p q r s = true := by unfold comB; rw [h1, h2]; exact decide_eq_true h3
    exact ⟨h, by unfold comF; rw [if_pos h, h1], by unfold comT; rw [if_pos h, h2]⟩
  have hn : ∀ x y : Int, max p r = x → min q s = y → y ≤ x → comB p q r s = false ∧ comF p q r s = 0 ∧ comT p q r s = 0 := fun x y h1 h2 h3 => by
    have h : comB p q r s = false := by unfold comB; rw [h1, h2]; exact decide_eq_false (by omega)
    exact ⟨h, by unfold comF; rw [if_neg (by simp [h])], by unfold comT; rw [if_neg (by simp [h])]⟩
  rcases Int.lt_trichotomy p r with hf | hf | hf
  · rcases Int.lt_trichotomy q s with ht | ht | ht
    · by_cases he : r < q
      · obtain ⟨e1, _, _⟩ := hy r q (by omega) (by omega) he
        rw [e1]; exact meet3 p q r s w hf ht he
      · obtain ⟨e1, _, _⟩ := hn r q (by omega) (by omega) (by omega)
        rw [e1]; exact meet4 p q r s w hf ht (by omega)
    · subst ht
      by_cases he : r < q
      · obtain ⟨e1, _, _⟩ := hy r q (by omega) (by omega) he
        rw [e1]; exact meet5 p q r w hf he
      · obtain ⟨e1, _, _⟩ := hn r q (by omega) (by omega) (by omega)
        rw [e1]; exact meet6 p q r w hf (by omega)
    · by_cases he : r < s
      · obtain ⟨e1, _, _⟩ := hy r s (by omega) (by omega) he
        rw [e1]; exact meet1 p q r s w hf ht he
      · obtain ⟨e1, _, _⟩ := hn r s (by omega) (by omega) (by omega)
        rw [e1]; exact meet2 p q r s w hf ht (by omega)
  · subst hf
    rcases Int.lt_trichotomy q s with ht | ht | ht
    · by_cases he : p < q
      · obtain ⟨e1, _, _⟩ := hy p q (by omega) (by omega) he
        rw [e1]; exact meet15 p q s w ht he
      · obtain ⟨e1, _, _⟩ := hn p q (by omega) (by omega) (by omega)
        rw [e1]; exact meet16 p q s w ht (by omega)
    · subst ht
      by_cases he : p < q
      · obtain ⟨e1, _, _⟩ := hy p q (by omega) (by omega) he
        rw [e1]; exact meet17 p q w he
      · obtain ⟨e1, _, _⟩ := hn p q (by omega) (by omega) (by omega)
        rw [e1]; exact meet18 p q w (by omega)
    · by_cases he : p < s
      · obtain ⟨e1, _, _⟩ := hy p s (by omega) (by omega) he
        rw [e1]; exact meet13 p q s w ht he
      · obtain ⟨e1, _, _⟩ := hn p s (by omega) (by omega) (by omega)
        rw [e1]; exact meet14 p q s w ht (by omega)
  · rcases Int.lt_trichotomy q s with ht | ht | ht
    · by_cases he : p < q
      · obtain ⟨e1, _, _⟩ := hy p q (by omega) (by omega) he
        rw [e1]; exact meet9 p q r s w hf ht he
      · obtain ⟨e1, _, _⟩ := hn p q (by omega) (by omega) (by omega)
        rw [e1]; exact meet10 p q r s w hf ht (by omega)
    · subst ht
      by_cases he : p < q
      · obtain ⟨e1, _, _⟩ := hy p q (by omega) (by omega) he
        rw [e1]; exact meet11 p q r w hf he
      · obtain ⟨e1, _, _⟩ := hn p q (by omega) (by omega) (by omega)
        rw [e1]; exact meet12 p q r w hf (by omega)
    · by_cases he : p < s
      · obtain ⟨e1, _, _⟩ := hy p s (by omega) (by omega) he
        rw [e1]; exact meet7 p q r s w hf ht he
      · obtain ⟨e1, _, _⟩ := hn p s (by omega) (by omega) (by omega)
        rw [e1]; exact meet8 p q r s w hf ht (by omega)
end Go.Proofs.Ytlpojkehbhkdiaa
