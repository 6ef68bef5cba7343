/- The document's answer's Common, whatever it is asked; new memory alone is made. -/
import Derived.Test.YtpefdjdebglafabProg
import Derived.Test.YtpefdjdebglafabComWords
import Derived.WalkKit
import Derived.WalkSpells
import Derived.WalkLawsBesides
import Derived.Below
namespace Go.Proofs.Ytpefdjdebglafab
open Go.RowKit

set_option maxHeartbeats 1000000 in
theorem refCommon1 (p q r s : Int) (w : World) (hf : p < r) (ht : s < q) (he : r < s) :
    Calls Try.prog 15 #[.agg #[.int .i64 p, .int .i64 q], .agg #[.int .i64 r, .int .i64 s]] w fun e w' => e = .returned (.tuple #[.agg #[.int .i64 r, .int .i64 s], .bool true]) ∧ Below w.heap.size w w' := by
  go_enter Try.func15, Try.ntmps15
  go_wp2
  refine bodyPost_ret (v := .tuple #[.agg #[.int .i64 r, .int .i64 s], .bool true]) (by simp [results, Try.results15, go_sem]) rfl ⟨rfl, ?_⟩
  repeat (first | refine Below.setCell ?_ (by first | omega | (simp; omega) | simp) _ | refine Below.alloc ?_ (by first | omega | (simp; omega) | simp) _)
  exact Below.refl _ _

set_option maxHeartbeats 1000000 in
theorem refCommon2 (p q r s : Int) (w : World) (hf : p < r) (ht : s < q) (he : s ≤ r) :
    Calls Try.prog 15 #[.agg #[.int .i64 p, .int .i64 q], .agg #[.int .i64 r, .int .i64 s]] w fun e w' => e = .returned (.tuple #[.agg #[.int .i64 0, .int .i64 0], .bool false]) ∧ Below w.heap.size w w' := by
  have hn : decide (r < s) = false := decide_eq_false (by omega)
  go_enter Try.func15, Try.ntmps15
  go_wp2
  refine bodyPost_ret (v := .tuple #[.agg #[.int .i64 0, .int .i64 0], .bool false]) (by simp [results, Try.results15, go_sem]) rfl ⟨rfl, ?_⟩
  repeat (first | refine Below.setCell ?_ (by first | omega | (simp; omega) | simp) _ | refine Below.alloc ?_ (by first | omega | (simp; omega) | simp) _)
  exact Below.refl _ _

set_option maxHeartbeats 1000000 in
theorem refCommon3 (p q r s : Int) (w : World) (hf : p < r) (ht : q < s) (he : r < q) :
    Calls Try.prog 15 #[.agg #[.int .i64 p, .int .i64 q], .agg #[.int .i64 r, .int .i64 s]] w fun e w' => e = .returned (.tuple #[.agg #[.int .i64 r, .int .i64 q], .bool true]) ∧ Below w.heap.size w w' := by
  go_enter Try.func15, Try.ntmps15
  go_wp2
  refine bodyPost_ret (v := .tuple #[.agg #[.int .i64 r, .int .i64 q], .bool true]) (by simp [results, Try.results15, go_sem]) rfl ⟨rfl, ?_⟩
  repeat (first | refine Below.setCell ?_ (by first | omega | (simp; omega) | simp) _ | refine Below.alloc ?_ (by first | omega | (simp; omega) | simp) _)
  exact Below.refl _ _

set_option maxHeartbeats 1000000 in
theorem refCommon4 (p q r s : Int) (w : World) (hf : p < r) (ht : q < s) (he : q ≤ r) :
    Calls Try.prog 15 #[.agg #[.int .i64 p, .int .i64 q], .agg #[.int .i64 r, .int .i64 s]] w fun e w' => e = .returned (.tuple #[.agg #[.int .i64 0, .int .i64 0], .bool false]) ∧ Below w.heap.size w w' := by
  have hn : decide (r < q) = false := decide_eq_false (by omega)
  go_enter Try.func15, Try.ntmps15
  go_wp2
  refine bodyPost_ret (v := .tuple #[.agg #[.int .i64 0, .int .i64 0], .bool false]) (by simp [results, Try.results15, go_sem]) rfl ⟨rfl, ?_⟩
  repeat (first | refine Below.setCell ?_ (by first | omega | (simp; omega) | simp) _ | refine Below.alloc ?_ (by first | omega | (simp; omega) | simp) _)
  exact Below.refl _ _

set_option maxHeartbeats 1000000 in
theorem refCommon5 (p q r : Int) (w : World) (hf : p < r) (he : r < q) :
    Calls Try.prog 15 #[.agg #[.int .i64 p, .int .i64 q], .agg #[.int .i64 r, .int .i64 q]] w fun e w' => e = .returned (.tuple #[.agg #[.int .i64 r, .int .i64 q], .bool true]) ∧ Below w.heap.size w w' := by
  go_enter Try.func15, Try.ntmps15
  go_wp2
  refine bodyPost_ret (v := .tuple #[.agg #[.int .i64 r, .int .i64 q], .bool true]) (by simp [results, Try.results15, go_sem]) rfl ⟨rfl, ?_⟩
  repeat (first | refine Below.setCell ?_ (by first | omega | (simp; omega) | simp) _ | refine Below.alloc ?_ (by first | omega | (simp; omega) | simp) _)
  exact Below.refl _ _

set_option maxHeartbeats 1000000 in
theorem refCommon6 (p q r : Int) (w : World) (hf : p < r) (he : q ≤ r) :
    Calls Try.prog 15 #[.agg #[.int .i64 p, .int .i64 q], .agg #[.int .i64 r, .int .i64 q]] w fun e w' => e = .returned (.tuple #[.agg #[.int .i64 0, .int .i64 0], .bool false]) ∧ Below w.heap.size w w' := by
  have hn : decide (r < q) = false := decide_eq_false (by omega)
  go_enter Try.func15, Try.ntmps15
  go_wp2
  refine bodyPost_ret (v := .tuple #[.agg #[.int .i64 0, .int .i64 0], .bool false]) (by simp [results, Try.results15, go_sem]) rfl ⟨rfl, ?_⟩
  repeat (first | refine Below.setCell ?_ (by first | omega | (simp; omega) | simp) _ | refine Below.alloc ?_ (by first | omega | (simp; omega) | simp) _)
  exact Below.refl _ _

set_option maxHeartbeats 1000000 in
theorem refCommon7 (p q r s : Int) (w : World) (hf : r < p) (ht : s < q) (he : p < s) :
    Calls Try.prog 15 #[.agg #[.int .i64 p, .int .i64 q], .agg #[.int .i64 r, .int .i64 s]] w fun e w' => e = .returned (.tuple #[.agg #[.int .i64 p, .int .i64 s], .bool true]) ∧ Below w.heap.size w w' := by
  go_enter Try.func15, Try.ntmps15
  go_wp2
  refine bodyPost_ret (v := .tuple #[.agg #[.int .i64 p, .int .i64 s], .bool true]) (by simp [results, Try.results15, go_sem]) rfl ⟨rfl, ?_⟩
  repeat (first | refine Below.setCell ?_ (by first | omega | (simp; omega) | simp) _ | refine Below.alloc ?_ (by first | omega | (simp; omega) | simp) _)
  exact Below.refl _ _

set_option maxHeartbeats 1000000 in
theorem refCommon8 (p q r s : Int) (w : World) (hf : r < p) (ht : s < q) (he : s ≤ p) :
    Calls Try.prog 15 #[.agg #[.int .i64 p, .int .i64 q], .agg #[.int .i64 r, .int .i64 s]] w fun e w' => e = .returned (.tuple #[.agg #[.int .i64 0, .int .i64 0], .bool false]) ∧ Below w.heap.size w w' := by
  have hn : decide (p < s) = false := decide_eq_false (by omega)
  go_enter Try.func15, Try.ntmps15
  go_wp2
  refine bodyPost_ret (v := .tuple #[.agg #[.int .i64 0, .int .i64 0], .bool false]) (by simp [results, Try.results15, go_sem]) rfl ⟨rfl, ?_⟩
  repeat (first | refine Below.setCell ?_ (by first | omega | (simp; omega) | simp) _ | refine Below.alloc ?_ (by first | omega | (simp; omega) | simp) _)
  exact Below.refl _ _

set_option maxHeartbeats 1000000 in
theorem refCommon9 (p q r s : Int) (w : World) (hf : r < p) (ht : q < s) (he : p < q) :
    Calls Try.prog 15 #[.agg #[.int .i64 p, .int .i64 q], .agg #[.int .i64 r, .int .i64 s]] w fun e w' => e = .returned (.tuple #[.agg #[.int .i64 p, .int .i64 q], .bool true]) ∧ Below w.heap.size w w' := by
  go_enter Try.func15, Try.ntmps15
  go_wp2
  refine bodyPost_ret (v := .tuple #[.agg #[.int .i64 p, .int .i64 q], .bool true]) (by simp [results, Try.results15, go_sem]) rfl ⟨rfl, ?_⟩
  repeat (first | refine Below.setCell ?_ (by first | omega | (simp; omega) | simp) _ | refine Below.alloc ?_ (by first | omega | (simp; omega) | simp) _)
  exact Below.refl _ _

set_option maxHeartbeats 1000000 in
theorem refCommon10 (p q r s : Int) (w : World) (hf : r < p) (ht : q < s) (he : q ≤ p) :
    Calls Try.prog 15 #[.agg #[.int .i64 p, .int .i64 q], .agg #[.int .i64 r, .int .i64 s]] w fun e w' => e = .returned (.tuple #[.agg #[.int .i64 0, .int .i64 0], .bool false]) ∧ Below w.heap.size w w' := by
  have hn : decide (p < q) = false := decide_eq_false (by omega)
  go_enter Try.func15, Try.ntmps15
  go_wp2
  refine bodyPost_ret (v := .tuple #[.agg #[.int .i64 0, .int .i64 0], .bool false]) (by simp [results, Try.results15, go_sem]) rfl ⟨rfl, ?_⟩
  repeat (first | refine Below.setCell ?_ (by first | omega | (simp; omega) | simp) _ | refine Below.alloc ?_ (by first | omega | (simp; omega) | simp) _)
  exact Below.refl _ _

set_option maxHeartbeats 1000000 in
theorem refCommon11 (p q r : Int) (w : World) (hf : r < p) (he : p < q) :
    Calls Try.prog 15 #[.agg #[.int .i64 p, .int .i64 q], .agg #[.int .i64 r, .int .i64 q]] w fun e w' => e = .returned (.tuple #[.agg #[.int .i64 p, .int .i64 q], .bool true]) ∧ Below w.heap.size w w' := by
  go_enter Try.func15, Try.ntmps15
  go_wp2
  refine bodyPost_ret (v := .tuple #[.agg #[.int .i64 p, .int .i64 q], .bool true]) (by simp [results, Try.results15, go_sem]) rfl ⟨rfl, ?_⟩
  repeat (first | refine Below.setCell ?_ (by first | omega | (simp; omega) | simp) _ | refine Below.alloc ?_ (by first | omega | (simp; omega) | simp) _)
  exact Below.refl _ _

set_option maxHeartbeats 1000000 in
theorem refCommon12 (p q r : Int) (w : World) (hf : r < p) (he : q ≤ p) :
    Calls Try.prog 15 #[.agg #[.int .i64 p, .int .i64 q], .agg #[.int .i64 r, .int .i64 q]] w fun e w' => e = .returned (.tuple #[.agg #[.int .i64 0, .int .i64 0], .bool false]) ∧ Below w.heap.size w w' := by
  have hn : decide (p < q) = false := decide_eq_false (by omega)
  go_enter Try.func15, Try.ntmps15
  go_wp2
  refine bodyPost_ret (v := .tuple #[.agg #[.int .i64 0, .int .i64 0], .bool false]) (by simp [results, Try.results15, go_sem]) rfl ⟨rfl, ?_⟩
  repeat (first | refine Below.setCell ?_ (by first | omega | (simp; omega) | simp) _ | refine Below.alloc ?_ (by first | omega | (simp; omega) | simp) _)
  exact Below.refl _ _

set_option maxHeartbeats 1000000 in
theorem refCommon13 (p q s : Int) (w : World) (ht : s < q) (he : p < s) :
    Calls Try.prog 15 #[.agg #[.int .i64 p, .int .i64 q], .agg #[.int .i64 p, .int .i64 s]] w fun e w' => e = .returned (.tuple #[.agg #[.int .i64 p, .int .i64 s], .bool true]) ∧ Below w.heap.size w w' := by
  go_enter Try.func15, Try.ntmps15
  go_wp2
  refine bodyPost_ret (v := .tuple #[.agg #[.int .i64 p, .int .i64 s], .bool true]) (by simp [results, Try.results15, go_sem]) rfl ⟨rfl, ?_⟩
  repeat (first | refine Below.setCell ?_ (by first | omega | (simp; omega) | simp) _ | refine Below.alloc ?_ (by first | omega | (simp; omega) | simp) _)
  exact Below.refl _ _

set_option maxHeartbeats 1000000 in
theorem refCommon14 (p q s : Int) (w : World) (ht : s < q) (he : s ≤ p) :
    Calls Try.prog 15 #[.agg #[.int .i64 p, .int .i64 q], .agg #[.int .i64 p, .int .i64 s]] w fun e w' => e = .returned (.tuple #[.agg #[.int .i64 0, .int .i64 0], .bool false]) ∧ Below w.heap.size w w' := by
  have hn : decide (p < s) = false := decide_eq_false (by omega)
  go_enter Try.func15, Try.ntmps15
  go_wp2
  refine bodyPost_ret (v := .tuple #[.agg #[.int .i64 0, .int .i64 0], .bool false]) (by simp [results, Try.results15, go_sem]) rfl ⟨rfl, ?_⟩
  repeat (first | refine Below.setCell ?_ (by first | omega | (simp; omega) | simp) _ | refine Below.alloc ?_ (by first | omega | (simp; omega) | simp) _)
  exact Below.refl _ _

set_option maxHeartbeats 1000000 in
theorem refCommon15 (p q s : Int) (w : World) (ht : q < s) (he : p < q) :
    Calls Try.prog 15 #[.agg #[.int .i64 p, .int .i64 q], .agg #[.int .i64 p, .int .i64 s]] w fun e w' => e = .returned (.tuple #[.agg #[.int .i64 p, .int .i64 q], .bool true]) ∧ Below w.heap.size w w' := by
  go_enter Try.func15, Try.ntmps15
  go_wp2
  refine bodyPost_ret (v := .tuple #[.agg #[.int .i64 p, .int .i64 q], .bool true]) (by simp [results, Try.results15, go_sem]) rfl ⟨rfl, ?_⟩
  repeat (first | refine Below.setCell ?_ (by first | omega | (simp; omega) | simp) _ | refine Below.alloc ?_ (by first | omega | (simp; omega) | simp) _)
  exact Below.refl _ _

set_option maxHeartbeats 1000000 in
theorem refCommon16 (p q s : Int) (w : World) (ht : q < s) (he : q ≤ p) :
    Calls Try.prog 15 #[.agg #[.int .i64 p, .int .i64 q], .agg #[.int .i64 p, .int .i64 s]] w fun e w' => e = .returned (.tuple #[.agg #[.int .i64 0, .int .i64 0], .bool false]) ∧ Below w.heap.size w w' := by
  have hn : decide (p < q) = false := decide_eq_false (by omega)
  go_enter Try.func15, Try.ntmps15
  go_wp2
  refine bodyPost_ret (v := .tuple #[.agg #[.int .i64 0, .int .i64 0], .bool false]) (by simp [results, Try.results15, go_sem]) rfl ⟨rfl, ?_⟩
  repeat (first | refine Below.setCell ?_ (by first | omega | (simp; omega) | simp) _ | refine Below.alloc ?_ (by first | omega | (simp; omega) | simp) _)
  exact Below.refl _ _

set_option maxHeartbeats 1000000 in
theorem refCommon17 (p q : Int) (w : World) (he : p < q) :
    Calls Try.prog 15 #[.agg #[.int .i64 p, .int .i64 q], .agg #[.int .i64 p, .int .i64 q]] w fun e w' => e = .returned (.tuple #[.agg #[.int .i64 p, .int .i64 q], .bool true]) ∧ Below w.heap.size w w' := by
  go_enter Try.func15, Try.ntmps15
  go_wp2
  refine bodyPost_ret (v := .tuple #[.agg #[.int .i64 p, .int .i64 q], .bool true]) (by simp [results, Try.results15, go_sem]) rfl ⟨rfl, ?_⟩
  repeat (first | refine Below.setCell ?_ (by first | omega | (simp; omega) | simp) _ | refine Below.alloc ?_ (by first | omega | (simp; omega) | simp) _)
  exact Below.refl _ _

set_option maxHeartbeats 1000000 in
theorem refCommon18 (p q : Int) (w : World) (he : q ≤ p) :
    Calls Try.prog 15 #[.agg #[.int .i64 p, .int .i64 q], .agg #[.int .i64 p, .int .i64 q]] w fun e w' => e = .returned (.tuple #[.agg #[.int .i64 0, .int .i64 0], .bool false]) ∧ Below w.heap.size w w' := by
  have hn : decide (p < q) = false := decide_eq_false (by omega)
  go_enter Try.func15, Try.ntmps15
  go_wp2
  refine bodyPost_ret (v := .tuple #[.agg #[.int .i64 0, .int .i64 0], .bool false]) (by simp [results, Try.results15, go_sem]) rfl ⟨rfl, ?_⟩
  repeat (first | refine Below.setCell ?_ (by first | omega | (simp; omega) | simp) _ | refine Below.alloc ?_ (by first | omega | (simp; omega) | simp) _)
  exact Below.refl _ _

theorem refCommon_any (p q r s : Int) (w : World) : Calls Try.prog 15 #[.agg #[.int .i64 p, .int .i64 q], .agg #[.int .i64 r, .int .i64 s]] w fun e w' => e = .returned (.tuple #[.agg #[.int .i64 (comF p q r s), .int .i64 (comT p q r s)], .bool (comB p q r s)]) ∧ Below w.heap.size w w' := by
  have hy : ∀ x y : Int, max p r = x → min q s = y → x < y → comB p q r s = true ∧ comF p q r s = x ∧ comT p q r s = y := fun x y h1 h2 h3 => by
    have h : comB p q r s = true := by unfold comB; rw [h1, h2]; exact decide_eq_true h3
    exact ⟨h, by unfold comF; rw [if_pos h, h1], by unfold comT; rw [if_pos h, h2]⟩
  have hn : ∀ x y : Int, max p r = x → min q s = y → y ≤ x → comB p q r s = false ∧ comF p q r s = 0 ∧ comT p q r s = 0 := fun x y h1 h2 h3 => by
    have h : comB p q r s = false := by unfold comB; rw [h1, h2]; exact decide_eq_false (by omega)
    exact ⟨h, by unfold comF; rw [if_neg (by simp [h])], by unfold comT; rw [if_neg (by simp [h])]⟩
  rcases Int.lt_trichotomy p r with hf | hf | hf
  · rcases Int.lt_trichotomy q s with ht | ht | ht
    · by_cases he : r < q
      · obtain ⟨e1, e2, e3⟩ := hy r q (by omega) (by omega) he
        rw [e1, e2, e3]; exact refCommon3 p q r s w hf ht he
      · obtain ⟨e1, e2, e3⟩ := hn r q (by omega) (by omega) (by omega)
        rw [e1, e2, e3]; exact refCommon4 p q r s w hf ht (by omega)
    · subst ht
      by_cases he : r < q
      · obtain ⟨e1, e2, e3⟩ := hy r q (by omega) (by omega) he
        rw [e1, e2, e3]; exact refCommon5 p q r w hf he
      · obtain ⟨e1, e2, e3⟩ := hn r q (by omega) (by omega) (by omega)
        rw [e1, e2, e3]; exact refCommon6 p q r w hf (by omega)
    · by_cases he : r < s
      · obtain ⟨e1, e2, e3⟩ := hy r s (by omega) (by omega) he
        rw [e1, e2, e3]; exact refCommon1 p q r s w hf ht he
      · obtain ⟨e1, e2, e3⟩ := hn r s (by omega) (by omega) (by omega)
        rw [e1, e2, e3]; exact refCommon2 p q r s w hf ht (by omega)
  · subst hf
    rcases Int.lt_trichotomy q s with ht | ht | ht
    · by_cases he : p < q
      · obtain ⟨e1, e2, e3⟩ := hy p q (by omega) (by omega) he
        rw [e1, e2, e3]; exact refCommon15 p q s w ht he
      · obtain ⟨e1, e2, e3⟩ := hn p q (by omega) (by omega) (by omega)
        rw [e1, e2, e3]; exact refCommon16 p q s w ht (by omega)
    · subst ht
      by_cases he : p < q
      · obtain ⟨e1, e2, e3⟩ := hy p q (by omega) (by omega) he
        rw [e1, e2, e3]; exact refCommon17 p q w he
      · obtain ⟨e1, e2, e3⟩ := hn p q (by omega) (by omega) (by omega)
        rw [e1, e2, e3]; exact refCommon18 p q w (by omega)
    · by_cases he : p < s
      · obtain ⟨e1, e2, e3⟩ := hy p s (by omega) (by omega) he
        rw [e1, e2, e3]; exact refCommon13 p q s w ht he
      · obtain ⟨e1, e2, e3⟩ := hn p s (by omega) (by omega) (by omega)
        rw [e1, e2, e3]; exact refCommon14 p q s w ht (by omega)
  · rcases Int.lt_trichotomy q s with ht | ht | ht
    · by_cases he : p < q
      · obtain ⟨e1, e2, e3⟩ := hy p q (by omega) (by omega) he
        rw [e1, e2, e3]; exact refCommon9 p q r s w hf ht he
      · obtain ⟨e1, e2, e3⟩ := hn p q (by omega) (by omega) (by omega)
        rw [e1, e2, e3]; exact refCommon10 p q r s w hf ht (by omega)
    · subst ht
      by_cases he : p < q
      · obtain ⟨e1, e2, e3⟩ := hy p q (by omega) (by omega) he
        rw [e1, e2, e3]; exact refCommon11 p q r w hf he
      · obtain ⟨e1, e2, e3⟩ := hn p q (by omega) (by omega) (by omega)
        rw [e1, e2, e3]; exact refCommon12 p q r w hf (by omega)
    · by_cases he : p < s
      · obtain ⟨e1, e2, e3⟩ := hy p s (by omega) (by omega) he
        rw [e1, e2, e3]; exact refCommon7 p q r s w hf ht he
      · obtain ⟨e1, e2, e3⟩ := hn p s (by omega) (by omega) (by omega)
        rw [e1, e2, e3]; exact refCommon8 p q r s w hf ht (by omega)
end Go.Proofs.Ytpefdjdebglafab
