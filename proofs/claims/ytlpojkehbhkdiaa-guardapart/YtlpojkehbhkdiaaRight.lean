/- Right's ways: each answers what the bounds say, and makes new memory alone. -/
import Derived.Test.YtlpojkehbhkdiaaProg
import Derived.Test.YtlpojkehbhkdiaaPlain
import Derived.WalkKit
import Derived.WalkSpells
import Derived.WalkLawsBesides
namespace Go.Proofs.Ytlpojkehbhkdiaa
open Go.RowKit

theorem Try.mf (fn : Fn) (first cap : Array Value) (w : World) : (Instr.makeFunc fn first cap).run Try.prog w = .ok (.func fn first cap) w := rfl

set_option maxHeartbeats 1000000 in
theorem right_no1 (f s n d : Int) (w : World)  (k1 : f < 0) :
    Calls Try.prog 22 #[.agg #[.int .i64 f, .int .i64 s, .int .i64 n, .int .i64 d]] w fun e w' => e = .returned (.bool false) ∧ Below w.heap.size w w' := by
  have hmf := Try.mf
  have hn : decide (0 ≤ f) = false := decide_eq_false (by omega)
  go_enter Try.func22, Try.ntmps22
  go_wp2
  go_ret
  refine ⟨rfl, ?_⟩
  repeat (refine Below.alloc ?_ (by simp; try omega) _)
  exact Below.refl _ _

set_option maxHeartbeats 1000000 in
theorem right_no2 (f s n d : Int) (w : World) (h1 : 0 ≤ f) (k2 : 1099511627776 < f) :
    Calls Try.prog 22 #[.agg #[.int .i64 f, .int .i64 s, .int .i64 n, .int .i64 d]] w fun e w' => e = .returned (.bool false) ∧ Below w.heap.size w w' := by
  have hmf := Try.mf
  have hn : decide (f ≤ 1099511627776) = false := decide_eq_false (by omega)
  go_enter Try.func22, Try.ntmps22
  go_wp2
  go_ret
  refine ⟨rfl, ?_⟩
  repeat (refine Below.alloc ?_ (by simp; try omega) _)
  exact Below.refl _ _

set_option maxHeartbeats 1000000 in
theorem right_no3 (f s n d : Int) (w : World) (h1 : 0 ≤ f) (h2 : f ≤ 1099511627776) (k3 : s < -1099511627776) :
    Calls Try.prog 22 #[.agg #[.int .i64 f, .int .i64 s, .int .i64 n, .int .i64 d]] w fun e w' => e = .returned (.bool false) ∧ Below w.heap.size w w' := by
  have hmf := Try.mf
  have hn : decide (-1099511627776 ≤ s) = false := decide_eq_false (by omega)
  go_enter Try.func22, Try.ntmps22
  go_wp2
  go_ret
  refine ⟨rfl, ?_⟩
  repeat (refine Below.alloc ?_ (by simp; try omega) _)
  exact Below.refl _ _

set_option maxHeartbeats 1000000 in
theorem right_no4 (f s n d : Int) (w : World) (h1 : 0 ≤ f) (h2 : f ≤ 1099511627776) (h3 : -1099511627776 ≤ s) (k4 : 1099511627776 < s) :
    Calls Try.prog 22 #[.agg #[.int .i64 f, .int .i64 s, .int .i64 n, .int .i64 d]] w fun e w' => e = .returned (.bool false) ∧ Below w.heap.size w w' := by
  have hmf := Try.mf
  have hn : decide (s ≤ 1099511627776) = false := decide_eq_false (by omega)
  go_enter Try.func22, Try.ntmps22
  go_wp2
  go_ret
  refine ⟨rfl, ?_⟩
  repeat (refine Below.alloc ?_ (by simp; try omega) _)
  exact Below.refl _ _

set_option maxHeartbeats 1000000 in
theorem right_no5 (f s n d : Int) (w : World) (h1 : 0 ≤ f) (h2 : f ≤ 1099511627776) (h3 : -1099511627776 ≤ s) (h4 : s ≤ 1099511627776) (k5 : n < 1) :
    Calls Try.prog 22 #[.agg #[.int .i64 f, .int .i64 s, .int .i64 n, .int .i64 d]] w fun e w' => e = .returned (.bool false) ∧ Below w.heap.size w w' := by
  have hmf := Try.mf
  have hn : decide (1 ≤ n) = false := decide_eq_false (by omega)
  go_enter Try.func22, Try.ntmps22
  go_wp2
  go_ret
  refine ⟨rfl, ?_⟩
  repeat (refine Below.alloc ?_ (by simp; try omega) _)
  exact Below.refl _ _

set_option maxHeartbeats 1000000 in
theorem right_no6 (f s n d : Int) (w : World) (h1 : 0 ≤ f) (h2 : f ≤ 1099511627776) (h3 : -1099511627776 ≤ s) (h4 : s ≤ 1099511627776) (h5 : 1 ≤ n) (k6 : 1000000 < n) :
    Calls Try.prog 22 #[.agg #[.int .i64 f, .int .i64 s, .int .i64 n, .int .i64 d]] w fun e w' => e = .returned (.bool false) ∧ Below w.heap.size w w' := by
  have hmf := Try.mf
  have hn : decide (n ≤ 1000000) = false := decide_eq_false (by omega)
  go_enter Try.func22, Try.ntmps22
  go_wp2
  go_ret
  refine ⟨rfl, ?_⟩
  repeat (refine Below.alloc ?_ (by simp; try omega) _)
  exact Below.refl _ _

set_option maxHeartbeats 1000000 in
theorem right_no7 (f s n d : Int) (w : World) (h1 : 0 ≤ f) (h2 : f ≤ 1099511627776) (h3 : -1099511627776 ≤ s) (h4 : s ≤ 1099511627776) (h5 : 1 ≤ n) (h6 : n ≤ 1000000) (k7 : d < 1) :
    Calls Try.prog 22 #[.agg #[.int .i64 f, .int .i64 s, .int .i64 n, .int .i64 d]] w fun e w' => e = .returned (.bool false) ∧ Below w.heap.size w w' := by
  have hmf := Try.mf
  have hn : decide (1 ≤ d) = false := decide_eq_false (by omega)
  go_enter Try.func22, Try.ntmps22
  go_wp2
  go_ret
  refine ⟨rfl, ?_⟩
  repeat (refine Below.alloc ?_ (by simp; try omega) _)
  exact Below.refl _ _

set_option maxHeartbeats 1000000 in
theorem right_no8 (f s n d : Int) (w : World) (h1 : 0 ≤ f) (h2 : f ≤ 1099511627776) (h3 : -1099511627776 ≤ s) (h4 : s ≤ 1099511627776) (h5 : 1 ≤ n) (h6 : n ≤ 1000000) (h7 : 1 ≤ d) (k8 : 1000000 < d) :
    Calls Try.prog 22 #[.agg #[.int .i64 f, .int .i64 s, .int .i64 n, .int .i64 d]] w fun e w' => e = .returned (.bool false) ∧ Below w.heap.size w w' := by
  have hmf := Try.mf
  have hn : decide (d ≤ 1000000) = false := decide_eq_false (by omega)
  go_enter Try.func22, Try.ntmps22
  go_wp2
  go_ret
  refine ⟨rfl, ?_⟩
  repeat (refine Below.alloc ?_ (by simp; try omega) _)
  exact Below.refl _ _

set_option maxHeartbeats 1000000 in
theorem right_no9 (f s n d : Int) (w : World) (h1 : 0 ≤ f) (h2 : f ≤ 1099511627776) (h3 : -1099511627776 ≤ s) (h4 : s ≤ 1099511627776) (h5 : 1 ≤ n) (h6 : n ≤ 1000000) (h7 : 1 ≤ d) (h8 : d ≤ 1000000) (k9 : 2 * d < n) :
    Calls Try.prog 22 #[.agg #[.int .i64 f, .int .i64 s, .int .i64 n, .int .i64 d]] w fun e w' => e = .returned (.bool false) ∧ Below w.heap.size w w' := by
  have hmf := Try.mf
  have hn : decide (n ≤ 2 * d) = false := decide_eq_false (by omega)
  go_enter Try.func22, Try.ntmps22
  go_wp2
  go_ret
  refine ⟨rfl, ?_⟩
  repeat (refine Below.alloc ?_ (by simp; try omega) _)
  exact Below.refl _ _

set_option maxHeartbeats 1000000 in
theorem right_no10 (f s n d : Int) (w : World) (h1 : 0 ≤ f) (h2 : f ≤ 1099511627776) (h3 : -1099511627776 ≤ s) (h4 : s ≤ 1099511627776) (h5 : 1 ≤ n) (h6 : n ≤ 1000000) (h7 : 1 ≤ d) (h8 : d ≤ 1000000) (h9 : n ≤ 2 * d) (k10 : 2 * n < d) :
    Calls Try.prog 22 #[.agg #[.int .i64 f, .int .i64 s, .int .i64 n, .int .i64 d]] w fun e w' => e = .returned (.bool false) ∧ Below w.heap.size w w' := by
  have hmf := Try.mf
  have hn : decide (d ≤ 2 * n) = false := decide_eq_false (by omega)
  go_enter Try.func22, Try.ntmps22
  go_wp2
  go_ret
  refine ⟨rfl, ?_⟩
  repeat (refine Below.alloc ?_ (by simp; try omega) _)
  exact Below.refl _ _

set_option maxHeartbeats 1000000 in
theorem right_yes (f s n d : Int) (w : World) (h : rightB f s n d = true) :
    Calls Try.prog 22 #[.agg #[.int .i64 f, .int .i64 s, .int .i64 n, .int .i64 d]] w fun e w' => e = .returned (.bool true) ∧ Below w.heap.size w w' := by
  obtain ⟨h1, h2, h3, h4, h5, h6, h7, h8, h9, h10⟩ := right_of h
  clear h
  have hmf := Try.mf
  go_enter Try.func22, Try.ntmps22
  go_wp2
  go_ret
  refine ⟨rfl, ?_⟩
  repeat (refine Below.alloc ?_ (by simp; try omega) _)
  exact Below.refl _ _

theorem right_no (f s n d : Int) (w : World) (h : rightB f s n d = false) :
    Calls Try.prog 22 #[.agg #[.int .i64 f, .int .i64 s, .int .i64 n, .int .i64 d]] w fun e w' => e = .returned (.bool false) ∧ Below w.heap.size w w' := by
  have hh := of_decide_eq_false h
  by_cases h1 : 0 ≤ f
  rotate_left
  · exact right_no1 f s n d w (by omega)
  by_cases h2 : f ≤ 1099511627776
  rotate_left
  · exact right_no2 f s n d w h1 (by omega)
  by_cases h3 : -1099511627776 ≤ s
  rotate_left
  · exact right_no3 f s n d w h1 h2 (by omega)
  by_cases h4 : s ≤ 1099511627776
  rotate_left
  · exact right_no4 f s n d w h1 h2 h3 (by omega)
  by_cases h5 : 1 ≤ n
  rotate_left
  · exact right_no5 f s n d w h1 h2 h3 h4 (by omega)
  by_cases h6 : n ≤ 1000000
  rotate_left
  · exact right_no6 f s n d w h1 h2 h3 h4 h5 (by omega)
  by_cases h7 : 1 ≤ d
  rotate_left
  · exact right_no7 f s n d w h1 h2 h3 h4 h5 h6 (by omega)
  by_cases h8 : d ≤ 1000000
  rotate_left
  · exact right_no8 f s n d w h1 h2 h3 h4 h5 h6 h7 (by omega)
  by_cases h9 : n ≤ 2 * d
  rotate_left
  · exact right_no9 f s n d w h1 h2 h3 h4 h5 h6 h7 h8 (by omega)
  by_cases h10 : d ≤ 2 * n
  rotate_left
  · exact right_no10 f s n d w h1 h2 h3 h4 h5 h6 h7 h8 h9 (by omega)
  exact absurd ⟨h1, h2, h3, h4, h5, h6, h7, h8, h9, h10⟩ hh

theorem right_any (f s n d : Int) (w : World) :
    Calls Try.prog 22 #[.agg #[.int .i64 f, .int .i64 s, .int .i64 n, .int .i64 d]] w fun e w' => e = .returned (.bool (rightB f s n d)) ∧ Below w.heap.size w w' := by
  cases h : rightB f s n d
  · exact right_no f s n d w h
  · exact right_yes f s n d w h

end Go.Proofs.Ytlpojkehbhkdiaa
