/- The program's Add, whatever it is asked; new memory alone is made. -/
import Derived.Test.YtlpojkehbhkdiaaProg
import Derived.Test.YtlpojkehbhkdiaaGuardWords
import Derived.Test.YtlpojkehbhkdiaaErrV
import Derived.WalkKit
import Derived.WalkSpells
import Derived.WalkLawsBesides
import Derived.Below
namespace Go.Proofs.Ytlpojkehbhkdiaa
open Go.RowKit

theorem Try.makesFunc (fn : Fn) (first cap : Array Value) (w : World) : (Instr.makeFunc fn first cap).run Try.prog w = .ok (.func fn first cap) w := rfl

set_option maxHeartbeats 1000000 in
theorem add1 (a b : Int) (w : World) (h : a < -1099511627776) :
    Calls Try.prog 42 #[.int .i64 a, .int .i64 b] w fun e w' => e = .returned (.tuple #[.int .i64 0, .iface 59 (.int .i64 2)]) ∧ Below w.heap.size w w' := by
  have hmf := Try.makesFunc
  have hn : decide (-1099511627776 ≤ a) = false := decide_eq_false (by omega)
  go_enter Try.func42, Try.ntmps42
  go_wp2
  go_ret2
  refine ⟨rfl, ?_⟩
  repeat (refine Below.alloc ?_ (by first | omega | (simp; omega) | simp) _)
  exact Below.refl _ _

set_option maxHeartbeats 1000000 in
theorem add2 (a b : Int) (w : World) (h : 1099511627776 < a) :
    Calls Try.prog 42 #[.int .i64 a, .int .i64 b] w fun e w' => e = .returned (.tuple #[.int .i64 0, .iface 59 (.int .i64 2)]) ∧ Below w.heap.size w w' := by
  have hmf := Try.makesFunc
  have hp : -1099511627776 ≤ a := by omega
  have hn : decide (a ≤ 1099511627776) = false := decide_eq_false (by omega)
  go_enter Try.func42, Try.ntmps42
  go_wp2
  go_ret2
  refine ⟨rfl, ?_⟩
  repeat (refine Below.alloc ?_ (by first | omega | (simp; omega) | simp) _)
  exact Below.refl _ _

set_option maxHeartbeats 1000000 in
theorem add3 (a b : Int) (w : World) (h1 : -1099511627776 ≤ a) (h2 : a ≤ 1099511627776) (h : b < -1099511627776) :
    Calls Try.prog 42 #[.int .i64 a, .int .i64 b] w fun e w' => e = .returned (.tuple #[.int .i64 0, .iface 59 (.int .i64 2)]) ∧ Below w.heap.size w w' := by
  have hmf := Try.makesFunc
  have hn : decide (-1099511627776 ≤ b) = false := decide_eq_false (by omega)
  go_enter Try.func42, Try.ntmps42
  go_wp2
  go_ret2
  refine ⟨rfl, ?_⟩
  repeat (refine Below.alloc ?_ (by first | omega | (simp; omega) | simp) _)
  exact Below.refl _ _

set_option maxHeartbeats 1000000 in
theorem add4 (a b : Int) (w : World) (h1 : -1099511627776 ≤ a) (h2 : a ≤ 1099511627776) (h : 1099511627776 < b) :
    Calls Try.prog 42 #[.int .i64 a, .int .i64 b] w fun e w' => e = .returned (.tuple #[.int .i64 0, .iface 59 (.int .i64 2)]) ∧ Below w.heap.size w w' := by
  have hmf := Try.makesFunc
  have hp : -1099511627776 ≤ b := by omega
  have hn : decide (b ≤ 1099511627776) = false := decide_eq_false (by omega)
  go_enter Try.func42, Try.ntmps42
  go_wp2
  go_ret2
  refine ⟨rfl, ?_⟩
  repeat (refine Below.alloc ?_ (by first | omega | (simp; omega) | simp) _)
  exact Below.refl _ _

set_option maxHeartbeats 1000000 in
theorem add5 (a b : Int) (w : World) (h1 : -1099511627776 ≤ a) (h2 : a ≤ 1099511627776) (h3 : -1099511627776 ≤ b) (h4 : b ≤ 1099511627776) (h : a + b < -1099511627776) :
    Calls Try.prog 42 #[.int .i64 a, .int .i64 b] w fun e w' => e = .returned (.tuple #[.int .i64 0, .iface 59 (.int .i64 2)]) ∧ Below w.heap.size w w' := by
  have hmf := Try.makesFunc
  have hn : decide (-1099511627776 ≤ a + b) = false := decide_eq_false (by omega)
  go_enter Try.func42, Try.ntmps42
  go_wp2
  go_ret2
  refine ⟨rfl, ?_⟩
  repeat (refine Below.alloc ?_ (by first | omega | (simp; omega) | simp) _)
  exact Below.refl _ _

set_option maxHeartbeats 1000000 in
theorem add6 (a b : Int) (w : World) (h1 : -1099511627776 ≤ a) (h2 : a ≤ 1099511627776) (h3 : -1099511627776 ≤ b) (h4 : b ≤ 1099511627776) (h : 1099511627776 < a + b) :
    Calls Try.prog 42 #[.int .i64 a, .int .i64 b] w fun e w' => e = .returned (.tuple #[.int .i64 0, .iface 59 (.int .i64 2)]) ∧ Below w.heap.size w w' := by
  have hmf := Try.makesFunc
  have hp : -1099511627776 ≤ a + b := by omega
  have hn : decide (a + b ≤ 1099511627776) = false := decide_eq_false (by omega)
  go_enter Try.func42, Try.ntmps42
  go_wp2
  go_ret2
  refine ⟨rfl, ?_⟩
  repeat (refine Below.alloc ?_ (by first | omega | (simp; omega) | simp) _)
  exact Below.refl _ _

set_option maxHeartbeats 1000000 in
theorem add7 (a b : Int) (w : World) (h1 : -1099511627776 ≤ a) (h2 : a ≤ 1099511627776) (h3 : -1099511627776 ≤ b) (h4 : b ≤ 1099511627776) (h5 : -1099511627776 ≤ a + b) (h6 : a + b ≤ 1099511627776) :
    Calls Try.prog 42 #[.int .i64 a, .int .i64 b] w fun e w' => e = .returned (.tuple #[.int .i64 (a + b), .nilIface]) ∧ Below w.heap.size w w' := by
  have hmf := Try.makesFunc
  go_enter Try.func42, Try.ntmps42
  go_wp2
  go_ret2
  refine ⟨rfl, ?_⟩
  repeat (refine Below.alloc ?_ (by first | omega | (simp; omega) | simp) _)
  exact Below.refl _ _

theorem add_any (a b : Int) (w : World) : Calls Try.prog 42 #[.int .i64 a, .int .i64 b] w fun e w' => e = .returned (.tuple #[.int .i64 (addV a b), errV (addE a b)]) ∧ Below w.heap.size w w' := by
  by_cases h : (-1099511627776 ≤ a ∧ a ≤ 1099511627776) ∧ (-1099511627776 ≤ b ∧ b ≤ 1099511627776) ∧ -1099511627776 ≤ a + b ∧ a + b ≤ 1099511627776
  · rw [addV_ok (addE_0 h), addE_0 h, errV_0]
    exact add7 a b w h.1.1 h.1.2 h.2.1.1 h.2.1.2 h.2.2.1 h.2.2.2
  · rw [addV_bad (by rw [addE_2 h]; decide), addE_2 h, errV_2]
    by_cases h1 : -1099511627776 ≤ a
    · by_cases h2 : a ≤ 1099511627776
      · by_cases h3 : -1099511627776 ≤ b
        · by_cases h4 : b ≤ 1099511627776
          · by_cases h5 : -1099511627776 ≤ a + b
            · exact add6 a b w h1 h2 h3 h4 (by omega)
            · exact add5 a b w h1 h2 h3 h4 (by omega)
          · exact add4 a b w h1 h2 (by omega)
        · exact add3 a b w h1 h2 (by omega)
      · exact add2 a b w (by omega)
    · exact add1 a b w (by omega)
end Go.Proofs.Ytlpojkehbhkdiaa
