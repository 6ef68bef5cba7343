/-
  Plain words on readings: which error Midpoint answers, and what; a row of numbers in memory.
-/
import Derived.Test.YthcnhfjhppmmdabAgreeMath
import Derived.Test.YthcnhfjhppmmdabIntRow
import Derived.Below
import Derived.Test.YthcnhfjhppmmdabProg
namespace Go.Proofs.Ythcnhfjhppmmdab
open Go.RowKit

/-- A number lies further from 0 than MaxTime. -/
def far (x : Int) : Bool := decide (x < -1099511627776) || decide (1099511627776 < x)

theorem far_false {x : Int} : far x = false ↔ -1099511627776 ≤ x ∧ x ≤ 1099511627776 := by
  unfold far; simp
theorem far_true {x : Int} : far x = true ↔ x < -1099511627776 ∨ 1099511627776 < x := by
  unfold far; simp

/-- What is wrong with readings: 1: ErrArg; 2: ErrRange; 0: nothing. -/
def midErr (l : List Int) (f : Int) : Int := if f < 0 ∨ (l.length : Int) < 2 * f + 1 then 1 else if l.any far = true then 2 else 0
def midVal (l : List Int) (f : Int) : Int := if midErr l f = 0 then midOf l f.toNat else 0

theorem midErr_1 {l : List Int} {f : Int} (h : f < 0 ∨ (l.length : Int) < 2 * f + 1) : midErr l f = 1 := by unfold midErr; rw [if_pos h]
theorem midErr_2 {l : List Int} {f : Int} (h : ¬ (f < 0 ∨ (l.length : Int) < 2 * f + 1)) (h2 : l.any far = true) : midErr l f = 2 := by unfold midErr; rw [if_neg h, if_pos h2]
theorem midErr_0 {l : List Int} {f : Int} (h : ¬ (f < 0 ∨ (l.length : Int) < 2 * f + 1)) (h2 : l.any far = false) : midErr l f = 0 := by unfold midErr; rw [if_neg h, if_neg (by simp [h2])]
theorem midVal_bad {l : List Int} {f : Int} (h : midErr l f ≠ 0) : midVal l f = 0 := by unfold midVal; rw [if_neg h]
theorem midVal_ok {l : List Int} {f : Int} (h : midErr l f = 0) : midVal l f = midOf l f.toNat := by unfold midVal; rw [if_pos h]

/-- What is left of readings within MaxTime is within MaxTime. -/
theorem rank_in {l : List Int} (h : l.any far = false) {k : Nat} (hk : k < l.length) : -1099511627776 ≤ rank l k ∧ rank l k ≤ 1099511627776 := by
  have := rank_mem l hk
  rw [List.any_eq_false] at h
  exact far_false.1 (by simpa using h _ this)

/-- An error of package api, or none. -/
def errV (k : Int) : Value := if k = 0 then .nilIface else .iface 87 (.int .i64 k)
theorem errV_0 : errV 0 = .nilIface := rfl
theorem errV_1 : errV 1 = .iface 87 (.int .i64 1) := rfl
theorem errV_2 : errV 2 = .iface 87 (.int .i64 2) := rfl

theorem below_then {w u v : World} (h : Below w.heap.size w u) (k : Below u.heap.size u v) : Below w.heap.size w v := h.trans (k.mono h.size)
end Go.Proofs.Ythcnhfjhppmmdab
