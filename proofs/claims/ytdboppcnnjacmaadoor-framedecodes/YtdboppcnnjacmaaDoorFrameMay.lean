/- The program's mayBe: whether a frame may be. -/
import Derived.Test.YtdboppcnnjacmaaDoorProg
import Derived.WalkKit
import Derived.WalkSpells
import Derived.WalkLawsBesides
import Derived.Laws.Closers25
namespace Go.Proofs.YtdboppcnnjacmaaDoor
open Go.RowKit

/-- Whether a frame may be. -/
def mayB (node slot members link seq : Int) (n : Nat) : Bool :=
  decide ((0 ≤ node ∧ node < 16) ∧ (0 ≤ slot ∧ slot < 32) ∧ (0 ≤ members ∧ members < 65536) ∧ ((link = -1 ∧ seq = 0 ∧ n = 0) ∨ ((0 ≤ link ∧ link < 8) ∧ (0 ≤ seq ∧ seq < 256) ∧ n ≤ 40)))

theorem empty_size (S : ByteArray) : S.toList.isEmpty = decide (S.size = 0) := by
  rw [← decide_eq_emptyBytes]
  exact decide_eq_decide.mpr ByteArray.size_eq_zero_iff.symm
theorem ret_bool {a b : Bool} (h : a = b) : Ending.returned (.bool a) = .returned (.bool b) := by rw [h]

set_option maxRecDepth 100000 in
set_option maxHeartbeats 2000000 in
theorem may_any (node slot members link seq : Int) (S : ByteArray) (w : World) (hS : S.size ≤ maxLen) :
    Calls Tryd.prog 56 #[.agg #[.int .i64 node, .int .i64 slot, .int .i64 members, .int .i64 link, .int .i64 seq, .string S]] w fun e w' => e = .returned (.bool (mayB node slot members link seq S.size)) ∧ Below w.heap.size w w' := by
  unfold maxLen at hS
  go_enter Tryd.func56, Tryd.ntmps56
  go_wp2
  all_goals
    go_ret
    refine ⟨ret_bool ?_, (Below.refl _ _).alloc (Nat.le_refl _) _⟩
    try simp only [empty_size]
    try simp only [beq_iff_eq, Bool.not_eq_eq_eq_not, Bool.not_true, Bool.not_false, decide_eq_true_eq, decide_eq_false_iff_not, beq_eq_false_iff_ne, ne_eq] at *
    first
      | exact (decide_eq_false (by omega)).symm
      | exact (decide_eq_true (by omega)).symm
      | exact decide_eq_decide.mpr (by omega)
end Go.Proofs.YtdboppcnnjacmaaDoor
