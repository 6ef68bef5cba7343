/- The document's answer's Bytes: a frame's bytes, or that it may not be. -/
import Derived.Test.YtdboppcnnjacmaaDoorFrameEncode
import Derived.Test.YtdboppcnnjacmaaDoorRefSum
import Derived.Deep.RegionHeld3
namespace Go.Proofs.YtdboppcnnjacmaaDoor
open Go.RowKit Go.Lib

set_option maxRecDepth 100000 in
set_option maxHeartbeats 8000000 in
theorem refBytes_no (node slot members link seq : Int) (S : ByteArray) (w : World) (hS : S.size ≤ maxLen) (hm : mayB node slot members link seq S.size = false) :
    Calls Tryd.prog 34 #[.agg #[.int .i64 node, .int .i64 slot, .int .i64 members, .int .i64 link, .int .i64 seq, .string S]] w fun e w' => e = .returned (.tuple #[.slice none 0 0, .int .i64 1]) ∧ Below w.heap.size w w' := by
  have hm' := of_decide_eq_false hm
  clear hm
  unfold maxLen at hS
  have e1 : (∃ _ : members ≤ 65535, True) ∨ (∃ _ : 65535 < members, decide (members ≤ 65535) = false) := by
    by_cases h : members ≤ 65535
    · exact .inl ⟨h, trivial⟩
    · exact .inr ⟨by omega, decide_eq_false h⟩
  have e2 : (∃ _ : (S.size : Int) ≤ 40, True) ∨ (∃ _ : (40 : Int) < S.size, decide ((S.size : Int) ≤ 40) = false) := by
    by_cases h : (S.size : Int) ≤ 40
    · exact .inl ⟨h, trivial⟩
    · exact .inr ⟨by omega, decide_eq_false h⟩
  have e3 : (∃ _ : S.size = 0, S.toList.isEmpty = true) ∨ (∃ _ : 0 < S.size, S.toList.isEmpty = false) := by
    rw [empty_size]
    by_cases h : S.size = 0
    · exact .inl ⟨h, decide_eq_true h⟩
    · exact .inr ⟨by omega, decide_eq_false h⟩
  have e4 : (∃ _ : link = -1, (link == -1) = true) ∨ (∃ _ : link ≠ -1, (link == -1) = false) := by
    by_cases h : link = -1
    · exact .inl ⟨h, by simp [h]⟩
    · exact .inr ⟨h, by simp [h]⟩
  rcases e4 with ⟨f4, g4⟩ | ⟨f4, g4⟩ <;> rcases e3 with ⟨f3, g3⟩ | ⟨f3, g3⟩ <;> rcases e2 with ⟨f2, g2⟩ | ⟨f2, g2⟩ <;> rcases e1 with ⟨f1, g1⟩ | ⟨f1, g1⟩
  all_goals try (exfalso; omega)
  all_goals go_enter Tryd.func34, Tryd.ntmps34
  all_goals go_wp2
  all_goals first
    | (go_ret2; exact ⟨rfl, (Below.refl _ _).alloc (Nat.le_refl _) _⟩)
    | skip
end Go.Proofs.YtdboppcnnjacmaaDoor
