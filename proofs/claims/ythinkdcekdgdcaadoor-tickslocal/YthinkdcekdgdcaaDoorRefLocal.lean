/- The document's answer's Local: its ways. -/
import Derived.Test.YthinkdcekdgdcaaDoorRefRight
import Derived.Test.YthinkdcekdgdcaaDoorRefShows
import Derived.Test.YthinkdcekdgdcaaDoorLocal
namespace Go.Proofs.YthinkdcekdgdcaaDoor
open Go.RowKit

set_option maxHeartbeats 1000000 in
theorem refLocal_arg (f s n d r : Int) (w : World) (h : rightB f s n d = false) :
    Calls Tryd.prog 7 #[.agg #[.int .i64 f, .int .i64 s, .int .i64 n, .int .i64 d], .int .i64 r] w fun e w' => e = .returned (.tuple #[.int .i64 0, .int .i64 1]) ∧ Below w.heap.size w w' := by
  have HR : Hid (rightB f s n d = false) := h
  clear h
  go_enter Tryd.func7, Tryd.ntmps7
  go_wp2_with fail
  refine (refRight_no f s n d _ HR.out).mono ?_
  rintro e w1 ⟨rfl, hb⟩
  go_wp2
  go_ret2
  exact ⟨rfl, below_box hb⟩

set_option maxHeartbeats 1000000 in
theorem refLocal_early (f s n d r : Int) (w : World) (h : rightB f s n d = true) (hr : r < f) :
    Calls Tryd.prog 7 #[.agg #[.int .i64 f, .int .i64 s, .int .i64 n, .int .i64 d], .int .i64 r] w fun e w' => e = .returned (.tuple #[.int .i64 0, .int .i64 2]) ∧ Below w.heap.size w w' := by
  have HR : Hid (rightB f s n d = true) := h
  clear h
  have hn : decide (f ≤ r) = false := decide_eq_false (by omega)
  go_enter Tryd.func7, Tryd.ntmps7
  go_wp2_with fail
  refine (refRight_yes f s n d _ HR.out).mono ?_
  rintro e w1 ⟨rfl, hb⟩
  obtain ⟨c0, c1, c2, c3, hz⟩ := box4 hb
  go_wp2_with go_in
  go_ret2
  exact ⟨rfl, below_box hb⟩

set_option maxHeartbeats 1000000 in
theorem refLocal_late (f s n d r : Int) (w : World) (h : rightB f s n d = true) (hr : 1099511627776 < r) :
    Calls Tryd.prog 7 #[.agg #[.int .i64 f, .int .i64 s, .int .i64 n, .int .i64 d], .int .i64 r] w fun e w' => e = .returned (.tuple #[.int .i64 0, .int .i64 2]) ∧ Below w.heap.size w w' := by
  have hf := (right_of h).2.1
  have HR : Hid (rightB f s n d = true) := h
  clear h
  have hn : decide (r ≤ 1099511627776) = false := decide_eq_false (by omega)
  have hle : f ≤ r := by omega
  go_enter Tryd.func7, Tryd.ntmps7
  go_wp2_with fail
  refine (refRight_yes f s n d _ HR.out).mono ?_
  rintro e w1 ⟨rfl, hb⟩
  obtain ⟨c0, c1, c2, c3, hz⟩ := box4 hb
  go_wp2_with go_in
  go_ret2
  exact ⟨rfl, below_box hb⟩

set_option maxHeartbeats 1000000 in
theorem refLocal_high (f s n d r : Int) (w : World) (h : rightB f s n d = true) (hr : f ≤ r) (hr2 : r ≤ 1099511627776) (hv : 1099511627776 < s + (r - f) * n / d) :
    Calls Tryd.prog 7 #[.agg #[.int .i64 f, .int .i64 s, .int .i64 n, .int .i64 d], .int .i64 r] w fun e w' => e = .returned (.tuple #[.int .i64 0, .int .i64 2]) ∧ Below w.heap.size w w' := by
  have HR : Hid (rightB f s n d = true) := h
  clear h
  go_enter Tryd.func7, Tryd.ntmps7
  go_wp2_with fail
  refine (refRight_yes f s n d _ HR.out).mono ?_
  rintro e w1 ⟨rfl, hb⟩
  obtain ⟨c0, c1, c2, c3, hz⟩ := box4 hb
  go_wp2_with (first | (go_at_call 19; go_in))
  refine (shows_any f s n d r _ HR.out hr hr2).mono ?_
  rintro e w2 ⟨rfl, hb2⟩
  go_wp2
  go_ret2
  exact ⟨rfl, (below_box hb).trans (hb2.mono (Nat.le_of_lt hz))⟩

set_option maxHeartbeats 1000000 in
theorem refLocal_ok (f s n d r : Int) (w : World) (h : rightB f s n d = true) (hr : f ≤ r) (hr2 : r ≤ 1099511627776) (hv : s + (r - f) * n / d ≤ 1099511627776) :
    Calls Tryd.prog 7 #[.agg #[.int .i64 f, .int .i64 s, .int .i64 n, .int .i64 d], .int .i64 r] w fun e w' => e = .returned (.tuple #[.int .i64 (s + (r - f) * n / d), .int .i64 0]) ∧ Below w.heap.size w w' := by
  have HR : Hid (rightB f s n d = true) := h
  clear h
  go_enter Tryd.func7, Tryd.ntmps7
  go_wp2_with fail
  refine (refRight_yes f s n d _ HR.out).mono ?_
  rintro e w1 ⟨rfl, hb⟩
  obtain ⟨c0, c1, c2, c3, hz⟩ := box4 hb
  go_wp2_with (first | (go_at_call 19; go_in))
  refine (shows_any f s n d r _ HR.out hr hr2).mono ?_
  rintro e w2 ⟨rfl, hb2⟩
  have d0 : w2.cell? ⟨w.heap.size, 0, none⟩ = some (.int .i64 f) := by rw [hb2.cell hz]; exact c0
  have d1 : w2.cell? ⟨w.heap.size, 1, none⟩ = some (.int .i64 s) := by rw [hb2.cell hz]; exact c1
  have d2 : w2.cell? ⟨w.heap.size, 2, none⟩ = some (.int .i64 n) := by rw [hb2.cell hz]; exact c2
  have d3 : w2.cell? ⟨w.heap.size, 3, none⟩ = some (.int .i64 d) := by rw [hb2.cell hz]; exact c3
  clear c0 c1 c2 c3
  have hz2 := Nat.lt_of_lt_of_le hz hb2.size
  go_wp2_with fail
  refine (shows_any f s n d r _ HR.out hr hr2).mono ?_
  rintro e w3 ⟨rfl, hb3⟩
  go_wp2
  go_ret2
  exact ⟨rfl, ((below_box hb).trans (hb2.mono (Nat.le_of_lt hz))).trans (hb3.mono (Nat.le_of_lt hz2))⟩

end Go.Proofs.YthinkdcekdgdcaaDoor
