/- Local's ways: what a clock shows, or why it shows nothing; new memory alone is made. -/
import Derived.Test.YtlpojkehbhkdiaaRight
import Derived.Test.YtlpojkehbhkdiaaClockBox
import Derived.Test.YtlpojkehbhkdiaaErrV
import Derived.Deep.QuietTactic
import Derived.BigQuiet
namespace Go.Proofs.Ytlpojkehbhkdiaa
open Go.RowKit

set_option maxHeartbeats 1000000 in
theorem local_arg (f s n d r : Int) (w : World) (h : rightB f s n d = false) :
    Calls Try.prog 14 #[.agg #[.int .i64 f, .int .i64 s, .int .i64 n, .int .i64 d], .int .i64 r] w fun e w' => e = .returned (.tuple #[.int .i64 0, .iface 59 (.int .i64 1)]) ∧ Below w.heap.size w w' := by
  have HR : Hid (rightB f s n d = false) := h
  clear h
  have hmf := Try.mf
  go_enter Try.func14, Try.ntmps14
  go_wp2_with (go_at_call 22; refine (right_no f s n d _ HR.out).mono ?_; rintro e w1 ⟨rfl, hb⟩)
  go_ret2
  exact ⟨rfl, below_box hb⟩

set_option maxHeartbeats 1000000 in
theorem local_early (f s n d r : Int) (w : World) (h : rightB f s n d = true) (hr : r < f) :
    Calls Try.prog 14 #[.agg #[.int .i64 f, .int .i64 s, .int .i64 n, .int .i64 d], .int .i64 r] w fun e w' => e = .returned (.tuple #[.int .i64 0, .iface 59 (.int .i64 2)]) ∧ Below w.heap.size w w' := by
  have HR : Hid (rightB f s n d = true) := h
  clear h
  have hmf := Try.mf
  have hn : decide (f ≤ r) = false := decide_eq_false (by omega)
  go_enter Try.func14, Try.ntmps14
  go_wp2_with (first | (go_at_call 22; refine (right_yes f s n d _ HR.out).mono ?_; rintro e w1 ⟨rfl, hb⟩; obtain ⟨c0, c1, c2, c3, hz⟩ := box4T hb) | go_in)
  go_ret2
  refine ⟨rfl, ?_⟩
  repeat (refine Below.alloc ?_ (by first | omega | (simp; omega) | simp) _)
  exact below_box hb

set_option maxHeartbeats 1000000 in
theorem local_late (f s n d r : Int) (w : World) (h : rightB f s n d = true) (hr : 1099511627776 < r) :
    Calls Try.prog 14 #[.agg #[.int .i64 f, .int .i64 s, .int .i64 n, .int .i64 d], .int .i64 r] w fun e w' => e = .returned (.tuple #[.int .i64 0, .iface 59 (.int .i64 2)]) ∧ Below w.heap.size w w' := by
  have hf := (right_of h).2.1
  have HR : Hid (rightB f s n d = true) := h
  clear h
  have hmf := Try.mf
  have hn : decide (r ≤ 1099511627776) = false := decide_eq_false (by omega)
  have hle : f ≤ r := by omega
  go_enter Try.func14, Try.ntmps14
  go_wp2_with (first | (go_at_call 22; refine (right_yes f s n d _ HR.out).mono ?_; rintro e w1 ⟨rfl, hb⟩; obtain ⟨c0, c1, c2, c3, hz⟩ := box4T hb) | go_in)
  go_ret2
  refine ⟨rfl, ?_⟩
  repeat (refine Below.alloc ?_ (by first | omega | (simp; omega) | simp) _)
  exact below_box hb

set_option maxHeartbeats 1000000 in
theorem local_ok (f s n d r : Int) (w : World) (h : rightB f s n d = true) (hr : f ≤ r) (hr2 : r ≤ 1099511627776) (hv : s + (r - f) * n / d ≤ 1099511627776) :
    Calls Try.prog 14 #[.agg #[.int .i64 f, .int .i64 s, .int .i64 n, .int .i64 d], .int .i64 r] w fun e w' => e = .returned (.tuple #[.int .i64 (s + (r - f) * n / d), .nilIface]) ∧ Below w.heap.size w w' := by
  obtain ⟨h1, h2, h3, h4, h5, h6, h7, h8, h9, h10⟩ := right_of h
  have HR : Hid (rightB f s n d = true) := h
  clear h
  obtain ⟨p1, p2⟩ := prod_bounds (x := r - f) (n := n) (M := 1099511627776) (R := 1000000) (by omega) (by omega) h5 h6
  obtain ⟨q1, q2⟩ := quo_bounds (x := r - f) (n := n) (d := d) (M := 1099511627776) (by omega) (by omega) h5 h7 h9
  have hmf := Try.mf
  go_enter Try.func14, Try.ntmps14
  go_wp2_with (first | (go_at_call 22; refine (right_yes f s n d _ HR.out).mono ?_; rintro e w1 ⟨rfl, hb⟩; obtain ⟨c0, c1, c2, c3, hz⟩ := box4T hb) | go_in)
  go_quiet (fail)
  go_wp2
  go_ret2
  refine ⟨rfl, below_drewN ?_ _⟩
  repeat (refine Below.alloc ?_ (by first | omega | (simp; omega) | simp) _)
  exact below_box hb

set_option maxHeartbeats 1000000 in
theorem local_high (f s n d r : Int) (w : World) (h : rightB f s n d = true) (hr : f ≤ r) (hr2 : r ≤ 1099511627776) (hv : 1099511627776 < s + (r - f) * n / d) :
    Calls Try.prog 14 #[.agg #[.int .i64 f, .int .i64 s, .int .i64 n, .int .i64 d], .int .i64 r] w fun e w' => e = .returned (.tuple #[.int .i64 0, .iface 59 (.int .i64 2)]) ∧ Below w.heap.size w w' := by
  obtain ⟨h1, h2, h3, h4, h5, h6, h7, h8, h9, h10⟩ := right_of h
  have HR : Hid (rightB f s n d = true) := h
  clear h
  obtain ⟨p1, p2⟩ := prod_bounds (x := r - f) (n := n) (M := 1099511627776) (R := 1000000) (by omega) (by omega) h5 h6
  obtain ⟨q1, q2⟩ := quo_bounds (x := r - f) (n := n) (d := d) (M := 1099511627776) (by omega) (by omega) h5 h7 h9
  have hmf := Try.mf
  go_enter Try.func14, Try.ntmps14
  go_wp2_with (first | (go_at_call 22; refine (right_yes f s n d _ HR.out).mono ?_; rintro e w1 ⟨rfl, hb⟩; obtain ⟨c0, c1, c2, c3, hz⟩ := box4T hb) | go_in)
  go_quiet (fail)
  go_wp2
  go_ret2
  refine ⟨rfl, below_drewN ?_ _⟩
  repeat (refine Below.alloc ?_ (by first | omega | (simp; omega) | simp) _)
  exact below_box hb


/-- What is wrong with what a clock shows at a time: 1: ErrArg; 2: ErrRange; 0: nothing. -/
def localE (f s n d r : Int) : Int := if rightB f s n d = false then 1 else if r < f ∨ 1099511627776 < r then 2 else if 1099511627776 < s + (r - f) * n / d then 2 else 0
def localV (f s n d r : Int) : Int := if localE f s n d r = 0 then s + (r - f) * n / d else 0
theorem localE_zero {f s n d r : Int} (h : localE f s n d r = 0) : rightB f s n d = true ∧ f ≤ r ∧ r ≤ 1099511627776 ∧ s + (r - f) * n / d ≤ 1099511627776 := by
  unfold localE at h
  cases h1 : rightB f s n d
  · rw [if_pos h1] at h; cases h
  · rw [if_neg (by simp [h1])] at h
    by_cases h2 : r < f ∨ 1099511627776 < r
    · rw [if_pos h2] at h; cases h
    · rw [if_neg h2] at h
      by_cases h3 : 1099511627776 < s + (r - f) * n / d
      · rw [if_pos h3] at h; cases h
      · exact ⟨rfl, by omega, by omega, by omega⟩

/-- The program's Local, whatever it is asked. -/
theorem local_any (f s n d r : Int) (w : World) : Calls Try.prog 14 #[.agg #[.int .i64 f, .int .i64 s, .int .i64 n, .int .i64 d], .int .i64 r] w fun e w' => e = .returned (.tuple #[.int .i64 (localV f s n d r), errV (localE f s n d r)]) ∧ Below w.heap.size w w' := by
  unfold localV
  cases h : rightB f s n d
  · have he : localE f s n d r = 1 := by unfold localE; rw [if_pos h]
    rw [he, errV_1]
    exact local_arg f s n d r w h
  · by_cases h1 : f ≤ r
    · by_cases h2 : r ≤ 1099511627776
      · by_cases h3 : s + (r - f) * n / d ≤ 1099511627776
        · have he : localE f s n d r = 0 := by unfold localE; rw [if_neg (by simp [h]), if_neg (by omega), if_neg (by omega)]
          rw [he, errV_0]
          exact local_ok f s n d r w h h1 h2 h3
        · have he : localE f s n d r = 2 := by unfold localE; rw [if_neg (by simp [h]), if_neg (by omega), if_pos (by omega)]
          rw [he, errV_2]
          exact local_high f s n d r w h h1 h2 (by omega)
      · have he : localE f s n d r = 2 := by unfold localE; rw [if_neg (by simp [h]), if_pos (.inr (by omega))]
        rw [he, errV_2]
        exact local_late f s n d r w h (by omega)
    · have he : localE f s n d r = 2 := by unfold localE; rw [if_neg (by simp [h]), if_pos (.inl (by omega))]
      rw [he, errV_2]
      exact local_early f s n d r w h (by omega)
end Go.Proofs.Ytlpojkehbhkdiaa
