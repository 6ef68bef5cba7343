/- Real's ways: when a clock shows so much first, or why it doesn't; new memory alone is made. -/
import Derived.Test.YtlpojkehbhkdiaaRight
import Derived.Test.YtlpojkehbhkdiaaClockBox
import Derived.Test.YtlpojkehbhkdiaaGuardWords
import Derived.Test.YtlpojkehbhkdiaaErrV
import Derived.Deep.QuietTactic
import Derived.BigQuiet
namespace Go.Proofs.Ytlpojkehbhkdiaa
open Go.RowKit

set_option maxHeartbeats 1000000 in
theorem real_arg (f s n d l : Int) (w : World) (h : rightB f s n d = false) :
    Calls Try.prog 43 #[.agg #[.int .i64 f, .int .i64 s, .int .i64 n, .int .i64 d], .int .i64 l] w fun e w' => e = .returned (.tuple #[.int .i64 0, .iface 59 (.int .i64 1)]) ∧ Below w.heap.size w w' := by
  have HR : Hid (rightB f s n d = false) := h
  clear h
  have hmf := Try.mf
  go_enter Try.func43, Try.ntmps43
  go_wp2_with (go_at_call 22; refine (right_no f s n d _ HR.out).mono ?_; rintro e w1 ⟨rfl, hb⟩)
  go_ret2
  exact ⟨rfl, below_box hb⟩

set_option maxHeartbeats 1000000 in
theorem real_low (f s n d l : Int) (w : World) (h : rightB f s n d = true) (hl : l < -1099511627776) :
    Calls Try.prog 43 #[.agg #[.int .i64 f, .int .i64 s, .int .i64 n, .int .i64 d], .int .i64 l] w fun e w' => e = .returned (.tuple #[.int .i64 0, .iface 59 (.int .i64 2)]) ∧ Below w.heap.size w w' := by
  obtain ⟨h1, h2, h3, h4, h5, h6, h7, h8, h9, h10⟩ := right_of h
  have HR : Hid (rightB f s n d = true) := h
  clear h
  have hn : decide (-1099511627776 ≤ l) = false := decide_eq_false (by omega)
  have hmf := Try.mf
  go_enter Try.func43, Try.ntmps43
  go_wp2_with (first | (go_at_call 22; refine (right_yes f s n d _ HR.out).mono ?_; rintro e w1 ⟨rfl, hb⟩; obtain ⟨c0, c1, c2, c3, hz⟩ := box4T hb) | go_in)
  go_ret2
  refine ⟨rfl, ?_⟩
  repeat (refine Below.alloc ?_ (by first | omega | (simp; omega) | simp) _)
  exact below_box hb

set_option maxHeartbeats 1000000 in
theorem real_tall (f s n d l : Int) (w : World) (h : rightB f s n d = true) (hl : 1099511627776 < l) :
    Calls Try.prog 43 #[.agg #[.int .i64 f, .int .i64 s, .int .i64 n, .int .i64 d], .int .i64 l] w fun e w' => e = .returned (.tuple #[.int .i64 0, .iface 59 (.int .i64 2)]) ∧ Below w.heap.size w w' := by
  obtain ⟨h1, h2, h3, h4, h5, h6, h7, h8, h9, h10⟩ := right_of h
  have HR : Hid (rightB f s n d = true) := h
  clear h
  have hn : decide (l ≤ 1099511627776) = false := decide_eq_false (by omega)
  have hn2 : -1099511627776 ≤ l := by omega
  have hmf := Try.mf
  go_enter Try.func43, Try.ntmps43
  go_wp2_with (first | (go_at_call 22; refine (right_yes f s n d _ HR.out).mono ?_; rintro e w1 ⟨rfl, hb⟩; obtain ⟨c0, c1, c2, c3, hz⟩ := box4T hb) | go_in)
  go_ret2
  refine ⟨rfl, ?_⟩
  repeat (refine Below.alloc ?_ (by first | omega | (simp; omega) | simp) _)
  exact below_box hb

set_option maxHeartbeats 1000000 in
theorem real_first (f s n d l : Int) (w : World) (h : rightB f s n d = true) (hl : -1099511627776 ≤ l) (hl2 : l ≤ s) :
    Calls Try.prog 43 #[.agg #[.int .i64 f, .int .i64 s, .int .i64 n, .int .i64 d], .int .i64 l] w fun e w' => e = .returned (.tuple #[.int .i64 f, .nilIface]) ∧ Below w.heap.size w w' := by
  obtain ⟨h1, h2, h3, h4, h5, h6, h7, h8, h9, h10⟩ := right_of h
  have HR : Hid (rightB f s n d = true) := h
  clear h
  have hn : l ≤ 1099511627776 := by omega
  have hmf := Try.mf
  go_enter Try.func43, Try.ntmps43
  go_wp2_with (first | (go_at_call 22; refine (right_yes f s n d _ HR.out).mono ?_; rintro e w1 ⟨rfl, hb⟩; obtain ⟨c0, c1, c2, c3, hz⟩ := box4T hb) | go_in)
  go_ret2
  refine ⟨rfl, ?_⟩
  repeat (refine Below.alloc ?_ (by first | omega | (simp; omega) | simp) _)
  exact below_box hb

set_option maxHeartbeats 1000000 in
theorem real_ok (f s n d l : Int) (w : World) (h : rightB f s n d = true) (hl : l ≤ 1099511627776) (hl2 : s < l) (hv : f + ((l - s) * d + n - 1) / n ≤ 1099511627776) :
    Calls Try.prog 43 #[.agg #[.int .i64 f, .int .i64 s, .int .i64 n, .int .i64 d], .int .i64 l] w fun e w' => e = .returned (.tuple #[.int .i64 (f + ((l - s) * d + n - 1) / n), .nilIface]) ∧ Below w.heap.size w w' := by
  obtain ⟨h1, h2, h3, h4, h5, h6, h7, h8, h9, h10⟩ := right_of h
  have HR : Hid (rightB f s n d = true) := h
  clear h
  have hn : l ≤ 1099511627776 := hl
  have hn2 : -1099511627776 ≤ l := by omega
  obtain ⟨p1, p2⟩ := prod_bounds (x := l - s) (n := d) (M := 2199023255552) (R := 1000000) (by omega) (by omega) h7 h8
  obtain ⟨q1, q2⟩ := up_bounds (x := l - s) (n := n) (d := d) (M := 2199023255552) (by omega) (by omega) h5 h7 h10
  have hmf := Try.mf
  go_enter Try.func43, Try.ntmps43
  go_wp2_with (first | (go_at_call 22; refine (right_yes f s n d _ HR.out).mono ?_; rintro e w1 ⟨rfl, hb⟩; obtain ⟨c0, c1, c2, c3, hz⟩ := box4T hb) | go_in)
  go_quiet (fail)
  go_wp2
  go_ret2
  refine ⟨rfl, below_drewN ?_ _⟩
  repeat (refine Below.alloc ?_ (by first | omega | (simp; omega) | simp) _)
  exact below_box hb

set_option maxHeartbeats 1000000 in
theorem real_late (f s n d l : Int) (w : World) (h : rightB f s n d = true) (hl : l ≤ 1099511627776) (hl2 : s < l) (hv : 1099511627776 < f + ((l - s) * d + n - 1) / n) :
    Calls Try.prog 43 #[.agg #[.int .i64 f, .int .i64 s, .int .i64 n, .int .i64 d], .int .i64 l] w fun e w' => e = .returned (.tuple #[.int .i64 0, .iface 59 (.int .i64 2)]) ∧ Below w.heap.size w w' := by
  obtain ⟨h1, h2, h3, h4, h5, h6, h7, h8, h9, h10⟩ := right_of h
  have HR : Hid (rightB f s n d = true) := h
  clear h
  have hn : l ≤ 1099511627776 := hl
  have hn2 : -1099511627776 ≤ l := by omega
  obtain ⟨p1, p2⟩ := prod_bounds (x := l - s) (n := d) (M := 2199023255552) (R := 1000000) (by omega) (by omega) h7 h8
  obtain ⟨q1, q2⟩ := up_bounds (x := l - s) (n := n) (d := d) (M := 2199023255552) (by omega) (by omega) h5 h7 h10
  have hmf := Try.mf
  go_enter Try.func43, Try.ntmps43
  go_wp2_with (first | (go_at_call 22; refine (right_yes f s n d _ HR.out).mono ?_; rintro e w1 ⟨rfl, hb⟩; obtain ⟨c0, c1, c2, c3, hz⟩ := box4T hb) | go_in)
  go_quiet (fail)
  go_wp2
  go_ret2
  refine ⟨rfl, below_drewN ?_ _⟩
  repeat (refine Below.alloc ?_ (by first | omega | (simp; omega) | simp) _)
  exact below_box hb


/-- The program's Real, whatever it is asked. -/
theorem real_any (f s n d l : Int) (w : World) : Calls Try.prog 43 #[.agg #[.int .i64 f, .int .i64 s, .int .i64 n, .int .i64 d], .int .i64 l] w fun e w' => e = .returned (.tuple #[.int .i64 (realV f s n d l), errV (realE f s n d l)]) ∧ Below w.heap.size w w' := by
  cases h : rightB f s n d
  · rw [realV_bad (by rw [realE_1 h]; decide), realE_1 h, errV_1]
    exact real_arg f s n d l w h
  · obtain ⟨h1, h2, h3, h4, h5, h6, h7, h8, h9, h10⟩ := right_of h
    by_cases hl : -1099511627776 ≤ l
    · by_cases hl2 : l ≤ 1099511627776
      · by_cases hs : l ≤ s
        · have ht : realT f s n d l = f := by unfold realT; rw [if_pos hs]
          have he := realE_0 h hl hl2 (by rw [ht]; exact h2)
          rw [realV_ok he, he, ht, errV_0]
          exact real_first f s n d l w h hl hs
        · have ht : realT f s n d l = f + ((l - s) * d + n - 1) / n := by unfold realT; rw [if_neg hs]
          by_cases hv : f + ((l - s) * d + n - 1) / n ≤ 1099511627776
          · have he := realE_0 h hl hl2 (by rw [ht]; exact hv)
            rw [realV_ok he, he, ht, errV_0]
            exact real_ok f s n d l w h hl2 (by omega) hv
          · have he := realE_late h hl hl2 (by rw [ht]; omega)
            rw [realV_bad (by rw [he]; decide), he, errV_2]
            exact real_late f s n d l w h hl2 (by omega) (by omega)
      · rw [realV_bad (by rw [realE_far h (.inr (by omega))]; decide), realE_far h (.inr (by omega)), errV_2]
        exact real_tall f s n d l w h (by omega)
    · rw [realV_bad (by rw [realE_far h (.inl (by omega))]; decide), realE_far h (.inl (by omega)), errV_2]
      exact real_low f s n d l w h (by omega)
end Go.Proofs.Ytlpojkehbhkdiaa
