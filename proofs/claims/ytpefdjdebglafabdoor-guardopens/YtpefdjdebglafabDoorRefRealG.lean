/- The document's answer's Real, by halves: its ways. -/
import Derived.Test.YtpefdjdebglafabDoorRefRight
import Derived.Test.YtpefdjdebglafabDoorRefShows
import Derived.Test.YtpefdjdebglafabDoorClockBox
import Derived.Test.YtpefdjdebglafabDoorMath
import Derived.Test.YtpefdjdebglafabDoorGuardWords
namespace Go.Proofs.YtpefdjdebglafabDoor
open Go.RowKit

set_option maxHeartbeats 1000000 in
theorem refReal_arg (f s n d l : Int) (w : World) (h : rightB f s n d = false) :
    Calls Tryd.prog 35 #[.agg #[.int .i64 f, .int .i64 s, .int .i64 n, .int .i64 d], .int .i64 l] w fun e w' => e = .returned (.tuple #[.int .i64 0, .int .i64 1]) ∧ Below w.heap.size w w' := by
  have HR : Hid (rightB f s n d = false) := h
  clear h
  go_enter Tryd.func35, Tryd.ntmps35
  go_wp2_with fail
  refine (refRight_no f s n d _ HR.out).mono ?_
  rintro e w1 ⟨rfl, hb⟩
  go_wp2
  go_ret2
  exact ⟨rfl, below_box hb⟩

set_option maxHeartbeats 1000000 in
theorem refReal_low (f s n d l : Int) (w : World) (h : rightB f s n d = true) (hl : l < -1099511627776) :
    Calls Tryd.prog 35 #[.agg #[.int .i64 f, .int .i64 s, .int .i64 n, .int .i64 d], .int .i64 l] w fun e w' => e = .returned (.tuple #[.int .i64 0, .int .i64 2]) ∧ Below w.heap.size w w' := by
  have HR : Hid (rightB f s n d = true) := h
  clear h
  have hn : decide (-1099511627776 ≤ l) = false := decide_eq_false (by omega)
  go_enter Tryd.func35, Tryd.ntmps35
  go_wp2_with fail
  refine (refRight_yes f s n d _ HR.out).mono ?_
  rintro e w1 ⟨rfl, hb⟩
  obtain ⟨c0, c1, c2, c3, hz⟩ := box4 hb
  go_wp2_with go_in
  go_ret2
  exact ⟨rfl, below_box hb⟩

set_option maxHeartbeats 1000000 in
theorem refReal_tall (f s n d l : Int) (w : World) (h : rightB f s n d = true) (hl : 1099511627776 < l) :
    Calls Tryd.prog 35 #[.agg #[.int .i64 f, .int .i64 s, .int .i64 n, .int .i64 d], .int .i64 l] w fun e w' => e = .returned (.tuple #[.int .i64 0, .int .i64 2]) ∧ Below w.heap.size w w' := by
  have HR : Hid (rightB f s n d = true) := h
  clear h
  have hn : decide (l ≤ 1099511627776) = false := decide_eq_false (by omega)
  have hn2 : -1099511627776 ≤ l := by omega
  go_enter Tryd.func35, Tryd.ntmps35
  go_wp2_with fail
  refine (refRight_yes f s n d _ HR.out).mono ?_
  rintro e w1 ⟨rfl, hb⟩
  obtain ⟨c0, c1, c2, c3, hz⟩ := box4 hb
  go_wp2_with go_in
  go_ret2
  exact ⟨rfl, below_box hb⟩

set_option maxHeartbeats 1000000 in
theorem refReal_late (f s n d l : Int) (w : World) (h : rightB f s n d = true) (hl : -1099511627776 ≤ l) (hl2 : l ≤ 1099511627776) (hv : s + (1099511627776 - f) * n / d < l) :
    Calls Tryd.prog 35 #[.agg #[.int .i64 f, .int .i64 s, .int .i64 n, .int .i64 d], .int .i64 l] w fun e w' => e = .returned (.tuple #[.int .i64 0, .int .i64 2]) ∧ Below w.heap.size w w' := by
  have hf := (right_of h).2.1
  have HR : Hid (rightB f s n d = true) := h
  clear h
  go_enter Tryd.func35, Tryd.ntmps35
  go_wp2_with fail
  refine (refRight_yes f s n d _ HR.out).mono ?_
  rintro e w1 ⟨rfl, hb⟩
  obtain ⟨c0, c1, c2, c3, hz⟩ := box4 hb
  go_wp2_with (first | (go_at_call 22; go_in))
  refine (shows_any f s n d 1099511627776 _ HR.out hf (Int.le_refl _)).mono ?_
  rintro e w2 ⟨rfl, hb2⟩
  go_wp2
  go_ret2
  exact ⟨rfl, (below_box hb).trans (hb2.mono (Nat.le_of_lt hz))⟩

set_option maxHeartbeats 1000000 in
theorem refReal_ok (f s n d l T : Int) (w : World) (h : rightB f s n d = true) (hl : -1099511627776 ≤ l) (hl2 : l ≤ 1099511627776) (hT1 : f ≤ T) (hT2 : T ≤ 1099511627776)
    (hiff : ∀ t, f ≤ t → t ≤ 1099511627776 → (l ≤ s + (t - f) * n / d ↔ T ≤ t)) :
    Calls Tryd.prog 35 #[.agg #[.int .i64 f, .int .i64 s, .int .i64 n, .int .i64 d], .int .i64 l] w fun e w' => e = .returned (.tuple #[.int .i64 T, .int .i64 0]) ∧ Below w.heap.size w w' := by
  have hf := (right_of h).2.1
  have hf0 := (right_of h).1
  have hM : l ≤ s + (1099511627776 - f) * n / d := (hiff 1099511627776 hf (Int.le_refl _)).2 hT2
  have HR : Hid (rightB f s n d = true) := h
  have HI : Hid (∀ t, f ≤ t → t ≤ 1099511627776 → (l ≤ s + (t - f) * n / d ↔ T ≤ t)) := hiff
  clear h hiff
  go_enter Tryd.func35, Tryd.ntmps35
  go_wp2_with fail
  refine (refRight_yes f s n d _ HR.out).mono ?_
  rintro e w1 ⟨rfl, hb⟩
  obtain ⟨c0, c1, c2, c3, hz⟩ := box4 hb
  go_wp2_with (first | (go_at_call 22; go_in))
  refine (shows_any f s n d 1099511627776 _ HR.out hf (Int.le_refl _)).mono ?_
  rintro e w2 ⟨rfl, hb2⟩
  have d0 : w2.cell? ⟨w.heap.size, 0, none⟩ = some (.int .i64 f) := by rw [hb2.cell hz]; exact c0
  have d1 : w2.cell? ⟨w.heap.size, 1, none⟩ = some (.int .i64 s) := by rw [hb2.cell hz]; exact c1
  have d2 : w2.cell? ⟨w.heap.size, 2, none⟩ = some (.int .i64 n) := by rw [hb2.cell hz]; exact c2
  have d3 : w2.cell? ⟨w.heap.size, 3, none⟩ = some (.int .i64 d) := by rw [hb2.cell hz]; exact c3
  clear c0 c1 c2 c3
  have hz2 := Nat.lt_of_lt_of_le hz hb2.size
  have hB : Below w.heap.size w w2 := (below_box hb).trans (hb2.mono (Nat.le_of_lt hz))
  clear hb hb2 hz
  go_wp2_with fail
  go_loopw [6, 7] (fun lo hi wr => ∃ a b : Int, lo = .int .i64 a ∧ hi = .int .i64 b ∧ f ≤ a ∧ a ≤ T ∧ T ≤ b ∧ b ≤ 1099511627776 ∧ Below w2.heap.size w2 wr) (fun lo hi _ => (intOf hi - intOf lo).toNat)
  case atStart => exact ⟨f, 1099511627776, rfl, rfl, Int.le_refl _, hT1, hT2, Int.le_refl _, Below.refl _ _⟩
  case round =>
    obtain ⟨a, b, rfl, rfl, k1, k2, k3, k4, hb3⟩ := hrel
    have hz3 := Nat.lt_of_lt_of_le hz2 hb3.size
    have e0 : wr.cell? ⟨w.heap.size, 0, none⟩ = some (.int .i64 f) := by rw [hb3.cell hz2]; exact d0
    have e1 : wr.cell? ⟨w.heap.size, 1, none⟩ = some (.int .i64 s) := by rw [hb3.cell hz2]; exact d1
    have e2 : wr.cell? ⟨w.heap.size, 2, none⟩ = some (.int .i64 n) := by rw [hb3.cell hz2]; exact d2
    have e3 : wr.cell? ⟨w.heap.size, 3, none⟩ = some (.int .i64 d) := by rw [hb3.cell hz2]; exact d3
    clear hM
    by_cases hlt : a < b
    · go_wp2_with fail
      refine (shows_any f s n d ((a + b) / 2) _ HR.out (by omega) (by omega)).mono ?_
      rintro e w3 ⟨rfl, hb4⟩
      have hb5 : Below w2.heap.size w2 w3 := hb3.trans (hb4.mono hb3.size)
      by_cases hT : T ≤ (a + b) / 2
      · have ht : l ≤ s + ((a + b) / 2 - f) * n / d := (HI.out _ (by omega) (by omega)).2 hT
        go_wp2
        go_roundw
        case rel => exact ⟨a, (a + b) / 2, rfl, rfl, k1, k2, hT, by omega, hb5⟩
        case measure => simp [intOf]; omega
      · have ht : s + ((a + b) / 2 - f) * n / d < l := by
          rcases Int.lt_or_le (s + ((a + b) / 2 - f) * n / d) l with g | g
          · exact g
          · exact absurd ((HI.out _ (by omega) (by omega)).1 g) hT
        go_wp2
        go_roundw
        case rel => exact ⟨(a + b) / 2 + 1, b, rfl, rfl, by omega, by omega, k3, k4, hb5⟩
        case measure => simp [intOf]; omega
    · have ea : a = T := by omega
      subst ea
      go_wp2
      go_ret2
      exact ⟨rfl, hB.trans (hb3.mono (Nat.le_of_lt hz2))⟩

/-- The document's answer's Real, whatever it is asked. -/
theorem refReal_any (f s n d l : Int) (w : World) : Calls Tryd.prog 35 #[.agg #[.int .i64 f, .int .i64 s, .int .i64 n, .int .i64 d], .int .i64 l] w fun e w' => e = .returned (.tuple #[.int .i64 (realV f s n d l), .int .i64 (realE f s n d l)]) ∧ Below w.heap.size w w' := by
  cases h : rightB f s n d
  · rw [realV_bad (by rw [realE_1 h]; decide), realE_1 h]
    exact refReal_arg f s n d l w h
  · obtain ⟨h1, h2, h3, h4, h5, h6, h7, h8, h9, h10⟩ := right_of h
    by_cases hl : -1099511627776 ≤ l
    · by_cases hl2 : l ≤ 1099511627776
      · by_cases hv : realT f s n d l ≤ 1099511627776
        · rw [realV_ok (realE_0 h hl hl2 hv), realE_0 h hl hl2 hv]
          exact refReal_ok f s n d l _ w h hl hl2 (realT_from h) hv (fun t ht _ => realT_iff h ht)
        · rw [realV_bad (by rw [realE_late h hl hl2 (by omega)]; decide), realE_late h hl hl2 (by omega)]
          refine refReal_late f s n d l w h hl hl2 ?_
          have := (realT_iff (l := l) h (t := 1099511627776) h2).1
          rcases Int.lt_or_le (s + (1099511627776 - f) * n / d) l with q | q
          · exact q
          · exact absurd (this q) hv
      · rw [realV_bad (by rw [realE_far h (.inr (by omega))]; decide), realE_far h (.inr (by omega))]
        exact refReal_tall f s n d l w h (by omega)
    · rw [realV_bad (by rw [realE_far h (.inl (by omega))]; decide), realE_far h (.inl (by omega))]
      exact refReal_low f s n d l w h (by omega)
end Go.Proofs.YtpefdjdebglafabDoor
