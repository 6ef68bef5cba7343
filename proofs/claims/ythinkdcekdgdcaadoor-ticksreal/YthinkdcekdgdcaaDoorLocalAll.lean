/- TicksLocal and TicksReal: of every clock and every number the program's answer is the document's answer's. -/
import Derived.Test.YthinkdcekdgdcaaDoorLocalLaw
namespace Go.Proofs.YthinkdcekdgdcaaDoor
open Go.RowKit

theorem local_all (f s n d r : Int) (w : World) (hg : Told w) :
    Calls Tryd.prog 3 #[.agg #[.int .i64 f, .int .i64 s, .int .i64 n, .int .i64 d], .int .i64 r] w fun e w' => e = .returned (.bool true) ∧ Below w.heap.size w w' := by
  cases h : rightB f s n d
  · exact local_walk f s n d r 0 1 _ w hg (fun w => refLocal_arg f s n d r w h) (fun w => local_arg f s n d r w h) (bare_e 1)
  · by_cases h1 : f ≤ r
    · by_cases h2 : r ≤ 1099511627776
      · by_cases h3 : s + (r - f) * n / d ≤ 1099511627776
        · exact local_walk f s n d r _ 0 _ w hg (fun w => refLocal_ok f s n d r w h h1 h2 h3) (fun w => local_ok f s n d r w h h1 h2 h3) bare_nil
        · exact local_walk f s n d r 0 2 _ w hg (fun w => refLocal_high f s n d r w h h1 h2 (by omega)) (fun w => local_high f s n d r w h h1 h2 (by omega)) (bare_e 2)
      · exact local_walk f s n d r 0 2 _ w hg (fun w => refLocal_late f s n d r w h (by omega)) (fun w => local_late f s n d r w h (by omega)) (bare_e 2)
    · exact local_walk f s n d r 0 2 _ w hg (fun w => refLocal_early f s n d r w h (by omega)) (fun w => local_early f s n d r w h (by omega)) (bare_e 2)

theorem real_all (f s n d l : Int) (w : World) (hg : Told w) :
    Calls Tryd.prog 4 #[.agg #[.int .i64 f, .int .i64 s, .int .i64 n, .int .i64 d], .int .i64 l] w fun e w' => e = .returned (.bool true) ∧ Below w.heap.size w w' := by
  cases h : rightB f s n d
  · exact real_walk f s n d l 0 1 _ w hg (fun w => refReal_arg f s n d l w h) (fun w => real_arg f s n d l w h) (bare_e 1)
  · obtain ⟨h1, h2, h3, h4, h5, h6, h7, h8, h9, h10⟩ := right_of h
    by_cases hl : -1099511627776 ≤ l
    · by_cases hl2 : l ≤ 1099511627776
      · by_cases hs : l ≤ s
        · refine real_walk f s n d l f 0 _ w hg (fun w => refReal_ok f s n d l f w h hl hl2 (Int.le_refl _) h2 fun t ht _ => ⟨fun _ => ht, fun _ => ?_⟩) (fun w => real_first f s n d l w h hl hs) bare_nil
          have := quo_bounds (x := t - f) (n := n) (d := d) (M := t - f) (by omega) (Int.le_refl _) h5 h7 h9
          omega
        · have hone := up_one (x := l - s) (n := n) (d := d) (by omega) h5 h7
          have hen := up_enough (x := l - s) (n := n) (d := d) h5 h7
          have hle := up_least (x := l - s) (n := n) (d := d) h5 h7
          by_cases hv : f + ((l - s) * d + n - 1) / n ≤ 1099511627776
          · refine real_walk f s n d l _ 0 _ w hg (fun w => refReal_ok f s n d l (f + ((l - s) * d + n - 1) / n) w h hl hl2 (by omega) hv fun t ht _ => ⟨fun g => ?_, fun g => ?_⟩) (fun w => real_ok f s n d l w h hl2 (by omega) hv) bare_nil
            · rcases Int.lt_or_le t (f + ((l - s) * d + n - 1) / n) with q | q
              · have := shows_mono (p := t - f) (q := ((l - s) * d + n - 1) / n - 1) (n := n) (d := d) (by omega) h5 h7
                omega
              · exact q
            · have := shows_mono (p := ((l - s) * d + n - 1) / n) (q := t - f) (n := n) (d := d) (by omega) h5 h7
              omega
          · refine real_walk f s n d l 0 2 _ w hg (fun w => refReal_late f s n d l w h hl hl2 ?_) (fun w => real_late f s n d l w h hl2 (by omega) (by omega)) (bare_e 2)
            have := shows_mono (p := 1099511627776 - f) (q := ((l - s) * d + n - 1) / n - 1) (n := n) (d := d) (by omega) h5 h7
            omega
      · exact real_walk f s n d l 0 2 _ w hg (fun w => refReal_tall f s n d l w h (by omega)) (fun w => real_tall f s n d l w h (by omega)) (bare_e 2)
    · exact real_walk f s n d l 0 2 _ w hg (fun w => refReal_low f s n d l w h (by omega)) (fun w => real_low f s n d l w h (by omega)) (bare_e 2)
end Go.Proofs.YthinkdcekdgdcaaDoor
