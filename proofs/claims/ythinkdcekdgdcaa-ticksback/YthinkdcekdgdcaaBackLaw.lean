/- TicksBack's law: of every clock and all numbers the call answers true, and makes new memory alone. -/
import Derived.Test.YthinkdcekdgdcaaMath
import Derived.Test.YthinkdcekdgdcaaBack1
import Derived.Test.YthinkdcekdgdcaaBack2
import Derived.Test.YthinkdcekdgdcaaBack3
import Derived.Test.YthinkdcekdgdcaaBack4
namespace Go.Proofs.Ythinkdcekdgdcaa
open Go.RowKit

theorem local_cases (f s n d r : Int) :
    (∃ k, LocalSays f s n d r 0 (.iface 30 (.int .i64 k))) ∨
      (rightB f s n d = true ∧ f ≤ r ∧ r ≤ 1099511627776 ∧ LocalSays f s n d r (s + (r - f) * n / d) .nilIface) := by
  cases h : rightB f s n d
  · exact .inl ⟨1, fun w => local_arg f s n d r w h⟩
  · by_cases h1 : f ≤ r
    · by_cases h2 : r ≤ 1099511627776
      · by_cases h3 : s + (r - f) * n / d ≤ 1099511627776
        · exact .inr ⟨rfl, h1, h2, fun w => local_ok f s n d r w h h1 h2 h3⟩
        · exact .inl ⟨2, fun w => local_high f s n d r w h h1 h2 (by omega)⟩
      · exact .inl ⟨2, fun w => local_late f s n d r w h (by omega)⟩
    · exact .inl ⟨2, fun w => local_early f s n d r w h (by omega)⟩

/-- What Real finds: an error; or a time at which so much is shown (if Local answers there), and less one ahead. -/
theorem real_cases (f s n d l : Int) :
    (∃ k, RealSays f s n d l 0 (.iface 30 (.int .i64 k))) ∨
      (∃ t, 0 ≤ t ∧ t ≤ 1099511627776 ∧ RealSays f s n d l t .nilIface ∧
        ((∃ k, LocalSays f s n d t 0 (.iface 30 (.int .i64 k))) ∨
          ∃ v, l ≤ v ∧ LocalSays f s n d t v .nilIface ∧
            ((∃ k, LocalSays f s n d (t - 1) 0 (.iface 30 (.int .i64 k))) ∨ ∃ m, m < l ∧ LocalSays f s n d (t - 1) m .nilIface))) := by
  cases h : rightB f s n d
  · exact .inl ⟨1, fun w => real_arg f s n d l w h⟩
  · obtain ⟨h1, h2, h3, h4, h5, h6, h7, h8, h9, h10⟩ := right_of h
    by_cases hl : -1099511627776 ≤ l
    · by_cases hl2 : l ≤ 1099511627776
      · by_cases hs : l ≤ s
        · refine .inr ⟨f, h1, h2, fun w => real_first f s n d l w h hl hs, .inr ⟨s, hs, ?_, .inl ⟨2, fun w => local_early f s n d (f - 1) w h (by omega)⟩⟩⟩
          intro w
          have e : s + (f - f) * n / d = s := by simp
          have := local_ok f s n d f w h (Int.le_refl _) h2 (by rw [e]; exact h4)
          rw [e] at this
          exact this
        · by_cases hv : f + ((l - s) * d + n - 1) / n ≤ 1099511627776
          · have hone := up_one (x := l - s) (n := n) (d := d) (by omega) h5 h7
            have hen := up_enough (x := l - s) (n := n) (d := d) h5 h7
            have hle := up_least (x := l - s) (n := n) (d := d) h5 h7
            refine .inr ⟨f + ((l - s) * d + n - 1) / n, by omega, hv, fun w => real_ok f s n d l w h hl2 (by omega) hv, ?_⟩
            have e1 : f + ((l - s) * d + n - 1) / n - f = ((l - s) * d + n - 1) / n := by omega
            have e2 : f + ((l - s) * d + n - 1) / n - 1 - f = ((l - s) * d + n - 1) / n - 1 := by omega
            by_cases hh : s + (f + ((l - s) * d + n - 1) / n - f) * n / d ≤ 1099511627776
            · refine .inr ⟨_, ?_, fun w => local_ok f s n d _ w h (by omega) hv hh, .inr ⟨_, ?_, fun w => local_ok f s n d _ w h (by omega) (by omega) ?_⟩⟩
              · rw [e1]; omega
              · rw [e2]; omega
              · rw [e2]; omega
            · exact .inl ⟨2, fun w => local_high f s n d _ w h (by omega) hv (by omega)⟩
          · exact .inl ⟨2, fun w => real_late f s n d l w h hl2 (by omega) (by omega)⟩
      · exact .inl ⟨2, fun w => real_tall f s n d l w h (by omega)⟩
    · exact .inl ⟨2, fun w => real_low f s n d l w h (by omega)⟩

theorem local_mono {f s n d p q x y : Int} (h : rightB f s n d = true) (hpq : p ≤ q) (hx : x = s + (p - f) * n / d) (hy : y = s + (q - f) * n / d) : x ≤ y := by
  obtain ⟨h1, h2, h3, h4, h5, h6, h7, h8, h9, h10⟩ := right_of h
  have := shows_mono (p := p - f) (q := q - f) (n := n) (d := d) (by omega) h5 h7
  omega

theorem back_any (f s n d l a b : Int) (w : World) :
    Calls Try.prog 3 #[.agg #[.int .i64 f, .int .i64 s, .int .i64 n, .int .i64 d], .int .i64 l, .int .i64 a, .int .i64 b] w fun e w' => e = .returned (.bool true) ∧ Below w.heap.size w w' := by
  rcases Int.lt_trichotomy a b with hab | hab | hab
  · rcases real_cases f s n d l with ⟨k, hR⟩ | ⟨t, ht, ht2, hR, ⟨k, h1⟩ | ⟨v, hv, h1, ⟨k2, h2⟩ | ⟨m, hm, h2⟩⟩⟩
    · rcases local_cases f s n d a with ⟨k3, h3⟩ | ⟨hr, _, _, h3⟩
      · rcases local_cases f s n d b with ⟨k4, h4⟩ | ⟨_, _, _, h4⟩
        · exact back_101 f s n d l a b k k3 0 w hR hab _ h3 h4
        · exact back_101 f s n d l a b k k3 _ w hR hab _ h3 h4
      · rcases local_cases f s n d b with ⟨k4, h4⟩ | ⟨_, _, _, h4⟩
        · exact back_102 f s n d l a b k _ k4 w hR hab h3 h4
        · exact back_103 f s n d l a b k _ _ w hR hab h3 h4 (local_mono hr (Int.le_of_lt hab) rfl rfl)
    · exact back_200 f s n d l a b t k w hR h1
    · rcases local_cases f s n d a with ⟨k3, h3⟩ | ⟨hr, _, _, h3⟩
      · rcases local_cases f s n d b with ⟨k4, h4⟩ | ⟨_, _, _, h4⟩
        · exact back_301 f s n d l a b t v k2 k3 0 w hR ht ht2 h1 hv h2 hab _ h3 h4
        · exact back_301 f s n d l a b t v k2 k3 _ w hR ht ht2 h1 hv h2 hab _ h3 h4
      · rcases local_cases f s n d b with ⟨k4, h4⟩ | ⟨_, _, _, h4⟩
        · exact back_302 f s n d l a b t v k2 _ k4 w hR ht ht2 h1 hv h2 hab h3 h4
        · exact back_303 f s n d l a b t v k2 _ _ w hR ht ht2 h1 hv h2 hab h3 h4 (local_mono hr (Int.le_of_lt hab) rfl rfl)
    · rcases local_cases f s n d a with ⟨k3, h3⟩ | ⟨hr, _, _, h3⟩
      · rcases local_cases f s n d b with ⟨k4, h4⟩ | ⟨_, _, _, h4⟩
        · exact back_401 f s n d l a b t v m k3 0 w hR ht ht2 h1 hv h2 hm hab _ h3 h4
        · exact back_401 f s n d l a b t v m k3 _ w hR ht ht2 h1 hv h2 hm hab _ h3 h4
      · rcases local_cases f s n d b with ⟨k4, h4⟩ | ⟨_, _, _, h4⟩
        · exact back_402 f s n d l a b t v m _ k4 w hR ht ht2 h1 hv h2 hm hab h3 h4
        · exact back_403 f s n d l a b t v m _ _ w hR ht ht2 h1 hv h2 hm hab h3 h4 (local_mono hr (Int.le_of_lt hab) rfl rfl)
  · subst hab
    rcases real_cases f s n d l with ⟨k, hR⟩ | ⟨t, ht, ht2, hR, ⟨k, h1⟩ | ⟨v, hv, h1, ⟨k2, h2⟩ | ⟨m, hm, h2⟩⟩⟩
    · rcases local_cases f s n d a with ⟨k3, h3⟩ | ⟨_, _, _, h3⟩
      · exact back_121 f s n d l a k k3 0 w hR _ h3 h3
      · exact back_123 f s n d l a k _ _ w hR h3 h3 (Int.le_refl _)
    · exact back_200 f s n d l a a t k w hR h1
    · rcases local_cases f s n d a with ⟨k3, h3⟩ | ⟨_, _, _, h3⟩
      · exact back_321 f s n d l a t v k2 k3 0 w hR ht ht2 h1 hv h2 _ h3 h3
      · exact back_323 f s n d l a t v k2 _ _ w hR ht ht2 h1 hv h2 h3 h3 (Int.le_refl _)
    · rcases local_cases f s n d a with ⟨k3, h3⟩ | ⟨_, _, _, h3⟩
      · exact back_421 f s n d l a t v m k3 0 w hR ht ht2 h1 hv h2 hm _ h3 h3
      · exact back_423 f s n d l a t v m _ _ w hR ht ht2 h1 hv h2 hm h3 h3 (Int.le_refl _)
  · rcases real_cases f s n d l with ⟨k, hR⟩ | ⟨t, ht, ht2, hR, ⟨k, h1⟩ | ⟨v, hv, h1, ⟨k2, h2⟩ | ⟨m, hm, h2⟩⟩⟩
    · rcases local_cases f s n d b with ⟨k3, h3⟩ | ⟨hr, _, _, h3⟩
      · rcases local_cases f s n d a with ⟨k4, h4⟩ | ⟨_, _, _, h4⟩
        · exact back_111 f s n d l a b k k3 0 w hR hab _ h3 h4
        · exact back_111 f s n d l a b k k3 _ w hR hab _ h3 h4
      · rcases local_cases f s n d a with ⟨k4, h4⟩ | ⟨_, _, _, h4⟩
        · exact back_112 f s n d l a b k _ k4 w hR hab h3 h4
        · exact back_113 f s n d l a b k _ _ w hR hab h3 h4 (local_mono hr (Int.le_of_lt hab) rfl rfl)
    · exact back_200 f s n d l a b t k w hR h1
    · rcases local_cases f s n d b with ⟨k3, h3⟩ | ⟨hr, _, _, h3⟩
      · rcases local_cases f s n d a with ⟨k4, h4⟩ | ⟨_, _, _, h4⟩
        · exact back_311 f s n d l a b t v k2 k3 0 w hR ht ht2 h1 hv h2 hab _ h3 h4
        · exact back_311 f s n d l a b t v k2 k3 _ w hR ht ht2 h1 hv h2 hab _ h3 h4
      · rcases local_cases f s n d a with ⟨k4, h4⟩ | ⟨_, _, _, h4⟩
        · exact back_312 f s n d l a b t v k2 _ k4 w hR ht ht2 h1 hv h2 hab h3 h4
        · exact back_313 f s n d l a b t v k2 _ _ w hR ht ht2 h1 hv h2 hab h3 h4 (local_mono hr (Int.le_of_lt hab) rfl rfl)
    · rcases local_cases f s n d b with ⟨k3, h3⟩ | ⟨hr, _, _, h3⟩
      · rcases local_cases f s n d a with ⟨k4, h4⟩ | ⟨_, _, _, h4⟩
        · exact back_411 f s n d l a b t v m k3 0 w hR ht ht2 h1 hv h2 hm hab _ h3 h4
        · exact back_411 f s n d l a b t v m k3 _ w hR ht ht2 h1 hv h2 hm hab _ h3 h4
      · rcases local_cases f s n d a with ⟨k4, h4⟩ | ⟨_, _, _, h4⟩
        · exact back_412 f s n d l a b t v m _ k4 w hR ht ht2 h1 hv h2 hm hab h3 h4
        · exact back_413 f s n d l a b t v m _ _ w hR ht ht2 h1 hv h2 hm hab h3 h4 (local_mono hr (Int.le_of_lt hab) rfl rfl)

end Go.Proofs.Ythinkdcekdgdcaa
