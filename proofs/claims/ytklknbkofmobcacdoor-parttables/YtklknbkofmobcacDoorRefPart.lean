/- The document's answer's Windows and At (9.1): new memory alone is made. -/
import Derived.Test.YtklknbkofmobcacDoorPartWords
import Derived.Test.YtklknbkofmobcacDoorRefWinAny
import Derived.Test.YtklknbkofmobcacDoorFine0
import Derived.Test.YtklknbkofmobcacDoorBareAt
import Derived.Test.YtklknbkofmobcacDoorInAny
import Derived.Test.YtklknbkofmobcacDoorBox2
import Derived.Deep.RegionHeld3
import Derived.BigQuiet
namespace Go.Proofs.YtklknbkofmobcacDoor
open Go.RowKit

set_option maxRecDepth 100000 in
set_option maxHeartbeats 1000000 in
theorem refWindows_any (pt fr to : Nat → Int) (frame e i : Int) (a : Option Addr) (n cap : Nat) (w : World) (hn : n ≤ 1000) (hr : Rows3 w a n pt fr to) (hfine : Fine0 w) (hF : FirstBad (winErr pt fr to frame) n e i) :
    Calls Tryd.prog 5 #[.int .i64 frame, .slice a n cap] w fun ev w' => ev = .returned (.agg #[.int .i64 (winK frame n e), .int .i64 (winP frame n e i)]) ∧ Below w.heap.size w w' := by
  have hin := in_is frame 1 1099511627776
  have hbf := bareF_any
  obtain ⟨V, hV⟩ : ∃ V, w.alloc (.cells #[.int .i64 0, .int .i64 0] 31) = V := ⟨_, rfl⟩
  have hB : Below w.heap.size w V := by rw [← hV]; exact (Below.refl w.heap.size w).alloc (Nat.le_refl _) _
  have HX : Hid (Box2 V w.heap.size (.int .i64 0) (.int .i64 0)) := by rw [← hV]; exact box2_new _ _ _ _
  have HR : Hid (Rows3 V a n pt fr to) := hr.below hB
  have HFi : Hid (Fine0 V) := hfine.below hB
  have HB : Hid (Below w.heap.size w V) := hB
  obtain ⟨x0, x1, xz, xl⟩ := HX.out
  have xz0 := xz 0
  have xz1 := xz 1
  clear hr hfine hB xz
  unfold winK winP
  by_cases h1 : 1 ≤ frame ∧ frame ≤ 1099511627776
  · rw [decide_eq_true h1] at hin
    simp only [h1]
    by_cases h2 : 32 < n
    · simp only [if_pos h2]
      have k2 : (32 : Int) < (n : Int) := by omega
      clear h1 h2
      go_enter Tryd.func5, Tryd.ntmps5
      go_wp2_with fail
      refine (hin _).mono ?_
      rintro ev w1 ⟨rfl, q⟩
      replace q := q.symm
      subst q
      clear hV
      go_wp2_with fail
      refine (hbf _ _).mono ?_
      rintro ev u ⟨rfl, hu⟩
      have HXu : Hid (Box2 u w.heap.size (.int .i64 0) (.int .i64 0)) := HX.out.below hu
      clear x0 x1 xz0 xz1 xl
      obtain ⟨x0, x1, xz, xl⟩ := HXu.out
      have xz0 := xz 0
      have xz1 := xz 1
      have HBu : Hid (Below w.heap.size w u) := HB.out.trans (hu.mono HB.out.size)
      clear xz hu
      go_wp2
      obtain ⟨s0, s1, s2⟩ := HXu.out.put HBu.out (.int .i64 4) (.int .i64 (-1))
      exact bodyPost_ret (v := .agg #[.int .i64 4, .int .i64 (-1)]) (by simp [results, Tryd.results5, go_sem, s0, s1]) rfl ⟨rfl, s2⟩
    · simp only [if_neg h2]
      have k2 : decide ((32 : Int) < (n : Int)) = false := decide_eq_false (by omega)
      have hwi := windows_any pt fr to frame e i a n cap V hn HR.out hF
      have f0 := HFi.out
      clear h1 h2 hF
      by_cases he : e = 0
      · subst he
        simp only [if_true]
        go_enter Tryd.func5, Tryd.ntmps5
        go_wp2_with fail
        refine (hin _).mono ?_
        rintro ev w1 ⟨rfl, q⟩
        replace q := q.symm
        subst q
        clear hV
        go_wp2_with fail
        refine hwi.mono ?_
        rintro ev u ⟨rfl, hu⟩
        have HXu : Hid (Box2 u w.heap.size (.int .i64 0) (.int .i64 0)) := HX.out.below hu
        obtain ⟨fl, fc0, fc1⟩ := HFi.out.below hu
        clear x0 x1 xz0 xz1 xl f0
        obtain ⟨x0, x1, xz, xl⟩ := HXu.out
        have xz0 := xz 0
        have xz1 := xz 1
        have HBu : Hid (Below w.heap.size w u) := HB.out.trans (hu.mono HB.out.size)
        clear xz hu
        go_wp2
        obtain ⟨s0, s1, s2⟩ := HXu.out.put HBu.out (.int .i64 0) (.int .i64 (-1))
        exact bodyPost_ret (v := .agg #[.int .i64 0, .int .i64 (-1)]) (by simp [results, Tryd.results5, go_sem, s0, s1]) rfl ⟨rfl, s2⟩
      · simp only [if_neg he]
        have he1 : (e != 0) = true := by simpa using he
        have he2 : (e == 0) = false := by simpa using he
        clear he f0
        go_enter Tryd.func5, Tryd.ntmps5
        go_wp2_with fail
        refine (hin _).mono ?_
        rintro ev w1 ⟨rfl, q⟩
        replace q := q.symm
        subst q
        clear hV
        go_wp2_with fail
        refine hwi.mono ?_
        rintro ev u ⟨rfl, hu⟩
        have HXu : Hid (Box2 u w.heap.size (.int .i64 0) (.int .i64 0)) := HX.out.below hu
        clear x0 x1 xz0 xz1 xl
        obtain ⟨x0, x1, xz, xl⟩ := HXu.out
        have xz0 := xz 0
        have xz1 := xz 1
        have HBu : Hid (Below w.heap.size w u) := HB.out.trans (hu.mono HB.out.size)
        clear xz hu
        go_wp2
        obtain ⟨s0, s1, s2⟩ := HXu.out.put HBu.out (.int .i64 e) (.int .i64 i)
        exact bodyPost_ret (v := .agg #[.int .i64 e, .int .i64 i]) (by simp [results, Tryd.results5, go_sem, s0, s1]) rfl ⟨rfl, s2⟩
  · rw [decide_eq_false h1] at hin
    simp only [h1, not_false_eq_true, if_true]
    clear h1 hF
    go_enter Tryd.func5, Tryd.ntmps5
    go_wp2_with fail
    refine (hin _).mono ?_
    rintro ev w1 ⟨rfl, q⟩
    replace q := q.symm
    subst q
    clear hV
    go_wp2_with fail
    refine (hbf _ _).mono ?_
    rintro ev u ⟨rfl, hu⟩
    have HXu : Hid (Box2 u w.heap.size (.int .i64 0) (.int .i64 0)) := HX.out.below hu
    clear x0 x1 xz0 xz1 xl
    obtain ⟨x0, x1, xz, xl⟩ := HXu.out
    have xz0 := xz 0
    have xz1 := xz 1
    have HBu : Hid (Below w.heap.size w u) := HB.out.trans (hu.mono HB.out.size)
    clear xz hu
    go_wp2
    obtain ⟨s0, s1, s2⟩ := HXu.out.put HBu.out (.int .i64 2) (.int .i64 (-1))
    exact bodyPost_ret (v := .agg #[.int .i64 2, .int .i64 (-1)]) (by simp [results, Tryd.results5, go_sem, s0, s1]) rfl ⟨rfl, s2⟩
end Go.Proofs.YtklknbkofmobcacDoor
