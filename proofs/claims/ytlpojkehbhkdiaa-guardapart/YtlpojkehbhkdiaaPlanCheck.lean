/- The program's Check: of every plan it answers what plain numbers say (an Errno, or an At around one); new memory alone is made. -/
import Derived.Test.YtlpojkehbhkdiaaPlanWhole
import Derived.Test.YtlpojkehbhkdiaaPlanSlots
import Derived.Test.YtlpojkehbhkdiaaPlanLinks
import Derived.Test.YtlpojkehbhkdiaaPlanWins
namespace Go.Proofs.Ytlpojkehbhkdiaa
open Go.RowKit

theorem headErr_zero {nodes faulty skew jitter drift round frame : Int} {ns nl nw : Nat} (h : headErr nodes faulty skew jitter drift round frame ns nl nw = 0) :
    1 ≤ nodes ∧ nodes ≤ 16 ∧ 0 ≤ faulty ∧ faulty ≤ 5 ∧ (0 ≤ skew ∧ skew ≤ 137438953472) ∧ (0 ≤ jitter ∧ jitter ≤ 137438953472) ∧ (0 ≤ drift ∧ drift ≤ 137438953472) ∧ (1 ≤ round ∧ round ≤ 137438953472) ∧ (1 ≤ frame ∧ frame ≤ 137438953472) ∧ ns ≤ 32 ∧ nl ≤ 8 ∧ nw ≤ 32 := by
  unfold headErr at h
  by_cases h1 : nodes < 1 ∨ 16 < nodes ∨ faulty < 0 ∨ nodes < faulty * 3 + 1
  · simp [h1] at h
  · rw [if_neg h1] at h
    by_cases h2 : skew < 0 ∨ 137438953472 < skew ∨ jitter < 0 ∨ 137438953472 < jitter ∨ drift < 0 ∨ 137438953472 < drift
    · simp [h2] at h
    · rw [if_neg h2] at h
      by_cases h3 : round < 1 ∨ 137438953472 < round ∨ frame < 1 ∨ 137438953472 < frame
      · simp [h3] at h
      · rw [if_neg h3] at h
        by_cases h4 : 32 < ns ∨ 8 < nl ∨ 32 < nw
        · simp [h4] at h
        · omega

theorem pw_boundsP (nodes : Int) (h1 : 1 ≤ nodes) (h2 : nodes ≤ 16) : 2 ≤ (2 : Int) ^ nodes.toNat ∧ (2 : Int) ^ nodes.toNat ≤ 65536 := by
  have : nodes = 1 ∨ nodes = 2 ∨ nodes = 3 ∨ nodes = 4 ∨ nodes = 5 ∨ nodes = 6 ∨ nodes = 7 ∨ nodes = 8 ∨ nodes = 9 ∨ nodes = 10 ∨ nodes = 11 ∨ nodes = 12 ∨ nodes = 13 ∨ nodes = 14 ∨ nodes = 15 ∨ nodes = 16 := by omega
  rcases this with rfl | rfl | rfl | rfl | rfl | rfl | rfl | rfl | rfl | rfl | rfl | rfl | rfl | rfl | rfl | rfl <;> decide

theorem AtIs.err {w : World} {E : Value} {e i : Int} (h : AtIs w E e i) (he : e ≠ 0) : ErrIs w E e i := by
  rcases h with ⟨_, h⟩ | h
  · exact absurd h he
  · exact .inr (.inr h)
theorem AtIs.isNone {w : World} {E : Value} {i : Int} (h : AtIs w E 0 i) : E = .nilIface := by
  rcases h with ⟨h, _⟩ | ⟨_, _, h, _⟩
  · exact h
  · exact absurd rfl h
theorem AtIs.isSome {w : World} {E : Value} {e i : Int} (h : AtIs w E e i) (he : e ≠ 0) : ∃ b, E = .iface 83 (.pointer (some ⟨b, 0, none⟩)) := by
  rcases h with ⟨_, h⟩ | ⟨b, h, _⟩
  · exact absurd h he
  · exact ⟨b, h⟩

set_option maxRecDepth 100000 in
set_option maxHeartbeats 4000000 in
theorem check_any (nodes faulty skew jitter drift round frame : Int) (sa la wa : Option Addr) (ns sc nl lc nw wc : Nat) (nd fr tq lf lt lb lq : Nat → Int) (hit : Nat → Bool) (pw : Int) (wp wf wt : Nat → Int) (E I : Int) (w : World)
    (hs : Rows3 w sa ns nd fr tq) (hl : Rows4 w la nl lf lt lb lq) (hw : Rows3 w wa nw wp wf wt) (hpw : (2 : Int) ^ nodes.toNat = pw) (hhit : ∀ j, 0 ≤ lf j → lf j ≤ 15 → hit j = (bits BinOp.and .i64 (lt j) (2 ^ (lf j).toNat) != 0))
    (hC : CheckIs nodes faulty skew jitter drift round frame ns nl nw nd fr tq lf lt lb lq hit pw wp wf wt E I) :
    Calls Try.prog 11 #[.agg #[.int .i64 nodes, .int .i64 faulty, .int .i64 skew, .int .i64 jitter, .int .i64 drift, .int .i64 round, .slice sa ns sc, .slice la nl lc, .int .i64 frame, .slice wa nw wc]] w fun ev w' => ∃ V, ev = .returned V ∧ ErrIs w' V E I ∧ Below w.heap.size w w' := by
  have HC : Hid (CheckIs nodes faulty skew jitter drift round frame ns nl nw nd fr tq lf lt lb lq hit pw wp wf wt E I) := hC
  have HPW : Hid ((2 : Int) ^ nodes.toNat = pw) := hpw
  have HH : Hid (∀ j, 0 ≤ lf j → lf j ≤ 15 → hit j = (bits BinOp.and .i64 (lt j) (2 ^ (lf j).toNat) != 0)) := hhit
  clear hC hpw hhit
  obtain ⟨hc, hV⟩ := box10 nodes faulty skew jitter drift round frame sa la wa ns sc nl lc nw wc w 26
  replace hs := hs.below hV
  replace hl := hl.below hV
  replace hw := hw.below hV
  go_enter Try.func11, Try.ntmps11
  go_wp2_with fail
  generalize w.alloc (.cells #[.int .i64 nodes, .int .i64 faulty, .int .i64 skew, .int .i64 jitter, .int .i64 drift, .int .i64 round, .slice sa ns sc, .slice la nl lc, .int .i64 frame, .slice wa nw wc] 26) = V at hc hV hs hl hw ⊢
  refine (whole_any nodes faulty skew jitter drift round frame sa la wa ns sc nl lc nw wc _).mono ?_
  rintro ev w1 ⟨rfl, hb1⟩
  obtain ⟨h, hh⟩ : ∃ h, headErr nodes faulty skew jitter drift round frame ns nl nw = h := ⟨_, rfl⟩
  rw [hh]
  by_cases hz : h = 0
  rotate_left
  · have hn : (h == 0) = false := by simpa using hz
    have hn2 : (h != 0) = true := by simpa using hz
    obtain ⟨rfl, rfl⟩ := HC.out.head hh hz
    have HZ : Hid (E ≠ 0) := hz
    clear hz hh
    go_wp2
    go_ret
    exact ⟨_, rfl, .inr (.inl ⟨rfl, HZ.out, rfl⟩), hV.trans (hb1.mono hV.size)⟩
  · subst hz
    have H0 := headErr_zero hh
    obtain ⟨a1, a2, _, _, ⟨b1, b2⟩, _, _, ⟨c1, c2⟩, _, d1, d2, d3⟩ := H0
    obtain ⟨p1, p2⟩ := pw_boundsP nodes a1 a2
    rw [HPW.out] at p1 p2
    have HX : Hid (∃ e1 i1 e2 i2 e3 i3, FirstBad (slotErr nd fr tq nodes skew round) ns e1 i1 ∧ FirstBad (linkErr lf lt lb lq hit nodes pw) nl e2 i2 ∧ FirstBad (winErr wp wf wt frame) nw e3 i3 ∧ PlanRes e1 i1 e2 i2 e3 i3 E I) := by
      rcases HC.out with ⟨q, _⟩ | ⟨_, q⟩
      · exact absurd hh q
      · exact q
    clear HC hh
    obtain ⟨e1, i1, e2, i2, e3, i3, g1, g2, g3, g4⟩ := HX.out
    have HS : Hid (∀ u : World, Below V.heap.size V u → Calls Try.prog 18 #[.agg #[.int .i64 nodes, .int .i64 faulty, .int .i64 skew, .int .i64 jitter, .int .i64 drift, .int .i64 round, .slice sa ns sc, .slice la nl lc, .int .i64 frame, .slice wa nw wc]] u fun ev w' => ∃ E, ev = .returned E ∧ AtIs w' E e1 i1 ∧ Below u.heap.size u w') := fun u hu =>
      slots_any nodes faulty skew jitter drift round frame sa la wa ns sc nl lc nw wc u a1 a2 b1 b2 c1 c2 d1 nd fr tq (hs.below hu) e1 i1 g1
    have HL : Hid (∀ u : World, Below V.heap.size V u → Calls Try.prog 19 #[.agg #[.int .i64 nodes, .int .i64 faulty, .int .i64 skew, .int .i64 jitter, .int .i64 drift, .int .i64 round, .slice sa ns sc, .slice la nl lc, .int .i64 frame, .slice wa nw wc]] u fun ev w' => ∃ E, ev = .returned E ∧ AtIs w' E e2 (1000 + i2) ∧ Below u.heap.size u w') := fun u hu =>
      links_any nodes faulty skew jitter drift round frame sa la wa ns sc nl lc nw wc u a1 a2 d2 lf lt lb lq (hl.below hu) hit pw HPW.out p1 p2 HH.out e2 i2 g2
    have HW : Hid (∀ u : World, Below V.heap.size V u → Calls Try.prog 20 #[.agg #[.int .i64 nodes, .int .i64 faulty, .int .i64 skew, .int .i64 jitter, .int .i64 drift, .int .i64 round, .slice sa ns sc, .slice la nl lc, .int .i64 frame, .slice wa nw wc]] u fun ev w' => ∃ E, ev = .returned E ∧ AtIs w' E e3 (2000 + i3) ∧ Below u.heap.size u w') := fun u hu =>
      wins_any nodes faulty skew jitter drift round frame sa la wa ns sc nl lc nw wc u d3 wp wf wt (hw.below hu) e3 i3 g3
    have HR : Hid (PlanRes e1 i1 e2 i2 e3 i3 E I) := g4
    clear HX g1 g2 g3 g4 HPW HH hs hl hw
    obtain ⟨x0, x1, x2, x3, x4, x5, x6, x7, x8, x9⟩ := hc.below hb1
    go_wp2_with fail
    refine (HS.out _ hb1).mono ?_
    rintro ev w2 ⟨E1, rfl, hE1, hb2⟩
    have hB2 := stepB hb1 hb2
    clear x0 x1 x2 x3 x4 x5 x6 x7 x8 x9
    by_cases z1 : e1 = 0
    rotate_left
    · obtain ⟨b, rfl⟩ := hE1.isSome z1
      have HE : Hid (ErrIs w2 (.iface 83 (.pointer (some ⟨b, 0, none⟩))) E I) := by
        obtain ⟨r1, r2⟩ := HR.out.1 z1
        rw [r1, r2]; exact hE1.err z1
      clear z1 hE1
      go_wp2
      go_ret
      exact ⟨_, rfl, HE.out, hV.trans (hB2.mono hV.size)⟩
    subst z1
    obtain rfl := hE1.isNone
    obtain ⟨x0, x1, x2, x3, x4, x5, x6, x7, x8, x9⟩ := hc.below hB2
    go_wp2_with fail
    refine (HL.out _ hB2).mono ?_
    rintro ev w3 ⟨E2, rfl, hE2, hb3⟩
    have hB3 := stepB hB2 hb3
    clear x0 x1 x2 x3 x4 x5 x6 x7 x8 x9
    by_cases z2 : e2 = 0
    rotate_left
    · obtain ⟨b, rfl⟩ := hE2.isSome z2
      have HE : Hid (ErrIs w3 (.iface 83 (.pointer (some ⟨b, 0, none⟩))) E I) := by
        obtain ⟨r1, r2⟩ := HR.out.2.1 rfl z2
        rw [r1, r2]; exact hE2.err z2
      clear z2 hE2
      go_wp2
      go_ret
      exact ⟨_, rfl, HE.out, hV.trans (hB3.mono hV.size)⟩
    subst z2
    obtain rfl := hE2.isNone
    obtain ⟨x0, x1, x2, x3, x4, x5, x6, x7, x8, x9⟩ := hc.below hB3
    go_wp2_with fail
    refine (HW.out _ hB3).mono ?_
    rintro ev w4 ⟨E3, rfl, hE3, hb4⟩
    have hB4 := stepB hB3 hb4
    have HE : Hid (ErrIs w4 E3 E I) := by
      by_cases z3 : e3 = 0
      · subst z3
        obtain rfl := hE3.isNone
        exact .inl ⟨rfl, HR.out.fine rfl rfl rfl⟩
      · obtain ⟨r1, r2⟩ := HR.out.win rfl rfl z3
        rw [r1, r2]; exact hE3.err z3
    clear x0 x1 x2 x3 x4 x5 x6 x7 x8 x9 hE3
    go_wp2
    go_ret
    exact ⟨_, rfl, HE.out, hV.trans (hB4.mono hV.size)⟩
end Go.Proofs.Ytlpojkehbhkdiaa
