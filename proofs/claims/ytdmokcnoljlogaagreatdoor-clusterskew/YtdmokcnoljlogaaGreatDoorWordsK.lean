/- The program's checkLinks: which link is wrong first; new memory alone is made. -/
import Derived.Test.YtdmokcnoljlogaaGreatDoorPlanSlots
import Derived.Test.YtdmokcnoljlogaaGreatDoorPlanLink
import Derived.Test.YtdmokcnoljlogaaGreatDoorPlanWhole
namespace Go.Proofs.YtdmokcnoljlogaaGreatDoor
open Go.RowKit

set_option maxRecDepth 100000 in
set_option maxHeartbeats 4000000 in
theorem links_any (nodes faulty skew jitter drift round frame : Int) (sa la wa : Option Addr) (ns sc nl lc nw wc : Nat) (w : World)
    (a1 : 1 ≤ nodes) (a2 : nodes ≤ 16) (d2 : nl ≤ 8) (lf lt lb lq : Nat → Int) (hs : Rows4 w la nl lf lt lb lq) (hit : Nat → Bool) (pw : Int) (hpw : (2 : Int) ^ nodes.toNat = pw) (p1 : 2 ≤ pw) (p2 : pw ≤ 65536) (hhit : ∀ j, 0 ≤ lf j → lf j ≤ 15 → hit j = (bits BinOp.and .i64 (lt j) (2 ^ (lf j).toNat) != 0))
    (e i : Int) (hF : FirstBad (linkErr lf lt lb lq hit nodes pw) nl e i) :
    Calls Tryz.prog 38 #[.agg #[.int .i64 nodes, .int .i64 faulty, .int .i64 skew, .int .i64 jitter, .int .i64 drift, .int .i64 round, .slice sa ns sc, .slice la nl lc, .int .i64 frame, .slice wa nw wc]] w fun ev w' => ∃ E, ev = .returned E ∧ AtIs w' E e (1000 + i) ∧ Below w.heap.size w w' := by
  have HF : Hid (FirstBad (linkErr lf lt lb lq hit nodes pw) nl e i) := hF
  have HL : Hid (∀ j (u : World), Calls Tryz.prog 64 #[.agg #[.int .i64 (lf j), .int .i64 (lt j), .int .i64 (lb j), .int .i64 (lq j)], .int .i64 nodes] u fun ev w' => ev = .returned (.int .i64 (linkErr lf lt lb lq hit nodes pw j)) ∧ Below u.heap.size u w') :=
    fun j u => link_any (lf j) (lt j) (lb j) (lq j) nodes pw (hit j) u a1 a2 hpw p1 p2 (hhit j)
  clear hF hhit hpw p1 p2
  obtain ⟨hc, hV⟩ := box10 nodes faulty skew jitter drift round frame sa la wa ns sc nl lc nw wc w 26
  replace hs := hs.below hV
  go_enter Tryz.func38, Tryz.ntmps38
  go_wp2_with fail
  generalize w.alloc (.cells #[.int .i64 nodes, .int .i64 faulty, .int .i64 skew, .int .i64 jitter, .int .i64 drift, .int .i64 round, .slice sa ns sc, .slice la nl lc, .int .i64 frame, .slice wa nw wc] 26) = V at hc hV hs ⊢
  obtain ⟨x0, x1, x2, x3, x4, x5, x6, x7, x8, x9⟩ := hc
  go_loopw [9] (fun t wr => ∃ k : Nat, k ≤ nl ∧ t = .int .i64 k ∧ Hid (∀ j, j < k → linkErr lf lt lb lq hit nodes pw j = 0) ∧ Below V.heap.size V wr) (fun t _ => nl - (intOf t).toNat)
  case atStart => exact ⟨0, Nat.zero_le _, rfl, fun j hj => absurd hj (Nat.not_lt_zero _), Below.refl _ _⟩
  case round =>
    obtain ⟨k, hk, rfl, h0, hbe⟩ := hrel
    have y0 := keep_cell x0 hbe
    clear x0 x1 x2 x3 x4 x5 x6 x7 x8 x9
    by_cases hlt : k < nl
    · obtain ⟨b, off, rfl, hb, hcc⟩ := hs (by omega)
      obtain ⟨r0, r1, r2, r3⟩ := hcc k hlt
      replace r0 := keep_cell r0 hbe
      replace r1 := keep_cell r1 hbe
      replace r2 := keep_cell r2 hbe
      replace r3 := keep_cell r3 hbe
      clear hcc hs
      have hwr : w.heap.size < wr.heap.size := lt_of_cell y0
      have hbr : b < wr.heap.size := lt_of_cell r0
      go_wp2_with fail
      refine (HL.out k _).mono ?_
      rintro ev w2 ⟨rfl, hb2⟩
      have hbt : Below V.heap.size V w2 := stepA hbe hb2
      clear y0 r0 r1 r2 r3
      obtain ⟨le, hle⟩ : ∃ le, linkErr lf lt lb lq hit nodes pw k = le := ⟨_, rfl⟩
      rw [hle]
      have HLE : Hid (linkErr lf lt lb lq hit nodes pw k = le) := hle
      clear hle
      go_wp2_with fail
      by_cases hz : le = 0
      · subst hz
        refine (at_none _ _).mono ?_
        rintro ev w3 ⟨rfl, hb3⟩
        have hbu := stepB hbt hb3
        go_wp2
        go_roundw
        case rel => exact ⟨k + 1, by omega, by go_num, next_zero h0.out HLE.out, hbu⟩
        case measure => simp [intOf]; omega
      · have HZ : Hid (le ≠ 0) := hz
        clear hz
        refine (at_some le (1000 + k) HZ.out _).mono ?_
        rintro ev w3 ⟨b3, rfl, q0, q1, hb3⟩
        go_wp2
        go_ret
        obtain ⟨rfl, rfl⟩ := HF.out.is hlt h0.out HLE.out HZ.out
        exact ⟨_, rfl, .inr ⟨b3, rfl, HZ.out, q0, q1⟩, hV.trans ((stepB hbt hb3).mono hV.size)⟩
    · go_wp2
      go_ret
      obtain ⟨rfl, rfl⟩ := HF.out.at_end (fun j hj => h0.out j (by omega))
      exact ⟨_, rfl, .inl ⟨rfl, rfl⟩, hV.trans (hbe.mono hV.size)⟩
end Go.Proofs.YtdmokcnoljlogaaGreatDoor

/- The program's checkWindows: which window is wrong first; new memory alone is made. -/
namespace Go.Proofs.YtdmokcnoljlogaaGreatDoor
open Go.RowKit

/-- No sooner may a window begin. -/
def leastW (tq : Nat → Int) (k : Nat) : Int := if k = 0 then 0 else tq (k - 1)
theorem winErr_span (nd fr tq : Nat → Int) (frame : Int) (k : Nat) :
    winErr nd fr tq frame k = if spanErr (fr k) (tq k) (leastW tq k) frame ≠ 0 then spanErr (fr k) (tq k) (leastW tq k) frame else if nd k < 0 ∨ 5 < nd k then 7 else 0 := by
  have e : ((k = 0 ∧ fr k < 0) ∨ (0 < k ∧ fr k < tq (k - 1))) ↔ fr k < leastW tq k := by
    unfold leastW
    by_cases h : k = 0
    · rw [if_pos h]
      constructor
      · rintro (⟨_, g⟩ | ⟨g, _⟩)
        · exact g
        · omega
      · intro g; exact .inl ⟨h, g⟩
    · rw [if_neg h]
      constructor
      · rintro (⟨g, _⟩ | ⟨_, g⟩)
        · exact absurd g h
        · omega
      · intro g; exact .inr ⟨by omega, by omega⟩
  unfold winErr spanErr
  by_cases h1 : tq k ≤ fr k
  · simp [h1]
  · rw [if_neg h1]
    by_cases h2 : fr k < leastW tq k
    · simp [e, h1, h2]
    · simp only [e]
      rw [if_neg h2]
      by_cases h3 : frame < tq k
      · simp [h1, h2, h3]
      · simp [h1, h2, h3]

set_option maxRecDepth 100000 in
set_option maxHeartbeats 4000000 in
theorem wins_any (nodes faulty skew jitter drift round frame : Int) (sa la wa : Option Addr) (ns sc nl lc nw wc : Nat) (w : World)
    (d1 : nw ≤ 32)
    (nd fr tq : Nat → Int) (hs : Rows3 w wa nw nd fr tq) (e i : Int) (hF : FirstBad (winErr nd fr tq frame) nw e i) :
    Calls Tryz.prog 39 #[.agg #[.int .i64 nodes, .int .i64 faulty, .int .i64 skew, .int .i64 jitter, .int .i64 drift, .int .i64 round, .slice sa ns sc, .slice la nl lc, .int .i64 frame, .slice wa nw wc]] w fun ev w' => ∃ E, ev = .returned E ∧ AtIs w' E e (2000 + i) ∧ Below w.heap.size w w' := by
  have HF : Hid (FirstBad (winErr nd fr tq frame) nw e i) := hF
  clear hF
  obtain ⟨hc, hV⟩ := box10 nodes faulty skew jitter drift round frame sa la wa ns sc nl lc nw wc w 26
  replace hs := hs.below hV
  go_enter Tryz.func39, Tryz.ntmps39
  go_wp2_with fail
  generalize w.alloc (.cells #[.int .i64 nodes, .int .i64 faulty, .int .i64 skew, .int .i64 jitter, .int .i64 drift, .int .i64 round, .slice sa ns sc, .slice la nl lc, .int .i64 frame, .slice wa nw wc] 26) = V at hc hV hs ⊢
  refine (between_any _ _ _).mono ?_
  rintro ev V1 ⟨fv, rfl, hB, hu⟩
  replace hc := hc.below hu
  replace hs := hs.below hu
  have hV1 : Below w.heap.size w V1 := hV.trans (hu.mono hV.size)
  obtain ⟨x0, x1, x2, x3, x4, x5, x6, x7, x8, x9⟩ := hc
  have hwz : w.heap.size < V1.heap.size := lt_of_cell x0
  go_wp2_with fail
  go_loopw [4, 12] (fun lv t wr => ∃ k : Nat, k ≤ nw ∧ t = .int .i64 k ∧ lv = .int .i64 (leastW tq k) ∧ Hid (∀ j, j < k → winErr nd fr tq frame j = 0) ∧ Below V1.heap.size V1 wr) (fun _ t _ => nw - (intOf t).toNat)
  case atStart => exact ⟨0, Nat.zero_le _, rfl, rfl, fun j hj => absurd hj (Nat.not_lt_zero _), Below.refl _ _⟩
  case round =>
    obtain ⟨k, hk, rfl, rfl, h0, hbe⟩ := hrel
    have y2 := keep_cell x8 hbe
    clear x0 x1 x2 x3 x4 x5 x6 x7 x8 x9
    by_cases hlt : k < nw
    · obtain ⟨b, off, rfl, hb, hcc⟩ := hs (by omega)
      obtain ⟨r0, r1, r2⟩ := hcc k hlt
      replace r0 := keep_cell r0 hbe
      replace r1 := keep_cell r1 hbe
      replace r2 := keep_cell r2 hbe
      clear hcc hs
      obtain ⟨se, hse⟩ : ∃ se, spanErr (fr k) (tq k) (leastW tq k) frame = se := ⟨_, rfl⟩
      have HS : Hid (∀ u : World, Calls Tryz.prog 62 #[.agg #[.int .i64 (fr k), .int .i64 (tq k)], .int .i64 (leastW tq k), .int .i64 frame] u fun ev w' => ev = .returned (.int .i64 se) ∧ Below u.heap.size u w') := fun u => by rw [← hse]; exact checkSpan_any _ _ _ _ _
      have HSE : Hid (spanErr (fr k) (tq k) (leastW tq k) frame = se) := hse
      clear hse
      have hwr : w.heap.size < wr.heap.size := lt_of_cell y2
      have hbr : b < wr.heap.size := lt_of_cell r0
      go_wp2_with fail
      refine (HS.out _).mono ?_
      rintro ev w2 ⟨rfl, hb2⟩
      have hbt : Below V1.heap.size V1 w2 := stepA hbe hb2
      have s0 := keep_cell (show (wr.alloc (.cells #[.int .i64 (nd k), .int .i64 (fr k), .int .i64 (tq k)] 147)).cell? ⟨wr.heap.size, 0, none⟩ = some (.int .i64 (nd k)) from by simp) hb2
      have s2 := keep_cell (show (wr.alloc (.cells #[.int .i64 (nd k), .int .i64 (fr k), .int .i64 (tq k)] 147)).cell? ⟨wr.heap.size, 2, none⟩ = some (.int .i64 (tq k)) from by simp) hb2
      clear y2 r0 r1 r2 HS
      by_cases hz : se = 0
      rotate_left
      · have hn : (se == 0) = false := by simpa using hz
        have hn2 : (se != 0) = true := by simpa using hz
        have HK : Hid (winErr nd fr tq frame k = se) := by
          show _ = _
          rw [winErr_span, HSE.out, if_pos hz]
        have HZ : Hid (se ≠ 0) := hz
        clear hz
        go_wp2_with fail
        refine (at_some se (2000 + k) HZ.out _).mono ?_
        rintro ev w3 ⟨b3, rfl, q0, q1, hb3⟩
        go_wp2
        go_ret
        obtain ⟨rfl, rfl⟩ := HF.out.is hlt h0.out HK.out HZ.out
        exact ⟨_, rfl, .inr ⟨b3, rfl, HZ.out, q0, q1⟩, hV1.trans ((stepB hbt hb3).mono hV1.size)⟩
      · subst hz
        have hB2 : Btw w2 fv 0 5 := hB.below hbt
        go_wp2_with fail
        by_cases hn : 0 ≤ nd k ∧ nd k ≤ 5
        rotate_left
        · have hd : decide (0 ≤ nd k ∧ nd k ≤ 5) = false := decide_eq_false hn
          have HK : Hid (winErr nd fr tq frame k = 7) := by
            show _ = _
            rw [winErr_span, HSE.out, if_neg (by simp), if_pos (by omega)]
          clear hn
          refine (all_1b false fv _ _ (nd k) w2.heap.size _ _ (hB2.alloc _) (by simp) hd).mono ?_
          rintro ev w3 ⟨rfl, hb3⟩
          have hbu := stepA hbt hb3
          go_wp2_with fail
          refine (at_some 7 (2000 + k) (by decide) _).mono ?_
          rintro ev w4 ⟨b4, rfl, q0, q1, hb4⟩
          go_wp2
          go_ret
          obtain ⟨rfl, rfl⟩ := HF.out.is hlt h0.out HK.out (by decide)
          exact ⟨_, rfl, .inr ⟨b4, rfl, by decide, q0, q1⟩, hV1.trans ((stepB hbu hb4).mono hV1.size)⟩
        · have hd : decide (0 ≤ nd k ∧ nd k ≤ 5) = true := decide_eq_true hn
          have HK : Hid (winErr nd fr tq frame k = 0) := by
            show _ = _
            rw [winErr_span, HSE.out, if_neg (by simp), if_neg (by omega)]
          clear hn
          refine (all_1b true fv _ _ (nd k) w2.heap.size _ _ (hB2.alloc _) (by simp) hd).mono ?_
          rintro ev w3 ⟨rfl, hb3⟩
          have hbu := stepA hbt hb3
          have s2' := keep_cell (show (w2.alloc (.cells #[.int .i64 (nd k)] 3)).cell? ⟨wr.heap.size, 2, none⟩ = _ from by rw [World.cell?_alloc_lt _ _ _ (lt_of_cell s2)]; exact s2) hb3
          have HL : Hid (leastW tq (k + 1) = tq k) := by
            show _ = _
            unfold leastW; rw [if_neg (by omega)]; simp
          go_wp2
          go_roundw
          case rel => exact ⟨k + 1, by omega, by go_num, by rw [HL.out], next_zero h0.out HK.out, hbu⟩
          case measure => simp [intOf]; omega
    · go_wp2
      go_ret
      obtain ⟨rfl, rfl⟩ := HF.out.at_end (fun j hj => h0.out j (by omega))
      exact ⟨_, rfl, .inl ⟨rfl, rfl⟩, hV1.trans (hbe.mono hV1.size)⟩
end Go.Proofs.YtdmokcnoljlogaaGreatDoor

/- The program's Check: of every plan it answers what plain numbers say (an Errno, or an At around one); new memory alone is made. -/
namespace Go.Proofs.YtdmokcnoljlogaaGreatDoor
open Go.RowKit

theorem headErr_zero {nodes faulty skew jitter drift round frame : Int} {ns nl nw : Nat} (h : headErr nodes faulty skew jitter drift round frame ns nl nw = 0) :
    1 ≤ nodes ∧ nodes ≤ 16 ∧ 0 ≤ faulty ∧ faulty ≤ 5 ∧ (0 ≤ skew ∧ skew ≤ 137438953472) ∧ (0 ≤ jitter ∧ jitter ≤ 137438953472) ∧ (0 ≤ drift ∧ drift ≤ 137438953472) ∧ (1 ≤ round ∧ round ≤ 137438953472) ∧ (1 ≤ frame ∧ frame ≤ 137438953472) ∧ ns ≤ 32 ∧ nl ≤ 8 ∧ nw ≤ 32 := by
  unfold headErr at h
  by_cases h1 : nodes < 1 ∨ 16 < nodes ∨ faulty < 0 ∨ nodes < faulty * 3 + 1
  · simp [h1] at h
  · rw [if_neg h1] at h
    by_cases h2 : skew < 0 ∨ 137438953472 < skew ∨ jitter < 0 ∨ 137438953472 < jitter ∨ drift < 0 ∨ 137438953472 < drift
    · simp [h2] at h
    · rw [if_neg h2] at h
      by_cases h3 : round < 1 ∨ 137438953472 < round ∨ frame < 1 ∨ 137438953472 < frame
      · simp [h3] at h
      · rw [if_neg h3] at h
        by_cases h4 : 32 < ns ∨ 8 < nl ∨ 32 < nw
        · simp [h4] at h
        · omega

theorem pw_boundsP (nodes : Int) (h1 : 1 ≤ nodes) (h2 : nodes ≤ 16) : 2 ≤ (2 : Int) ^ nodes.toNat ∧ (2 : Int) ^ nodes.toNat ≤ 65536 := by
  have : nodes = 1 ∨ nodes = 2 ∨ nodes = 3 ∨ nodes = 4 ∨ nodes = 5 ∨ nodes = 6 ∨ nodes = 7 ∨ nodes = 8 ∨ nodes = 9 ∨ nodes = 10 ∨ nodes = 11 ∨ nodes = 12 ∨ nodes = 13 ∨ nodes = 14 ∨ nodes = 15 ∨ nodes = 16 := by omega
  rcases this with rfl | rfl | rfl | rfl | rfl | rfl | rfl | rfl | rfl | rfl | rfl | rfl | rfl | rfl | rfl | rfl <;> decide

theorem AtIs.err {w : World} {E : Value} {e i : Int} (h : AtIs w E e i) (he : e ≠ 0) : ErrIs w E e i := by
  rcases h with ⟨_, h⟩ | h
  · exact absurd h he
  · exact .inr (.inr h)
theorem AtIs.isNone {w : World} {E : Value} {i : Int} (h : AtIs w E 0 i) : E = .nilIface := by
  rcases h with ⟨h, _⟩ | ⟨_, _, h, _⟩
  · exact h
  · exact absurd rfl h
theorem AtIs.isSome {w : World} {E : Value} {e i : Int} (h : AtIs w E e i) (he : e ≠ 0) : ∃ b, E = .iface 150 (.pointer (some ⟨b, 0, none⟩)) := by
  rcases h with ⟨_, h⟩ | ⟨b, h, _⟩
  · exact absurd h he
  · exact ⟨b, h⟩

set_option maxRecDepth 100000 in
set_option maxHeartbeats 4000000 in
theorem check_any (nodes faulty skew jitter drift round frame : Int) (sa la wa : Option Addr) (ns sc nl lc nw wc : Nat) (nd fr tq lf lt lb lq : Nat → Int) (hit : Nat → Bool) (pw : Int) (wp wf wt : Nat → Int) (E I : Int) (w : World)
    (hs : Rows3 w sa ns nd fr tq) (hl : Rows4 w la nl lf lt lb lq) (hw : Rows3 w wa nw wp wf wt) (hpw : (2 : Int) ^ nodes.toNat = pw) (hhit : ∀ j, 0 ≤ lf j → lf j ≤ 15 → hit j = (bits BinOp.and .i64 (lt j) (2 ^ (lf j).toNat) != 0))
    (hC : CheckIs nodes faulty skew jitter drift round frame ns nl nw nd fr tq lf lt lb lq hit pw wp wf wt E I) :
    Calls Tryz.prog 16 #[.agg #[.int .i64 nodes, .int .i64 faulty, .int .i64 skew, .int .i64 jitter, .int .i64 drift, .int .i64 round, .slice sa ns sc, .slice la nl lc, .int .i64 frame, .slice wa nw wc]] w fun ev w' => ∃ V, ev = .returned V ∧ ErrIs w' V E I ∧ Below w.heap.size w w' := by
  have HC : Hid (CheckIs nodes faulty skew jitter drift round frame ns nl nw nd fr tq lf lt lb lq hit pw wp wf wt E I) := hC
  have HPW : Hid ((2 : Int) ^ nodes.toNat = pw) := hpw
  have HH : Hid (∀ j, 0 ≤ lf j → lf j ≤ 15 → hit j = (bits BinOp.and .i64 (lt j) (2 ^ (lf j).toNat) != 0)) := hhit
  clear hC hpw hhit
  obtain ⟨hc, hV⟩ := box10 nodes faulty skew jitter drift round frame sa la wa ns sc nl lc nw wc w 26
  replace hs := hs.below hV
  replace hl := hl.below hV
  replace hw := hw.below hV
  go_enter Tryz.func16, Tryz.ntmps16
  go_wp2_with fail
  generalize w.alloc (.cells #[.int .i64 nodes, .int .i64 faulty, .int .i64 skew, .int .i64 jitter, .int .i64 drift, .int .i64 round, .slice sa ns sc, .slice la nl lc, .int .i64 frame, .slice wa nw wc] 26) = V at hc hV hs hl hw ⊢
  refine (whole_any nodes faulty skew jitter drift round frame sa la wa ns sc nl lc nw wc _).mono ?_
  rintro ev w1 ⟨rfl, hb1⟩
  obtain ⟨h, hh⟩ : ∃ h, headErr nodes faulty skew jitter drift round frame ns nl nw = h := ⟨_, rfl⟩
  rw [hh]
  by_cases hz : h = 0
  rotate_left
  · have hn : (h == 0) = false := by simpa using hz
    have hn2 : (h != 0) = true := by simpa using hz
    obtain ⟨rfl, rfl⟩ := HC.out.head hh hz
    have HZ : Hid (E ≠ 0) := hz
    clear hz hh
    go_wp2
    go_ret
    exact ⟨_, rfl, .inr (.inl ⟨rfl, HZ.out, rfl⟩), hV.trans (hb1.mono hV.size)⟩
  · subst hz
    have H0 := headErr_zero hh
    obtain ⟨a1, a2, _, _, ⟨b1, b2⟩, _, _, ⟨c1, c2⟩, _, d1, d2, d3⟩ := H0
    obtain ⟨p1, p2⟩ := pw_boundsP nodes a1 a2
    rw [HPW.out] at p1 p2
    have HX : Hid (∃ e1 i1 e2 i2 e3 i3, FirstBad (slotErr nd fr tq nodes skew round) ns e1 i1 ∧ FirstBad (linkErr lf lt lb lq hit nodes pw) nl e2 i2 ∧ FirstBad (winErr wp wf wt frame) nw e3 i3 ∧ PlanRes e1 i1 e2 i2 e3 i3 E I) := by
      rcases HC.out with ⟨q, _⟩ | ⟨_, q⟩
      · exact absurd hh q
      · exact q
    clear HC hh
    obtain ⟨e1, i1, e2, i2, e3, i3, g1, g2, g3, g4⟩ := HX.out
    have HS : Hid (∀ u : World, Below V.heap.size V u → Calls Tryz.prog 37 #[.agg #[.int .i64 nodes, .int .i64 faulty, .int .i64 skew, .int .i64 jitter, .int .i64 drift, .int .i64 round, .slice sa ns sc, .slice la nl lc, .int .i64 frame, .slice wa nw wc]] u fun ev w' => ∃ E, ev = .returned E ∧ AtIs w' E e1 i1 ∧ Below u.heap.size u w') := fun u hu =>
      slots_any nodes faulty skew jitter drift round frame sa la wa ns sc nl lc nw wc u a1 a2 b1 b2 c1 c2 d1 nd fr tq (hs.below hu) e1 i1 g1
    have HL : Hid (∀ u : World, Below V.heap.size V u → Calls Tryz.prog 38 #[.agg #[.int .i64 nodes, .int .i64 faulty, .int .i64 skew, .int .i64 jitter, .int .i64 drift, .int .i64 round, .slice sa ns sc, .slice la nl lc, .int .i64 frame, .slice wa nw wc]] u fun ev w' => ∃ E, ev = .returned E ∧ AtIs w' E e2 (1000 + i2) ∧ Below u.heap.size u w') := fun u hu =>
      links_any nodes faulty skew jitter drift round frame sa la wa ns sc nl lc nw wc u a1 a2 d2 lf lt lb lq (hl.below hu) hit pw HPW.out p1 p2 HH.out e2 i2 g2
    have HW : Hid (∀ u : World, Below V.heap.size V u → Calls Tryz.prog 39 #[.agg #[.int .i64 nodes, .int .i64 faulty, .int .i64 skew, .int .i64 jitter, .int .i64 drift, .int .i64 round, .slice sa ns sc, .slice la nl lc, .int .i64 frame, .slice wa nw wc]] u fun ev w' => ∃ E, ev = .returned E ∧ AtIs w' E e3 (2000 + i3) ∧ Below u.heap.size u w') := fun u hu =>
      wins_any nodes faulty skew jitter drift round frame sa la wa ns sc nl lc nw wc u d3 wp wf wt (hw.below hu) e3 i3 g3
    have HR : Hid (PlanRes e1 i1 e2 i2 e3 i3 E I) := g4
    clear HX g1 g2 g3 g4 HPW HH hs hl hw
    obtain ⟨x0, x1, x2, x3, x4, x5, x6, x7, x8, x9⟩ := hc.below hb1
    go_wp2_with fail
    refine (HS.out _ hb1).mono ?_
    rintro ev w2 ⟨E1, rfl, hE1, hb2⟩
    have hB2 := stepB hb1 hb2
    clear x0 x1 x2 x3 x4 x5 x6 x7 x8 x9
    by_cases z1 : e1 = 0
    rotate_left
    · obtain ⟨b, rfl⟩ := hE1.isSome z1
      have HE : Hid (ErrIs w2 (.iface 150 (.pointer (some ⟨b, 0, none⟩))) E I) := by
        obtain ⟨r1, r2⟩ := HR.out.1 z1
        rw [r1, r2]; exact hE1.err z1
      clear z1 hE1
      go_wp2
      go_ret
      exact ⟨_, rfl, HE.out, hV.trans (hB2.mono hV.size)⟩
    subst z1
    obtain rfl := hE1.isNone
    obtain ⟨x0, x1, x2, x3, x4, x5, x6, x7, x8, x9⟩ := hc.below hB2
    go_wp2_with fail
    refine (HL.out _ hB2).mono ?_
    rintro ev w3 ⟨E2, rfl, hE2, hb3⟩
    have hB3 := stepB hB2 hb3
    clear x0 x1 x2 x3 x4 x5 x6 x7 x8 x9
    by_cases z2 : e2 = 0
    rotate_left
    · obtain ⟨b, rfl⟩ := hE2.isSome z2
      have HE : Hid (ErrIs w3 (.iface 150 (.pointer (some ⟨b, 0, none⟩))) E I) := by
        obtain ⟨r1, r2⟩ := HR.out.2.1 rfl z2
        rw [r1, r2]; exact hE2.err z2
      clear z2 hE2
      go_wp2
      go_ret
      exact ⟨_, rfl, HE.out, hV.trans (hB3.mono hV.size)⟩
    subst z2
    obtain rfl := hE2.isNone
    obtain ⟨x0, x1, x2, x3, x4, x5, x6, x7, x8, x9⟩ := hc.below hB3
    go_wp2_with fail
    refine (HW.out _ hB3).mono ?_
    rintro ev w4 ⟨E3, rfl, hE3, hb4⟩
    have hB4 := stepB hB3 hb4
    have HE : Hid (ErrIs w4 E3 E I) := by
      by_cases z3 : e3 = 0
      · subst z3
        obtain rfl := hE3.isNone
        exact .inl ⟨rfl, HR.out.fine rfl rfl rfl⟩
      · obtain ⟨r1, r2⟩ := HR.out.win rfl rfl z3
        rw [r1, r2]; exact hE3.err z3
    clear x0 x1 x2 x3 x4 x5 x6 x7 x8 x9 hE3
    go_wp2
    go_ret
    exact ⟨_, rfl, HE.out, hV.trans (hB4.mono hV.size)⟩
end Go.Proofs.YtdmokcnoljlogaaGreatDoor
