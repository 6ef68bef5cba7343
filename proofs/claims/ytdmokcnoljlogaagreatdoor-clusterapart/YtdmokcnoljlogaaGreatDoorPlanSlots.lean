/- The program's checkSlots: which slot is wrong first; new memory alone is made. -/
import Derived.Test.YtdmokcnoljlogaaGreatDoorWordsD
import Derived.Test.YtdmokcnoljlogaaGreatDoorWordsH
import Derived.Test.YtdmokcnoljlogaaGreatDoorWordsA
import Derived.Test.YtdmokcnoljlogaaGreatDoorWordsB
namespace Go.Proofs.YtdmokcnoljlogaaGreatDoor
open Go.RowKit

/-- No sooner may a slot begin. -/
def leastS (tq : Nat → Int) (skew : Int) (k : Nat) : Int := if k = 0 then 0 else tq (k - 1) + skew + 1
theorem slotErr_span (nd fr tq : Nat → Int) (nodes skew round : Int) (k : Nat) :
    slotErr nd fr tq nodes skew round k = if spanErr (fr k) (tq k) (leastS tq skew k) (round - skew - 1) ≠ 0 then spanErr (fr k) (tq k) (leastS tq skew k) (round - skew - 1) else if nd k < 0 ∨ nodes - 1 < nd k then 7 else 0 := by
  have e : ((k = 0 ∧ fr k < 0) ∨ (0 < k ∧ fr k ≤ tq (k - 1) + skew)) ↔ fr k < leastS tq skew k := by
    unfold leastS
    by_cases h : k = 0
    · rw [if_pos h]
      constructor
      · rintro (⟨_, g⟩ | ⟨g, _⟩)
        · exact g
        · omega
      · intro g; exact .inl ⟨h, g⟩
    · rw [if_neg h]
      constructor
      · rintro (⟨g, _⟩ | ⟨_, g⟩)
        · exact absurd g h
        · omega
      · intro g; exact .inr ⟨by omega, by omega⟩
  unfold slotErr spanErr
  by_cases h1 : tq k ≤ fr k
  · simp [h1]
  · rw [if_neg h1]
    by_cases h2 : fr k < leastS tq skew k
    · simp [e, h1, h2]
    · simp only [e]
      rw [if_neg h2]
      by_cases h3 : round - skew - 1 < tq k
      · simp [h1, h2, h3]
      · simp [h1, h2, h3]
theorem span_zero {fr tq least most : Int} (h : spanErr fr tq least most = 0) : fr < tq ∧ least ≤ fr ∧ tq ≤ most := by
  unfold spanErr at h
  by_cases h1 : tq ≤ fr
  · simp [h1] at h
  · rw [if_neg h1] at h
    by_cases h2 : fr < least
    · simp [h2] at h
    · rw [if_neg h2] at h
      by_cases h3 : most < tq
      · simp [h3] at h
      · omega
theorem leastS_nonneg {nd fr tq : Nat → Int} {nodes skew round : Int} (hsk : 0 ≤ skew) {k : Nat} (h : ∀ j, j < k → slotErr nd fr tq nodes skew round j = 0) : 0 ≤ leastS tq skew k ∧ leastS tq skew k ≤ max 0 round := by
  unfold leastS
  by_cases h0 : k = 0
  · rw [if_pos h0]; omega
  · rw [if_neg h0]
    have := slots_up hsk h (k - 1) (by omega)
    omega

set_option maxRecDepth 100000 in
set_option maxHeartbeats 4000000 in
theorem slots_any (nodes faulty skew jitter drift round frame : Int) (sa la wa : Option Addr) (ns sc nl lc nw wc : Nat) (w : World)
    (a1 : 1 ≤ nodes) (a2 : nodes ≤ 16) (b1 : 0 ≤ skew) (b2 : skew ≤ 137438953472) (c1 : 1 ≤ round) (c2 : round ≤ 137438953472) (d1 : ns ≤ 32)
    (nd fr tq : Nat → Int) (hs : Rows3 w sa ns nd fr tq) (e i : Int) (hF : FirstBad (slotErr nd fr tq nodes skew round) ns e i) :
    Calls Tryz.prog 37 #[.agg #[.int .i64 nodes, .int .i64 faulty, .int .i64 skew, .int .i64 jitter, .int .i64 drift, .int .i64 round, .slice sa ns sc, .slice la nl lc, .int .i64 frame, .slice wa nw wc]] w fun ev w' => ∃ E, ev = .returned E ∧ AtIs w' E e i ∧ Below w.heap.size w w' := by
  have HF : Hid (FirstBad (slotErr nd fr tq nodes skew round) ns e i) := hF
  clear hF
  obtain ⟨hc, hV⟩ := box10 nodes faulty skew jitter drift round frame sa la wa ns sc nl lc nw wc w 26
  replace hs := hs.below hV
  go_enter Tryz.func37, Tryz.ntmps37
  go_wp2_with fail
  generalize w.alloc (.cells #[.int .i64 nodes, .int .i64 faulty, .int .i64 skew, .int .i64 jitter, .int .i64 drift, .int .i64 round, .slice sa ns sc, .slice la nl lc, .int .i64 frame, .slice wa nw wc] 26) = V at hc hV hs ⊢
  refine (between_any _ _ _).mono ?_
  rintro ev V1 ⟨fv, rfl, hB, hu⟩
  replace hc := hc.below hu
  replace hs := hs.below hu
  have hV1 : Below w.heap.size w V1 := hV.trans (hu.mono hV.size)
  obtain ⟨x0, x1, x2, x3, x4, x5, x6, x7, x8, x9⟩ := hc
  have hwz : w.heap.size < V1.heap.size := lt_of_cell x0
  go_wp2_with fail
  go_loopw [4, 15] (fun lv t wr => ∃ k : Nat, k ≤ ns ∧ t = .int .i64 k ∧ lv = .int .i64 (leastS tq skew k) ∧ Hid (∀ j, j < k → slotErr nd fr tq nodes skew round j = 0) ∧ Below V1.heap.size V1 wr) (fun _ t _ => ns - (intOf t).toNat)
  case atStart => exact ⟨0, Nat.zero_le _, rfl, rfl, fun j hj => absurd hj (Nat.not_lt_zero _), Below.refl _ _⟩
  case round =>
    obtain ⟨k, hk, rfl, rfl, h0, hbe⟩ := hrel
    have y2 := keep_cell x2 hbe
    have y5 := keep_cell x5 hbe
    clear x0 x1 x2 x3 x4 x5 x6 x7 x8 x9
    by_cases hlt : k < ns
    · obtain ⟨b, off, rfl, hb, hcc⟩ := hs (by omega)
      obtain ⟨r0, r1, r2⟩ := hcc k hlt
      replace r0 := keep_cell r0 hbe
      replace r1 := keep_cell r1 hbe
      replace r2 := keep_cell r2 hbe
      clear hcc hs
      obtain ⟨se, hse⟩ : ∃ se, spanErr (fr k) (tq k) (leastS tq skew k) (round - skew - 1) = se := ⟨_, rfl⟩
      have HS : Hid (∀ u : World, Calls Tryz.prog 62 #[.agg #[.int .i64 (fr k), .int .i64 (tq k)], .int .i64 (leastS tq skew k), .int .i64 (round - skew - 1)] u fun ev w' => ev = .returned (.int .i64 se) ∧ Below u.heap.size u w') := fun u => by rw [← hse]; exact checkSpan_any _ _ _ _ _
      have HSE : Hid (spanErr (fr k) (tq k) (leastS tq skew k) (round - skew - 1) = se) := hse
      clear hse
      have hwr : w.heap.size < wr.heap.size := lt_of_cell y2
      have hbr : b < wr.heap.size := lt_of_cell r0
      go_wp2_with fail
      refine (HS.out _).mono ?_
      rintro ev w2 ⟨rfl, hb2⟩
      have hbt : Below V1.heap.size V1 w2 := stepA hbe hb2
      have z2 := keep_cell (show (wr.alloc (.cells #[.int .i64 (nd k), .int .i64 (fr k), .int .i64 (tq k)] 61)).cell? ⟨w.heap.size, 2, none⟩ = _ from by rw [World.cell?_alloc_lt _ _ _ hwr]; exact y2) hb2
      have s0 := keep_cell (show (wr.alloc (.cells #[.int .i64 (nd k), .int .i64 (fr k), .int .i64 (tq k)] 61)).cell? ⟨wr.heap.size, 0, none⟩ = some (.int .i64 (nd k)) from by simp) hb2
      have s2 := keep_cell (show (wr.alloc (.cells #[.int .i64 (nd k), .int .i64 (fr k), .int .i64 (tq k)] 61)).cell? ⟨wr.heap.size, 2, none⟩ = some (.int .i64 (tq k)) from by simp) hb2
      clear y2 y5 r0 r1 r2 HS
      by_cases hz : se = 0
      rotate_left
      · have hn : (se == 0) = false := by simpa using hz
        have hn2 : (se != 0) = true := by simpa using hz
        have HK : Hid (slotErr nd fr tq nodes skew round k = se) := by
          show _ = _
          rw [slotErr_span, HSE.out, if_pos hz]
        have HZ : Hid (se ≠ 0) := hz
        clear hz
        go_wp2_with fail
        refine (at_some se k HZ.out _).mono ?_
        rintro ev w3 ⟨b3, rfl, q0, q1, hb3⟩
        go_wp2
        go_ret
        obtain ⟨rfl, rfl⟩ := HF.out.is hlt h0.out HK.out HZ.out
        exact ⟨_, rfl, .inr ⟨b3, rfl, HZ.out, q0, q1⟩, hV1.trans ((stepB hbt hb3).mono hV1.size)⟩
      · subst hz
        obtain ⟨g1, g2, g3⟩ := span_zero HSE.out
        have g4 := (leastS_nonneg b1 h0.out).1
        have hB2 : Btw w2 fv 0 (nodes - 1) := hB.below hbt
        go_wp2_with fail
        by_cases hn : 0 ≤ nd k ∧ nd k ≤ nodes - 1
        rotate_left
        · have hd : decide (0 ≤ nd k ∧ nd k ≤ nodes - 1) = false := decide_eq_false hn
          have HK : Hid (slotErr nd fr tq nodes skew round k = 7) := by
            show _ = _
            rw [slotErr_span, HSE.out, if_neg (by simp), if_pos (by omega)]
          clear hn
          refine (all_1b false fv _ _ (nd k) w2.heap.size _ _ (hB2.alloc _) (by simp) hd).mono ?_
          rintro ev w3 ⟨rfl, hb3⟩
          have hbu := stepA hbt hb3
          go_wp2_with fail
          refine (at_some 7 k (by decide) _).mono ?_
          rintro ev w4 ⟨b4, rfl, q0, q1, hb4⟩
          go_wp2
          go_ret
          obtain ⟨rfl, rfl⟩ := HF.out.is hlt h0.out HK.out (by decide)
          exact ⟨_, rfl, .inr ⟨b4, rfl, by decide, q0, q1⟩, hV1.trans ((stepB hbu hb4).mono hV1.size)⟩
        · have hd : decide (0 ≤ nd k ∧ nd k ≤ nodes - 1) = true := decide_eq_true hn
          have HK : Hid (slotErr nd fr tq nodes skew round k = 0) := by
            show _ = _
            rw [slotErr_span, HSE.out, if_neg (by simp), if_neg (by omega)]
          clear hn
          refine (all_1b true fv _ _ (nd k) w2.heap.size _ _ (hB2.alloc _) (by simp) hd).mono ?_
          rintro ev w3 ⟨rfl, hb3⟩
          have hbu := stepA hbt hb3
          have z2' := keep_cell (show (w2.alloc (.cells #[.int .i64 (nd k)] 3)).cell? ⟨w.heap.size, 2, none⟩ = _ from by rw [World.cell?_alloc_lt _ _ _ (lt_of_cell z2)]; exact z2) hb3
          have s2' := keep_cell (show (w2.alloc (.cells #[.int .i64 (nd k)] 3)).cell? ⟨wr.heap.size, 2, none⟩ = _ from by rw [World.cell?_alloc_lt _ _ _ (lt_of_cell s2)]; exact s2) hb3
          have HL : Hid (leastS tq skew (k + 1) = tq k + skew + 1) := by
            show _ = _
            unfold leastS; rw [if_neg (by omega)]; simp
          go_wp2
          go_roundw
          case rel => exact ⟨k + 1, by omega, by go_num, by rw [HL.out], next_zero h0.out HK.out, hbu⟩
          case measure => simp [intOf]; omega
    · go_wp2
      go_ret
      obtain ⟨rfl, rfl⟩ := HF.out.at_end (fun j hj => h0.out j (by omega))
      exact ⟨_, rfl, .inl ⟨rfl, rfl⟩, hV1.trans (hbe.mono hV1.size)⟩
end Go.Proofs.YtdmokcnoljlogaaGreatDoor
