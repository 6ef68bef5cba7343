/- The document's answer's Encode (its ways). -/
import Derived.Test.YtlpojkehbhkdiaaDoorRefCheck
import Derived.Test.YtlpojkehbhkdiaaDoorRefNumber
import Derived.Test.YtlpojkehbhkdiaaDoorOpenRows
import Derived.RegionTactic
import Derived.ChangeAlike
namespace Go.Proofs.YtlpojkehbhkdiaaDoor
open Go.RowKit

set_option maxRecDepth 100000 in
set_option maxHeartbeats 1000000 in
theorem refEncode_bad (nodes faulty skew jitter drift round frame : Int) (sa la wa : Option Addr) (ns sc nl lc nw wc : Nat) (E I : Int) (w : World) (hE : E ≠ 0)
    (hc : ∀ v : World, Below w.heap.size w v → Calls Tryd.prog 9 #[.agg #[.int .i64 nodes, .int .i64 faulty, .int .i64 skew, .int .i64 jitter, .int .i64 drift, .int .i64 round, .slice sa ns sc, .slice la nl lc, .int .i64 frame, .slice wa nw wc]] v fun ev w' => ev = .returned (.agg #[.int .i64 E, .int .i64 I]) ∧ Below v.heap.size v w') :
    Calls Tryd.prog 10 #[.agg #[.int .i64 nodes, .int .i64 faulty, .int .i64 skew, .int .i64 jitter, .int .i64 drift, .int .i64 round, .slice sa ns sc, .slice la nl lc, .int .i64 frame, .slice wa nw wc]] w fun ev w' => ev = .returned (.tuple #[.slice none 0 0, .agg #[.int .i64 E, .int .i64 I]]) ∧ Below w.heap.size w w' := by
  have hEb : (E != 0) = true := by simp [hE]
  have HC := hc ((w.alloc (.cells #[.int .i64 nodes, .int .i64 faulty, .int .i64 skew, .int .i64 jitter, .int .i64 drift, .int .i64 round, .slice sa ns sc, .slice la nl lc, .int .i64 frame, .slice wa nw wc] 26)).alloc (.cells #[.int .i64 0, .int .i64 0] 34)) (((Below.refl _ _).alloc (Nat.le_refl _) _).alloc (by simp) _)
  clear hc hE
  go_enter Tryd.func10, Tryd.ntmps10
  go_wp2_with fail
  refine HC.mono ?_
  rintro ev w1 ⟨rfl, hb⟩
  clear HC
  have hz : w.heap.size + 1 < w1.heap.size := by have := hb.size; simp at this; omega
  have r0 : w1.cell? ⟨w.heap.size + 1, 0, none⟩ = some (.int .i64 0) := by rw [hb.cell (by simp)]; simp
  have r1 : w1.cell? ⟨w.heap.size + 1, 1, none⟩ = some (.int .i64 0) := by rw [hb.cell (by simp)]; simp
  have z0 : w1.frozen? ⟨w.heap.size + 1, 0, none⟩ = false := by rw [hb.frozen (by simp)]; simp
  have z1 : w1.frozen? ⟨w.heap.size + 1, 1, none⟩ = false := by rw [hb.frozen (by simp)]; simp
  have hB : Below w.heap.size w w1 := (((Below.refl _ _).alloc (Nat.le_refl _) _).alloc (by simp) _).trans (hb.mono (by simp; omega))
  clear hb
  go_wp2
  go_region
  go_wp2
  refine bodyPost_ret (v := .tuple #[.slice none 0 0, .agg #[.int .i64 E, .int .i64 I]]) (by simp [results, Tryd.results10, go_sem, r0, r1, hz]) rfl ⟨rfl, Below.drew ?_⟩
  refine Below.alloc ?_ (by simp [World.setCell]; omega) _
  exact (hB.setCell (p := ⟨w.heap.size + 1, 0, none⟩) (Nat.le_succ _) _).setCell (p := ⟨w.heap.size + 1, 1, none⟩) (Nat.le_succ _) _

set_option maxRecDepth 100000 in
set_option maxHeartbeats 4000000 in
theorem refEncode_ok (nodes faulty skew jitter drift round frame : Int) (sa la wa : Option Addr) (ns sc nl lc nw wc : Nat) (nd fr to lf lt lb lq wp wf wt : Nat → Int) (w : World)
    (hs : Rows3 w sa ns nd fr to) (hl : Rows4 w la nl lf lt lb lq) (hw : Rows3 w wa nw wp wf wt) (d1 : ns ≤ 32) (d2 : nl ≤ 8) (d3 : nw ≤ 32) (hfine : Fine0 w)
    (hnn : ∀ x ∈ planNums nodes faulty skew jitter drift round frame ns nl nw nd fr to lf lt lb lq wp wf wt, 0 ≤ x ∧ x ≤ 1099511627776)
    (hc : ∀ v : World, Below w.heap.size w v → Calls Tryd.prog 9 #[.agg #[.int .i64 nodes, .int .i64 faulty, .int .i64 skew, .int .i64 jitter, .int .i64 drift, .int .i64 round, .slice sa ns sc, .slice la nl lc, .int .i64 frame, .slice wa nw wc]] v fun ev w' => ev = .returned (.agg #[.int .i64 0, .int .i64 (-1)]) ∧ Below v.heap.size v w') :
    Calls Tryd.prog 10 #[.agg #[.int .i64 nodes, .int .i64 faulty, .int .i64 skew, .int .i64 jitter, .int .i64 drift, .int .i64 round, .slice sa ns sc, .slice la nl lc, .int .i64 frame, .slice wa nw wc]] w fun ev w' => ∃ v, ev = .returned (.tuple #[v, .agg #[.int .i64 0, .int .i64 (-1)]]) ∧ w'.ownsRow w.heap.size 5 1 v (bytesTo (planNums nodes faulty skew jitter drift round frame ns nl nw nd fr to lf lt lb lq wp wf wt) (10 + 3 * ns + 4 * nl + 3 * nw)).length ((bytesTo (planNums nodes faulty skew jitter drift round frame ns nl nw nd fr to lf lt lb lq wp wf wt) (10 + 3 * ns + 4 * nl + 3 * nw)).map (Value.int .u8)) ∧ Below w.heap.size w w' := by
  obtain ⟨L, hL⟩ : ∃ L, L = planNums nodes faulty skew jitter drift round frame ns nl nw nd fr to lf lt lb lq wp wf wt := ⟨_, rfl⟩
  have hLl : L.length = 10 + 3 * ns + 4 * nl + 3 * nw := by rw [hL]; exact planNums_len ..
  rw [← hL] at hnn ⊢
  have HL : Hid (L = planNums nodes faulty skew jitter drift round frame ns nl nw nd fr to lf lt lb lq wp wf wt) := hL
  have HLL : Hid (L.length = 10 + 3 * ns + 4 * nl + 3 * nw) := hLl
  have HNN : Hid (∀ x ∈ L, 0 ≤ x ∧ x ≤ 1099511627776) := hnn
  clear hL hLl hnn
  have HC := hc ((w.alloc (.cells #[.int .i64 nodes, .int .i64 faulty, .int .i64 skew, .int .i64 jitter, .int .i64 drift, .int .i64 round, .slice sa ns sc, .slice la nl lc, .int .i64 frame, .slice wa nw wc] 26)).alloc (.cells #[.int .i64 0, .int .i64 0] 34)) (((Below.refl _ _).alloc (Nat.le_refl _) _).alloc (by simp) _)
  clear hc
  obtain ⟨i0, hi, hz0, hz1, hz2⟩ := info_parts Tryd.infoInt
  go_enter Tryd.func10, Tryd.ntmps10
  go_wp2_with fail
  refine HC.mono ?_
  rintro ev w1 ⟨rfl, hb⟩
  clear HC
  have hz : w.heap.size + 1 < w1.heap.size := by have := hb.size; simp at this; omega
  have hzb : w.heap.size < w1.heap.size := by omega
  have p0 : w1.cell? ⟨w.heap.size, 0, none⟩ = some (.int .i64 nodes) := by rw [hb.cell (by simp; omega)]; simp
  have p1 : w1.cell? ⟨w.heap.size, 1, none⟩ = some (.int .i64 faulty) := by rw [hb.cell (by simp; omega)]; simp
  have p2 : w1.cell? ⟨w.heap.size, 2, none⟩ = some (.int .i64 skew) := by rw [hb.cell (by simp; omega)]; simp
  have p3 : w1.cell? ⟨w.heap.size, 3, none⟩ = some (.int .i64 jitter) := by rw [hb.cell (by simp; omega)]; simp
  have p4 : w1.cell? ⟨w.heap.size, 4, none⟩ = some (.int .i64 drift) := by rw [hb.cell (by simp; omega)]; simp
  have p5 : w1.cell? ⟨w.heap.size, 5, none⟩ = some (.int .i64 round) := by rw [hb.cell (by simp; omega)]; simp
  have p6 : w1.cell? ⟨w.heap.size, 6, none⟩ = some (.slice sa ns sc) := by rw [hb.cell (by simp; omega)]; simp
  have p7 : w1.cell? ⟨w.heap.size, 7, none⟩ = some (.slice la nl lc) := by rw [hb.cell (by simp; omega)]; simp
  have p8 : w1.cell? ⟨w.heap.size, 8, none⟩ = some (.int .i64 frame) := by rw [hb.cell (by simp; omega)]; simp
  have p9 : w1.cell? ⟨w.heap.size, 9, none⟩ = some (.slice wa nw wc) := by rw [hb.cell (by simp; omega)]; simp
  have r0 : w1.cell? ⟨w.heap.size + 1, 0, none⟩ = some (.int .i64 0) := by rw [hb.cell (by simp)]; simp
  have r1 : w1.cell? ⟨w.heap.size + 1, 1, none⟩ = some (.int .i64 0) := by rw [hb.cell (by simp)]; simp
  have z0 : w1.frozen? ⟨w.heap.size + 1, 0, none⟩ = false := by rw [hb.frozen (by simp)]; simp
  have z1 : w1.frozen? ⟨w.heap.size + 1, 1, none⟩ = false := by rw [hb.frozen (by simp)]; simp
  have hB : Below w.heap.size w w1 := (((Below.refl _ _).alloc (Nat.le_refl _) _).alloc (by simp) _).trans (hb.mono (by simp; omega))
  clear hb
  replace hs := hs.below hB
  replace hl := hl.below hB
  replace hw := hw.below hB
  replace hfine := hfine.below hB
  go_wp2_with fail
  go_loopw [5, 40] (fun v t wr => ∃ k : Nat, k ≤ ns ∧ t = .int .i64 k ∧ wr.ownsRow w1.heap.size 3 1 v (7 + 3 * k) (([nodes, faulty, skew, jitter, drift, round, (ns : Int)] ++ slotsTo nd fr to k).map (Value.int .i64)) ∧ Below w1.heap.size w1 wr) (fun _ t _ => ns - (intOf t).toNat)
  case atStart =>
    refine ⟨0, Nat.zero_le _, rfl, ?_, ?_⟩
    · have := owns_row (w1.alloc (.cells #[.int .i64 0, .int .i64 (-1)] 34)) #[.int .i64 nodes, .int .i64 faulty, .int .i64 skew, .int .i64 jitter, .int .i64 drift, .int .i64 round, .int .i64 ns] 3 7 rfl (by simp [maxLen]) w1.heap.size (by simp)
      simpa [slotsTo] using this
    · exact ((Below.refl _ _).alloc (Nat.le_refl _) _).alloc (by simp) _
  case round =>
    obtain ⟨k, hk, rfl, hown, hbe⟩ := hrel
    have hzr : w1.heap.size ≤ wr.heap.size := hbe.size
    have hzs : w.heap.size < wr.heap.size := by omega
    by_cases hlt : k < ns
    · obtain ⟨b, off, rfl, hb, hcc⟩ := hs (by omega)
      obtain ⟨x0, x1, x2⟩ := hcc k hlt
      have hbr : b < wr.heap.size := by omega
      clear hcc hs
      replace x0 := (hbe.cell (p := ⟨b, off + k * 3, none⟩) hb).trans x0
      replace x1 := (hbe.cell (p := ⟨b, off + k * 3 + 1, none⟩) hb).trans x1
      replace x2 := (hbe.cell (p := ⟨b, off + k * 3 + 2, none⟩) hb).trans x2
      have hnews : ∀ (j : Nat) (u : Value), [Value.int .i64 (nd k), .int .i64 (fr k), .int .i64 (to k)][j]? = some u → ((wr.alloc (.cells #[.int .i64 (nd k), .int .i64 (fr k), .int .i64 (to k)] 56)).alloc (.cells #[.int .i64 (nd k), .int .i64 (fr k), .int .i64 (to k)] 3)).cell? ((⟨wr.heap.size + 1, 0, none⟩ : Addr).add j) = some u := by
        have := row_cells (wr.alloc (.cells #[.int .i64 (nd k), .int .i64 (fr k), .int .i64 (to k)] 56)) #[.int .i64 (nd k), .int .i64 (fr k), .int .i64 (to k)] 3
        simpa only [World.size_alloc] using this
      have HN := (show Hid _ from hnews)
      clear hnews
      go_wp2_with (at_builtin; refine wpList_append_own _ rfl _ _ 52 rfl w1.heap.size 3 i0 (.int .i64 0) 1 8 Tryd.underlying52 hi hz0 hz1 hz2 rfl (by decide) u5 _ _ rfl ((hown.alloc _).alloc _) ⟨wr.heap.size + 1, 0, none⟩ 3 3 [.int .i64 (nd k), .int .i64 (fr k), .int .i64 (to k)] rfl rfl HN.out (ints_one [(nd k), (fr k), (to k)]) (by unfold maxLen; omega) (by omega) (by simp; omega) ?_; intro v' w2 hown' hgrow hnil)
      have hb2 : Below w1.heap.size w1 w2 := ((hbe.alloc hzr _).alloc (by simp; omega) _).grown hgrow (by simp; omega) (fun g hg => (hown.lt g hg).1)
      have hown2 : w2.ownsRow w1.heap.size 3 1 v' (7 + 3 * (k + 1)) (([nodes, faulty, skew, jitter, drift, round, (ns : Int)] ++ slotsTo nd fr to (k + 1)).map (Value.int .i64)) := by
        rw [slotsTo_succ, ← List.append_assoc, List.map_append, show 7 + 3 * (k + 1) = 7 + 3 * k + 3 from by omega]; exact hown'
      refine ⟨⟨k + 1, by omega, by go_num, hown2, hb2⟩, ?_⟩
      simp [intOf]; omega
    · have hkk : k = ns := by omega
      rw [hkk] at hown
      clear hk hkk hs
      have q7 := (hbe.cell (p := ⟨w.heap.size, 7, none⟩) hzb).trans p7
      have hnews : ∀ (j : Nat) (u : Value), [Value.int .i64 (nl : Int)][j]? = some u → (wr.alloc (.cells #[.int .i64 (nl : Int)] 3)).cell? ((⟨wr.heap.size, 0, none⟩ : Addr).add j) = some u := row_cells wr #[.int .i64 (nl : Int)] 3
      have HN := (show Hid _ from hnews)
      clear hnews
      go_wp2_with (at_builtin; refine wpList_append_own _ rfl _ _ 52 rfl w1.heap.size 3 i0 (.int .i64 0) 1 8 Tryd.underlying52 hi hz0 hz1 hz2 rfl (by decide) u5 _ _ rfl (hown.alloc _) ⟨wr.heap.size, 0, none⟩ 1 1 [.int .i64 (nl : Int)] rfl rfl HN.out (ints_one [(nl : Int)]) (by unfold maxLen; omega) (by omega) (by simp; omega) ?_; intro v' w2 hown' hgrow hnil; have hb2 : Below w1.heap.size w1 w2 := (hbe.alloc hzr _).grown hgrow (by simp; omega) (fun g hg => (hown.lt g hg).1); have q7b := (hb2.cell (p := ⟨w.heap.size, 7, none⟩) hzb).trans p7; have hzw : w.heap.size < w2.heap.size := Nat.lt_of_lt_of_le hzb hb2.size)
      have hown2 : w2.ownsRow w1.heap.size 3 1 v' (8 + 3 * ns) (([nodes, faulty, skew, jitter, drift, round, (ns : Int)] ++ slotsTo nd fr to ns ++ [(nl : Int)]).map (Value.int .i64)) := by
        rw [List.map_append, show 8 + 3 * ns = 7 + 3 * ns + 1 from by omega]; exact hown'
      clear hown hown' hgrow hnil HN hbe hzr hzs q7
      go_loopw [5, 65] (fun v t wr => ∃ k : Nat, k ≤ nl ∧ t = .int .i64 k ∧ wr.ownsRow w1.heap.size 3 1 v (8 + 3 * ns + 4 * k) ((([nodes, faulty, skew, jitter, drift, round, (ns : Int)] ++ slotsTo nd fr to ns ++ [(nl : Int)]) ++ linksN lf lt lb lq k).map (Value.int .i64)) ∧ Below w1.heap.size w1 wr) (fun _ t _ => nl - (intOf t).toNat)
      case atStart => exact ⟨0, Nat.zero_le _, rfl, by simpa [linksN] using hown2, hb2⟩
      case round =>
        obtain ⟨k, hk, rfl, hown, hbe⟩ := hrel
        have hzr : w1.heap.size ≤ wr.heap.size := hbe.size
        have hzs : w.heap.size < wr.heap.size := by omega
        by_cases hlt : k < nl
        · obtain ⟨b, off, rfl, hb, hcc⟩ := hl (by omega)
          obtain ⟨x0, x1, x2, x3⟩ := hcc k hlt
          have hbr : b < wr.heap.size := by omega
          clear hcc hl
          replace x0 := (hbe.cell (p := ⟨b, off + k * 4, none⟩) hb).trans x0
          replace x1 := (hbe.cell (p := ⟨b, off + k * 4 + 1, none⟩) hb).trans x1
          replace x2 := (hbe.cell (p := ⟨b, off + k * 4 + 2, none⟩) hb).trans x2
          replace x3 := (hbe.cell (p := ⟨b, off + k * 4 + 3, none⟩) hb).trans x3
          have hnews : ∀ (j : Nat) (u : Value), [Value.int .i64 (lf k), .int .i64 (lt k), .int .i64 (lb k), .int .i64 (lq k)][j]? = some u → ((wr.alloc (.cells #[.int .i64 (lf k), .int .i64 (lt k), .int .i64 (lb k), .int .i64 (lq k)] 58)).alloc (.cells #[.int .i64 (lf k), .int .i64 (lt k), .int .i64 (lb k), .int .i64 (lq k)] 3)).cell? ((⟨wr.heap.size + 1, 0, none⟩ : Addr).add j) = some u := by
            have := row_cells (wr.alloc (.cells #[.int .i64 (lf k), .int .i64 (lt k), .int .i64 (lb k), .int .i64 (lq k)] 58)) #[.int .i64 (lf k), .int .i64 (lt k), .int .i64 (lb k), .int .i64 (lq k)] 3
            simpa only [World.size_alloc] using this
          have HN := (show Hid _ from hnews)
          clear hnews
          go_wp2_with (at_builtin; refine wpList_append_own _ rfl _ _ 52 rfl w1.heap.size 3 i0 (.int .i64 0) 1 8 Tryd.underlying52 hi hz0 hz1 hz2 rfl (by decide) u5 _ _ rfl ((hown.alloc _).alloc _) ⟨wr.heap.size + 1, 0, none⟩ 4 4 [.int .i64 (lf k), .int .i64 (lt k), .int .i64 (lb k), .int .i64 (lq k)] rfl rfl HN.out (ints_one [(lf k), (lt k), (lb k), (lq k)]) (by unfold maxLen; omega) (by omega) (by simp; omega) ?_; intro v' w2 hown' hgrow hnil)
          have hb2 : Below w1.heap.size w1 w2 := ((hbe.alloc hzr _).alloc (by simp; omega) _).grown hgrow (by simp; omega) (fun g hg => (hown.lt g hg).1)
          have hown2 : w2.ownsRow w1.heap.size 3 1 v' (8 + 3 * ns + 4 * (k + 1)) ((([nodes, faulty, skew, jitter, drift, round, (ns : Int)] ++ slotsTo nd fr to ns ++ [(nl : Int)]) ++ linksN lf lt lb lq (k + 1)).map (Value.int .i64)) := by
            rw [linksN_succ, ← List.append_assoc, List.map_append, show 8 + 3 * ns + 4 * (k + 1) = 8 + 3 * ns + 4 * k + 4 from by omega]; exact hown'
          refine ⟨⟨k + 1, by omega, by go_num, hown2, hb2⟩, ?_⟩
          simp [intOf]; omega
        · have hkk : k = nl := by omega
          rw [hkk] at hown
          clear hk hkk hl
          have q8 := (hbe.cell (p := ⟨w.heap.size, 8, none⟩) hzb).trans p8
          have q9 := (hbe.cell (p := ⟨w.heap.size, 9, none⟩) hzb).trans p9
          have hnews : ∀ (j : Nat) (u : Value), [Value.int .i64 frame, .int .i64 (nw : Int)][j]? = some u → (wr.alloc (.cells #[.int .i64 frame, .int .i64 (nw : Int)] 3)).cell? ((⟨wr.heap.size, 0, none⟩ : Addr).add j) = some u := row_cells wr #[.int .i64 frame, .int .i64 (nw : Int)] 3
          have HN := (show Hid _ from hnews)
          clear hnews
          go_wp2_with (at_builtin; refine wpList_append_own _ rfl _ _ 52 rfl w1.heap.size 3 i0 (.int .i64 0) 1 8 Tryd.underlying52 hi hz0 hz1 hz2 rfl (by decide) u5 _ _ rfl (hown.alloc _) ⟨wr.heap.size, 0, none⟩ 2 2 [.int .i64 frame, .int .i64 (nw : Int)] rfl rfl HN.out (ints_one [frame, (nw : Int)]) (by unfold maxLen; omega) (by omega) (by simp; omega) ?_; intro v' w2 hown' hgrow hnil; have hb2 : Below w1.heap.size w1 w2 := (hbe.alloc hzr _).grown hgrow (by simp; omega) (fun g hg => (hown.lt g hg).1); have q9b := (hb2.cell (p := ⟨w.heap.size, 9, none⟩) hzb).trans p9; have hzw : w.heap.size < w2.heap.size := Nat.lt_of_lt_of_le hzb hb2.size)
          have hown2 : w2.ownsRow w1.heap.size 3 1 v' (10 + 3 * ns + 4 * nl) (((([nodes, faulty, skew, jitter, drift, round, (ns : Int)] ++ slotsTo nd fr to ns ++ [(nl : Int)]) ++ linksN lf lt lb lq nl) ++ [frame, (nw : Int)]).map (Value.int .i64)) := by
            rw [List.map_append, show 10 + 3 * ns + 4 * nl = 8 + 3 * ns + 4 * nl + 2 from by omega]; exact hown'
          clear hown hown' hgrow hnil HN hbe hzr hzs q8 q9
          go_loopw [5, 92] (fun v t wr => ∃ k : Nat, k ≤ nw ∧ t = .int .i64 k ∧ wr.ownsRow w1.heap.size 3 1 v (10 + 3 * ns + 4 * nl + 3 * k) ((((([nodes, faulty, skew, jitter, drift, round, (ns : Int)] ++ slotsTo nd fr to ns ++ [(nl : Int)]) ++ linksN lf lt lb lq nl) ++ [frame, (nw : Int)]) ++ slotsTo wp wf wt k).map (Value.int .i64)) ∧ Below w1.heap.size w1 wr) (fun _ t _ => nw - (intOf t).toNat)
          case atStart => exact ⟨0, Nat.zero_le _, rfl, by simpa [slotsTo] using hown2, hb2⟩
          case round =>
            obtain ⟨k, hk, rfl, hown, hbe⟩ := hrel
            have hzr : w1.heap.size ≤ wr.heap.size := hbe.size
            have hzs : w.heap.size < wr.heap.size := by omega
            by_cases hlt : k < nw
            · obtain ⟨b, off, rfl, hb, hcc⟩ := hw (by omega)
              obtain ⟨x0, x1, x2⟩ := hcc k hlt
              have hbr : b < wr.heap.size := by omega
              clear hcc hw
              replace x0 := (hbe.cell (p := ⟨b, off + k * 3, none⟩) hb).trans x0
              replace x1 := (hbe.cell (p := ⟨b, off + k * 3 + 1, none⟩) hb).trans x1
              replace x2 := (hbe.cell (p := ⟨b, off + k * 3 + 2, none⟩) hb).trans x2
              have hnews : ∀ (j : Nat) (u : Value), [Value.int .i64 (wp k), .int .i64 (wf k), .int .i64 (wt k)][j]? = some u → ((wr.alloc (.cells #[.int .i64 (wp k), .int .i64 (wf k), .int .i64 (wt k)] 61)).alloc (.cells #[.int .i64 (wp k), .int .i64 (wf k), .int .i64 (wt k)] 3)).cell? ((⟨wr.heap.size + 1, 0, none⟩ : Addr).add j) = some u := by
                have := row_cells (wr.alloc (.cells #[.int .i64 (wp k), .int .i64 (wf k), .int .i64 (wt k)] 61)) #[.int .i64 (wp k), .int .i64 (wf k), .int .i64 (wt k)] 3
                simpa only [World.size_alloc] using this
              have HN := (show Hid _ from hnews)
              clear hnews
              go_wp2_with (at_builtin; refine wpList_append_own _ rfl _ _ 52 rfl w1.heap.size 3 i0 (.int .i64 0) 1 8 Tryd.underlying52 hi hz0 hz1 hz2 rfl (by decide) u5 _ _ rfl ((hown.alloc _).alloc _) ⟨wr.heap.size + 1, 0, none⟩ 3 3 [.int .i64 (wp k), .int .i64 (wf k), .int .i64 (wt k)] rfl rfl HN.out (ints_one [(wp k), (wf k), (wt k)]) (by unfold maxLen; omega) (by omega) (by simp; omega) ?_; intro v' w2 hown' hgrow hnil)
              have hb2 : Below w1.heap.size w1 w2 := ((hbe.alloc hzr _).alloc (by simp; omega) _).grown hgrow (by simp; omega) (fun g hg => (hown.lt g hg).1)
              have hown2 : w2.ownsRow w1.heap.size 3 1 v' (10 + 3 * ns + 4 * nl + 3 * (k + 1)) ((((([nodes, faulty, skew, jitter, drift, round, (ns : Int)] ++ slotsTo nd fr to ns ++ [(nl : Int)]) ++ linksN lf lt lb lq nl) ++ [frame, (nw : Int)]) ++ slotsTo wp wf wt (k + 1)).map (Value.int .i64)) := by
                rw [slotsTo_succ, ← List.append_assoc, List.map_append, show 10 + 3 * ns + 4 * nl + 3 * (k + 1) = 10 + 3 * ns + 4 * nl + 3 * k + 3 from by omega]; exact hown'
              refine ⟨⟨k + 1, by omega, by go_num, hown2, hb2⟩, ?_⟩
              simp [intOf]; omega
            · have hkk : k = nw := by omega
              rw [hkk] at hown
              clear hk hkk hw
              have hownL : wr.ownsRow w1.heap.size 3 1 u5 (10 + 3 * ns + 4 * nl + 3 * nw) (L.map (Value.int .i64)) := by rw [HL.out]; exact hown
              obtain ⟨g, cap, rfl, hg, hcells⟩ := owns_some hownL (by omega)
              have HCE : Hid (∀ (j : Nat) (u : Value), (L.map (Value.int .i64))[j]? = some u → wr.cell? ((⟨g, 0, none⟩ : Addr).add j) = some u) := hcells
              have hgl : g < wr.heap.size := (hownL.lt g rfl).2
              have r0b := (hbe.cell (p := ⟨w.heap.size + 1, 0, none⟩) hz).trans r0
              have r1b := (hbe.cell (p := ⟨w.heap.size + 1, 1, none⟩) hz).trans r1
              have z0b := (hbe.frozen (p := ⟨w.heap.size + 1, 0, none⟩) hz).trans z0
              have z1b := (hbe.frozen (p := ⟨w.heap.size + 1, 1, none⟩) hz).trans z1
              have hfb := hfine.below hbe
              have hzx : w.heap.size + 1 < wr.heap.size := by omega
              have hBx : Below w.heap.size w wr := hB.trans (hbe.mono (by omega))
              clear hown hownL hcells hbe hfine p0 p1 p2 p3 p4 p5 p6 p7 p8 p9 r0 r1 z0 z1 hi hz0 hz1 hz2 hg hzr hzs
              obtain ⟨i1, hj, hy0, hy1, hy2⟩ := info_parts Tryd.infoByte
              rename World => x4
              go_wp2_with fail
              go_loopw [12, 110] (fun v t wr => ∃ k : Nat, k ≤ 10 + 3 * ns + 4 * nl + 3 * nw ∧ t = .int .i64 k ∧ wr.ownsRow x4.heap.size 5 1 v (bytesTo L k).length ((bytesTo L k).map (Value.int .u8)) ∧ Below x4.heap.size x4 wr) (fun _ t _ => 10 + 3 * ns + 4 * nl + 3 * nw - (intOf t).toNat)
              case atStart => exact ⟨0, Nat.zero_le _, rfl, by simpa [bytesTo] using World.ownsRow_nil _ _ _ _, Below.refl _ _⟩
              case round =>
                obtain ⟨k, hk, rfl, hown, hbe⟩ := hrel
                have hkl : k < 10 + 3 * ns + 4 * nl + 3 * nw ∨ k = 10 + 3 * ns + 4 * nl + 3 * nw := by omega
                rcases hkl with hlt | hkk
                · have hkL : k < L.length := by rw [HLL.out]; exact hlt
                  obtain ⟨x, hx⟩ : ∃ x, x = L[k] := ⟨_, rfl⟩
                  have hxb := HNN.out x (by rw [hx]; exact List.getElem_mem hkL)
                  have y0 : wr.cell? ⟨g, k, none⟩ = some (.int .i64 x) := by
                    rw [hbe.cell (p := ⟨g, k, none⟩) hgl]
                    have := HCE.out k (.int .i64 x) (by simp [hkL, hx])
                    simpa only [add_plain, Nat.zero_add] using this
                  have HX : Hid (x = L[k]) := hx
                  clear hx
                  obtain ⟨m, hm⟩ := Int.eq_ofNat_of_zero_le hxb.1
                  have hm2 : m ≤ 1099511627776 := by omega
                  have HM : Hid (x = (m : Int)) := hm
                  have bl := bytesTo_len L k (by omega)
                  go_wp2_with fail
                  refine (rnum_any 5 m (by omega) hm2 (by decide) _).mono ?_
                  rintro e w3 ⟨v1, rfl, ho1, hb3⟩
                  have nl1 := numB_len 5 m
                  have hownb := owns_below hown hb3
                  obtain ⟨g1, cap1, rfl, hg1, hc1⟩ := owns_some ho1 nl1.1
                  have HC1 := (show Hid _ from hc1)
                  have hz3 : x4.heap.size ≤ w3.heap.size := Nat.le_trans hbe.size hb3.size
                  clear hc1 ho1
                  go_wp2_with (at_builtin; refine wpList_append_own _ rfl _ _ 36 rfl x4.heap.size 5 i1 (.int .u8 0) 1 1 Tryd.underlying36 hj hy0 hy1 hy2 rfl (by decide) u12 _ _ rfl hownb ⟨g1, 0, none⟩ (numB 5 m).length cap1 ((numB 5 m).map (Value.int .u8)) rfl (by simp) HC1.out (bytes_one _) (by unfold maxLen; omega) (by omega) hz3 ?_; intro v' w4 hown' hgrow hnil)
                  have hb4 : Below x4.heap.size x4 w4 := (hbe.trans (hb3.mono hbe.size)).grown hgrow hz3 (fun q hq => (hownb.lt q hq).1)
                  have hown2 : w4.ownsRow x4.heap.size 5 1 v' (bytesTo L (k + 1)).length ((bytesTo L (k + 1)).map (Value.int .u8)) := by
                    have e5 : (L[k]).toNat = m := by have := HX.out; have := HM.out; omega
                    rw [bytesTo_succ L k hkL, e5, List.length_append, List.map_append]; exact hown'
                  go_roundw
                  case rel => exact ⟨k + 1, by omega, by go_num, hown2, hb4⟩
                  case measure => simp [intOf]; omega
                · have bl := bytesTo_len L k (by rw [HLL.out]; omega)
                  have bp : 1 ≤ (bytesTo L k).length := by
                    obtain ⟨q, rfl⟩ : ∃ q, k = q + 1 := ⟨k - 1, by omega⟩
                    exact bytesTo_pos L q (by rw [HLL.out]; omega)
                  rw [hkk] at bl bp hown
                  clear hk
                  obtain ⟨g1, cap1, rfl, hg1, hc1⟩ := owns_some hown bp
                  have hdec : decide ((2000 : Int) < ((bytesTo L (10 + 3 * ns + 4 * nl + 3 * nw)).length : Int)) = false := decide_eq_false (by omega)
                  have r0c := (hbe.cell (p := ⟨w.heap.size + 1, 0, none⟩) hzx).trans r0b
                  have r1c := (hbe.cell (p := ⟨w.heap.size + 1, 1, none⟩) hzx).trans r1b
                  have z0c := (hbe.frozen (p := ⟨w.heap.size + 1, 0, none⟩) hzx).trans z0b
                  have z1c := (hbe.frozen (p := ⟨w.heap.size + 1, 1, none⟩) hzx).trans z1b
                  obtain ⟨_, k0, k1⟩ := hfb.below hbe
                  have hlt : ¬ k < 10 + 3 * ns + 4 * nl + 3 * nw := by omega
                  clear hc1 HCE r0b r1b z0b z1b hfb
                  go_wp2_with fail
                  go_region
                  go_wp2
                  refine bodyPost_ret (v := .tuple #[.slice (some ⟨g1, 0, none⟩) (bytesTo L (10 + 3 * ns + 4 * nl + 3 * nw)).length cap1, .agg #[.int .i64 0, .int .i64 (-1)]]) (by simp [results, Tryd.results10, go_sem, r0c, r1c]) rfl ⟨_, rfl, ?_, ?_⟩
                  · have o1 := ownsRow_setCell_below hown (a := ⟨w.heap.size + 1, 0, none⟩) hzx (.int .i64 0)
                    have o2 := ownsRow_setCell_below o1 (a := ⟨w.heap.size + 1, 1, none⟩) hzx (.int .i64 (-1))
                    exact (owns_mono o2 (by omega)).drew
                  · refine Below.drew ?_
                    exact ((hBx.trans (hbe.mono hBx.size)).setCell (p := ⟨w.heap.size + 1, 0, none⟩) (Nat.le_succ _) _).setCell (p := ⟨w.heap.size + 1, 1, none⟩) (Nat.le_succ _) _
end Go.Proofs.YtlpojkehbhkdiaaDoor
