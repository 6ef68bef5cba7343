/- PartTables, walked over the contracts of a table (module PTab2: Tab, tabNew_bad, tabNew_good, tabAt_bad, tabAt_good, tabShare): of every frame, row of windows, row of times and partition it answers true. Conditions: package errors' own variable and the document's answer's variable Fine hold what their texts say. -/
import Derived.Test.YtklknbkofmobcacDoorPTab2
import Derived.Test.YtklknbkofmobcacDoorRefAt8
import Derived.Test.YtklknbkofmobcacDoorPlaceErr
import Derived.Test.YtklknbkofmobcacDoorBareAt
import Derived.Test.YtklknbkofmobcacDoorIntRow
import Derived.Deep.RegionHeld3
import Derived.BigQuiet
namespace Go.Proofs.YtklknbkofmobcacDoor
open Go.RowKit

theorem bare_errV9 (e : Int) : BareSays (errV e) e := by
  unfold errV
  split
  · next h => rw [h]; exact bare_nil
  · exact bare_e e

set_option maxRecDepth 100000 in
set_option maxHeartbeats 1000000 in
theorem tables_great (frame which : Int) (a ta : Option Addr) (n cap tn tcap : Nat) (w : World) (h : 60 < n ∨ 60 < tn) (h1 : n ≤ 9223372036854775807) (h2 : tn ≤ 9223372036854775807) :
    Calls Tryd.prog 3 #[.int .i64 frame, .slice a n cap, .slice ta tn tcap, .int .i64 which] w fun e w' => e = .returned (.bool true) ∧ Below w.heap.size w w' := by
  by_cases k : 60 < n
  · have k1 : (60 : Int) < (n : Int) := by omega
    clear h
    go_enter Tryd.func3, Tryd.ntmps3
    go_wp2
    go_ret
    exact ⟨rfl, Below.refl _ _⟩
  · have k1 : decide ((60 : Int) < (n : Int)) = false := decide_eq_false (by omega)
    have k2 : (60 : Int) < (tn : Int) := by omega
    clear h
    go_enter Tryd.func3, Tryd.ntmps3
    go_wp2
    go_ret
    exact ⟨rfl, Below.refl _ _⟩

set_option maxRecDepth 100000 in
set_option maxHeartbeats 1000000 in
theorem tables_bad (frame which e i : Int) (a ta : Option Addr) (n cap tn tcap : Nat) (pt fr to : Nat → Int) (w : World) (hT : Told w) (hfine : Fine0 w) (hok : NewOk w) (hr : Rows3 w a n pt fr to) (h1 : n ≤ 60) (h2 : tn ≤ 60) (hF : FirstBad (winErr pt fr to frame) n e i) (hK : winK frame n e ≠ 0) :
    Calls Tryd.prog 3 #[.int .i64 frame, .slice a n cap, .slice ta tn tcap, .int .i64 which] w fun e w' => e = .returned (.bool true) ∧ Below w.heap.size w w' := by
  have k1 : decide ((60 : Int) < (n : Int)) = false := decide_eq_false (by omega)
  have k2 : decide ((60 : Int) < (tn : Int)) = false := decide_eq_false (by omega)
  have hN := tabNew_bad pt fr to frame e i a n cap w (by omega) hr hok hF hK
  have hW := fun (u : World) (hu : Below w.heap.size w u) => refWindows_any pt fr to frame e i a n cap u (by omega) (hr.below hu) (hfine.below hu) hF
  generalize winK frame n e = K at *
  generalize winP frame n e i = I at *
  have k3 : (K != 0) = true := by simpa using hK
  have HT : Hid (Told w) := hT
  clear hr hfine hF hK hT
  go_enter Tryd.func3, Tryd.ntmps3
  go_wp2_with fail
  refine hN.mono ?_
  rintro ev w1 ⟨E, rfl, hE, hb1⟩
  have HE : Hid (ErrIs w1 E K I) := hE
  have HB1 : Hid (Below w.heap.size w w1) := hb1
  clear hN hE hb1
  go_wp2_with fail
  refine (hW _ HB1.out).mono ?_
  rintro ev w2 ⟨rfl, hb2⟩
  have HB2 : Hid (Below w1.heap.size w1 w2) := hb2
  have hsz : w1.heap.size ≤ w2.heap.size := hb2.size
  clear hW hb2
  go_wp2_with fail
  refine (is_any E K I _ (place_err (HE.out.below (HB2.out.alloc hsz _))) (HT.out.below ((HB1.out.trans (HB2.out.mono HB1.out.size)).alloc (by have := HB1.out.size; omega) _))).mono ?_
  rintro ev w3 ⟨rfl, hb3⟩
  have HB3 : Hid (Below w.heap.size w w3) := ((HB1.out.trans (HB2.out.mono HB1.out.size)).alloc (by have := HB1.out.size; omega) _).trans (hb3.mono (by have := HB1.out.size; simp; omega))
  clear hb3
  go_wp2
  go_ret
  exact ⟨rfl, HB3.out⟩

set_option maxRecDepth 100000 in
set_option maxHeartbeats 2000000 in
theorem tables_good (frame which : Int) (a ta : Option Addr) (n cap tcap : Nat) (pt fr to : Nat → Int) (tl : List Int) (w : World) (hT : Told w) (hfine : Fine0 w) (hok : NewOk w) (hr : Rows3 w a n pt fr to) (ht : IntRow w ta tl) (h1 : n ≤ 32) (h2 : tl.length ≤ 60) (hf : 1 ≤ frame ∧ frame ≤ 1099511627776) (hw : WinsOk pt fr to frame n) :
    Calls Tryd.prog 3 #[.int .i64 frame, .slice a n cap, .slice ta tl.length tcap, .int .i64 which] w fun e w' => e = .returned (.bool true) ∧ Below w.heap.size w w' := by
  obtain ⟨tn, htn⟩ : ∃ tn, tl.length = tn := ⟨_, rfl⟩
  have HTN : Hid (tl.length = tn) := htn
  rw [htn] at h2 ⊢
  clear htn
  have k1 : decide ((60 : Int) < (n : Int)) = false := decide_eq_false (by omega)
  have k2 : decide ((60 : Int) < (tn : Int)) = false := decide_eq_false (by omega)
  obtain ⟨e, i, hF⟩ := FirstBad.any (winErr pt fr to frame) n
  obtain ⟨rfl, rfl⟩ := hF.at_end hw
  have hN := tabNew_good pt fr to frame a n cap w h1 hr hok hf hw
  have hW := fun (u : World) (hu : Below w.heap.size w u) => refWindows_any pt fr to frame 0 0 a n cap u (by omega) (hr.below hu) (hfine.below hu) hF
  rw [show winK frame n 0 = 0 by unfold winK; rw [if_neg (by omega), if_neg (by omega)], show winP frame n 0 0 = -1 by unfold winP; rw [if_neg (by omega), if_neg (by omega), if_pos rfl]] at hW
  have HT : Hid (Told w) := hT
  have HR : Hid (Rows3 w a n pt fr to) := hr
  have HI : Hid (IntRow w ta tl) := ht
  have HW : Hid (WinsOk pt fr to frame n) := hw
  have HSh : Hid (∀ k, k ≤ n → 0 ≤ shareW pt fr to which k ∧ shareW pt fr to which k ≤ 1099511627776) := fun k hk => by
    have h1 := shareW_in hw which k hk
    refine ⟨h1.1, Int.le_trans h1.2 ?_⟩
    split
    · decide
    · have := hw.up (k - 1) (by omega); omega
  clear hr hfine hF hT ht hw
  go_enter Tryd.func3, Tryd.ntmps3
  go_wp2_with fail
  refine hN.mono ?_
  rintro ev w1 ⟨O, P, rfl, hTab, hb1⟩
  have HB1 : Hid (Below w.heap.size w w1) := hb1
  have HTa : Hid (Tab w1 O P frame n pt fr to) := hTab
  clear hN hTab hb1
  go_wp2_with fail
  refine (hW _ HB1.out).mono ?_
  rintro ev w2 ⟨rfl, hb2⟩
  have HB2 : Hid (Below w1.heap.size w1 w2) := hb2
  clear hW hb2
  have HB3 : Hid (Below w.heap.size w (w2.alloc (.cells #[.int .i64 0, .int .i64 (-1)] 31))) := (HB1.out.trans (HB2.out.mono HB1.out.size)).alloc (by have := HB1.out.size; have := HB2.out.size; omega) _
  have HTb : Hid (Tab (w2.alloc (.cells #[.int .i64 0, .int .i64 (-1)] 31)) O P frame n pt fr to) := HTa.out.keep (Same.of_below (HB2.out.alloc HB2.out.size _) HTa.out.lt)
  clear HB1 HB2 HTa
  obtain ⟨V, hV⟩ : ∃ V, w2.alloc (.cells #[.int .i64 0, .int .i64 (-1)] 31) = V := ⟨_, rfl⟩
  rw [hV] at HB3 HTb
  have f0 : V.cell? ⟨w2.heap.size, 0, none⟩ = some (.int .i64 0) := by rw [← hV]; simp
  have f1 : V.cell? ⟨w2.heap.size, 1, none⟩ = some (.int .i64 (-1)) := by rw [← hV]; simp
  have fl : w2.heap.size < V.heap.size := by rw [← hV]; simp
  go_wp2_with fail
  clear f0 f1 fl hV
  go_loopw [12, 13] (fun sv t wr => ∃ k q : Nat, k ≤ n ∧ t = .int .i64 k ∧ sv = .int .i64 (shareW pt fr to which k) ∧ wr = V.drewN q) (fun _ t _ => n - (intOf t).toNat)
  case atStart => exact ⟨0, 0, Nat.zero_le _, rfl, rfl, rfl⟩
  case round =>
    obtain ⟨k, q, hk, rfl, rfl, rfl⟩ := hrel
    by_cases hlt : k < n
    · obtain ⟨b, off, rfl, hb, hc⟩ := (HR.out.below HB3.out) (by omega)
      obtain ⟨x0, x1, x2⟩ := hc k hlt
      have hup := HW.out.up k hlt
      have hs1 := HSh.out k (by omega)
      have hs2 := HSh.out (k + 1) (by omega)
      have HS2 : Hid (shareW pt fr to which (k + 1) = shareW pt fr to which k + (if pt k = which then to k - fr k else 0)) := rfl
      clear hc
      have kk : k < n := hlt
      generalize pt k = P0 at *
      generalize fr k = F at *
      generalize to k = T at *
      generalize shareW pt fr to which k = SK at *
      by_cases hp : P0 = which
      · have HS3 : Hid (SK + (T - F) = shareW pt fr to which (k + 1)) := by show _ = _; rw [HS2.out, if_pos hp]
        have hs4 : SK + (T - F) ≤ 1099511627776 := by rw [HS3.out]; exact hs2.2
        have hp' : (P0 == which) = true := by simpa using hp
        clear hp HS2 hs2
        go_wp2_with fail
        go_quiet (fail)
        go_wp2_with fail
        exact ⟨⟨k + 1, _, by omega, by go_num, by rw [← HS3.out], rfl⟩, by simp [intOf]; omega⟩
      · have HS3 : Hid (SK = shareW pt fr to which (k + 1)) := by show _ = _; rw [HS2.out, if_neg hp]; omega
        have hp' : (P0 == which) = false := by simpa using hp
        clear hp HS2 hs2
        go_wp2_with fail
        exact ⟨⟨k + 1, _, by omega, by go_num, by rw [← HS3.out], rfl⟩, by simp [intOf]; omega⟩
    · have hkn : k = n := by omega
      have HSn : Hid (shareW pt fr to which k = shareW pt fr to which n) := by rw [hkn]; exact rfl
      have kk : decide (k < n) = false := decide_eq_false (by omega)
      have HBq : Hid (Below w.heap.size w (V.drewN q)) := below_draw HB3.out q
      have HTq : Hid (Tab (V.drewN q) O P frame n pt fr to) := HTb.out.keep ⟨Nat.le_refl _, fun _ _ => rfl⟩
      have hsk : shareW pt fr to which k = shareW pt fr to which n := HSn.out
      rw [hsk]
      clear hkn hlt hsk HSn HB3 HTb
      obtain ⟨U, hU⟩ : ∃ U, V.drewN q = U := ⟨_, rfl⟩
      rw [hU] at HBq HTq ⊢
      clear hU
      go_wp2_with fail
      go_loopw [14] (fun t wr => ∃ j : Nat, j ≤ tn ∧ t = .int .i64 j ∧ Hid (Below w.heap.size w wr) ∧ Hid (Tab wr O P frame n pt fr to)) (fun t _ => tn - (intOf t).toNat)
      case atStart => exact ⟨0, Nat.zero_le _, rfl, HBq, HTq⟩
      case round =>
        clear HBq HTq
        obtain ⟨j, hj, rfl, HB, HTj⟩ := hrel
        by_cases hlj : j < tn
        · obtain ⟨tb, toff, rfl, htb, htc⟩ := HI.out (by rw [HTN.out]; omega)
          have y0 := (HB.out.cell (p := ⟨tb, toff + j, none⟩) htb).trans (htc j (by rw [HTN.out]; exact hlj))
          have tl0 : tb < wr.heap.size := Nat.lt_of_lt_of_le htb HB.out.size
          generalize tl.getD j 0 = now at y0
          clear htc
          by_cases hnow : 0 ≤ now ∧ now ≤ 1099511627776
          · have hRA := refAt_any pt fr to frame now a n cap wr (by omega) (HR.out.below HB.out) hf HW.out hnow
            have hTA := fun (u : World) (hu : Tab u O P frame n pt fr to) => tabAt_good hu now hnow hf HW.out (by omega)
            go_wp2_with fail
            refine hRA.mono ?_
            rintro ev u1 ⟨p, l, rfl, hR1, hu1⟩
            have HR1 : Hid (RunsAt pt fr to frame n (now % frame) p l) := hR1
            have HU1 : Hid (Below w.heap.size w u1) := HB.out.trans (hu1.mono HB.out.size)
            have HT1 : Hid (Tab u1 O P frame n pt fr to) := HTj.out.keep (Same.of_below hu1 HTj.out.lt)
            replace y0 := (hu1.cell (p := ⟨tb, toff + j, none⟩) tl0).trans y0
            replace tl0 := Nat.lt_of_lt_of_le tl0 hu1.size
            clear hRA hR1 hu1 HB HTj
            go_wp2_with fail
            refine (hTA _ HT1.out).mono ?_
            rintro ev u2 ⟨p2, l2, rfl, hR2, hu2⟩
            obtain ⟨rfl, rfl⟩ := RunsAt.one HW.out hR2 HR1.out
            have HU2 : Hid (Below w.heap.size w u2) := HU1.out.trans (hu2.mono HU1.out.size)
            have HT2 : Hid (Tab u2 O P frame n pt fr to) := HT1.out.keep (Same.of_below hu2 HT1.out.lt)
            have hbr := bare_errV9 0
            clear hTA hR2 hu2 HU1 HT1 HR1 y0 tl0
            go_wp2_with fail
            refine (hbr _ (HT.out.below HU2.out)).mono ?_
            rintro ev u3 ⟨rfl, hu3⟩
            have HU3 : Hid (Below w.heap.size w u3) := HU2.out.trans (hu3.mono HU2.out.size)
            have HT3 : Hid (Tab u3 O P frame n pt fr to) := HT2.out.keep (Same.of_below hu3 HT2.out.lt)
            clear hu3 hbr HU2 HT2
            go_wp2_with fail
            exact ⟨⟨j + 1, by omega, by go_num, HU3, HT3⟩, by simp [intOf]; omega⟩
          · have hRA := refAt_bad frame now (.slice a n cap) wr hnow
            have hTA := fun (u : World) (hu : Tab u O P frame n pt fr to) => tabAt_bad hu now hnow
            go_wp2_with fail
            refine hRA.mono ?_
            rintro ev u1 ⟨rfl, hu1⟩
            have HU1 : Hid (Below w.heap.size w u1) := HB.out.trans (hu1.mono HB.out.size)
            have HT1 : Hid (Tab u1 O P frame n pt fr to) := HTj.out.keep (Same.of_below hu1 HTj.out.lt)
            replace y0 := (hu1.cell (p := ⟨tb, toff + j, none⟩) tl0).trans y0
            replace tl0 := Nat.lt_of_lt_of_le tl0 hu1.size
            clear hRA hu1 HB HTj
            go_wp2_with fail
            refine (hTA _ HT1.out).mono ?_
            rintro ev u2 ⟨rfl, hu2⟩
            have HU2 : Hid (Below w.heap.size w u2) := HU1.out.trans (hu2.mono HU1.out.size)
            have HT2 : Hid (Tab u2 O P frame n pt fr to) := HT1.out.keep (Same.of_below hu2 HT1.out.lt)
            have hbr := bare_errV9 2
            clear hTA hu2 HU1 HT1 y0 tl0
            go_wp2_with fail
            refine (hbr _ (HT.out.below HU2.out)).mono ?_
            rintro ev u3 ⟨rfl, hu3⟩
            have HU3 : Hid (Below w.heap.size w u3) := HU2.out.trans (hu3.mono HU2.out.size)
            have HT3 : Hid (Tab u3 O P frame n pt fr to) := HT2.out.keep (Same.of_below hu3 HT2.out.lt)
            clear hu3 hbr HU2 HT2
            go_wp2_with fail
            exact ⟨⟨j + 1, by omega, by go_num, HU3, HT3⟩, by simp [intOf]; omega⟩
        · have hSh := tabShare HTj.out which hf HW.out (by omega)
          have kj : decide (j < tn) = false := decide_eq_false (by omega)
          generalize shareW pt fr to which n = SN at *
          go_wp2_with fail
          refine hSh.mono ?_
          rintro ev u1 ⟨rfl, hu1⟩
          have HU1 : Hid (Below w.heap.size w u1) := HB.out.trans (hu1.mono HB.out.size)
          clear hSh hu1
          go_wp2
          go_ret
          exact ⟨rfl, HU1.out⟩

/-- PartTables answers true, whatever it is asked. -/
theorem tables_any (frame which : Int) (a ta : Option Addr) (n cap tcap : Nat) (pt fr to : Nat → Int) (tl : List Int) (w : World) (hT : Told w) (hfine : Fine0 w) (hok : NewOk w) (hr : Rows3 w a n pt fr to) (ht : IntRow w ta tl) (h1 : n ≤ 9223372036854775807) (h2 : tl.length ≤ 9223372036854775807) :
    Calls Tryd.prog 3 #[.int .i64 frame, .slice a n cap, .slice ta tl.length tcap, .int .i64 which] w fun e w' => e = .returned (.bool true) ∧ Below w.heap.size w w' := by
  by_cases hg : 60 < n ∨ 60 < tl.length
  · exact tables_great frame which a ta n cap _ tcap w hg h1 h2
  · obtain ⟨e, i, hF⟩ := FirstBad.any (winErr pt fr to frame) n
    by_cases hK : winK frame n e = 0
    · unfold winK at hK
      by_cases hf : 1 ≤ frame ∧ frame ≤ 1099511627776
      · rw [if_neg (by omega)] at hK
        by_cases hn : 32 < n
        · rw [if_pos hn] at hK; cases hK
        · rw [if_neg hn] at hK
          subst hK
          refine tables_good frame which a ta n cap tcap pt fr to tl w hT hfine hok hr ht (by omega) (by omega) hf ?_
          exact FirstBad.fine hF
      · rw [if_pos hf] at hK; cases hK
    · exact tables_bad frame which e i a ta n cap _ tcap pt fr to w hT hfine hok hr (by omega) (by omega) hF hK
end Go.Proofs.YtklknbkofmobcacDoor
