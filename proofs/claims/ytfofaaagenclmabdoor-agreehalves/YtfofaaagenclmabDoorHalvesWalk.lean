/- AgreeHalves, walked: of every clocks, lies, errors, f and u it answers true. Condition: package errors' own variable holds what its text says. -/
import Derived.Test.YtfofaaagenclmabDoorHalvesFrame
import Derived.Test.YtfofaaagenclmabDoorAgreeRoundWalk
namespace Go.Proofs.YtfofaaagenclmabDoor
open Go.RowKit Go.Shelf Go.Sort

theorem Tryd.infoRow : (Tryd.prog.info? 22).map (fun i => (i.zero, i.size, i.bytes)) = some (some (.slice none 0 0), 1, 24) := by kernel_rfl

theorem made_rows {w' : World} {B R n : Nat} (h : w'.ownsRow B 22 1 (.slice (some ⟨R, 0, none⟩) n n) n (madeCells #[.slice none 0 0] n).toList) (j : Nat) (hj : j < n) : w'.cell? ⟨R, j, none⟩ = some (.slice none 0 0) ∧ w'.frozen? ⟨R, j, none⟩ = false := by
  constructor
  · have := h.cells (g := R) rfl j (.slice none 0 0) (by simp [madeCells, hj, Nat.mod_one])
    rwa [add_at, Nat.zero_add] at this
  · rcases h.2 with ⟨e, _⟩ | ⟨g, cap, cur, hv, _, hh, _⟩
    · cases e
    · injection hv with hv
      injection hv with hv
      injection hv with hv
      subst hv
      simp [World.frozen?, hh]

set_option maxRecDepth 100000 in
set_option maxHeartbeats 8000000 in
theorem halves_walk (a la wa : Option Addr) (cap lc wc : Nat) (cs lies wrong : List Int) (f u : Int) (w : World) (hT : Told w) (hr : IntRow w a cs) (hl : IntRow w la lies) (hw : IntRow w wa wrong) (hll : lies.length ≤ maxLen) (hwl : wrong.length ≤ maxLen) (h1 : cs.length ≤ 16) (h2 : 3 * pk f 4 + 1 ≤ cs.length) :
    Calls Tryd.prog 5 #[.slice a cs.length cap, .slice la lies.length lc, .slice wa wrong.length wc, .int .i64 f, .int .i64 u] w fun e w' => e = .returned (.bool true) ∧ Below w.heap.size w w' := by
  obtain ⟨n, hn⟩ : ∃ n, cs.length = n := ⟨_, rfl⟩
  have hf := pk_in (a := f) (n := 4) (by decide)
  have hu := pk_in (a := u) (n := 1000) (by decide)
  have p1 := pick_any f 4 (by decide) (by decide)
  have p2 := pick_any u 1000 (by decide) (by decide)
  rw [hn] at h1 h2 ⊢
  obtain ⟨F, hF⟩ : ∃ F : Nat, pk f 4 = (F : Int) := ⟨(pk f 4).toNat, by omega⟩
  obtain ⟨U, hU⟩ : ∃ U : Nat, pk u 1000 = (U : Int) := ⟨(pk u 1000).toNat, by omega⟩
  rw [hF] at hf p1 h2
  rw [hU] at hu p2
  obtain ⟨ll, hll2⟩ : ∃ ll, lies.length = ll := ⟨_, rfl⟩
  obtain ⟨wl, hwl2⟩ : ∃ wl, wrong.length = wl := ⟨_, rfl⟩
  have HAL : Hid (∀ (k : Int) (W : World), Below w.heap.size w W → Calls Tryd.prog 15 #[.slice la ll lc, .int .i64 k] W fun e w' => e = .returned (.int .i64 (atV lies k)) ∧ w' = W) := fun k W hW => hll2 ▸ at_any la lc lies k W (hl.below hW) hll
  have HAW : Hid (∀ (k : Int) (W : World), Below w.heap.size w W → Calls Tryd.prog 15 #[.slice wa wl wc, .int .i64 k] W fun e w' => e = .returned (.int .i64 (atV wrong k)) ∧ w' = W) := fun k W hW => hwl2 ▸ at_any wa wc wrong k W (hw.below hW) hwl
  rw [hll2, hwl2]
  have HR : Hid (IntRow w a cs) := hr
  have HN : Hid (cs.length = n) := hn
  have hF3 : 3 * F + 1 ≤ n := by omega
  have hU1 : U ≤ 1000 := by omega
  clear hF hU hr hn hl hw hll hwl hll2 hwl2 h2 hf hu
  have k1 : decide ((16 : Int) < (n : Int)) = false := decide_eq_false (by omega)
  have k2 : decide ((n : Int) < 3 * (F : Int) + 1) = false := decide_eq_false (by omega)
  have hF16 : (F : Int) ≤ 16 := by omega
  obtain ⟨i0, hi, hz0, hz1, hz2⟩ := info_parts Tryd.infoInt
  obtain ⟨i1, gi, gz0, gz1, gz2⟩ := info_parts Tryd.infoRow
  go_enter Tryd.func5, Tryd.ntmps5
  go_wp2_with fail
  refine (p1 _).mono ?_
  rintro e w1 ⟨rfl, hw1⟩
  replace hw1 := hw1.symm
  subst hw1
  go_wp2_with fail
  refine (p2 _).mono ?_
  rintro e w1 ⟨rfl, hw1⟩
  replace hw1 := hw1.symm
  subst hw1
  go_wp2_with fail
  refine (middled_any _).mono ?_
  rintro e w1 ⟨rfl, hb1⟩
  clear p1 p2
  go_wp2_with fail
  go_loopw [14, 12] (fun t v wr => ∃ k : Nat, k ≤ n ∧ t = .int .i64 k ∧ wr.ownsRow w1.heap.size 3 1 v k ((nowL cs k).map (Value.int .i64)) ∧ Below w1.heap.size w1 wr) (fun t _ _ => n - (intOf t).toNat)
  case atStart => exact ⟨0, Nat.zero_le _, rfl, by simpa [nowL] using World.ownsRow_nil _ _ _ _, Below.refl _ _⟩
  case round =>
    obtain ⟨k, hk, rfl, hown, hbe⟩ := hrel
    by_cases hlt : k < n
    · obtain ⟨b, off, rfl, hb, hc⟩ := HR.out (by rw [HN.out]; omega)
      have hbw := below_then hb1 hbe
      have y0 := (hbw.cell (p := ⟨b, off + k, none⟩) hb).trans (hc k (by rw [HN.out]; exact hlt))
      have HS : Hid (nowL cs (k + 1) = nowL cs k ++ [nowV cs k]) := nowL_succ ..
      have hnv := nowV_in cs k
      have hpi := pick_any (cs.getD k 0) 1073741824 (by decide) (by decide) wr
      have e1 : pk (cs.getD k 0) 1073741824 = nowV cs k + 536870912 := by unfold nowV; omega
      rw [e1] at hpi
      obtain ⟨x, hx⟩ : ∃ x, nowV cs k = x := ⟨_, rfl⟩
      rw [hx] at hpi hnv HS
      clear hc e1 hx
      generalize cs.getD k 0 = c at *
      have hw2 := hbe.size
      have ex : x + 536870912 - 536870912 = x := by omega
      go_wp2_with fail
      refine hpi.mono ?_
      rintro ev wq ⟨rfl, hwq⟩
      replace hwq := hwq.symm
      subst hwq
      go_wp2_with (at_builtin; refine wpList_append_own _ rfl _ _ 22 rfl w1.heap.size 3 i0 (.int .i64 0) 1 8 Tryd.underlying22 hi hz0 hz1 hz2 rfl (by decide) u12 _ _ rfl (hown.alloc _) ⟨wr.heap.size, 0, none⟩ 1 1 [.int .i64 x] rfl rfl (cell_one_new _ _ _) (ints_one [x]) (by unfold maxLen; omega) (by omega) (by simp; omega) ?_; intro v' w3 hown' hgrow hnil)
      have hb3 : Below w1.heap.size w1 w3 := (hbe.alloc hw2 _).grown hgrow (by simp; omega) (fun g hg => (hown.lt g hg).1)
      refine ⟨⟨k + 1, by omega, by go_num, by rw [HS.out, List.map_append]; exact hown', hb3⟩, ?_⟩
      simp [intOf]; omega
    · have : k = n := by omega
      subst this
      obtain ⟨w2, hw2e⟩ : ∃ x, x = wr := ⟨wr, rfl⟩
      subst hw2e
      have hbw2 : Below w.heap.size w w2 := below_then hb1 hbe
      obtain ⟨an, cn, hv12, _, hnl, hIn⟩ := own_ints hown
      subst hv12
      obtain ⟨nb, noff, rfl, hnb, hnc⟩ := hIn (by rw [hnl]; omega)
      have HNC : Hid (∀ j, j < k → w2.cell? ⟨nb, noff + j, none⟩ = some (.int .i64 (nowV cs j))) := fun j hj => by
        rw [hnc j (by rw [hnl]; exact hj)]
        congr 2
        exact getD_map _ hj
      have HNI : Hid (IntRow w2 (some ⟨nb, noff, none⟩) (nowL cs k)) := fun _ => ⟨nb, noff, rfl, hnb, hnc⟩
      clear hIn hnc hown hbe hlt hk
      go_wp2_with (at_make; refine wpList_make_full _ rfl _ _ 32 rfl w2.heap.size 22 i1 (.slice none 0 0) 1 Tryd.underlying32 gi gz0 gz1 .i64 .i64 _ _ k rfl rfl rfl rfl (by rw [gz2]; omega) (by unfold maxLen; omega) (Nat.le_refl _) ?_; apply Hid.out)
      unfold Hid
      intro w3 hmade hgrow0
      have hO3 : Below w2.heap.size w2 w3 := (Below.refl _ _).grown hgrow0 (Nat.le_refl _) (fun k h => by cases h)
      obtain ⟨R, hRe⟩ : ∃ R, w2.heap.size = R := ⟨_, rfl⟩
      rw [hRe]
      rw [hRe] at hO3
      have HMC : Hid (∀ j, j < k → w3.cell? ⟨R, j, none⟩ = some (.slice none 0 0) ∧ w3.frozen? ⟨R, j, none⟩ = false) := fun j hj => made_rows (B := R) (hRe ▸ hmade) j hj
      have hR3 : R < w3.heap.size := cell_in (HMC.out 0 (by omega)).1
      have hnR : nb < R := by omega
      clear hmade hgrow0
      have hk0 : 0 < k := by omega
      go_wp2_with fail
      go_loopw [17, 13] (fun t rv wr => ∃ i : Nat, i ≤ k ∧ t = .int .i64 i ∧ Hid (Outer w2 R w3.heap.size k (fun i => rowL cs lies wrong k F U i k) (rightL cs F) (i - F) rv i wr)) (fun t _ _ => k - (intOf t).toNat)
      case atStart =>
        refine ⟨0, Nat.zero_le _, rfl, ⟨?_, fun j hj => absurd hj (Nat.not_lt_zero _), fun j _ hj => (HMC.out j hj).1, fun j hj => (HMC.out j hj).2, hO3, Nat.le_refl _⟩⟩
        rw [Nat.zero_sub]
        simpa [rightL] using World.ownsRow_nil _ _ _ _
      case round =>
        obtain ⟨i, hik, rfl, HO⟩ := hrel
        obtain ⟨wi, hwie⟩ : ∃ x, x = wr := ⟨wr, rfl⟩
        subst hwie
        by_cases hilt : i < k
        · obtain ⟨mm, hmm⟩ : ∃ mm : Nat, (i : Int) * (k : Int) = (mm : Int) := ⟨i * k, by rw [Int.natCast_mul]⟩
          have hmb : (mm : Int) ≤ 256 := by
            have : i * k ≤ 16 * 16 := Nat.mul_le_mul (by omega) (by omega)
            have e : ((i * k : Nat) : Int) = (mm : Int) := by rw [Int.natCast_mul]; exact hmm
            omega
          have hRi : R < wi.heap.size := Nat.lt_of_lt_of_le hR3 HO.out.size
          go_wp2_with fail
          go_loopw [18] (fun t wr => ∃ (q : Nat) (v : Value), q ≤ k ∧ t = .int .i64 q ∧ Hid (Inner w2 wi R i (rowL cs lies wrong k F U i) q v wr)) (fun t _ => k - (intOf t).toNat)
          case atStart =>
            refine ⟨0, .slice none 0 0, Nat.zero_le _, rfl, ⟨?_, HO.out.free i (Nat.le_refl _) hilt, HO.out.soft i hilt, But1.refl _ _ _ _, HO.out.old, Nat.le_refl _⟩⟩
            simpa [rowL] using World.ownsRow_nil _ _ _ _
          case round =>
            obtain ⟨q, v, hqk, rfl, HI⟩ := hrel
            by_cases hqlt : q < k
            · have hbR := HI.out.old
              have y1 := (hbR.cell (p := ⟨nb, noff + q, none⟩) hnR).trans (HNC.out q hqlt)
              have y2 := (hbR.cell (p := ⟨nb, noff + i, none⟩) hnR).trans (HNC.out i hilt)
              have n1 := nowV_in cs q
              have n2 := nowV_in cs i
              have HRV : Hid (rowL cs lies wrong k F U i (q + 1) = rowL cs lies wrong k F U i q ++ [rowV cs lies wrong k F U i q]) := rowL_succ ..
              have HV : Hid (rowV cs lies wrong k F U i q = if q < F then pk (atV lies ((mm : Int) + (q : Int))) 17179869184 - 8589934592 else nowV cs q - nowV cs i + (pk (atV wrong ((mm : Int) + (q : Int))) (2 * (U : Int) + 1) - (U : Int))) := by
                show _ = _
                rw [rowV, hmm]
              have hq16 : (q : Int) ≤ 16 := by omega
              generalize nowV cs q = x1 at *
              generalize nowV cs i = x2 at *
              clear hbR
              go_wp2_with fail
              go_quiet (fail)
              have HI2 : Hid (Inner w2 wi R i (rowL cs lies wrong k F U i) q v (wr.drewN nq)) := HI.out.drewN nq
              clear HI y1 y2
              generalize wr.drewN nq = wq at HI2 ⊢
              have c0 := HI2.out.cell
              have hbq : Below w.heap.size w wq := hbw2.trans (HI2.out.old.mono (by rw [← hRe]; exact hbw2.size))
              by_cases hqF : q < F
              · have kq : (q : Int) < (F : Int) := by omega
                have hp := pk_in (a := atV lies ((mm : Int) + (q : Int))) (n := 17179869184) (by decide)
                have hpi := pick_any (atV lies ((mm : Int) + (q : Int))) 17179869184 (by decide) (by decide) wq
                have hat := HAL.out ((mm : Int) + (q : Int)) wq hbq
                rw [if_pos hqF] at HV
                generalize atV lies ((mm : Int) + (q : Int)) = y at *
                generalize pk y 17179869184 = z at *
                obtain ⟨x, hx⟩ : ∃ x, z - 8589934592 = x := ⟨_, rfl⟩
                rw [hx] at HV
                rw [HV.out] at HRV
                clear HV
                go_wp2_with fail
                refine hat.mono ?_
                rintro ev wz ⟨rfl, hwz⟩
                replace hwz := hwz.symm
                subst hwz
                go_wp2_with fail
                refine hpi.mono ?_
                rintro ev wz ⟨rfl, hwz⟩
                replace hwz := hwz.symm
                subst hwz
                clear hat hpi
                have hzz := hbq.size
                go_wp2_with (at_builtin; refine wpList_append_own _ rfl _ _ 22 rfl wi.heap.size 3 i0 (.int .i64 0) 1 8 Tryd.underlying22 hi hz0 hz1 hz2 rfl (by decide) v q _ rfl (HI2.out.own.alloc _) ⟨wq.heap.size, 0, none⟩ 1 1 [.int .i64 x] rfl rfl (cell_one_new _ _ _) (ints_one [x]) (by unfold maxLen; omega) (by omega) (by have := HI2.out.size; simp; omega) ?_; apply Hid.out)
                unfold Hid
                intro v' w4 hown' hgrow _
                obtain ⟨gg, cg, rfl⟩ := own_one hown'
                obtain ⟨hI3, d0, d1⟩ := HI2.out.next HRV.out hRi hRe.symm hown' hgrow
                have HI3 : Hid (Inner w2 wi R i (rowL cs lies wrong k F U i) (q + 1) (.slice (some ⟨gg, 0, none⟩) (q + 1) cg) (w4.setCell ⟨R, i, none⟩ (.slice (some ⟨gg, 0, none⟩) (q + 1) cg))) := hI3
                clear hI3 hown' hgrow HI2 hbq hzz c0
                go_wp2_with fail
                exact ⟨⟨q + 1, _, by omega, by go_num, HI3⟩, by simp [intOf]; omega⟩
              · have kq : decide ((q : Int) < (F : Int)) = false := decide_eq_false (by omega)
                have hp := pk_in (a := atV wrong ((mm : Int) + (q : Int))) (n := 2 * (U : Int) + 1) (by omega)
                have hpi := pick_any (atV wrong ((mm : Int) + (q : Int))) (2 * (U : Int) + 1) (by omega) (by omega) wq
                have hat := HAW.out ((mm : Int) + (q : Int)) wq hbq
                rw [if_neg hqF] at HV
                generalize atV wrong ((mm : Int) + (q : Int)) = y at *
                generalize pk y (2 * (U : Int) + 1) = z at *
                obtain ⟨x, hx⟩ : ∃ x, x1 - x2 + (z - (U : Int)) = x := ⟨_, rfl⟩
                rw [hx] at HV
                rw [HV.out] at HRV
                clear HV
                go_wp2_with fail
                refine hat.mono ?_
                rintro ev wz ⟨rfl, hwz⟩
                replace hwz := hwz.symm
                subst hwz
                go_wp2_with fail
                refine hpi.mono ?_
                rintro ev wz ⟨rfl, hwz⟩
                replace hwz := hwz.symm
                subst hwz
                clear hat hpi
                have hzz := hbq.size
                go_wp2_with (at_builtin; refine wpList_append_own _ rfl _ _ 22 rfl wi.heap.size 3 i0 (.int .i64 0) 1 8 Tryd.underlying22 hi hz0 hz1 hz2 rfl (by decide) v q _ rfl (HI2.out.own.alloc _) ⟨wq.heap.size, 0, none⟩ 1 1 [.int .i64 x] rfl rfl (cell_one_new _ _ _) (ints_one [x]) (by unfold maxLen; omega) (by omega) (by have := HI2.out.size; simp; omega) ?_; apply Hid.out)
                unfold Hid
                intro v' w4 hown' hgrow _
                obtain ⟨gg, cg, rfl⟩ := own_one hown'
                obtain ⟨hI3, d0, d1⟩ := HI2.out.next HRV.out hRi hRe.symm hown' hgrow
                have HI3 : Hid (Inner w2 wi R i (rowL cs lies wrong k F U i) (q + 1) (.slice (some ⟨gg, 0, none⟩) (q + 1) cg) (w4.setCell ⟨R, i, none⟩ (.slice (some ⟨gg, 0, none⟩) (q + 1) cg))) := hI3
                clear hI3 hown' hgrow HI2 hbq hzz c0
                go_wp2_with fail
                exact ⟨⟨q + 1, _, by omega, by go_num, HI3⟩, by simp [intOf]; omega⟩
            · have hqe : k = q := by omega
              subst hqe
              have HO2 : Hid (Outer w2 R w3.heap.size k (fun i => rowL cs lies wrong k F U i k) (rightL cs F) (i - F) u13 (i + 1) wr) := HO.out.row HI.out rfl hR3 hk0
              clear HI HO
              by_cases hge : F ≤ i
              · have kg : (F : Int) ≤ (i : Int) := by omega
                have y2 := (HO2.out.old.cell (p := ⟨nb, noff + i, none⟩) hnR).trans (HNC.out i hilt)
                have HRS : Hid (rightL cs F (i - F + 1) = rightL cs F (i - F) ++ [nowV cs i]) := by
                  show _ = _
                  rw [rightL_succ, Nat.add_sub_cancel' hge]
                generalize nowV cs i = x at *
                have hzz := HO2.out.size
                go_wp2_with (at_builtin; refine wpList_append_own_at _ rfl _ _ 22 rfl w3.heap.size 3 i0 (.int .i64 0) 1 8 Tryd.underlying22 hi hz0 hz1 hz2 rfl (by decide) u13 (i - F) _ rfl (HO2.out.own.alloc _) ⟨wr.heap.size, 0, none⟩ 1 1 [.int .i64 x] rfl rfl (cell_one_new _ _ _) (ints_one [x]) (by unfold maxLen; omega) (by omega) (by simp; omega) ?_; apply Hid.out)
                unfold Hid
                intro v' w4 hown' hgrow _ hat
                have hO3 := HO2.out.push HRS.out hR3 hRe.symm hown' hgrow (by simpa using hat)
                rw [show i - F + 1 = i + 1 - F from by omega] at hO3
                have HO3 : Hid (Outer w2 R w3.heap.size k (fun i => rowL cs lies wrong k F U i k) (rightL cs F) (i + 1 - F) v' (i + 1) w4) := hO3
                clear hO3 hown' hgrow hat HO2 hzz y2
                go_wp2_with fail
                exact ⟨⟨i + 1, by omega, by go_num, HO3⟩, by simp [intOf]; omega⟩
              · have kg : decide ((F : Int) ≤ (i : Int)) = false := decide_eq_false (by omega)
                have HO3 : Hid (Outer w2 R w3.heap.size k (fun i => rowL cs lies wrong k F U i k) (rightL cs F) (i + 1 - F) u13 (i + 1) wr) := by
                  have := HO2.out
                  rwa [show i - F = i + 1 - F from by omega] at this
                clear HO2
                go_wp2_with fail
                exact ⟨⟨i + 1, by omega, by go_num, HO3⟩, by simp [intOf]; omega⟩
        · have hie : k = i := by omega
          subst hie
          have hTab := HO.out.kept.tab (Nat.lt_of_lt_of_le hR3 HO.out.size)
          have hbo : Below w.heap.size w wi := hbw2.trans (HO.out.old.mono (by rw [← hRe]; exact hbw2.size))
          obtain ⟨ar, cr, hv13, _, hrl, hIr⟩ := own_ints HO.out.own
          subst hv13
          have hIn := HNI.out.below (hRe ▸ HO.out.old : Below w2.heap.size w2 wi)
          have hRd := round_any (some ⟨nb, noff, none⟩) (some ⟨R, 0, none⟩) cn k (nowL cs k) (rowsL cs lies wrong k F U) F wi (hT.below hbo) hIn hTab (by rw [rowsL_len, nowL_len]) (by rw [nowL_len]; omega) (fun r hr => by
            obtain ⟨j, _, rfl⟩ := List.mem_map.1 hr
            rw [rowL_len]; omega) 0 0 (by rw [nowL_len]; exact .inl ⟨steps_fine cs lies wrong k F U (by omega) (by omega) hF3, rfl, rfl⟩)
          rw [nowL_len, rowsL_len, outs cs lies wrong k F U (by omega) (by omega) hF3] at hRd
          have HIR : Hid (IntRow wi ar (rightL cs F (k - F))) := hIr
          clear hTab hIn hIr HO HNI HNC HMC HAL HAW HR
          go_wp2_with fail
          refine hRd.mono ?_
          rintro ev w5 ⟨v, E, rfl, hA, ho, _, hb5⟩
          have hE : E = .nilIface := by
            rcases hA with ⟨e, _⟩ | ⟨_, _, h, _⟩
            · exact e
            · exact absurd rfl h
          subst hE
          obtain ⟨av, cv, hvv, hcv, hol, hIo⟩ := own_ints (ho (by first | trivial | rfl))
          subst hvv
          obtain ⟨ob, ooff, rfl, hob, hoc⟩ := hIo (by rw [hol]; exact hk0)
          obtain ⟨m, hm⟩ : ∃ m, k - F = m := ⟨_, rfl⟩
          have hb5' := below_then hbo hb5
          have hm0 : 0 < m := by omega
          have hm16 : m ≤ 16 := by omega
          obtain ⟨rb, roff, rfl, hrb, hrc⟩ := HIR.out.below hb5 (by rw [rightL_len]; omega)
          rw [hm] at hrc
          have HRC : Hid (∀ j, j < m → w5.cell? ⟨rb, roff + j, none⟩ = some (.int .i64 (nowV cs (F + j)))) := fun j hj => by
            rw [hrc j (by rw [rightL_len]; exact hj)]
            congr 2
            exact getD_map (fun j => nowV cs (F + j)) hj
          have HOC : Hid (∀ j, j < m → w5.cell? ⟨ob, ooff + F + j, none⟩ = some (.int .i64 (outV cs lies wrong k F U (F + j)))) := fun j hj => by
            rw [Nat.add_assoc, hoc (F + j) (by rw [hol]; omega)]
            congr 2
            exact getD_map _ (by omega)
          have HRI : Hid (IntRow w5 (some ⟨rb, roff, none⟩) (rightL cs F m)) := fun _ => ⟨rb, roff, rfl, hrb, hrc⟩
          have HOI : Hid (IntRow w5 (some ⟨ob, ooff + F, none⟩) (isL cs lies wrong k F U m)) := fun _ => ⟨ob, ooff + F, rfl, hob, fun j hj => by
            have hj : j < m := by rw [isL_len] at hj; exact hj
            rw [HOC.out j hj]
            congr 2
            exact (getD_map (fun j => outV cs lies wrong k F U (F + j)) hj).symm⟩
          have S1 := spread_any (some ⟨ob, ooff + F, none⟩) (cv - F) (isL cs lies wrong k F U m) w5 HOI.out (by rw [isL_len]; exact hm0) (by rw [isL_len]; omega) (fun x hx => by have := isL_in cs lies wrong k F U (by omega) (by omega) hF3 x (by rw [hm]; exact hx); omega)
          have S2 := spread_any (some ⟨rb, roff, none⟩) cr (rightL cs F m) w5 HRI.out (by rw [rightL_len]; exact hm0) (by rw [rightL_len]; omega) (fun x hx => by have := right_in cs F m x hx; omega)
          have S3 := spread_ok cs lies wrong k F U (by omega) hF3
          rw [hm] at S3
          rw [isL_len] at S1
          rw [rightL_len] at S2
          have S4 : 0 ≤ spr (rightL cs F m) ∧ spr (rightL cs F m) ≤ 1073741824 := by
            have e2 : rightL cs F m ≠ [] := fun e => by have := rightL_len cs F m; rw [e] at this; simp at this; omega
            have a1 := right_in cs F m _ (max_of e2).1
            have a2 := right_in cs F m _ (min_of e2).1
            have a3 := (max_of e2).2 _ (min_of e2).1
            unfold spr
            omega
          have HLA : Hid (∀ j, j < m → lowTo cs F m - (U : Int) ≤ outV cs lies wrong k F U (F + j) ∧ outV cs lies wrong k F U (F + j) ≤ highTo cs F m + (U : Int)) := fun j hj => by
            have := last_ok cs lies wrong k F U (by omega) hF3 j (by rw [hm]; exact hj)
            rwa [hm] at this
          generalize spr (isL cs lies wrong k F U m) = s1 at *
          generalize spr (rightL cs F m) = s2 at *
          have k3 : decide (s2 / 2 + 2 * (U : Int) + 1 < s1) = false := decide_eq_false (by omega)
          have k4 : ((k : Int) != (k : Int)) = false := by simp
          have k5 : (F : Int) ≤ (k : Int) := by omega
          clear hoc hrc hRd ho hA hIo HIR hb5
          have r0 : w5.cell? ⟨rb, roff, none⟩ = some (.int .i64 (nowV cs F)) := by
            have := HRC.out 0 hm0
            rwa [Nat.add_zero, Nat.add_zero] at this
          go_wp2_with fail
          refine S1.mono ?_
          rintro ev wz ⟨rfl, hwz⟩
          replace hwz := hwz.symm
          subst hwz
          go_wp2_with fail
          refine S2.mono ?_
          rintro ev wz ⟨rfl, hwz⟩
          replace hwz := hwz.symm
          subst hwz
          clear S1 S2
          go_wp2_with fail
          go_quiet (fail)
          clear r0
          go_wp2_with fail
          go_loopw [23, 24, 25] (fun lo hi t wr => ∃ j q : Nat, j ≤ m ∧ t = .int .i64 j ∧ lo = .int .i64 (lowTo cs F j) ∧ hi = .int .i64 (highTo cs F j) ∧ wr = w5.drewN q) (fun _ _ t _ => m - (intOf t).toNat)
          case atStart => exact ⟨0, _, Nat.zero_le _, rfl, rfl, rfl, rfl⟩
          case round =>
            obtain ⟨j, q, hj, rfl, rfl, rfl, rfl⟩ := hrel
            by_cases hjlt : j < m
            · have y0 : w5.cell? ⟨rb, roff + j, none⟩ = some (.int .i64 (nowV cs (F + j))) := HRC.out j hjlt
              have HL1 : Hid (lowTo cs F (j + 1) = min (lowTo cs F j) (nowV cs (F + j))) := lowTo_succ ..
              have HL2 : Hid (highTo cs F (j + 1) = max (highTo cs F j) (nowV cs (F + j))) := highTo_succ ..
              generalize nowV cs (F + j) = x at *
              generalize lowTo cs F j = lo at *
              generalize highTo cs F j = hi at *
              go_wp2_with fail
              go_quiet (fail)
              go_wp2_with fail
              exact ⟨⟨j + 1, _, by omega, by go_num, by rw [HL1.out], by rw [HL2.out], rfl⟩, by simp [intOf]; omega⟩
            · have hje : m = j := by omega
              subst hje
              have b1 := lowTo_in cs F m
              have b2 := highTo_in cs F m
              generalize lowTo cs F m = lo at *
              generalize highTo cs F m = hi at *
              clear HRC HRI HOI
              go_wp2_with fail
              go_loopw [26] (fun t wr => ∃ j : Nat, j ≤ m ∧ t = .int .i64 j ∧ wr = w5.drewN q) (fun t _ => m - (intOf t).toNat)
              case atStart => exact ⟨0, Nat.zero_le _, rfl, rfl⟩
              case round =>
                obtain ⟨j, hj, rfl, rfl⟩ := hrel
                by_cases hjlt : j < m
                · have y0 := HOC.out j hjlt
                  have hla := HLA.out j hjlt
                  generalize outV cs lies wrong k F U (F + j) = y at *
                  have k6 : decide (y < lo - (U : Int) - 1) = false := decide_eq_false (by omega)
                  have k7 : decide (hi + (U : Int) < y) = false := decide_eq_false (by omega)
                  go_wp2_with fail
                  exact ⟨⟨j + 1, by omega, by go_num, by trivial⟩, by simp [intOf]; omega⟩
                · have hje : m = j := by omega
                  subst hje
                  go_wp2
                  go_ret
                  exact ⟨rfl, below_drewN' hb5' _⟩

set_option maxRecDepth 100000 in
set_option maxHeartbeats 2000000 in
theorem ahalves_any (a la wa : Option Addr) (cap lc wc : Nat) (cs lies wrong : List Int) (f u : Int) (w : World) (hT : Told w) (hr : IntRow w a cs) (hl : IntRow w la lies) (hw : IntRow w wa wrong) (hll : lies.length ≤ maxLen) (hwl : wrong.length ≤ maxLen) :
    Calls Tryd.prog 5 #[.slice a cs.length cap, .slice la lies.length lc, .slice wa wrong.length wc, .int .i64 f, .int .i64 u] w fun e w' => e = .returned (.bool true) ∧ Below w.heap.size w w' := by
  by_cases h1 : cs.length ≤ 16
  · by_cases h2 : 3 * pk f 4 + 1 ≤ cs.length
    · exact halves_walk a la wa cap lc wc cs lies wrong f u w hT hr hl hw hll hwl h1 h2
    · have hf := pk_in (a := f) (n := 4) (by decide)
      have p1 := pick_any f 4 (by decide) (by decide) w
      have p2 := pick_any u 1000 (by decide) (by decide) w
      have k1 : decide ((16 : Int) < (cs.length : Int)) = false := decide_eq_false (by omega)
      have k2 : (cs.length : Int) < 3 * pk f 4 + 1 := by omega
      generalize cs.length = n at *
      generalize lies.length = ll at *
      generalize wrong.length = wl at *
      generalize pk f 4 = F at *
      generalize pk u 1000 = U at *
      clear hr hl hw h2 h1 hll hwl
      go_enter Tryd.func5, Tryd.ntmps5
      go_wp2_with fail
      refine p1.mono ?_
      rintro e w1 ⟨rfl, hw1⟩
      replace hw1 := hw1.symm
      subst hw1
      go_wp2_with fail
      refine p2.mono ?_
      rintro e w1 ⟨rfl, hw1⟩
      replace hw1 := hw1.symm
      subst hw1
      go_wp2
      go_ret
      exact ⟨rfl, Below.refl _ _⟩
  · have p1 := pick_any f 4 (by decide) (by decide) w
    have p2 := pick_any u 1000 (by decide) (by decide) w
    have k1 : (16 : Int) < (cs.length : Int) := by omega
    generalize cs.length = n at *
    generalize lies.length = ll at *
    generalize wrong.length = wl at *
    generalize pk f 4 = F at *
    generalize pk u 1000 = U at *
    clear hr hl hw h1 hll hwl
    go_enter Tryd.func5, Tryd.ntmps5
    go_wp2_with fail
    refine p1.mono ?_
    rintro e w1 ⟨rfl, hw1⟩
    replace hw1 := hw1.symm
    subst hw1
    go_wp2_with fail
    refine p2.mono ?_
    rintro e w1 ⟨rfl, hw1⟩
    replace hw1 := hw1.symm
    subst hw1
    go_wp2
    go_ret
    exact ⟨rfl, Below.refl _ _⟩
end Go.Proofs.YtfofaaagenclmabDoor
