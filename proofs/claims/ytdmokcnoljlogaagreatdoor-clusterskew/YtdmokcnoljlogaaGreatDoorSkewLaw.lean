/- ClusterSkew, walked over the contracts of a cluster: CLOCKS STAY TOGETHER (ahead of stage 9). -/
import Derived.Test.YtdmokcnoljlogaaGreatDoorBegun
import Derived.Test.YtdmokcnoljlogaaGreatDoorPlayed
import Derived.Test.YtdmokcnoljlogaaGreatDoorWordsB
import Derived.Test.YtdmokcnoljlogaaGreatDoorWordsF
namespace Go.Proofs.YtdmokcnoljlogaaGreatDoor
open Go.RowKit

set_option maxRecDepth 100000 in
set_option maxHeartbeats 4000000 in
theorem skew_any {Clu : World → List Nat → Nat → PlanN → Int → List Int → ClS → Int → Nat → Prop} (ops : CluOps Clu) (p : PlanN) (a : PlanAt) (fa : Int) (ca : Option Addr) (cap : Nat) (cs : List Int) (ra : Option Addr) (n rcap : Nat) (R : Nat → RoundN) (A : Nat → RoundAt) (w : World) (hT : Told w) (hp : p.In a w) (hc : IntRow w ca cs) (hl : cs.length ≤ 9223372036854775807) (hr : RoundsIn w ra n R A) (hn : n ≤ 9223372036854775807) :
    Calls Tryz.prog 3 #[p.val a, .int .i64 fa, .slice ca cs.length cap, .slice ra n rcap] w fun e w' => e = .returned (.bool true) ∧ Below w.heap.size w w' := by
  obtain ⟨V, hV⟩ : ∃ V, w.alloc (.cells #[.int .i64 p.nodes, .int .i64 p.faulty, .int .i64 p.skew, .int .i64 p.jitter, .int .i64 p.drift, .int .i64 p.round, .slice a.sa p.ns a.sc, .slice a.la p.nl a.lc, .int .i64 p.frame, .slice a.wa p.nw a.wc] 26) = V := ⟨_, rfl⟩
  obtain ⟨⟨x0, x1, x2, x3, x4, x5, x6, x7, x8, x9⟩, hB, hVs⟩ := plan_box p a w V _ hV
  have hPl := played_any ops V
  have hBg := fun (u : World) (hu : Below V.heap.size V u) => begun_any ops p a fa ca cap cs u ((hp.below hB).below hu) ((hc.below hB).below hu) hl
  have HT : Hid (Told V) := hT.below hB
  have HR : Hid (RoundsIn V ra n R A) := hr.below hB
  have HB : Hid (Below w.heap.size w V) := hB
  have HOp : Hid (CluOps Clu) := ops
  have hV0 : w.heap.size < V.heap.size := by omega
  clear hp hc hB ops hT hr
  by_cases k1 : 60 < n
  · have k1' : (60 : Int) < (n : Int) := by omega
    unfold PlanN.val
    clear hPl hBg
    go_enter Tryz.func3, Tryz.ntmps3
    go_wp2
    go_ret
    exact ⟨rfl, HB.out⟩
  have k1' : decide ((60 : Int) < (n : Int)) = false := decide_eq_false (by omega)
  have HVal : Hid (p.val a = .agg #[.int .i64 p.nodes, .int .i64 p.faulty, .int .i64 p.skew, .int .i64 p.jitter, .int .i64 p.drift, .int .i64 p.round, .slice a.sa p.ns a.sc, .slice a.la p.nl a.lc, .int .i64 p.frame, .slice a.wa p.nw a.wc]) := rfl
  rw [HVal.out] at hBg ⊢
  generalize cs.length = len at *
  generalize hskew : p.skew = skew at *
  generalize p.nodes = nodes at *
  generalize p.faulty = faulty at *
  generalize p.ns = ns at *
  generalize p.nl = nl at *
  generalize p.nw = nw at *
  generalize p.jitter = jitter at *
  generalize p.drift = drift at *
  generalize p.round = round at *
  generalize p.frame = frame at *
  generalize a.sa = sa at *
  generalize a.sc = sc at *
  generalize a.la = la at *
  generalize a.lc = lc at *
  generalize a.wa = wa at *
  generalize a.wc = wc at *
  have HSk : Hid (p.skew = skew) := hskew
  clear hskew HVal
  go_enter Tryz.func3, Tryz.ntmps3
  go_wp2_with fail
  refine hPl.mono ?_
  rintro e u1 ⟨rfl, hb1⟩
  have hBg1 := hBg u1 hb1
  have HB1 : Hid (Below w.heap.size w u1) := HB.out.trans (hb1.mono HB.out.size)
  replace x0 := keep_cell x0 hb1
  replace x1 := keep_cell x1 hb1
  replace x2 := keep_cell x2 hb1
  replace x3 := keep_cell x3 hb1
  replace x4 := keep_cell x4 hb1
  replace x5 := keep_cell x5 hb1
  replace x6 := keep_cell x6 hb1
  replace x7 := keep_cell x7 hb1
  replace x8 := keep_cell x8 hb1
  replace x9 := keep_cell x9 hb1
  have HT1 : Hid (Told u1) := HT.out.below hb1
  have HR1 : Hid (RoundsIn u1 ra n R A) := HR.out.below hb1
  have hu1 : w.heap.size < u1.heap.size := Nat.lt_of_lt_of_le hV0 hb1.size
  clear hPl hBg HB HT HR hb1 hV hVs hV0
  go_wp2_with fail
  refine hBg1.mono ?_
  rintro e u2 ⟨hb2, hr⟩
  have HBu : Hid (Below u1.heap.size u1 u2) := hb2
  have HL1 : Hid (w.heap.size ≤ u1.heap.size) := Nat.le_of_lt hu1
  clear hBg1 hb2 x0 x1 x3 x4 x5 x6 x7 x8 x9
  rcases hr with rfl | ⟨O, C, rfl, hC, hO⟩
  · go_wp2
    go_ret
    exact ⟨rfl, HB1.out.trans (HBu.out.mono HL1.out)⟩
  have HCl : Hid (∃ O cs s rd T, Clu u2 O C p (begFa p fa) cs s rd T ∧ T ≤ 0 ∧ ∀ c, c ∈ O → u1.heap.size ≤ c) := ⟨O, _, _, _, _, hC, Nat.le_refl _, hO⟩
  clear hC hO O
  go_wp2_with fail
  go_loopw [10] (fun t wr => ∃ k : Nat, k ≤ n ∧ t = .int .i64 k ∧ Hid (∃ O cs s rd T, Clu wr O C p (begFa p fa) cs s rd T ∧ T ≤ k ∧ ∀ c, c ∈ O → u1.heap.size ≤ c) ∧ Hid (Below u1.heap.size u1 wr)) (fun t _ => n - (intOf t).toNat)
  case atStart => exact ⟨0, Nat.zero_le _, rfl, HCl, HBu⟩
  case round =>
    clear HCl HBu
    obtain ⟨k, hk, rfl, hCl, hbe⟩ := hrel
    by_cases hlt : k < n
    · have kk : (k : Int) < (n : Int) := by omega
      obtain ⟨rb, roff, rfl, hrb, hrc⟩ := HR1.out (by omega)
      obtain ⟨⟨q0, q1, q2, q3⟩, hIn⟩ := hrc k hlt
      replace q0 := (hbe.out.cell (p := ⟨rb, roff + k * 4, none⟩) hrb).trans q0
      replace q1 := (hbe.out.cell (p := ⟨rb, roff + k * 4 + 1, none⟩) hrb).trans q1
      replace q2 := (hbe.out.cell (p := ⟨rb, roff + k * 4 + 2, none⟩) hrb).trans q2
      replace q3 := (hbe.out.cell (p := ⟨rb, roff + k * 4 + 3, none⟩) hrb).trans q3
      have hrw : rb < wr.heap.size := Nat.lt_of_lt_of_le hrb hbe.out.size
      have hI2 : (R k).In (A k) wr := hIn.below hbe.out
      obtain ⟨O, cs1, s1, rd, T, hC, hTk, hO⟩ := hCl.out
      have hPy := fun q : Nat => HOp.out.play (w := wr.drewN q) (R k) (A k) (HOp.out.keep hC ⟨Nat.le_refl _, fun _ _ => rfl⟩) (by omega) (hI2.below ⟨rfl, rfl, rfl, Nat.le_refl _, fun _ _ => rfl⟩) (fun b off e0 e1 y => by have := hIn.low b off e0 e1; have := hO b y; omega)
      unfold RoundN.val at hPy
      have HO : Hid (∀ c, c ∈ O → u1.heap.size ≤ c) := hO
      have l0 := hI2.lL
      have l1 := hI2.lR
      have l2 := hI2.lD
      have l3 := hI2.lM
      clear hrc hIn hI2 hC hO hCl
      generalize hRk : R k = r at *
      generalize hnL : r.nL = nL at *
      generalize hnR : r.nR = nR at *
      generalize hnD : r.drifts.length = nD at *
      generalize hnM : r.modes.length = nM at *
      generalize (A k).la = rla at *
      generalize (A k).lc = rlc at *
      generalize (A k).ra = rra at *
      generalize (A k).rc = rrc at *
      generalize (A k).da = rda at *
      generalize (A k).dc = rdc at *
      generalize (A k).ma = rma at *
      generalize (A k).mc = rmc at *
      clear hRk hnL hnR hnD hnM
      obtain ⟨X, hX⟩ : ∃ X, wrap64 (wrap64 (wrap64 ((nL : Int) + (nR : Int)) + (nD : Int)) + (nM : Int)) = X := ⟨_, rfl⟩
      by_cases k2 : 150 < X
      · clear hPy
        go_wp2_with fail
        go_quiet (fail)
        go_wp2
        go_ret
        exact ⟨rfl, HB1.out.trans (⟨hbe.out.os, hbe.out.tape, hbe.out.output, hbe.out.size, fun c hc => hbe.out.block c (Nat.lt_of_lt_of_le hc HL1.out)⟩)⟩
      · have k2' : decide (150 < X) = false := decide_eq_false k2
        go_wp2_with fail
        go_quiet (fail)
        go_wp2_with fail
        refine (hPy nq).mono ?_
        rintro e w2 ⟨O2, hf, hr⟩
        have hbq : Below u1.heap.size u1 (wr.drewN nq) := ⟨hbe.out.os, hbe.out.tape, hbe.out.output, hbe.out.size, hbe.out.block⟩
        have HB2 : Hid (Below u1.heap.size u1 w2) := hbq.trans (hf.below HO.out hbe.out.size)
        have HO2 : Hid (∀ c, c ∈ O2 → u1.heap.size ≤ c) := hf.above HO.out hbe.out.size
        have HC2 : Hid (∃ cs s rd T, Clu w2 O2 C p (begFa p fa) cs s rd T ∧ T ≤ k + 1) := by
          rcases hr with ⟨_, _, h⟩ | ⟨_, _, h⟩
          · exact ⟨_, _, _, _, h, by omega⟩
          · exact ⟨_, _, _, _, h, by omega⟩
        have hE : e = .returned (errV 6) ∨ e = .returned (errV 0) := by
          rcases hr with ⟨_, h, _⟩ | ⟨_, h, _⟩
          · exact .inl h
          · exact .inr h
        have y2 := keep_cell x2 HB2.out
        have hw2 : w.heap.size < w2.heap.size := Nat.lt_of_lt_of_le hu1 HB2.out.size
        have HT2 : Hid (Told w2) := HT1.out.below HB2.out
        clear hPy hr hf hbq q0 q1 q2 q3
        rcases hE with rfl | rfl
        · rw [show errV 6 = .iface 39 (.int .i64 6) from rfl]
          go_wp2_with fail
          refine (tell_e 6 _ HT2.out).mono ?_
          rintro e w3 ⟨rfl, hb3⟩
          have y3 := keep_cell y2 hb3
          have hw3 : w.heap.size < w3.heap.size := Nat.lt_of_lt_of_le hw2 hb3.size
          have HB3 : Hid (Below u1.heap.size u1 w3) := HB2.out.trans (hb3.mono HB2.out.size)
          have HC3 : Hid (∃ cs s rd T, Clu w3 O2 C p (begFa p fa) cs s rd T ∧ T ≤ k + 1) := by
            obtain ⟨c1, c2, c3, c4, h, hk⟩ := HC2.out
            exact ⟨c1, c2, c3, c4, HOp.out.keep h (Same.of_below hb3 (HOp.out.lt h)), hk⟩
          clear hb3 HC2 y2
          obtain ⟨cs3, s3, rd3, T3, hC3, hT3⟩ := HC3.out
          have hSp1 := fun q : Nat => HOp.out.spread (w := w3.drewN q) (HOp.out.keep hC3 ⟨Nat.le_refl _, fun _ _ => rfl⟩)
          have hSp2 := fun (v : World) (hv : Below w3.heap.size w3 v) => HOp.out.spread (HOp.out.keep hC3 (Same.of_below hv (HOp.out.lt hC3)))
          have hge := spreadL_pos (rightOf (begFa p fa) cs3)
          have hle := (HOp.out.ok hC3).1.near
          rw [HSk.out] at hle
          have HC4 : Hid (∀ v, Below w3.heap.size w3 v → ∃ O cs s rd T, Clu v O C p (begFa p fa) cs s rd T ∧ T ≤ k + 1 ∧ ∀ c, c ∈ O → u1.heap.size ≤ c) := fun v hv => ⟨O2, _, _, _, _, HOp.out.keep hC3 (Same.of_below hv (HOp.out.lt hC3)), hT3, HO2.out⟩
          generalize spreadL (rightOf (begFa p fa) cs3) = SV at *
          have g1 : decide (skew < SV) = false := decide_eq_false (by omega)
          have g2 : decide (SV < 0) = false := decide_eq_false (by omega)
          clear hC3 HC3
          go_wp2_with fail
          go_region_held3 (fun v => v.cell? ⟨w.heap.size, 2, none⟩ = some (.int .i64 skew)) (go_keep) (first
            | (go_at_call 10; refine (hSp1 _).mono ?_; rintro ev v1 ⟨rfl, hv1⟩; have HV1 : Hid (Below w3.heap.size w3 v1) := ⟨hv1.os, hv1.tape, hv1.output, hv1.size, hv1.block⟩; have yv := keep_cell y3 HV1.out)
            | (go_at_call 10; refine (hSp2 _ (by first | exact HV1.out | exact ⟨HV1.out.os, HV1.out.tape, HV1.out.output, HV1.out.size, HV1.out.block⟩)).mono ?_; rintro ev v2 ⟨rfl, hv2⟩; have HV2 : Hid (Below w3.heap.size w3 v2) := HV1.out.trans ⟨hv2.os, hv2.tape, hv2.output, Nat.le_trans (Nat.le_refl _) hv2.size, fun c hc => hv2.block c (Nat.lt_of_lt_of_le hc HV1.out.size)⟩; have yv2 := keep_cell y3 HV2.out))
          have HE : Hid (Below u1.heap.size u1 v2) := HB3.out.trans (HV2.out.mono HB3.out.size)
          have HCe := HC4.out v2 HV2.out
          have HCf : Hid _ := HCe
          clear hSp1 hSp2 HCe HC4 hv1 hv2
          go_wp2_with fail
          exact ⟨⟨k + 1, by omega, by go_num, HCf, ⟨HE.out.os, HE.out.tape, HE.out.output, HE.out.size, HE.out.block⟩⟩, by simp [intOf]; omega⟩
        · rw [errV_0]
          obtain ⟨cs3, s3, rd3, T3, hC3, hT3⟩ := HC2.out
          have hSp1 := fun q : Nat => HOp.out.spread (w := w2.drewN q) (HOp.out.keep hC3 ⟨Nat.le_refl _, fun _ _ => rfl⟩)
          have hSp2 := fun (v : World) (hv : Below w2.heap.size w2 v) => HOp.out.spread (HOp.out.keep hC3 (Same.of_below hv (HOp.out.lt hC3)))
          have hge := spreadL_pos (rightOf (begFa p fa) cs3)
          have hle := (HOp.out.ok hC3).1.near
          rw [HSk.out] at hle
          have HC4 : Hid (∀ v, Below w2.heap.size w2 v → ∃ O cs s rd T, Clu v O C p (begFa p fa) cs s rd T ∧ T ≤ k + 1 ∧ ∀ c, c ∈ O → u1.heap.size ≤ c) := fun v hv => ⟨O2, _, _, _, _, HOp.out.keep hC3 (Same.of_below hv (HOp.out.lt hC3)), hT3, HO2.out⟩
          generalize spreadL (rightOf (begFa p fa) cs3) = SV at *
          have g1 : decide (skew < SV) = false := decide_eq_false (by omega)
          have g2 : decide (SV < 0) = false := decide_eq_false (by omega)
          clear hC3 HC2
          go_wp2_with fail
          go_region_held3 (fun v => v.cell? ⟨w.heap.size, 2, none⟩ = some (.int .i64 skew)) (go_keep) (first
            | (go_at_call 10; refine (hSp1 _).mono ?_; rintro ev v1 ⟨rfl, hv1⟩; have HV1 : Hid (Below w2.heap.size w2 v1) := ⟨hv1.os, hv1.tape, hv1.output, hv1.size, hv1.block⟩; have yv := keep_cell y2 HV1.out)
            | (go_at_call 10; refine (hSp2 _ (by first | exact HV1.out | exact ⟨HV1.out.os, HV1.out.tape, HV1.out.output, HV1.out.size, HV1.out.block⟩)).mono ?_; rintro ev v2 ⟨rfl, hv2⟩; have HV2 : Hid (Below w2.heap.size w2 v2) := HV1.out.trans ⟨hv2.os, hv2.tape, hv2.output, Nat.le_trans (Nat.le_refl _) hv2.size, fun c hc => hv2.block c (Nat.lt_of_lt_of_le hc HV1.out.size)⟩; have yv2 := keep_cell y2 HV2.out))
          have HE : Hid (Below u1.heap.size u1 v2) := HB2.out.trans (HV2.out.mono HB2.out.size)
          have HCe := HC4.out v2 HV2.out
          have HCf : Hid _ := HCe
          clear hSp1 hSp2 HCe HC4 hv1 hv2
          go_wp2_with fail
          exact ⟨⟨k + 1, by omega, by go_num, HCf, ⟨HE.out.os, HE.out.tape, HE.out.output, HE.out.size, HE.out.block⟩⟩, by simp [intOf]; omega⟩
    · have hkn : k = n := by omega
      have kk : decide (k < n) = false := decide_eq_false hlt
      clear hkn hlt
      go_wp2
      go_ret
      exact ⟨rfl, HB1.out.trans (hbe.out.mono HL1.out)⟩
end Go.Proofs.YtdmokcnoljlogaaGreatDoor
