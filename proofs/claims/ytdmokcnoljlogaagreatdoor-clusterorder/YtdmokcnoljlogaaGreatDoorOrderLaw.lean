/- ClusterOrder, walked over the contracts of a cluster: MESSAGES KEEP THEIR ORDER (ahead of stage 9). -/
import Derived.Test.YtdmokcnoljlogaaGreatDoorBegun
import Derived.Test.YtdmokcnoljlogaaGreatDoorPlayed
import Derived.Test.YtdmokcnoljlogaaGreatDoorOrdSt
import Derived.Test.YtdmokcnoljlogaaGreatDoorMadeRow
import Derived.Laws.MakeOwn
import Derived.Laws.BytesArg
import Derived.Deep.DeepCutAuto
namespace Go.Proofs.YtdmokcnoljlogaaGreatDoor
open Go.RowKit

theorem Tryz.infoInts : (Tryz.prog.info? 27).map (fun i => (i.zero, i.size, i.bytes)) = some (some (.slice none 0 0), 1, 24) := by kernel_rfl

set_option maxRecDepth 100000 in
set_option maxHeartbeats 4000000 in
theorem order_any {Clu : World → List Nat → Nat → PlanN → Int → List Int → ClS → Int → Nat → Prop} (ops : CluOps Clu) (p : PlanN) (a : PlanAt) (fa : Int) (ra : Option Addr) (n rcap : Nat) (K : Nat → Int) (R : Nat → RoundN) (A : Nat → RoundAt) (w : World) (hp : p.In a w) (hr : SaysIn w ra n K R A) (hn : n ≤ 9223372036854775807) :
    Calls Tryz.prog 4 #[p.val a, .int .i64 fa, .slice ra n rcap] w fun e w' => e = .returned (.bool true) ∧ Below w.heap.size w w' := by
  obtain ⟨V, hV⟩ : ∃ V, w.alloc (.cells #[.int .i64 p.nodes, .int .i64 p.faulty, .int .i64 p.skew, .int .i64 p.jitter, .int .i64 p.drift, .int .i64 p.round, .slice a.sa p.ns a.sc, .slice a.la p.nl a.lc, .int .i64 p.frame, .slice a.wa p.nw a.wc] 26) = V := ⟨_, rfl⟩
  obtain ⟨⟨x0, x1, x2, x3, x4, x5, x6, x7, x8, x9⟩, hB, hVs⟩ := plan_box p a w V _ hV
  have hPl := played_any ops V
  have hBg := fun (u : World) (hu : Below V.heap.size V u) => begun_any ops p a fa none 0 [] u ((hp.below hB).below hu) (fun h => absurd h (Nat.lt_irrefl _)) (by decide)
  have HR : Hid (SaysIn V ra n K R A) := hr.below hB
  have HB : Hid (Below w.heap.size w V) := hB
  have HOp : Hid (CluOps Clu) := ops
  have hV0 : w.heap.size < V.heap.size := by omega
  have HP0 : Hid (p.In a V) := hp.below hB
  clear hp hB ops hr
  by_cases k1 : 50 < n
  · have k1' : (50 : Int) < (n : Int) := by omega
    unfold PlanN.val
    clear hPl hBg
    go_enter Tryz.func4, Tryz.ntmps4
    go_wp2
    go_ret
    exact ⟨rfl, HB.out⟩
  have k1' : decide ((50 : Int) < (n : Int)) = false := decide_eq_false (by omega)
  have HVal : Hid (p.val a = .agg #[.int .i64 p.nodes, .int .i64 p.faulty, .int .i64 p.skew, .int .i64 p.jitter, .int .i64 p.drift, .int .i64 p.round, .slice a.sa p.ns a.sc, .slice a.la p.nl a.lc, .int .i64 p.frame, .slice a.wa p.nw a.wc]) := rfl
  rw [HVal.out] at hBg ⊢
  generalize p.skew = skew at *
  generalize hnodes : p.nodes = nodes at *
  generalize p.faulty = faulty at *
  generalize p.ns = ns at *
  generalize hnl : p.nl = nl at *
  generalize p.nw = nw at *
  generalize p.jitter = jitter at *
  generalize p.drift = drift at *
  generalize p.round = round at *
  generalize p.frame = frame at *
  generalize a.sa = sa at *
  generalize a.sc = sc at *
  generalize a.la = la at *
  generalize a.lc = lc at *
  generalize a.wa = wa at *
  generalize a.wc = wc at *
  have HNo : Hid (p.nodes = nodes ∧ p.nl = nl) := ⟨hnodes, hnl⟩
  clear hnodes hnl HVal
  go_enter Tryz.func4, Tryz.ntmps4
  go_wp2_with fail
  refine hPl.mono ?_
  rintro e u1 ⟨rfl, hb1⟩
  have hBg1 := hBg u1 hb1
  have HB1 : Hid (Below w.heap.size w u1) := HB.out.trans (hb1.mono HB.out.size)
  replace x0 := keep_cell x0 hb1
  replace x1 := keep_cell x1 hb1
  replace x2 := keep_cell x2 hb1
  replace x3 := keep_cell x3 hb1
  replace x4 := keep_cell x4 hb1
  replace x5 := keep_cell x5 hb1
  replace x6 := keep_cell x6 hb1
  replace x7 := keep_cell x7 hb1
  replace x8 := keep_cell x8 hb1
  replace x9 := keep_cell x9 hb1
  have HR1 : Hid (SaysIn u1 ra n K R A) := HR.out.below hb1
  have hu1 : w.heap.size < u1.heap.size := Nat.lt_of_lt_of_le hV0 hb1.size
  clear hPl hBg HB HR hb1 hV hVs hV0
  go_wp2_with fail
  refine hBg1.mono ?_
  rintro e u2 ⟨hb2, hr⟩
  have HBu : Hid (Below u1.heap.size u1 u2) := hb2
  have HL1 : Hid (w.heap.size ≤ u1.heap.size) := Nat.le_of_lt hu1
  have y0 := keep_cell x0 hb2
  have y7 := keep_cell x7 hb2
  have y0' := y0
  have y7' := y7
  have hu2 : w.heap.size < u2.heap.size := Nat.lt_of_lt_of_le hu1 hb2.size
  clear hBg1 hb2 x1 x2 x3 x4 x5 x6 x8 x9
  rcases hr with rfl | ⟨O, C, rfl, hC, hO⟩
  · go_wp2
    go_ret
    exact ⟨rfl, HB1.out.trans (HBu.out.mono HL1.out)⟩
  have hok := (HOp.out.ok hC).1.plan.bounds
  have b0 := hok.n1
  have b1 := hok.n2
  have b2 := hok.nl
  rw [HNo.out.1] at b0 b1
  rw [HNo.out.2] at b2
  obtain ⟨nn, rfl⟩ : ∃ nn : Nat, nodes = nn := ⟨nodes.toNat, by omega⟩
  have HN : Hid (p.n = nn ∧ p.nl = nl) := ⟨by unfold PlanN.n; rw [HNo.out.1]; omega, HNo.out.2⟩
  have HC : Hid (Clu u2 O C p (begFa p fa) (begL [] p.skew p.n) ClS.start 0 0 ∧ ∀ c, c ∈ O → u1.heap.size ≤ c ∧ c < u2.heap.size) := ⟨hC, fun c hc => ⟨hO c hc, HOp.out.lt hC c hc⟩⟩
  obtain ⟨i0, hi, hz0, hz1, hz2⟩ := info_parts Tryz.infoInt
  obtain ⟨i1, gi, gz0, gz1, gz2⟩ := info_parts Tryz.infoInts
  have hmk := run_makeSlice (P := Tryz.prog) u2 27 3 i0 _ Tryz.underlying27 hi hz0 .i64 .i64 (nl : Int) (nl : Int) (by omega) (Int.le_refl _) (by rw [hz1]; simp; omega) (by rw [hz2]; omega) (by omega)
  rw [hz1] at hmk
  simp only [Int.toNat_natCast, Nat.mul_one] at hmk
  obtain ⟨V1, hV1⟩ : ∃ V1, u2.alloc (.cells (madeCells (Value.int .i64 0).cells nl) 3) = V1 := ⟨_, rfl⟩
  obtain ⟨m1, m2, m3, m4⟩ := made_cells u2 3 (.int .i64 0) rfl nl
  rw [hV1] at hmk m1 m2 m3 m4
  have hmk2 := run_makeSlice (P := Tryz.prog) V1 44 27 i1 _ Tryz.underlying44 gi gz0 .i64 .i64 (nl : Int) (nl : Int) (by omega) (Int.le_refl _) (by rw [gz1]; simp; omega) (by rw [gz2]; omega) (by omega)
  rw [gz1] at hmk2
  simp only [Int.toNat_natCast, Nat.mul_one] at hmk2
  obtain ⟨V2, hV2⟩ : ∃ V2, V1.alloc (.cells (madeCells (Value.slice none 0 0).cells nl) 27) = V2 := ⟨_, rfl⟩
  obtain ⟨g1, g2, g3, g4⟩ := made_cells V1 27 (.slice none 0 0) rfl nl
  rw [hV2, m4] at hmk2
  rw [hV2] at g1 g2 g3 g4
  rw [m4] at g1 g2 g4
  have HG : Hid (Growing V2 u2.heap.size u2.heap.size (u2.heap.size + 1) (fun _ => 0) nl nn 0) := by
    refine ⟨fun j hj => ?_, fun j => ?_, fun j hj => absurd hj (Nat.not_lt_zero _), fun j _ hj => g1 j hj, g2, fun j i hj => absurd hj (Nat.not_lt_zero _), fun j i hj => absurd hj (Nat.not_lt_zero _), rfl, rfl, by omega, fun j hj => absurd hj (Nat.not_lt_zero _), fun j _ hj => absurd hj (Nat.not_lt_zero _)⟩
    · exact (g3.cell (p := ⟨u2.heap.size, j, none⟩) (show u2.heap.size < V1.heap.size by omega)).trans (m1 j hj)
    · exact (g3.frozen (p := ⟨u2.heap.size, j, none⟩) (show u2.heap.size < V1.heap.size by omega)).trans (m2 j)
  have HB2 : Hid (Below u2.heap.size u2 V2) := m3.trans (g3.mono (by omega))
  have z0 := keep_cell y0 m3
  have z7 := keep_cell y7 m3
  have t0 := keep_cell z0 g3
  have t7 := keep_cell z7 g3
  have s1 : w.heap.size < V1.heap.size := by omega
  have s2 : w.heap.size < V2.heap.size := by omega
  have hsz := m4
  clear hok hC hO m1 m2 m3 g1 g2 g3 gi gz0 gz1 gz2
  obtain ⟨PB, hPB⟩ : ∃ PB, u2.heap.size = PB := ⟨_, rfl⟩
  rw [hPB] at hmk hmk2 HG HB2
  have HP1 : Hid (u1.heap.size ≤ PB) := by show _ ≤ _; rw [← hPB]; exact HBu.out.size
  have hu2' := hu2
  rw [hPB] at hu2'
  go_wp2_with fail
  clear hmk hmk2 hV1 hV2 y0 y7 z0 z7 s1 hsz
  go_loopw [10] (fun t wr => ∃ (k : Nat) (LR : Nat → Nat), k ≤ nl ∧ t = .int .i64 k ∧ Hid (Growing wr PB PB (PB + 1) LR nl nn k) ∧ Hid (Below PB u2 wr)) (fun t _ => nl - (intOf t).toNat)
  case atStart => exact ⟨0, _, Nat.zero_le _, rfl, HG, HB2⟩
  case round =>
    clear HG HB2 t0 t7 s2
    obtain ⟨k, LR, hk, rfl, hG, hbe⟩ := hrel
    have q0 := (hbe.out.cell (p := ⟨w.heap.size, 0, none⟩) hu2').trans y0'
    have q7 := (hbe.out.cell (p := ⟨w.heap.size, 7, none⟩) hu2').trans y7'
    have hll := hG.out.ll
    have s3 : w.heap.size < wr.heap.size := by omega
    by_cases hlt : k < nl
    · have kk : (k : Int) < (nl : Int) := by omega
      have e0 := hG.out.e k (Nat.le_refl _) hlt
      have ez := hG.out.lz k
      have hmk := run_makeSlice (P := Tryz.prog) wr 27 3 i0 _ Tryz.underlying27 hi hz0 .i64 .i64 (nn : Int) (nn : Int) (by omega) (Int.le_refl _) (by rw [hz1]; simp; omega) (by rw [hz2]; omega) (by omega)
      rw [hz1] at hmk
      simp only [Int.toNat_natCast, Nat.mul_one] at hmk
      obtain ⟨W, hW⟩ : ∃ W, wr.alloc (.cells (madeCells (Value.int .i64 0).cells nn) 3) = W := ⟨_, rfl⟩
      rw [hW] at hmk
      have hWB : Below wr.heap.size wr W := by rw [← hW]; exact (Below.refl _ _).alloc (Nat.le_refl _) _
      have hWs : W.heap.size = wr.heap.size + 1 := by rw [← hW]; simp
      have e1 := (hWB.cell (p := ⟨PB + 1, k, none⟩) hll).trans e0
      have ez1 := (hWB.frozen (p := ⟨PB + 1, k, none⟩) hll).trans ez
      have hl1 : PB + 1 < W.heap.size := by omega
      have HGn : Hid _ := hG.out.grow hlt hW
      have HBn : Hid _ := hG.out.below u2 hbe.out hW (.slice (some ⟨wr.heap.size, 0, none⟩) nn nn)
      clear hG hbe hW hWB e0 ez
      go_wp2_with fail
      exact ⟨⟨k + 1, _, by omega, by go_num, HGn, HBn⟩, by simp [intOf]; omega⟩
    · obtain rfl : nl = k := by omega
      have kk : decide (nl < nl) = false := decide_eq_false (by omega)
      have HOR : Hid (OwnRows wr PB (PB + 1) LR nl nn (fun _ => 0) (fun _ _ => 0)) := hG.out.whole
      have HSt : Hid (OrdSt Clu wr u1.heap.size C p (begFa p fa) PB (PB + 1) LR (fun _ => 0) (fun _ => 0) 0) := by
        have hb : Same O u2 wr := ⟨hbe.out.size, fun c hc => hbe.out.block c (by have := (HC.out.2 c hc).2; omega)⟩
        refine ⟨O, _, ClS.start, 0, 0, fun _ _ => 0, HOp.out.keep HC.out.1 hb, Nat.le_refl _, by rw [HN.out.1, HN.out.2]; exact HOR.out, fun c hc => ?_, fun c hc => (HC.out.2 c hc).1, fun k _ => ⟨rfl, fun x hx => absurd hx (Nat.not_lt_zero _)⟩, fun k j => OrdK.start _ (Nat.le_refl _)⟩
        have := (HC.out.2 c hc).2
        exact ⟨by omega, by omega, fun j hj => by have := hG.out.rl j (by rw [HN.out.2] at hj; exact hj); omega⟩
      have HLRb : Hid (∀ j, j < nl → u1.heap.size ≤ LR j) := fun j hj => by have := (hG.out.rl j hj).1; have := HP1.out; omega
      have HBw : Hid (Below u1.heap.size u1 wr) := HBu.out.trans ⟨hbe.out.os, hbe.out.tape, hbe.out.output, hbe.out.size, fun c hc => hbe.out.block c (by have := HBu.out.size; omega)⟩
      clear hG hbe HOR
      rename World => wq
      go_wp2_with fail
      clear q0 q7 s3 hll HC
      go_loopw [11] (fun t wr => ∃ (i : Nat) (pu : Nat → Nat), i ≤ n ∧ t = .int .i64 i ∧ Hid (OrdSt Clu wr u1.heap.size C p (begFa p fa) PB (PB + 1) LR pu pu (2 * i)) ∧ Hid (∀ k, pu k ≤ i) ∧ Hid (Below u1.heap.size u1 wr)) (fun t _ => n - (intOf t).toNat)
      case atStart => exact ⟨0, fun _ => 0, Nat.zero_le _, rfl, HSt, fun _ => Nat.le_refl _, HBw⟩
      case round =>
        clear HSt HBw
        obtain ⟨i, pu, hi2, rfl, hSt, hpu, hbe⟩ := hrel
        by_cases hlt : i < n
        · have kk2 : (i : Int) < (n : Int) := by omega
          obtain ⟨rb, roff, rfl, hrb, hrc⟩ := HR1.out (by omega)
          obtain ⟨⟨c0, c1, c2, c3, c4⟩, hIn⟩ := hrc i hlt
          replace c0 := (hbe.out.cell (p := ⟨rb, roff + i * 5, none⟩) hrb).trans c0
          replace c1 := (hbe.out.cell (p := ⟨rb, roff + i * 5 + 1, none⟩) hrb).trans c1
          replace c2 := (hbe.out.cell (p := ⟨rb, roff + i * 5 + 2, none⟩) hrb).trans c2
          replace c3 := (hbe.out.cell (p := ⟨rb, roff + i * 5 + 3, none⟩) hrb).trans c3
          replace c4 := (hbe.out.cell (p := ⟨rb, roff + i * 5 + 4, none⟩) hrb).trans c4
          have hrw : rb < wr.heap.size := Nat.lt_of_lt_of_le hrb hbe.out.size
          have HI2 : Hid ((R i).In (A i) u1) := hIn
          have q0 := (hbe.out.cell (p := ⟨w.heap.size, 0, none⟩) hu1).trans x0
          have q7 := (hbe.out.cell (p := ⟨w.heap.size, 7, none⟩) hu1).trans x7
          have s3 : w.heap.size < wr.heap.size := Nat.lt_of_lt_of_le hu1 hbe.out.size
          clear hrc hIn
          have l0 := HI2.out.lL
          have l1 := HI2.out.lR
          have l2 := HI2.out.lD
          have l3 := HI2.out.lM
          obtain ⟨RB, hRB⟩ : ∃ RB, wr.heap.size = RB := ⟨_, rfl⟩
          generalize hRi : R i = r at *
          generalize hAi : A i = ra' at *
          obtain ⟨W, hW⟩ : ∃ W, wr.alloc (.cells #[.slice ra'.la r.nL ra'.lc, .slice ra'.ra r.nR ra'.rc, .slice ra'.da r.drifts.length ra'.dc, .slice ra'.ma r.modes.length ra'.mc] 35) = W := ⟨_, rfl⟩
          have hWB : Below wr.heap.size wr W := by rw [← hW]; exact (Below.refl _ _).alloc (Nat.le_refl _) _
          have hWs : W.heap.size = RB + 1 := by rw [← hW, ← hRB]; simp
          have v0 : W.cell? ⟨RB, 0, none⟩ = some (.slice ra'.la r.nL ra'.lc) := by rw [← hW, ← hRB]; simp
          have v1 : W.cell? ⟨RB, 1, none⟩ = some (.slice ra'.ra r.nR ra'.rc) := by rw [← hW, ← hRB]; simp
          have v2 : W.cell? ⟨RB, 2, none⟩ = some (.slice ra'.da r.drifts.length ra'.dc) := by rw [← hW, ← hRB]; simp
          have v3 : W.cell? ⟨RB, 3, none⟩ = some (.slice ra'.ma r.modes.length ra'.mc) := by rw [← hW, ← hRB]; simp
          have d0 := keep_cell c0 hWB
          have e0 := keep_cell q0 hWB
          have e7 := keep_cell q7 hWB
          have sW : w.heap.size < W.heap.size := by omega
          have rW : rb < W.heap.size := by omega
          have HWB : Hid (Below wr.heap.size wr W) := hWB
          have HBW : Hid (Below u1.heap.size u1 W) := hbe.out.trans (hWB.mono hbe.out.size)
          have hbs : u1.heap.size ≤ RB := by rw [← hRB]; exact hbe.out.size
          have hWr : wr.heap.size = RB := hRB
          have HWr : Hid (wr.heap.size = RB) := hRB
          generalize hnL : r.nL = nL at *
          generalize hnR : r.nR = nR at *
          generalize hnD : r.drifts.length = nD at *
          generalize hnM : r.modes.length = nM at *
          generalize hla : ra'.la = rla at *
          generalize hlc : ra'.lc = rlc at *
          generalize hra : ra'.ra = rra at *
          generalize hrc : ra'.rc = rrc at *
          generalize hda : ra'.da = rda at *
          generalize hdc : ra'.dc = rdc at *
          generalize hma : ra'.ma = rma at *
          generalize hmc : ra'.mc = rmc at *
          have HVal : Hid (r.val ra' = .agg #[.slice rla nL rlc, .slice rra nR rrc, .slice rda nD rdc, .slice rma nM rmc]) := by
            show _ = _
            unfold RoundN.val
            rw [hnL, hnR, hnD, hnM, hla, hlc, hra, hrc, hda, hdc, hma, hmc]
          clear hWB hRi hAi hnL hnR hnD hnM hla hlc hra hrc hda hdc hma hmc
          generalize K i = Ki at *
          obtain ⟨X, hX⟩ : ∃ X, wrap64 (wrap64 (wrap64 ((nL : Int) + (nR : Int)) + (nD : Int)) + (nM : Int)) = X := ⟨_, rfl⟩
          by_cases k2 : 150 < X
          · go_wp2_with fail
            go_ret
            exact ⟨rfl, HB1.out.trans (HBW.out.mono HL1.out)⟩
          have k2' : decide (150 < X) = false := decide_eq_false k2
          clear k2
          go_upto_region 21 with fail
          clear hX hW hRB hWr c0 c1 c2 c3 c4 q0 q7 s3 hrw
          go_cut [91] (fun tv wx => tv = .bool (decide (0 ≤ Ki ∧ Ki < nl)) ∧ wx = W)
          case first =>
            by_cases h0 : 0 ≤ Ki
            · by_cases h1 : Ki < nl
              · have HD : Hid (decide (0 ≤ Ki ∧ Ki < (nl : Int)) = true) := decide_eq_true ⟨h0, h1⟩
                go_wp2_with fail
                go_meet
                exact ⟨by rw [HD.out], rfl⟩
              · have HD : Hid (decide (0 ≤ Ki ∧ Ki < (nl : Int)) = false) := decide_eq_false (fun q => h1 q.2)
                have h1' : decide (Ki < (nl : Int)) = false := decide_eq_false h1
                clear h1
                go_wp2_with fail
                go_meet
                exact ⟨by rw [HD.out], rfl⟩
            · have HD : Hid (decide (0 ≤ Ki ∧ Ki < (nl : Int)) = false) := decide_eq_false (fun q => h0 q.1)
              have h0' : decide (0 ≤ Ki) = false := decide_eq_false h0
              clear h0
              go_wp2_with fail
              go_meet
              exact ⟨by rw [HD.out], rfl⟩
          case rest =>
            obtain ⟨rfl, hwx⟩ := hcut
            replace hwx := hwx.symm
            subst hwx
            go_upto_if 91 with fail
            go_cut [] (fun wx => ∃ pu' : Nat → Nat, Hid (OrdSt Clu wx u1.heap.size C p (begFa p fa) PB (PB + 1) LR pu' pu' (2 * i + 1)) ∧ Hid (∀ k, pu' k ≤ i + 1) ∧ Hid (Below u1.heap.size u1 wx) ∧ Hid (wx.heap[RB]? = W.heap[RB]? ∧ RB < wx.heap.size))
            case first =>
              by_cases hin : 0 ≤ Ki ∧ Ki < nl
              · rw [decide_eq_true hin]
                obtain ⟨k, rfl⟩ : ∃ k : Nat, Ki = k := ⟨Ki.toNat, by omega⟩
                have hkl : k < nl := by omega
                have hpk := hpu.out k
                obtain ⟨O9, cs9, st9, rd9, T9, lo9, _, _, hrow, _⟩ := hSt.out.ex
                rw [HN.out.1, HN.out.2] at hrow
                have f0 := (HWB.out.cell (p := ⟨PB, k, none⟩) hrow.pl).trans (hrow.p k hkl)
                have fz := (HWB.out.frozen (p := ⟨PB, k, none⟩) hrow.pl).trans (hrow.pz k)
                have fl : PB < W.heap.size := Nat.lt_of_lt_of_le hrow.pl HWB.out.size
                have flb : PB < wr.heap.size := hrow.pl
                clear hrow
                generalize hPk : pu k = PK at *
                obtain ⟨wA, hwA⟩ : ∃ v, W.alloc (.cells #[.int .u8 ((PK : Int) + 1), .int .u8 (k : Int)] 5) = v := ⟨_, rfl⟩
                have hWs1 : W.heap.size = RB + 1 := hWs
                have hcv := run_convert_bytes_arg (P := Tryz.prog) wA 48 5 Tryz.underlying48 Tryz.underlying5 (RB + 1) 0 2 2 [(PK : Int) + 1, (k : Int)] rfl (fun i hi => by
                  rw [← hwA, ← hWs1]
                  match i, hi with
                  | 0, _ => simp
                  | 1, _ => simp) 9 Tryz.underlying9
                have hmsg : strOfNums [(PK : Int) + 1, (k : Int)] = msgT PK k := rfl
                rw [hmsg] at hcv
                have hAB : Below W.heap.size W wA := by rw [← hwA]; exact (Below.refl _ _).alloc (Nat.le_refl _) _
                have hput := hSt.out.put HOp.out (V := wA) (HWB.out.trans (hAB.mono HWB.out.size)) (by omega) (by rw [HWr.out]; exact hbs) k (by rw [HN.out.2]; exact hkl)
                rw [hPk] at hput
                have HAu : Hid (Below u1.heap.size u1 wA) := HBW.out.trans (hAB.mono HBW.out.size)
                have HRA : Hid (wA.heap[RB]? = W.heap[RB]? ∧ RB < wA.heap.size) := ⟨hAB.block RB (by omega), by have := hAB.size; omega⟩
                have hwA0 : wr.heap.size ≤ RB := Nat.le_of_eq HWr.out
                clear hmsg hAB
                go_wp2_with fail
                refine hput.mono ?_
                rintro ev w5 ⟨⟨hb5, hk5⟩, hr5⟩
                have HB5 : Hid (Below u1.heap.size u1 w5) := HAu.out.trans (hb5.mono (Nat.le_refl _))
                have HR5 : Hid (w5.heap[RB]? = W.heap[RB]? ∧ RB < w5.heap.size) := ⟨(hk5 RB hwA0 HRA.out.2).trans HRA.out.1, Nat.lt_of_lt_of_le HRA.out.2 hb5.size⟩
                clear hput hcv hwA
                rcases hr5 with ⟨rfl, hS5⟩ | ⟨KK, hKK, rfl, hS5⟩
                · obtain ⟨g0, gz, gl⟩ := hS5.cellP (k := k) (by rw [HN.out.2]; exact hkl)
                  rw [hPk] at g0
                  have HS6 : Hid (OrdSt Clu (w5.setCell ⟨PB, k, none⟩ (.int .i64 ((PK : Int) + 1))) u1.heap.size C p (begFa p fa) PB (PB + 1) LR (fun k' => if k' = k then PK + 1 else pu k') (fun k' => if k' = k then PK + 1 else pu k') (2 * i + 1)) := hS5.setP HOp.out k (PK + 1)
                  have hp1 : u1.heap.size ≤ PB := HP1.out
                  have hp2 : PB < RB := by have := HWr.out; omega
                  have ht := (Turns.refl PB PB w5).set (p := ⟨PB, k, none⟩) (.inl rfl) (.int .i64 ((PK : Int) + 1))
                  have HB6 : Hid (Below u1.heap.size u1 (w5.setCell ⟨PB, k, none⟩ (.int .i64 ((PK : Int) + 1)))) := ⟨ht.os.trans HB5.out.os, ht.tape.trans HB5.out.tape, ht.output.trans HB5.out.output, Nat.le_trans HB5.out.size ht.size, fun c hc => (ht.block c (Nat.lt_of_lt_of_le hc HB5.out.size) (by omega) (by omega)).trans (HB5.out.block c hc)⟩
                  have HR6 : Hid ((w5.setCell ⟨PB, k, none⟩ (.int .i64 ((PK : Int) + 1))).heap[RB]? = W.heap[RB]? ∧ RB < (w5.setCell ⟨PB, k, none⟩ (.int .i64 ((PK : Int) + 1))).heap.size) := ⟨(ht.block RB HR5.out.2 (by omega) (by omega)).trans HR5.out.1, Nat.lt_of_lt_of_le HR5.out.2 ht.size⟩
                  have HPu : Hid (∀ k', (if k' = k then PK + 1 else pu k') ≤ i + 1) := fun k' => by
                    by_cases e : k' = k
                    · rw [if_pos e]; omega
                    · rw [if_neg e]; have := hpu.out k'; omega
                  clear hS5 ht
                  go_wp2_with fail
                  go_meet
                  exact ⟨_, HS6, HPu, HB6, HR6⟩
                · have HS5 : Hid (OrdSt Clu w5 u1.heap.size C p (begFa p fa) PB (PB + 1) LR pu pu (2 * i + 1)) := hS5
                  clear hS5 hKK
                  go_wp2_with fail
                  go_meet
                  exact ⟨pu, HS5, fun k => Nat.le_succ_of_le (hpu.out k), HB5, HR5⟩
              · rw [decide_eq_false hin]
                go_wp2_with fail
                go_meet
                exact ⟨pu, ⟨(hSt.out.below HOp.out HWB.out).ex.imp fun _ h => h.imp fun _ h => h.imp fun _ h => h.imp fun _ h => h.imp fun _ h => h.imp fun _ h => ⟨h.1, by omega, h.2.2⟩⟩, fun k => Nat.le_succ_of_le (hpu.out k), HBW, ⟨rfl, by omega⟩⟩
            case rest =>
              clear hSt hpu hbe HBW HWB d0 e0 e7 sW rW
              obtain ⟨pu', hS, hpu, hbe, hRB2⟩ := hcut
              rename World => wx
              have c0 := (World.cell?_of_block (a := ⟨RB, 0, none⟩) (w := W) hRB2.out.1).trans v0
              have c1 := (World.cell?_of_block (a := ⟨RB, 1, none⟩) (w := W) hRB2.out.1).trans v1
              have c2 := (World.cell?_of_block (a := ⟨RB, 2, none⟩) (w := W) hRB2.out.1).trans v2
              have c3 := (World.cell?_of_block (a := ⟨RB, 3, none⟩) (w := W) hRB2.out.1).trans v3
              have hRl : RB < wx.heap.size := hRB2.out.2
              have hPy := hS.out.play HOp.out (by omega) hbe.out.size r ra' (HI2.out.below hbe.out) HI2.out.low
              rw [HVal.out] at hPy
              clear v0 v1 v2 v3 hRB2
              go_wp2_with fail
              refine hPy.mono ?_
              rintro ev wy ⟨KP, rfl, hSy, hby⟩
              have HSy : Hid (OrdSt Clu wy u1.heap.size C p (begFa p fa) PB (PB + 1) LR pu' pu' (2 * i + 2)) := hSy
              have HBy : Hid (Below u1.heap.size u1 wy) := hbe.out.trans (hby.mono (Nat.le_refl _))
              clear hPy hSy hby hS hbe c0 c1 c2 c3 hRl
              go_wp2_with fail
              go_loopw [15] (fun t wr => ∃ k : Nat, k ≤ nl ∧ t = .int .i64 k ∧ Hid (OrdSt Clu wr u1.heap.size C p (begFa p fa) PB (PB + 1) LR pu' pu' (2 * i + 2)) ∧ Hid (Below u1.heap.size u1 wr)) (fun t _ => nl - (intOf t).toNat)
              case atStart => exact ⟨0, Nat.zero_le _, rfl, HSy, HBy⟩
              case round =>
                clear HSy HBy
                obtain ⟨k, hk, rfl, hSk, hbk⟩ := hrel
                have q7 := (hbk.out.cell (p := ⟨w.heap.size, 7, none⟩) hu1).trans x7
                have s3 : w.heap.size < wr.heap.size := Nat.lt_of_lt_of_le hu1 hbk.out.size
                by_cases hlk : k < nl
                · have kk3 : (k : Int) < (nl : Int) := by omega
                  rename World => wz
                  go_wp2_with fail
                  clear q7 s3
                  go_loopw [16] (fun t wr => ∃ j : Nat, j ≤ nn ∧ t = .int .i64 j ∧ Hid (OrdSt Clu wr u1.heap.size C p (begFa p fa) PB (PB + 1) LR pu' pu' (2 * i + 2)) ∧ Hid (Below u1.heap.size u1 wr)) (fun t _ => nn - (intOf t).toNat)
                  case atStart => exact ⟨0, Nat.zero_le _, rfl, hSk, hbk⟩
                  case round =>
                    clear hSk hbk
                    obtain ⟨j, hj, rfl, hSj, hbj⟩ := hrel
                    have q0 := (hbj.out.cell (p := ⟨w.heap.size, 0, none⟩) hu1).trans x0
                    have s3 : w.heap.size < wr.heap.size := Nat.lt_of_lt_of_le hu1 hbj.out.size
                    by_cases hlj : j < nn
                    · have kk4 : (j : Int) < (nn : Int) := by omega
                      rename World => wz2
                      go_wp2_with fail
                      clear q0 s3
                      go_loopw [17] (fun t wr => ∃ m : Nat, m ≤ 20 ∧ t = .int .i64 m ∧ Hid (OrdSt Clu wr u1.heap.size C p (begFa p fa) PB (PB + 1) LR pu' pu' (2 * i + 2)) ∧ Hid (Below u1.heap.size u1 wr)) (fun t _ => 20 - (intOf t).toNat)
                      case atStart => exact ⟨0, Nat.zero_le _, rfl, hSj, hbj⟩
                      case round =>
                        clear hSj hbj
                        obtain ⟨m, hm, rfl, hSm, hbm⟩ := hrel
                        by_cases hlm : m < 20
                        · have kk5 : (m : Int) < 20 := by omega
                          have hrv := hSm.out.recv HOp.out hbm.out.size k j (by rw [HN.out.2]; exact hlk) (by rw [HN.out.1]; exact hlj)
                          rw [HN.out.1] at hrv
                          go_wp2_with fail
                          refine hrv.mono ?_
                          rintro ev wv ⟨hbv, hrr⟩
                          have HBv : Hid (Below u1.heap.size u1 wv) := hbm.out.trans (hbv.mono (Nat.le_refl _))
                          clear hrv hSm hbm hbv
                          rcases hrr with ⟨KE, rfl, hSv⟩ | ⟨x, lo, rfl, hxQ, hlo, b1, b2, b3, b4, b5, b6, b7, hSv⟩
                          · have HSv : Hid _ := hSv
                            clear hSv
                            go_wp2_with fail
                            exact ⟨⟨j + 1, by omega, by go_num, HSv, HBv⟩, by simp [intOf]; omega⟩
                          · have HSv : Hid (OrdSt Clu (wv.setCell ⟨LR k, j, none⟩ (.int .i64 ((x : Int) + 1))) u1.heap.size C p (begFa p fa) PB (PB + 1) LR pu' pu' (2 * i + 2)) := hSv
                            have hpk := hpu.out k
                            have hDs : (msgT x k).size = 2 := rfl
                            have hi0 := fun w => (msgT_at (x := x) (k := k) (by omega) (by omega) w).1
                            have hi1 := fun w => (msgT_at (x := x) (k := k) (by omega) (by omega) w).2
                            have hne : ((2 : Int) != 2) = false := rfl
                            have hnk : ((k : Int) != (k : Int)) = false := by simp
                            have hlo1 : decide ((x : Int) + 1 ≤ (lo : Int)) = false := decide_eq_false (by omega)
                            have hhi1 : decide (((pu' k : Nat) : Int) < (x : Int) + 1) = false := decide_eq_false (by omega)
                            have hLR : u1.heap.size ≤ LR k := HLRb.out k hlk
                            have ht := (Turns.refl (LR k) (LR k) wv).set (p := ⟨LR k, j, none⟩) (.inl rfl) (.int .i64 ((x : Int) + 1))
                            have HBw2 : Hid (Below u1.heap.size u1 (wv.setCell ⟨LR k, j, none⟩ (.int .i64 ((x : Int) + 1)))) := ⟨ht.os.trans HBv.out.os, ht.tape.trans HBv.out.tape, ht.output.trans HBv.out.output, Nat.le_trans HBv.out.size ht.size, fun c hc => (ht.block c (Nat.lt_of_lt_of_le hc HBv.out.size) (by omega) (by omega)).trans (HBv.out.block c hc)⟩
                            have HSq : Hid (∀ q : Nat, OrdSt Clu ((wv.drewN q).setCell ⟨LR k, j, none⟩ (.int .i64 ((x : Int) + 1))) u1.heap.size C p (begFa p fa) PB (PB + 1) LR pu' pu' (2 * i + 2) ∧ Below u1.heap.size u1 ((wv.drewN q).setCell ⟨LR k, j, none⟩ (.int .i64 ((x : Int) + 1)))) := fun q => ⟨HSv.out.below HOp.out ⟨rfl, rfl, rfl, Nat.le_refl _, fun _ _ => rfl⟩, ⟨HBw2.out.os, HBw2.out.tape, HBw2.out.output, HBw2.out.size, HBw2.out.block⟩⟩
                            generalize msgT x k = D at *
                            generalize pu' k = PK at *
                            generalize LR k = LK at *
                            clear hSv ht
                            go_wp2_with fail
                            go_quiet (fail)
                            go_wp2_with fail
                            go_region
                            go_wp2_with fail
                            exact ⟨⟨m + 1, by omega, by go_num, (HSq.out (nq + 1)).1, (HSq.out (nq + 1)).2⟩, by simp [intOf]; omega⟩
                        · have kk5 : decide ((m : Int) < 20) = false := decide_eq_false (by omega)
                          clear hlm
                          go_wp2_with fail
                          exact ⟨⟨j + 1, by omega, by go_num, hSm, hbm⟩, by simp [intOf]; omega⟩
                    · have kk4 : decide (j < nn) = false := decide_eq_false hlj
                      clear hlj
                      go_wp2_with fail
                      exact ⟨⟨k + 1, by omega, by go_num, hSj, hbj⟩, by simp [intOf]; omega⟩
                · have kk3 : decide (k < nl) = false := decide_eq_false hlk
                  clear hlk
                  go_wp2_with fail
                  exact ⟨⟨i + 1, pu', by omega, by go_num, hSk, hpu, hbk⟩, by simp [intOf]; omega⟩
        · have kk2 : decide (i < n) = false := decide_eq_false hlt
          clear hlt
          go_wp2
          go_ret
          exact ⟨rfl, HB1.out.trans (hbe.out.mono HL1.out)⟩
end Go.Proofs.YtdmokcnoljlogaaGreatDoor
