/- ClusterApart, walked over the contracts of a cluster: ANOTHER ONE'S DOES NOT MATTER (ahead of stage 9). -/
import Derived.Test.YtdmokcnoljlogaaGreatDoorBegun
import Derived.Test.YtdmokcnoljlogaaGreatDoorPlayed
import Derived.Test.YtdmokcnoljlogaaGreatDoorAptSt
import Derived.Test.YtdmokcnoljlogaaGreatDoorWordsF
import Derived.Laws.BytesArg
import Derived.Deep.DeepCutAuto
namespace Go.Proofs.YtdmokcnoljlogaaGreatDoor
open Go.RowKit

theorem tell_any (K : Int) (w : World) (hg : Told w) : Calls Tryz.prog 9 #[errV K] w fun e w' => e = .returned (.int .i64 K) ∧ Below w.heap.size w w' := by
  by_cases h : K = 0
  · subst h
    exact tell_nil w
  · rw [show errV K = .iface 39 (.int .i64 K) from if_neg h]
    exact tell_e K w hg

set_option maxRecDepth 100000 in
set_option maxHeartbeats 8000000 in
theorem apart_any {Clu : World → List Nat → Nat → PlanN → Int → List Int → ClS → Int → Nat → Prop} (ops : CluOps Clu) (p : PlanN) (a : PlanAt) (fa : Int) (ra : Option Addr) (n rcap : Nat) (K : Nat → Int) (R : Nat → RoundN) (A : Nat → RoundAt) (oa : Option Addr) (ocap : Nat) (ot : List Int) (node : Int) (w : World) (hT : Told w) (hp : p.In a w) (hr : SaysIn w ra n K R A) (hn : n ≤ 9223372036854775807) (ho : IntRow w oa ot) (hol : ot.length ≤ 9223372036854775807) :
    Calls Tryz.prog 5 #[p.val a, .int .i64 fa, .slice ra n rcap, .slice oa ot.length ocap, .int .i64 node] w fun e w' => e = .returned (.bool true) ∧ Below w.heap.size w w' := by
  obtain ⟨V, hV⟩ : ∃ V, w.alloc (.cells #[.int .i64 p.nodes, .int .i64 p.faulty, .int .i64 p.skew, .int .i64 p.jitter, .int .i64 p.drift, .int .i64 p.round, .slice a.sa p.ns a.sc, .slice a.la p.nl a.lc, .int .i64 p.frame, .slice a.wa p.nw a.wc] 26) = V := ⟨_, rfl⟩
  obtain ⟨⟨x0, x1, x2, x3, x4, x5, x6, x7, x8, x9⟩, hB, hVs⟩ := plan_box p a w V _ hV
  have hPl := played_any ops V
  have hBg := fun (u : World) (hu : Below V.heap.size V u) => begun_any ops p a fa none 0 [] u ((hp.below hB).below hu) (fun h => absurd h (Nat.lt_irrefl _)) (by decide)
  have hBg2 := fun (u : World) (hu : Below V.heap.size V u) (ca : Option Addr) (hc : IntRow u ca [1, 2, 0, 5, 3]) => begun_any ops p a fa ca 5 [1, 2, 0, 5, 3] u ((hp.below hB).below hu) hc (by decide)
  have HR : Hid (SaysIn V ra n K R A) := hr.below hB
  have HOt : Hid (IntRow V oa ot) := ho.below hB
  have HLk : Hid (Rows4 V a.la p.nl p.lf p.lt p.lb p.lq) := (hp.below hB).links
  have HT : Hid (Told V) := hT.below hB
  have HB : Hid (Below w.heap.size w V) := hB
  have HOp : Hid (CluOps Clu) := ops
  have hV0 : w.heap.size < V.heap.size := by omega
  have HP0 : Hid (p.In a V) := hp.below hB
  clear hp hB ops hr ho hT
  by_cases k1 : 40 < n
  · have k1' : (40 : Int) < (n : Int) := by omega
    unfold PlanN.val
    clear hPl hBg hBg2
    go_enter Tryz.func5, Tryz.ntmps5
    go_wp2
    go_ret
    exact ⟨rfl, HB.out⟩
  have k1' : decide ((40 : Int) < (n : Int)) = false := decide_eq_false (by omega)
  have HVal : Hid (p.val a = .agg #[.int .i64 p.nodes, .int .i64 p.faulty, .int .i64 p.skew, .int .i64 p.jitter, .int .i64 p.drift, .int .i64 p.round, .slice a.sa p.ns a.sc, .slice a.la p.nl a.lc, .int .i64 p.frame, .slice a.wa p.nw a.wc]) := rfl
  rw [HVal.out] at hBg hBg2 ⊢
  have HOl : Hid (ot.length ≤ 9223372036854775807) := hol
  generalize hol2 : ot.length = ol at *
  have HOl2 : Hid (ot.length = ol) := hol2
  clear hol2
  generalize p.skew = skew at *
  generalize hnodes : p.nodes = nodes at *
  generalize p.faulty = faulty at *
  generalize p.ns = ns at *
  generalize hnl : p.nl = nl at *
  generalize p.nw = nw at *
  generalize p.jitter = jitter at *
  generalize p.drift = drift at *
  generalize p.round = round at *
  generalize p.frame = frame at *
  generalize a.sa = sa at *
  generalize a.sc = sc at *
  generalize a.la = la at *
  generalize a.lc = lc at *
  generalize a.wa = wa at *
  generalize a.wc = wc at *
  have HNo : Hid (p.nodes = nodes ∧ p.nl = nl) := ⟨hnodes, hnl⟩
  clear hnodes hnl HVal
  go_enter Tryz.func5, Tryz.ntmps5
  go_wp2_with fail
  refine hPl.mono ?_
  rintro e u1 ⟨rfl, hb1⟩
  have hBg1 := hBg u1 hb1
  have HB1 : Hid (Below w.heap.size w u1) := HB.out.trans (hb1.mono HB.out.size)
  replace x0 := keep_cell x0 hb1
  replace x1 := keep_cell x1 hb1
  replace x2 := keep_cell x2 hb1
  replace x3 := keep_cell x3 hb1
  replace x4 := keep_cell x4 hb1
  replace x5 := keep_cell x5 hb1
  replace x6 := keep_cell x6 hb1
  replace x7 := keep_cell x7 hb1
  replace x8 := keep_cell x8 hb1
  replace x9 := keep_cell x9 hb1
  have HR1 : Hid (SaysIn u1 ra n K R A) := HR.out.below hb1
  have HOt1 : Hid (IntRow u1 oa ot) := HOt.out.below hb1
  have HLk1 : Hid (Rows4 u1 la nl p.lf p.lt p.lb p.lq) := HLk.out.below hb1
  have HT1 : Hid (Told u1) := HT.out.below hb1
  have HI1 : Hid (p.In a u1) := HP0.out.below hb1
  have hB01 := hb1
  have hu1 : w.heap.size < u1.heap.size := Nat.lt_of_lt_of_le hV0 hb1.size
  obtain ⟨L, hL⟩ : ∃ L : Obj, Obj.cells #[.int .i64 1, .int .i64 2, .int .i64 0, .int .i64 5, .int .i64 3] 3 = L := ⟨_, rfl⟩
  have hLc : ∀ v : World, IntRow (v.alloc L) (some ⟨v.heap.size, 0, none⟩) [1, 2, 0, 5, 3] := fun v _ => ⟨v.heap.size, 0, rfl, by simp, fun j hj => by
    rw [← hL]
    have : j = 0 ∨ j = 1 ∨ j = 2 ∨ j = 3 ∨ j = 4 := by have : j < 5 := hj; omega
    rcases this with rfl | rfl | rfl | rfl | rfl <;> simp⟩
  have hlen5 : ([1, 2, 0, 5, 3] : List Int).length = 5 := rfl
  rw [hlen5] at hBg2
  have hA := fun (v : World) (hv : Below u1.heap.size u1 v) => (hBg v (hB01.trans (hv.mono hB01.size))).mono (R' := fun e w' => ∃ X : Option Addr, e = .returned (.pointer X) ∧ Below v.heap.size v w' ∧ (X = none ∨ ∃ O C cs, X = some ⟨C, 0, none⟩ ∧ Clu w' O C p (begFa p fa) cs ClS.start 0 0 ∧ ∀ c, c ∈ O → v.heap.size ≤ c)) (by
    rintro e w' ⟨hb, rfl | ⟨O, C, rfl, h1, h2⟩⟩
    · exact ⟨none, rfl, hb, .inl rfl⟩
    · exact ⟨_, rfl, hb, .inr ⟨O, C, _, rfl, h1, h2⟩⟩)
  have hBb := fun (v : World) (hv : Below u1.heap.size u1 v) (ca : Option Addr) (hc : IntRow v ca [1, 2, 0, 5, 3]) => (hBg2 v (hB01.trans (hv.mono hB01.size)) ca hc).mono (R' := fun e w' => ∃ X : Option Addr, e = .returned (.pointer X) ∧ Below v.heap.size v w' ∧ (X = none ∨ ∃ O C cs, X = some ⟨C, 0, none⟩ ∧ Clu w' O C p (begFa p fa) cs ClS.start 0 0 ∧ ∀ c, c ∈ O → v.heap.size ≤ c)) (by
    rintro e w' ⟨hb, rfl | ⟨O, C, rfl, h1, h2⟩⟩
    · exact ⟨none, rfl, hb, .inl rfl⟩
    · exact ⟨_, rfl, hb, .inr ⟨O, C, _, rfl, h1, h2⟩⟩)
  have hD1 : ∀ q, Below u1.heap.size u1 (u1.drewN q) := fun q => ⟨rfl, rfl, rfl, Nat.le_refl _, fun _ _ => rfl⟩
  have hD2 : ∀ q, Below u1.heap.size u1 ((u1.drewN q).alloc L) := fun q => (hD1 q).alloc (Nat.le_refl _) L
  have HLc : Hid (∀ v : World, IntRow (v.alloc L) (some ⟨v.heap.size, 0, none⟩) [1, 2, 0, 5, 3]) := hLc
  clear hPl HB HR hb1 hV hVs hV0 HOt HT hBg hBg2 hLc hlen5 HLk
  go_upto_region 5 with fail
  go_cut [11, 12] (fun av bv wx => Hid (Below u1.heap.size u1 wx) ∧ (av = .pointer none ∨ (∃ Ca, av = .pointer (some ⟨Ca, 0, none⟩) ∧ bv = .pointer none) ∨ ∃ Ca Cb, av = .pointer (some ⟨Ca, 0, none⟩) ∧ bv = .pointer (some ⟨Cb, 0, none⟩) ∧ Hid (AptSt Clu wx u1.heap.size Ca Cb p (begFa p fa) 0 (fun _ x y => x = ClS.start ∧ y = ClS.start) (fun _ => False) 0)))
  case first =>
    go_region_held3 (fun v => (v.cell? ⟨w.heap.size, 0, none⟩ = some (.int .i64 nodes) ∧ v.cell? ⟨w.heap.size, 1, none⟩ = some (.int .i64 faulty) ∧ v.cell? ⟨w.heap.size, 2, none⟩ = some (.int .i64 skew) ∧ v.cell? ⟨w.heap.size, 3, none⟩ = some (.int .i64 jitter) ∧ v.cell? ⟨w.heap.size, 4, none⟩ = some (.int .i64 drift)) ∧ v.cell? ⟨w.heap.size, 5, none⟩ = some (.int .i64 round) ∧ v.cell? ⟨w.heap.size, 6, none⟩ = some (.slice sa ns sc) ∧ v.cell? ⟨w.heap.size, 7, none⟩ = some (.slice la nl lc) ∧ v.cell? ⟨w.heap.size, 8, none⟩ = some (.int .i64 frame) ∧ v.cell? ⟨w.heap.size, 9, none⟩ = some (.slice wa nw wc)) (go_keep) (first
      | (go_at_call 7; have hh := HIL.out; refine (hBb _ HV1.out _ hh).mono ?_; rintro ev v2 ⟨X2, rfl, hb2, hr2⟩; have HV2 : Hid (Below u1.heap.size u1 v2 ∧ Below v1.heap.size v1 v2) := ⟨HV1.out.trans (hb2.mono HV1.out.size), hb2⟩; have HX2 : Hid (X2 = none ∨ ∃ O C cs, X2 = some ⟨C, 0, none⟩ ∧ Clu v2 O C p (begFa p fa) cs ClS.start 0 0 ∧ ∀ c, c ∈ O → v1.heap.size ≤ c) := hr2; clear hb2 hr2 hh; have t0 := keep_cell x0 HV2.out.1; have t1 := keep_cell x1 HV2.out.1; have t2 := keep_cell x2 HV2.out.1; have t3 := keep_cell x3 HV2.out.1; have t4 := keep_cell x4 HV2.out.1; have t5 := keep_cell x5 HV2.out.1; have t6 := keep_cell x6 HV2.out.1; have t7 := keep_cell x7 HV2.out.1; have t8 := keep_cell x8 HV2.out.1; have t9 := keep_cell x9 HV2.out.1; have hv2l : w.heap.size < v2.heap.size := Nat.lt_of_lt_of_le hu1 HV2.out.1.size)
      | (go_at_call 7; have hh := HV1.out; refine (hBb _ (hh.alloc hh.size L) _ (HLc.out _)).mono ?_; rintro ev v2 ⟨X2, rfl, hb2, hr2⟩; have HV2 : Hid (Below u1.heap.size u1 v2 ∧ Below v1.heap.size v1 v2) := ⟨(HV1.out.alloc HV1.out.size L).trans (hb2.mono (by have := HV1.out.size; simp; omega)), ((Below.refl v1.heap.size v1).alloc (Nat.le_refl _) L).trans (hb2.mono (by simp))⟩; have HX2 : Hid (X2 = none ∨ ∃ O C cs, X2 = some ⟨C, 0, none⟩ ∧ Clu v2 O C p (begFa p fa) cs ClS.start 0 0 ∧ ∀ c, c ∈ O → v1.heap.size ≤ c) := hr2.imp id (fun ⟨O, C, cs, e1, e2, e3⟩ => ⟨O, C, cs, e1, e2, fun c hc => Nat.le_trans (by simp) (e3 c hc)⟩); clear hb2 hr2 hh; have t0 := keep_cell x0 HV2.out.1; have t1 := keep_cell x1 HV2.out.1; have t2 := keep_cell x2 HV2.out.1; have t3 := keep_cell x3 HV2.out.1; have t4 := keep_cell x4 HV2.out.1; have t5 := keep_cell x5 HV2.out.1; have t6 := keep_cell x6 HV2.out.1; have t7 := keep_cell x7 HV2.out.1; have t8 := keep_cell x8 HV2.out.1; have t9 := keep_cell x9 HV2.out.1; have hv2l : w.heap.size < v2.heap.size := Nat.lt_of_lt_of_le hu1 HV2.out.1.size)
      | (go_at_call 7; refine (hA _ (hD1 _)).mono ?_; rintro ev v1 ⟨X1, rfl, hb1, hr1⟩; have HV1 : Hid (Below u1.heap.size u1 v1) := (hD1 _).trans hb1; have HX1 : Hid (X1 = none ∨ ∃ O C cs, X1 = some ⟨C, 0, none⟩ ∧ Clu v1 O C p (begFa p fa) cs ClS.start 0 0 ∧ ∀ c, c ∈ O → u1.heap.size ≤ c) := hr1; clear hb1 hr1; have y0 := keep_cell x0 HV1.out; have y1 := keep_cell x1 HV1.out; have y2 := keep_cell x2 HV1.out; have y3 := keep_cell x3 HV1.out; have y4 := keep_cell x4 HV1.out; have y5 := keep_cell x5 HV1.out; have y6 := keep_cell x6 HV1.out; have y7 := keep_cell x7 HV1.out; have y8 := keep_cell x8 HV1.out; have y9 := keep_cell x9 HV1.out; have hv1l : w.heap.size < v1.heap.size := Nat.lt_of_lt_of_le hu1 HV1.out.size)
      | (go_at_call 7; refine (hA _ (hD2 _)).mono ?_; rintro ev v1 ⟨X1, rfl, hb1, hr1⟩; have HV1 : Hid (Below u1.heap.size u1 v1) := (hD2 _).trans (hb1.mono (by simp)); have HX1 : Hid (X1 = none ∨ ∃ O C cs, X1 = some ⟨C, 0, none⟩ ∧ Clu v1 O C p (begFa p fa) cs ClS.start 0 0 ∧ ∀ c, c ∈ O → u1.heap.size ≤ c) := hr1.imp id (fun ⟨O, C, cs, e1, e2, e3⟩ => ⟨O, C, cs, e1, e2, fun c hc => Nat.le_trans (by simp) (e3 c hc)⟩); have HIL : Hid (IntRow v1 (some ⟨u1.heap.size, 0, none⟩) [1, 2, 0, 5, 3]) := (by have h3 := fun q => HLc.out (u1.drewN q); exact (h3 _).below hb1); clear hb1 hr1; have y0 := keep_cell x0 HV1.out; have y1 := keep_cell x1 HV1.out; have y2 := keep_cell x2 HV1.out; have y3 := keep_cell x3 HV1.out; have y4 := keep_cell x4 HV1.out; have y5 := keep_cell x5 HV1.out; have y6 := keep_cell x6 HV1.out; have y7 := keep_cell x7 HV1.out; have y8 := keep_cell x8 HV1.out; have y9 := keep_cell x9 HV1.out; have hv1l : w.heap.size < v1.heap.size := Nat.lt_of_lt_of_le hu1 HV1.out.size))
    all_goals go_wp2_with fail
    all_goals go_meet
    all_goals refine ⟨⟨HV2.out.1.os, HV2.out.1.tape, HV2.out.1.output, HV2.out.1.size, HV2.out.1.block⟩, ?_⟩
    all_goals (
      rcases HX1.out with h1 | ⟨Oa, Ca, ca, h1, hCa, hOa⟩
      · exact .inl (by rw [h1])
      · rcases HX2.out with h2 | ⟨Ob, Cb, cb, h2, hCb, hOb⟩
        · exact .inr (.inl ⟨Ca, by rw [h1], by rw [h2]⟩)
        · refine .inr (.inr ⟨Ca, Cb, by rw [h1], by rw [h2], Oa, Ob, ca, cb, _, _, 0, 0, 0, ?_, ?_, fun c c1 c2 => ?_, hOa, fun c hc => Nat.le_trans HV1.out.size (hOb c hc), Nat.le_refl _, Nat.le_refl _, ⟨rfl, rfl⟩, fun _ q => q.elim⟩)
          · exact HOp.out.keep (HOp.out.keep hCa (Same.of_below HV2.out.2 (HOp.out.lt hCa))) ⟨Nat.le_refl _, fun _ _ => rfl⟩
          · exact HOp.out.keep hCb ⟨Nat.le_refl _, fun _ _ => rfl⟩
          · have := HOp.out.lt hCa c c1
            have := hOb c c2
            omega)
  case rest =>
    obtain ⟨hbe0, hcut⟩ := hcut
    rename World => wc0
    have y0 := keep_cell x0 hbe0.out
    have y7 := keep_cell x7 hbe0.out
    have hw0 : w.heap.size < wc0.heap.size := Nat.lt_of_lt_of_le hu1 hbe0.out.size
    have HL1 : Hid (w.heap.size ≤ u1.heap.size) := Nat.le_of_lt hu1
    rcases hcut with rfl | ⟨Ca, rfl, rfl⟩ | ⟨Ca, Cb, rfl, rfl, hSt⟩
    · go_wp2
      go_ret
      exact ⟨rfl, HB1.out.trans (hbe0.out.mono HL1.out)⟩
    · go_wp2
      go_ret
      exact ⟨rfl, HB1.out.trans (hbe0.out.mono HL1.out)⟩
    have HPB : Hid (PlanB p) := by
      obtain ⟨Oa, Ob, ca, cb, sa', sb', rd, Ta, Tb, h1, _⟩ := hSt.out.ex
      exact (HOp.out.ok h1).1.plan.bounds
    have b0 := HPB.out.n1
    have b1 := HPB.out.n2
    have b2 := HPB.out.nl
    rw [HNo.out.1] at b0 b1
    rw [HNo.out.2] at b2
    obtain ⟨nn, rfl⟩ : ∃ nn : Nat, nodes = nn := ⟨nodes.toNat, by omega⟩
    have HN : Hid (p.n = nn ∧ p.nl = nl) := ⟨by unfold PlanN.n; rw [HNo.out.1]; omega, HNo.out.2⟩
    have hpk := fun u => pick_any node nn (by omega) (by omega) u
    have hpi := pk_in (a := node) (n := (nn : Int)) (by omega)
    obtain ⟨nd, hnd⟩ : ∃ nd : Nat, pk node (nn : Int) = nd := ⟨(pk node (nn : Int)).toNat, by omega⟩
    rw [hnd] at hpk hpi
    have HS0 : Hid (AptSt Clu wc0 u1.heap.size Ca Cb p (begFa p fa) 0 (fun _ x y => Alike1 p.S nd x y) (fun _ => False) 0) := hSt.out.weaken (fun _ x y ⟨h1, h2⟩ => by rw [h1, h2]; exact ⟨rfl, fun _ _ => rfl, fun _ _ => rfl, fun _ _ => rfl⟩) (Nat.le_refl _)
    clear hSt hnd
    go_wp2_with fail
    refine (hpk _).mono ?_
    rintro ev wd ⟨rfl, hq⟩
    replace hq := hq.symm
    subst hq
    clear hpk y7
    go_wp2_with fail
    clear y0 hw0
    go_loopw [13] (fun t wr => ∃ i : Nat, i ≤ n ∧ t = .int .i64 i ∧ Hid (AptSt Clu wr u1.heap.size Ca Cb p (begFa p fa) 0 (fun _ x y => Alike1 p.S nd x y) (fun _ => False) (5 * i)) ∧ Hid (Below u1.heap.size u1 wr)) (fun t _ => n - (intOf t).toNat)
    case atStart => exact ⟨0, Nat.zero_le _, rfl, HS0, hbe0⟩
    case round =>
      clear HS0 hbe0
      obtain ⟨i, hi2, rfl, hSt, hbe⟩ := hrel
      by_cases hlt : i < n
      · have kk2 : (i : Int) < (n : Int) := by omega
        obtain ⟨rb, roff, rfl, hrb, hrc⟩ := HR1.out (by omega)
        obtain ⟨⟨c0, c1, c2, c3, c4⟩, hIn⟩ := hrc i hlt
        replace c0 := (hbe.out.cell (p := ⟨rb, roff + i * 5, none⟩) hrb).trans c0
        replace c1 := (hbe.out.cell (p := ⟨rb, roff + i * 5 + 1, none⟩) hrb).trans c1
        replace c2 := (hbe.out.cell (p := ⟨rb, roff + i * 5 + 2, none⟩) hrb).trans c2
        replace c3 := (hbe.out.cell (p := ⟨rb, roff + i * 5 + 3, none⟩) hrb).trans c3
        replace c4 := (hbe.out.cell (p := ⟨rb, roff + i * 5 + 4, none⟩) hrb).trans c4
        have hrw : rb < wr.heap.size := Nat.lt_of_lt_of_le hrb hbe.out.size
        have HI2 : Hid ((R i).In (A i) u1) := hIn
        have q0 := (hbe.out.cell (p := ⟨w.heap.size, 0, none⟩) hu1).trans x0
        have q7 := (hbe.out.cell (p := ⟨w.heap.size, 7, none⟩) hu1).trans x7
        have s3 : w.heap.size < wr.heap.size := Nat.lt_of_lt_of_le hu1 hbe.out.size
        clear hrc hIn
        have l0 := HI2.out.lL
        have l1 := HI2.out.lR
        have l2 := HI2.out.lD
        have l3 := HI2.out.lM
        obtain ⟨RB, hRB⟩ : ∃ RB, wr.heap.size = RB := ⟨_, rfl⟩
        generalize hRi : R i = r at *
        generalize hAi : A i = ra' at *
        obtain ⟨W, hW⟩ : ∃ W, wr.alloc (.cells #[.slice ra'.la r.nL ra'.lc, .slice ra'.ra r.nR ra'.rc, .slice ra'.da r.drifts.length ra'.dc, .slice ra'.ma r.modes.length ra'.mc] 35) = W := ⟨_, rfl⟩
        have hWB : Below wr.heap.size wr W := by rw [← hW]; exact (Below.refl _ _).alloc (Nat.le_refl _) _
        have hWs : W.heap.size = RB + 1 := by rw [← hW, ← hRB]; simp
        have v0 : W.cell? ⟨RB, 0, none⟩ = some (.slice ra'.la r.nL ra'.lc) := by rw [← hW, ← hRB]; simp
        have v1 : W.cell? ⟨RB, 1, none⟩ = some (.slice ra'.ra r.nR ra'.rc) := by rw [← hW, ← hRB]; simp
        have v2 : W.cell? ⟨RB, 2, none⟩ = some (.slice ra'.da r.drifts.length ra'.dc) := by rw [← hW, ← hRB]; simp
        have v3 : W.cell? ⟨RB, 3, none⟩ = some (.slice ra'.ma r.modes.length ra'.mc) := by rw [← hW, ← hRB]; simp
        have d0 := keep_cell c0 hWB
        have e0 := keep_cell q0 hWB
        have e7 := keep_cell q7 hWB
        have sW : w.heap.size < W.heap.size := by omega
        have rW : rb < W.heap.size := by omega
        have HWB : Hid (Below wr.heap.size wr W) := hWB
        have HBW : Hid (Below u1.heap.size u1 W) := hbe.out.trans (hWB.mono hbe.out.size)
        have hbs : u1.heap.size ≤ RB := by rw [← hRB]; exact hbe.out.size
        have hWr : wr.heap.size = RB := hRB
        have HWr : Hid (wr.heap.size = RB) := hRB
        generalize hnL : r.nL = nL at *
        generalize hnR : r.nR = nR at *
        generalize hnD : r.drifts.length = nD at *
        generalize hnM : r.modes.length = nM at *
        generalize hla : ra'.la = rla at *
        generalize hlc : ra'.lc = rlc at *
        generalize hra : ra'.ra = rra at *
        generalize hrc : ra'.rc = rrc at *
        generalize hda : ra'.da = rda at *
        generalize hdc : ra'.dc = rdc at *
        generalize hma : ra'.ma = rma at *
        generalize hmc : ra'.mc = rmc at *
        have HVal : Hid (r.val ra' = .agg #[.slice rla nL rlc, .slice rra nR rrc, .slice rda nD rdc, .slice rma nM rmc]) := by
          show _ = _
          unfold RoundN.val
          rw [hnL, hnR, hnD, hnM, hla, hlc, hra, hrc, hda, hdc, hma, hmc]
        have HAt : Hid (ra'.la = rla ∧ r.nL = nL ∧ ra'.ma = rma ∧ r.modes.length = nM) := ⟨hla, hnL, hma, hnM⟩
        clear hWB hRi hAi hnL hnR hnD hnM hla hlc hra hrc hda hdc hma hmc
        generalize K i = Ki at *
        obtain ⟨X, hX⟩ : ∃ X, wrap64 (wrap64 (wrap64 ((nL : Int) + (nR : Int)) + (nD : Int)) + (nM : Int)) = X := ⟨_, rfl⟩
        by_cases k2 : 150 < X
        · go_wp2_with fail
          go_ret
          exact ⟨rfl, HB1.out.trans (HBW.out.mono HL1.out)⟩
        have k2' : decide (150 < X) = false := decide_eq_false k2
        clear k2
        have HSW : Hid (AptSt Clu W u1.heap.size Ca Cb p (begFa p fa) 0 (fun _ x y => Alike1 p.S nd x y) (fun c => c = RB) (5 * i)) := hSt.out.watch HOp.out HWB.out _ (fun c hc => by have := HWr.out; subst hc; exact ⟨by omega, .inl (by omega)⟩)
        clear hSt
        go_upto_region 16 with fail
        clear hX hW hRB hWr c0 c1 c2 c3 c4 q0 q7 s3 hrw hbe HWB
        go_cut [91] (fun tv wx => tv = .bool (decide (0 ≤ Ki ∧ Ki < nl)) ∧ wx = W)
        case first =>
         as_aux_lemma =>
          by_cases h0 : 0 ≤ Ki
          · by_cases h1 : Ki < nl
            · have HD : Hid (decide (0 ≤ Ki ∧ Ki < (nl : Int)) = true) := decide_eq_true ⟨h0, h1⟩
              go_wp2_with fail
              go_meet
              exact ⟨by rw [HD.out], rfl⟩
            · have HD : Hid (decide (0 ≤ Ki ∧ Ki < (nl : Int)) = false) := decide_eq_false (fun q => h1 q.2)
              have h1' : decide (Ki < (nl : Int)) = false := decide_eq_false h1
              clear h1
              go_wp2_with fail
              go_meet
              exact ⟨by rw [HD.out], rfl⟩
          · have HD : Hid (decide (0 ≤ Ki ∧ Ki < (nl : Int)) = false) := decide_eq_false (fun q => h0 q.1)
            have h0' : decide (0 ≤ Ki) = false := decide_eq_false h0
            clear h0
            go_wp2_with fail
            go_meet
            exact ⟨by rw [HD.out], rfl⟩
        case rest =>
          obtain ⟨rfl, hwx⟩ := hcut
          replace hwx := hwx.symm
          subst hwx
          go_upto_if 91 with fail
          go_cut [] (fun wx => Hid (AptSt Clu wx u1.heap.size Ca Cb p (begFa p fa) 0 (fun _ x y => Alike1 p.S nd x y) (fun c => c = RB) (5 * i + 2)) ∧ Hid (Below u1.heap.size u1 wx) ∧ Hid (wx.heap[RB]? = W.heap[RB]?))
          case first =>
           as_aux_lemma =>
            by_cases hin : 0 ≤ Ki ∧ Ki < nl
            · rw [decide_eq_true hin]
              obtain ⟨k, rfl⟩ : ∃ k : Nat, Ki = k := ⟨Ki.toNat, by omega⟩
              have hkl : k < nl := by omega
              obtain ⟨D, hD⟩ : ∃ D, strOfNums [(i : Int)] = D := ⟨_, rfl⟩
              obtain ⟨wA, hwA⟩ : ∃ v, W.alloc (.cells #[.int .u8 (i : Int)] 5) = v := ⟨_, rfl⟩
              have hWs1 : W.heap.size = RB + 1 := hWs
              have hcv := run_convert_bytes_arg (P := Tryz.prog) wA 48 5 Tryz.underlying48 Tryz.underlying5 (RB + 1) 0 1 1 [(i : Int)] rfl (fun i hi => by
                rw [← hwA, ← hWs1]
                match i, hi with
                | 0, _ => simp) 9 Tryz.underlying9
              rw [hD] at hcv
              have hAB : Below W.heap.size W wA := by rw [← hwA]; exact (Below.refl _ _).alloc (Nat.le_refl _) _
              have hput := (HSW.out.below HOp.out hAB).putA HOp.out (by omega) (Nat.le_trans HBW.out.size hAB.size) k (by rw [HN.out.2]; exact hkl) D
              have HAu : Hid (Below u1.heap.size u1 wA) := HBW.out.trans (hAB.mono HBW.out.size)
              have HRA : Hid (wA.heap[RB]? = W.heap[RB]?) := hAB.block RB (by omega)
              clear hAB
              go_wp2_with fail
              refine hput.mono ?_
              rintro ev w5 ⟨K1, rfl, hS5, hb5, hk5⟩
              have HB5 : Hid (Below u1.heap.size u1 w5) := HAu.out.trans (hb5.mono (Nat.le_refl _))
              have HR5 : Hid (w5.heap[RB]? = W.heap[RB]?) := (hk5 RB rfl).trans HRA.out
              have HS5 : Hid _ := hS5
              clear hput hcv hwA hS5 hb5 hk5
              obtain ⟨bL, offL, rfl, hbL, hcL⟩ := HLk1.out (by omega)
              have e7 := (HB5.out.cell (p := ⟨w.heap.size, 7, none⟩) hu1).trans x7
              have elf := (HB5.out.cell (p := ⟨bL, offL + k * 4, none⟩) hbL).trans (hcL k hkl).1
              have sl5 : w.heap.size < w5.heap.size := Nat.lt_of_lt_of_le hu1 HB5.out.size
              have sb5 : bL < w5.heap.size := Nat.lt_of_lt_of_le hbL HB5.out.size
              have kk3 : (k : Int) < (nl : Int) := by omega
              have hlb := (HPB.out.link k (by rw [HN.out.2]; exact hkl)).1
              clear hcL
              by_cases hEq : p.lf k = nd
              · have kE : (p.lf k == (nd : Int)) = true := by simpa using hEq
                have HSf : Hid (p.S.lf k = nd) := by show (p.lf k).toNat = nd; rw [hEq]; omega
                obtain ⟨wB, hwB⟩ : ∃ v, w5.alloc (.cells #[.int .u8 (i : Int)] 5) = v := ⟨_, rfl⟩
                obtain ⟨z5, hz5⟩ : ∃ z5, w5.heap.size = z5 := ⟨_, rfl⟩
                have hcv2 := run_convert_bytes_arg (P := Tryz.prog) wB 48 5 Tryz.underlying48 Tryz.underlying5 z5 0 1 1 [(i : Int)] rfl (fun i hi => by
                  rw [← hwB, ← hz5]
                  match i, hi with
                  | 0, _ => simp) 9 Tryz.underlying9
                rw [hD] at hcv2
                have hAB2 : Below w5.heap.size w5 wB := by rw [← hwB]; exact (Below.refl _ _).alloc (Nat.le_refl _) _
                have hput2 := (HS5.out.below HOp.out hAB2).putB HOp.out (by omega) (Nat.le_trans HB5.out.size hAB2.size) k (by rw [HN.out.2]; exact hkl) D
                have HBB : Hid (Below u1.heap.size u1 wB) := HB5.out.trans (hAB2.mono HB5.out.size)
                have HRB2 : Hid (wB.heap[RB]? = W.heap[RB]?) := by
                  obtain ⟨_, _, _, _, _, _, _, _, _, _, _, _, _, _, _, _, _, h9⟩ := HS5.out.ex
                  exact (hAB2.block RB (h9 RB rfl).1).trans HR5.out
                clear hAB2
                go_wp2_with fail
                refine hput2.mono ?_
                rintro ev w6 ⟨K2, rfl, hS6, hb6, hk6⟩
                have HB6 : Hid (Below u1.heap.size u1 w6) := HBB.out.trans (hb6.mono (Nat.le_refl _))
                have HR6 : Hid (w6.heap[RB]? = W.heap[RB]?) := (hk6 RB rfl).trans HRB2.out
                have hKK : K1 = K2 := by
                  obtain ⟨rd, x, y, y0, ⟨x0, h1, h2, h3⟩, h4, h5⟩ := hS6.fact
                  rw [h3, h5]
                  exact (alike_put h1 HSf.out D).1
                have HS6 : Hid (AptSt Clu w6 u1.heap.size Ca Cb p (begFa p fa) 0 (fun _ x y => Alike1 p.S nd x y) (fun c => c = RB) (5 * i + 2)) := hS6.weaken (fun rd x y ⟨y0, ⟨x0, h1, h2, h3⟩, h4, h5⟩ => by rw [h2, h4]; exact (alike_put h1 HSf.out D).2) (by omega)
                subst hKK
                have hKn : (K1 != K1) = false := by simp
                clear hput2 hcv2 hwB hz5 hS6 hb6 hk6 e7 elf sl5 sb5
                go_wp2_with fail
                refine (tell_any K1 _ (HT1.out.below HB6.out)).mono ?_
                rintro ev w7 ⟨rfl, hb7⟩
                have HB7 : Hid (Below u1.heap.size u1 w7) := HB6.out.trans (hb7.mono HB6.out.size)
                have HS7 : Hid (AptSt Clu w7 u1.heap.size Ca Cb p (begFa p fa) 0 (fun _ x y => Alike1 p.S nd x y) (fun c => c = RB) (5 * i + 2)) := HS6.out.below HOp.out hb7
                have HR7 : Hid (w7.heap[RB]? = W.heap[RB]?) := by
                  obtain ⟨_, _, _, _, _, _, _, _, _, _, _, _, _, _, _, _, _, h9⟩ := HS6.out.ex
                  exact (hb7.block RB (h9 RB rfl).1).trans HR6.out
                clear hb7 HB6 HS6 HR6
                go_wp2_with fail
                refine (tell_any K1 _ (HT1.out.below HB7.out)).mono ?_
                rintro ev w8 ⟨rfl, hb8⟩
                have HB8 : Hid (Below u1.heap.size u1 w8) := HB7.out.trans (hb8.mono HB7.out.size)
                have HS8 : Hid (AptSt Clu w8 u1.heap.size Ca Cb p (begFa p fa) 0 (fun _ x y => Alike1 p.S nd x y) (fun c => c = RB) (5 * i + 2)) := HS7.out.below HOp.out hb8
                have HR8 : Hid (w8.heap[RB]? = W.heap[RB]?) := by
                  obtain ⟨_, _, _, _, _, _, _, _, _, _, _, _, _, _, _, _, _, h9⟩ := HS7.out.ex
                  exact (hb8.block RB (h9 RB rfl).1).trans HR7.out
                clear hb8 HB7 HS7 HR7
                go_wp2_with fail
                go_meet
                exact ⟨HS8, HB8, HR8⟩
              · have kE : (p.lf k == (nd : Int)) = false := by simpa using hEq
                have HS6 : Hid (AptSt Clu w5 u1.heap.size Ca Cb p (begFa p fa) 0 (fun _ x y => Alike1 p.S nd x y) (fun c => c = RB) (5 * i + 2)) := HS5.out.weaken (fun rd x y ⟨x0, h1, h2, h3⟩ => by rw [h2]; exact alike_putA h1 (show (p.lf k).toNat ≠ nd by omega) D) (by omega)
                clear hEq
                go_wp2_with fail
                go_meet
                exact ⟨HS6, HB5, HR5⟩
            · rw [decide_eq_false hin]
              go_wp2_with fail
              go_meet
              exact ⟨HSW.out.weaken (fun _ _ _ h => h) (by omega), HBW, rfl⟩
          case rest =>
            clear HSW HBW d0 e0 e7 sW rW
            obtain ⟨hS, hbx, hRB2⟩ := hcut
            rename World => wx
            have q7 := (hbx.out.cell (p := ⟨w.heap.size, 7, none⟩) hu1).trans x7
            have slx : w.heap.size < wx.heap.size := Nat.lt_of_lt_of_le hu1 hbx.out.size
            go_upto_region 22 with fail
            go_cut [127] (fun tv wy => tv = .bool (decide (0 < ol ∧ 0 < nl)) ∧ wy = wx)
            case first =>
             as_aux_lemma =>
              by_cases h0 : 0 < ol
              · have h0' : (0 : Int) < (ol : Int) := by omega
                by_cases h1 : 0 < nl
                · have HD : Hid (decide (0 < ol ∧ 0 < nl) = true) := decide_eq_true ⟨h0, h1⟩
                  have h1' : (0 : Int) < (nl : Int) := by omega
                  go_wp2_with fail
                  go_meet
                  exact ⟨by rw [HD.out], rfl⟩
                · have HD : Hid (decide (0 < ol ∧ 0 < nl) = false) := decide_eq_false (fun q => h1 q.2)
                  have h1' : decide (0 < nl) = false := decide_eq_false (by omega)
                  clear h1
                  go_wp2_with fail
                  go_meet
                  exact ⟨by rw [HD.out], rfl⟩
              · have HD : Hid (decide (0 < ol ∧ 0 < nl) = false) := decide_eq_false (fun q => h0 q.1)
                have h0' : decide (0 < ol) = false := decide_eq_false (by omega)
                clear h0
                go_wp2_with fail
                go_meet
                exact ⟨by rw [HD.out], rfl⟩
            case rest =>
              obtain ⟨rfl, hwy⟩ := hcut
              replace hwy := hwy.symm
              subst hwy
              go_upto_if 127 with fail
              go_cut [] (fun wy => Hid (AptSt Clu wy u1.heap.size Ca Cb p (begFa p fa) 0 (fun _ x y => Alike1 p.S nd x y) (fun c => c = RB) (5 * i + 3)) ∧ Hid (Below u1.heap.size u1 wy) ∧ Hid (wy.heap[RB]? = W.heap[RB]?))
              case first =>
               as_aux_lemma =>
                by_cases hin : 0 < ol ∧ 0 < nl
                · rw [decide_eq_true hin]
                  obtain ⟨m, hm⟩ : ∃ m, i % ol = m := ⟨_, rfl⟩
                  have hml : m < ol := by rw [← hm]; exact Nat.mod_lt _ hin.1
                  have hmod : Int.tmod (i : Int) (ol : Int) = (m : Int) := by rw [← hm, Int.tmod_eq_emod_of_nonneg (by omega)]; simp
                  have knz : ((ol : Int) == 0) = false := by
                    have : (ol : Int) ≠ 0 := by omega
                    simpa using this
                  have kn1 : ((ol : Int) == -1) = false := by
                    have : (ol : Int) ≠ -1 := by omega
                    simp
                  have kml : (m : Int) < (ol : Int) := by omega
                  obtain ⟨bo, offo, rfl, hbo, hco⟩ := HOt1.out (by rw [HOl2.out]; exact hin.1)
                  have eo := (hbx.out.cell (p := ⟨bo, offo + m, none⟩) hbo).trans (hco m (by rw [HOl2.out]; exact hml))
                  have slo : bo < wx.heap.size := Nat.lt_of_lt_of_le hbo hbx.out.size
                  generalize ot.getD m 0 = xo at eo
                  have hpk := fun u => pick_any xo nl (by omega) (by omega) u
                  have hpi2 := pk_in (a := xo) (n := (nl : Int)) (by omega)
                  obtain ⟨k, hk⟩ : ∃ k : Nat, pk xo (nl : Int) = k := ⟨(pk xo (nl : Int)).toNat, by omega⟩
                  rw [hk] at hpk hpi2
                  have hkl : k < nl := by omega
                  obtain ⟨bL, offL, rfl, hbL, hcL⟩ := HLk1.out (by omega)
                  have elf := (hbx.out.cell (p := ⟨bL, offL + k * 4, none⟩) hbL).trans (hcL k hkl).1
                  have sbx : bL < wx.heap.size := Nat.lt_of_lt_of_le hbL hbx.out.size
                  have kk3 : (k : Int) < (nl : Int) := by omega
                  have hlb := (HPB.out.link k (by rw [HN.out.2]; exact hkl)).1
                  have HSq : Hid (∀ q : Nat, AptSt Clu (wx.drewN q) u1.heap.size Ca Cb p (begFa p fa) 0 (fun _ x y => Alike1 p.S nd x y) (fun c => c = RB) (5 * i + 2)) := fun q => hS.out.below HOp.out ⟨rfl, rfl, rfl, Nat.le_refl _, fun _ _ => rfl⟩
                  have HBq : Hid (∀ q : Nat, Below u1.heap.size u1 (wx.drewN q)) := fun q => ⟨hbx.out.os, hbx.out.tape, hbx.out.output, hbx.out.size, hbx.out.block⟩
                  clear hcL hm hk hco
                  by_cases hEq : p.lf k = nd
                  · have kE : (p.lf k != (nd : Int)) = false := by simpa using hEq
                    clear hEq
                    go_wp2_with fail
                    go_quiet ((go_at_call 13; exact Calls.quiet_of_same (hpk _)))
                    go_wp2_with fail
                    go_meet
                    exact ⟨(HSq.out nq).weaken (fun _ _ _ h => h) (by omega), HBq.out nq, hRB2⟩
                  · have kE : (p.lf k != (nd : Int)) = true := by simpa using hEq
                    have hput := fun q => (HSq.out q).putB HOp.out (by omega) hbx.out.size k (by rw [HN.out.2]; exact hkl) ⟨#[111, 116, 104, 101, 114]⟩
                    have HNe : Hid (p.S.lf k ≠ nd) := show (p.lf k).toNat ≠ nd by omega
                    clear hEq
                    go_wp2_with fail
                    go_quiet ((go_at_call 13; exact Calls.quiet_of_same (hpk _)))
                    go_wp2_with fail
                    refine (hput nq).mono ?_
                    rintro ev w6 ⟨K2, rfl, hS6, hb6, hk6⟩
                    have HB6 : Hid (Below u1.heap.size u1 w6) := (HBq.out nq).trans (hb6.mono (Nat.le_refl _))
                    have HR6 : Hid (w6.heap[RB]? = W.heap[RB]?) := (hk6 RB rfl).trans hRB2.out
                    have HS6 : Hid (AptSt Clu w6 u1.heap.size Ca Cb p (begFa p fa) 0 (fun _ x y => Alike1 p.S nd x y) (fun c => c = RB) (5 * i + 3)) := hS6.weaken (fun rd x y ⟨y0, h1, h4, h5⟩ => by rw [h4]; exact alike_putB h1 HNe.out _) (by omega)
                    clear hput hS6 hb6 hk6
                    go_wp2_with fail
                    go_meet
                    exact ⟨HS6, HB6, HR6⟩
                · rw [decide_eq_false hin]
                  go_wp2_with fail
                  go_meet
                  exact ⟨hS.out.weaken (fun _ _ _ h => h) (by omega), hbx, hRB2⟩
              case rest =>
                clear hS hbx hRB2 q7 slx
                obtain ⟨hS, hbx, hRB2⟩ := hcut
                rename World => wy
                obtain ⟨QB, hQB⟩ : ∃ QB, wy.heap.size = QB := ⟨_, rfl⟩
                have hRl : RB < wy.heap.size := by
                  obtain ⟨_, _, _, _, _, _, _, _, _, _, _, _, _, _, _, _, _, h9⟩ := hS.out.ex
                  exact (h9 RB rfl).1
                have c0 := (World.cell?_of_block (a := ⟨RB, 0, none⟩) (w := W) hRB2.out).trans v0
                have c1 := (World.cell?_of_block (a := ⟨RB, 1, none⟩) (w := W) hRB2.out).trans v1
                have c2 := (World.cell?_of_block (a := ⟨RB, 2, none⟩) (w := W) hRB2.out).trans v2
                have c3 := (World.cell?_of_block (a := ⟨RB, 3, none⟩) (w := W) hRB2.out).trans v3
                obtain ⟨Z, hZ⟩ : ∃ Z, wy.alloc (.cells #[.slice rla nL rlc, .slice none 0 0, .slice none 0 0, .slice rma nM rmc] 35) = Z := ⟨_, rfl⟩
                have hZB : Below wy.heap.size wy Z := by rw [← hZ]; exact (Below.refl _ _).alloc (Nat.le_refl _) _
                have hZs : Z.heap.size = QB + 1 := by rw [← hZ, ← hQB]; simp
                have z0 : Z.cell? ⟨QB, 0, none⟩ = some (.slice rla nL rlc) := by rw [← hZ, ← hQB]; simp
                have z1 : Z.cell? ⟨QB, 1, none⟩ = some (.slice none 0 0) := by rw [← hZ, ← hQB]; simp
                have z2 : Z.cell? ⟨QB, 2, none⟩ = some (.slice none 0 0) := by rw [← hZ, ← hQB]; simp
                have z3 : Z.cell? ⟨QB, 3, none⟩ = some (.slice rma nM rmc) := by rw [← hZ, ← hQB]; simp
                have s0 := keep_cell c0 hZB
                have s1 := keep_cell c1 hZB
                have s2 := keep_cell c2 hZB
                have s3 := keep_cell c3 hZB
                have hRZ : RB < Z.heap.size := Nat.lt_of_lt_of_le hRl hZB.size
                have hQZ : QB < Z.heap.size := by omega
                have HBZ : Hid (Below u1.heap.size u1 Z) := hbx.out.trans (hZB.mono hbx.out.size)
                have HSZ : Hid (AptSt Clu Z u1.heap.size Ca Cb p (begFa p fa) 0 (fun _ x y => Alike1 p.S nd x y) (fun c => c = RB ∨ c = QB) (5 * i + 3)) := hS.out.watch HOp.out hZB _ (fun c hc => by
                  rcases hc with rfl | rfl
                  · exact ⟨hRZ, .inr rfl⟩
                  · exact ⟨hQZ, .inl (by omega)⟩)
                have HIr : Hid (∀ v, Below u1.heap.size u1 v → r.In ra' v) := fun v hv => HI2.out.below hv
                have HIq : Hid (∀ v, Below u1.heap.size u1 v → r.quiet.In ⟨rla, rlc, none, 0, none, 0, rma, rmc⟩ v) := fun v hv => by
                  have h := HI2.out.below hv
                  obtain ⟨g1, g2, g3, g4⟩ := HAt.out
                  refine ⟨?_, fun q => absurd q (Nat.lt_irrefl _), fun q => absurd q (Nat.lt_irrefl _), ?_, h.ints, h.lL, Nat.zero_le _, Nat.zero_le _, h.lM⟩
                  · have := h.losses; rw [g1] at this; exact this
                  · have := h.modes; rw [g3] at this; exact this
                have HVq : Hid (r.quiet.val ⟨rla, rlc, none, 0, none, 0, rma, rmc⟩ = .agg #[.slice rla nL rlc, .slice none 0 0, .slice none 0 0, .slice rma nM rmc]) := by
                  obtain ⟨g1, g2, g3, g4⟩ := HAt.out
                  show Value.agg #[.slice rla r.nL rlc, .slice none 0 0, .slice none 0 0, .slice rma r.modes.length rmc] = _
                  rw [g2, g4]
                have hPA := fun q : Nat => (HSZ.out.below HOp.out (w' := Z.drewN q) ⟨rfl, rfl, rfl, Nat.le_refl _, fun _ _ => rfl⟩).playA HOp.out (by omega) HBZ.out.size r ra' (HIr.out _ ⟨HBZ.out.os, HBZ.out.tape, HBZ.out.output, HBZ.out.size, HBZ.out.block⟩) (HIr.out _ (Below.refl _ _)).low
                rw [HVal.out] at hPA
                clear hZB hS hbx hRB2 v0 v1 v2 v3
                go_wp2_with fail
                clear hZ hQB c0 c1 c2 c3 hRl
                go_region_held3 (fun v => (v.cell? ⟨RB, 0, none⟩ = some (.slice rla nL rlc) ∧ v.cell? ⟨RB, 1, none⟩ = some (.slice rra nR rrc) ∧ v.cell? ⟨RB, 2, none⟩ = some (.slice rda nD rdc) ∧ v.cell? ⟨RB, 3, none⟩ = some (.slice rma nM rmc)) ∧ v.cell? ⟨QB, 0, none⟩ = some (.slice rla nL rlc) ∧ v.cell? ⟨QB, 1, none⟩ = some (.slice none 0 0) ∧ v.cell? ⟨QB, 2, none⟩ = some (.slice none 0 0) ∧ v.cell? ⟨QB, 3, none⟩ = some (.slice rma nM rmc)) (go_keep) (first
                  | (have hh := HS7.out; obtain ⟨D7, R7, hS7, hc7⟩ := hh; go_at_call 8; have hPB := hS7.playB HOp.out (by omega) HB7.out.size r.quiet ⟨rla, rlc, none, 0, none, 0, rma, rmc⟩ (HIq.out _ HB7.out) (HIq.out _ (Below.refl _ _)).low; rw [HVq.out] at hPB; refine hPB.mono ?_; rintro ev w8 ⟨K2, rfl, hb8, hr8⟩; have HB8 : Hid (Below u1.heap.size u1 w8) := HB7.out.trans (hb8.1.mono (Nat.le_refl _)); have s0'' := (World.cell?_of_block (a := ⟨RB, 0, none⟩) (w := w7) (hb8.2 RB (.inl rfl))).trans s0'; have s1'' := (World.cell?_of_block (a := ⟨RB, 1, none⟩) (w := w7) (hb8.2 RB (.inl rfl))).trans s1'; have s2'' := (World.cell?_of_block (a := ⟨RB, 2, none⟩) (w := w7) (hb8.2 RB (.inl rfl))).trans s2'; have s3'' := (World.cell?_of_block (a := ⟨RB, 3, none⟩) (w := w7) (hb8.2 RB (.inl rfl))).trans s3'; have z0'' := (World.cell?_of_block (a := ⟨QB, 0, none⟩) (w := w7) (hb8.2 QB (.inr rfl))).trans z0'; have z1'' := (World.cell?_of_block (a := ⟨QB, 1, none⟩) (w := w7) (hb8.2 QB (.inr rfl))).trans z1'; have z2'' := (World.cell?_of_block (a := ⟨QB, 2, none⟩) (w := w7) (hb8.2 QB (.inr rfl))).trans z2'; have z3'' := (World.cell?_of_block (a := ⟨QB, 3, none⟩) (w := w7) (hb8.2 QB (.inr rfl))).trans z3'; have hRl8 : RB < w8.heap.size := Nat.lt_of_lt_of_le hRl7 hb8.1.size; have hQl8 : QB < w8.heap.size := Nat.lt_of_lt_of_le hQl7 hb8.1.size; have HE8 : Hid ((K1 = 6 ∧ (K2 = 6 ∨ K2 = 0)) ∨ (K1 = 0 ∧ K2 = 6) ∨ (K1 = 0 ∧ K2 = 0 ∧ AptSt Clu w8 u1.heap.size Ca Cb p (begFa p fa) 0 (fun _ x y => Alike1 p.S nd x y) (fun c => c = RB ∨ c = QB) (5 * i + 5))) := (by
                      rcases hc7 with e1 | ⟨e1, e2, e3⟩
                      · exact .inl ⟨e1, hr8.elim (fun h => .inl h.1) (fun h => .inr h.1)⟩
                      · rcases hr8 with ⟨f1, _⟩ | ⟨f1, f2⟩
                        · exact .inr (.inl ⟨e1, f1⟩)
                        · subst e2
                          subst e3
                          exact .inr (.inr ⟨e1, f1, f2.weaken (fun rd x y ⟨y0, ⟨x0, h1, h2⟩, h4⟩ => by rw [h2, h4, Int.add_zero]; exact alike_play h1 _ _ r) (Nat.le_refl _)⟩)); clear hPB hb8 hr8 hc7 hS7)
                  | (go_at_call 8; refine (hPA _).mono ?_; rintro ev w7 ⟨K1, rfl, hb7, hr7⟩; have HB7 : Hid (Below u1.heap.size u1 w7) := (⟨HBZ.out.os, HBZ.out.tape, HBZ.out.output, HBZ.out.size, HBZ.out.block⟩ : Below u1.heap.size u1 (Z.drewN _)).trans (hb7.1.mono (Nat.le_refl _)); have s0' := (World.cell?_of_block (a := ⟨RB, 0, none⟩) (w := Z) (hb7.2 RB (.inl rfl))).trans s0; have s1' := (World.cell?_of_block (a := ⟨RB, 1, none⟩) (w := Z) (hb7.2 RB (.inl rfl))).trans s1; have s2' := (World.cell?_of_block (a := ⟨RB, 2, none⟩) (w := Z) (hb7.2 RB (.inl rfl))).trans s2; have s3' := (World.cell?_of_block (a := ⟨RB, 3, none⟩) (w := Z) (hb7.2 RB (.inl rfl))).trans s3; have z0' := (World.cell?_of_block (a := ⟨QB, 0, none⟩) (w := Z) (hb7.2 QB (.inr rfl))).trans z0; have z1' := (World.cell?_of_block (a := ⟨QB, 1, none⟩) (w := Z) (hb7.2 QB (.inr rfl))).trans z1; have z2' := (World.cell?_of_block (a := ⟨QB, 2, none⟩) (w := Z) (hb7.2 QB (.inr rfl))).trans z2; have z3' := (World.cell?_of_block (a := ⟨QB, 3, none⟩) (w := Z) (hb7.2 QB (.inr rfl))).trans z3; have hRl7 : RB < w7.heap.size := Nat.lt_of_lt_of_le hRZ hb7.1.size; have hQl7 : QB < w7.heap.size := Nat.lt_of_lt_of_le hQZ hb7.1.size; have HS7 : Hid (∃ D' R', AptSt Clu w7 u1.heap.size Ca Cb p (begFa p fa) D' R' (fun c => c = RB ∨ c = QB) (5 * i + 3 + 1) ∧ (K1 = 6 ∨ (K1 = 0 ∧ D' = 0 + 1 ∧ R' = fun rd x y => ∃ x0, Alike1 p.S nd x0 y ∧ x = cluOn p (begFa p fa) x0 (rd + 0) r))) := (by
                      rcases hr7 with ⟨h1, h2⟩ | ⟨h1, h2⟩
                      · exact ⟨_, _, h2, .inl h1⟩
                      · exact ⟨_, _, h2, .inr ⟨h1, rfl, rfl⟩⟩); clear hb7 hr7))
                have hE6 : errV 6 = .iface 39 (.int .i64 6) := rfl
                clear hPA s0 s1 s2 s3 z0 z1 z2 z3 s0' s1' s2' s3' z0' z1' z2' z3' s0'' s1'' s2'' s3'' z0'' z1'' z2'' z3'' HSZ HS7 HIr HIq HVq HVal hRZ hQZ hRl7 hQl7
                rcases HE8.out with ⟨h1, _⟩ | ⟨h1, h2⟩ | ⟨h1, h2, hS8⟩
                · subst h1
                  rw [hE6]
                  go_wp2
                  go_ret
                  exact ⟨rfl, HB1.out.trans (HB8.out.mono HL1.out)⟩
                · subst h1
                  subst h2
                  rw [hE6, errV_0]
                  go_wp2
                  go_ret
                  exact ⟨rfl, HB1.out.trans (HB8.out.mono HL1.out)⟩
                subst h1
                subst h2
                rw [errV_0]
                have HS8 : Hid (AptSt Clu w8 u1.heap.size Ca Cb p (begFa p fa) 0 (fun _ x y => Alike1 p.S nd x y) (fun _ => False) (5 * i + 5)) := hS8.watch HOp.out (Below.refl _ _) _ (fun _ q => q.elim)
                clear HE8 hS8 hE6 hRl8 hQl8
                go_wp2_with fail
                go_loopw [22] (fun t wr => ∃ k : Nat, k ≤ nl ∧ t = .int .i64 k ∧ Hid (AptSt Clu wr u1.heap.size Ca Cb p (begFa p fa) 0 (fun _ x y => Alike1 p.S nd x y) (fun _ => False) (5 * i + 5)) ∧ Hid (Below u1.heap.size u1 wr)) (fun t _ => nl - (intOf t).toNat)
                case atStart => exact ⟨0, Nat.zero_le _, rfl, HS8, HB8⟩
                case round =>
                  clear HS8 HB8
                  obtain ⟨k, hk, rfl, hSk, hbk⟩ := hrel
                  have q7 := (hbk.out.cell (p := ⟨w.heap.size, 7, none⟩) hu1).trans x7
                  have slk : w.heap.size < wr.heap.size := Nat.lt_of_lt_of_le hu1 hbk.out.size
                  by_cases hlk : k < nl
                  · have kk3 : (k : Int) < (nl : Int) := by omega
                    obtain ⟨bL, offL, rfl, hbL, hcL⟩ := HLk1.out (by omega)
                    have elf := (hbk.out.cell (p := ⟨bL, offL + k * 4, none⟩) hbL).trans (hcL k hlk).1
                    have sbk : bL < wr.heap.size := Nat.lt_of_lt_of_le hbL hbk.out.size
                    have hlb := (HPB.out.link k (by rw [HN.out.2]; exact hlk)).1
                    clear hcL
                    by_cases hEq : p.lf k = nd
                    · have kE : (p.lf k != (nd : Int)) = false := by simpa using hEq
                      have HSf : Hid (p.S.lf k = nd) := by show (p.lf k).toNat = nd; rw [hEq]; omega
                      clear hEq
                      rename World => wz
                      go_wp2_with fail
                      clear q7 slk elf sbk
                      go_loopw [23] (fun t wr => ∃ j : Nat, j ≤ nn ∧ t = .int .i64 j ∧ Hid (AptSt Clu wr u1.heap.size Ca Cb p (begFa p fa) 0 (fun _ x y => Alike1 p.S nd x y) (fun _ => False) (5 * i + 5)) ∧ Hid (Below u1.heap.size u1 wr)) (fun t _ => nn - (intOf t).toNat)
                      case atStart => exact ⟨0, Nat.zero_le _, rfl, hSk, hbk⟩
                      case round =>
                        clear hSk hbk
                        obtain ⟨j, hj, rfl, hSj, hbj⟩ := hrel
                        have q0 := (hbj.out.cell (p := ⟨w.heap.size, 0, none⟩) hu1).trans x0
                        have slj : w.heap.size < wr.heap.size := Nat.lt_of_lt_of_le hu1 hbj.out.size
                        by_cases hlj : j < nn
                        · have kk4 : (j : Int) < (nn : Int) := by omega
                          rename World => wz2
                          go_wp2_with fail
                          clear q0 slj
                          go_loopw [24] (fun t wr => ∃ m : Nat, m ≤ 20 ∧ t = .int .i64 m ∧ Hid (AptSt Clu wr u1.heap.size Ca Cb p (begFa p fa) 0 (fun _ x y => Alike1 p.S nd x y) (fun _ => False) (5 * i + 5)) ∧ Hid (Below u1.heap.size u1 wr)) (fun t _ => 20 - (intOf t).toNat)
                          case atStart => exact ⟨0, Nat.zero_le _, rfl, hSj, hbj⟩
                          case round =>
                            clear hSj hbj
                            obtain ⟨m, hm, rfl, hSm, hbm⟩ := hrel
                            by_cases hlm : m < 20
                            · have kk5 : (m : Int) < 20 := by omega
                              have hra := hSm.out.recvA HOp.out hbm.out.size k j (by rw [HN.out.2]; exact hlk) (by rw [HN.out.1]; exact hlj)
                              go_wp2_with fail
                              refine hra.mono ?_
                              rintro ev wa1 ⟨d1, K1, rfl, hSa, hba⟩
                              have HBa : Hid (Below u1.heap.size u1 wa1) := hbm.out.trans (hba.mono (Nat.le_refl _))
                              have hrb := hSa.recvB HOp.out HBa.out.size k j (by rw [HN.out.2]; exact hlk) (by rw [HN.out.1]; exact hlj)
                              clear hra hSm hbm hba hSa
                              go_wp2_with fail
                              refine hrb.mono ?_
                              rintro ev wb1 ⟨d2, K2, rfl, hSb, hbb⟩
                              have HBb : Hid (Below u1.heap.size u1 wb1) := HBa.out.trans (hbb.mono (Nat.le_refl _))
                              have hEE : d1 = d2 ∧ K1 = K2 := by
                                obtain ⟨rd, x, y, y0, ⟨x0, h1, h2, h3, h4⟩, h5, h6, h7⟩ := hSb.fact
                                have h := alike_recv h1 HSf.out j
                                exact ⟨by rw [h3, h6]; exact h.1, by rw [h4, h7]; exact h.2.1⟩
                              have HSb : Hid (AptSt Clu wb1 u1.heap.size Ca Cb p (begFa p fa) 0 (fun _ x y => Alike1 p.S nd x y) (fun _ => False) (5 * i + 5)) := hSb.weaken (fun rd x y ⟨y0, ⟨x0, h1, h2, h3, h4⟩, h5, h6, h7⟩ => by rw [h2, h5]; exact (alike_recv h1 HSf.out j).2.2) (Nat.le_refl _)
                              obtain ⟨e1, e2⟩ := hEE
                              subst e1
                              subst e2
                              have HTb : Hid (Told wb1) := HT1.out.below HBb.out
                              have hdd : (d1.toList == d1.toList) = true := by simp
                              have hKn : (K1 != K1) = false := by simp
                              clear hrb hSb hbb HBa
                              go_wp2_with fail
                              refine (tell_any K1 _ HTb.out).mono ?_
                              rintro ev wt1 ⟨rfl, hbt⟩
                              have HT2 : Hid (Told wt1) := HTb.out.below hbt
                              have HB2 : Hid (Below u1.heap.size u1 wt1) := HBb.out.trans (hbt.mono HBb.out.size)
                              have HS2 : Hid (AptSt Clu wt1 u1.heap.size Ca Cb p (begFa p fa) 0 (fun _ x y => Alike1 p.S nd x y) (fun _ => False) (5 * i + 5)) := HSb.out.below HOp.out hbt
                              clear hbt HTb HBb HSb
                              go_wp2_with fail
                              refine (tell_any K1 _ HT2.out).mono ?_
                              rintro ev wt2 ⟨rfl, hbt⟩
                              have HB3 : Hid (Below u1.heap.size u1 wt2) := HB2.out.trans (hbt.mono HB2.out.size)
                              have HS3 : Hid (AptSt Clu wt2 u1.heap.size Ca Cb p (begFa p fa) 0 (fun _ x y => Alike1 p.S nd x y) (fun _ => False) (5 * i + 5)) := HS2.out.below HOp.out hbt
                              clear hbt HT2 HB2 HS2
                              by_cases hK : K1 = 0
                              · subst hK
                                rw [errV_0]
                                go_wp2_with fail
                                exact ⟨⟨m + 1, by omega, by go_num, HS3, HB3⟩, by simp [intOf]; omega⟩
                              · rw [show errV K1 = .iface 39 (.int .i64 K1) from if_neg hK]
                                clear hK
                                go_wp2_with fail
                                exact ⟨⟨j + 1, by omega, by go_num, HS3, HB3⟩, by simp [intOf]; omega⟩
                            · have kk5 : decide ((m : Int) < 20) = false := decide_eq_false (by omega)
                              clear hlm
                              go_wp2_with fail
                              exact ⟨⟨j + 1, by omega, by go_num, hSm, hbm⟩, by simp [intOf]; omega⟩
                        · have kk4 : decide (j < nn) = false := decide_eq_false hlj
                          clear hlj
                          go_wp2_with fail
                          exact ⟨⟨k + 1, by omega, by go_num, hSj, hbj⟩, by simp [intOf]; omega⟩
                    · have kE : (p.lf k != (nd : Int)) = true := by simpa using hEq
                      clear hEq
                      go_wp2_with fail
                      exact ⟨⟨k + 1, by omega, by go_num, hSk, hbk⟩, by simp [intOf]; omega⟩
                  · have kk3 : decide (k < nl) = false := decide_eq_false hlk
                    clear hlk
                    go_wp2_with fail
                    exact ⟨⟨i + 1, by omega, by go_num, hSk, hbk⟩, by simp [intOf]; omega⟩
      · have kk2 : decide (i < n) = false := decide_eq_false hlt
        clear hlt
        go_wp2
        go_ret
        exact ⟨rfl, HB1.out.trans (hbe.out.mono HL1.out)⟩
end Go.Proofs.YtdmokcnoljlogaaGreatDoor
