import Derived.Test.YtooadfgibdjdeaaGreatDoorZR15
namespace Go.Proofs.YtooadfgibdjdeaaGreatDoor
open Go.RowKit
set_option maxRecDepth 100000
set_option maxHeartbeats 16000000
section
theorem cplays_any {Clu:World→List Nat→Nat→PlanN→Int→List Int→ClS→Int→Nat→Prop} (ops:CluOps Clu) (ops2:CluOps2 Clu) (p:PlanN) (a:PlanAt) (fa:Int) (ca:Option Addr) (cap:Nat) (cs:List Int) (la:Option Addr) (n lcap:Nat) (S:Nat→StepN) (w:World) (hTo:Told w) (hFi:Fine0 w) (hp:p.In a w) (hc:IntRow w ca cs) (hcl:cs.length≤9223372036854775807) (f0:-9223372036854775808≤fa) (f1:fa≤9223372036854775807) (hS:StepsIn w la n S) (hn:n≤9223372036854775807) (hL:(∀ j,j<n→((S j).r.nL≤1000000000000000∧(S j).r.nR≤1000000000000000)∧(S j).r.drifts.length≤1000000000000000∧(S j).r.modes.length≤1000000000000000)) :
  Calls Tryz.prog 3 #[p.val a,.int .i64 fa,.slice ca cs.length cap,.slice la n lcap] w fun e w'=>e=.returned (.bool true)∧Below w.heap.size w w':=by
 unfold PlanN.val
 obtain ⟨V,hV⟩:∃ V,w.alloc (.cells #[.int .i64 p.nodes,.int .i64 p.faulty,.int .i64 p.skew,.int .i64 p.jitter,.int .i64 p.drift,.int .i64 p.round,.slice a.sa p.ns a.sc,.slice a.la p.nl a.lc,.int .i64 p.frame,.slice a.wa p.nw a.wc] 26)=V:=⟨_,rfl⟩
 obtain ⟨⟨⟨b0,b1,b2,b3,b4⟩,b5,b6,b7,b8,b9⟩,hBV,hVs⟩:=cpbox10 w _ _ _ _ _ _ _ _ _ _ _ V hV
 have hsm:=small_any p.nodes p.faulty p.skew p.jitter p.drift p.round p.frame a.sa a.la a.wa p.ns a.sc p.nl a.lc p.nw a.wc V
 have HIN:Hid (p.In a w∧IntRow w ca cs∧Told w∧Fine0 w):=⟨hp,hc,hTo,hFi⟩
 have HS:Hid (StepsIn w la n S):=hS
 have HL:Hid ((∀ j,j<n→((S j).r.nL≤1000000000000000∧(S j).r.nR≤1000000000000000)∧(S j).r.drifts.length≤1000000000000000∧(S j).r.modes.length≤1000000000000000)):=hL
 have HBV:Hid (Below w.heap.size w V∧V.heap.size=w.heap.size+1):=⟨hBV,hVs⟩
 obtain ⟨nc,hnc⟩:∃ nc,cs.length=nc:=⟨_,rfl⟩
 have HNC:Hid (cs.length=nc):=hnc
 rw [hnc] at hcl ⊢
 generalize smallB p.ns p.nl p.nw=sb at *
 clear hp hc hTo hFi hS hL hBV hnc
 go_enter Tryz.func3,Tryz.ntmps3
 go_wp2_with fail
 refine hsm.mono ?_
 rintro e v1 ⟨rfl,hb1⟩
 have x0:=keep_cell b0 hb1
 have x1:=keep_cell b1 hb1
 have x2:=keep_cell b2 hb1
 have x3:=keep_cell b3 hb1
 have x4:=keep_cell b4 hb1
 have x5:=keep_cell b5 hb1
 have x6:=keep_cell b6 hb1
 have x7:=keep_cell b7 hb1
 have x8:=keep_cell b8 hb1
 have x9:=keep_cell b9 hb1
 have hs1:=hb1.size
 have HB1:Hid (Below w.heap.size w v1∧w.heap.size+1≤v1.heap.size):=⟨HBV.out.1.trans (hb1.mono (by omega)),by omega⟩
 have lP1:w.heap.size<v1.heap.size:=by omega
 clear hsm hb1 hV hVs hs1 b0 b1 b2 b3 b4 b5 b6 b7 b8 b9
 cases sb with
 | false =>
  go_wp2
  go_ret
  exact ⟨rfl,HB1.out.1⟩
 | true =>
  by_cases hc30:30<nc
  ·have k30:(30:Int)<(nc:Int):=by omega
   go_wp2
   go_ret
   exact ⟨rfl,HB1.out.1⟩
  have k30:decide ((30:Int)<(nc:Int))=false:=decide_eq_false (by omega)
  have k30':decide (30<nc)=false:=decide_eq_false hc30
  by_cases hn80:80<n
  ·have k80:(80:Int)<(n:Int):=by omega
   go_wp2
   go_ret
   exact ⟨rfl,HB1.out.1⟩
  have k80:decide ((80:Int)<(n:Int))=false:=decide_eq_false (by omega)
  have k80':decide (80<n)=false:=decide_eq_false hn80
  have hN1:=ops.new p a fa ca cap cs v1 (HIN.out.1.below HB1.out.1) (HIN.out.2.1.below HB1.out.1) (by rw [HNC.out];omega) f0 f1
  unfold PlanN.val at hN1
  rw [HNC.out] at hN1
  go_wp2_with fail
  refine hN1.mono ?_
  rintro e v2 ⟨hb2,K,I,hNI,hres⟩
  have hs2:=hb2.size
  have HB2:Hid (Below w.heap.size w v2∧Below v1.heap.size v1 v2):=⟨HB1.out.1.trans (hb2.mono (by omega)),hb2⟩
  have HNI:Hid (NewIs p fa cs K I):=hNI
  have y0:=keep_cell x0 hb2
  have y1:=keep_cell x1 hb2
  have y2:=keep_cell x2 hb2
  have y3:=keep_cell x3 hb2
  have y4:=keep_cell x4 hb2
  have y5:=keep_cell x5 hb2
  have y6:=keep_cell x6 hb2
  have y7:=keep_cell x7 hb2
  have y8:=keep_cell x8 hb2
  have y9:=keep_cell x9 hb2
  have lP2:w.heap.size<v2.heap.size:=by omega
  have hN2:=rnew_any p a fa ca cap cs v2 (HIN.out.1.below HB2.out.1) (HIN.out.2.1.below HB2.out.1) (by rw [HNC.out];omega) (HIN.out.2.2.2.below HB2.out.1)
  unfold PlanN.val at hN2
  rw [HNC.out] at hN2
  clear hN1 hNI x0 x1 x2 x3 x4 x5 x6 x7 x8 x9
  rcases hres with ⟨hK,E,rfl,hE⟩ | ⟨rfl,O1,C,rfl,hC,hO1⟩
  ·have HE:Hid (ErrIs v2 E K I):=hE
   have kK:(K != 0)=true:=by simpa using hK
   go_wp2_with fail
   refine hN2.mono ?_
   rintro e v3 ⟨hb3,K',I',hNI',hres'⟩
   obtain ⟨rfl,rfl⟩:=hNI'.one HNI.out
   rcases hres' with ⟨_,rfl⟩ | ⟨h0,_⟩
   rotate_left
   ·exact absurd h0 hK
   have HB3:Hid (Below v2.heap.size v2 v3):=hb3
   obtain ⟨v4,hv4⟩:∃ v4,v3.alloc (.cells #[.int .i64 K',.int .i64 I'] 38)=v4:=⟨_,rfl⟩
   have hb4:Below v3.heap.size v3 v4:=by rw [← hv4];exact (Below.refl _ _).alloc (Nat.le_refl _) _
   have g0:v4.cell? ⟨v3.heap.size,0,none⟩=some (.int .i64 K'):=by rw [← hv4];simp
   have g1:v4.cell? ⟨v3.heap.size,1,none⟩=some (.int .i64 I'):=by rw [← hv4];simp
   have HB4:Hid (Below v2.heap.size v2 v4):=cbtr hb3 hb4
   have HBw4:Hid (Below w.heap.size w v4):=cbtr HB2.out.1 HB4.out
   have his:=is_any E K' I' v4 (fun v hv hb=>place_err HE.out v hv (cbtr HB4.out hb)) (HIN.out.2.2.1.below HBw4.out)
   clear hN2 hb3 hb4 hE
   go_wp2_with fail
   refine his.mono ?_
   rintro e v5 ⟨rfl,hb5⟩
   have HB5:Hid (Below w.heap.size w v5):=cbtr HBw4.out hb5
   clear his hb5
   go_wp2
   go_ret
   exact ⟨rfl,HB5.out⟩
  ·have HC:Hid (Clu v2 O1 C p fa cs ClS.start 0 0∧∀ c,c∈O1→v1.heap.size≤c):=⟨hC,hO1⟩
   clear hC hO1
   go_wp2_with fail
   refine hN2.mono ?_
   rintro e v3 ⟨hb3,K',I',hNI',hres'⟩
   obtain ⟨rfl,rfl⟩:=hNI'.one HNI.out
   rcases hres' with ⟨h0,_⟩ | ⟨_,O2,Z,D,m,rfl,hR,hO2,hZ⟩
   ·exact absurd rfl h0
   obtain ⟨v4,hv4⟩:∃ v4,v3.alloc (.cells #[.int .i64 0,.int .i64 (-1)] 38)=v4:=⟨_,rfl⟩
   have hb4:Below v3.heap.size v3 v4:=by rw [← hv4];exact (Below.refl _ _).alloc (Nat.le_refl _) _
   have g0:v4.cell? ⟨v3.heap.size,0,none⟩=some (.int .i64 0):=by rw [← hv4];simp
   have g1:v4.cell? ⟨v3.heap.size,1,none⟩=some (.int .i64 (-1)):=by rw [← hv4];simp
   have hB4:Below v2.heap.size v2 v4:=cbtr hb3 hb4
   have hs3:=hB4.size
   have HLS:Hid (LS Clu v1.heap.size w v4 C D p fa 0):=⟨0,cs,ClS.start,0,Nat.le_refl _,O1,O2,Z,m,
    ⟨ops.keep HC.out.1 (Same.of_below hB4 (ops.lt HC.out.1)),hR.below hb4,fun c h1 h2=>by have:=ops.lt HC.out.1 c h1;have:=hO2 c h2;omega,HC.out.2,fun c h=>by have:=hO2 c h;omega,fun c h=>by have:=hZ w HIN.out.1 c h;omega,by omega,by omega,cbtr HB2.out.1 hB4,fun c h=>absurd h List.not_mem_nil,Nat.le_refl _,fun _ _=>rfl⟩⟩
   have HOK:Hid (CluOk p fa cs):=(ops.ok HC.out.1).1
   clear hN2 hb3 hb4 hR hO2 hZ hB4
   go_wp2_with fail
   refine cp_main ops ops2 _ (by rfl) _ n lcap la S (by omega) HS.out HL.out HIN.out.2.2.1 HIN.out.2.2.2 HLS.out rfl rfl rfl rfl rfl rfl ?_ ?_
   ·intro L2 u hls hN9 hQ9 t8 t13
    obtain ⟨g,rfl⟩:=hQ9.over (hN9.trans rfl)
    clear hQ9 hN9
    simp (decide:=true) only [ov,if_true,if_false,Nat.reduceAdd] at t8 t13 ⊢
    replace t8:=Option.some.inj t8
    replace t13:=Option.some.inj t13
    rw [t8,t13]
    clear t8 t13
    obtain ⟨T9,cs9,s9,rd9,_,P1,P2,Z9,m9,hst⟩:=hls
    have hok:=(ops.ok hst.clu).1
    have hPB:=hok.plan.bounds
    have h1:=hPB.n1
    have d12:=hst.rcl.base.c12
    have lD:=hst.rcl.base.lc
    have hm:=ops2.members_bad (p.n:Int) hst.clu (by unfold PlanN.n;omega)
    have HBU:Hid (Below w.heap.size w u):=hst.bel
    have HBA:Hid (BareSays (errV 2) 2):=bare_errV 2
    unfold BareSays at HBA
    generalize errV 2=EV at *
    clear hst hok hPB h1
    go_wp2_with fail
    refine hm.mono ?_
    rintro e u1 ⟨rfl,hb9⟩
    have HB9:Hid (Below w.heap.size w u1):=cbtr HBU.out hb9
    clear hm hb9
    go_wp2_with fail
    refine (HBA.out _ (HIN.out.2.2.1.below HB9.out)).mono ?_
    rintro e u2 ⟨rfl,hb10⟩
    have HB10:Hid (Below w.heap.size w u2):=cbtr HB9.out hb10
    clear hb10
    go_wp2
    go_ret
    exact ⟨rfl,HB10.out⟩
   ·intro L2 u hbu hN9 hQ9 t8
    obtain ⟨g,rfl⟩:=hQ9.over (hN9.trans rfl)
    clear hQ9 hN9
    simp (decide:=true) only [ov,if_true,if_false,Nat.reduceAdd] at t8 ⊢
    replace t8:=Option.some.inj t8
    rw [t8]
    clear t8
    go_wp2
    go_ret
    exact ⟨rfl,hbu⟩
end
end Go.Proofs.YtooadfgibdjdeaaGreatDoor
