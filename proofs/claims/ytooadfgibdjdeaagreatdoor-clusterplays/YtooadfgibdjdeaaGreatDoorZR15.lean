import Derived.Test.YtooadfgibdjdeaaGreatDoorZCPRoundP
import Derived.SizedLaws
namespace Go.Proofs.YtooadfgibdjdeaaGreatDoor
open Go.RowKit
set_option maxRecDepth 100000
set_option maxHeartbeats 16000000
section
theorem cp_roundG {Clu:World→List Nat→Nat→PlanN→Int→List Int→ClS→Int→Nat→Prop} (_ops:CluOps Clu) (code:Code) (hcode:(Tryz.f3.body.map loopsIn).bind (fun l=>l[0]?)=some code) (Q:Exit→Act→World→Prop) {base:Nat} {w wr:World} {C D:Nat} {p:PlanN} {fa:Int} {cs:List Int} {s:ClS} {rd:Int} {T:Nat} (i n lcap:Nat) (la:Option Addr) (S:Nat→StepN) (hi:i<n) (hn:n≤80) (_hT:T≤i) (hS:StepsIn w la n S) (hL:(∀ j,j<n→((S j).r.nL≤1000000000000000∧(S j).r.nR≤1000000000000000)∧(S j).r.drifts.length≤1000000000000000∧(S j).r.modes.length≤1000000000000000)) (h:StX Clu base w wr [] wr C D p fa cs s rd T cs s rd T) (hw:200<((S i).r.nL:Int)+(S i).r.nR+(S i).r.drifts.length+(S i).r.modes.length∨100<(S i).data.size) {L:List Value} (hL0:L.length=329) (s3:L[3]? = some (.slice la n lcap)) (s8:L[8]? = some (.bool false)) (s9:L[9]? = some (.pointer (some ⟨C,0,none⟩))) (s11:L[11]? = some (.pointer (some ⟨D,0,none⟩))) (s13:L[13]? = some (.int .i64 i))
  (hret:∀ (L':List Value) (u:World),Below w.heap.size w u→L'.length=329→Rest wMain L L'→L'[8]? = some (.bool true)→Q .ret ⟨L'.toArray,[]⟩ u) :
  Code.wp Tryz.prog code Q ⟨L.toArray,[]⟩ wr:=by
 have hb2':((Tryz.f3.body.map loopsIn).bind (fun l=>l[0]?)).getD Code.skip=code:=by rw [hcode];rfl
 obtain rfl:=hb2'
 clear hcode
 conv=>arg 2;whnf
 have HRT:Hid _:=hret
 clear hret
 obtain ⟨fL,rfl⟩:=lit L 329 hL0
 replace s3:=lit_at s3
 replace s8:=lit_at s8
 replace s9:=lit_at s9
 replace s11:=lit_at s11
 replace s13:=lit_at s13
 simp only [List.range,List.range.loop,List.map_cons,List.map_nil,s3,s8,s9,s11,s13]
 have HST:Hid (StX Clu base w wr [] wr C D p fa cs s rd T cs s rd T):=h
 have ii:(i:Int)<(n:Int):=by omega
 have hnn80:(n:Int)≤80:=by omega
 obtain ⟨⟨lnL,lnR⟩,lnD,lnM⟩:=hL i hi
 obtain ⟨b,off,rfl,hbl,hc⟩:=(hS.below h.bel) (by omega)
 obtain ⟨⟨⟨g0,g1,g2,g3⟩,g4,g5,g6,g7⟩,_⟩:=hc i hi
 have HRI:Hid ((S i).r.In (S i).a w):=hS.at hi
 obtain ⟨st,hst⟩:∃ st,S i=st:=⟨_,rfl⟩
 rw [hst] at lnL lnR lnD lnM g0 g1 g2 g3 g4 g5 g6 g7 HRI hw
 obtain ⟨v,hv⟩:∃ v,(wr.alloc (.cells #[.int .i64 st.what,.int .i64 st.node,.int .i64 st.link,.string st.data,.slice st.a.la st.r.nL st.a.lc,.slice st.a.ra st.r.nR st.a.rc,.slice st.a.da st.r.drifts.length st.a.dc,.slice st.a.ma st.r.modes.length st.a.mc] 47)).alloc (.cells #[.slice st.a.la st.r.nL st.a.lc,.slice st.a.ra st.r.nR st.a.rc,.slice st.a.da st.r.drifts.length st.a.dc,.slice st.a.ma st.r.modes.length st.a.mc] 45)=v:=⟨_,rfl⟩
 obtain ⟨⟨⟨x0,x1,x2,x3⟩,x4,x5,x6,x7⟩,⟨y0,y1,y2,y3⟩,hbv,hvs⟩:=cpbox _ _ _ _ _ _ _ _ _ _ _ v hv
 have HBV:Hid (Below wr.heap.size wr v∧v.heap.size=wr.heap.size+1+1):=⟨hbv,hvs⟩
 have HLN:Hid ((st.r.nL≤1000000000000000∧st.r.nR≤1000000000000000)∧st.r.drifts.length≤1000000000000000∧st.r.modes.length≤1000000000000000):=⟨⟨lnL,lnR⟩,lnD,lnM⟩
 clear h hc hS hL hst hbv
 have HFIN:Hid (Below w.heap.size w v):=HST.out.bel.trans (HBV.out.1.mono HST.out.bel.size)
 by_cases k1:200<(st.r.nL:Int)+st.r.nR+st.r.drifts.length+st.r.modes.length
 ·clear hw
  go_wp2
  exact HRT.out _ _ HFIN.out rfl (Rest.of rfl) rfl
 ·have k2:100<st.data.size:=by rcases hw with q | q;exact absurd q k1;exact q
  have k3:(100:Int)<(st.data.size:Int):=by omega
  have k1':decide (200<(st.r.nL:Int)+st.r.nR+st.r.drifts.length+st.r.modes.length)=false:=decide_eq_false k1
  clear hw
  go_wp2
  exact HRT.out _ _ HFIN.out rfl (Rest.of rfl) rfl
end
section
theorem cp_roundN {Clu:World→List Nat→Nat→PlanN→Int→List Int→ClS→Int→Nat→Prop} (ops:CluOps Clu) (ops2:CluOps2 Clu) (code:Code) (hcode:(Tryz.f3.body.map loopsIn).bind (fun l=>l[0]?)=some code) (Q:Exit→Act→World→Prop) {base:Nat} {w wr:World} {C D:Nat} {p:PlanN} {fa:Int} {cs:List Int} {s:ClS} {rd:Int} {T:Nat} (i n lcap:Nat) (la:Option Addr) (S:Nat→StepN) (hi:i<n) (hn:n≤80) (hT:T≤i) (hS:StepsIn w la n S) (hL:(∀ j,j<n→((S j).r.nL≤1000000000000000∧(S j).r.nR≤1000000000000000)∧(S j).r.drifts.length≤1000000000000000∧(S j).r.modes.length≤1000000000000000)) (h:StX Clu base w wr [] wr C D p fa cs s rd T cs s rd T) (hw1:¬ 200<((S i).r.nL:Int)+(S i).r.nR+(S i).r.drifts.length+(S i).r.modes.length) (hw2:¬ 100<(S i).data.size) (hw3:(S i).what≠0) (hw4:(S i).what≠1) (hw5:(S i).what≠2) {L:List Value} (hL0:L.length=329) (s3:L[3]? = some (.slice la n lcap)) (s8:L[8]? = some (.bool false)) (s9:L[9]? = some (.pointer (some ⟨C,0,none⟩))) (s11:L[11]? = some (.pointer (some ⟨D,0,none⟩))) (s13:L[13]? = some (.int .i64 i))
  (hnext:∀ (L':List Value) (u:World),LS Clu base w u C D p fa (i+1)→L'.length=329→Rest wMain L L'→L'[8]? = some (.bool false)→L'[13]? = some (.int .i64 (i+1:Nat))→Q .normal ⟨L'.toArray,[]⟩ u) :
  Code.wp Tryz.prog code Q ⟨L.toArray,[]⟩ wr:=by
 have hb2':((Tryz.f3.body.map loopsIn).bind (fun l=>l[0]?)).getD Code.skip=code:=by rw [hcode];rfl
 obtain rfl:=hb2'
 clear hcode
 conv=>arg 2;whnf
 have HNX:Hid _:=hnext
 clear hnext
 obtain ⟨fL,rfl⟩:=lit L 329 hL0
 replace s3:=lit_at s3
 replace s8:=lit_at s8
 replace s9:=lit_at s9
 replace s11:=lit_at s11
 replace s13:=lit_at s13
 simp only [List.range,List.range.loop,List.map_cons,List.map_nil,s3,s8,s9,s11,s13]
 have HST:Hid (StX Clu base w wr [] wr C D p fa cs s rd T cs s rd T):=h
 have ii:(i:Int)<(n:Int):=by omega
 have hnn80:(n:Int)≤80:=by omega
 obtain ⟨⟨lnL,lnR⟩,lnD,lnM⟩:=hL i hi
 obtain ⟨b,off,rfl,hbl,hc⟩:=(hS.below h.bel) (by omega)
 obtain ⟨⟨⟨g0,g1,g2,g3⟩,g4,g5,g6,g7⟩,_⟩:=hc i hi
 have HRI:Hid ((S i).r.In (S i).a w):=hS.at hi
 obtain ⟨st,hst⟩:∃ st,S i=st:=⟨_,rfl⟩
 rw [hst] at lnL lnR lnD lnM g0 g1 g2 g3 g4 g5 g6 g7 HRI hw1 hw2 hw3 hw4 hw5
 obtain ⟨v,hv⟩:∃ v,(wr.alloc (.cells #[.int .i64 st.what,.int .i64 st.node,.int .i64 st.link,.string st.data,.slice st.a.la st.r.nL st.a.lc,.slice st.a.ra st.r.nR st.a.rc,.slice st.a.da st.r.drifts.length st.a.dc,.slice st.a.ma st.r.modes.length st.a.mc] 47)).alloc (.cells #[.slice st.a.la st.r.nL st.a.lc,.slice st.a.ra st.r.nR st.a.rc,.slice st.a.da st.r.drifts.length st.a.dc,.slice st.a.ma st.r.modes.length st.a.mc] 45)=v:=⟨_,rfl⟩
 obtain ⟨⟨⟨x0,x1,x2,x3⟩,x4,x5,x6,x7⟩,⟨y0,y1,y2,y3⟩,hbv,hvs⟩:=cpbox _ _ _ _ _ _ _ _ _ _ _ v hv
 have HBV:Hid (Below wr.heap.size wr v∧v.heap.size=wr.heap.size+1+1):=⟨hbv,hvs⟩
 have HLN:Hid ((st.r.nL≤1000000000000000∧st.r.nR≤1000000000000000)∧st.r.drifts.length≤1000000000000000∧st.r.modes.length≤1000000000000000):=⟨⟨lnL,lnR⟩,lnD,lnM⟩
 clear h hc hS hL hst hbv
 have k1':decide (200<(st.r.nL:Int)+st.r.nR+st.r.drifts.length+st.r.modes.length)=false:=decide_eq_false (by omega)
 have k2':decide ((100:Int)<(st.data.size:Int))=false:=decide_eq_false (by omega)
 have k3':decide (100<st.data.size)=false:=decide_eq_false (by omega)
 have e0:(st.what == 0)=false:=by simpa using hw3
 have e1:(st.what == 1)=false:=by simpa using hw4
 have e2:(st.what == 2)=false:=by simpa using hw5
 have HS3:Hid (StX Clu base w v [] v C D p fa cs s rd T cs s rd T):=HST.out.over ops HBV.out.1 (fun _ hc=>absurd hc List.not_mem_nil)
 have HT9:Hid (T≤i+1):=Nat.le_succ_of_le hT
 clear hw1 hw2 hw3 hw4 hw5
 obtain ⟨O1,O2,Z,m,hst9⟩:=HS3.out
 obtain ⟨hok9,hr0,hr1⟩:=ops.ok hst9.clu
 have hPB:=hok9.plan.bounds
 have hn16:p.n≤16:=by have:=hPB.n2;unfold PlanN.n;omega
 have hcl9:cs.length≤16:=by rw [hok9.len];exact hn16
 have y16:=hst9.rcl.base.c16
 have y11:=hst9.rcl.base.c11
 have lD:=hst9.rcl.base.lc
 have HK1:Hid (∀ u,Below v.heap.size v u→Clu u O1 C p fa cs s rd T∧RCl u O2 Z D p fa cs s rd (2600*T+1) m):=fun u hu=>⟨(hst9.below ops hu).clu,(hst9.below ops hu).rcl⟩
 have HRO:Hid (∀ u,Below v.heap.size v u→Calls Tryz.prog 15 #[.pointer (some ⟨C,0,none⟩)] u fun e w'=>e=.returned (.int .i64 rd)∧Below u.heap.size u w'):=fun u hu=>ops.rounds (HK1.out u hu).1
 have HSP1:Hid (∀ u,Below v.heap.size v u→Calls Tryz.prog 16 #[.pointer (some ⟨C,0,none⟩)] u fun e w'=>e=.returned (.int .i64 (spreadL (rightOf fa cs)))∧Below u.heap.size u w'):=fun u hu=>ops.spread (HK1.out u hu).1
 have HRW:Hid (∀ u,Below v.heap.size v u→IntRow u m.ca cs):=fun u hu h0=>by
  have hr:=(HK1.out u hu).2.base
  obtain ⟨b,off,e,hb,hc⟩:=hr.ck h0
  exact ⟨b,off,e,hr.lx b hb,hc⟩
 have HSP2:Hid (∀ u,Below v.heap.size v u→Calls Tryz.prog 17 #[.pointer (some ⟨D,0,none⟩)] u fun e w'=>e=.returned (.int .i64 (spreadL (rightOf fa cs)))∧Below u.heap.size u w'):=fun u hu=>refCSpread_any D fa m.ca m.ccap cs u (HK1.out u hu).2.base.c10 (HK1.out u hu).2.base.c11 (HRW.out u hu) hcl9 hok9.inn
 have HCK:Hid (∀ u,Below v.heap.size v u→Calls Tryz.prog 19 #[.pointer (some ⟨C,0,none⟩)] u fun e w'=>∃ a cap,e=.returned (.slice a cs.length cap)∧IntRow w' a cs∧Below u.heap.size u w'):=fun u hu=>ops2.clocks (HK1.out u hu).1
 have HSI:Hid (∀ u a ca,Below v.heap.size v u→IntRow u a cs→Calls Tryz.prog 18 #[.slice a cs.length ca,.slice m.ca cs.length m.ccap] u fun e w'=>e=.returned (.bool true)∧Below u.heap.size u w'):=fun u a ca hu ha=>(sameInts_any a m.ca ca m.ccap cs u ha (HRW.out u hu) (by omega)).mono fun e w' ⟨h1,q,h2⟩=>⟨h1,by rw [h2];exact ⟨rfl,rfl,rfl,Nat.le_refl _,fun _ _=>rfl⟩⟩
 generalize spreadL (rightOf fa cs)=SP at *
 have HLS:Hid (∀ u,Below v.heap.size v u→LS Clu base w u C D p fa (i+1)):=fun u hu=>(HS3.out.below ops hu).ls ops HT9.out
 clear hst9 hok9 hPB hr0 hr1
 go_wp2_with fail
 refine wp_region_noPanic ?_
 go_region_held3 (fun u=>u.cell? ⟨D,16,none⟩=some (.int .i64 rd)∧u.cell? ⟨D,11,none⟩=some (.slice m.ca cs.length m.ccap)) (go_keep) (first
  | (go_at_call 15;refine (HRO.out _ (by repeat (first | exact Below.refl _ _ | refine Below.drew ?_))).mono ?_;rintro ev k1 ⟨rfl,hk1⟩;have HE1:Hid (Below v.heap.size v k1):=cbtr (by repeat (first | exact Below.refl _ _ | refine Below.drew ?_)) hk1;have e16:=keep_cell y16 HE1.out;have e11:=keep_cell y11 HE1.out;clear hk1)
  | (go_at_call 16;refine (HSP1.out _ HE1.out).mono ?_;rintro ev k2 ⟨rfl,hk2⟩;have HE2:Hid (Below v.heap.size v k2):=cbtr HE1.out hk2;have f16:=keep_cell y16 HE2.out;have f11:=keep_cell y11 HE2.out;clear hk2)
  | (go_at_call 17;refine (HSP2.out _ HE2.out).mono ?_;rintro ev k3 ⟨rfl,hk3⟩;have HE3:Hid (Below v.heap.size v k3):=cbtr HE2.out hk3;have h16:=keep_cell y16 HE3.out;have h11:=keep_cell y11 HE3.out;clear hk3)
  | (go_at_call 19;refine (HCK.out _ HE3.out).mono ?_;rintro ev k4 ⟨ka,kcp,rfl,hkr,hk4⟩;have HE4:Hid (Below v.heap.size v k4∧IntRow k4 ka cs):=⟨cbtr HE3.out hk4,hkr⟩;have i16:=keep_cell y16 HE4.out.1;have i11:=keep_cell y11 HE4.out.1;clear hk4 hkr)
  | (go_at_call 18;refine (HSI.out _ _ _ HE4.out.1 HE4.out.2).mono ?_;rintro ev k5 ⟨rfl,hk5⟩;have HE5:Hid (Below v.heap.size v k5):=cbtr HE4.out.1 hk5;have j16:=keep_cell y16 HE5.out;have j11:=keep_cell y11 HE5.out;clear hk5))
 all_goals (
  refine NoPanic.normal ?_
  obtain ⟨hC5,hR5⟩:=HK1.out _ HE5.out
  clear HRO HSP1 HSP2 HCK HSI HRW
  go_wp2_with fail
  refine cp_memb ops ops2 _ (by rfl) _ hC5 hR5 hn16 rfl rfl rfl rfl rfl ?_
  intro L2 k6 hk6 hN9 hQ9 t8 t25
  obtain ⟨g,rfl⟩:=hQ9.over (hN9.trans rfl)
  clear hQ9 hN9
  simp (decide:=true) only [ov,if_true,if_false,Nat.reduceAdd] at t8 t25 ⊢
  replace t8:=Option.some.inj t8
  replace t25:=Option.some.inj t25
  rw [t8,t25]
  clear t8 t25
  have HE6:=HLS.out _ (cbtr HE5.out hk6)
  clear hC5 hR5 hk6
  go_wp2
  exact HNX.out _ _ HE6 rfl (Rest.of rfl) rfl rfl)
end
section
theorem cp_roundB1 {Clu:World→List Nat→Nat→PlanN→Int→List Int→ClS→Int→Nat→Prop} (ops:CluOps Clu) (ops2:CluOps2 Clu) (code:Code) (hcode:(Tryz.f3.body.map loopsIn).bind (fun l=>l[0]?)=some code) (Q:Exit→Act→World→Prop) {base:Nat} {w wr:World} {C D:Nat} {p:PlanN} {fa:Int} {cs:List Int} {s:ClS} {rd:Int} {T:Nat} (i n lcap:Nat) (la:Option Addr) (S:Nat→StepN) (hi:i<n) (hn:n≤80) (hT:T≤i) (hS:StepsIn w la n S) (hL:(∀ j,j<n→((S j).r.nL≤1000000000000000∧(S j).r.nR≤1000000000000000)∧(S j).r.drifts.length≤1000000000000000∧(S j).r.modes.length≤1000000000000000)) (hTo:Told w) (h:StX Clu base w wr [] wr C D p fa cs s rd T cs s rd T) (hw1:¬ 200<((S i).r.nL:Int)+(S i).r.nR+(S i).r.drifts.length+(S i).r.modes.length) (hw2:¬ 100<(S i).data.size) (hw3:(S i).what=1) (hw4:(S i).link<0) {L:List Value} (hL0:L.length=329) (s3:L[3]? = some (.slice la n lcap)) (s8:L[8]? = some (.bool false)) (s9:L[9]? = some (.pointer (some ⟨C,0,none⟩))) (s11:L[11]? = some (.pointer (some ⟨D,0,none⟩))) (s13:L[13]? = some (.int .i64 i))
  (hnext:∀ (L':List Value) (u:World),LS Clu base w u C D p fa (i+1)→L'.length=329→Rest wMain L L'→L'[8]? = some (.bool false)→L'[13]? = some (.int .i64 (i+1:Nat))→Q .normal ⟨L'.toArray,[]⟩ u) :
  Code.wp Tryz.prog code Q ⟨L.toArray,[]⟩ wr:=by
 have hb2':((Tryz.f3.body.map loopsIn).bind (fun l=>l[0]?)).getD Code.skip=code:=by rw [hcode];rfl
 obtain rfl:=hb2'
 clear hcode
 conv=>arg 2;whnf
 have HNX:Hid _:=hnext
 clear hnext
 obtain ⟨fL,rfl⟩:=lit L 329 hL0
 replace s3:=lit_at s3
 replace s8:=lit_at s8
 replace s9:=lit_at s9
 replace s11:=lit_at s11
 replace s13:=lit_at s13
 simp only [List.range,List.range.loop,List.map_cons,List.map_nil,s3,s8,s9,s11,s13]
 have HST:Hid (StX Clu base w wr [] wr C D p fa cs s rd T cs s rd T):=h
 have ii:(i:Int)<(n:Int):=by omega
 have hnn80:(n:Int)≤80:=by omega
 obtain ⟨⟨lnL,lnR⟩,lnD,lnM⟩:=hL i hi
 obtain ⟨b,off,rfl,hbl,hc⟩:=(hS.below h.bel) (by omega)
 obtain ⟨⟨⟨g0,g1,g2,g3⟩,g4,g5,g6,g7⟩,_⟩:=hc i hi
 have HRI:Hid ((S i).r.In (S i).a w):=hS.at hi
 obtain ⟨st,hst⟩:∃ st,S i=st:=⟨_,rfl⟩
 rw [hst] at lnL lnR lnD lnM g0 g1 g2 g3 g4 g5 g6 g7 HRI hw1 hw2 hw3 hw4
 obtain ⟨v,hv⟩:∃ v,(wr.alloc (.cells #[.int .i64 st.what,.int .i64 st.node,.int .i64 st.link,.string st.data,.slice st.a.la st.r.nL st.a.lc,.slice st.a.ra st.r.nR st.a.rc,.slice st.a.da st.r.drifts.length st.a.dc,.slice st.a.ma st.r.modes.length st.a.mc] 47)).alloc (.cells #[.slice st.a.la st.r.nL st.a.lc,.slice st.a.ra st.r.nR st.a.rc,.slice st.a.da st.r.drifts.length st.a.dc,.slice st.a.ma st.r.modes.length st.a.mc] 45)=v:=⟨_,rfl⟩
 obtain ⟨⟨⟨x0,x1,x2,x3⟩,x4,x5,x6,x7⟩,⟨y0,y1,y2,y3⟩,hbv,hvs⟩:=cpbox _ _ _ _ _ _ _ _ _ _ _ v hv
 have HBV:Hid (Below wr.heap.size wr v∧v.heap.size=wr.heap.size+1+1):=⟨hbv,hvs⟩
 have HLN:Hid ((st.r.nL≤1000000000000000∧st.r.nR≤1000000000000000)∧st.r.drifts.length≤1000000000000000∧st.r.modes.length≤1000000000000000):=⟨⟨lnL,lnR⟩,lnD,lnM⟩
 clear h hc hS hL hst hbv
 have k1':decide (200<(st.r.nL:Int)+st.r.nR+st.r.drifts.length+st.r.modes.length)=false:=decide_eq_false (by omega)
 have k2':decide ((100:Int)<(st.data.size:Int))=false:=decide_eq_false (by omega)
 have k3':decide (100<st.data.size)=false:=decide_eq_false (by omega)
 have HSTV:Hid (StX Clu base w v [wr.heap.size] v C D p fa cs s rd T cs s rd T):=HST.out.over ops HBV.out.1 (fun c hc=>by have:=List.mem_singleton.1 hc;omega)
 have hq0:wr.heap.size∈[wr.heap.size]:=List.mem_singleton.2 rfl
 have HTO:Hid (Told w):=hTo
 have lX:wr.heap.size<v.heap.size:=by omega
 obtain ⟨O1,O2,Z,m,hst0⟩:=HSTV.out
 obtain ⟨hok0,hrd0,hrd1⟩:=ops.ok hst0.clu
 have hPB0:=hok0.plan.bounds
 have e0:(st.what == 0)=false:=by simp [hw3]
 have e1:(st.what == 1)=true:=by simp [hw3]
 have f0:decide (0≤st.link)=false:=decide_eq_false (by omega)
 have hbad:¬ (0≤st.link∧st.link<p.nl):=by omega
 have d13:=hst0.rcl.base.c13
 have lD0:=hst0.rcl.base.lc
 have HPB:Hid (∀ u,Below v.heap.size v u→Calls Tryz.prog 12 #[.pointer (some ⟨C,0,none⟩),.int .i64 st.link,.string st.data] u fun e w'=>e=.returned (errV 2)∧Below u.heap.size u w'):=fun u hu=>ops.put_bad st.link st.data (hst0.below ops hu).clu hbad
 have HBA:Hid (BareSays (errV 2) 2):=bare_errV 2
 unfold BareSays at HBA
 have HT9:Hid (T≤i+1):=Nat.le_succ_of_le hT
 generalize errV 2=EV at *
 clear hw1 hw2 hw3 hw4 hst0 hok0 hPB0 hrd0 hrd1 hTo
 go_wp2_with fail
 go_quiet (fail)
 all_goals (
  go_wp2_with fail
  refine (HPB.out _ (bdN _ _)).mono ?_
  rintro ev u2 ⟨rfl,hb2⟩
  have HB2:Hid (Below v.heap.size v u2):=cbtr (bdN _ _) hb2
  clear hb2
  go_wp2_with fail
  refine (HBA.out _ (HTO.out.below (HSTV.out.below ops HB2.out).bel)).mono ?_
  rintro ev u3 ⟨rfl,hb3⟩
  have HS3:Hid (StX Clu base w v [wr.heap.size] u3 C D p fa cs s rd T cs s rd T):=(HSTV.out.below ops HB2.out).below ops hb3
  clear hb3 HPB HBA d13
  obtain ⟨O1,O2,Z,m,hst9⟩:=HS3.out
  obtain ⟨hok9,hr0,hr1⟩:=ops.ok hst9.clu
  have hPB:=hok9.plan.bounds
  have hn16:p.n≤16:=by have:=hPB.n2;unfold PlanN.n;omega
  have hcl9:cs.length≤16:=by rw [hok9.len];exact hn16
  have y16:=hst9.rcl.base.c16
  have y11:=hst9.rcl.base.c11
  have lD:=hst9.rcl.base.lc
  have HK1:Hid (∀ u,Below u3.heap.size u3 u→Clu u O1 C p fa cs s rd T∧RCl u O2 Z D p fa cs s rd (2600*T+1) m):=fun u hu=>⟨(hst9.below ops hu).clu,(hst9.below ops hu).rcl⟩
  have HRO:Hid (∀ u,Below u3.heap.size u3 u→Calls Tryz.prog 15 #[.pointer (some ⟨C,0,none⟩)] u fun e w'=>e=.returned (.int .i64 rd)∧Below u.heap.size u w'):=fun u hu=>ops.rounds (HK1.out u hu).1
  have HSP1:Hid (∀ u,Below u3.heap.size u3 u→Calls Tryz.prog 16 #[.pointer (some ⟨C,0,none⟩)] u fun e w'=>e=.returned (.int .i64 (spreadL (rightOf fa cs)))∧Below u.heap.size u w'):=fun u hu=>ops.spread (HK1.out u hu).1
  have HRW:Hid (∀ u,Below u3.heap.size u3 u→IntRow u m.ca cs):=fun u hu h0=>by
   have hr:=(HK1.out u hu).2.base
   obtain ⟨b,off,e,hb,hc⟩:=hr.ck h0
   exact ⟨b,off,e,hr.lx b hb,hc⟩
  have HSP2:Hid (∀ u,Below u3.heap.size u3 u→Calls Tryz.prog 17 #[.pointer (some ⟨D,0,none⟩)] u fun e w'=>e=.returned (.int .i64 (spreadL (rightOf fa cs)))∧Below u.heap.size u w'):=fun u hu=>refCSpread_any D fa m.ca m.ccap cs u (HK1.out u hu).2.base.c10 (HK1.out u hu).2.base.c11 (HRW.out u hu) hcl9 hok9.inn
  have HCK:Hid (∀ u,Below u3.heap.size u3 u→Calls Tryz.prog 19 #[.pointer (some ⟨C,0,none⟩)] u fun e w'=>∃ a cap,e=.returned (.slice a cs.length cap)∧IntRow w' a cs∧Below u.heap.size u w'):=fun u hu=>ops2.clocks (HK1.out u hu).1
  have HSI:Hid (∀ u a ca,Below u3.heap.size u3 u→IntRow u a cs→Calls Tryz.prog 18 #[.slice a cs.length ca,.slice m.ca cs.length m.ccap] u fun e w'=>e=.returned (.bool true)∧Below u.heap.size u w'):=fun u a ca hu ha=>(sameInts_any a m.ca ca m.ccap cs u ha (HRW.out u hu) (by omega)).mono fun e w' ⟨h1,q,h2⟩=>⟨h1,by rw [h2];exact ⟨rfl,rfl,rfl,Nat.le_refl _,fun _ _=>rfl⟩⟩
  generalize spreadL (rightOf fa cs)=SP at *
  have HLS:Hid (∀ u,Below u3.heap.size u3 u→LS Clu base w u C D p fa (i+1)):=fun u hu=>(HS3.out.below ops hu).ls ops HT9.out
  clear hst9 hok9 hPB hr0 hr1
  go_wp2_with fail
  refine wp_region_noPanic ?_
  go_region_held3 (fun u=>u.cell? ⟨D,16,none⟩=some (.int .i64 rd)∧u.cell? ⟨D,11,none⟩=some (.slice m.ca cs.length m.ccap)) (go_keep) (first
   | (go_at_call 15;refine (HRO.out _ (by repeat (first | exact Below.refl _ _ | refine Below.drew ?_))).mono ?_;rintro ev k1 ⟨rfl,hk1⟩;have HE1:Hid (Below u3.heap.size u3 k1):=cbtr (by repeat (first | exact Below.refl _ _ | refine Below.drew ?_)) hk1;have e16:=keep_cell y16 HE1.out;have e11:=keep_cell y11 HE1.out;clear hk1)
   | (go_at_call 16;refine (HSP1.out _ HE1.out).mono ?_;rintro ev k2 ⟨rfl,hk2⟩;have HE2:Hid (Below u3.heap.size u3 k2):=cbtr HE1.out hk2;have f16:=keep_cell y16 HE2.out;have f11:=keep_cell y11 HE2.out;clear hk2)
   | (go_at_call 17;refine (HSP2.out _ HE2.out).mono ?_;rintro ev k3 ⟨rfl,hk3⟩;have HE3:Hid (Below u3.heap.size u3 k3):=cbtr HE2.out hk3;have h16:=keep_cell y16 HE3.out;have h11:=keep_cell y11 HE3.out;clear hk3)
   | (go_at_call 19;refine (HCK.out _ HE3.out).mono ?_;rintro ev k4 ⟨ka,kcp,rfl,hkr,hk4⟩;have HE4:Hid (Below u3.heap.size u3 k4∧IntRow k4 ka cs):=⟨cbtr HE3.out hk4,hkr⟩;have i16:=keep_cell y16 HE4.out.1;have i11:=keep_cell y11 HE4.out.1;clear hk4 hkr)
   | (go_at_call 18;refine (HSI.out _ _ _ HE4.out.1 HE4.out.2).mono ?_;rintro ev k5 ⟨rfl,hk5⟩;have HE5:Hid (Below u3.heap.size u3 k5):=cbtr HE4.out.1 hk5;have j16:=keep_cell y16 HE5.out;have j11:=keep_cell y11 HE5.out;clear hk5))
  all_goals (
   refine NoPanic.normal ?_
   obtain ⟨hC5,hR5⟩:=HK1.out _ HE5.out
   clear HRO HSP1 HSP2 HCK HSI HRW
   go_wp2_with fail
   refine cp_memb ops ops2 _ (by rfl) _ hC5 hR5 hn16 rfl rfl rfl rfl rfl ?_
   intro L2 k6 hk6 hN9 hQ9 t8 t25
   obtain ⟨g,rfl⟩:=hQ9.over (hN9.trans rfl)
   clear hQ9 hN9
   simp (decide:=true) only [ov,if_true,if_false,Nat.reduceAdd] at t8 t25 ⊢
   replace t8:=Option.some.inj t8
   replace t25:=Option.some.inj t25
   rw [t8,t25]
   clear t8 t25
   have HE6:=HLS.out _ (cbtr HE5.out hk6)
   clear hC5 hR5 hk6
   go_wp2
   exact HNX.out _ _ HE6 rfl (Rest.of rfl) rfl rfl))
end
section
theorem cp_roundB2 {Clu:World→List Nat→Nat→PlanN→Int→List Int→ClS→Int→Nat→Prop} (ops:CluOps Clu) (ops2:CluOps2 Clu) (code:Code) (hcode:(Tryz.f3.body.map loopsIn).bind (fun l=>l[0]?)=some code) (Q:Exit→Act→World→Prop) {base:Nat} {w wr:World} {C D:Nat} {p:PlanN} {fa:Int} {cs:List Int} {s:ClS} {rd:Int} {T:Nat} (i n lcap:Nat) (la:Option Addr) (S:Nat→StepN) (hi:i<n) (hn:n≤80) (hT:T≤i) (hS:StepsIn w la n S) (hL:(∀ j,j<n→((S j).r.nL≤1000000000000000∧(S j).r.nR≤1000000000000000)∧(S j).r.drifts.length≤1000000000000000∧(S j).r.modes.length≤1000000000000000)) (hTo:Told w) (h:StX Clu base w wr [] wr C D p fa cs s rd T cs s rd T) (hw1:¬ 200<((S i).r.nL:Int)+(S i).r.nR+(S i).r.drifts.length+(S i).r.modes.length) (hw2:¬ 100<(S i).data.size) (hw3:(S i).what=1) (hw4:0≤(S i).link∧(p.nl:Int)≤(S i).link) {L:List Value} (hL0:L.length=329) (s3:L[3]? = some (.slice la n lcap)) (s8:L[8]? = some (.bool false)) (s9:L[9]? = some (.pointer (some ⟨C,0,none⟩))) (s11:L[11]? = some (.pointer (some ⟨D,0,none⟩))) (s13:L[13]? = some (.int .i64 i))
  (hnext:∀ (L':List Value) (u:World),LS Clu base w u C D p fa (i+1)→L'.length=329→Rest wMain L L'→L'[8]? = some (.bool false)→L'[13]? = some (.int .i64 (i+1:Nat))→Q .normal ⟨L'.toArray,[]⟩ u) :
  Code.wp Tryz.prog code Q ⟨L.toArray,[]⟩ wr:=by
 have hb2':((Tryz.f3.body.map loopsIn).bind (fun l=>l[0]?)).getD Code.skip=code:=by rw [hcode];rfl
 obtain rfl:=hb2'
 clear hcode
 conv=>arg 2;whnf
 have HNX:Hid _:=hnext
 clear hnext
 obtain ⟨fL,rfl⟩:=lit L 329 hL0
 replace s3:=lit_at s3
 replace s8:=lit_at s8
 replace s9:=lit_at s9
 replace s11:=lit_at s11
 replace s13:=lit_at s13
 simp only [List.range,List.range.loop,List.map_cons,List.map_nil,s3,s8,s9,s11,s13]
 have HST:Hid (StX Clu base w wr [] wr C D p fa cs s rd T cs s rd T):=h
 have ii:(i:Int)<(n:Int):=by omega
 have hnn80:(n:Int)≤80:=by omega
 obtain ⟨⟨lnL,lnR⟩,lnD,lnM⟩:=hL i hi
 obtain ⟨b,off,rfl,hbl,hc⟩:=(hS.below h.bel) (by omega)
 obtain ⟨⟨⟨g0,g1,g2,g3⟩,g4,g5,g6,g7⟩,_⟩:=hc i hi
 have HRI:Hid ((S i).r.In (S i).a w):=hS.at hi
 obtain ⟨st,hst⟩:∃ st,S i=st:=⟨_,rfl⟩
 rw [hst] at lnL lnR lnD lnM g0 g1 g2 g3 g4 g5 g6 g7 HRI hw1 hw2 hw3 hw4
 obtain ⟨v,hv⟩:∃ v,(wr.alloc (.cells #[.int .i64 st.what,.int .i64 st.node,.int .i64 st.link,.string st.data,.slice st.a.la st.r.nL st.a.lc,.slice st.a.ra st.r.nR st.a.rc,.slice st.a.da st.r.drifts.length st.a.dc,.slice st.a.ma st.r.modes.length st.a.mc] 47)).alloc (.cells #[.slice st.a.la st.r.nL st.a.lc,.slice st.a.ra st.r.nR st.a.rc,.slice st.a.da st.r.drifts.length st.a.dc,.slice st.a.ma st.r.modes.length st.a.mc] 45)=v:=⟨_,rfl⟩
 obtain ⟨⟨⟨x0,x1,x2,x3⟩,x4,x5,x6,x7⟩,⟨y0,y1,y2,y3⟩,hbv,hvs⟩:=cpbox _ _ _ _ _ _ _ _ _ _ _ v hv
 have HBV:Hid (Below wr.heap.size wr v∧v.heap.size=wr.heap.size+1+1):=⟨hbv,hvs⟩
 have HLN:Hid ((st.r.nL≤1000000000000000∧st.r.nR≤1000000000000000)∧st.r.drifts.length≤1000000000000000∧st.r.modes.length≤1000000000000000):=⟨⟨lnL,lnR⟩,lnD,lnM⟩
 clear h hc hS hL hst hbv
 have k1':decide (200<(st.r.nL:Int)+st.r.nR+st.r.drifts.length+st.r.modes.length)=false:=decide_eq_false (by omega)
 have k2':decide ((100:Int)<(st.data.size:Int))=false:=decide_eq_false (by omega)
 have k3':decide (100<st.data.size)=false:=decide_eq_false (by omega)
 have HSTV:Hid (StX Clu base w v [wr.heap.size] v C D p fa cs s rd T cs s rd T):=HST.out.over ops HBV.out.1 (fun c hc=>by have:=List.mem_singleton.1 hc;omega)
 have hq0:wr.heap.size∈[wr.heap.size]:=List.mem_singleton.2 rfl
 have HTO:Hid (Told w):=hTo
 have lX:wr.heap.size<v.heap.size:=by omega
 obtain ⟨O1,O2,Z,m,hst0⟩:=HSTV.out
 obtain ⟨hok0,hrd0,hrd1⟩:=ops.ok hst0.clu
 have hPB0:=hok0.plan.bounds
 have e0:(st.what == 0)=false:=by simp [hw3]
 have e1:(st.what == 1)=true:=by simp [hw3]
 have f0:0≤st.link:=hw4.1
 have f1:decide (st.link<(p.nl:Int))=false:=decide_eq_false (by omega)
 have hbad:¬ (0≤st.link∧st.link<p.nl):=by omega
 have d13:=hst0.rcl.base.c13
 have lD0:=hst0.rcl.base.lc
 have HPB:Hid (∀ u,Below v.heap.size v u→Calls Tryz.prog 12 #[.pointer (some ⟨C,0,none⟩),.int .i64 st.link,.string st.data] u fun e w'=>e=.returned (errV 2)∧Below u.heap.size u w'):=fun u hu=>ops.put_bad st.link st.data (hst0.below ops hu).clu hbad
 have HBA:Hid (BareSays (errV 2) 2):=bare_errV 2
 unfold BareSays at HBA
 have HT9:Hid (T≤i+1):=Nat.le_succ_of_le hT
 generalize errV 2=EV at *
 clear hw1 hw2 hw3 hw4 hst0 hok0 hPB0 hrd0 hrd1 hTo
 go_wp2_with fail
 refine wp_region_noPanic ?_
 go_region_held3 (fun u=>u.cell? ⟨wr.heap.size,2,none⟩=some (.int .i64 st.link)∧u.cell? ⟨D,13,none⟩=some (.slice m.ka p.nl m.kcap)) (go_keep) (first
  | fail)
 all_goals (
  refine NoPanic.normal ?_
  go_wp2_with fail
  refine (HPB.out _ (by repeat (first | exact Below.refl _ _ | refine Below.drew ?_))).mono ?_
  rintro ev u2 ⟨rfl,hb2⟩
  have HB2:Hid (Below v.heap.size v u2):=cbtr (by repeat (first | exact Below.refl _ _ | refine Below.drew ?_)) hb2
  clear hb2
  go_wp2_with fail
  refine (HBA.out _ (HTO.out.below (HSTV.out.below ops HB2.out).bel)).mono ?_
  rintro ev u3 ⟨rfl,hb3⟩
  have HS3:Hid (StX Clu base w v [wr.heap.size] u3 C D p fa cs s rd T cs s rd T):=(HSTV.out.below ops HB2.out).below ops hb3
  clear hb3 HPB HBA d13
  obtain ⟨O1,O2,Z,m,hst9⟩:=HS3.out
  obtain ⟨hok9,hr0,hr1⟩:=ops.ok hst9.clu
  have hPB:=hok9.plan.bounds
  have hn16:p.n≤16:=by have:=hPB.n2;unfold PlanN.n;omega
  have hcl9:cs.length≤16:=by rw [hok9.len];exact hn16
  have y16:=hst9.rcl.base.c16
  have y11:=hst9.rcl.base.c11
  have lD:=hst9.rcl.base.lc
  have HK1:Hid (∀ u,Below u3.heap.size u3 u→Clu u O1 C p fa cs s rd T∧RCl u O2 Z D p fa cs s rd (2600*T+1) m):=fun u hu=>⟨(hst9.below ops hu).clu,(hst9.below ops hu).rcl⟩
  have HRO:Hid (∀ u,Below u3.heap.size u3 u→Calls Tryz.prog 15 #[.pointer (some ⟨C,0,none⟩)] u fun e w'=>e=.returned (.int .i64 rd)∧Below u.heap.size u w'):=fun u hu=>ops.rounds (HK1.out u hu).1
  have HSP1:Hid (∀ u,Below u3.heap.size u3 u→Calls Tryz.prog 16 #[.pointer (some ⟨C,0,none⟩)] u fun e w'=>e=.returned (.int .i64 (spreadL (rightOf fa cs)))∧Below u.heap.size u w'):=fun u hu=>ops.spread (HK1.out u hu).1
  have HRW:Hid (∀ u,Below u3.heap.size u3 u→IntRow u m.ca cs):=fun u hu h0=>by
   have hr:=(HK1.out u hu).2.base
   obtain ⟨b,off,e,hb,hc⟩:=hr.ck h0
   exact ⟨b,off,e,hr.lx b hb,hc⟩
  have HSP2:Hid (∀ u,Below u3.heap.size u3 u→Calls Tryz.prog 17 #[.pointer (some ⟨D,0,none⟩)] u fun e w'=>e=.returned (.int .i64 (spreadL (rightOf fa cs)))∧Below u.heap.size u w'):=fun u hu=>refCSpread_any D fa m.ca m.ccap cs u (HK1.out u hu).2.base.c10 (HK1.out u hu).2.base.c11 (HRW.out u hu) hcl9 hok9.inn
  have HCK:Hid (∀ u,Below u3.heap.size u3 u→Calls Tryz.prog 19 #[.pointer (some ⟨C,0,none⟩)] u fun e w'=>∃ a cap,e=.returned (.slice a cs.length cap)∧IntRow w' a cs∧Below u.heap.size u w'):=fun u hu=>ops2.clocks (HK1.out u hu).1
  have HSI:Hid (∀ u a ca,Below u3.heap.size u3 u→IntRow u a cs→Calls Tryz.prog 18 #[.slice a cs.length ca,.slice m.ca cs.length m.ccap] u fun e w'=>e=.returned (.bool true)∧Below u.heap.size u w'):=fun u a ca hu ha=>(sameInts_any a m.ca ca m.ccap cs u ha (HRW.out u hu) (by omega)).mono fun e w' ⟨h1,q,h2⟩=>⟨h1,by rw [h2];exact ⟨rfl,rfl,rfl,Nat.le_refl _,fun _ _=>rfl⟩⟩
  generalize spreadL (rightOf fa cs)=SP at *
  have HLS:Hid (∀ u,Below u3.heap.size u3 u→LS Clu base w u C D p fa (i+1)):=fun u hu=>(HS3.out.below ops hu).ls ops HT9.out
  clear hst9 hok9 hPB hr0 hr1
  go_wp2_with fail
  refine wp_region_noPanic ?_
  go_region_held3 (fun u=>u.cell? ⟨D,16,none⟩=some (.int .i64 rd)∧u.cell? ⟨D,11,none⟩=some (.slice m.ca cs.length m.ccap)) (go_keep) (first
   | (go_at_call 15;refine (HRO.out _ (by repeat (first | exact Below.refl _ _ | refine Below.drew ?_))).mono ?_;rintro ev k1 ⟨rfl,hk1⟩;have HE1:Hid (Below u3.heap.size u3 k1):=cbtr (by repeat (first | exact Below.refl _ _ | refine Below.drew ?_)) hk1;have e16:=keep_cell y16 HE1.out;have e11:=keep_cell y11 HE1.out;clear hk1)
   | (go_at_call 16;refine (HSP1.out _ HE1.out).mono ?_;rintro ev k2 ⟨rfl,hk2⟩;have HE2:Hid (Below u3.heap.size u3 k2):=cbtr HE1.out hk2;have f16:=keep_cell y16 HE2.out;have f11:=keep_cell y11 HE2.out;clear hk2)
   | (go_at_call 17;refine (HSP2.out _ HE2.out).mono ?_;rintro ev k3 ⟨rfl,hk3⟩;have HE3:Hid (Below u3.heap.size u3 k3):=cbtr HE2.out hk3;have h16:=keep_cell y16 HE3.out;have h11:=keep_cell y11 HE3.out;clear hk3)
   | (go_at_call 19;refine (HCK.out _ HE3.out).mono ?_;rintro ev k4 ⟨ka,kcp,rfl,hkr,hk4⟩;have HE4:Hid (Below u3.heap.size u3 k4∧IntRow k4 ka cs):=⟨cbtr HE3.out hk4,hkr⟩;have i16:=keep_cell y16 HE4.out.1;have i11:=keep_cell y11 HE4.out.1;clear hk4 hkr)
   | (go_at_call 18;refine (HSI.out _ _ _ HE4.out.1 HE4.out.2).mono ?_;rintro ev k5 ⟨rfl,hk5⟩;have HE5:Hid (Below u3.heap.size u3 k5):=cbtr HE4.out.1 hk5;have j16:=keep_cell y16 HE5.out;have j11:=keep_cell y11 HE5.out;clear hk5))
  all_goals (
   refine NoPanic.normal ?_
   obtain ⟨hC5,hR5⟩:=HK1.out _ HE5.out
   clear HRO HSP1 HSP2 HCK HSI HRW
   go_wp2_with fail
   refine cp_memb ops ops2 _ (by rfl) _ hC5 hR5 hn16 rfl rfl rfl rfl rfl ?_
   intro L2 k6 hk6 hN9 hQ9 t8 t25
   obtain ⟨g,rfl⟩:=hQ9.over (hN9.trans rfl)
   clear hQ9 hN9
   simp (decide:=true) only [ov,if_true,if_false,Nat.reduceAdd] at t8 t25 ⊢
   replace t8:=Option.some.inj t8
   replace t25:=Option.some.inj t25
   rw [t8,t25]
   clear t8 t25
   have HE6:=HLS.out _ (cbtr HE5.out hk6)
   clear hC5 hR5 hk6
   go_wp2
   exact HNX.out _ _ HE6 rfl (Rest.of rfl) rfl rfl))
end
section
theorem cp_roundQ {Clu:World→List Nat→Nat→PlanN→Int→List Int→ClS→Int→Nat→Prop} (ops:CluOps Clu) (ops2:CluOps2 Clu) (code:Code) (hcode:(Tryz.f3.body.map loopsIn).bind (fun l=>l[0]?)=some code) (Q:Exit→Act→World→Prop) {base:Nat} {w wr:World} {C D:Nat} {p:PlanN} {fa:Int} {cs:List Int} {s:ClS} {rd:Int} {T:Nat} (i n lcap:Nat) (la:Option Addr) (S:Nat→StepN) (hi:i<n) (hn:n≤80) (hT:T≤i) (hS:StepsIn w la n S) (hL:(∀ j,j<n→((S j).r.nL≤1000000000000000∧(S j).r.nR≤1000000000000000)∧(S j).r.drifts.length≤1000000000000000∧(S j).r.modes.length≤1000000000000000)) (hTo:Told w) (h:StX Clu base w wr [] wr C D p fa cs s rd T cs s rd T) (hw1:¬ 200<((S i).r.nL:Int)+(S i).r.nR+(S i).r.drifts.length+(S i).r.modes.length) (hw2:¬ 100<(S i).data.size) (hw3:(S i).what=1) (hw4:0≤(S i).link∧(S i).link<(p.nl:Int)) {L:List Value} (hL0:L.length=329) (s3:L[3]? = some (.slice la n lcap)) (s8:L[8]? = some (.bool false)) (s9:L[9]? = some (.pointer (some ⟨C,0,none⟩))) (s11:L[11]? = some (.pointer (some ⟨D,0,none⟩))) (s13:L[13]? = some (.int .i64 i))
  (hnext:∀ (L':List Value) (u:World),LS Clu base w u C D p fa (i+1)→L'.length=329→Rest wMain L L'→L'[8]? = some (.bool false)→L'[13]? = some (.int .i64 (i+1:Nat))→Q .normal ⟨L'.toArray,[]⟩ u) :
  Code.wp Tryz.prog code Q ⟨L.toArray,[]⟩ wr:=by
 have hb2':((Tryz.f3.body.map loopsIn).bind (fun l=>l[0]?)).getD Code.skip=code:=by rw [hcode];rfl
 obtain rfl:=hb2'
 clear hcode
 conv=>arg 2;whnf
 have HNX:Hid _:=hnext
 clear hnext
 obtain ⟨fL,rfl⟩:=lit L 329 hL0
 replace s3:=lit_at s3
 replace s8:=lit_at s8
 replace s9:=lit_at s9
 replace s11:=lit_at s11
 replace s13:=lit_at s13
 simp only [List.range,List.range.loop,List.map_cons,List.map_nil,s3,s8,s9,s11,s13]
 have HST:Hid (StX Clu base w wr [] wr C D p fa cs s rd T cs s rd T):=h
 have ii:(i:Int)<(n:Int):=by omega
 have hnn80:(n:Int)≤80:=by omega
 obtain ⟨⟨lnL,lnR⟩,lnD,lnM⟩:=hL i hi
 obtain ⟨b,off,rfl,hbl,hc⟩:=(hS.below h.bel) (by omega)
 obtain ⟨⟨⟨g0,g1,g2,g3⟩,g4,g5,g6,g7⟩,_⟩:=hc i hi
 have HRI:Hid ((S i).r.In (S i).a w):=hS.at hi
 obtain ⟨st,hst⟩:∃ st,S i=st:=⟨_,rfl⟩
 rw [hst] at lnL lnR lnD lnM g0 g1 g2 g3 g4 g5 g6 g7 HRI hw1 hw2 hw3 hw4
 obtain ⟨v,hv⟩:∃ v,(wr.alloc (.cells #[.int .i64 st.what,.int .i64 st.node,.int .i64 st.link,.string st.data,.slice st.a.la st.r.nL st.a.lc,.slice st.a.ra st.r.nR st.a.rc,.slice st.a.da st.r.drifts.length st.a.dc,.slice st.a.ma st.r.modes.length st.a.mc] 47)).alloc (.cells #[.slice st.a.la st.r.nL st.a.lc,.slice st.a.ra st.r.nR st.a.rc,.slice st.a.da st.r.drifts.length st.a.dc,.slice st.a.ma st.r.modes.length st.a.mc] 45)=v:=⟨_,rfl⟩
 obtain ⟨⟨⟨x0,x1,x2,x3⟩,x4,x5,x6,x7⟩,⟨y0,y1,y2,y3⟩,hbv,hvs⟩:=cpbox _ _ _ _ _ _ _ _ _ _ _ v hv
 have HBV:Hid (Below wr.heap.size wr v∧v.heap.size=wr.heap.size+1+1):=⟨hbv,hvs⟩
 have HLN:Hid ((st.r.nL≤1000000000000000∧st.r.nR≤1000000000000000)∧st.r.drifts.length≤1000000000000000∧st.r.modes.length≤1000000000000000):=⟨⟨lnL,lnR⟩,lnD,lnM⟩
 clear h hc hS hL hst hbv
 have k1':decide (200<(st.r.nL:Int)+st.r.nR+st.r.drifts.length+st.r.modes.length)=false:=decide_eq_false (by omega)
 have k2':decide ((100:Int)<(st.data.size:Int))=false:=decide_eq_false (by omega)
 have k3':decide (100<st.data.size)=false:=decide_eq_false (by omega)
 have HSTV:Hid (StX Clu base w v [wr.heap.size] v C D p fa cs s rd T cs s rd T):=HST.out.over ops HBV.out.1 (fun c hc=>by have:=List.mem_singleton.1 hc;omega)
 have hq0:wr.heap.size∈[wr.heap.size]:=List.mem_singleton.2 rfl
 have HTO:Hid (Told w):=hTo
 have lX:wr.heap.size<v.heap.size:=by omega
 obtain ⟨O1,O2,Z,m,hst0⟩:=HSTV.out
 obtain ⟨hok0,hrd0,hrd1⟩:=ops.ok hst0.clu
 have hPB0:=hok0.plan.bounds
 have e0:(st.what == 0)=false:=by simp [hw3]
 have e1:(st.what == 1)=true:=by simp [hw3]
 obtain ⟨k,hk⟩:∃ k:Nat,st.link=k:=⟨st.link.toNat,by omega⟩
 rw [hk] at hw4 x2
 have hkn:k<p.nl:=by omega
 have kk:(k:Int)<(p.nl:Int):=by omega
 obtain ⟨d1,dX⟩:=hst0.rcl.base.ka (by omega)
 have d13:=hst0.rcl.base.c13
 rw [d1] at d13
 have dk:=hst0.rcl.base.kk k hkn
 have lk:=hst0.rcl.base.lx _ dX
 have lD0:=hst0.rcl.base.lc
 have hnl:=hPB0.nl
 obtain ⟨K,hK⟩:∃ K,s.putK p k st.data=K:=⟨_,rfl⟩
 obtain ⟨s9,hs9⟩:∃ s9,s.put p k st.data=s9:=⟨_,rfl⟩
 have HPU2:Hid (∀ u,Below v.heap.size v u→Calls Tryz.prog 11 #[.pointer (some ⟨m.S k,0,none⟩),.string st.data] u fun e u1=>e=.returned (.int .i64 K)∧(StX Clu base w v [wr.heap.size] u1 C D p fa cs s rd T cs s9 rd (T+1))∧u1.cell? ⟨D,13,none⟩=some (.slice (some ⟨m.kb,0,none⟩) p.nl m.kcap)∧u1.cell? ⟨m.kb,k,none⟩=some (.pointer (some ⟨m.S k,0,none⟩))):=fun u hu=>(st_put2 ops (hst0.below ops hu) (by omega) k st.data hkn).mono fun e u1 ⟨h1,O',h2⟩=>by
  rw [hK] at h1;rw [hs9] at h2
  have q13:=h2.rcl.base.c13
  rw [d1] at q13
  exact ⟨h1,⟨_,_,_,_,h2⟩,q13,h2.rcl.base.kk k hkn⟩
 have HPU1:Hid (∀ u,StX Clu base w v [wr.heap.size] u C D p fa cs s rd T cs s9 rd (T+1)→Calls Tryz.prog 12 #[.pointer (some ⟨C,0,none⟩),.int .i64 k,.string st.data] u fun e u1=>e=.returned (errV K)∧StX Clu base w v [wr.heap.size] u1 C D p fa cs s9 rd (T+1) cs s9 rd (T+1)):=fun u hu=>by
  obtain ⟨P1,P2,Z',m',hu⟩:=hu
  refine (st_put1 ops hu (by omega) k st.data hkn).mono fun e u1 ⟨h1,O',h2⟩=>?_
  rw [hK] at h1;rw [hs9] at h2
  exact ⟨h1,_,_,_,_,h2⟩
 have HBA:Hid (BareSays (errV K) K):=bare_errV K
 unfold BareSays at HBA
 have HT9:Hid (T+1≤i+1):=Nat.succ_le_succ hT
 generalize errV K=EV at *
 clear hw1 hw2 hw3 hst0 hok0 hPB0 hrd0 hrd1 hTo hK hs9 hw4 hk
 go_wp2_with fail
 refine wp_region_noPanic ?_
 go_region_held3 (fun u=>u.cell? ⟨wr.heap.size,2,none⟩=some (.int .i64 k)∧u.cell? ⟨D,13,none⟩=some (.slice (some ⟨m.kb,0,none⟩) p.nl m.kcap)) (go_keep) (first
  | fail)
 refine NoPanic.normal ?_
 go_wp2_with fail
 refine wp_region_noPanic ?_
 go_region_held3 (fun u=>u.cell? ⟨wr.heap.size,2,none⟩=some (.int .i64 k)∧u.cell? ⟨wr.heap.size,3,none⟩=some (.string st.data)∧u.cell? ⟨D,13,none⟩=some (.slice (some ⟨m.kb,0,none⟩) p.nl m.kcap)∧u.cell? ⟨m.kb,k,none⟩=some (.pointer (some ⟨m.S k,0,none⟩))) (go_keep) (first
  | (go_at_call 11;refine (HPU2.out _ (by repeat (first | exact Below.refl _ _ | refine Below.drew ?_))).mono ?_;rintro ev u1 ⟨rfl,hs5,q13,qkk⟩;have HS1:Hid (StX Clu base w v [wr.heap.size] u1 C D p fa cs s rd T cs s9 rd (T+1)):=hs5;have qa2:=(hs5.cell hq0).trans x2;have qa3:=(hs5.cell hq0).trans x3;clear hs5))
 all_goals (
  refine NoPanic.normal ?_
  go_wp2_with fail
  refine (HPU1.out _ HS1.out).mono ?_
  rintro ev u2 ⟨rfl,hs6⟩
  have HS2:Hid (StX Clu base w v [wr.heap.size] u2 C D p fa cs s9 rd (T+1) cs s9 rd (T+1)):=hs6
  clear hs6
  go_wp2_with fail
  refine (HBA.out _ (HTO.out.below HS2.out.bel)).mono ?_
  rintro ev u3 ⟨rfl,hb3⟩
  have HS3:Hid (StX Clu base w v [wr.heap.size] u3 C D p fa cs s9 rd (T+1) cs s9 rd (T+1)):=HS2.out.below ops hb3
  clear hb3 HPU1 HPU2 HBA HS1 HS2 q13 qkk d13 dk
  obtain ⟨O1,O2,Z,m,hst9⟩:=HS3.out
  obtain ⟨hok9,hr0,hr1⟩:=ops.ok hst9.clu
  have hPB:=hok9.plan.bounds
  have hn16:p.n≤16:=by have:=hPB.n2;unfold PlanN.n;omega
  have hcl9:cs.length≤16:=by rw [hok9.len];exact hn16
  have y16:=hst9.rcl.base.c16
  have y11:=hst9.rcl.base.c11
  have lD:=hst9.rcl.base.lc
  have HK1:Hid (∀ u,Below u3.heap.size u3 u→Clu u O1 C p fa cs s9 rd (T+1)∧RCl u O2 Z D p fa cs s9 rd (2600*(T+1)+1) m):=fun u hu=>⟨(hst9.below ops hu).clu,(hst9.below ops hu).rcl⟩
  have HRO:Hid (∀ u,Below u3.heap.size u3 u→Calls Tryz.prog 15 #[.pointer (some ⟨C,0,none⟩)] u fun e w'=>e=.returned (.int .i64 rd)∧Below u.heap.size u w'):=fun u hu=>ops.rounds (HK1.out u hu).1
  have HSP1:Hid (∀ u,Below u3.heap.size u3 u→Calls Tryz.prog 16 #[.pointer (some ⟨C,0,none⟩)] u fun e w'=>e=.returned (.int .i64 (spreadL (rightOf fa cs)))∧Below u.heap.size u w'):=fun u hu=>ops.spread (HK1.out u hu).1
  have HRW:Hid (∀ u,Below u3.heap.size u3 u→IntRow u m.ca cs):=fun u hu h0=>by
   have hr:=(HK1.out u hu).2.base
   obtain ⟨b,off,e,hb,hc⟩:=hr.ck h0
   exact ⟨b,off,e,hr.lx b hb,hc⟩
  have HSP2:Hid (∀ u,Below u3.heap.size u3 u→Calls Tryz.prog 17 #[.pointer (some ⟨D,0,none⟩)] u fun e w'=>e=.returned (.int .i64 (spreadL (rightOf fa cs)))∧Below u.heap.size u w'):=fun u hu=>refCSpread_any D fa m.ca m.ccap cs u (HK1.out u hu).2.base.c10 (HK1.out u hu).2.base.c11 (HRW.out u hu) hcl9 hok9.inn
  have HCK:Hid (∀ u,Below u3.heap.size u3 u→Calls Tryz.prog 19 #[.pointer (some ⟨C,0,none⟩)] u fun e w'=>∃ a cap,e=.returned (.slice a cs.length cap)∧IntRow w' a cs∧Below u.heap.size u w'):=fun u hu=>ops2.clocks (HK1.out u hu).1
  have HSI:Hid (∀ u a ca,Below u3.heap.size u3 u→IntRow u a cs→Calls Tryz.prog 18 #[.slice a cs.length ca,.slice m.ca cs.length m.ccap] u fun e w'=>e=.returned (.bool true)∧Below u.heap.size u w'):=fun u a ca hu ha=>(sameInts_any a m.ca ca m.ccap cs u ha (HRW.out u hu) (by omega)).mono fun e w' ⟨h1,q,h2⟩=>⟨h1,by rw [h2];exact ⟨rfl,rfl,rfl,Nat.le_refl _,fun _ _=>rfl⟩⟩
  generalize spreadL (rightOf fa cs)=SP at *
  have HLS:Hid (∀ u,Below u3.heap.size u3 u→LS Clu base w u C D p fa (i+1)):=fun u hu=>(HS3.out.below ops hu).ls ops HT9.out
  clear hst9 hok9 hPB hr0 hr1
  go_wp2_with fail
  refine wp_region_noPanic ?_
  go_region_held3 (fun u=>u.cell? ⟨D,16,none⟩=some (.int .i64 rd)∧u.cell? ⟨D,11,none⟩=some (.slice m.ca cs.length m.ccap)) (go_keep) (first
   | (go_at_call 15;refine (HRO.out _ (by repeat (first | exact Below.refl _ _ | refine Below.drew ?_))).mono ?_;rintro ev k1 ⟨rfl,hk1⟩;have HE1:Hid (Below u3.heap.size u3 k1):=cbtr (by repeat (first | exact Below.refl _ _ | refine Below.drew ?_)) hk1;have e16:=keep_cell y16 HE1.out;have e11:=keep_cell y11 HE1.out;clear hk1)
   | (go_at_call 16;refine (HSP1.out _ HE1.out).mono ?_;rintro ev k2 ⟨rfl,hk2⟩;have HE2:Hid (Below u3.heap.size u3 k2):=cbtr HE1.out hk2;have f16:=keep_cell y16 HE2.out;have f11:=keep_cell y11 HE2.out;clear hk2)
   | (go_at_call 17;refine (HSP2.out _ HE2.out).mono ?_;rintro ev k3 ⟨rfl,hk3⟩;have HE3:Hid (Below u3.heap.size u3 k3):=cbtr HE2.out hk3;have h16:=keep_cell y16 HE3.out;have h11:=keep_cell y11 HE3.out;clear hk3)
   | (go_at_call 19;refine (HCK.out _ HE3.out).mono ?_;rintro ev k4 ⟨ka,kcp,rfl,hkr,hk4⟩;have HE4:Hid (Below u3.heap.size u3 k4∧IntRow k4 ka cs):=⟨cbtr HE3.out hk4,hkr⟩;have i16:=keep_cell y16 HE4.out.1;have i11:=keep_cell y11 HE4.out.1;clear hk4 hkr)
   | (go_at_call 18;refine (HSI.out _ _ _ HE4.out.1 HE4.out.2).mono ?_;rintro ev k5 ⟨rfl,hk5⟩;have HE5:Hid (Below u3.heap.size u3 k5):=cbtr HE4.out.1 hk5;have j16:=keep_cell y16 HE5.out;have j11:=keep_cell y11 HE5.out;clear hk5))
  all_goals (
   refine NoPanic.normal ?_
   obtain ⟨hC5,hR5⟩:=HK1.out _ HE5.out
   clear HRO HSP1 HSP2 HCK HSI HRW
   go_wp2_with fail
   refine cp_memb ops ops2 _ (by rfl) _ hC5 hR5 hn16 rfl rfl rfl rfl rfl ?_
   intro L2 k6 hk6 hN9 hQ9 t8 t25
   obtain ⟨g,rfl⟩:=hQ9.over (hN9.trans rfl)
   clear hQ9 hN9
   simp (decide:=true) only [ov,if_true,if_false,Nat.reduceAdd] at t8 t25 ⊢
   replace t8:=Option.some.inj t8
   replace t25:=Option.some.inj t25
   rw [t8,t25]
   clear t8 t25
   have HE6:=HLS.out _ (cbtr HE5.out hk6)
   clear hC5 hR5 hk6
   go_wp2
   exact HNX.out _ _ HE6 rfl (Rest.of rfl) rfl rfl))
end
section
theorem cp_roundR {Clu:World→List Nat→Nat→PlanN→Int→List Int→ClS→Int→Nat→Prop} (ops:CluOps Clu) (ops2:CluOps2 Clu) (code:Code) (hcode:(Tryz.f3.body.map loopsIn).bind (fun l=>l[0]?)=some code) (Q:Exit→Act→World→Prop) {base:Nat} {w wr:World} {C D:Nat} {p:PlanN} {fa:Int} {cs:List Int} {s:ClS} {rd:Int} {T:Nat} (i n lcap:Nat) (la:Option Addr) (S:Nat→StepN) (hi:i<n) (hn:n≤80) (hT:T≤i) (hS:StepsIn w la n S) (hL:(∀ j,j<n→((S j).r.nL≤1000000000000000∧(S j).r.nR≤1000000000000000)∧(S j).r.drifts.length≤1000000000000000∧(S j).r.modes.length≤1000000000000000)) (hTo:Told w) (h:StX Clu base w wr [] wr C D p fa cs s rd T cs s rd T) (hw1:¬ 200<((S i).r.nL:Int)+(S i).r.nR+(S i).r.drifts.length+(S i).r.modes.length) (hw2:¬ 100<(S i).data.size) (hw3:(S i).what=2) (hw4:¬ ((0≤(S i).node∧(S i).node<p.nodes)∧(0≤(S i).link∧(S i).link<p.nl)∧bitI (p.lt (S i).link.toNat) (S i).node.toNat=true)) {L:List Value} (hL0:L.length=329) (s3:L[3]? = some (.slice la n lcap)) (s8:L[8]? = some (.bool false)) (s9:L[9]? = some (.pointer (some ⟨C,0,none⟩))) (s11:L[11]? = some (.pointer (some ⟨D,0,none⟩))) (s13:L[13]? = some (.int .i64 i))
  (hnext:∀ (L':List Value) (u:World),LS Clu base w u C D p fa (i+1)→L'.length=329→Rest wMain L L'→L'[8]? = some (.bool false)→L'[13]? = some (.int .i64 (i+1:Nat))→Q .normal ⟨L'.toArray,[]⟩ u) :
  Code.wp Tryz.prog code Q ⟨L.toArray,[]⟩ wr:=by
 have hb2':((Tryz.f3.body.map loopsIn).bind (fun l=>l[0]?)).getD Code.skip=code:=by rw [hcode];rfl
 obtain rfl:=hb2'
 clear hcode
 conv=>arg 2;whnf
 have HNX:Hid _:=hnext
 clear hnext
 obtain ⟨fL,rfl⟩:=lit L 329 hL0
 replace s3:=lit_at s3
 replace s8:=lit_at s8
 replace s9:=lit_at s9
 replace s11:=lit_at s11
 replace s13:=lit_at s13
 simp only [List.range,List.range.loop,List.map_cons,List.map_nil,s3,s8,s9,s11,s13]
 have HST:Hid (StX Clu base w wr [] wr C D p fa cs s rd T cs s rd T):=h
 have ii:(i:Int)<(n:Int):=by omega
 have hnn80:(n:Int)≤80:=by omega
 obtain ⟨⟨lnL,lnR⟩,lnD,lnM⟩:=hL i hi
 obtain ⟨b,off,rfl,hbl,hc⟩:=(hS.below h.bel) (by omega)
 obtain ⟨⟨⟨g0,g1,g2,g3⟩,g4,g5,g6,g7⟩,_⟩:=hc i hi
 have HRI:Hid ((S i).r.In (S i).a w):=hS.at hi
 obtain ⟨st,hst⟩:∃ st,S i=st:=⟨_,rfl⟩
 rw [hst] at lnL lnR lnD lnM g0 g1 g2 g3 g4 g5 g6 g7 HRI hw1 hw2 hw3 hw4
 obtain ⟨v,hv⟩:∃ v,(wr.alloc (.cells #[.int .i64 st.what,.int .i64 st.node,.int .i64 st.link,.string st.data,.slice st.a.la st.r.nL st.a.lc,.slice st.a.ra st.r.nR st.a.rc,.slice st.a.da st.r.drifts.length st.a.dc,.slice st.a.ma st.r.modes.length st.a.mc] 47)).alloc (.cells #[.slice st.a.la st.r.nL st.a.lc,.slice st.a.ra st.r.nR st.a.rc,.slice st.a.da st.r.drifts.length st.a.dc,.slice st.a.ma st.r.modes.length st.a.mc] 45)=v:=⟨_,rfl⟩
 obtain ⟨⟨⟨x0,x1,x2,x3⟩,x4,x5,x6,x7⟩,⟨y0,y1,y2,y3⟩,hbv,hvs⟩:=cpbox _ _ _ _ _ _ _ _ _ _ _ v hv
 have HBV:Hid (Below wr.heap.size wr v∧v.heap.size=wr.heap.size+1+1):=⟨hbv,hvs⟩
 have HLN:Hid ((st.r.nL≤1000000000000000∧st.r.nR≤1000000000000000)∧st.r.drifts.length≤1000000000000000∧st.r.modes.length≤1000000000000000):=⟨⟨lnL,lnR⟩,lnD,lnM⟩
 clear h hc hS hL hst hbv
 have k1':decide (200<(st.r.nL:Int)+st.r.nR+st.r.drifts.length+st.r.modes.length)=false:=decide_eq_false (by omega)
 have k2':decide ((100:Int)<(st.data.size:Int))=false:=decide_eq_false (by omega)
 have k3':decide (100<st.data.size)=false:=decide_eq_false (by omega)
 have HSTV:Hid (StX Clu base w v [wr.heap.size] v C D p fa cs s rd T cs s rd T):=HST.out.over ops HBV.out.1 (fun c hc=>by have:=List.mem_singleton.1 hc;omega)
 have hq0:wr.heap.size∈[wr.heap.size]:=List.mem_singleton.2 rfl
 have HTO:Hid (Told w):=hTo
 have lX:wr.heap.size<v.heap.size:=by omega
 obtain ⟨O1,O2,Z,m,hst0⟩:=HSTV.out
 obtain ⟨hok0,hrd0,hrd1⟩:=ops.ok hst0.clu
 have hPB0:=hok0.plan.bounds
 have e0:(st.what == 0)=false:=by simp [hw3]
 have e1:(st.what == 1)=false:=by simp [hw3]
 have e2:(st.what == 2)=true:=by simp [hw3]
 have HRE2:Hid (∀ u,StX Clu base w v [wr.heap.size] u C D p fa cs s rd T cs s rd T→Calls Tryz.prog 13 #[.pointer (some ⟨D,0,none⟩),.int .i64 st.node,.int .i64 st.link] u fun e u1=>e=.returned (.tuple #[.string ByteArray.empty,.int .i64 2])∧StX Clu base w v [wr.heap.size] u1 C D p fa cs s rd T cs s rd T):=fun u hu=>by
  have hu0:=hu
  obtain ⟨P1,P2,Z',m',hu⟩:=hu
  exact (rrecv_bad hu.rcl hok0 st.node st.link hw4).mono fun e u1 ⟨h1,h2⟩=>⟨h1,hu0.below ops h2⟩
 have HRE1:Hid (∀ u,StX Clu base w v [wr.heap.size] u C D p fa cs s rd T cs s rd T→Calls Tryz.prog 14 #[.pointer (some ⟨C,0,none⟩),.int .i64 st.node,.int .i64 st.link] u fun e u1=>e=.returned (.tuple #[.string ByteArray.empty,errV 2])∧StX Clu base w v [wr.heap.size] u1 C D p fa cs s rd T cs s rd T):=fun u hu=>by
  have hu0:=hu
  obtain ⟨P1,P2,Z',m',hu⟩:=hu
  exact (ops.recv_bad st.node st.link hu.clu hw4).mono fun e u1 ⟨h1,h2⟩=>⟨h1,hu0.below ops h2⟩
 have HBA:Hid (BareSays (errV 2) 2):=bare_errV 2
 unfold BareSays at HBA
 have HT9:Hid (T≤i+1):=Nat.le_succ_of_le hT
 generalize ByteArray.empty=dd at *
 generalize hEV:errV 2=EV at *
 clear hEV
 clear hw1 hw2 hw3 hst0 hok0 hPB0 hrd0 hrd1 hTo hw4
 go_wp2_with fail
 refine (HRE2.out _ HSTV.out).mono ?_
 rintro ev u1 ⟨rfl,hs5⟩
 have HS1:Hid (StX Clu base w v [wr.heap.size] u1 C D p fa cs s rd T cs s rd T):=hs5
 have qa1:=(hs5.cell hq0).trans x1
 have qa2:=(hs5.cell hq0).trans x2
 clear hs5
 go_wp2_with fail
 refine (HRE1.out _ HS1.out).mono ?_
 rintro ev u2 ⟨rfl,hs6⟩
 have HS2:Hid (StX Clu base w v [wr.heap.size] u2 C D p fa cs s rd T cs s rd T):=hs6
 clear hs6
 go_wp2_with fail
 refine (HBA.out _ (HTO.out.below HS2.out.bel)).mono ?_
 rintro ev u3 ⟨rfl,hb3⟩
 have HS3:Hid (StX Clu base w v [wr.heap.size] u3 C D p fa cs s rd T cs s rd T):=HS2.out.below ops hb3
 clear hb3 HRE1 HRE2 HBA HS1 HS2
 obtain ⟨O1,O2,Z,m,hst9⟩:=HS3.out
 obtain ⟨hok9,hr0,hr1⟩:=ops.ok hst9.clu
 have hPB:=hok9.plan.bounds
 have hn16:p.n≤16:=by have:=hPB.n2;unfold PlanN.n;omega
 have hcl9:cs.length≤16:=by rw [hok9.len];exact hn16
 have y16:=hst9.rcl.base.c16
 have y11:=hst9.rcl.base.c11
 have lD:=hst9.rcl.base.lc
 have HK1:Hid (∀ u,Below u3.heap.size u3 u→Clu u O1 C p fa cs s rd T∧RCl u O2 Z D p fa cs s rd (2600*T+1) m):=fun u hu=>⟨(hst9.below ops hu).clu,(hst9.below ops hu).rcl⟩
 have HRO:Hid (∀ u,Below u3.heap.size u3 u→Calls Tryz.prog 15 #[.pointer (some ⟨C,0,none⟩)] u fun e w'=>e=.returned (.int .i64 rd)∧Below u.heap.size u w'):=fun u hu=>ops.rounds (HK1.out u hu).1
 have HSP1:Hid (∀ u,Below u3.heap.size u3 u→Calls Tryz.prog 16 #[.pointer (some ⟨C,0,none⟩)] u fun e w'=>e=.returned (.int .i64 (spreadL (rightOf fa cs)))∧Below u.heap.size u w'):=fun u hu=>ops.spread (HK1.out u hu).1
 have HRW:Hid (∀ u,Below u3.heap.size u3 u→IntRow u m.ca cs):=fun u hu h0=>by
  have hr:=(HK1.out u hu).2.base
  obtain ⟨b,off,e,hb,hc⟩:=hr.ck h0
  exact ⟨b,off,e,hr.lx b hb,hc⟩
 have HSP2:Hid (∀ u,Below u3.heap.size u3 u→Calls Tryz.prog 17 #[.pointer (some ⟨D,0,none⟩)] u fun e w'=>e=.returned (.int .i64 (spreadL (rightOf fa cs)))∧Below u.heap.size u w'):=fun u hu=>refCSpread_any D fa m.ca m.ccap cs u (HK1.out u hu).2.base.c10 (HK1.out u hu).2.base.c11 (HRW.out u hu) hcl9 hok9.inn
 have HCK:Hid (∀ u,Below u3.heap.size u3 u→Calls Tryz.prog 19 #[.pointer (some ⟨C,0,none⟩)] u fun e w'=>∃ a cap,e=.returned (.slice a cs.length cap)∧IntRow w' a cs∧Below u.heap.size u w'):=fun u hu=>ops2.clocks (HK1.out u hu).1
 have HSI:Hid (∀ u a ca,Below u3.heap.size u3 u→IntRow u a cs→Calls Tryz.prog 18 #[.slice a cs.length ca,.slice m.ca cs.length m.ccap] u fun e w'=>e=.returned (.bool true)∧Below u.heap.size u w'):=fun u a ca hu ha=>(sameInts_any a m.ca ca m.ccap cs u ha (HRW.out u hu) (by omega)).mono fun e w' ⟨h1,q,h2⟩=>⟨h1,by rw [h2];exact ⟨rfl,rfl,rfl,Nat.le_refl _,fun _ _=>rfl⟩⟩
 generalize spreadL (rightOf fa cs)=SP at *
 have HLS:Hid (∀ u,Below u3.heap.size u3 u→LS Clu base w u C D p fa (i+1)):=fun u hu=>(HS3.out.below ops hu).ls ops HT9.out
 clear hst9 hok9 hPB hr0 hr1
 go_wp2_with fail
 refine wp_region_noPanic ?_
 go_region_held3 (fun u=>u.cell? ⟨D,16,none⟩=some (.int .i64 rd)∧u.cell? ⟨D,11,none⟩=some (.slice m.ca cs.length m.ccap)) (go_keep) (first
  | (go_at_call 15;refine (HRO.out _ (by repeat (first | exact Below.refl _ _ | refine Below.drew ?_))).mono ?_;rintro ev k1 ⟨rfl,hk1⟩;have HE1:Hid (Below u3.heap.size u3 k1):=cbtr (by repeat (first | exact Below.refl _ _ | refine Below.drew ?_)) hk1;have e16:=keep_cell y16 HE1.out;have e11:=keep_cell y11 HE1.out;clear hk1)
  | (go_at_call 16;refine (HSP1.out _ HE1.out).mono ?_;rintro ev k2 ⟨rfl,hk2⟩;have HE2:Hid (Below u3.heap.size u3 k2):=cbtr HE1.out hk2;have f16:=keep_cell y16 HE2.out;have f11:=keep_cell y11 HE2.out;clear hk2)
  | (go_at_call 17;refine (HSP2.out _ HE2.out).mono ?_;rintro ev k3 ⟨rfl,hk3⟩;have HE3:Hid (Below u3.heap.size u3 k3):=cbtr HE2.out hk3;have h16:=keep_cell y16 HE3.out;have h11:=keep_cell y11 HE3.out;clear hk3)
  | (go_at_call 19;refine (HCK.out _ HE3.out).mono ?_;rintro ev k4 ⟨ka,kcp,rfl,hkr,hk4⟩;have HE4:Hid (Below u3.heap.size u3 k4∧IntRow k4 ka cs):=⟨cbtr HE3.out hk4,hkr⟩;have i16:=keep_cell y16 HE4.out.1;have i11:=keep_cell y11 HE4.out.1;clear hk4 hkr)
  | (go_at_call 18;refine (HSI.out _ _ _ HE4.out.1 HE4.out.2).mono ?_;rintro ev k5 ⟨rfl,hk5⟩;have HE5:Hid (Below u3.heap.size u3 k5):=cbtr HE4.out.1 hk5;have j16:=keep_cell y16 HE5.out;have j11:=keep_cell y11 HE5.out;clear hk5))
 all_goals (
  refine NoPanic.normal ?_
  obtain ⟨hC5,hR5⟩:=HK1.out _ HE5.out
  clear HRO HSP1 HSP2 HCK HSI HRW
  go_wp2_with fail
  refine cp_memb ops ops2 _ (by rfl) _ hC5 hR5 hn16 rfl rfl rfl rfl rfl ?_
  intro L2 k6 hk6 hN9 hQ9 t8 t25
  obtain ⟨g,rfl⟩:=hQ9.over (hN9.trans rfl)
  clear hQ9 hN9
  simp (decide:=true) only [ov,if_true,if_false,Nat.reduceAdd] at t8 t25 ⊢
  replace t8:=Option.some.inj t8
  replace t25:=Option.some.inj t25
  rw [t8,t25]
  clear t8 t25
  have HE6:=HLS.out _ (cbtr HE5.out hk6)
  clear hC5 hR5 hk6
  go_wp2
  exact HNX.out _ _ HE6 rfl (Rest.of rfl) rfl rfl)
end
section
theorem cp_roundS {Clu:World→List Nat→Nat→PlanN→Int→List Int→ClS→Int→Nat→Prop} (ops:CluOps Clu) (ops2:CluOps2 Clu) (code:Code) (hcode:(Tryz.f3.body.map loopsIn).bind (fun l=>l[0]?)=some code) (Q:Exit→Act→World→Prop) {base:Nat} {w wr:World} {C D:Nat} {p:PlanN} {fa:Int} {cs:List Int} {s:ClS} {rd:Int} {T:Nat} (i n lcap:Nat) (la:Option Addr) (S:Nat→StepN) (hi:i<n) (hn:n≤80) (hT:T≤i) (hS:StepsIn w la n S) (hL:(∀ j,j<n→((S j).r.nL≤1000000000000000∧(S j).r.nR≤1000000000000000)∧(S j).r.drifts.length≤1000000000000000∧(S j).r.modes.length≤1000000000000000)) (hTo:Told w) (h:StX Clu base w wr [] wr C D p fa cs s rd T cs s rd T) (hw1:¬ 200<((S i).r.nL:Int)+(S i).r.nR+(S i).r.drifts.length+(S i).r.modes.length) (hw2:¬ 100<(S i).data.size) (hw3:(S i).what=2) (hw4:(0≤(S i).node∧(S i).node<p.nodes)∧(0≤(S i).link∧(S i).link<p.nl)∧bitI (p.lt (S i).link.toNat) (S i).node.toNat=true) {L:List Value} (hL0:L.length=329) (s3:L[3]? = some (.slice la n lcap)) (s8:L[8]? = some (.bool false)) (s9:L[9]? = some (.pointer (some ⟨C,0,none⟩))) (s11:L[11]? = some (.pointer (some ⟨D,0,none⟩))) (s13:L[13]? = some (.int .i64 i))
  (hnext:∀ (L':List Value) (u:World),LS Clu base w u C D p fa (i+1)→L'.length=329→Rest wMain L L'→L'[8]? = some (.bool false)→L'[13]? = some (.int .i64 (i+1:Nat))→Q .normal ⟨L'.toArray,[]⟩ u) :
  Code.wp Tryz.prog code Q ⟨L.toArray,[]⟩ wr:=by
 have hb2':((Tryz.f3.body.map loopsIn).bind (fun l=>l[0]?)).getD Code.skip=code:=by rw [hcode];rfl
 obtain rfl:=hb2'
 clear hcode
 conv=>arg 2;whnf
 have HNX:Hid _:=hnext
 clear hnext
 obtain ⟨fL,rfl⟩:=lit L 329 hL0
 replace s3:=lit_at s3
 replace s8:=lit_at s8
 replace s9:=lit_at s9
 replace s11:=lit_at s11
 replace s13:=lit_at s13
 simp only [List.range,List.range.loop,List.map_cons,List.map_nil,s3,s8,s9,s11,s13]
 have HST:Hid (StX Clu base w wr [] wr C D p fa cs s rd T cs s rd T):=h
 have ii:(i:Int)<(n:Int):=by omega
 have hnn80:(n:Int)≤80:=by omega
 obtain ⟨⟨lnL,lnR⟩,lnD,lnM⟩:=hL i hi
 obtain ⟨b,off,rfl,hbl,hc⟩:=(hS.below h.bel) (by omega)
 obtain ⟨⟨⟨g0,g1,g2,g3⟩,g4,g5,g6,g7⟩,_⟩:=hc i hi
 have HRI:Hid ((S i).r.In (S i).a w):=hS.at hi
 obtain ⟨st,hst⟩:∃ st,S i=st:=⟨_,rfl⟩
 rw [hst] at lnL lnR lnD lnM g0 g1 g2 g3 g4 g5 g6 g7 HRI hw1 hw2 hw3 hw4
 obtain ⟨v,hv⟩:∃ v,(wr.alloc (.cells #[.int .i64 st.what,.int .i64 st.node,.int .i64 st.link,.string st.data,.slice st.a.la st.r.nL st.a.lc,.slice st.a.ra st.r.nR st.a.rc,.slice st.a.da st.r.drifts.length st.a.dc,.slice st.a.ma st.r.modes.length st.a.mc] 47)).alloc (.cells #[.slice st.a.la st.r.nL st.a.lc,.slice st.a.ra st.r.nR st.a.rc,.slice st.a.da st.r.drifts.length st.a.dc,.slice st.a.ma st.r.modes.length st.a.mc] 45)=v:=⟨_,rfl⟩
 obtain ⟨⟨⟨x0,x1,x2,x3⟩,x4,x5,x6,x7⟩,⟨y0,y1,y2,y3⟩,hbv,hvs⟩:=cpbox _ _ _ _ _ _ _ _ _ _ _ v hv
 have HBV:Hid (Below wr.heap.size wr v∧v.heap.size=wr.heap.size+1+1):=⟨hbv,hvs⟩
 have HLN:Hid ((st.r.nL≤1000000000000000∧st.r.nR≤1000000000000000)∧st.r.drifts.length≤1000000000000000∧st.r.modes.length≤1000000000000000):=⟨⟨lnL,lnR⟩,lnD,lnM⟩
 clear h hc hS hL hst hbv
 have k1':decide (200<(st.r.nL:Int)+st.r.nR+st.r.drifts.length+st.r.modes.length)=false:=decide_eq_false (by omega)
 have k2':decide ((100:Int)<(st.data.size:Int))=false:=decide_eq_false (by omega)
 have k3':decide (100<st.data.size)=false:=decide_eq_false (by omega)
 have HSTV:Hid (StX Clu base w v [wr.heap.size] v C D p fa cs s rd T cs s rd T):=HST.out.over ops HBV.out.1 (fun c hc=>by have:=List.mem_singleton.1 hc;omega)
 have hq0:wr.heap.size∈[wr.heap.size]:=List.mem_singleton.2 rfl
 have HTO:Hid (Told w):=hTo
 have lX:wr.heap.size<v.heap.size:=by omega
 obtain ⟨O1,O2,Z,m,hst0⟩:=HSTV.out
 obtain ⟨hok0,hrd0,hrd1⟩:=ops.ok hst0.clu
 have hPB0:=hok0.plan.bounds
 have e0:(st.what == 0)=false:=by simp [hw3]
 have e1:(st.what == 1)=false:=by simp [hw3]
 have e2:(st.what == 2)=true:=by simp [hw3]
 obtain ⟨k,hk⟩:∃ k:Nat,st.link=k:=⟨st.link.toNat,by omega⟩
 obtain ⟨j,hj⟩:∃ j:Nat,st.node=j:=⟨st.node.toNat,by omega⟩
 rw [hk,hj] at hw4
 rw [hk] at x2
 rw [hj] at x1
 obtain ⟨h41,h42,hbit⟩:=hw4
 have hkn:k<p.nl:=by omega
 have hn1:=hPB0.n1
 have hjn:j<p.n:=by unfold PlanN.n;omega
 obtain ⟨K,hK⟩:∃ K,recvK (s.ports k j)=K:=⟨_,rfl⟩
 obtain ⟨dd,hdd⟩:∃ dd,recvD (s.ports k j)=dd:=⟨_,rfl⟩
 obtain ⟨s9,hs9⟩:∃ s9,s.recv k j=s9:=⟨_,rfl⟩
 have HRE2:Hid (∀ u,StX Clu base w v [wr.heap.size] u C D p fa cs s rd T cs s rd T→Calls Tryz.prog 13 #[.pointer (some ⟨D,0,none⟩),.int .i64 j,.int .i64 k] u fun e u1=>e=.returned (.tuple #[.string dd,.int .i64 K])∧StX Clu base w v [wr.heap.size] u1 C D p fa cs s rd T cs s9 rd T):=fun u hu=>by
  obtain ⟨P1,P2,Z',m',hu⟩:=hu
  refine (st_recv2 ops hu hok0 j k hjn hkn hbit).mono fun e u1 ⟨h1,O',h2⟩=>?_
  rw [hK,hdd] at h1;rw [hs9] at h2
  exact ⟨h1,_,_,_,_,h2⟩
 have HRE1:Hid (∀ u,StX Clu base w v [wr.heap.size] u C D p fa cs s rd T cs s9 rd T→Calls Tryz.prog 14 #[.pointer (some ⟨C,0,none⟩),.int .i64 j,.int .i64 k] u fun e u1=>e=.returned (.tuple #[.string dd,errV K])∧StX Clu base w v [wr.heap.size] u1 C D p fa cs s9 rd T cs s9 rd T):=fun u hu=>by
  obtain ⟨P1,P2,Z',m',hu⟩:=hu
  refine (st_recv1 ops hu j k hjn hkn hbit).mono fun e u1 ⟨h1,O',h2⟩=>?_
  rw [hK,hdd] at h1;rw [hs9] at h2
  exact ⟨h1,_,_,_,_,h2⟩
 have HBA:Hid (BareSays (errV K) K):=bare_errV K
 unfold BareSays at HBA
 have HT9:Hid (T≤i+1):=Nat.le_succ_of_le hT
 generalize hEV:errV K=EV at *
 clear hEV
 clear hw1 hw2 hw3 hst0 hok0 hPB0 hrd0 hrd1 hTo hK hdd hs9 hk hj h41 h42 hbit
 go_wp2_with fail
 refine (HRE2.out _ HSTV.out).mono ?_
 rintro ev u1 ⟨rfl,hs5⟩
 have HS1:Hid (StX Clu base w v [wr.heap.size] u1 C D p fa cs s rd T cs s9 rd T):=hs5
 have qa1:=(hs5.cell hq0).trans x1
 have qa2:=(hs5.cell hq0).trans x2
 clear hs5
 go_wp2_with fail
 refine (HRE1.out _ HS1.out).mono ?_
 rintro ev u2 ⟨rfl,hs6⟩
 have HS2:Hid (StX Clu base w v [wr.heap.size] u2 C D p fa cs s9 rd T cs s9 rd T):=hs6
 clear hs6
 go_wp2_with fail
 refine (HBA.out _ (HTO.out.below HS2.out.bel)).mono ?_
 rintro ev u3 ⟨rfl,hb3⟩
 have HS3:Hid (StX Clu base w v [wr.heap.size] u3 C D p fa cs s9 rd T cs s9 rd T):=HS2.out.below ops hb3
 clear hb3 HRE1 HRE2 HBA HS1 HS2
 obtain ⟨O1,O2,Z,m,hst9⟩:=HS3.out
 obtain ⟨hok9,hr0,hr1⟩:=ops.ok hst9.clu
 have hPB:=hok9.plan.bounds
 have hn16:p.n≤16:=by have:=hPB.n2;unfold PlanN.n;omega
 have hcl9:cs.length≤16:=by rw [hok9.len];exact hn16
 have y16:=hst9.rcl.base.c16
 have y11:=hst9.rcl.base.c11
 have lD:=hst9.rcl.base.lc
 have HK1:Hid (∀ u,Below u3.heap.size u3 u→Clu u O1 C p fa cs s9 rd T∧RCl u O2 Z D p fa cs s9 rd (2600*T+1) m):=fun u hu=>⟨(hst9.below ops hu).clu,(hst9.below ops hu).rcl⟩
 have HRO:Hid (∀ u,Below u3.heap.size u3 u→Calls Tryz.prog 15 #[.pointer (some ⟨C,0,none⟩)] u fun e w'=>e=.returned (.int .i64 rd)∧Below u.heap.size u w'):=fun u hu=>ops.rounds (HK1.out u hu).1
 have HSP1:Hid (∀ u,Below u3.heap.size u3 u→Calls Tryz.prog 16 #[.pointer (some ⟨C,0,none⟩)] u fun e w'=>e=.returned (.int .i64 (spreadL (rightOf fa cs)))∧Below u.heap.size u w'):=fun u hu=>ops.spread (HK1.out u hu).1
 have HRW:Hid (∀ u,Below u3.heap.size u3 u→IntRow u m.ca cs):=fun u hu h0=>by
  have hr:=(HK1.out u hu).2.base
  obtain ⟨b,off,e,hb,hc⟩:=hr.ck h0
  exact ⟨b,off,e,hr.lx b hb,hc⟩
 have HSP2:Hid (∀ u,Below u3.heap.size u3 u→Calls Tryz.prog 17 #[.pointer (some ⟨D,0,none⟩)] u fun e w'=>e=.returned (.int .i64 (spreadL (rightOf fa cs)))∧Below u.heap.size u w'):=fun u hu=>refCSpread_any D fa m.ca m.ccap cs u (HK1.out u hu).2.base.c10 (HK1.out u hu).2.base.c11 (HRW.out u hu) hcl9 hok9.inn
 have HCK:Hid (∀ u,Below u3.heap.size u3 u→Calls Tryz.prog 19 #[.pointer (some ⟨C,0,none⟩)] u fun e w'=>∃ a cap,e=.returned (.slice a cs.length cap)∧IntRow w' a cs∧Below u.heap.size u w'):=fun u hu=>ops2.clocks (HK1.out u hu).1
 have HSI:Hid (∀ u a ca,Below u3.heap.size u3 u→IntRow u a cs→Calls Tryz.prog 18 #[.slice a cs.length ca,.slice m.ca cs.length m.ccap] u fun e w'=>e=.returned (.bool true)∧Below u.heap.size u w'):=fun u a ca hu ha=>(sameInts_any a m.ca ca m.ccap cs u ha (HRW.out u hu) (by omega)).mono fun e w' ⟨h1,q,h2⟩=>⟨h1,by rw [h2];exact ⟨rfl,rfl,rfl,Nat.le_refl _,fun _ _=>rfl⟩⟩
 generalize spreadL (rightOf fa cs)=SP at *
 have HLS:Hid (∀ u,Below u3.heap.size u3 u→LS Clu base w u C D p fa (i+1)):=fun u hu=>(HS3.out.below ops hu).ls ops HT9.out
 clear hst9 hok9 hPB hr0 hr1
 go_wp2_with fail
 refine wp_region_noPanic ?_
 go_region_held3 (fun u=>u.cell? ⟨D,16,none⟩=some (.int .i64 rd)∧u.cell? ⟨D,11,none⟩=some (.slice m.ca cs.length m.ccap)) (go_keep) (first
  | (go_at_call 15;refine (HRO.out _ (by repeat (first | exact Below.refl _ _ | refine Below.drew ?_))).mono ?_;rintro ev k1 ⟨rfl,hk1⟩;have HE1:Hid (Below u3.heap.size u3 k1):=cbtr (by repeat (first | exact Below.refl _ _ | refine Below.drew ?_)) hk1;have e16:=keep_cell y16 HE1.out;have e11:=keep_cell y11 HE1.out;clear hk1)
  | (go_at_call 16;refine (HSP1.out _ HE1.out).mono ?_;rintro ev k2 ⟨rfl,hk2⟩;have HE2:Hid (Below u3.heap.size u3 k2):=cbtr HE1.out hk2;have f16:=keep_cell y16 HE2.out;have f11:=keep_cell y11 HE2.out;clear hk2)
  | (go_at_call 17;refine (HSP2.out _ HE2.out).mono ?_;rintro ev k3 ⟨rfl,hk3⟩;have HE3:Hid (Below u3.heap.size u3 k3):=cbtr HE2.out hk3;have h16:=keep_cell y16 HE3.out;have h11:=keep_cell y11 HE3.out;clear hk3)
  | (go_at_call 19;refine (HCK.out _ HE3.out).mono ?_;rintro ev k4 ⟨ka,kcp,rfl,hkr,hk4⟩;have HE4:Hid (Below u3.heap.size u3 k4∧IntRow k4 ka cs):=⟨cbtr HE3.out hk4,hkr⟩;have i16:=keep_cell y16 HE4.out.1;have i11:=keep_cell y11 HE4.out.1;clear hk4 hkr)
  | (go_at_call 18;refine (HSI.out _ _ _ HE4.out.1 HE4.out.2).mono ?_;rintro ev k5 ⟨rfl,hk5⟩;have HE5:Hid (Below u3.heap.size u3 k5):=cbtr HE4.out.1 hk5;have j16:=keep_cell y16 HE5.out;have j11:=keep_cell y11 HE5.out;clear hk5))
 all_goals (
  refine NoPanic.normal ?_
  obtain ⟨hC5,hR5⟩:=HK1.out _ HE5.out
  clear HRO HSP1 HSP2 HCK HSI HRW
  go_wp2_with fail
  refine cp_memb ops ops2 _ (by rfl) _ hC5 hR5 hn16 rfl rfl rfl rfl rfl ?_
  intro L2 k6 hk6 hN9 hQ9 t8 t25
  obtain ⟨g,rfl⟩:=hQ9.over (hN9.trans rfl)
  clear hQ9 hN9
  simp (decide:=true) only [ov,if_true,if_false,Nat.reduceAdd] at t8 t25 ⊢
  replace t8:=Option.some.inj t8
  replace t25:=Option.some.inj t25
  rw [t8,t25]
  clear t8 t25
  have HE6:=HLS.out _ (cbtr HE5.out hk6)
  clear hC5 hR5 hk6
  go_wp2
  exact HNX.out _ _ HE6 rfl (Rest.of rfl) rfl rfl)
end
section
open Go.ChangeShapes Go.WideShapes Go.ChangeAt Go.RowKit Go.Joins Go.Deep
theorem Tryz.cellsStep:Tryz.prog.cellsOf 47=8:=by kernel_rfl
theorem Tryz.cellsStrS:Tryz.prog.cellsOf 9=1:=by kernel_rfl
theorem Tryz.bytesLoss:Tryz.prog.bytesOf 51=24:=by kernel_rfl
theorem Tryz.bytesReading:Tryz.prog.bytesOf 54=24:=by kernel_rfl
theorem Tryz.bytesIntS:Tryz.prog.bytesOf 3=8:=by kernel_rfl
theorem weights_mem_all {H:Type} {P:Program} {e:TypeId} : ∀ {l:List (DataW H)} {d:DataW H},d∈l→∀ q∈d.weights P e,q∈DataW.weightsAll P e l
 | d0::l,d,hd,q,hq=>by
  simp only [DataW.weightsAll,List.mem_append]
  rcases List.mem_cons.1 hd with rfl | hd
  ·exact .inl hq
  ·exact .inr (weights_mem_all hd q hq)
section
variable {H:Type} {enc:TypeId × Value→H} {w:World} {spare:Nat→Bool} {held:Bool}
theorem sized_len {P:Program} {t e:TypeId} {n:Nat} {a:Option Addr} {len cap:Nat} {x:DataW H × List MemPlace} (ht:P.underlying t=some (.slice e)) (h:DataW.trod enc P w 0 spare held n t [.slice a len cap]=some x) (hz:∀ q∈x.1.weights P t,q≤reachBytes):len*P.bytesOf e≤reachBytes:=by
 rcases open_slice ht h with ⟨h0,_⟩ | ⟨a',len',cap',m,n',D,Pl,h0,_,hl,hm,hmm,rfl,hx⟩
 ·simp at h0
  rw [h0.2.1,Nat.zero_mul]
  exact Nat.zero_le _
 ·simp at h0
  obtain ⟨_,rfl,_⟩:=h0
  have:=hz ((((List.range len).map D).length+((List.range (m - len)).map fun j=>D (len+j)).length)*P.bytesOf e) (by simp [DataW.weights,ht])
  simp only [List.length_map,List.length_range] at this
  exact Nat.le_trans (Nat.mul_le_mul_right _ (Nat.le_add_right _ _)) this
theorem round_len {n:Nat} {a0 a1 a2 a3:Option Addr} {l0 l1 l2 l3 c0 c1 c2 c3:Nat} {x:DataW H × List MemPlace} (h:DataW.trod enc Tryz.prog w 0 spare held n 45 [.slice a0 l0 c0,.slice a1 l1 c1,.slice a2 l2 c2,.slice a3 l3 c3]=some x) (hz:∀ q∈x.1.weights Tryz.prog 45,q≤reachBytes) :
  (l0≤1000000000000000∧l1≤1000000000000000)∧l2≤1000000000000000∧l3≤1000000000000000:=by
 obtain ⟨y0,y1,y2,y3,m,hx,hl,q0,q1,q2,q3⟩:=trod_struct4 Tryz.underlying45 h
 have r0:DataW.trod enc Tryz.prog w 0 spare held m 42 [.slice a0 l0 c0]=some y0:=by
  have:=q0;rw [Tryz.cellsLosses] at this;simpa using this
 have r1:DataW.trod enc Tryz.prog w 0 spare held m 43 [.slice a1 l1 c1]=some y1:=by
  have:=q1;rw [Tryz.cellsReadings] at this;simpa using this
 have r2:DataW.trod enc Tryz.prog w 0 spare held m 27 [.slice a2 l2 c2]=some y2:=by
  have:=q2;rw [Tryz.cellsIntsR] at this;simpa using this
 have r3:DataW.trod enc Tryz.prog w 0 spare held m 27 [.slice a3 l3 c3]=some y3:=by
  have:=q3;rw [Tryz.cellsIntsR] at this;simpa using this
 have hm:∀ (j:Nat) (t:TypeId) (d:DataW H),[42,43,27,27][j]? = some t→[y0.1,y1.1,y2.1,y3.1][j]? = some d→∀ q∈d.weights Tryz.prog t,q≤reachBytes:=fun j t d ht hd q hq=>by
  refine hz q ?_
  rw [hx]
  have:=DataW.weights_mem_each (P:=Tryz.prog) ht hd q hq
  simpa [DataW.weights,Tryz.underlying45] using this
 have k0:=sized_len Tryz.underlying42 r0 (hm 0 _ _ rfl rfl)
 have k1:=sized_len Tryz.underlying43 r1 (hm 1 _ _ rfl rfl)
 have k2:=sized_len Tryz.underlying27 r2 (hm 2 _ _ rfl rfl)
 have k3:=sized_len Tryz.underlying27 r3 (hm 3 _ _ rfl rfl)
 rw [Tryz.bytesLoss] at k0
 rw [Tryz.bytesReading] at k1
 rw [Tryz.bytesIntS] at k2 k3
 unfold reachBytes at k0 k1 k2 k3
 exact ⟨⟨by omega,by omega⟩,by omega,by omega⟩
theorem trod_struct5 {P:Program} {t:TypeId} {f0 f1 f2 f3 f4:Field} {fuel:Nat} {cs:List Value} {x:DataW H × List MemPlace} (ht:P.underlying t=some (.struct #[f0,f1,f2,f3,f4])) (h:DataW.trod enc P w 0 spare held fuel t cs=some x) :
  ∃ y0 y1 y2 y3 y4 n,x.1=.agg [y0.1,y1.1,y2.1,y3.1,y4.1]∧cs.length=P.cellsOf t∧DataW.trod enc P w 0 spare held n f0.type ((cs.drop f0.offset).take (P.cellsOf f0.type))=some y0∧DataW.trod enc P w 0 spare held n f1.type ((cs.drop f1.offset).take (P.cellsOf f1.type))=some y1∧DataW.trod enc P w 0 spare held n f2.type ((cs.drop f2.offset).take (P.cellsOf f2.type))=some y2∧DataW.trod enc P w 0 spare held n f3.type ((cs.drop f3.offset).take (P.cellsOf f3.type))=some y3∧DataW.trod enc P w 0 spare held n f4.type ((cs.drop f4.offset).take (P.cellsOf f4.type))=some y4:=by
 obtain ⟨xs,n,_,rfl,hl,hlen,hf⟩:=DataW.trod_struct ht h
 match xs,hlen with
 | [y0,y1,y2,y3,y4],_=>exact ⟨y0,y1,y2,y3,y4,n,by simp,hl,by simpa using hf 0 f0 rfl,by simpa using hf 1 f1 rfl,by simpa using hf 2 f2 rfl,by simpa using hf 3 f3 rfl,by simpa using hf 4 f4 rfl⟩
theorem open_step {n:Nat} {cs:List Value} {x:DataW H × List MemPlace} (h:DataW.trod enc Tryz.prog w 0 spare held n 47 cs=some x) (hz:∀ q∈x.1.weights Tryz.prog 47,q≤reachBytes) :
  ∃ s:StepN,cs = [.int .i64 s.what,.int .i64 s.node,.int .i64 s.link,.string s.data,.slice s.a.la s.r.nL s.a.lc,.slice s.a.ra s.r.nR s.a.rc,.slice s.a.da s.r.drifts.length s.a.dc,.slice s.a.ma s.r.modes.length s.a.mc]∧s.r.In s.a w∧(s.r.nL≤1000000000000000∧s.r.nR≤1000000000000000)∧s.r.drifts.length≤1000000000000000∧s.r.modes.length≤1000000000000000:=by
 obtain ⟨y0,y1,y2,y3,y4,m,hx,hl,q0,q1,q2,q3,q4⟩:=trod_struct5 Tryz.underlying47 h
 rw [Tryz.cellsStep] at hl
 match cs,hl with
 | [v0,v1,v2,v3,v4,v5,v6,v7],_ =>
  have r0:DataW.trod enc Tryz.prog w 0 spare held m 3 [v0]=some y0:=by
   have:=q0;rw [Tryz.cellsIntR] at this;simpa using this
  have r1:DataW.trod enc Tryz.prog w 0 spare held m 3 [v1]=some y1:=by
   have:=q1;rw [Tryz.cellsIntR] at this;simpa using this
  have r2:DataW.trod enc Tryz.prog w 0 spare held m 3 [v2]=some y2:=by
   have:=q2;rw [Tryz.cellsIntR] at this;simpa using this
  have r3:DataW.trod enc Tryz.prog w 0 spare held m 9 [v3]=some y3:=by
   have:=q3;rw [Tryz.cellsStrS] at this;simpa using this
  have r4:DataW.trod enc Tryz.prog w 0 spare held m 45 [v4,v5,v6,v7]=some y4:=by
   have:=q4;rw [Tryz.cellsRound] at this;simpa using this
  obtain ⟨k0,e0,_,_⟩:=DataW.trod_int Tryz.underlying3 r0
  obtain ⟨k1,e1,_,_⟩:=DataW.trod_int Tryz.underlying3 r1
  obtain ⟨k2,e2,_,_⟩:=DataW.trod_int Tryz.underlying3 r2
  obtain ⟨sb,e3,_,_⟩:=DataW.trod_string Tryz.underlying9 r3
  obtain ⟨rr,ra,e4,hI⟩:=open_round r4
  simp at e0 e1 e2 e3 e4
  obtain ⟨rfl,rfl,rfl,rfl⟩:=e4
  subst e0 e1 e2 e3
  have hb:=round_len r4 (fun q hq=>by
   refine hz q ?_
   rw [hx]
   have:=DataW.weights_mem_each (P:=Tryz.prog) (ts:=[3,3,3,9,45]) (ds:=[y0.1,y1.1,y2.1,y3.1,y4.1]) (j:=4) rfl rfl q hq
   simpa [DataW.weights,Tryz.underlying47] using this)
  exact ⟨⟨k0,k1,k2,sb,rr,ra⟩,rfl,hI,hb⟩
theorem open_steps {r:Reach} {b0:Nat} {v:Value} {d:DataW H} {p:List MemPlace} (hv:Value.okWide Tryz.prog w r b0 28 v) (h:DataW.Trod enc Tryz.prog w 0 spare held 28 v d p) (hz:∀ q∈d.weights Tryz.prog 28,q≤reachBytes) :
  ∃ (a:Option Addr) (len cap:Nat) (S:Nat→StepN),v=.slice a len cap∧len≤9223372036854775807∧StepsIn w a len S∧∀ j,j<len→((S j).r.nL≤1000000000000000∧(S j).r.nR≤1000000000000000)∧(S j).r.drifts.length≤1000000000000000∧(S j).r.modes.length≤1000000000000000:=by
 obtain ⟨a1,len1,cap1,rfl⟩:=okWide_slice Tryz.underlying28 hv
 obtain ⟨fuel,hf⟩:=h
 rcases open_slice Tryz.underlying28 hf with ⟨h0,_⟩ | ⟨a,len,cap,m,n',D,Pl,h0,_,hl,hm,hmm,hxx,hx⟩
 ·simp [Value.cells] at h0
  obtain ⟨rfl,rfl,rfl⟩:=h0
  exact ⟨none,0,0,fun _=>⟨0,0,0,ByteArray.empty,RoundN.none,⟨none,0,none,0,none,0,none,0⟩⟩,rfl,Nat.zero_le _,fun hn=>absurd hn (Nat.lt_irrefl _),fun j hj=>absurd hj (Nat.not_lt_zero _)⟩
 ·simp [Value.cells] at h0
  obtain ⟨rfl,rfl,rfl⟩:=h0
  have hle:len1≤m:=by rw [hmm];split <;> omega
  have hd:d=.slice ((List.range len1).map D) ((List.range (m - len1)).map fun j=>D (len1+j)):=congrArg Prod.fst hxx
  have hzD:∀ i,i<len1→∀ q∈(D i).weights Tryz.prog 47,q≤reachBytes:=fun i hi q hq=>by
   refine hz q ?_
   rw [hd]
   have:=weights_mem_all (P:=Tryz.prog) (e:=47) (l:=(List.range len1).map D) (d:=D i) (List.mem_map.2 ⟨i,List.mem_range.2 hi,rfl⟩) q hq
   simp only [DataW.weights,Tryz.underlying28,List.mem_cons,List.mem_append]
   exact .inr (.inl this)
  have key:∀ i,i<len1→∃ s:StepN,(((w.cell? (a.add (i*8))=some (.int .i64 s.what)∧w.cell? ((a.add (i*8)).add 1)=some (.int .i64 s.node)∧w.cell? ((a.add (i*8)).add 2)=some (.int .i64 s.link)∧w.cell? ((a.add (i*8)).add 3)=some (.string s.data))∧w.cell? ((a.add (i*8)).add 4)=some (.slice s.a.la s.r.nL s.a.lc)∧w.cell? ((a.add (i*8)).add 5)=some (.slice s.a.ra s.r.nR s.a.rc)∧w.cell? ((a.add (i*8)).add 6)=some (.slice s.a.da s.r.drifts.length s.a.dc)∧w.cell? ((a.add (i*8)).add 7)=some (.slice s.a.ma s.r.modes.length s.a.mc))∧s.r.In s.a w)∧(s.r.nL≤1000000000000000∧s.r.nR≤1000000000000000)∧s.r.drifts.length≤1000000000000000∧s.r.modes.length≤1000000000000000:=by
   intro i hi
   obtain ⟨cs',h1,h2⟩:=hx i (by omega)
   rw [Tryz.cellsStep] at h1
   obtain ⟨s,rfl,hI,hb⟩:=open_step h2 (hzD i hi)
   obtain ⟨_,_,h3⟩:=World.cells?_some h1
   exact ⟨s,⟨⟨⟨by simpa [Addr.add] using h3 0 (by omega),by simpa using h3 1 (by omega),by simpa using h3 2 (by omega),by simpa using h3 3 (by omega)⟩,by simpa using h3 4 (by omega),by simpa using h3 5 (by omega),by simpa using h3 6 (by omega),by simpa using h3 7 (by omega)⟩,hI⟩,hb⟩
  obtain ⟨F,hF⟩:∃ F:Nat→StepN,∀ i,i<len1→(((w.cell? (a.add (i*8))=some (.int .i64 (F i).what)∧w.cell? ((a.add (i*8)).add 1)=some (.int .i64 (F i).node)∧w.cell? ((a.add (i*8)).add 2)=some (.int .i64 (F i).link)∧w.cell? ((a.add (i*8)).add 3)=some (.string (F i).data))∧w.cell? ((a.add (i*8)).add 4)=some (.slice (F i).a.la (F i).r.nL (F i).a.lc)∧w.cell? ((a.add (i*8)).add 5)=some (.slice (F i).a.ra (F i).r.nR (F i).a.rc)∧w.cell? ((a.add (i*8)).add 6)=some (.slice (F i).a.da (F i).r.drifts.length (F i).a.dc)∧w.cell? ((a.add (i*8)).add 7)=some (.slice (F i).a.ma (F i).r.modes.length (F i).a.mc))∧(F i).r.In (F i).a w)∧((F i).r.nL≤1000000000000000∧(F i).r.nR≤1000000000000000)∧(F i).r.drifts.length≤1000000000000000∧(F i).r.modes.length≤1000000000000000 :=
   ⟨fun i=>if hi:i<len1 then (key i hi).choose else ⟨0,0,0,ByteArray.empty,RoundN.none,⟨none,0,none,0,none,0,none,0⟩⟩,fun i hi=>by simp only [dif_pos hi];exact (key i hi).choose_spec⟩
  refine ⟨some a,len1,cap1,F,rfl,by unfold maxLen at hm;omega,fun hn=>?_,fun j hj=>(hF j hj).2⟩
  obtain ⟨b,off,spot⟩:=a
  have hs:spot=none:=by simpa [Addr.add] using World.cell?_spot (hF 0 hn).1.1.1.1
  subst hs
  refine ⟨b,off,rfl,?_,fun j hj=>?_⟩
  ·have hc0:=(hF 0 hn).1.1.1.1
   rcases Nat.lt_or_ge b w.heap.size with g | g
   ·exact g
   ·simp [World.cell?,Addr.add,Array.getElem?_eq_none g] at hc0
  ·obtain ⟨⟨⟨q0,q1,q2,q3⟩,q4,q5,q6,q7⟩,hI⟩:=(hF j hj).1
   simp only [add_at] at q0 q1 q2 q3 q4 q5 q6 q7
   exact ⟨⟨⟨q0,q1,q2,q3⟩,q4,q5,q6,q7⟩,hI⟩
end
end
section
theorem cp_main {Clu:World→List Nat→Nat→PlanN→Int→List Int→ClS→Int→Nat→Prop} (ops:CluOps Clu) (ops2:CluOps2 Clu) (body:Code) (hbody:(Tryz.f3.body.map loopsIn).bind (fun l=>l[0]?)=some body) (Q:Exit→Act→World→Prop) {base:Nat} {w w0:World} {C D:Nat} {p:PlanN} {fa:Int} (n lcap:Nat) (la:Option Addr) (S:Nat→StepN) (hn:n≤80) (hS:StepsIn w la n S) (hL:(∀ j,j<n→((S j).r.nL≤1000000000000000∧(S j).r.nR≤1000000000000000)∧(S j).r.drifts.length≤1000000000000000∧(S j).r.modes.length≤1000000000000000)) (hTo:Told w) (hFi:Fine0 w) (h:LS Clu base w w0 C D p fa 0) {L:List Value} (hL0:L.length=329) (s3:L[3]? = some (.slice la n lcap)) (s8:L[8]? = some (.bool false)) (s9:L[9]? = some (.pointer (some ⟨C,0,none⟩))) (s11:L[11]? = some (.pointer (some ⟨D,0,none⟩))) (s13:L[13]? = some (.int .i64 0))
  (hexit:∀ (L':List Value) (u:World),LS Clu base w u C D p fa n→L'.length=329→Rest wMain L L'→L'[8]? = some (.bool false)→L'[13]? = some (.int .i64 n)→Q (.exit 0) ⟨L'.toArray,[]⟩ u) (hret:∀ (L':List Value) (u:World),Below w.heap.size w u→L'.length=329→Rest wMain L L'→L'[8]? = some (.bool true)→Q .ret ⟨L'.toArray,[]⟩ u) :
  Code.wp Tryz.prog (Code.loop body) Q ⟨L.toArray,[]⟩ w0:=by
 have HROUND:Hid ((Tryz.f3.body.map loopsIn).bind (fun l=>l[0]?)=some body):=hbody
 have hb2:((Tryz.f3.body.map loopsIn).bind (fun l=>l[0]?)).getD Code.skip=body:=by rw [hbody];rfl
 obtain rfl:=hb2
 clear hbody
 conv=>arg 2;arg 1;whnf
 have HEX:Hid _:=hexit
 have HRT:Hid _:=hret
 obtain ⟨fL,rfl⟩:=lit L 329 hL0
 replace s3:=lit_at s3
 replace s8:=lit_at s8
 replace s9:=lit_at s9
 replace s11:=lit_at s11
 replace s13:=lit_at s13
 simp only [List.range,List.range.loop,List.map_cons,List.map_nil,s3,s8,s9,s11,s13]
 have HS:Hid (StepsIn w la n S):=hS
 have HL:Hid ((∀ j,j<n→((S j).r.nL≤1000000000000000∧(S j).r.nR≤1000000000000000)∧(S j).r.drifts.length≤1000000000000000∧(S j).r.modes.length≤1000000000000000)):=hL
 have HTO:Hid (Told w):=hTo
 have HFI:Hid (Fine0 w):=hFi
 have HH:Hid (LS Clu base w w0 C D p fa 0):=h
 clear hexit hret hS hL hTo hFi h HROUND
 go_loopw [13,8] (fun a b wr=>∃ i:Nat,i≤n∧a=.int .i64 i∧b=.bool false∧Hid (LS Clu base w wr C D p fa i)) (fun a _ _=>n - (intOf a).toNat)
 case atStart=>exact ⟨0,Nat.zero_le _,rfl,rfl,HH.out⟩
 case round =>
  obtain ⟨i,hi,rfl,rfl,hls⟩:=hrel
  by_cases hlt:i<n
  ·obtain ⟨T,cs,s,rd,hTi,hst⟩:=hls.out
   by_cases hw1:200<((S i).r.nL:Int)+(S i).r.nR+(S i).r.drifts.length+(S i).r.modes.length
   ·exact cp_roundG ops _ (by rfl) _ i n lcap la S hlt hn hTi HS.out HL.out hst (.inl hw1) rfl rfl rfl rfl rfl rfl (by intro L2 u hbw hN9 hQ9 t8;exact HRT.out _ _ hbw hN9 (Rest.via hQ9 (Rest.of rfl)) t8)
   by_cases hw2:100<(S i).data.size
   ·exact cp_roundG ops _ (by rfl) _ i n lcap la S hlt hn hTi HS.out HL.out hst (.inr hw2) rfl rfl rfl rfl rfl rfl (by intro L2 u hbw hN9 hQ9 t8;exact HRT.out _ _ hbw hN9 (Rest.via hQ9 (Rest.of rfl)) t8)
   by_cases h0:(S i).what=0
   ·exact cp_roundP ops ops2 _ (by rfl) _ i n lcap la S hlt hn hTi HS.out HL.out HTO.out HFI.out hst hw1 hw2 h0 rfl rfl rfl rfl rfl rfl (by intro L2 u hls hN9 hQ9 t8 t13;obtain ⟨g,rfl⟩:=hQ9.over (hN9.trans rfl);clear hQ9 hN9;simp (decide:=true) only [ov,if_true,if_false,Nat.reduceAdd] at t8 t13 ⊢;replace t8:=Option.some.inj t8;replace t13:=Option.some.inj t13;rw [t8,t13];clear t8 t13;go_wp2;exact ⟨⟨i+1,by omega,by first | rfl | go_num,by first | trivial | rfl,hls⟩,by simp [intOf];omega⟩)
   by_cases h1:(S i).what=1
   ·by_cases hl0:(S i).link<0
    ·exact cp_roundB1 ops ops2 _ (by rfl) _ i n lcap la S hlt hn hTi HS.out HL.out HTO.out hst hw1 hw2 h1 hl0 rfl rfl rfl rfl rfl rfl (by intro L2 u hls hN9 hQ9 t8 t13;obtain ⟨g,rfl⟩:=hQ9.over (hN9.trans rfl);clear hQ9 hN9;simp (decide:=true) only [ov,if_true,if_false,Nat.reduceAdd] at t8 t13 ⊢;replace t8:=Option.some.inj t8;replace t13:=Option.some.inj t13;rw [t8,t13];clear t8 t13;go_wp2;exact ⟨⟨i+1,by omega,by first | rfl | go_num,by first | trivial | rfl,hls⟩,by simp [intOf];omega⟩)
    ·by_cases hl1:(p.nl:Int)≤(S i).link
     ·exact cp_roundB2 ops ops2 _ (by rfl) _ i n lcap la S hlt hn hTi HS.out HL.out HTO.out hst hw1 hw2 h1 ⟨by omega,hl1⟩ rfl rfl rfl rfl rfl rfl (by intro L2 u hls hN9 hQ9 t8 t13;obtain ⟨g,rfl⟩:=hQ9.over (hN9.trans rfl);clear hQ9 hN9;simp (decide:=true) only [ov,if_true,if_false,Nat.reduceAdd] at t8 t13 ⊢;replace t8:=Option.some.inj t8;replace t13:=Option.some.inj t13;rw [t8,t13];clear t8 t13;go_wp2;exact ⟨⟨i+1,by omega,by first | rfl | go_num,by first | trivial | rfl,hls⟩,by simp [intOf];omega⟩)
     ·exact cp_roundQ ops ops2 _ (by rfl) _ i n lcap la S hlt hn hTi HS.out HL.out HTO.out hst hw1 hw2 h1 ⟨by omega,by omega⟩ rfl rfl rfl rfl rfl rfl (by intro L2 u hls hN9 hQ9 t8 t13;obtain ⟨g,rfl⟩:=hQ9.over (hN9.trans rfl);clear hQ9 hN9;simp (decide:=true) only [ov,if_true,if_false,Nat.reduceAdd] at t8 t13 ⊢;replace t8:=Option.some.inj t8;replace t13:=Option.some.inj t13;rw [t8,t13];clear t8 t13;go_wp2;exact ⟨⟨i+1,by omega,by first | rfl | go_num,by first | trivial | rfl,hls⟩,by simp [intOf];omega⟩)
   by_cases h2:(S i).what=2
   ·by_cases hr:(0≤(S i).node∧(S i).node<p.nodes)∧(0≤(S i).link∧(S i).link<p.nl)∧bitI (p.lt (S i).link.toNat) (S i).node.toNat=true
    ·exact cp_roundS ops ops2 _ (by rfl) _ i n lcap la S hlt hn hTi HS.out HL.out HTO.out hst hw1 hw2 h2 hr rfl rfl rfl rfl rfl rfl (by intro L2 u hls hN9 hQ9 t8 t13;obtain ⟨g,rfl⟩:=hQ9.over (hN9.trans rfl);clear hQ9 hN9;simp (decide:=true) only [ov,if_true,if_false,Nat.reduceAdd] at t8 t13 ⊢;replace t8:=Option.some.inj t8;replace t13:=Option.some.inj t13;rw [t8,t13];clear t8 t13;go_wp2;exact ⟨⟨i+1,by omega,by first | rfl | go_num,by first | trivial | rfl,hls⟩,by simp [intOf];omega⟩)
    ·exact cp_roundR ops ops2 _ (by rfl) _ i n lcap la S hlt hn hTi HS.out HL.out HTO.out hst hw1 hw2 h2 hr rfl rfl rfl rfl rfl rfl (by intro L2 u hls hN9 hQ9 t8 t13;obtain ⟨g,rfl⟩:=hQ9.over (hN9.trans rfl);clear hQ9 hN9;simp (decide:=true) only [ov,if_true,if_false,Nat.reduceAdd] at t8 t13 ⊢;replace t8:=Option.some.inj t8;replace t13:=Option.some.inj t13;rw [t8,t13];clear t8 t13;go_wp2;exact ⟨⟨i+1,by omega,by first | rfl | go_num,by first | trivial | rfl,hls⟩,by simp [intOf];omega⟩)
   exact cp_roundN ops ops2 _ (by rfl) _ i n lcap la S hlt hn hTi HS.out HL.out hst hw1 hw2 h0 h1 h2 rfl rfl rfl rfl rfl rfl (by intro L2 u hls hN9 hQ9 t8 t13;obtain ⟨g,rfl⟩:=hQ9.over (hN9.trans rfl);clear hQ9 hN9;simp (decide:=true) only [ov,if_true,if_false,Nat.reduceAdd] at t8 t13 ⊢;replace t8:=Option.some.inj t8;replace t13:=Option.some.inj t13;rw [t8,t13];clear t8 t13;go_wp2;exact ⟨⟨i+1,by omega,by first | rfl | go_num,by first | trivial | rfl,hls⟩,by simp [intOf];omega⟩)
  ·obtain rfl:i=n:=by omega
   go_wp2
   exact HEX.out _ _ hls.out rfl (Rest.of rfl) rfl rfl
end
end Go.Proofs.YtooadfgibdjdeaaGreatDoor
