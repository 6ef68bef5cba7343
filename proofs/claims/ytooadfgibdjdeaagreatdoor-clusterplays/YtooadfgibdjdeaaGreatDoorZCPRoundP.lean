import Derived.Test.YtooadfgibdjdeaaGreatDoorZR14
namespace Go.Proofs.YtooadfgibdjdeaaGreatDoor
open Go.RowKit
set_option maxRecDepth 100000
set_option maxHeartbeats 16000000
section
theorem cp_roundP {Clu:World→List Nat→Nat→PlanN→Int→List Int→ClS→Int→Nat→Prop} (ops:CluOps Clu) (ops2:CluOps2 Clu) (code:Code) (hcode:(Tryz.f3.body.map loopsIn).bind (fun l=>l[0]?)=some code) (Q:Exit→Act→World→Prop) {base:Nat} {w wr:World} {C D:Nat} {p:PlanN} {fa:Int} {cs:List Int} {s:ClS} {rd:Int} {T:Nat} (i n lcap:Nat) (la:Option Addr) (S:Nat→StepN) (hi:i<n) (hn:n≤80) (hT:T≤i) (hS:StepsIn w la n S) (hL:(∀ j,j<n→((S j).r.nL≤1000000000000000∧(S j).r.nR≤1000000000000000)∧(S j).r.drifts.length≤1000000000000000∧(S j).r.modes.length≤1000000000000000)) (hTo:Told w) (hFi:Fine0 w) (h:StX Clu base w wr [] wr C D p fa cs s rd T cs s rd T) (hw1:¬ 200<((S i).r.nL:Int)+(S i).r.nR+(S i).r.drifts.length+(S i).r.modes.length) (hw2:¬ 100<(S i).data.size) (hw3:(S i).what=0) {L:List Value} (hL0:L.length=329) (s3:L[3]? = some (.slice la n lcap)) (s8:L[8]? = some (.bool false)) (s9:L[9]? = some (.pointer (some ⟨C,0,none⟩))) (s11:L[11]? = some (.pointer (some ⟨D,0,none⟩))) (s13:L[13]? = some (.int .i64 i))
  (hnext:∀ (L':List Value) (u:World),LS Clu base w u C D p fa (i+1)→L'.length=329→Rest wMain L L'→L'[8]? = some (.bool false)→L'[13]? = some (.int .i64 (i+1:Nat))→Q .normal ⟨L'.toArray,[]⟩ u) :
  Code.wp Tryz.prog code Q ⟨L.toArray,[]⟩ wr:=by
 have hb2':((Tryz.f3.body.map loopsIn).bind (fun l=>l[0]?)).getD Code.skip=code:=by rw [hcode];rfl
 obtain rfl:=hb2'
 clear hcode
 conv=>arg 2;whnf
 have HNX:Hid _:=hnext
 clear hnext
 obtain ⟨fL,rfl⟩:=lit L 329 hL0
 replace s3:=lit_at s3
 replace s8:=lit_at s8
 replace s9:=lit_at s9
 replace s11:=lit_at s11
 replace s13:=lit_at s13
 simp only [List.range,List.range.loop,List.map_cons,List.map_nil,s3,s8,s9,s11,s13]
 have HST:Hid (StX Clu base w wr [] wr C D p fa cs s rd T cs s rd T):=h
 have ii:(i:Int)<(n:Int):=by omega
 have hnn80:(n:Int)≤80:=by omega
 obtain ⟨⟨lnL,lnR⟩,lnD,lnM⟩:=hL i hi
 obtain ⟨b,off,rfl,hbl,hc⟩:=(hS.below h.bel) (by omega)
 obtain ⟨⟨⟨g0,g1,g2,g3⟩,g4,g5,g6,g7⟩,_⟩:=hc i hi
 have HRI:Hid ((S i).r.In (S i).a w):=hS.at hi
 obtain ⟨st,hst⟩:∃ st,S i=st:=⟨_,rfl⟩
 rw [hst] at lnL lnR lnD lnM g0 g1 g2 g3 g4 g5 g6 g7 HRI hw1 hw2 hw3
 obtain ⟨v,hv⟩:∃ v,(wr.alloc (.cells #[.int .i64 st.what,.int .i64 st.node,.int .i64 st.link,.string st.data,.slice st.a.la st.r.nL st.a.lc,.slice st.a.ra st.r.nR st.a.rc,.slice st.a.da st.r.drifts.length st.a.dc,.slice st.a.ma st.r.modes.length st.a.mc] 47)).alloc (.cells #[.slice st.a.la st.r.nL st.a.lc,.slice st.a.ra st.r.nR st.a.rc,.slice st.a.da st.r.drifts.length st.a.dc,.slice st.a.ma st.r.modes.length st.a.mc] 45)=v:=⟨_,rfl⟩
 obtain ⟨⟨⟨x0,x1,x2,x3⟩,x4,x5,x6,x7⟩,⟨y0,y1,y2,y3⟩,hbv,hvs⟩:=cpbox _ _ _ _ _ _ _ _ _ _ _ v hv
 have HBV:Hid (Below wr.heap.size wr v∧v.heap.size=wr.heap.size+1+1):=⟨hbv,hvs⟩
 have HLN:Hid ((st.r.nL≤1000000000000000∧st.r.nR≤1000000000000000)∧st.r.drifts.length≤1000000000000000∧st.r.modes.length≤1000000000000000):=⟨⟨lnL,lnR⟩,lnD,lnM⟩
 clear h hc hS hL hst hbv
 have k1':decide (200<(st.r.nL:Int)+st.r.nR+st.r.drifts.length+st.r.modes.length)=false:=decide_eq_false (by omega)
 have k2':decide ((100:Int)<(st.data.size:Int))=false:=decide_eq_false (by omega)
 have k3':decide (100<st.data.size)=false:=decide_eq_false (by omega)
 have e0:(st.what == 0)=true:=by simpa using hw3
 have hnL:st.r.nL≤200:=by omega
 have hnR:st.r.nR≤200:=by omega
 have HBwv:Hid (Below w.heap.size w v):=HST.out.bel.trans (HBV.out.1.mono HST.out.bel.size)
 have hro:=(HRI.out.below HBwv.out).losses
 have lQ:wr.heap.size+1<v.heap.size:=by omega
 have HTO:Hid (Told w):=hTo
 obtain ⟨O1,O2,Z,m,hst0⟩:=HST.out
 obtain ⟨hok0,hrd0,hrd1⟩:=ops.ok hst0.clu
 have HOK:Hid (CluOk p fa cs∧0≤rd∧rd≤T):=⟨hok0,hrd0,hrd1⟩
 have HFI:Hid (Fine0 w):=hFi
 clear hw1 hw2 hw3 hst0 hok0 hrd0 hrd1 hTo hFi
 go_wp2_with fail
 refine cp_loss _ (by rfl) _ (wr.heap.size+1) st.r.nL st.a.lc st.a.la st.r.ls st.r.lc st.r.lt v (by omega) y0 hro rfl rfl rfl rfl ?_
 intro L2 va vc v1 hR1 hlow1 hB1 hN9 hQ9 t16 t18
 obtain ⟨g,rfl⟩:=hQ9.over (hN9.trans rfl)
 clear hQ9 hN9
 simp (decide:=true) only [ov,if_true,if_false,Nat.reduceAdd] at t16 t18 ⊢
 replace t16:=Option.some.inj t16
 replace t18:=Option.some.inj t18
 rw [t16,t18]
 clear t16 t18
 have HR1:Hid (Rows3 v1 va st.r.nL st.r.ls st.r.lc st.r.lt∧(∀ b off s,va=some ⟨b,off,s⟩→v.heap.size≤b∧b<v1.heap.size)∧Below v.heap.size v v1):=⟨hR1,hlow1,hB1⟩
 have t0:=keep_cell y0 hB1
 have t1:=keep_cell y1 hB1
 have t2:=keep_cell y2 hB1
 have t3:=keep_cell y3 hB1
 have hre:=(HRI.out.below (cbtr HBwv.out hB1)).reads
 clear hR1 hlow1 hB1 hro y0 y1 y2 y3 x0 x1 x2 x3 x4 x5 x6 x7
 go_wp2_with fail
 refine cp_read _ (by rfl) _ (wr.heap.size+1) st.r.nR st.a.rc st.a.ra st.r.rn st.r.ro st.r.ri v1 (by omega) t1 hre rfl rfl rfl rfl ?_
 intro L2 ra rc v2 hR2 hlow2 hB2 hN9 hQ9 t17 t19
 obtain ⟨g2,rfl⟩:=hQ9.over (hN9.trans rfl)
 clear hQ9 hN9
 simp (decide:=true) only [ov,if_true,if_false,Nat.reduceAdd] at t17 t19 ⊢
 replace t17:=Option.some.inj t17
 replace t19:=Option.some.inj t19
 rw [t17,t19]
 clear t17 t19
 have z0:=keep_cell t0 hB2
 have z1:=keep_cell t1 hB2
 have z2:=keep_cell t2 hB2
 have z3:=keep_cell t3 hB2
 have hs1:=HR1.out.2.2.size
 have hs2:=hB2.size
 have HST2:Hid (StX Clu base w v2 ((wr.heap.size+1)::((va.map Addr.block).toList ++ (ra.map Addr.block).toList)) v2 C D p fa cs s rd T cs s rd T):=HST.out.over ops (cbtr (cbtr HBV.out.1 HR1.out.2.2) hB2) (fun c hc=>by
  rcases List.mem_cons.1 hc with y | y
  ·omega
  ·rcases List.mem_append.1 y with y | y
   ·cases ha:va with
    | none=>rw [ha] at y;cases y
    | some ad =>
     rw [ha] at y
     have hcb:c=ad.block:=by simpa using y
     have:=HR1.out.2.1 ad.block ad.off ad.spot ha
     omega
   ·cases ha:ra with
    | none=>rw [ha] at y;cases y
    | some ad =>
     rw [ha] at y
     have hcb:c=ad.block:=by simpa using y
     have:=hlow2 ad.block ad.off ad.spot ha
     omega)
 have hx1:∀ b off s,va=some ⟨b,off,s⟩→b∈((wr.heap.size+1)::((va.map Addr.block).toList ++ (ra.map Addr.block).toList)):=fun b off s e=>List.mem_cons_of_mem _ (List.mem_append.2 (.inl (by rw [e];exact List.mem_singleton.2 rfl)))
 have hx2:∀ b off s,ra=some ⟨b,off,s⟩→b∈((wr.heap.size+1)::((va.map Addr.block).toList ++ (ra.map Addr.block).toList)):=fun b off s e=>List.mem_cons_of_mem _ (List.mem_append.2 (.inr (by rw [e];exact List.mem_singleton.2 rfl)))
 obtain ⟨K,cs9,s9,rd9,T9,hT9,hp1,hp2⟩:=stx_play (C:=C) (D:=D) (base:=base) (s:=s) ops HOK.out.1 HOK.out.2.1 HOK.out.2.2 (by omega) HFI.out st.r st.a HRI.out va ra vc rc (HR1.out.1.below hB2) hR2 hx1 hx2
 have HP1:Hid _:=hp1
 have HP2:Hid _:=hp2
 have HBA:Hid (BareSays (errV K) K):=bare_errV K
 unfold BareSays at HBA
 have hq0:wr.heap.size+1∈((wr.heap.size+1)::((va.map Addr.block).toList ++ (ra.map Addr.block).toList)):=List.mem_cons_self
 have HT9:Hid (T9≤i+1):=Nat.le_trans hT9 (Nat.succ_le_succ hT)
 generalize errV K=EV at *
 clear hp1 hp2 hx1 hx2 hR2 hlow2 hB2 hre t0 t1 t2 t3 hT9
 go_wp2_with fail
 refine wp_region_noPanic ?_
 go_region_held3 (fun u=>u.cell? ⟨wr.heap.size+1,0,none⟩=some (.slice st.a.la st.r.nL st.a.lc)∧u.cell? ⟨wr.heap.size+1,1,none⟩=some (.slice st.a.ra st.r.nR st.a.rc)∧u.cell? ⟨wr.heap.size+1,2,none⟩=some (.slice st.a.da st.r.drifts.length st.a.dc)∧u.cell? ⟨wr.heap.size+1,3,none⟩=some (.slice st.a.ma st.r.modes.length st.a.mc)) (go_keep) (first
  | (go_at_call 9;refine (HP1.out _ (HST2.out.below ops (by repeat (first | exact Below.refl _ _ | refine Below.drew ?_)))).mono ?_;rintro ev u1 ⟨rfl,hs9⟩;have HS1:Hid (StX Clu base w v2 ((wr.heap.size+1)::((va.map Addr.block).toList ++ (ra.map Addr.block).toList)) u1 C D p fa cs9 s9 rd9 T9 cs s rd T):=hs9;have qa0:=(hs9.cell hq0).trans z0;have qa1:=(hs9.cell hq0).trans z1;have qa2:=(hs9.cell hq0).trans z2;have qa3:=(hs9.cell hq0).trans z3;clear hs9)
  | (go_at_call 10;refine (HP2.out _ HS1.out).mono ?_;rintro ev u2 ⟨rfl,hs9⟩;have HS2:Hid (StX Clu base w v2 ((wr.heap.size+1)::((va.map Addr.block).toList ++ (ra.map Addr.block).toList)) u2 C D p fa cs9 s9 rd9 T9 cs9 s9 rd9 T9):=hs9;have qb0:=(hs9.cell hq0).trans z0;have qb1:=(hs9.cell hq0).trans z1;have qb2:=(hs9.cell hq0).trans z2;have qb3:=(hs9.cell hq0).trans z3;clear hs9)
  | (go_at_call 8;refine (HBA.out _ (HTO.out.below HS2.out.bel)).mono ?_;rintro ev u3 ⟨rfl,hb9⟩;have HS3:Hid (StX Clu base w v2 ((wr.heap.size+1)::((va.map Addr.block).toList ++ (ra.map Addr.block).toList)) u3 C D p fa cs9 s9 rd9 T9 cs9 s9 rd9 T9):=HS2.out.below ops hb9;have qc0:=(HS3.out.cell hq0).trans z0;have qc1:=(HS3.out.cell hq0).trans z1;have qc2:=(HS3.out.cell hq0).trans z2;have qc3:=(HS3.out.cell hq0).trans z3;clear hb9))
 all_goals (
  refine NoPanic.normal ?_
  clear HP1 HP2 HBA HS1 HS2 HST2
  obtain ⟨O1,O2,Z,m,hst9⟩:=HS3.out
  obtain ⟨hok9,hr0,hr1⟩:=ops.ok hst9.clu
  have hPB:=hok9.plan.bounds
  have hn16:p.n≤16:=by have:=hPB.n2;unfold PlanN.n;omega
  have hcl9:cs9.length≤16:=by rw [hok9.len];exact hn16
  have y16:=hst9.rcl.base.c16
  have y11:=hst9.rcl.base.c11
  have lD:=hst9.rcl.base.lc
  have HK1:Hid (∀ u,Below u3.heap.size u3 u→Clu u O1 C p fa cs9 s9 rd9 T9∧RCl u O2 Z D p fa cs9 s9 rd9 (2600*T9+1) m):=fun u hu=>⟨(hst9.below ops hu).clu,(hst9.below ops hu).rcl⟩
  have HRO:Hid (∀ u,Below u3.heap.size u3 u→Calls Tryz.prog 15 #[.pointer (some ⟨C,0,none⟩)] u fun e w'=>e=.returned (.int .i64 rd9)∧Below u.heap.size u w'):=fun u hu=>ops.rounds (HK1.out u hu).1
  have HSP1:Hid (∀ u,Below u3.heap.size u3 u→Calls Tryz.prog 16 #[.pointer (some ⟨C,0,none⟩)] u fun e w'=>e=.returned (.int .i64 (spreadL (rightOf fa cs9)))∧Below u.heap.size u w'):=fun u hu=>ops.spread (HK1.out u hu).1
  have HRW:Hid (∀ u,Below u3.heap.size u3 u→IntRow u m.ca cs9):=fun u hu h0=>by
   have hr:=(HK1.out u hu).2.base
   obtain ⟨b,off,e,hb,hc⟩:=hr.ck h0
   exact ⟨b,off,e,hr.lx b hb,hc⟩
  have HSP2:Hid (∀ u,Below u3.heap.size u3 u→Calls Tryz.prog 17 #[.pointer (some ⟨D,0,none⟩)] u fun e w'=>e=.returned (.int .i64 (spreadL (rightOf fa cs9)))∧Below u.heap.size u w'):=fun u hu=>refCSpread_any D fa m.ca m.ccap cs9 u (HK1.out u hu).2.base.c10 (HK1.out u hu).2.base.c11 (HRW.out u hu) hcl9 hok9.inn
  have HCK:Hid (∀ u,Below u3.heap.size u3 u→Calls Tryz.prog 19 #[.pointer (some ⟨C,0,none⟩)] u fun e w'=>∃ a cap,e=.returned (.slice a cs9.length cap)∧IntRow w' a cs9∧Below u.heap.size u w'):=fun u hu=>ops2.clocks (HK1.out u hu).1
  have HSI:Hid (∀ u a ca,Below u3.heap.size u3 u→IntRow u a cs9→Calls Tryz.prog 18 #[.slice a cs9.length ca,.slice m.ca cs9.length m.ccap] u fun e w'=>e=.returned (.bool true)∧Below u.heap.size u w'):=fun u a ca hu ha=>(sameInts_any a m.ca ca m.ccap cs9 u ha (HRW.out u hu) (by omega)).mono fun e w' ⟨h1,q,h2⟩=>⟨h1,by rw [h2];exact ⟨rfl,rfl,rfl,Nat.le_refl _,fun _ _=>rfl⟩⟩
  generalize spreadL (rightOf fa cs9)=SP at *
  have HLS:Hid (∀ u,Below u3.heap.size u3 u→LS Clu base w u C D p fa (i+1)):=fun u hu=>(HS3.out.below ops hu).ls ops HT9.out
  clear hst9 hok9 hPB hr0 hr1
  go_wp2_with fail
  refine wp_region_noPanic ?_
  go_region_held3 (fun u=>u.cell? ⟨D,16,none⟩=some (.int .i64 rd9)∧u.cell? ⟨D,11,none⟩=some (.slice m.ca cs9.length m.ccap)) (go_keep) (first
   | (go_at_call 15;refine (HRO.out _ (by repeat (first | exact Below.refl _ _ | refine Below.drew ?_))).mono ?_;rintro ev k1 ⟨rfl,hk1⟩;have HE1:Hid (Below u3.heap.size u3 k1):=cbtr (by repeat (first | exact Below.refl _ _ | refine Below.drew ?_)) hk1;have e16:=keep_cell y16 HE1.out;have e11:=keep_cell y11 HE1.out;clear hk1)
   | (go_at_call 16;refine (HSP1.out _ HE1.out).mono ?_;rintro ev k2 ⟨rfl,hk2⟩;have HE2:Hid (Below u3.heap.size u3 k2):=cbtr HE1.out hk2;have f16:=keep_cell y16 HE2.out;have f11:=keep_cell y11 HE2.out;clear hk2)
   | (go_at_call 17;refine (HSP2.out _ HE2.out).mono ?_;rintro ev k3 ⟨rfl,hk3⟩;have HE3:Hid (Below u3.heap.size u3 k3):=cbtr HE2.out hk3;have h16:=keep_cell y16 HE3.out;have h11:=keep_cell y11 HE3.out;clear hk3)
   | (go_at_call 19;refine (HCK.out _ HE3.out).mono ?_;rintro ev k4 ⟨ka,kcp,rfl,hkr,hk4⟩;have HE4:Hid (Below u3.heap.size u3 k4∧IntRow k4 ka cs9):=⟨cbtr HE3.out hk4,hkr⟩;have i16:=keep_cell y16 HE4.out.1;have i11:=keep_cell y11 HE4.out.1;clear hk4 hkr)
   | (go_at_call 18;refine (HSI.out _ _ _ HE4.out.1 HE4.out.2).mono ?_;rintro ev k5 ⟨rfl,hk5⟩;have HE5:Hid (Below u3.heap.size u3 k5):=cbtr HE4.out.1 hk5;have j16:=keep_cell y16 HE5.out;have j11:=keep_cell y11 HE5.out;clear hk5))
  all_goals (
   refine NoPanic.normal ?_
   obtain ⟨hC5,hR5⟩:=HK1.out _ HE5.out
   clear HRO HSP1 HSP2 HCK HSI HRW
   go_wp2_with fail
   refine cp_memb ops ops2 _ (by rfl) _ hC5 hR5 hn16 rfl rfl rfl rfl rfl ?_
   intro L2 k6 hk6 hN9 hQ9 t8 t25
   obtain ⟨g,rfl⟩:=hQ9.over (hN9.trans rfl)
   clear hQ9 hN9
   simp (decide:=true) only [ov,if_true,if_false,Nat.reduceAdd] at t8 t25 ⊢
   replace t8:=Option.some.inj t8
   replace t25:=Option.some.inj t25
   rw [t8,t25]
   clear t8 t25
   have HE6:=HLS.out _ (cbtr HE5.out hk6)
   clear hC5 hR5 hk6
   go_wp2
   exact HNX.out _ _ HE6 rfl (Rest.of rfl) rfl rfl))
end
end Go.Proofs.YtooadfgibdjdeaaGreatDoor
