import Derived.Test.YtooadfgibdjdeaaGreatDoorZRPSlot
namespace Go.Proofs.YtooadfgibdjdeaaGreatDoor
open Go.RowKit
set_option maxRecDepth 100000
set_option maxHeartbeats 16000000
section
section
variable {w:World} {O Z:List Nat} {C:Nat} {p:PlanN} {fa:Int} {cs:List Int} {s:ClS} {rd:Int} {B:Nat} {m:RMap}
def RPlayIs (w w':World) (O Z:List Nat) (C:Nat) (p:PlanN) (fa:Int) (cs:List Int) (s:ClS) (rd:Int) (B:Nat) (m:RMap) (r:RoundN) (e:Ending):Prop :=
 ∃ O',Foot O O' w w'∧((cluFar p fa cs r=true∧e=.returned (.int .i64 6)∧RCl w' O' Z C p fa cs s rd B m)∨(cluFar p fa cs r=false∧e=.returned (.int .i64 0)∧∃ m',RCl w' O' Z C p fa (cluTo p fa cs r) (cluOn p fa s rd r) (rd+1) (B+2600) m'))
theorem rplay_any (h:RCl w O Z C p fa cs s rd B m) (hok:CluOk p fa cs) (hrd:0≤rd) (hrd1:rd≤1000000) (hB0:1≤B) (hB:B≤890000) (hfine:Fine0 w) (r:RoundN) (a:RoundAt) (hr:r.In a w) (hla:∀ b off,a.la=some ⟨b,off,none⟩→b∉O∧b<w.heap.size) (hma:∀ b off,a.ma=some ⟨b,off,none⟩→0<r.modes.length→b∉O) :
  Calls Tryz.prog 10 #[.pointer (some ⟨C,0,none⟩),.slice a.la r.nL a.lc,.slice a.ra r.nR a.rc,.slice a.da r.drifts.length a.dc,.slice a.ma r.modes.length a.mc] w fun e w'=>RPlayIs w w' O Z C p fa cs s rd B m r e:=by
 have hb:=hok.plan.bounds
 have hnn:p.nodes=(p.n:Int):=by show p.nodes=(p.nodes.toNat:Int);have:=hb.n1;omega
 have hn16:p.n≤16:=by have:=hb.n2;omega
 have hn1:1≤p.n:=by have:=hb.n1;omega
 obtain ⟨f,hf⟩:∃ f:Nat,p.faulty=f:=⟨p.faulty.toNat,by have:=hb.f0;omega⟩
 have hf3:3*f+1≤p.n:=by have:=hb.f3;omega
 have hfn:f=p.faulty.toNat:=by rw [hf];rfl
 have hnow:∀ i,i<p.n→-274877906944≤cs.getD i 0∧cs.getD i 0≤274877906944:=fun i hi=>hok.inn _ (getD_mem0 (by rw [hok.len];exact hi))
 have HNOW:Hid _:=hnow
 have HOK:Hid (CluOk p fa cs):=hok
 have HB:Hid (PlanB p):=hb
 have HH:Hid (RCl w O Z C p fa cs s rd B m):=h
 have HR:Hid (r.In a w):=hr
 have HLA:Hid (∀ b off,a.la=some ⟨b,off,none⟩→b∉O∧b<w.heap.size):=hla
 have HMA:Hid (∀ b off,a.ma=some ⟨b,off,none⟩→0<r.modes.length→b∉O):=hma
 have HFI:Hid (Fine0 w):=hfine
 obtain ⟨ca,off,hca,hcX,hck⟩:=h.base.ck (by rw [hok.len];omega)
 rw [hok.len] at hck
 have HCK:Hid (∀ j,j<p.n→w.cell? ⟨ca,off+j,none⟩=some (.int .i64 (cs.getD j 0))):=hck
 have y0:=h.base.c0
 rw [hnn] at y0
 have y1:=h.base.c1
 rw [hf] at y1
 have y11:=h.base.c11
 rw [hok.len,hca] at y11
 have y3:=h.base.c3
 have y4:=h.base.c4
 have y10:=h.base.c10
 have lC:=h.base.lc
 have lca:ca<w.heap.size:=h.base.lx _ hcX
 clear h hok hb hr hla hma hfine hck hnow
 go_enter Tryz.func10,Tryz.ntmps10
 go_wp2_with fail
 refine rp_rows _ (by rfl) _ C p.n ca off m.ccap cs w HOK.out.len (by omega) hn16 y11 HCK.out HOK.out.inn rfl rfl rfl rfl rfl rfl ?_
 intro L2 V12 w1 G cap hRT1 hb1 hN9 hQ9 t12 t48
 obtain ⟨gL,rfl⟩:=hQ9.over (hN9.trans rfl)
 clear hQ9 hN9
 simp (decide:=true) only [ov,if_true,if_false,Nat.reduceAdd] at t12 t48 ⊢
 replace t12:=Option.some.inj t12
 replace t48:=Option.some.inj t48
 rw [t12,t48]
 clear t12 t48
 obtain ⟨g12,c12,rfl,hg12,hg12l⟩:=hRT1.own.form (by omega)
 have HRT1:Hid _:=hRT1
 have HB1:Hid (Below w.heap.size w w1):=hb1
 have z10:=keep_cell y10 hb1
 have z3:=keep_cell y3 hb1
 have z11:=keep_cell y11 hb1
 have HZK:Hid (∀ j,j<p.n→w1.cell? ⟨ca,off+j,none⟩=some (.int .i64 (cs.getD j 0))):=fun j hj=>keep_cell (HCK.out j hj) HB1.out
 have hR1:=HR.out.reads.below hb1
 have HRB:Hid (∀ b off,a.ra=some ⟨b,off,none⟩→0<r.nR→b<w.heap.size):=fun b off e h0=>by
  obtain ⟨b',off',e',hb',_⟩:=HR.out.reads h0
  rw [e] at e'
  cases e'
  exact hb'
 clear hRT1 hb1
 go_wp2_with fail
 refine rp_read _ (by rfl) _ C p.n ca off m.ccap w.heap.size g12 c12 fa p.jitter cs r a.ra a.rc G cap w1 HOK.out.len hn16 z10 z3 z11 HZK.out HOK.out.inn HB.out.j0 HB.out.j1 HRT1.out HB1.out.size lC lca hR1 HRB.out HR.out.lR rfl rfl rfl rfl rfl rfl rfl ?_
 intro L2 w2 hRT2 hb2 hN9 hQ9 t81
 obtain ⟨gL,rfl⟩:=hQ9.over (hN9.trans rfl)
 clear hQ9 hN9
 simp (decide:=true) only [ov,if_true,if_false,Nat.reduceAdd] at t81 ⊢
 replace t81:=Option.some.inj t81
 rw [t81]
 clear t81
 have HB2:Hid (Below w.heap.size w w2):=HB1.out.trans hb2
 have HRT2:Hid _:=hRT2
 clear hRT2 hb2 z10 z3 z11 hR1
 have x11:=keep_cell y11 HB2.out
 have x1:=keep_cell y1 HB2.out
 have HZ2:Hid (∀ j,j<p.n→w2.cell? ⟨ca,off+j,none⟩=some (.int .i64 (cs.getD j 0))):=fun j hj=>keep_cell (HCK.out j hj) HB2.out
 have HSET:Hid (∀ u,Below w2.heap.size w2 u→Calls Tryz.prog 42 #[.slice (some ⟨ca,off,none⟩) p.n m.ccap,.slice (some ⟨g12,0,none⟩) p.n c12,.int .i64 f] u fun ev w'=>∃ g gc,ev=.returned (.tuple #[.slice (some ⟨g,0,none⟩) p.n gc,.agg #[.int .i64 0,.int .i64 (-1)]])∧(u.heap.size≤g∧g<w'.heap.size∧(∀ j,j<p.n→w'.cell? ⟨g,j,none⟩=some (.int .i64 (setOn p.n f (fun i=>cs.getD i 0) (readAll p.n (bitI fa) p.jitter (fun i=>cs.getD i 0) r.reads) j)))∧∀ j,w'.frozen? ⟨g,j,none⟩=false)∧Below u.heap.size u w'):=fun u hu=>rset_any ca off m.ccap g12 c12 w.heap.size G cap u (HFI.out.below (HB2.out.trans (hu.mono HB2.out.size))) HOK.out.len hn16 hn1 hf3 HB.out.j0 HB.out.j1 HNOW.out (fun j hj=>keep_cell (HZ2.out j hj) hu) (RT.below HRT2.out hu)
 have HSI:Hid (∀ j,j<p.n→-4398046511104≤setOn p.n f (fun i=>cs.getD i 0) (readAll p.n (bitI fa) p.jitter (fun i=>cs.getD i 0) r.reads) j∧setOn p.n f (fun i=>cs.getD i 0) (readAll p.n (bitI fa) p.jitter (fun i=>cs.getD i 0) r.reads) j≤4398046511104):=fun j hj=>by
  have:=rset_in (r:=r) (fa:=fa) hf3 HB.out.j0 HB.out.j1 HNOW.out hj
  omega
 have HCT:Hid (∀ j,clocksTo p.n p.faulty.toNat (bitI fa) p.jitter p.drift (fun i=>cs.getD i 0) r.reads r.drifts j=setOn p.n f (fun i=>cs.getD i 0) (readAll p.n (bitI fa) p.jitter (fun i=>cs.getD i 0) r.reads) j+driftV r.drifts p.drift j):=fun j=>by rw [← hfn];rfl
 obtain ⟨ST,hST⟩:∃ ST,setOn p.n f (fun i=>cs.getD i 0) (readAll p.n (bitI fa) p.jitter (fun i=>cs.getD i 0) r.reads)=ST:=⟨_,rfl⟩
 rw [hST] at HSET HSI HCT
 have HFAR:Hid (cluFar p fa cs r=beyondB p.n (fun j=>ST j+driftV r.drifts p.drift j)):=by
  show cluFar _ _ _ _=_
  unfold cluFar
  congr 1
  funext j
  exact HCT.out j
 have HTO:Hid (cluTo p fa cs r=(List.range p.n).map fun j=>ST j+driftV r.drifts p.drift j):=by
  show cluTo _ _ _ _=_
  unfold cluTo
  refine List.map_congr_left fun j _=>?_
  exact HCT.out j
 clear hST
 go_wp2_with fail
 refine rp_set _ (by rfl) _ C p.n ca off m.ccap g12 c12 f ST w2 x11 x1 HSET.out rfl rfl rfl ?_
 intro L2 g gc FB w3 hg3 hF0 hb3 hN9 hQ9 t18 t19
 obtain ⟨gL,rfl⟩:=hQ9.over (hN9.trans rfl)
 clear hQ9 hN9
 simp (decide:=true) only [ov,if_true,if_false,Nat.reduceAdd] at t18 t19 ⊢
 replace t18:=Option.some.inj t18
 replace t19:=Option.some.inj t19
 rw [t18,t19]
 clear t18 t19
 obtain ⟨⟨hg1,hg2⟩,hgc,hgz⟩:=hg3
 have HB3:Hid (Below w.heap.size w w3):=HB2.out.trans (hb3.mono HB2.out.size)
 have hgw:w.heap.size≤g:=Nat.le_trans HB2.out.size hg1
 have HDR:Hid (DR w3 w3 g p.n ST):=⟨hgc,hgz,Turns.refl _ _ _⟩
 have x4:=keep_cell y4 HB3.out
 have hDw:=HR.out.drifts.below HB3.out
 have HDG:Hid (∀ b off,a.da=some ⟨b,off,none⟩→0<r.drifts.length→b≠g):=fun b off e h0=>by
  obtain ⟨b',off',e',hb',_⟩:=HR.out.drifts h0
  rw [e] at e'
  cases e'
  omega
 have hCg:C≠g:=by omega
 clear hgc hgz hb3 x11 x1 HSET HZ2 HRT2
 go_wp2_with fail
 refine rp_drift _ (by rfl) _ C g p.n gc p.drift a.da a.dc r.drifts ST w3 hn16 HDR.out hg2 hCg x4 HB.out.d0 HB.out.d1 hDw HDG.out HR.out.lD HSI.out rfl rfl rfl rfl rfl rfl rfl ?_ ?_
 ·intro L2 w4 hby hDR4 hN9 hQ9 t177
  obtain ⟨gL,rfl⟩:=hQ9.over (hN9.trans rfl)
  clear hQ9 hN9
  simp (decide:=true) only [ov,if_true,if_false,Nat.reduceAdd] at t177 ⊢
  replace t177:=Option.some.inj t177
  rw [t177]
  clear t177
  have hB4:Below w.heap.size w w4:=⟨hDR4.t.os.trans HB3.out.os,hDR4.t.tape.trans HB3.out.tape,hDR4.t.output.trans HB3.out.output,Nat.le_trans HB3.out.size hDR4.t.size,fun c hc=>(hDR4.t.block c (Nat.lt_of_lt_of_le hc HB3.out.size) (by omega) (by omega)).trans (HB3.out.block c hc)⟩
  have HB4:Hid (Below w.heap.size w w4):=hB4
  have hc4:=HH.out.below hB4
  have HG4:Hid (g<w4.heap.size∧∀ j,j<p.n→w4.cell? ⟨g,j,none⟩=some (.int .i64 (ST j+driftV r.drifts p.drift j))):=⟨Nat.lt_of_lt_of_le hg2 hDR4.t.size,hDR4.c⟩
  have HFA:Hid (cluFar p fa cs r=false):=HFAR.out.trans hby
  have q6:=hc4.base.c6
  have lC4:=hc4.base.lc
  have hL4:=HR.out.losses.below hB4
  have hM4:=HR.out.modes.below hB4
  have HLA1:Hid (∀ b off,a.la=some ⟨b,off,none⟩→b∉O):=fun b off e=>(HLA.out b off e).1
  have HLA2:Hid (∀ b off,a.la=some ⟨b,off,none⟩→b<w4.heap.size):=fun b off e=>Nat.lt_of_lt_of_le (HLA.out b off e).2 HB4.out.size
  have HBR:Hid (p.ns≤32∧p.nl≤8∧1≤p.round∧p.round≤137438953472):=⟨HB.out.ns,HB.out.nl,HB.out.r0,HB.out.r1⟩
  have HSLT:Hid (∀ i,i<p.ns→(0≤p.nd i∧p.nd i<p.nodes)∧0≤p.fr i∧p.fr i≤1099511627776):=fun i hi=>by
   obtain ⟨t1,t3,t4⟩:=HB.out.slot i hi
   have:=HB.out.r1
   exact ⟨t1,t3,by omega⟩
  have HLKS:Hid (∀ k,k<p.nl→0≤p.lf k∧0≤p.lb k∧p.lb k≤1099511627776):=fun k hk=>by
   obtain ⟨⟨l1,_⟩,_,⟨l3,l4⟩,_⟩:=HB.out.link k hk
   exact ⟨l1,by omega,by omega⟩
  clear hDR4 hby hB4 hDw x4
  go_wp2_with fail
  refine rp_slot _ (by rfl) _ hc4 (r.hap fa) a.la r.nL a.lc r.ls r.lc r.lt a.ma a.mc r.modes m.sa rfl hnn hn1 hn16 HBR.out.1 HBR.out.2.1 hB0 (by omega) hL4 HLA1.out HLA2.out HR.out.lL hM4 HMA.out HR.out.lM rfl (fun _=>rfl) (fun _ _ _=>rfl) hrd hrd1 HBR.out.2.2.1 HBR.out.2.2.2 HSLT.out HLKS.out rfl rfl rfl rfl rfl rfl rfl rfl ?_
  intro L2 w5 hI5 hN9 hQ9 t213
  obtain ⟨gL,rfl⟩:=hQ9.over (hN9.trans rfl)
  clear hQ9 hN9
  simp (decide:=true) only [ov,if_true,if_false,Nat.reduceAdd] at t213 ⊢
  replace t213:=Option.some.inj t213
  rw [t213]
  clear t213
  obtain ⟨O5,hF5,hc5⟩:=hI5
  have y16:=hc5.base.c16
  have z16:=hc5.base.z 16
  have z11:=hc5.base.z 11
  have k11:=hc5.base.c11
  have lC5:=hc5.base.lc
  have hgO:g∉O:=fun y=>by have:=HH.out.lt g y;omega
  have hgO5:g∉O5:=fun y=>by
   rcases hF5.fresh g y with q | q
   ·exact hgO q
   ·have:=HG4.out.1;omega
  have hgZ:g∉Z:=fun y=>by have:=HH.out.rows.zl g y;omega
  have hlen:(cluTo p fa cs r).length=p.n:=by simp [cluTo]
  have hg5:g<w5.heap.size:=Nat.lt_of_lt_of_le HG4.out.1 hF5.size
  have hcl:=hc5.closed (g:=g) (gc:=gc) (cs':=cluTo p fa cs r) hg5 hgO5 hgZ (fun j hj=>by
   rw [hlen] at hj
   rw [hF5.cell (p:=⟨g,j,none⟩) HG4.out.1 hgO,HG4.out.2 j hj,HTO.out]
   simp [hj]) (rd+1)
  rw [hlen] at hcl
  obtain ⟨hcl1,hcl2⟩:=hcl
  have hCO:=HH.out.mem
  have HFIN:Hid (RPlayIs w ((w5.setCell ⟨C,16,none⟩ (.int .i64 (rd+1))).setCell ⟨C,11,none⟩ (.slice (some ⟨g,0,none⟩) p.n gc)) O Z C p fa cs s rd B m r (.returned (.int .i64 0))):=by
   refine ⟨g::O5,⟨hcl2.os.trans (hF5.os.trans HB4.out.os),hcl2.tape.trans (hF5.tape.trans HB4.out.tape),hcl2.output.trans (hF5.output.trans HB4.out.output),Nat.le_trans HB4.out.size (Nat.le_trans hF5.size hcl2.size),fun c hc hn=>?_,fun c hc=>?_⟩,.inr ⟨HFA.out,rfl,_,hcl1.more (by have:=HBR.out.1;omega)⟩⟩
   ·have hcC:c≠C:=fun e=>hn (e▸hCO)
    have h4:c<w4.heap.size:=Nat.lt_of_lt_of_le hc HB4.out.size
    exact (hcl2.block c (Nat.lt_of_lt_of_le h4 hF5.size) hcC hcC).trans ((hF5.block c h4 hn).trans (HB4.out.block c hc))
   ·rcases List.mem_cons.1 hc with y | y
    ·exact .inr (y▸hgw)
    ·rcases hF5.fresh c y with q | q
     ·exact .inl q
     ·exact .inr (Nat.le_trans HB4.out.size q)
  clear hcl1 hcl2 hF5 hc5 hc4 hL4 hM4
  go_wp2
  go_ret
  exact HFIN.out
 ·intro L2 w4 hby hT4 hN9 hQ9 t10
  obtain ⟨gL,rfl⟩:=hQ9.over (hN9.trans rfl)
  clear hQ9 hN9
  simp (decide:=true) only [ov,if_true,if_false,Nat.reduceAdd] at t10 ⊢
  replace t10:=Option.some.inj t10
  rw [t10]
  clear t10
  have HFR:Hid (RPlayIs w w4 O Z C p fa cs s rd B m r (.returned (.int .i64 6))):=by
   have hB4:Below w.heap.size w w4:=⟨hT4.os.trans HB3.out.os,hT4.tape.trans HB3.out.tape,hT4.output.trans HB3.out.output,Nat.le_trans HB3.out.size hT4.size,fun c hc=>(hT4.block c (Nat.lt_of_lt_of_le hc HB3.out.size) (by omega) (by omega)).trans (HB3.out.block c hc)⟩
   exact ⟨O,Foot.of_below hB4,.inl ⟨HFAR.out.trans hby,rfl,HH.out.below hB4⟩⟩
  clear hby hT4
  go_wp2
  go_ret
  exact HFR.out
end
end
end Go.Proofs.YtooadfgibdjdeaaGreatDoor
