import Derived.Test.YtknimkfdnanejaaGreatDoorZW2
import Derived.Deep.DeepCutAuto
import Derived.Deep.QuietTactic
import Derived.Deep.RegionHeld3
set_option maxRecDepth 100000
namespace Go.Proofs.YtknimkfdnanejaaGreatDoor
variable {p:Prop}
theorem zPg(h:p:=by
 go_wp2_with fail;go_quiet(first|(go_at_call 113;refine Calls.quiet_of_same (bAe _))|(go_at_call 114;refine Calls.quiet_of_same (N2 _)))
 first
 |have _:=bLt;go_wp2;go_ret2;exact H1.out _ (oP.out.1.trans ⟨rfl,rfl,rfl,kF _,fun _ _=>rfl⟩) HBd.out
 |obtain⟨v2,hv2⟩:∃v2,v1.drewN nq=v2:=⟨_,rfl⟩;rw[hv2];have xR:bW V v2:=by rw[<-hv2];exact oP.out.2.trans ⟨rfl,rfl,rfl,kF _,fun _ _=>rfl⟩
  have H8:Hid (bW w v2):=by show Below _ _ _;rw[<-hv2];exact oP.out.1.trans ⟨rfl,rfl,rfl,kF _,fun _ _=>rfl⟩
  rw[HNN.out,L8.out]at b0;have z0:=bc xR tQ b0;have J2:w.heap.size<v2.heap.size:=kB tQ xR.size;have uN:Hid (bW V v2):=xR;clear hv2 y0 y1 N5 oP bAe N2 H1 xR hR' kA hA;by_cases hlen:cs.length=n
  ·have kl:((cs.length:Int) !=(n:Int))=false:=by simp[hlen]
   have aS6:Hid (cs.length=n):=hlen;have z1:=bc uN.out tQ b1;have z2:=bc uN.out tQ b2;have z3:=bc uN.out tQ b3;have z4:=bc uN.out tQ b4;have z5:=bc uN.out tQ b5;have z6:=bc uN.out tQ b6;have z7:=bc uN.out tQ b7;have z8:=bc uN.out tQ b8;have z9:=bc uN.out tQ b9;have bFa:=fun(q:Nat)=>aSm cs ca n cap hlen lK od (v2.drewN q) (HIn.out.2.below ⟨H8.out.os,H8.out.tape,H8.out.output,H8.out.size,H8.out.block⟩);rw[hlen];go_wp2_with fail;go_cut [9] (fun cv wx=>∃C cb cI,cv=pP C/\Hid (A7 V wx p a fa cs n C cb cI));case first=>
    clear b0 b1 b2 b3 b4 b5 b6 b7 b8 b9 hlen kl;go_region_held3(fun u=>(u.cell? (aA w.heap.size 0)=some (iI n)/\u.cell? (aA w.heap.size 1)=some (iI p.aF)/\u.cell? (aA w.heap.size 2)=some (iI p.aJ)/\u.cell? (aA w.heap.size 3)=some (iI p.aC)/\u.cell? (aA w.heap.size 4)=some (iI p.aH))/\u.cell? (aA w.heap.size 5)=some (iI p.round)/\u.cell? (aA w.heap.size 6)=some (sV a.sa p.ns a.sc)/\u.cell? (aA w.heap.size 7)=some (sV a.la p.nl a.lc)/\u.cell? (aA w.heap.size 8)=some (iI p.frame)/\u.cell? (aA w.heap.size 9)=some (sV a.wa p.nw a.wc)) (go_keep) (first
     |(go_at_call 115;refine(bFa _).mono ?_;rintro e v3 ⟨g,cp,rfl,hg,M1,uQ⟩;have HBo:Hid (bW V v3/\(V.heap.size<=g/\g<v3.heap.size)/\∀j,j<cs.length->v3.cell? (aA g j)=some (iI (cs.getD j 0))):=(by have h2:=uN.out;have h3:=h2.size;have h4:v2.heap.size<=g:=hg.1;refine⟨h2.trans ⟨uQ.os,uQ.tape,uQ.output,uQ.size,fun c hc=>uQ.block c (kB hc h3)⟩,⟨od,hg.2⟩,M1⟩);have t0:=bc uQ J2 z0;have t1:=bc uQ J2 z1;have t2:=bc uQ J2 z2;have t3:=bc uQ J2 z3;have t4:=bc uQ J2 z4;have t5:=bc uQ J2 z5;have t6:=bc uQ J2 z6;have t7:=bc uQ J2 z7;have t8:=bc uQ J2 z8;have t9:=bc uQ J2 z9;clear uQ M1 hg))
    all_goals go_wp2_with fail
    all_goals go_meet
    all_goals refine⟨_,g,cp,rfl,?_⟩
    all_goals unfold Hid
    all_goals repeat apply A7.drew
    all_goals exact A7.of HBo.out.1 HBo.out.2.1 HBo.out.2.2
   case rest=>obtain⟨C,cb,cI,rfl,HBo⟩:=hcut;clear z0 z1 z2 z3 z4 z5 z6 z7 z8 z9 bFa J2;have bT:=HBo.out.bel;have x6:=bc bT tQ b6;have hlc:w.heap.size<wc.heap.size:=kB tQ bT.size;have hCl:=HBo.out.lC;have bEv:bW w wc:=HBV.out.1.trans (bT.mono HBV.out.1.size);have hsl:=bB1 p.nd p.fr p.td a.sa p.ns a.sc wc od (HIn.out.1.iM.below bEv);clear bT;go_wp2_with fail;refine hsl.mono ?_;rintro e v5 ⟨a',cap',rfl,hr5,hf5,hB5⟩;obtain⟨X0,hX⟩:=HBo.out.next (cap':=cap') (by rw[HNN.out,L8.out]) aS6.out hB5 hr5 hf5;have e6:=bc hB5 hCl (HBo.out.cel 6 _ rfl);have e7:=bc hB5 hCl (HBo.out.cel 7 _ rfl);have e9:=bc hB5 hCl (HBo.out.cel 9 _ rfl);have g6:=(hB5.frozen (p:=(aA C 6)) hCl).trans (HBo.out.z 6);have g7:=(hB5.frozen (p:=(aA C 7)) hCl).trans (HBo.out.z 7);have g9:=(hB5.frozen (p:=(aA C 9)) hCl).trans (HBo.out.z 9);have hC5:C<v5.heap.size:=kB hCl hB5.size;have HX:Hid _:=hX;clear hsl hr5 hf5 hB5 hX x6 hlc hCl bEv;go_wp2_with fail;have bL7:=0;exact zN5
  ·have kl:((cs.length:Int) !=(n:Int))=true:=by simp;omega
   have kl2:¬((cs.length:Int)=(n:Int)):=od;have HD:Hid (wY w p fa cs (rT (tU #[.pointer none,.iface 25 (iI 7)])) v2):=⟨H8.out,7,-1,.inr ⟨HIs.out,rfl,.inr ⟨HOk.out,.inl ⟨by rw[L8.out];exact hlen,rfl⟩⟩⟩,.inl ⟨oe,_,rfl,.inr (.inl ⟨rfl,oe,rfl⟩)⟩⟩;go_wp2;go_ret2;exact HD.out):p:=h
