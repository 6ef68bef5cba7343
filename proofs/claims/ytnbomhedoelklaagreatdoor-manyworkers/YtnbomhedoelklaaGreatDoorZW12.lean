import Derived.Test.YtnbomhedoelklaaGreatDoorZW2
import Derived.Deep.DeepCutAuto
import Derived.Deep.QuietTactic
import Derived.Deep.RegionHeld3
set_option maxRecDepth 100000
namespace Go.Proofs.YtnbomhedoelklaaGreatDoor
variable {p:Prop}
theorem zL4(h:p:=by
 go_wp2_with fail;go_quiet(first|(go_at_call 101;refine Calls.quiet_of_same (aZj _))|(go_at_call 102;refine Calls.quiet_of_same (G4 _)))
 first
 |let _:=bLd;go_wp2;go_ret2;exact H1.out _ (oZ.out.1.trans ⟨rfl,rfl,rfl,kG _,λ_ _=>rfl⟩) HBd.out
 |obtain⟨v2,hv2⟩:∃v2,v1.drewN nq=v2:=⟨_,rfl⟩;rw[hv2];have uO:bW V v2:=by rw[<-hv2];exact oZ.out.2.trans ⟨rfl,rfl,rfl,kG _,λ_ _=>rfl⟩
  have aNs:Hid (bW w v2):=by show Below _ _ _;rw[<-hv2];exact oZ.out.1.trans ⟨rfl,rfl,rfl,kG _,λ_ _=>rfl⟩
  rw[HNN.out,C1.out]at b0;have z0:=bc uO xR b0;have R7:w.1.size<v2.1.size:=kC xR uO.size;have HB2:Hid (bW V v2):=uO;clear hv2 y0 y1 hl1 oZ aZj G4 H1 uO hR' kA hA;by_cases hlen:cs.length=n
  .have kl:((cs.length:Int) !=(n:Int))=false:=by simp[hlen]
   have aRl:Hid (cs.length=n):=hlen;have z1:=bc HB2.out xR b1;have z2:=bc HB2.out xR b2;have z3:=bc HB2.out xR b3;have z4:=bc HB2.out xR b4;have z5:=bc HB2.out xR b5;have z6:=bc HB2.out xR b6;have z7:=bc HB2.out xR b7;have z8:=bc HB2.out xR b8;have z9:=bc HB2.out xR b9;have bF2:=λ(q:Nat)=>aS3 cs ca n cap hlen iU od (v2.drewN q) (HIn.out.2.below ⟨aNs.out.os,aNs.out.tape,aNs.out.output,aNs.out.size,aNs.out.block⟩);rw[hlen];go_wp2_with fail;go_cut [9] (λcv wx=>∃C cb fK,cv=pP C/\Hid (xI V wx p a fa cs n C cb fK));case first=>
    clear b0 b1 b2 b3 b4 b5 b6 b7 b8 b9 hlen kl;go_region_held3(λu=>(u.cell? (aA w.1.size 0)=some (iI n)/\u.cell? (aA w.1.size 1)=some (iI p.aG)/\u.cell? (aA w.1.size 2)=some (iI p.aM)/\u.cell? (aA w.1.size 3)=some (iI p.aC)/\u.cell? (aA w.1.size 4)=some (iI p.aJ))/\u.cell? (aA w.1.size 5)=some (iI p.round)/\u.cell? (aA w.1.size 6)=some (sV a.sa p.ns a.sc)/\u.cell? (aA w.1.size 7)=some (sV a.la p.nl a.lc)/\u.cell? (aA w.1.size 8)=some (iI p.frame)/\u.cell? (aA w.1.size 9)=some (sV a.wa p.nw a.wc)) (go_keep) (first
     |(go_at_call 103;refine(bF2 _).mono ?_;rintro e v3 ⟨g,cp,rfl,hg,hck,qT⟩;have HBo:Hid (bW V v3/\(V.1.size<=g/\g<v3.1.size)/\∀j,j<cs.length->v3.cell? (aA g j)=some (iI (cs.getD j 0))):=(by have h2:=HB2.out;have h3:=h2.size;have h4:v2.1.size<=g:=hg.1;refine⟨h2.trans ⟨qT.os,qT.tape,qT.output,qT.size,λc hc=>qT.block c (kC hc h3)⟩,⟨od,hg.2⟩,hck⟩);have t0:=bc qT R7 z0;have t1:=bc qT R7 z1;have t2:=bc qT R7 z2;have t3:=bc qT R7 z3;have t4:=bc qT R7 z4;have t5:=bc qT R7 z5;have t6:=bc qT R7 z6;have t7:=bc qT R7 z7;have t8:=bc qT R7 z8;have t9:=bc qT R7 z9;clear qT hck hg))
    all_goals go_wp2_with fail
    all_goals go_meet
    all_goals refine⟨_,g,cp,rfl,?_⟩
    all_goals unfold Hid
    all_goals repeat apply xI.drew
    all_goals exact xI.of HBo.out.1 HBo.out.2.1 HBo.out.2.2
   case rest=>obtain⟨C,cb,fK,rfl,HBo⟩:=hcut;clear z0 z1 z2 z3 z4 z5 z6 z7 z8 z9 bF2 R7;have eG:=HBo.out.bel;have x6:=bc eG xR b6;have hlc:w.1.size<wc.1.size:=kC xR eG.size;have hCl:=HBo.out.lC;have bEq:bW w wc:=HBV.out.1.trans (eG.mono HBV.out.1.size);have hsl:=bAr p.nd p.fr p.td a.sa p.ns a.sc wc od (HIn.out.1.mP.below bEq);clear eG;go_wp2_with fail;refine hsl.mono ?_;rintro e v5 ⟨a',cap',rfl,hr5,hf5,hB5⟩;obtain⟨X0,hX⟩:=HBo.out.next (cap':=cap') (by rw[HNN.out,C1.out]) aRl.out hB5 hr5 hf5;have e6:=bc hB5 hCl (HBo.out.cel 6 _ rfl);have e7:=bc hB5 hCl (HBo.out.cel 7 _ rfl);have e9:=bc hB5 hCl (HBo.out.cel 9 _ rfl);have g6:=(hB5.frozen (p:=(aA C 6)) hCl).trans (HBo.out.z 6);have g7:=(hB5.frozen (p:=(aA C 7)) hCl).trans (HBo.out.z 7);have g9:=(hB5.frozen (p:=(aA C 9)) hCl).trans (HBo.out.z 9);have hC5:C<v5.1.size:=kC hCl hB5.size;have HX:Hid _:=hX;clear hsl hr5 hf5 hB5 hX x6 hlc hCl bEq;go_wp2_with fail;have bKu:=0;exact zKz
  .have kl:((cs.length:Int) !=(n:Int))=true:=by simp;omega
   have kl2:¬((cs.length:Int)=(n:Int)):=od;have HD:Hid (tI w p fa cs (rT (tU #[.pointer none,.iface 30 (iI 7)])) v2):=⟨aNs.out,7,-1,.inr ⟨HIs.out,rfl,.inr ⟨HOk.out,.inl ⟨by rw[C1.out];exact hlen,rfl⟩⟩⟩,.inl ⟨og,_,rfl,.inr (.inl ⟨rfl,og,rfl⟩)⟩⟩;go_wp2;go_ret2;exact HD.out):p:=h
