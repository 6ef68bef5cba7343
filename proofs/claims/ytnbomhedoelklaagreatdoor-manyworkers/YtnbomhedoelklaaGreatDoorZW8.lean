import Derived.Test.YtnbomhedoelklaaGreatDoorZW2
import Derived.Deep.RegionHeld3
set_option maxRecDepth 100000
namespace Go.Proofs.YtnbomhedoelklaaGreatDoor
variable {p:Prop}
theorem zGw(h:p:=by
 clear hSP;have bFp:Hid (∀v7,bW v6 v7->∀q,Calls prog 87 #[pP C] (v7.drewN q) λe w'=>e=rT (iI SP)/\bW v7 w'):=λv7 h7 q=>by exact zBa
 go_region_held3(λu=>u.cell? (aA w.1.size 2)=some (iI p.aM)) (go_keep) (first
  |(go_at_call 105;refine(R6 _).mono ?_;rintro e v7 ⟨rfl,hB7⟩;have t2:=bc hB7 hl6 s2;have HB7:Hid (bW v6 v7):=⟨hB7.os,hB7.tape,hB7.output,hB7.size,hB7.block⟩;have hl7:w.1.size<v7.1.size:=kC hl6 hB7.size;have bFo:=bFp.out v7 HB7.out;clear hB7)
  |(go_at_call 87;refine(bFo 0).mono ?_;rintro e v8 ⟨rfl,hB8⟩;have t28:=bc hB8 hl7 t2;have HB8:Hid (bW v6 v8):=(HB7.out.trans (hB8.mono HB7.out.size));clear hB8))
 first
 |let _:=m29;have hX8:=HX.out.below HB8.out;have x7:=bc hX8.bel xR b7;have hl8:w.1.size<v8.1.size:=kC xR hX8.bel.size;have hVw:=HBV.out.2;have bDm:Hid (bW w v8):=HBV.out.1.trans (hX8.bel.mono HBV.out.1.size);have hfi:=aO4 C p fa cs cb fK a' cap' X0 a.la a.lc w v8 hX8.hd hX8.z hX8.c13 hX8.c14 ⟨by have:=hX8.lC.1;omega,hX8.lC.2⟩ (λc hc=>⟨⟨by have:=(hX8.lX c hc).1.1;omega,(hX8.lX c hc).1.2⟩,(hX8.lX c hc).2⟩) bDm.out HIn.out.1.aK HPB.out;clear hX8 t28 s2 bFo R6 bFp;go_wp2_with fail;refine hfi.mono ?_;rintro e v9 ⟨rfl,hB9,O,m,bEr,hO9⟩;have HD:Hid (tI w p fa cs (rT (tU #[pP C,.nilIface])) v9):=
   ⟨bDm.out.trans hB9,0,-1,.inr ⟨HIs.out,rfl,.inr ⟨HOk.out,.inr ⟨by rw[C1.out];exact aRl.out,.inr ⟨bIo.out,rfl⟩⟩⟩⟩,.inr ⟨rfl,O,C,m,rfl,bEr,hO9⟩⟩
  clear hfi hB9 bEr hO9;go_wp2;go_ret2;exact HD.out
 |all_goals go_wp2
  all_goals go_ret2
  all_goals exact H2.out _ (aFu.out.trans ⟨HB8.out.os,HB8.out.tape,HB8.out.output,HB8.out.size,λc hc=>HB8.out.block c (kC hc aFu.out.size)⟩) HNo.out):p:=h
theorem zK6(h:p:=by
 have hbb:bW w v1:=qK.out.trans ⟨cV.os,cV.tape,cV.output,cV.size,λc hc=>cV.block c (kC hc qK.out.size)⟩
 first
 |let _:=bKx;have hlo:=HLO.out v1 hbb;have y0:=bc cV hl1 q0;have R7:w.1.size<v1.1.size:=kC hl1 cV.size;have oZ:Hid (bW w v1/\bW V v1):=⟨hbb,cV⟩;have HGC:Hid ((V.1.size<=g/\g<v1.1.size)/\∀j,j<n->v1.cell? (aA g j)=some (iI (CT j))):=⟨hg,hgc⟩;have HFA:Hid (pU p fa cs r=false):=hBY;clear HLO hbb cV hg hgc hBY;go_wp2_with fail;refine hlo.mono ?_;rintro e v2 ⟨T,rfl,hT,hLT,iT⟩;have HV2:Hid ((w.1.size<v2.1.size/\v2.cell? (aA w.1.size 3)=some (sV a.ma nM a.mc))/\((V.1.size<=g/\g<v2.1.size)/\∀j,j<n->v2.cell? (aA g j)=some (iI (CT j)))/\(V.1.size<=T/\uZ v2 T ns (lA r nL))/\bW w v2):=by obtain⟨h1,h2⟩:=oZ.out;obtain⟨⟨g1,g2⟩,g3⟩:=HGC.out;have hV2:bW V v2:=h2.trans (iT.mono h2.size);exact⟨⟨kC R7 iT.size,bc hV2 hl1 q3⟩,⟨⟨g1,kC g2 iT.size⟩,λj hj=>bc iT g2 (g3 j hj)⟩,⟨kH h2.size hT,hLT⟩,h1.trans (iT.mono h1.size)⟩
  have HI0:Hid (dC O v2 v2 C p fa cs s rd B m):=⟨O,aR.refl _ _,HC0.out.below HV2.out.2.2.2⟩;have HOO:Hid (∀c,c∈O->c<w.1.size):=HC0.out.lt;have hVw:w.1.size<V.1.size:=hl1;have qN:=HI0.out.base.lc;have c6:=HI0.out.base.c6;rw[aNu.out]at c6;clear hlo hT hLT iT oZ HGC y0 R7 q0 q1 q2 q3 hl1 qS;go_wp2_with fail;clear c6 qN;go_loopw[31] (λt wr=>∃i:Nat,i<=ns/\t=iI i/\Hid (dC O v2 wr C p fa cs (s.mP p.S (r.hap fa) rd i) rd (B+80*i) m)) (λt _=>ns-(intOf t).toNat);case atStart=>exact⟨0,kI _,rfl,HI0⟩
  case round=>
   clear HI0;obtain⟨i,hi,rfl,HI⟩:=hrel;by_cases hlt:i<ns
   .have bMg:ns<=32:=by have:=HNS.out.1;rw[aNu.out]at this;exact this
    have ii:(i:Int)<(ns:Int):=od;obtain⟨sb,bM6,hsa,hsX,hsc⟩:=HI.out.base.sl (by rw[aNu.out];omega);obtain⟨s0,s1,s2⟩:=hsc i (by rw[aNu.out];exact hlt);have hsl:=HI.out.base.lx _ hsX;have hiP:Hid (i<p.ns):=by show i<p.ns;rw[aNu.out];exact hlt
    obtain⟨_,_,_,_,hnd⟩:=HSL.out i hiP.out;rw[hnd]at s0;rw[hsa];have HBW:Hid (bW w v2):=HV2.out.2.2.2;have rm:wr.cell? (aA w.1.size 3)=some (sV a.ma nM a.mc):=(HI.out.box HV2.out.1.1 (λy=>kW _ (HOO.out _ y)) 3).trans HV2.out.1.2;have hlw:w.1.size<wr.1.size:=kC HV2.out.1.1 HI.out.size;obtain⟨FRi,bEu⟩:∃x,p.fr i=x:=⟨_,rfl⟩;obtain⟨TDi,bEx⟩:∃x,p.td i=x:=⟨_,rfl⟩;rw[bEu]at s1;rw[bEx]at s2;obtain⟨AE,aA6⟩:∃x:Nat,p.S.nd i=x:=⟨_,rfl⟩;have bAd:Hid (p.S.nd i=AE):=aA6;rw[aA6]at s0;clear bEu bEx hsc aA6 hnd;obtain⟨b0,b1,b2,bB,bS⟩:=bAo wr (iI AE) (iI FRi) (iI TDi) 120;have rm1:=bc bB hlw rm;have hwb:w.1.size<(wr.alloc (.cells #[iI AE,iI FRi,iI TDi] 120)).1.size:=by rw[bS];omega
    have hwc:wr.1.size<(wr.alloc (.cells #[iI AE,iI FRi,iI TDi] 120)).1.size:=by rw[bS];omega
    have HI1:Hid (dC O v2 (wr.alloc (.cells #[iI AE,iI FRi,iI TDi] 120)) C p fa cs (s.mP p.S (r.hap fa) rd i) rd (B+80*i) m):=HI.out.below bB;have hof:=HOF.out v2 (wr.alloc (.cells #[iI AE,iI FRi,iI TDi] 120)) _ _ AE HI1.out HBW.out;have hse:=C6.out O v2 (wr.alloc (.cells #[iI AE,iI FRi,iI TDi] 120)) _ _ i HI1.out hiP.out (by have:=HNS.out;omega) (by have:=HNS.out;have:=hiP.out;omega);rw[bAd.out]at hse;clear bB bS rm HI hsl hsa hsX;go_wp2_with fail;clear s0 s1 s2;generalize(wr.alloc (.cells #[iI AE,iI FRi,iI TDi] 120))=V1 at *;refine hof.mono ?_;rintro e v7 ⟨rfl,hv7⟩;replace hv7:=hv7.symm;subst hv7;clear hof;go_wp2_with fail;refine hse.mono ?_;rintro e v3 ⟨mem,aI,LK,SQ,SD,rfl,hx,hI3⟩;obtain⟨fx,fz,fB,fS⟩:=T5 v3 #[iI AE,iI i,iI mem,iI LK,iI SQ,sT SD] 191;obtain⟨O3,hF3,hC3⟩:=hI3;have HF3:Hid (aR O O3 v2 (v3.alloc (.cells #[iI AE,iI i,iI mem,iI LK,iI SQ,sT SD] 191))):=hF3.trans (aR.of_below fB);have hI4:dC O v2 (v3.alloc (.cells #[iI AE,iI i,iI mem,iI LK,iI SQ,sT SD] 191)) C p fa cs ((s.mP p.S (r.hap fa) rd i).nF p (r.hap fa) rd i) rd (B+80*i) m:=⟨O3,HF3.out,hC3.below fB⟩;have hI5:dC O3 (v3.alloc (.cells #[iI AE,iI i,iI mem,iI LK,iI SQ,sT SD] 191)) (v3.alloc (.cells #[iI AE,iI i,iI mem,iI LK,iI SQ,sT SD] 191)) C p fa cs ((s.mP p.S (r.hap fa) rd i).nF p (r.hap fa) rd i) rd (B+80*i) m:=⟨O3,aR.refl _ _,hC3.below fB⟩;have HBO:Hid (v3.1.size∉O3/\T∉O3):=⟨λy=>kW _ (hC3.lt _ y),λy=>by
     rcases hF3.fresh _ y with q|q
     .have:=HOO.out _ q;have:=HV2.out.2.2.1.1;omega
     .have:=HV2.out.2.2.1.2.lt;omega⟩
    have g0:(v3.alloc (.cells #[iI AE,iI i,iI mem,iI LK,iI SQ,sT SD] 191)).cell? (aA v3.1.size 0)=some (iI AE):=fx 0 _ rfl;have g1:(v3.alloc (.cells #[iI AE,iI i,iI mem,iI LK,iI SQ,sT SD] 191)).cell? (aA v3.1.size 1)=some (iI i):=fx 1 _ rfl;have g2:(v3.alloc (.cells #[iI AE,iI i,iI mem,iI LK,iI SQ,sT SD] 191)).cell? (aA v3.1.size 2)=some (iI mem):=fx 2 _ rfl;have g3:(v3.alloc (.cells #[iI AE,iI i,iI mem,iI LK,iI SQ,sT SD] 191)).cell? (aA v3.1.size 3)=some (iI LK):=fx 3 _ rfl;have g4:(v3.alloc (.cells #[iI AE,iI i,iI mem,iI LK,iI SQ,sT SD] 191)).cell? (aA v3.1.size 4)=some (iI SQ):=fx 4 _ rfl;have g5:(v3.alloc (.cells #[iI AE,iI i,iI mem,iI LK,iI SQ,sT SD] 191)).cell? (aA v3.1.size 5)=some (sT SD):=fx 5 _ rfl;have C3:v3.1.size<(v3.alloc (.cells #[iI AE,iI i,iI mem,iI LK,iI SQ,sT SD] 191)).1.size:=by rw[fS];omega
    have hTO:T∉O:=λy=>by have:=HOO.out _ y;have:=HV2.out.2.2.1.1;omega
    have hTl:T<v2.1.size:=HV2.out.2.2.1.2.lt;have t0:(v3.alloc (.cells #[iI AE,iI i,iI mem,iI LK,iI SQ,sT SD] 191)).cell? ⟨T,i*2,none⟩=some (iI (lA r nL i 0)):=(hI4.box hTl hTO (i*2)).trans (HV2.out.2.2.1.2.c i 0 hlt og);have t1:(v3.alloc (.cells #[iI AE,iI i,iI mem,iI LK,iI SQ,sT SD] 191)).cell? ⟨T,i*2+1,none⟩=some (iI (lA r nL i 1)):=(hI4.box hTl hTO (i*2+1)).trans (HV2.out.2.2.1.2.c i 1 hlt og);have hTw:T<(v3.alloc (.cells #[iI AE,iI i,iI mem,iI LK,iI SQ,sT SD] 191)).1.size:=kC hTl hI4.size;have hhe:=λ(u:Nat)=>HHE.out O3 (v3.alloc (.cells #[iI AE,iI i,iI mem,iI LK,iI SQ,sT SD] 191)) ((v3.alloc (.cells #[iI AE,iI i,iI mem,iI LK,iI SQ,sT SD] 191)).drewN u) _ _ i mem LK SQ SD aI (hI5.drawn u) hiP.out (by have:=HNS.out;have:=hiP.out;omega) (by rw[bAd.out];exact hx);rw[bAd.out]at hhe;have HNX:Hid (∀v,dC O v2 v C p fa cs ((s.mP p.S (r.hap fa) rd i).slot p.S (r.hap fa) rd i) rd (B+80*i+80) m->dC O v2 v C p fa cs (s.mP p.S (r.hap fa) rd (i+1)) rd (B+80*(i+1)) m):=λv hv=>hv;generalize lA r nL i 0=L0 at *;generalize lA r nL i 1=L1 at *;clear hse hx hF3 hC3 fx fz fB fS hI4 hI5 rm1 hwb;go_wp2_with fail;generalize(v3.alloc (.cells #[iI AE,iI i,iI mem,iI LK,iI SQ,sT SD] 191))=V3 at *;go_region_held3(λu=>(u.cell? (aA v3.1.size 0)=some (iI AE)/\u.cell? (aA v3.1.size 1)=some (iI i)/\u.cell? (aA v3.1.size 2)=some (iI mem)/\u.cell? (aA v3.1.size 3)=some (iI LK)/\u.cell? (aA v3.1.size 4)=some (iI SQ)/\u.cell? (aA v3.1.size 5)=some (sT SD))/\u.cell? ⟨T,i*2,none⟩=some (iI L0)/\u.cell? ⟨T,i*2+1,none⟩=some (iI L1)) (go_keep) (first
     |(go_at_call 117;refine(hhe _).mono ?_;rintro e v4 ⟨rfl,hI6⟩;have HI6:Hid (dC O v2 v4 C p fa cs (s.mP p.S (r.hap fa) rd (i+1)) rd (B+80*(i+1)) m):=(by obtain⟨O9,f9,c9⟩:=hI6;exact HNX.out _ ⟨O9,HF3.out.trans f9,c9⟩);have z0:=(hI6.box C3 HBO.out.1 0).trans g0;have z1:=(hI6.box C3 HBO.out.1 1).trans g1;have z2:=(hI6.box C3 HBO.out.1 2).trans g2;have z3:=(hI6.box C3 HBO.out.1 3).trans g3;have z4:=(hI6.box C3 HBO.out.1 4).trans g4;have z5:=(hI6.box C3 HBO.out.1 5).trans g5;have z6:=(hI6.box hTw HBO.out.2 (i*2)).trans t0;have z7:=(hI6.box hTw HBO.out.2 (i*2+1)).trans t1;clear hI6))
    clear z0 z1 z2 z3 z4 z5 z6 z7 g0 g1 g2 g3 g4 g5 t0 t1 hhe HNX HF3;go_wp2;go_roundw;case rel=>exact⟨i+1,od,Od,HI6⟩
    case measure=>simp[intOf];omega
   .have jT:i=ns:=by omega
    have qN:=HI.out.base.lc;have c12:=HI.out.base.c12;have c11:=HI.out.base.c11;have zC:=HI.out.base.z;have z11:=zC 11;have z12:=zC 12;have kk:decide (i<ns)=false:=kD hlt;have HD:Hid (X4 w ((wr.setCell (aA C 12) (iI (rd+1))).setCell (aA C 11) (sL g n gc)) O C p fa cs s rd B m r (rT (dG 0))):=by
     obtain⟨O9,f9,c9⟩:=HI.out;obtain⟨⟨g1,g2⟩,g3⟩:=HV2.out.2.1;have hgO:g∉O:=λy=>by have:=HOO.out _ y;omega
     have hg9:g∉O9:=λy=>by
      rcases f9.fresh _ y with q|q
      .exact hgO q
      .omega
     rw[jT]at c9;have c9':Cl wr O9 C p fa cs (s.mP p.S (r.hap fa) rd p.ns) rd (B+80*p.ns) m:=by rw[aNu.out];exact c9
     obtain⟨m',d1,d2⟩:=HDN.out wr O9 m _ g gc c9' (kC g2 f9.size) hg9 (λj hj=>(f9.cell (p:=(aA g j)) g2 hgO).trans (g3 j hj));have hF:aR O O9 w wr:=(aR.of_below HV2.out.2.2.2).trans f9;refine⟨g::O9,⟨d2.os.trans hF.os,d2.tape.trans hF.tape,d2.output.trans hF.output,kH hF.size d2.size,λc hc hnc=>?_,λc hc=>?_⟩,.inr ⟨HFA.out,rfl,m',by rw[HON.out];exact d1⟩⟩
     .have hcC:c≠C:=λe=>hnc (e▸HC0.out.mem);exact(d2.block c (kC hc hF.size) hcC hcC).trans (hF.block c hc hnc)
     .rcases kQ hc with y|y
      .subst y;right;omega
      .exact hF.fresh c y
    clear jT HI HDN zC;have hrw:-9223372036854775808<=rd+1:=by have:=HRD.out;omega
    go_wp2;go_ret;exact HD.out
 |exact⟨O,aR.of_below hbb,.inl ⟨hBY,rfl,HC0.out.below hbb⟩⟩):p:=h
