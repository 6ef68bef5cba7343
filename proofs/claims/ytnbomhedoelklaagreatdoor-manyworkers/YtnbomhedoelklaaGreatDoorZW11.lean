import Derived.Test.YtnbomhedoelklaaGreatDoorZW2
import Derived.Deep.RegionHeld3
set_option maxRecDepth 100000
namespace Go.Proofs.YtnbomhedoelklaaGreatDoor
variable {p:Prop}
theorem zGy(h:p:=by
 obtain⟨nL,hnL⟩:∃nL,r.nL=nL:=⟨_,rfl⟩;obtain⟨nR,hnR⟩:∃nR,r.nR=nR:=⟨_,rfl⟩;obtain⟨nD,hnD⟩:∃nD,r.bP.length=nD:=⟨_,rfl⟩;obtain⟨nM,hnM⟩:∃nM,r.lE.length=nM:=⟨_,rfl⟩
 first|let _:=m31;rw[hnL,hnR,hnD,hnM]at HAG;rw[hnL]at HLO HHE;rw[hnM]at HOF|rw[hnR]at HRE;rw[hnD]at HOF HDI
 rw[hnL,hnR,hnD,hnM];obtain⟨⟨q0,q1,q2,q3⟩,qB,qS⟩:=bEa w (sV a.la nL a.lc) (sV a.ra nR a.rc) (sV a.da nD a.dc) (sV a.ma nM a.mc) 89;have qK:Hid (bW w (w.alloc (.cells #[sV a.la nL a.lc,sV a.ra nR a.rc,sV a.da nD a.dc,sV a.ma nM a.mc] 89))):=qB
 first|let _:=m31;have hag:=HAG.out (w.alloc (.cells #[sV a.la nL a.lc,sV a.ra nR a.rc,sV a.da nD a.dc,sV a.ma nM a.mc] 89)) qB;have HFO:Hid (w.1.size∉O):=λy=>kW _ (h.lt _ y)|have HQS:Hid ((w.alloc (.cells #[sV a.la nL a.lc,sV a.ra nR a.rc,sV a.da nD a.dc,sV a.ma nM a.mc] 89)).1.size=w.1.size+1):=qS;have d11:=bc qB qN c11;have d1:=bc qB qN c1;have d4:=bc qB qN c4;have xR:C<(w.alloc (.cells #[sV a.la nL a.lc,sV a.ra nR a.rc,sV a.da nD a.dc,sV a.ma nM a.mc] 89)).1.size:=O0
 have hl1:w.1.size<(w.alloc (.cells #[sV a.la nL a.lc,sV a.ra nR a.rc,sV a.da nD a.dc,sV a.ma nM a.mc] 89)).1.size:=O0
 first|let _:=m31;obtain⟨n,hpn⟩:∃n,p.n=n:=⟨_,rfl⟩;have C1:Hid (p.n=n):=hpn;rw[hpn]at hag HDN;obtain⟨ns,bBm⟩:∃ns,p.ns=ns:=⟨_,rfl⟩;have aNu:Hid (p.ns=ns):=bBm;rw[bBm]at HLO;have HPO:Hid (∀(w':WA) (e:Ending),X4 w w' O C p fa cs s rd B m r e↔X4 w w' O C p fa cs s rd B m r e):=λ_ _=>Iff.rfl;clear hnL hnR hnD hnM hr h jM hb pA sS iU hf hf3 hrd HPO qB hpn bBm T6 hB;go_enter func83,ntmps83;go_wp2_with fail;refine hag.mono ?_;rintro e v1 ⟨cV,hAI⟩;skip|clear qB qS jT ck fN hr hnL hnR hnD hnM c0 c1 c3 c4 c10 c11 aA3 HRI q0 q3;go_enter func113,ntmps113;go_wp2_with fail
 generalize(w.alloc (.cells #[sV a.la nL a.lc,sV a.ra nR a.rc,sV a.da nD a.dc,sV a.ma nM a.mc] 89))=V at *
 first
 |let _:=m31;clear hag HAG;rcases hAI with⟨hBY,rfl⟩|⟨hBY,g,gc,rfl,hg,hgc⟩
  .have HD:Hid (X4 w v1 O C p fa cs s rd B m r (rT (dG 6))):=by exact zK6
   clear HDN HHE C6 HOF HLO;have h6:dG 6=.iface 30 (iI 6):=rfl;rw[h6]at HD⊢;go_wp2;go_ret;exact HD.out
  .have bKx:=0;exact zK6
 |go_region_held3(λu=>u.cell? (aA C 11)=some (sL cb n fK)/\u.cell? (aA C 1)=some (iI f)/\u.cell? (aA w.1.size 1)=some (sV a.ra nR a.rc)) (go_keep) (first
   |(go_at_call 147;refine(HRO.out v1 _ _ _ _ _ HR1.out.1 HR1.out.2.1).mono ?_;rintro e v2 ⟨g,gc,rfl,hg,iT⟩;have HG2:Hid ((w.1.size<g/\g<v2.1.size/\(∀j,j<n->v2.cell? (aA g j)=some (iI (ST j)))/\∀j,v2.frozen? (aA g j)=false)/\bW V v2):=⟨⟨kC (kC hl1 HR1.out.2.2.size) hg.1,hg.2⟩,HR1.out.2.2.trans (iT.mono HR1.out.2.2.size)⟩;have x11:=bc HG2.out.2 xR d11;have x1:=bc HG2.out.2 xR d1;have xq:=bc HG2.out.2 hl1 q1;clear hg iT)
   |(go_at_call 148;refine(HRE.out V.drew ⟨qK.out.os,qK.out.tape,qK.out.output,qK.out.size,qK.out.block⟩).mono ?_;rintro e v1 ⟨R,G,rW,Bi,rfl,hT,cV⟩;have HR1:Hid (bW w v1/\RTab v1 _ R n n RA G rW Bi (sV none 0 0)/\bW V v1):=⟨qK.out.trans ⟨cV.os,cV.tape,cV.output,cV.size,λc hc=>cV.block c (kC hc qK.out.size)⟩,hT,⟨cV.os,cV.tape,cV.output,cV.size,cV.block⟩⟩;have x11:=bc HR1.out.2.2 xR d11;have x1:=bc HR1.out.2.2 xR d1;have xq:=bc HR1.out.2.2 hl1 q1;clear hT cV))
  have R7:C<v2.1.size:=kC xR HG2.out.2.size;have x4:=bc HG2.out.2 xR d4;clear x11 x1 xq HR1 HRO HRE d11 d1 d4 q1;go_wp2_with fail;refine(bDn.out _).mono ?_;rintro e v3 ⟨L,rfl,c1,c2,c3,c4⟩;have HS:Hid ((V.1.size<=g/\g<v3.1.size/\(∀j,j<n->v3.cell? (aA g j)=some (iI (if j<0 then CT j else ST j)))/\∀j,v3.frozen? (aA g j)=false)/\(v3.cell? (aA L 0)=some (iI aJ)/\L≠g)/\bW V v3):=by obtain⟨⟨a1,a2,a3,a4⟩,a5⟩:=HG2.out;have:=HQS.out;refine⟨⟨od,kC a2 c4.size,λj hj=>?_,λj=>(c4.frozen (p:=(aA g j)) a2).trans (a4 j)⟩,⟨c2,od⟩,a5.trans (c4.mono a5.size)⟩;rw[kJ (kV _)];exact bc c4 a2 (a3 j hj)
  clear HG2 bDn c1 c2 c3 c4 x4 R7;go_wp2_with fail;go_loopw[38] (λt wr=>∃k:Nat,k<=n/\t=iI k/\Hid ((V.1.size<=g/\g<wr.1.size/\(∀j,j<n->wr.cell? (aA g j)=some (iI (if j<k then CT j else ST j)))/\∀j,wr.frozen? (aA g j)=false)/\(wr.cell? (aA L 0)=some (iI aJ)/\L≠g)/\bW V wr)) (λt _=>n-(intOf t).toNat);case atStart=>exact⟨0,kI _,rfl,HS⟩
  case round=>
   clear HS;obtain⟨k,hk,rfl,HI⟩:=hrel;by_cases hlt:k<n
   .have kk:(k:Int)<(n:Int):=by omega
    have y0:=HI.out.1.2.2.1 k hlt;rw[kJ (kW _)]at y0;have yz:=HI.out.1.2.2.2 k;have C3:g<wr.1.size:=HI.out.1.2.1;have q2':=bc HI.out.2.2 hl1 q2;have hwl:w.1.size<wr.1.size:=kC hl1 HI.out.2.2.size;have lc:=HI.out.2.1.1;have hof:=λ(u:Nat)=>HOF.out (wr.drewN u) k (qK.out.trans ⟨HI.out.2.2.os,HI.out.2.2.tape,HI.out.2.2.output,HI.out.2.2.size,λc hc=>HI.out.2.2.block c (kC hc qK.out.size)⟩);have hdi:=HDI.out k;generalize(if k<nD then r.bP.getD k 0 else 0)=OV at hof hdi;have hco:=λ(u:Nat)=>HCO.out L (wr.drewN u) OV lc;rw[hdi.1]at hco;have hmi:=HMI.out k hlt;have hto:=HTO.out k;have hdb:=hdi.2;have HN:Hid (∀u,((V.1.size<=g/\g<((wr.setCell (aA g k) (iI (ST k+DV k))).drewN u).1.size/\(∀j,j<n->((wr.setCell (aA g k) (iI (ST k+DV k))).drewN u).cell? (aA g j)=some (iI (if j<k+1 then CT j else ST j)))/\∀j,((wr.setCell (aA g k) (iI (ST k+DV k))).drewN u).frozen? (aA g j)=false)/\(((wr.setCell (aA g k) (iI (ST k+DV k))).drewN u).cell? (aA L 0)=some (iI aJ)/\L≠g)/\bW V ((wr.setCell (aA g k) (iI (ST k+DV k))).drewN u))):=λu=>by
     obtain⟨⟨a1,a2,a3,a4⟩,⟨a5,a6⟩,a7⟩:=HI.out;refine⟨⟨a1,?_,λj hj=>?_,λj=>bJ.trans (a4 j)⟩,⟨(aB (.inl a6)).trans a5,a6⟩,?_⟩
     .show g<(wr.setCell (aA g k) (iI (ST k+DV k))).1.size;simpa using a2
     .show(wr.setCell (aA g k) (iI (ST k+DV k))).cell? (aA g j)=_;by_cases e:j=k
      .subst e;rw[kK (Nat.lt_succ_self _),hto];exact aZ (a3 j hj)
      .have h2:=a3 j hj;have e2:(if j<k+1 then CT j else ST j)=if j<k then CT j else ST j:=by
        by_cases q:j<k
        .rw[kK q,kK od]
        .rw[kJ q,kJ od]
       rw[e2];exact(aB (.inr e)).trans h2
     .exact a7.trans ((((aW.refl g g wr).set (p:=(aA g k)) (.inl rfl) _).trans (aW.drawn u)).below a7.size a1 a1)
    clear hdi HI hto;generalize ST k=SK at *;generalize DV k=DK at *;have hwr:IntKind.i64.wrap (SK+DK)=SK+DK:=O4;go_wp2_with fail;go_region_with(first|(go_at_call 116;refine(hof _).mono ?_;rintro e v4 ⟨rfl,rfl⟩)|(go_at_call 177;refine(hco _).mono ?_;rintro e v4 ⟨rfl,rfl⟩));all_goals
     go_wp2
     go_roundw
     case rel=>exact⟨k+1,od,Od,HN.out 1⟩
     case measure=>simp[intOf];omega
   .have hkn:k=n:=by omega
    have HD:Hid (bI wr (some (aA g 0)) ((List.range n).map CT)/\(w.1.size<=g/\g<wr.1.size)/\(∀j,j<n->wr.cell? (aA g j)=some (iI (CT j)))/\bW w wr):=by
     obtain⟨⟨a1,a2,a3,a4⟩,⟨a5,a6⟩,a7⟩:=HI.out;rw[hkn]at a3;have a3':∀j,j<n->wr.cell? (aA g j)=some (iI (CT j)):=λj hj=>by have:=a3 j hj;rwa [kK hj]at this
     refine⟨λ_=>⟨g,0,rfl,a2,λj hj=>?_⟩,⟨by have:=HQS.out;omega,a2⟩,a3',qK.out.trans ⟨a7.os,a7.tape,a7.output,a7.size,λc hc=>a7.block c (kC hc qK.out.size)⟩⟩;rw[List.length_map,List.length_range]at hj;rw[Nat.zero_add,a3' j hj];simp[hj]
    have kk:decide (k<n)=false:=kD hlt;have R6:=aGb (some (aA g 0)) gc n ((List.range n).map CT) oe wr HD.out.1 od;rw[<-HBY.out]at R6;clear hkn hlt HI;go_wp2_with fail;refine R6.mono ?_;rintro e v5 ⟨rfl,hb5⟩;have HD5:Hid (bW w v5/\g<v5.1.size/\∀j,j<n->v5.cell? (aA g j)=some (iI (CT j))):=by obtain⟨_,⟨_,b2⟩,b3,b4⟩:=HD.out;exact⟨b4.trans (hb5.mono b4.size),kC b2 hb5.size,λj hj=>bc hb5 b2 (b3 j hj)⟩
    have HDg:Hid (w.1.size<=g):=HD.out.2.1.1;clear R6 hb5 HD HBY;cases BY
    .go_wp2;go_ret2;exact⟨HD5.out.1,.inr ⟨rfl,_,_,rfl,⟨HDg.out,HD5.out.2.1⟩,HD5.out.2.2⟩⟩
    .go_wp2;go_ret2;exact⟨HD5.out.1,.inl ⟨rfl,rfl⟩⟩):p:=h
