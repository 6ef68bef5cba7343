import Derived.Test.YtknimkfdnanejaaGreatDoorZW2
import Derived.Deep.RegionHeld3
set_option maxRecDepth 100000
namespace Go.Proofs.YtknimkfdnanejaaGreatDoor
variable {p:Prop}
theorem zJu(h:p:=by
 obtain⟨nL,hnL⟩:∃nL,r.nL=nL:=⟨_,rfl⟩;obtain⟨nR,hnR⟩:∃nR,r.nR=nR:=⟨_,rfl⟩;obtain⟨nD,hnD⟩:∃nD,r.bA.length=nD:=⟨_,rfl⟩;obtain⟨nM,hnM⟩:∃nM,r.bH.length=nM:=⟨_,rfl⟩
 first|have _:=m42;rw[hnL,hnR,hnD,hnM]at HAG;rw[hnL]at HLO HHE;rw[hnM]at HOF|rw[hnR]at HRE;rw[hnD]at HOF HDI
 rw[hnL,hnR,hnD,hnM];obtain⟨⟨q0,q1,q2,q3⟩,qB,qS⟩:=bEn w (sV a.la nL a.lc) (sV a.ra nR a.rc) (sV a.da nD a.dc) (sV a.ma nM a.mc) 68;have uO:Hid (bW w (w.alloc (.cells #[sV a.la nL a.lc,sV a.ra nR a.rc,sV a.da nD a.dc,sV a.ma nM a.mc] 68))):=qB
 first|have _:=m42;have hag:=HAG.out (w.alloc (.cells #[sV a.la nL a.lc,sV a.ra nR a.rc,sV a.da nD a.dc,sV a.ma nM a.mc] 68)) qB;have HFO:Hid (w.heap.size∉O):=fun y=>kU _ (h.lt _ y)|have HQS:Hid ((w.alloc (.cells #[sV a.la nL a.lc,sV a.ra nR a.rc,sV a.da nD a.dc,sV a.ma nM a.mc] 68)).heap.size=w.heap.size+1):=qS;have d11:=bc qB sG c11;have d1:=bc qB sG c1;have d4:=bc qB sG c4;have tQ:C<(w.alloc (.cells #[sV a.la nL a.lc,sV a.ra nR a.rc,sV a.da nD a.dc,sV a.ma nM a.mc] 68)).heap.size:=jc
 have N5:w.heap.size<(w.alloc (.cells #[sV a.la nL a.lc,sV a.ra nR a.rc,sV a.da nD a.dc,sV a.ma nM a.mc] 68)).heap.size:=jc
 first|have _:=m42;obtain⟨n,hpn⟩:∃n,p.n=n:=⟨_,rfl⟩;have L8:Hid (p.n=n):=hpn;rw[hpn]at hag HDN;obtain⟨ns,bBw⟩:∃ns,p.ns=ns:=⟨_,rfl⟩;have aOd:Hid (p.ns=ns):=bBw;rw[bBw]at HLO;have HPO:Hid (∀(w':World) (e:Ending),Z6 w w' O C p fa cs s rd B m r e↔Z6 w w' O C p fa cs s rd B m r e):=fun _ _=>Iff.rfl;clear hnL hnR hnD hnM hr h lF hb jB mR lK hf hf3 sH HPO qB hpn bBw wS hB;go_enter func74,ntmps74;go_wp2_with fail;refine hag.mono ?_;rintro e v1 ⟨dB,hAI⟩;skip|clear qB qS eE ck dI hr hnL hnR hnD hnM c0 c1 c3 c4 c10 c11 uS HRI q0 q3;go_enter func125,ntmps125;go_wp2_with fail
 generalize(w.alloc (.cells #[sV a.la nL a.lc,sV a.ra nR a.rc,sV a.da nD a.dc,sV a.ma nM a.mc] 68))=V at *
 first
 |have _:=m42;clear hag HAG;rcases hAI with⟨hBY,rfl⟩|⟨hBY,g,gc,rfl,hg,hgc⟩
  ·have HD:Hid (Z6 w v1 O C p fa cs s rd B m r (rT (fI 6))):=by exact zOc
   clear HDN HHE H4 HOF HLO;have h6:fI 6=.iface 25 (iI 6):=rfl;rw[h6]at HD⊢;go_wp2;go_ret;exact HD.out
  ·have bL9:=0;exact zOc
 |go_region_held3(fun u=>u.cell? (aA C 11)=some (sL cb n cI)/\u.cell? (aA C 1)=some (iI f)/\u.cell? (aA w.heap.size 1)=some (sV a.ra nR a.rc)) (go_keep) (first
   |(go_at_call 167;refine(HRO.out v1 _ _ _ _ _ HR1.out.1 HR1.out.2.1).mono ?_;rintro e v2 ⟨g,gc,rfl,hg,dQ⟩;have HG2:Hid ((w.heap.size<g/\g<v2.heap.size/\(∀j,j<n->v2.cell? (aA g j)=some (iI (ST j)))/\∀j,v2.frozen? (aA g j)=false)/\bW V v2):=⟨⟨kB (kB N5 HR1.out.2.2.size) hg.1,hg.2⟩,HR1.out.2.2.trans (dQ.mono HR1.out.2.2.size)⟩;have x11:=bc HG2.out.2 tQ d11;have x1:=bc HG2.out.2 tQ d1;have xq:=bc HG2.out.2 N5 q1;clear hg dQ)
   |(go_at_call 168;refine(HRE.out V.drew ⟨uO.out.os,uO.out.tape,uO.out.output,uO.out.size,uO.out.block⟩).mono ?_;rintro e v1 ⟨R,G,rF,Bi,rfl,hT,dB⟩;have HR1:Hid (bW w v1/\RTab v1 _ R n n RA G rF Bi (sV none 0 0)/\bW V v1):=⟨uO.out.trans ⟨dB.os,dB.tape,dB.output,dB.size,fun c hc=>dB.block c (kB hc uO.out.size)⟩,hT,⟨dB.os,dB.tape,dB.output,dB.size,dB.block⟩⟩;have x11:=bc HR1.out.2.2 tQ d11;have x1:=bc HR1.out.2.2 tQ d1;have xq:=bc HR1.out.2.2 N5 q1;clear hT dB))
  have J2:C<v2.heap.size:=kB tQ HG2.out.2.size;have x4:=bc HG2.out.2 tQ d4;clear x11 x1 xq HR1 HRO HRE d11 d1 d4 q1;go_wp2_with fail;refine(aB7.out _).mono ?_;rintro e v3 ⟨L,rfl,c1,c2,c3,c4⟩;have HS:Hid ((V.heap.size<=g/\g<v3.heap.size/\(∀j,j<n->v3.cell? (aA g j)=some (iI (if j<0 then CT j else ST j)))/\∀j,v3.frozen? (aA g j)=false)/\(v3.cell? (aA L 0)=some (iI aH)/\L≠g)/\bW V v3):=by obtain⟨⟨a1,a2,a3,a4⟩,a5⟩:=HG2.out;have:=HQS.out;refine⟨⟨od,kB a2 c4.size,fun j hj=>?_,fun j=>(c4.frozen (p:=(aA g j)) a2).trans (a4 j)⟩,⟨c2,od⟩,a5.trans (c4.mono a5.size)⟩;rw[kI (kT _)];exact bc c4 a2 (a3 j hj)
  clear HG2 aB7 c1 c2 c3 c4 x4 J2;go_wp2_with fail;go_loopw[38] (fun t wr=>∃k:Nat,k<=n/\t=iI k/\Hid ((V.heap.size<=g/\g<wr.heap.size/\(∀j,j<n->wr.cell? (aA g j)=some (iI (if j<k then CT j else ST j)))/\∀j,wr.frozen? (aA g j)=false)/\(wr.cell? (aA L 0)=some (iI aH)/\L≠g)/\bW V wr)) (fun t _=>n-(intOf t).toNat);case atStart=>exact⟨0,kH _,rfl,HS⟩
  case round=>
   clear HS;obtain⟨k,hk,rfl,HI⟩:=hrel;by_cases hlt:k<n
   ·have kk:(k:Int)<(n:Int):=by omega
    have y0:=HI.out.1.2.2.1 k hlt;rw[kI (kU _)]at y0;have yz:=HI.out.1.2.2.2 k;have tE:g<wr.heap.size:=HI.out.1.2.1;have q2':=bc HI.out.2.2 N5 q2;have hwl:w.heap.size<wr.heap.size:=kB N5 HI.out.2.2.size;have lc:=HI.out.2.1.1;have hof:=fun(u:Nat)=>HOF.out (wr.drewN u) k (uO.out.trans ⟨HI.out.2.2.os,HI.out.2.2.tape,HI.out.2.2.output,HI.out.2.2.size,fun c hc=>HI.out.2.2.block c (kB hc uO.out.size)⟩);have hdi:=HDI.out k;generalize(if k<nD then r.bA.getD k 0 else 0)=OV at hof hdi;have hco:=fun(u:Nat)=>HCO.out L (wr.drewN u) OV lc;rw[hdi.1]at hco;have hmi:=HMI.out k hlt;have hto:=HTO.out k;have hdb:=hdi.2;have HN:Hid (∀u,((V.heap.size<=g/\g<((wr.setCell (aA g k) (iI (ST k+DV k))).drewN u).heap.size/\(∀j,j<n->((wr.setCell (aA g k) (iI (ST k+DV k))).drewN u).cell? (aA g j)=some (iI (if j<k+1 then CT j else ST j)))/\∀j,((wr.setCell (aA g k) (iI (ST k+DV k))).drewN u).frozen? (aA g j)=false)/\(((wr.setCell (aA g k) (iI (ST k+DV k))).drewN u).cell? (aA L 0)=some (iI aH)/\L≠g)/\bW V ((wr.setCell (aA g k) (iI (ST k+DV k))).drewN u))):=fun u=>by
     obtain⟨⟨a1,a2,a3,a4⟩,⟨a5,a6⟩,a7⟩:=HI.out;refine⟨⟨a1,?_,fun j hj=>?_,fun j=>bI.trans (a4 j)⟩,⟨(aB (.inl a6)).trans a5,a6⟩,?_⟩
     ·show g<(wr.setCell (aA g k) (iI (ST k+DV k))).heap.size;simpa using a2
     ·show(wr.setCell (aA g k) (iI (ST k+DV k))).cell? (aA g j)=_;by_cases e:j=k
      ·subst e;rw[kJ (Nat.lt_succ_self _),hto];exact aY (a3 j hj)
      ·have h2:=a3 j hj;have e2:(if j<k+1 then CT j else ST j)=if j<k then CT j else ST j:=by
        by_cases q:j<k
        ·rw[kJ q,kJ od]
        ·rw[kI q,kI od]
       rw[e2];exact(aB (.inr e)).trans h2
     ·exact a7.trans ((((aU.refl g g wr).set (p:=(aA g k)) (.inl rfl) _).trans (aU.drawn u)).below a7.size a1 a1)
    clear hdi HI hto;generalize ST k=SK at *;generalize DV k=DK at *;have Y0:IntKind.i64.wrap (SK+DK)=SK+DK:=jf;go_wp2_with fail;go_region_with(first|(go_at_call 128;refine(hof _).mono ?_;rintro e v4 ⟨rfl,rfl⟩)|(go_at_call 200;refine(hco _).mono ?_;rintro e v4 ⟨rfl,rfl⟩));all_goals
     go_wp2
     go_roundw
     case rel=>exact⟨k+1,od,ow,HN.out 1⟩
     case measure=>simp[intOf];omega
   ·have M2:k=n:=by omega
    have HD:Hid (bE wr (some (aA g 0)) ((List.range n).map CT)/\(w.heap.size<=g/\g<wr.heap.size)/\(∀j,j<n->wr.cell? (aA g j)=some (iI (CT j)))/\bW w wr):=by
     obtain⟨⟨a1,a2,a3,a4⟩,⟨a5,a6⟩,a7⟩:=HI.out;rw[M2]at a3;have a3':∀j,j<n->wr.cell? (aA g j)=some (iI (CT j)):=fun j hj=>by have:=a3 j hj;rwa [kJ hj]at this
     refine⟨fun _=>⟨g,0,rfl,a2,fun j hj=>?_⟩,⟨by have:=HQS.out;omega,a2⟩,a3',uO.out.trans ⟨a7.os,a7.tape,a7.output,a7.size,fun c hc=>a7.block c (kB hc uO.out.size)⟩⟩;rw[List.length_map,List.length_range]at hj;rw[Nat.zero_add,a3' j hj];simp[hj]
    have kk:decide (k<n)=false:=kC hlt;have W8:=aGi (some (aA g 0)) gc n ((List.range n).map CT) oh wr HD.out.1 od;rw[<-HBY.out]at W8;clear M2 hlt HI;go_wp2_with fail;refine W8.mono ?_;rintro e v5 ⟨rfl,hb5⟩;have HD5:Hid (bW w v5/\g<v5.heap.size/\∀j,j<n->v5.cell? (aA g j)=some (iI (CT j))):=by obtain⟨_,⟨_,b2⟩,b3,b4⟩:=HD.out;exact⟨b4.trans (hb5.mono b4.size),kB b2 hb5.size,fun j hj=>bc hb5 b2 (b3 j hj)⟩
    have HDg:Hid (w.heap.size<=g):=HD.out.2.1.1;clear W8 hb5 HD HBY;cases BY
    ·go_wp2;go_ret2;exact⟨HD5.out.1,.inr ⟨rfl,_,_,rfl,⟨HDg.out,HD5.out.2.1⟩,HD5.out.2.2⟩⟩
    ·go_wp2;go_ret2;exact⟨HD5.out.1,.inl ⟨rfl,rfl⟩⟩):p:=h
theorem zPl(h:p:=by
 obtain rfl:=uR;clear lN;conv=>arg 2;whnf
 have wW:Hid _:=cN;obtain⟨fL,rfl⟩:=lit L 452 tC;replace s0:=aX s0
 first
 |have _:=bLx
  first
  |have _:=bLd
   first
   |have _:=bKl;replace s12:=aX s12;simp only[List.range,List.range.loop,List.map_cons,List.map_nil,s0,s12];have aOf:Hid _:=aKr;have sG:C<w.heap.size:=lt_of_cell y11;have HB0:Hid (bW w w.drew):=(kX _ _).drew;have oP:Hid (bW w (w.alloc (.cells #[iI 0,iI 0] 98)).drew):=((kX _ _).alloc (kF _) _).drew;have dM:C≠w.heap.size:=od;have Z1:Hid ((w.alloc (.cells #[iI 0,iI 0] 98)).drew.cell? (aA w.heap.size 0)=some (iI 0)/\(w.alloc (.cells #[iI 0,iI 0] 98)).drew.cell? (aA w.heap.size 1)=some (iI 0)/\(w.alloc (.cells #[iI 0,iI 0] 98)).drew.frozen? (aA w.heap.size 0)=false/\(w.alloc (.cells #[iI 0,iI 0] 98)).drew.frozen? (aA w.heap.size 1)=false/\w.heap.size<(w.alloc (.cells #[iI 0,iI 0] 98)).drew.heap.size):=by show((w.alloc (.cells #[iI 0,iI 0] 98)).cell? (aA w.heap.size 0)=_/\(w.alloc (.cells #[iI 0,iI 0] 98)).cell? (aA w.heap.size 1)=_/\(w.alloc (.cells #[iI 0,iI 0] 98)).frozen? (aA w.heap.size 0)=false/\(w.alloc (.cells #[iI 0,iI 0] 98)).frozen? (aA w.heap.size 1)=false/\w.heap.size<(w.alloc (.cells #[iI 0,iI 0] 98)).heap.size);simp
    clear cN aKr;go_region_held3(fun u=>u.cell? (aA C 11)=some (sV (some (aA ca off)) n cI)/\u.cell? (aA C 1)=some (iI f)) (go_keep) (first
     |(go_at_call 100;refine(aOf.out _ HB0.out).mono ?_;rintro ev w3 ⟨g,gc,rfl,⟨hg1,hg2,hgc,hgz⟩,R1⟩;have bA4:=aO y11 (HB0.out.trans R1);have y1b:=aO y1 (HB0.out.trans R1);have aY0:C≠w3.heap.size:=(by have:=R1.size;have:w.drew.heap.size=w.heap.size:=rfl;omega);have q11:(((w3.alloc (.cells #[iI 0,iI 0] 98)).setCell (aA w3.heap.size 0) (iI 0)).setCell (aA w3.heap.size 1) (iI (-1))).cell? (aA C 11)=some (sV (some (aA ca off)) n cI):=(aB (.inl aY0)).trans ((aB (.inl aY0)).trans ((World.cell?_alloc_lt _ _ _ (lt_of_cell bA4)).trans bA4));have q1:(((w3.alloc (.cells #[iI 0,iI 0] 98)).setCell (aA w3.heap.size 0) (iI 0)).setCell (aA w3.heap.size 1) (iI (-1))).cell? (aA C 1)=some (iI f):=(aB (.inl aY0)).trans ((aB (.inl aY0)).trans ((World.cell?_alloc_lt _ _ _ (lt_of_cell y1b)).trans y1b)))
     |(go_at_call 100;refine(aOf.out _ oP.out).mono ?_;rintro ev w3 ⟨g,gc,rfl,⟨hg1,hg2,hgc,hgz⟩,R1⟩;have bA4:=aO y11 (oP.out.trans (R1.mono oP.out.size));have y1b:=aO y1 (oP.out.trans (R1.mono oP.out.size));have f0:=aO Z1.out.1 R1;have f1:=aO Z1.out.2.1 R1;have f2:=(R1.frozen (p:=(aA w.heap.size 0)) Z1.out.2.2.2.2).trans Z1.out.2.2.1;have f3:=(R1.frozen (p:=(aA w.heap.size 1)) Z1.out.2.2.2.2).trans Z1.out.2.2.2.1;have q11:((w3.setCell (aA w.heap.size 0) (iI 0)).setCell (aA w.heap.size 1) (iI (-1))).cell? (aA C 11)=some (sV (some (aA ca off)) n cI):=(aB (.inl dM)).trans ((aB (.inl dM)).trans bA4);have q1:((w3.setCell (aA w.heap.size 0) (iI 0)).setCell (aA w.heap.size 1) (iI (-1))).cell? (aA C 1)=some (iI f):=(aB (.inl dM)).trans ((aB (.inl dM)).trans y1b)))
    ·have hB:bW w w3:=HB0.out.trans R1;have hA:bW w3 (w3.alloc (.cells #[iI 0,iI (-1)] 98)):=(kX _ _).alloc (kF _) _;exact wW.out _ _ _ _ _ ⟨⟨hg1,kB hg2 hA.size⟩,fun j hj=>bc hA hg2 (hgc j hj),fun j=>(hA.frozen (p:=(aA g j)) hg2).trans (hgz j)⟩ oh (hB.trans (hA.mono hB.size)) rfl (Rest.of rfl) rfl rfl
    ·have hf:=aZt (w:=w) (n:=n) (FB:=w.heap.size) ⟨hg1,hg2⟩ hgc hgz oP.out R1 (by have:=Z1.out.2.2.2.2;omega) (kF _) f0;exact wW.out _ _ _ _ _ hf.1 hf.2.1 hf.2.2 rfl (Rest.of rfl) rfl rfl
   |replace s13:=aX s13;replace s14:=aX s14;replace s15:=aX s15;simp only[List.range,List.range.loop,List.map_cons,List.map_nil,s0,s13,s14,s15];have H3:Hid (w.ownsRow base 3 1 V k l):=bK;obtain⟨i1,hiI,R8,hy1,M3⟩:=info_parts Tryz.uZ;have Y0:IntKind.i64.wrap (a1-a0)=a1-a0:=jd;have hOd:w.drew.ownsRow base 3 1 V k l:=bK;have lT:Hid (∀(gq cq:Nat) (w3:World),w3.ownsRow base 3 1 (sL gq (k+1) cq) (k+1) (l++[iI (a1-a0)])->(w.drew.alloc (.cells #[iI (a1-a0)] 3)).grownBy w3 V.ownBlock->Below base w w3/\w3.cell? (aA C 11)=some (sV (some (aA ca off)) n cI)/\w3.cell? (aA ca (off+k))=some (iI a1)/\w3.cell? (aA ca (off+i))=some (iI a0)):=fun gq cq w3 _ hg=>by have hb:Below base w w3:=(((kX base w).drew).alloc qV _).grown hg ol (fun g h=>(bK.lt g h).1);exact⟨hb,bc hb hCb y11,bc hb hcb yk,bc hb hcb yi⟩
    clear cN bK;go_region_held3(fun u=>u.cell? (aA C 11)=some (sV (some (aA ca off)) n cI)/\u.cell? (aA ca (off+k))=some (iI a1)/\u.cell? (aA ca (off+i))=some (iI a0)) (go_keep) (first
     |(refine step_append_lies _ oq _ _ _ oq base 3 i1 (iI 0) 1 8 underlying55 hiI R8 hy1 M3 rfl oe V k l oq (hOd.alloc _) (aA w.heap.size 0) 1 1 [iI (a1-a0)] oq rfl (cell_one_new _ _ _) (gK [a1-a0]) oe oo od ol (w.heap.size+1) oh ?_;intro gq cq w3 cD bP _ _;obtain⟨uQ,bO3,ykc,yic⟩:=lT.out gq cq w3 cD bP))
    all_goals exact wW.out _ _ _ _ cD uQ rfl (Rest.of rfl) rfl
  |replace s12:=aX s12;replace s17:=aX s17;simp only[List.range,List.range.loop,List.map_cons,List.map_nil,s0,s12,s17];clear cN
   first
   |have _:=m52;have aB7:Hid (∀v:World,Calls prog 99 #[iI E,iI aC] v fun e w'=>e=rT (iI (cutV E aC))/\w'=v):=fun v=>G0 E aC hj0 od v;have hcv:=xC (x:=E) hj0;have w1:IntKind.i64.wrap (c1v-c0v)=c1v-c0v:=jd;have w2:IntKind.i64.wrap (c1v-c0v+cutV E aC)=c1v-c0v+cutV E aC:=by rw[IntKind.wrap_i64];generalize cutV E aC=X at *;omega
    have k3:∀i v,((w.setCell (aA Gb d) v).cell? (aA C i))=w.cell? (aA C i):=fun i v=>aB (.inl hCG);have k4:∀i v,((w.setCell (aA Gb d) v).cell? (aA ca i))=w.cell? (aA ca i):=fun i v=>aB (.inl bBp)
   |have aB7:Hid (∀v:World,Calls prog 99 #[iI E,iI 549755813888] v fun e w'=>e=rT (iI (cutV E 549755813888))/\w'=v):=fun v=>G0 E 549755813888 oe oe v
   have k1:∀i v,((w.setCell (aA Gb d) v).cell? (aA XB i))=w.cell? (aA XB i):=fun i v=>aB (.inl hXG);have k2:∀i v,((w.setCell (aA Gb d) v).cell? (aA uX i))=w.cell? (aA uX i):=fun i v=>aB (.inl hgG)
   first
   |have _:=m52;go_region_held3(fun u=>u.cell? (aA XB 0)=some (iI a)/\u.cell? (aA XB 1)=some (iI d)/\u.cell? (aA XB 2)=some (iI E)/\u.cell? (aA uX a)=some (sL Gb n rF)/\u.cell? (aA C 11)=some (sV (some (aA ca off)) n cI)/\u.cell? (aA ca (off+d))=some (iI c1v)/\u.cell? (aA ca (off+a))=some (iI c0v)/\u.cell? (aA C 3)=some (iI aC)) (go_keep) (first
     |(go_at_call 99;refine(aB7.out _).mono ?_;rintro ev v4 ⟨rfl,rfl⟩))
   |go_region_held3(fun u=>u.cell? (aA XB 0)=some (iI a)/\u.cell? (aA XB 1)=some (iI d)/\u.cell? (aA XB 2)=some (iI E)/\u.cell? (aA uX a)=some (sL Gb n rF)) (go_keep) (first
     |(go_at_call 99;refine(aB7.out _).mono ?_;rintro ev v4 ⟨rfl,rfl⟩))
   all_goals exact wW.out _ rfl (Rest.of rfl)
 |replace s3:=aX s3;replace s18:=aX s18;replace s20:=aX s20;simp only[List.range,List.range.loop,List.map_cons,List.map_nil,s0,s3,s18,s20];have aB7:Hid _:=hcut;clear cN hcut;have Y0:IntKind.i64.wrap (FI+DV)=FI+DV:=jd;refine wp_region_noPanic ?_;go_region_with(first|(go_at_call 99;refine(aB7.out _).mono ?_;rintro e v4 ⟨rfl,rfl⟩));all_goals(refine NoPanic.normal ?_;exact wW.out _ rfl (Rest.of rfl))):p:=h
