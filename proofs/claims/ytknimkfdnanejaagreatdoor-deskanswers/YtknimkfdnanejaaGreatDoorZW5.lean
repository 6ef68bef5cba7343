import Derived.Test.YtknimkfdnanejaaGreatDoorZW2
import Derived.Deep.RegionHeld3
set_option maxRecDepth 100000
namespace Go.Proofs.YtknimkfdnanejaaGreatDoor
variable {p:Prop}
theorem zJr(h:p:=by
 clear hSP;have bG1:Hid (∀v7,bW v6 v7->∀q,Calls prog 77 #[pP C] (v7.drewN q) fun e w'=>e=rT (iI SP)/\bW v7 w'):=fun v7 h7 q=>by exact zBx
 go_region_held3(fun u=>u.cell? (aA w.heap.size 2)=some (iI p.aJ)) (go_keep) (first
  |(go_at_call 117;refine(W8 _).mono ?_;rintro e v7 ⟨rfl,hB7⟩;have t2:=bc hB7 hl6 s2;have HB7:Hid (bW v6 v7):=⟨hB7.os,hB7.tape,hB7.output,hB7.size,hB7.block⟩;have hl7:w.heap.size<v7.heap.size:=kB hl6 hB7.size;have bG0:=bG1.out v7 HB7.out;clear hB7)
  |(go_at_call 77;refine(bG0 0).mono ?_;rintro e v8 ⟨rfl,hB8⟩;have t28:=bc hB8 hl7 t2;have HB8:Hid (bW v6 v8):=(HB7.out.trans (hB8.mono HB7.out.size));clear hB8))
 first
 |have _:=m39;have hX8:=HX.out.below HB8.out;have x7:=bc hX8.bel tQ b7;have hl8:w.heap.size<v8.heap.size:=kB tQ hX8.bel.size;have hVw:=HBV.out.2;have bE5:Hid (bW w v8):=HBV.out.1.trans (hX8.bel.mono HBV.out.1.size);have hfi:=aOn C p fa cs cb cI a' cap' X0 a.la a.lc w v8 hX8.hd hX8.z hX8.c13 hX8.c14 ⟨by have:=hX8.lC.1;omega,hX8.lC.2⟩ (fun c hc=>⟨⟨by have:=(hX8.lX c hc).1.1;omega,(hX8.lX c hc).1.2⟩,(hX8.lX c hc).2⟩) bE5.out HIn.out.1.aN HPB.out;clear hX8 t28 s2 bG0 W8 bG1;go_wp2_with fail;refine hfi.mono ?_;rintro e v9 ⟨rfl,hB9,O,m,bEw,hO9⟩;have HD:Hid (wY w p fa cs (rT (tU #[pP C,.nilIface])) v9):=
   ⟨bE5.out.trans hB9,0,-1,.inr ⟨HIs.out,rfl,.inr ⟨HOk.out,.inr ⟨by rw[L8.out];exact aS6.out,.inr ⟨bIp.out,rfl⟩⟩⟩⟩,.inr ⟨rfl,O,C,m,rfl,bEw,hO9⟩⟩
  clear hfi hB9 bEw hO9;go_wp2;go_ret2;exact HD.out
 |all_goals go_wp2
  all_goals go_ret2
  all_goals exact H2.out _ (U5.out.trans ⟨HB8.out.os,HB8.out.tape,HB8.out.output,HB8.out.size,fun c hc=>HB8.out.block c (kB hc U5.out.size)⟩) HNo.out):p:=h
theorem zN8(h:p:=by
 obtain⟨gL,rfl⟩:=pD.over (pC.trans rfl)
 first|have _:=bH3;clear pD pC|clear pD pC hp
 simp(decide:=true) only[ov,if_true,if_false,Nat.reduceAdd]at t9⊢;replace t9:=kW t9;rw[t9];clear t9
 first
 |have _:=bH3;have hMs:=hM.bel.size;have HM:Hid (Made v2 v3 C (aNz N p.aF p.aJ p.aC p.aH p.round p.frame a.sa p.ns a.sc a.la p.nl a.lc a.wa p.nw a.wc fa ca2 n cI tb pb) cs ca2 cI fT tb pb):=hM;have bI6:Hid (bW w v3):=btr H8.out hM.bel;have z0:=aO y0 hM.bel;have hPC:w.heap.size≠C:=by have:=hM.lC;omega
  have hnm:=hM.nm (p:=p) (Z:=zOf p a) (fun c hc=>kB (aG3 HIn.out.1 hc) H8.out.size);have e10:=hM.cel 10 _ rfl;rw[<-HN.out]at z0 aXz mR;have z1:=aO y1 hM.bel;have z2:=aO y2 hM.bel;have z7:=aO y7 hM.bel;have t0:=aO x0 hM.bel;have t1:=aO x1 hM.bel;have s0:=(hM.bel.frozen (p:=(aA (w.heap.size+1) 0)) hlv).trans q0;have s1:=(hM.bel.frozen (p:=(aA (w.heap.size+1) 1)) hlv).trans q1;have hCv:=hM.lC;have hTv:=hM.lt;have bNb:Hid (∃m0,aEh a.sa a.sc a.la a.lc ca2 cI tb pb=m0):=⟨_,rfl⟩;clear hM hro y0 y1 y2 y3 y4 y5 y6 y7 y8 y9 x0 x1 q0 q1 f0 f1 b0 b1 b2 b3 b4 b5 b6 b7 b8 b9 r0 r1 rz hv2 hV hs2;go_wp2_with fail;refine aZ8 _ oq _ v2.heap.size (zOf p a) C w.heap.size p fa (fun q=>v3.cell? (aA C q)) fT (aEh a.sa a.sc a.la a.lc ca2 cI tb pb) v3 aXz mR e10 z0 hPC hnm rfl rfl rfl rfl rfl rfl ?_;intro L2 v4 hm4 hT4 pC pD P5 t44;obtain⟨gL,rfl⟩:=pD.over (pC.trans rfl);clear pD pC;simp(decide:=true) only[ov,if_true,if_false,Nat.reduceAdd]at P5 t44⊢;replace P5:=kW P5;replace t44:=kW t44;rw[P5,t44];clear P5 t44;have hs4:=hT4.size;have HT4:Hid (aU C C v3 v4):=hT4;have HM4:Hid (NMy v3 v4 v2.heap.size (zOf p a) C p (fun q=>v3.cell? (aA C q)) fT (aEh a.sa a.sc a.la a.lc ca2 cI tb pb) p.n):=hm4;have aS3:Hid (bW w v4):=bI6.out.trans (hT4.below od od od);have hlP:w.heap.size<v3.heap.size:=od;have hlR:w.heap.size+1<v3.heap.size:=od;have hRC:w.heap.size+1≠C:=od;have d0:=(hT4.cell (p:=(aA w.heap.size 0)) hlP hPC hPC).trans z0;have d1:=(hT4.cell (p:=(aA w.heap.size 1)) hlP hPC hPC).trans z1;have d2:=(hT4.cell (p:=(aA w.heap.size 2)) hlP hPC hPC).trans z2;have d7:=(hT4.cell (p:=(aA w.heap.size 7)) hlP hPC hPC).trans z7;have p0:=(hT4.cell (p:=(aA (w.heap.size+1) 0)) hlR hRC hRC).trans t0;have p1:=(hT4.cell (p:=(aA (w.heap.size+1) 1)) hlR hRC hRC).trans t1;have l0:=(hT4.frozen (p:=(aA (w.heap.size+1) 0)) hlR hRC hRC).trans s0;have l1:=(hT4.frozen (p:=(aA (w.heap.size+1) 1)) hlR hRC hRC).trans s1;have aXx:w.heap.size+1<v4.heap.size:=od;have bAc:w.heap.size<v4.heap.size:=od;obtain⟨f,hf⟩:∃f:Nat,p.aF=f:=⟨p.aF.toNat,by have:=HPB.out.f0;omega⟩;have HF:Hid (p.aF=(f:Int)):=hf;rw[hf]at d1;have HCT:Hid (∃CT,(List.range p.n).countP (aW fa)=CT):=⟨_,rfl⟩;clear hT4 hm4 hnm e10 hs4 z0 z1 z2 z7 t0 t1 s0 s1 hf;obtain⟨CT,hct⟩:=HCT.out;rw[hct];have HC:Hid ((List.range p.n).countP (aW fa)=CT):=hct;clear hct HCT;by_cases bAd:f<CT
  ·have km:(f:Int)<(CT:Int):=by omega
   have HNO:Hid (qU p fa cs 1 (-1)):=.inr ⟨HIS.out,rfl,.inl ⟨fun y=>by have:=y.2.2;rw[HC.out,HF.out]at this;simp at this;omega,rfl⟩⟩;go_wp2_with fail;refine(rY 1 _).mono ?_;exact zK7
  ·have km:decide ((f:Int)<(CT:Int))=false:=kC od;have km2:decide (f<CT)=false:=kC bAd;have aWr:Hid (0<=fa/\fa<2^p.n/\(List.range p.n).countP (aW fa)<=p.aF.toNat):=⟨HFA.out.1,HFA.out.2,by rw[HC.out,HF.out];simp;omega⟩;clear bAd;by_cases hln:n=p.n;rotate_left
   ·have kl:((n:Int) !=(p.n:Int))=true:=by simp;omega
    have HNO:Hid (qU p fa cs 7 (-1)):=.inr ⟨HIS.out,rfl,.inr ⟨aWr.out,.inl ⟨by rw[C8.out];exact hln,rfl⟩⟩⟩;go_wp2_with fail;refine(rY 7 _).mono ?_;have m91:=0;exact zK7
   ·have kl:((n:Int) !=(p.n:Int))=false:=by simp[hln]
    have HLN:Hid (cs.length=p.n):=C8.out.trans hln;have bFw:=HIn.out.2.1.below aS3.out;clear hln;go_wp2_with fail;refine bD6 _ oq _ (w.heap.size+1) n ca cap cs v4 C8.out od bFw p0 p1 l0 l1 rfl rfl rfl rfl rfl rfl ?_ ?_;rotate_left
    ·intro L2 wr J4 bJe hT9 pC pD;exact zMr
    ·intro L2 wr aXo Y0 pC pD t83;obtain⟨gL,rfl⟩:=pD.over (pC.trans rfl);clear pD pC;simp(decide:=true) only[ov,if_true,if_false,Nat.reduceAdd]at t83⊢;replace t83:=kW t83;rw[t83];clear t83;replace Y0:=Y0.symm;subst Y0;have bE3:Hid (∀c∈cs,-274877906944<=c/\c<=274877906944):=aXo;have HSP:Hid (∀u,bW v4 u->Calls prog 57 #[pP C] u fun e w'=>e=rT (iI (dA (dW fa cs)))/\bW u w'):=fun u hu=>by obtain⟨iT,hx,_⟩:=HM4.out;have bJa:=(hx.bEp 10 oe oe).trans (HM.out.cel 10 _ rfl);have bJb:=(hx.bEp 11 oe oe).trans (HM.out.cel 11 _ rfl);refine zI C fa ca2 cI cs u (aO bJa hu) (by rw[C8.out];exact aO bJb hu) (fun h0=>?_) (by rw[HLN.out];exact mR) bE3.out;obtain⟨b,e,hb,hc⟩:=HM.out.row h0;have hk:=HM.out.lk b hb;have yN:b<v4.heap.size:=kB hk.2.1 HT4.out.size;exact⟨b,0,e,kB yN hu.size,fun j hj=>by rw[Nat.zero_add];exact aO ((HT4.out.cell (p:=(aA b j)) hk.2.1 hk.2.2.2.2 hk.2.2.2.2).trans (hc j hj)) hu⟩
     obtain⟨SP,hsp⟩:∃SP,dA (dW fa cs)=SP:=⟨_,rfl⟩;have HS:Hid (dA (dW fa cs)=SP):=hsp;rw[hsp]at HSP;clear aXo hsp bFw;go_wp2_with fail;refine wp_region_noPanic ?_;go_region_held3(fun u=>u.cell? (aA w.heap.size 2)=some (iI p.aJ)) (go_keep) (first
      |(go_at_call 57;refine(HSP.out _ Jn).mono ?_;rintro ev v5 ⟨rfl,hb5⟩;have HB5:Hid (bW v4 v5):=btr Jn hb5;have d25:=aO d2 HB5.out;clear hb5))
     refine NoPanic.normal ?_;have e0:=aO p0 HB5.out;have e1:=aO p1 HB5.out;have o0:=(HB5.out.frozen (p:=(aA (w.heap.size+1) 0)) aXx).trans l0;have o1:=(HB5.out.frozen (p:=(aA (w.heap.size+1) 1)) aXx).trans l1;have d05:=aO d0 HB5.out;have d75:=aO d7 HB5.out;have hs5:=HB5.out.size;have aPi:w.heap.size+1<v5.heap.size:=od;have bFi:w.heap.size<v5.heap.size:=od;have bAr:Hid (bW w v5):=btr aS3.out HB5.out;clear d0 d1 d2 d7 p0 p1 l0 l1 d25;by_cases hsk:p.aJ<SP
     ·have HNO:Hid (qU p fa cs 2 (-1)):=.inr ⟨HIS.out,rfl,.inr ⟨aWr.out,.inr ⟨HLN.out,.inl ⟨fun y=>by have:=y.2;rw[HS.out]at this;omega,rfl⟩⟩⟩⟩;go_wp2_with fail;refine(rY 2 _).mono ?_;rintro ev u9 ⟨rfl,W7⟩;have g0:=aO e0 W7;have g1:=aO e1 W7;have k0:=(W7.frozen (p:=(aA (w.heap.size+1) 0)) aPi).trans o0;have k1:=(W7.frozen (p:=(aA (w.heap.size+1) 1)) aPi).trans o1;obtain⟨c0,c1,hT⟩:=aP7 (E:=iI 2) (I:=iI (-1)) g0 g1;have lT:Hid (bW w ((u9.setCell (aA (w.heap.size+1) 0) (iI 2)).setCell (aA (w.heap.size+1) 1) (iI (-1)))):=(btr bAr.out W7).trans (hT.below (kG (kV bFi) W7.size) (kR _) (kR _));clear hT W7;exact zEs
     ·have ksk:decide (p.aJ<SP)=false:=kC hsk;have wX:Hid (qU p fa cs 0 (-1)):=.inr ⟨HIS.out,rfl,.inr ⟨aWr.out,.inr ⟨HLN.out,.inr ⟨⟨bE3.out,by rw[HS.out];omega⟩,rfl⟩⟩⟩⟩;obtain⟨iT,hx4,_⟩:=HM4.out;have hx5:=hx4.links0.below HB5.out;have hPT:w.heap.size≠tb:=od;have aS9:Hid (0<p.nl->∃b off,a.la=some (aA b off)/\(b<v5.heap.size/\b≠C/\b≠tb)/\∀i,i<p.nl->v5.cell? ⟨b,off+i*4,none⟩=some (iI (p.lf i))/\v5.cell? ⟨b,off+i*4+1,none⟩=some (iI (p.lt i))/\v5.cell? ⟨b,off+i*4+2,none⟩=some (iI (p.lb i))/\v5.cell? ⟨b,off+i*4+3,none⟩=some (iI (p.lq i))):=fun h0=>by obtain⟨b,off,e,hb,hc⟩:=HIn.out.1.aN h0;obtain⟨b',aLk,e',hb',hc'⟩:=(HIn.out.1.below bAr.out).aN h0;have q:=e.symm.trans e';injection q with q;injection q with q1 q2;subst q1 q2;exact⟨b,off,e,⟨hb',od,od⟩,hc'⟩
      have HFR:Hid (∀iU,Z3 v5 v2.heap.size (zOf p a) C p (fun q=>v3.cell? (aA C q)) fT (aEh a.sa a.sc a.la a.lc ca2 cI tb pb) p.n 0 (X6 p.n 0 0) iT iU->iU.ownBlock=none):=fun iU h=>by have:=h.c13.symm.trans hx5.c13;injection this with this;rw[this];rfl
      have HZ5:Hid (NMz v5 v2.heap.size (zOf p a) C p (fun q=>v3.cell? (aA C q)) fT (aEh a.sa a.sc a.la a.lc ca2 cI tb pb) iT 0):=⟨_,hx5⟩;have e14:=HM.out.cel 14 _ rfl;have bJv:p.nl<=8:=HPB.out.nl;clear hx4 hx5 ksk;go_wp2_with fail;refine aZ6 _ oq _ v2.heap.size (zOf p a) C w.heap.size p (fun q=>v3.cell? (aA C q)) fT (aEh a.sa a.sc a.la a.lc ca2 cI tb pb) iT a.la a.lc v5 mR bJv e14 d05 hPC hPT aS9.out HZ5.out HFR.out rfl rfl rfl rfl rfl rfl ?_;intro L2 v6 hz6 hT6 pC pD aVx;obtain⟨gL,rfl⟩:=pD.over (pC.trans rfl);clear pD pC;simp(decide:=true) only[ov,if_true,if_false,Nat.reduceAdd]at aVx⊢;replace aVx:=kW aVx;rw[aVx];clear aVx;have hs6:=hT6.size;have U5:Hid (bW w v6):=bAr.out.trans (hT6.below od od (by show w.heap.size<=tb;omega));have hRT:w.heap.size+1≠tb:=od;have i0:=(hT6.cell (p:=(aA (w.heap.size+1) 0)) aPi hRC hRT).trans e0;have i1:=(hT6.cell (p:=(aA (w.heap.size+1) 1)) aPi hRC hRT).trans e1;have j0:=(hT6.frozen (p:=(aA (w.heap.size+1) 0)) aPi hRC hRT).trans o0;have j1:=(hT6.frozen (p:=(aA (w.heap.size+1) 1)) aPi hRC hRT).trans o1;obtain⟨O,m,bBq,hO6⟩:=aZ5 HM.out hz6 ((HT4.out.wide.trans (aU.of_below HB5.out)).trans hT6) aXz (by rw[HNN.out,HN.out]) C8.out (HIn.out.1.below U5.out) (fun c hc=>kB (aG3 HIn.out.1 hc) H8.out.size);obtain⟨fl,fi0,fi1⟩:=HIn.out.2.2.below U5.out;obtain⟨c0,c1,hT⟩:=aP7 (E:=iI 0) (I:=iI (-1)) i0 i1;have lT:Hid (rU w p a fa cs (rT (tU #[pP C,.agg #[iI 0,iI (-1)]])) ((v6.setCell (aA (w.heap.size+1) 0) (iI 0)).setCell (aA (w.heap.size+1) 1) (iI (-1))).drew):=by
       have hBf:=(U5.out.trans (hT.below od od od)).drew;have hZl:∀c,c∈zOf p a->c<w.heap.size:=fun c hc=>aG3 HIn.out.1 hc;refine⟨hBf,0,-1,wX.out,.inr ⟨rfl,O,C,m,rfl,bBq.keep ?_ ?_,fun c hc=>kG H8.out.size (hO6 c hc)⟩⟩
       ·exact Same.jD (R:=w.heap.size+1) ⟨hT.os,hT.tape,hT.output,hT.size,hT.block⟩ bBq.lt (fun c hc=>by have:=hO6 c hc;omega)
       ·exact Same.jD (R:=w.heap.size+1) ⟨hT.os,hT.tape,hT.output,hT.size,hT.block⟩ (fun c hc=>by have:=hZl c hc;omega) (fun c hc=>by have:=hZl c hc;omega)
      clear hT bBq hz6 hT6 e0 e1 o0 o1 d05 d75 hO6;go_wp2_with fail;go_region;all_goals(
       go_wp2
       exact bodyPost_ret (v:=tU #[pP C,.agg #[iI 0,iI (-1)]]) ed rfl lT.out)
 |have aXs:bW wr w2:=dB.trans (dQ.mono dB.size);have bNv:=aXs.size;have aOa:Hid (bW wr w2):=aXs;have h2:=wE.out.below aXs;have HW2:Hid (iG w2 S S M O st A k):=h2;have HLO:Hid (S<=wr.heap.size):=wE.out.low;have HDK:Hid (∀u,bW wr u->cB u.heap.size u):=fun u hu=>wE.out.aBi (HDW.out.below bT.out) (aS.of_below hu);have hol:(jO os).length<=501*k:=hrun.out.2.2;have hoz:(⟨(jO os).toArray⟩:ByteArray).size<=501*k:=hol;generalize hO6:(⟨(jO os).toArray⟩:ByteArray)=o6 at *;have HO6:Hid _:=hO6;clear hO6 h2 aXs dQ dB
  cases hws:fA cO with
  |nil=>
   rw[hws]at bK
   obtain⟨va,aZz,rfl⟩:=eY bK
   have HF:Hid (oQ S S M O st k cO wr ⟨#[111,107]⟩ 0 w2):=oQ.same wE.out hrun.out.2.1 (fK.empty hws) ⟨⟨od,od⟩,oe,fun _=>rfl,fun q=>absurd rfl q⟩ aOa.out
   clear bK
   go_wp2
   obtain⟨os',qQ,M',O',A',q1,q2,q3,q4⟩:=HF.out.next hrun.out.1 hol wE.out bT.out (t:=⟨#[111,107]⟩) (fun _=>rfl) (fun q=>absurd rfl q)
   rw[HO6.out]at q1
   exact⟨⟨k+1,os',qQ,M',O',A',od,ow,by rw[q1],by rw[HSU.out];exact q2,q3,q4⟩,ot⟩
  |cons x ws=>
   rw[hws]at bK
   have hwf:=aS0 cO
   rw[hws,List.length_cons]at hwf
   obtain⟨g,cap,rfl,hg,tE,hcap,sP⟩:=aUc bK oh
   have z0:w2.cell? (aA g 0)=some (sT x):=by have:=sP 0 oh;simpa using this
   have HZ:Hid (∀j,j<ws.length->w2.cell? (aA g (j+1))=some (sT (ws.getD j ByteArray.empty))):=fun j hj=>by have:=sP (j+1) ol;simpa using this
   have xT:=(HMB.out.keep ((aOa.out.block mb (kB hmS HLO.out)).trans (bT.out.block mb hmS))).look x (by have:=vJ (l:=cO) (x:=x) (by rw[hws];exact kQ);omega)
   obtain⟨R4,hk2⟩:=aYk x
   have HWS:Hid (∀y∈ws,y.size<=20000):=fun y hy=>by have:=vJ (l:=cO) (x:=y) (by rw[hws];exact kO _ hy);omega
   have J2:ws.length<=1500:=od
   obtain⟨fd,hfd⟩:∃fd,(nF x).isSome=fd:=⟨_,rfl⟩
   obtain⟨kv,hkv⟩:∃kv,((nF x).map Kd.many).getD 0=kv:=⟨_,rfl⟩
   obtain⟨okc,bFn,aAb⟩:=aYs fd kv ws.length
   have heq:okV (nF x).isSome (((nF x).map Kd.many).getD 0) ws.length=okc:=by rw[hfd,hkv];exact bFn
   rw[hfd,hkv]at xT
   rw[hkv]at R4 hk2
   have bAu:Hid ((okc&&lH (ws.take (gT x ws.length)))=false->∀w',bW wr w'->oQ S S M O st k cO wr ⟨#[111,107]⟩ 3 w'):=fun q w' hb=>oQ.same wE.out hrun.out.2.1 (aKy hws (by rw[heq];exact q)) (zN ⟨od,od⟩ oe) hb
   have bE7:Hid ((okc&&lH (ws.take (gT x ws.length)))=true->∀V3 w3,bW w2 w3->w3.ownsRow w2.heap.size 3 1 V3 (gT x ws.length) (C2 (ws.take (gT x ws.length)))->∀sa sc,(0<ws.length->sa=some (aA g 1))->∀v,bW w3 v->Calls prog 15 #[pP S,sT x,sV sa ws.length sc,V3] v fun e u=>∃s K,e=rT (tU #[sT s,iI K])/\u.cell? (aA g 0)=some (sT x)/\oQ S S M O st k cO wr s K u):=fun q V3 w3 q3 q4 sa sc q5 v q6=>aPt bT.out wE.out hrun.out.2.1 od HDW.out HFW.out hws J2 aOa.out q3 od tE z0 HZ.out q4 (by rw[heq];exact q) sa sc q5 v q6
   have HNX:Hid (∀s K w' t,oQ S S M O st k cO wr s K w'->(K=0->t=s)->(K≠0->t=dS K)->(∃(k_1:Nat) (os:List ByteArray) (st:gD) (M O:List Nat) (A:gN),k_1<=n/\iI ((k:Int)+1)=iI k_1/\Value.string (o6++(t++⟨#[10]⟩))=sT ⟨(jO os).toArray⟩/\Hid (gA gD.start ((ls.take k_1).map nH) os st/\st.Small/\(jO os).length<=501*k_1)/\Hid (iG w' S S M O st A k_1)/\Hid (Below S w w'))/\n-(intOf (iI ((k:Int)+1))).toNat<n-(intOf (iI (k:Int))).toNat):=fun s K w' t hL h0 h1=>by
    obtain⟨os',qQ,M',O',A',q1,q2,q3,q4⟩:=hL.next hrun.out.1 hol wE.out bT.out h0 h1
    rw[HO6.out]at q1
    exact⟨⟨k+1,os',qQ,M',O',A',od,ow,by rw[q1],by rw[HSU.out];exact q2,q3,q4⟩,ot⟩
   have HDL:Hid (∀s K w',oQ S S M O st k cO wr s K w'->cB w'.heap.size w'):=fun s K w' ⟨_,_,_,_,_,_,_,_,hf,_⟩=>wE.out.aBi (HDW.out.below bT.out) hf
   have HSZ:Hid (∀s K w',oQ S S M O st k cO wr s K w'->fG K/\(K=0->s.size<=500)):=fun s K w' ⟨_,_,_,_,_,⟨t0,t1,t2,_⟩,_⟩=>⟨t0,fun q=>by rw[<-t2 q];exact t1⟩
   clear sP bK bFn hfd hkv heq hwf
   have bN4:ws.length+1<=cap:=hcap
   have N5:(1:Int)<=(ws.length:Int)+1:=od
   clear hcap
   rcases aAb with⟨rfl,a3⟩|⟨rfl,rfl,a3⟩|⟨rfl,⟨a1,a4⟩,a2,a3⟩|⟨rfl,⟨a1,a4⟩,⟨a2,a5⟩,a3⟩|⟨rfl,⟨a1,a4⟩,⟨a2,a5⟩,a3⟩
   all_goals(
    go_wp2_with fail
    all_goals(
     refine aVe _ oq _ x ws ws.length g _ _ _ okc rfl od w2 (HDK.out w2 aOa.out) z0 HZ.out HWS.out (fun q=>by first|rfl|(exfalso;omega)) tE rfl rfl (by rw[a3];rfl) rfl rfl rfl rfl ?_
     intro L3 V3 w3 aTh jN hN3 hQ3 t15 t16
     obtain⟨gL3,rfl⟩:=hQ3.over (hN3.trans rfl)
     clear hQ3 hN3
     simp(decide:=true) only[ov,if_true,if_false,Nat.reduceAdd]at t15 t16⊢
     replace t15:=kW t15
     replace t16:=kW t16
     rw[t15,t16]
     clear t15 t16
     have aPc:bW wr w3:=aOa.out.trans (jN.mono aOa.out.size)
     have z03:w3.cell? (aA g 0)=some (sT x):=bc jN tE z0
     cases oX:(okc&&lH (ws.take (gT x ws.length)))with
     |false=>
      have hT:=pI 3 ⟨od,od⟩ w3 (HDK.out w3 aPc)
      have HF:Hid _:=bAu.out oX
      have hz3:=jQ (x:=3) ⟨od,od⟩
      clear oX aTh
      go_wp2_with fail
      refine hT.mono ?_
      rintro e w4 ⟨rfl,yN⟩
      go_wp2
      exact HNX.out _ 3 _ _ (HF.out w4 (aPc.trans (yN.mono aPc.size))) (fun q=>by cases q) (fun _=>rfl)
     |true=>
      try(rw[a3]at oX;exact absurd oX Bool.false_ne_true)
      all_goals(
       have HDO:Hid _:=bE7.out oX V3 w3 jN aTh
       clear oX aTh
       go_wp2_with fail
       go_region_held3(fun u=>u.cell? (aA g 0)=some (sT x)) (go_keep) (first
        |(go_at_call 15;refine Calls.mono (HDO.out _ _ (fun q=>by first|rfl|(exfalso;omega)|exact kI od) _ ⟨rfl,rfl,rfl,kF _,fun _ _=>rfl⟩) ?_;rintro e u1 ⟨s,K,rfl,y1,hL⟩))
       obtain⟨wF,hs0⟩:=HSZ.out _ _ _ hL
       have hDu:=HDL.out _ _ _ hL
       have HL1:Hid _:=hL
       clear hL
       by_cases hK0:K=0
       ·subst hK0
        have hs1:=hs0 rfl
        clear hs0 hDu
        go_wp2
        exact HNX.out _ 0 _ _ HL1.out (fun _=>rfl) (fun q=>absurd rfl q)
       ·have k1:(K !=0)=true:=by simpa using hK0
        have hT:=pI K wF.int u1 hDu
        have hz3:=jQ wF.int
        clear hs0 hDu
        go_wp2_with fail
        refine hT.mono ?_
        rintro e w4 ⟨rfl,yN⟩
        go_wp2
        exact HNX.out _ K _ _ (oQ.below HL1.out yN) (fun q=>absurd q hK0) (fun _=>rfl))))
  skip):p:=h
theorem zOc(h:p:=by
 have hbb:bW w v1:=uO.out.trans ⟨dB.os,dB.tape,dB.output,dB.size,fun c hc=>dB.block c (kB hc uO.out.size)⟩
 first
 |have _:=bL9;have X9:=HLO.out v1 hbb;have y0:=bc dB N5 q0;have J2:w.heap.size<v1.heap.size:=kB N5 dB.size;have oP:Hid (bW w v1/\bW V v1):=⟨hbb,dB⟩;have HGC:Hid ((V.heap.size<=g/\g<v1.heap.size)/\∀j,j<n->v1.cell? (aA g j)=some (iI (CT j))):=⟨hg,hgc⟩;have HFA:Hid (nY p fa cs r=false):=hBY;clear HLO hbb dB hg hgc hBY;go_wp2_with fail;refine X9.mono ?_;rintro e v2 ⟨T,rfl,hT,hLT,dQ⟩;have HV2:Hid ((w.heap.size<v2.heap.size/\v2.cell? (aA w.heap.size 3)=some (sV a.ma nM a.mc))/\((V.heap.size<=g/\g<v2.heap.size)/\∀j,j<n->v2.cell? (aA g j)=some (iI (CT j)))/\(V.heap.size<=T/\yF v2 T ns (oV r nL))/\bW w v2):=by obtain⟨h1,h2⟩:=oP.out;obtain⟨⟨g1,g2⟩,g3⟩:=HGC.out;have hV2:bW V v2:=h2.trans (dQ.mono h2.size);exact⟨⟨kB J2 dQ.size,bc hV2 N5 q3⟩,⟨⟨g1,kB g2 dQ.size⟩,fun j hj=>bc dQ g2 (g3 j hj)⟩,⟨kG h2.size hT,hLT⟩,h1.trans (dQ.mono h1.size)⟩
  have HI0:Hid (dZ O v2 v2 C p fa cs s rd B m):=⟨O,aS.refl _ _,HC0.out.below HV2.out.2.2.2⟩;have HOO:Hid (∀c,c∈O->c<w.heap.size):=HC0.out.lt;have hVw:w.heap.size<V.heap.size:=N5;have sG:=HI0.out.base.lc;have c6:=HI0.out.base.c6;rw[aOd.out]at c6;clear X9 hT hLT dQ oP HGC y0 J2 q0 q1 q2 q3 N5 qS;go_wp2_with fail;clear c6 sG;go_loopw[31] (fun t wr=>∃i:Nat,i<=ns/\t=iI i/\Hid (dZ O v2 wr C p fa cs (s.iM p.S (r.hap fa) rd i) rd (B+80*i) m)) (fun t _=>ns-(intOf t).toNat);case atStart=>exact⟨0,kH _,rfl,HI0⟩
  case round=>
   clear HI0;obtain⟨i,hi,rfl,HI⟩:=hrel;by_cases hlt:i<ns
   ·have bN7:ns<=32:=by have:=HNS.out.1;rw[aOd.out]at this;exact this
    have ii:(i:Int)<(ns:Int):=od;obtain⟨sb,bMs,hsa,hsX,hsc⟩:=HI.out.base.sl (by rw[aOd.out];omega);obtain⟨s0,s1,s2⟩:=hsc i (by rw[aOd.out];exact hlt);have hsl:=HI.out.base.lx _ hsX;have hiP:Hid (i<p.ns):=by show i<p.ns;rw[aOd.out];exact hlt
    obtain⟨_,_,_,_,hnd⟩:=HSL.out i hiP.out;rw[hnd]at s0;rw[hsa];have HBW:Hid (bW w v2):=HV2.out.2.2.2;have rm:wr.cell? (aA w.heap.size 3)=some (sV a.ma nM a.mc):=(HI.out.box HV2.out.1.1 (fun y=>kU _ (HOO.out _ y)) 3).trans HV2.out.1.2;have hlw:w.heap.size<wr.heap.size:=kB HV2.out.1.1 HI.out.size;obtain⟨FRi,bEz⟩:∃x,p.fr i=x:=⟨_,rfl⟩;obtain⟨TDi,bF5⟩:∃x,p.td i=x:=⟨_,rfl⟩;rw[bEz]at s1;rw[bF5]at s2;obtain⟨who,A6⟩:∃x:Nat,p.S.nd i=x:=⟨_,rfl⟩;have aDc:Hid (p.S.nd i=who):=A6;rw[A6]at s0;clear bEz bF5 hsc A6 hnd;obtain⟨b0,b1,b2,bB,bS⟩:=bAz wr (iI who) (iI FRi) (iI TDi) 94;have rm1:=bc bB hlw rm;have hwb:w.heap.size<(wr.alloc (.cells #[iI who,iI FRi,iI TDi] 94)).heap.size:=by rw[bS];omega
    have hwc:wr.heap.size<(wr.alloc (.cells #[iI who,iI FRi,iI TDi] 94)).heap.size:=by rw[bS];omega
    have A8:Hid (dZ O v2 (wr.alloc (.cells #[iI who,iI FRi,iI TDi] 94)) C p fa cs (s.iM p.S (r.hap fa) rd i) rd (B+80*i) m):=HI.out.below bB;have hof:=HOF.out v2 (wr.alloc (.cells #[iI who,iI FRi,iI TDi] 94)) _ _ who A8.out HBW.out;have R7:=H4.out O v2 (wr.alloc (.cells #[iI who,iI FRi,iI TDi] 94)) _ _ i A8.out hiP.out (by have:=HNS.out;omega) (by have:=HNS.out;have:=hiP.out;omega);rw[aDc.out]at R7;clear bB bS rm HI hsl hsa hsX;go_wp2_with fail;clear s0 s1 s2;generalize(wr.alloc (.cells #[iI who,iI FRi,iI TDi] 94))=V1 at *;refine hof.mono ?_;rintro e v7 ⟨rfl,hv7⟩;replace hv7:=hv7.symm;subst hv7;clear hof;go_wp2_with fail;refine R7.mono ?_;rintro e v3 ⟨mem,aT,LK,SQ,SD,rfl,hx,hI3⟩;obtain⟨fx,fz,fB,fS⟩:=X8 v3 #[iI who,iI i,iI mem,iI LK,iI SQ,sT SD] 221;obtain⟨O3,hF3,hC3⟩:=hI3;have HF3:Hid (aS O O3 v2 (v3.alloc (.cells #[iI who,iI i,iI mem,iI LK,iI SQ,sT SD] 221))):=hF3.trans (aS.of_below fB);have hI4:dZ O v2 (v3.alloc (.cells #[iI who,iI i,iI mem,iI LK,iI SQ,sT SD] 221)) C p fa cs ((s.iM p.S (r.hap fa) rd i).mT p (r.hap fa) rd i) rd (B+80*i) m:=⟨O3,HF3.out,hC3.below fB⟩;have hI5:dZ O3 (v3.alloc (.cells #[iI who,iI i,iI mem,iI LK,iI SQ,sT SD] 221)) (v3.alloc (.cells #[iI who,iI i,iI mem,iI LK,iI SQ,sT SD] 221)) C p fa cs ((s.iM p.S (r.hap fa) rd i).mT p (r.hap fa) rd i) rd (B+80*i) m:=⟨O3,aS.refl _ _,hC3.below fB⟩;have HBO:Hid (v3.heap.size∉O3/\T∉O3):=⟨fun y=>kU _ (hC3.lt _ y),fun y=>by
     rcases hF3.fresh _ y with q|q
     ·have:=HOO.out _ q;have:=HV2.out.2.2.1.1;omega
     ·have:=HV2.out.2.2.1.2.lt;omega⟩
    have g0:(v3.alloc (.cells #[iI who,iI i,iI mem,iI LK,iI SQ,sT SD] 221)).cell? (aA v3.heap.size 0)=some (iI who):=fx 0 _ rfl;have g1:(v3.alloc (.cells #[iI who,iI i,iI mem,iI LK,iI SQ,sT SD] 221)).cell? (aA v3.heap.size 1)=some (iI i):=fx 1 _ rfl;have g2:(v3.alloc (.cells #[iI who,iI i,iI mem,iI LK,iI SQ,sT SD] 221)).cell? (aA v3.heap.size 2)=some (iI mem):=fx 2 _ rfl;have g3:(v3.alloc (.cells #[iI who,iI i,iI mem,iI LK,iI SQ,sT SD] 221)).cell? (aA v3.heap.size 3)=some (iI LK):=fx 3 _ rfl;have g4:(v3.alloc (.cells #[iI who,iI i,iI mem,iI LK,iI SQ,sT SD] 221)).cell? (aA v3.heap.size 4)=some (iI SQ):=fx 4 _ rfl;have g5:(v3.alloc (.cells #[iI who,iI i,iI mem,iI LK,iI SQ,sT SD] 221)).cell? (aA v3.heap.size 5)=some (sT SD):=fx 5 _ rfl;have tE:v3.heap.size<(v3.alloc (.cells #[iI who,iI i,iI mem,iI LK,iI SQ,sT SD] 221)).heap.size:=by rw[fS];omega
    have hTO:T∉O:=fun y=>by have:=HOO.out _ y;have:=HV2.out.2.2.1.1;omega
    have hTl:T<v2.heap.size:=HV2.out.2.2.1.2.lt;have t0:(v3.alloc (.cells #[iI who,iI i,iI mem,iI LK,iI SQ,sT SD] 221)).cell? ⟨T,i*2,none⟩=some (iI (oV r nL i 0)):=(hI4.box hTl hTO (i*2)).trans (HV2.out.2.2.1.2.c i 0 hlt oe);have t1:(v3.alloc (.cells #[iI who,iI i,iI mem,iI LK,iI SQ,sT SD] 221)).cell? ⟨T,i*2+1,none⟩=some (iI (oV r nL i 1)):=(hI4.box hTl hTO (i*2+1)).trans (HV2.out.2.2.1.2.c i 1 hlt oe);have hTw:T<(v3.alloc (.cells #[iI who,iI i,iI mem,iI LK,iI SQ,sT SD] 221)).heap.size:=kB hTl hI4.size;have hhe:=fun(u:Nat)=>HHE.out O3 (v3.alloc (.cells #[iI who,iI i,iI mem,iI LK,iI SQ,sT SD] 221)) ((v3.alloc (.cells #[iI who,iI i,iI mem,iI LK,iI SQ,sT SD] 221)).drewN u) _ _ i mem LK SQ SD aT (hI5.drawn u) hiP.out (by have:=HNS.out;have:=hiP.out;omega) (by rw[aDc.out];exact hx);rw[aDc.out]at hhe;have HNX:Hid (∀v,dZ O v2 v C p fa cs ((s.iM p.S (r.hap fa) rd i).slot p.S (r.hap fa) rd i) rd (B+80*i+80) m->dZ O v2 v C p fa cs (s.iM p.S (r.hap fa) rd (i+1)) rd (B+80*(i+1)) m):=fun v hv=>hv;generalize oV r nL i 0=L0 at *;generalize oV r nL i 1=L1 at *;clear R7 hx hF3 hC3 fx fz fB fS hI4 hI5 rm1 hwb;go_wp2_with fail;generalize(v3.alloc (.cells #[iI who,iI i,iI mem,iI LK,iI SQ,sT SD] 221))=V3 at *;go_region_held3(fun u=>(u.cell? (aA v3.heap.size 0)=some (iI who)/\u.cell? (aA v3.heap.size 1)=some (iI i)/\u.cell? (aA v3.heap.size 2)=some (iI mem)/\u.cell? (aA v3.heap.size 3)=some (iI LK)/\u.cell? (aA v3.heap.size 4)=some (iI SQ)/\u.cell? (aA v3.heap.size 5)=some (sT SD))/\u.cell? ⟨T,i*2,none⟩=some (iI L0)/\u.cell? ⟨T,i*2+1,none⟩=some (iI L1)) (go_keep) (first
     |(go_at_call 129;refine(hhe _).mono ?_;rintro e v4 ⟨rfl,hI6⟩;have HI6:Hid (dZ O v2 v4 C p fa cs (s.iM p.S (r.hap fa) rd (i+1)) rd (B+80*(i+1)) m):=(by obtain⟨O9,f9,c9⟩:=hI6;exact HNX.out _ ⟨O9,HF3.out.trans f9,c9⟩);have z0:=(hI6.box tE HBO.out.1 0).trans g0;have z1:=(hI6.box tE HBO.out.1 1).trans g1;have z2:=(hI6.box tE HBO.out.1 2).trans g2;have z3:=(hI6.box tE HBO.out.1 3).trans g3;have z4:=(hI6.box tE HBO.out.1 4).trans g4;have z5:=(hI6.box tE HBO.out.1 5).trans g5;have z6:=(hI6.box hTw HBO.out.2 (i*2)).trans t0;have z7:=(hI6.box hTw HBO.out.2 (i*2+1)).trans t1;clear hI6))
    clear z0 z1 z2 z3 z4 z5 z6 z7 g0 g1 g2 g3 g4 g5 t0 t1 hhe HNX HF3;go_wp2;go_roundw;case rel=>exact⟨i+1,od,ow,HI6⟩
    case measure=>simp[intOf];omega
   ·have eE:i=ns:=by omega
    have sG:=HI.out.base.lc;have c12:=HI.out.base.c12;have c11:=HI.out.base.c11;have zC:=HI.out.base.z;have z11:=zC 11;have z12:=zC 12;have kk:decide (i<ns)=false:=kC hlt;have HD:Hid (Z6 w ((wr.setCell (aA C 12) (iI (rd+1))).setCell (aA C 11) (sL g n gc)) O C p fa cs s rd B m r (rT (fI 0))):=by
     obtain⟨O9,f9,c9⟩:=HI.out;obtain⟨⟨g1,g2⟩,g3⟩:=HV2.out.2.1;have hgO:g∉O:=fun y=>by have:=HOO.out _ y;omega
     have hg9:g∉O9:=fun y=>by
      rcases f9.fresh _ y with q|q
      ·exact hgO q
      ·omega
     rw[eE]at c9;have c9':Cl wr O9 C p fa cs (s.iM p.S (r.hap fa) rd p.ns) rd (B+80*p.ns) m:=by rw[aOd.out];exact c9
     obtain⟨m',d1,d2⟩:=HDN.out wr O9 m _ g gc c9' (kB g2 f9.size) hg9 (fun j hj=>(f9.cell (p:=(aA g j)) g2 hgO).trans (g3 j hj));have hF:aS O O9 w wr:=(aS.of_below HV2.out.2.2.2).trans f9;refine⟨g::O9,⟨d2.os.trans hF.os,d2.tape.trans hF.tape,d2.output.trans hF.output,kG hF.size d2.size,fun c hc hnc=>?_,fun c hc=>?_⟩,.inr ⟨HFA.out,rfl,m',by rw[HON.out];exact d1⟩⟩
     ·have hcC:c≠C:=fun e=>hnc (e▸HC0.out.mem);exact(d2.block c (kB hc hF.size) hcC hcC).trans (hF.block c hc hnc)
     ·rcases kN hc with y|y
      ·subst y;right;omega
      ·exact hF.fresh c y
    clear eE HI HDN zC;have hrw:-9223372036854775808<=rd+1:=by have:=HRD.out;omega
    go_wp2;go_ret;exact HD.out
 |exact⟨O,aS.of_below hbb,.inl ⟨hBY,rfl,HC0.out.below hbb⟩⟩):p:=h
theorem zO2(h:p:=by
 have lc:=h.base.lc;obtain⟨b,off,e,hbZ,hc⟩:=h.rows.lk od;have gX:=h.rows.zl b hbZ;rw[e]at c7
 first|have _:=bCk|rw[jB]at c0
 obtain⟨x0,x1,x2,x3⟩:=hc k hk;have hpw:=T0 j od;have kk:(k:Int)<(p.nl:Int):=od;have hba:=zT (p.lt k) (j:=j) od
 first
 |have _:=bCk;rw[C0]at hba;have e1:IntKind.i64.wrap ((2:Int)^j)=2^j:=by rw[IntKind.wrap_i64];generalize(2:Int)^j=T at *;omega
  have HL:Hid (∀(w':World) (s':cA) (B':Nat),cP O w w' Z C p fa cs s' rd B' m->(w'.cell? (aA C 7)=some (sV (some (aA b off)) p.nl m.rJ)/\w'.cell? (aA C 14)=some (.map (some m.tb)))/\w'.cell? ⟨b,off+k*4+1,none⟩=some (iI (p.lt k))/\w.heap.size<=w'.heap.size):=fun w' s' B' hi=>by have y7:=hi.base.c7;rw[e]at y7;obtain⟨b',aLk,e',hb',hc'⟩:=hi.rows.lk od;rw[e]at e';cases e';exact⟨⟨y7,hi.base.c14⟩,(hc' k hk).2.1,hi.size⟩
  clear hc h e C0 hI
 |rw[hb]at hba
  first|(have _:=m57;have bJ9:(bits BinOp.and .i64 (p.lt k) (2^j)==0)=false:=by simpa using hba)|have bJ9:(bits BinOp.and .i64 (p.lt k) (2^j)==0)=true:=by simpa using hba
  have e1:wrap64 ((2:Int)^j)=2^j:=by exact zEi
  first|have _:=m57;have bFf:j<16:=od;have hk8:k<8:=od|skip
  clear hc h hb e hba jB
 generalize p.lt k=LT at *
 first
 |have _:=bCk;generalize p.nl=NL at *;go_region_held3(fun u=>u.cell? (aA C 7)=some (sV (some (aA b off)) NL m.rJ)/\u.cell? (aA C 14)=some (.map (some m.tb))/\u.cell? ⟨b,off+k*4+1,none⟩=some (iI LT)) (go_keep) (first
   |(go_at_call 104;refine HT.out.mono ?_;rintro ev w3 ⟨rfl,hI3⟩;obtain⟨⟨y7,y14⟩,y1,hs3⟩:=HL.out w3 _ _ hI3))
  exact wW.out _ _ hI3 rfl (Rest.of rfl) rfl
 |have _:=m57;have HN:Hid (p.n<=16):=wC;have bL0:=0;exact zNp
 |generalize p.n=N at *;exact zBz):p:=h
theorem zPp(h:p:=by
 have y12:=L6.out.base.c12;have ynd:=L6.out.base.nd who H7;have ynl:=L6.out.base.lx _ L6.out.base.ndX;have lc2:=L6.out.base.lc;have aC7:w2.cell? (aA SB 0)=some (iI who):=(L6.out.box hSB HSO.out 0).trans sb0;have bJ3:SB<w2.heap.size:=kB hSB L6.out.size;have HSN:Hid (Calls prog 101 #[.pointer (some ⟨m.P who,0,none⟩)] w2.drew fun e w'=>e=rT (tU #[iI M0,.bool sB])/\cP Oi W1 w' Z C p fa cs (si.setNode who (si.nodes who).aT) rd (B) m):=by exact zG7
 have HY:Hid (∀(w':World) (s':cA) (B':Nat),cP Oi W1 w' Z C p fa cs s' rd B' m->(w'.cell? (aA C 12)=some (sL m.nb p.n m.vQ)/\w'.cell? (aA m.nb who)=some (.pointer (some ⟨m.P who,0,none⟩)))/\(w'.cell? (aA SB 0)=some (iI who)/\w'.cell? (aA SB 1)=some (iI (p.fr i)))/\(C<w'.heap.size/\SB<w'.heap.size)/\w'.cell? (aA C 7)=some (sV m.la p.nl m.rJ)):=fun w' s' B' hi=>⟨⟨hi.base.c12,hi.base.nd who H7⟩,⟨(hi.box hSB HSO.out 0).trans sb0,(hi.box hSB HSO.out 1).trans sb1⟩,⟨hi.base.lc,kB hSB hi.size⟩,hi.base.c7⟩;go_wp2_with fail;go_region_held3(fun u=>u.cell? (aA C 12)=some (sL m.nb p.n m.vQ)/\u.cell? (aA m.nb who)=some (.pointer (some ⟨m.P who,0,none⟩))/\u.cell? (aA SB 0)=some (iI who)) (go_keep) (first
  |(go_at_call 101;refine HSN.out.mono ?_;rintro ev w3 ⟨rfl,hI3⟩;obtain⟨⟨bHy,bI0⟩,⟨bNa,aWl⟩,⟨lc3,bF2⟩,y7⟩:=HY.out w3 _ _ hI3))
 have HI3:Hid (cP Oi W1 w3 Z C p fa cs (si.setNode who (si.nodes who).aT) rd (B) m):=hI3;clear hI3 y12 ynd ynl lc2 aC7 bJ3 HSN bHy bI0;rename w3.cell? (aA SB 0)=some (iI who)=>aC7
 obtain⟨O3,hc3,bF6,aT7⟩:=HI3.out.part2;have bI3:Hid (∀(w':World) (s2:cA) (B2:Nat),cP O3 w3 w' Z C p fa cs s2 rd B2 m->cP Oi W1 w' Z C p fa cs s2 rd B2 m):=aT7;have bEg:Hid (SB∉O3):=bF6 SB hSB HSO.out
 first|have _:=aYi;have HEQ:=aKm (p:=p) (s:=si) (rd:=rd) (H:=H) (i:=i) (aT:=sB) Od;have aWp:=aGs (p:=p) (s:=si) (rd:=rd) (H:=H) (i:=i) (aT:=sB) Od|have HEQ:=aKm (p:=p) (s:=si) (rd:=rd) (H:=H) (i:=i) (aT:=false) Od;have aWp:=aGs (p:=p) (s:=si) (rd:=rd) (H:=H) (i:=i) (aT:=false) Od
 rw[aDc.out]at HEQ aWp;have HQ1:Hid _:=HEQ;have HQ2:Hid _:=aWp;clear aT7 bF6 HEQ aWp;go_wp2_with fail
 first|have _:=aYi;refine aO5 _ oq _ hc3 who (p.fr i) (rd*p.round+p.fr i) sB SB m.la rfl qO od bF2 bEg.out aC7 aWl sH uT xU pE g0 g1 rfl aWq.out rfl rfl rfl rfl rfl rfl rfl rfl rfl rfl ?_|refine aO5 _ oq _ hc3 who (p.fr i) (rd*p.round+p.fr i) false SB m.la rfl qO od bF2 bEg.out aC7 aWl sH uT xU pE g0 g1 rfl aWq.out rfl rfl rfl rfl rfl rfl rfl rfl rfl rfl ?_
 intro L2 w4 hI4 pC pD t27 t28 t29 aW0;obtain⟨gL,rfl⟩:=pD.over (pC.trans rfl);clear pD pC;simp(decide:=true) only[ov,if_true,if_false,Nat.reduceAdd]at t27 t28 t29 aW0⊢;replace t27:=kW t27;replace t28:=kW t28;replace t29:=kW t29;replace aW0:=kW aW0;rw[t27,t28,t29,aW0];clear t27 t28 t29 aW0;rw[HQ2.out]at hI4;rw[HQ1.out];have HI4:Hid (cP Oi W1 w4 Z C p fa cs (si.mT p H rd i) rd (B) m):=bI3.out _ _ _ hI4;obtain⟨O4,hc4,bBf,aT8⟩:=HI4.out.part2;have bI4:Hid (∀(w':World) (s2:cA) (B2:Nat),cP O4 w4 w' Z C p fa cs s2 rd B2 m->cP Oi W1 w' Z C p fa cs s2 rd B2 m):=aT8;have aWx:Hid (SB∉O4):=bBf SB hSB HSO.out;have aWu:Hid (∀b off,la=some (aA b off)->b∉O4):=fun b off e=>bBf b (aWt.out b off e) (aWv.out b off e);have HR4:Hid (dX w4 la nL ls oJ lt):=HI4.out.rows3 HRW.out aWv.out;have aWs:Hid (∀b off,la=some (aA b off)->b<w4.heap.size):=fun b off e=>kB (aWt.out b off e) HI4.out.size;have aT4:SB<w4.heap.size:=kB hSB HI4.out.size;have bA5:w4.cell? (aA SB 0)=some (iI who):=(HI4.out.box hSB HSO.out 0).trans sb0;obtain⟨LK,hLK⟩:∃LK,gS (si.goes p.S H rd i).2=LK:=⟨_,rfl⟩;obtain⟨SQ,hSQ⟩:∃SQ,dN (si.goes p.S H rd i).2=SQ:=⟨_,rfl⟩;obtain⟨SD,hSD⟩:∃SD,dE (si.goes p.S H rd i).2=SD:=⟨_,rfl⟩;have aOb:Hid (LK=gS (si.goes p.S H rd i).2/\SQ=dN (si.goes p.S H rd i).2/\SD=dE (si.goes p.S H rd i).2):=⟨hLK.symm,hSQ.symm,hSD.symm⟩;rw[hLK,hSQ,hSD];clear hLK hSQ hSD aT8 bBf hI4 hc3 aC7 aWl;go_wp2_with fail
 first
 |have _:=aYi
  first
  |have _:=bH6
   first|have _:=m0;refine Y6 _ oq _ hc4 i who X2 (si.goes p.S H rd i).2 LK SQ SD aOb.out sB (aZ (fun j=>H.lost i 0 j) p.n) (aZ (fun j=>H.lost i 1 j) p.n) SB la nL lc ls oJ lt lK hn qO od aOc.out aT4 aWx.out bA5 HR4.out aWu.out aWs.out hL HLO.out rfl rfl rfl rfl rfl rfl rfl rfl rfl rfl rfl rfl ?_|refine Y6 _ oq _ hc4 i who (bits BinOp.xor .i64 M0 (2^who)) (si.goes p.S H rd i).2 LK SQ SD aOb.out sB (aZ (fun j=>H.lost i 0 j) p.n) (aZ (fun j=>H.lost i 1 j) p.n) SB la nL lc ls oJ lt lK hn qO od aOc.out aT4 aWx.out bA5 HR4.out aWu.out aWs.out hL HLO.out rfl rfl rfl rfl rfl rfl rfl rfl rfl rfl rfl rfl ?_
  |refine Y6 _ oq _ hc4 i who M0 (si.goes p.S H rd i).2 LK SQ SD aOb.out sB (aZ (fun j=>H.lost i 0 j) p.n) (aZ (fun j=>H.lost i 1 j) p.n) SB la nL lc ls oJ lt lK hn qO od aOc.out aT4 aWx.out bA5 HR4.out aWu.out aWs.out hL HLO.out rfl rfl rfl rfl rfl rfl rfl rfl rfl rfl rfl rfl ?_
 |refine Y6 _ oq _ hc4 i who M0 (si.goes p.S H rd i).2 LK SQ SD aOb.out false (aZ (fun j=>H.lost i 0 j) p.n) (aZ (fun j=>H.lost i 1 j) p.n) SB la nL lc ls oJ lt lK hn qO od aOc.out aT4 aWx.out bA5 HR4.out aWu.out aWs.out hL HLO.out rfl rfl rfl rfl rfl rfl rfl rfl rfl rfl rfl rfl ?_
 intro L2 w5 hI5 pC pD aW1;obtain⟨gL,rfl⟩:=pD.over (pC.trans rfl);clear pD pC;simp(decide:=true) only[ov,if_true,if_false,Nat.reduceAdd]at aW1⊢;replace aW1:=kW aW1;rw[aW1];clear aW1;have HI5:Hid (cP Oi wr w5 Z C p fa cs (si.slot p.S H rd i) rd (B+70) m):=by
  have q:=bI4.out _ _ _ hI5
  first
  |have _:=aYi
   first
   |have _:=bH6
    first|have _:=m0;have q2:=cP.slot (s:=si) (rd:=rd) (H:=H) (i:=i) (mem:=X2) (l0:=aZ (fun j=>H.lost i 0 j) p.n) (l1:=aZ (fun j=>H.lost i 1 j) p.n) (aT:=sB) E4 O0 Od Ep (fun j hj=>jP _ hn hj) (fun j hj=>jP _ hn hj)|have q2:=cP.slot (s:=si) (rd:=rd) (H:=H) (i:=i) (mem:=(bits BinOp.xor .i64 M0 (2^who))) (l0:=aZ (fun j=>H.lost i 0 j) p.n) (l1:=aZ (fun j=>H.lost i 1 j) p.n) (aT:=sB) E4 O0 Od Ep (fun j hj=>jP _ hn hj) (fun j hj=>jP _ hn hj)
   |have q2:=cP.slot (s:=si) (rd:=rd) (H:=H) (i:=i) (mem:=M0) (l0:=aZ (fun j=>H.lost i 0 j) p.n) (l1:=aZ (fun j=>H.lost i 1 j) p.n) (aT:=sB) E4 O0 Od Ep (fun j hj=>jP _ hn hj) (fun j hj=>jP _ hn hj)
  |have q2:=cP.slot (s:=si) (rd:=rd) (H:=H) (i:=i) (mem:=M0) (l0:=aZ (fun j=>H.lost i 0 j) p.n) (l1:=aZ (fun j=>H.lost i 1 j) p.n) (aT:=false) E4 O0 Od Ep (fun j hj=>jP _ hn hj) (fun j hj=>jP _ hn hj)
  exact zHt
 exact zHc):p:=h
theorem zQk(h:p:=by
 obtain rfl:=dQ;clear lN;conv=>arg 2;whnf
 have wW:Hid _:=cN;obtain⟨fL,rfl⟩:=lit L 452 tC;replace s0:=aX s0
 first
 |have _:=bMl
  first
  |have _:=bLe;replace s27:=aX s27
   first|have _:=bGe;replace s28:=aX s28|replace s29:=aX s29
   replace s35:=aX s35
   first
   |have _:=bGe;simp only[List.range,List.range.loop,List.map_cons,List.map_nil,s0,s27,s28,s35];clear cN;have hI:cP O w w.drew Z C p fa cs s rd B m:=⟨O,aS.refl O w,h⟩|>fun x=>cP.drawn x 1;have HT:Hid (Calls prog 104 #[.pointer (some ⟨m.R k j,0,none⟩),iI q] w.drew fun e w'=>e=rT (.bool (takeB (s.aV k j) q))/\cP O w w' Z C p fa cs (s.fW k j (uK (takeB (s.aV k j) q) q (s.aV k j))) rd (B+1) m):=bDe hI k j hk hj q hB;have xT:(Instr.lookup 106 (.map (some m.tb)) (.agg #[iI k,iI j]) false).run prog w.drew=.ok (.pointer (some ⟨m.R k j,0,none⟩)) w.drew:=hI.base.look hk hj qO hn;have c7:=h.base.c7;have c14:=h.base.c14;have bCk:=0;exact zO2
   |replace s41:=aX s41;simp only[List.range,List.range.loop,List.map_cons,List.map_nil,s0,s27,s29,s35,s41];clear cN;have HH:Hid (jJ w O Z C p fa cs s rd B m):=h;obtain⟨PX,hP,hpb,hpl,_,qD⟩:=h.prt;obtain⟨v,xT,fE⟩:=hP.look (show k<8 by omega) (show j<16 by omega);have e:Value.slice la ll rJ=v:=by have:=hv.symm.trans xT;injection this
    subst e;have tW:Hid (∀(u:World) (v:Value),bW w u->u.ownsRow w.heap.size 9 1 v (s.aR k j++[d]).length ((s.aR k j++[d]).map Value.string)->∃w3,(Instr.mapUpdate 107 (.map (some m.pb)) (.agg #[iI k,iI j]) v).run prog u=.ok () w3/\aU m.pb m.pb u w3/\∃O',aS O O' w w3/\jJ w3 O' Z C p fa cs (s.setPort k j (s.aR k j++[d])) rd B m):=fun u v hb ho=>aQf (show k<8 by omega) (show j<16 by omega) hP hpb hpl hlen qD hb ho;have c15:=h.base.c15;have lc:=h.base.lc;have dM:=h.bCw;have HA1:Hid (∀(ty:TypeId) (u:World) (v:Value),bW w u->u.ownsRow w.heap.size 9 1 v 0 []->∃v' w',(Builtin.append_ #[43,43] ty #[v,sV la ll rJ]).run prog u=.ok v' w'/\(w'.ownsRow w.heap.size 9 1 v' (s.aR k j).length ((s.aR k j).map Value.string)/\bW w w'/\u.grownBy w' v.ownBlock)):=fun ty u v hb ho=>by obtain⟨v',w',h1,h2,h3⟩:=aJ0 (l:=[]) (x:=s.aR k j) ty ho (fE.keep (Same.of_below hb hpl) (fun _ h=>h)) ol hb.size;rw[List.nil_append]at h2;exact⟨v',w',h1,h2,hb.grown h3 hb.size (fun g hg=>(ho.lt g hg).1),h3⟩
    have HA2:Hid (∀(ty:TypeId) (u:World) (v:Value) (g:Nat),bW w u->u.ownsRow w.heap.size 9 1 v (s.aR k j).length ((s.aR k j).map Value.string)->u.cell? (aA g 0)=some (sT d)->∃v' w',(Builtin.append_ #[43,43] ty #[v,sL g 1 1]).run prog u=.ok v' w'/\(w'.cell? (aA C 15)=some (.map (some m.pb))/\∃w3,(Instr.mapUpdate 107 (.map (some m.pb)) (.agg #[iI k,iI j]) v').run prog w'=.ok () w3/\w3.cell? (aA C 15)=some (.map (some m.pb))/\∃O',aS O O' w w3/\jJ w3 O' Z C p fa cs (s.setPort k j (s.aR k j++[d])) rd B m)):=fun ty u v g hb ho hd=>by obtain⟨v',w',h1,h2,h3⟩:=aVp ty ho hd od hb.size;have hb':bW w w':=hb.grown h3 hb.size (fun g hg=>(ho.lt g hg).1);obtain⟨w3,q1,q2,q3⟩:=tW.out w' v' hb' h2;have y:w'.cell? (aA C 15)=some (.map (some m.pb)):=aO c15 hb';exact⟨v',w',h1,y,w3,q1,(q2.cell (p:=(aA C 15)) (kB lc hb'.size) dM dM).trans y,q3⟩
    have HB0:Hid (bW w w.drew):=(kX _ _).drew;have HBE:Hid (bW w ((w.alloc (.cells #[] 9)).alloc (.cells #[sT d] 9)).drew):=(((kX _ w).alloc (kF _) _).alloc oh _).drew;have HBD:Hid (bW w ((w.alloc (.cells #[sT d] 9)).alloc (.cells #[] 9)).drew):=(((kX _ w).alloc (kF _) _).alloc oh _).drew;have HYE:Hid (((w.alloc (.cells #[] 9)).alloc (.cells #[sT d] 9)).drew.cell? (aA (w.heap.size+1) 0)=some (sT d)):=by show((w.alloc (.cells #[] 9)).alloc (.cells #[sT d] 9)).cell? (aA (w.heap.size+1) 0)=some (sT d);simp
    have HYD:Hid (((w.alloc (.cells #[sT d] 9)).alloc (.cells #[] 9)).drew.cell? (aA w.heap.size 0)=some (sT d)):=bHw _ _ _ _;have bId:Hid (w.heap.size+1<((w.alloc (.cells #[] 9)).alloc (.cells #[sT d] 9)).drew.heap.size):=by show w.heap.size+1<((w.alloc (.cells #[] 9)).alloc (.cells #[sT d] 9)).heap.size;simp
    have bIe:Hid (w.heap.size<((w.alloc (.cells #[sT d] 9)).alloc (.cells #[] 9)).drew.heap.size):=by show w.heap.size<((w.alloc (.cells #[sT d] 9)).alloc (.cells #[] 9)).heap.size;simp;omega
    have bIg:Hid (some (w.heap.size+1)≠(Value.slice (some (aA w.heap.size 0)) 0 0).ownBlock):=fun e=>by have:w.heap.size+1=w.heap.size:=kW e;omega
    have bIh:Hid (some w.heap.size≠(Value.slice (some (aA (w.heap.size+1) 0)) 0 0).ownBlock):=fun e=>by have:w.heap.size=w.heap.size+1:=kW e;omega
    have HOD:Hid (((w.alloc (.cells #[sT d] 9)).alloc (.cells #[] 9)).drew.ownsRow w.heap.size 9 1 (sV (some (aA (w.heap.size+1) 0)) 0 0) 0 []):=by have h:=zD (w.alloc (.cells #[sT d] 9)) #[] 9 0 rfl oe w.heap.size oh;rw[show(w.alloc (.cells #[sT d] 9)).heap.size=w.heap.size+1 by simp]at h;exact h
    clear hP qD fE xT hv hpb hpl h hlen tW;go_region_held3(fun u=>u.cell? (aA C 15)=some (.map (some m.pb))) (go_keep) (first
     |(refine zL oq _ _ _ _ oq _ _ _ oq oq oq bAg ?_)
     |(refine zM oq _ _ _ oq _ _ oq oq (HA2.out _ _ _ w1.heap.size (dB.alloc dB.size _) (ho1.alloc _) (bAn _ _ _)) ?_;rintro v2 w2 ⟨bMy,w3,bAg,bMz,oX⟩)
     |(refine zM oq _ _ _ oq _ _ oq oq (HA2.out _ _ _ _ dB ho1 yD) ?_;rintro v2 w2 ⟨bMy,w3,bAg,bMz,oX⟩)
     |(refine zM oq _ _ _ oq _ _ oq oq (HA1.out _ _ _ (HB0.out.alloc (kF _) _) (zD w.drew #[] 9 0 rfl oe w.heap.size (kF _))) ?_;rintro v1 w1 ⟨ho1,dB,hg1⟩;have bHz:w1.cell? (aA C 15)=some (.map (some m.pb)):=aO c15 dB)
     |(refine zM oq _ _ _ oq _ _ oq oq (HA1.out _ _ _ HBE.out (aLm ((zD w #[] 9 0 rfl oe w.heap.size (kF _)).alloc _))) ?_;rintro v1 w1 ⟨ho1,dB,hg1⟩;have bHz:w1.cell? (aA C 15)=some (.map (some m.pb)):=aO c15 dB;have yD:w1.cell? (aA (w.heap.size+1) 0)=some (sT d):=(hg1.cell_far (aA (w.heap.size+1) 0) bId.out bIg.out).trans HYE.out)
     |(refine zM oq _ _ _ oq _ _ oq oq (HA1.out _ _ _ HBD.out HOD.out) ?_;rintro v1 w1 ⟨ho1,dB,hg1⟩;have bHz:w1.cell? (aA C 15)=some (.map (some m.pb)):=aO c15 dB;have yD:w1.cell? (aA w.heap.size 0)=some (sT d):=(hg1.cell_far (aA w.heap.size 0) bIe.out bIh.out).trans HYD.out))
    all_goals exact wW.out _ _ oX rfl (Rest.of rfl)
  |have bMj:=0;exact zQf
 |exact zQf):p:=h
