import Derived.Test.YtknimkfdnanejaaGreatDoorZT17
import Derived.Test.YtknimkfdnanejaaGreatDoorZW8
namespace Go.Proofs.YtknimkfdnanejaaGreatDoor
open Go.RowKit Go.Proofs.Tryz
set_option maxRecDepth 100000
set_option maxHeartbeats 16000000
section
variable{E' K S' n:Nat}{V1 Va w1 wr:World}
theorem Tryz.aPn:(Tryz.prog.info? 227).map (fun i=>(i.zero,i.size,i.bytes))=some (some (.pointer none),1,8):=by kernel_rfl
theorem Tryz.aPm:(Tryz.prog.info? 208).map (fun i=>(i.zero,i.size,i.bytes))=some (some (.agg #[iI 0,.pointer none,sV none 0 0]),3,40):=by kernel_rfl
theorem aLn{w:World}{base:Nat}{e:TypeId}{v:Value}{xs:List Value}(h:w.ownsRow base e 3 v n xs):∃a cap,v=sV a n cap:=zFa
theorem U4.first{wz w0:World}{X0:List Nat}{C:Nat}(z:∀i,w0.frozen? (aA C i)=false)(c13:w0.cell? (aA C 13)=some (sV none 0 0))(hC:wz.heap.size<=C/\C<w0.heap.size)(hX:∀c,c∈X0->(wz.heap.size<=c/\c<w0.heap.size)/\c≠C):∃Of,U4 w0 w0 wz.heap.size X0 Of C n (fun _=>0) (sV none 0 0) 0:=by
 have hG:∀i c,c∈(fun i:vW=>if i=iB then[C]else if i=iX then X0 else[]) i->(i=iB/\c=C)\/(i=iX/\c∈X0):=fun i c hc=>by
  by_cases h1:i=iB
  ·subst h1;exact .inl ⟨rfl,jA1⟩
  ·by_cases h2:i=iX
   ·subst h2;exact .inr ⟨rfl,jA1⟩
   ·simp only[kI h1,kI h2]at hc;simp at hc
 refine⟨fun i=>if i=iB then[C]else if i=iX then X0 else[],⟨fun i c hc=>?_,fun i j hij c hc hn=>?_⟩,fun i c hc=>?_,rfl,rfl,fun i hi=>?_,fun _ _=>rfl,c13,z,⟨kF _,fun _ _=>rfl⟩,World.ownsRow_nil _ _ _ _,fun j hj=>absurd hj (kT _),kX _ _⟩
 ·rcases hG i c hc with⟨_,y⟩|⟨_,y⟩
  ·omega
  ·exact(hX c y).1.2
 ·rcases hG i c hc with⟨a,y⟩|⟨a,y⟩<;>rcases hG j c hn with⟨b,z⟩|⟨b,z⟩
  ·exact hij (a.trans b.symm)
  ·exact(hX c z).2 y
  ·exact(hX c y).2 z
  ·exact hij (a.trans b.symm)
 ·rcases hG i c hc with⟨_,y⟩|⟨_,y⟩
  ·omega
  ·exact(hX c y).1.1
 ·by_cases h1:i=iB
  ·exact .inl h1
  ·by_cases h2:i=iX
   ·exact .inr (.inl h2)
   ·simp only[kI h1,kI h2]at hi;exact absurd rfl hi
def gY(wr wx:World)(K:Nat)(p:aQ)(MB:Nat):Prop:=
 ∃N S' E' D' R' Q',eF wr.heap.size wx N K p.n p.n (p.lt K) (p.lb K) (p.lq K) S' E' D' R' Q'/\bW wr wx/\wr.heap.size<=MB/\MB<wx.heap.size/\
  wx.cell? (aA MB 0)=some (iI (p.lf K))/\wx.cell? (aA MB 1)=some (pP S')/\wx.cell? (aA MB 2)=some (sL E' p.n p.n)
theorem gY.after{p:aQ}{N:vW->List Nat}{D' R' Q':Nat->Nat}(hn:p.n=n)(hQ:bW wr V1)(hVa:bW V1 Va)(uY:bW Va w1)(hL:eF Va.heap.size w1 N K n n (p.lt K) (p.lb K) (p.lq K) S' E' D' R' Q'){t:TypeId}:
  gY wr (w1.alloc (.cells #[iI (p.lf K),pP S',sL E' n n] t)) K p w1.heap.size:=by subst hn;have s1:=hQ.size;have s2:=hVa.size;have s3:=uY.size;obtain⟨r0,r1,r2,rB,rS⟩:=bAl w1 (iI (p.lf K)) (pP S') (sL E' p.n p.n) t;have hk:bW wr w1:=hQ.trans ((hVa.mono s1).trans (uY.mono od));exact⟨N,S',E',D',R',Q',(hL.same rB.size (fun c _ h2=>rB.block c h2)).low od,hk.trans (rB.mono hk.size),hk.size,od,r0,r1,r2⟩
theorem gY.before{p:aQ}{N:vW->List Nat}{D' R' Q':Nat->Nat}(hn:p.n=n)(hQ:bW wr V1)(hVa:bW V1 Va)(hs:Va.heap.size=V1.heap.size+1)(uY:bW Va w1)(hL:eF Va.heap.size w1 N K n n (p.lt K) (p.lb K) (p.lq K) S' E' D' R' Q'){a b c:Value}(m0:w1.cell? (aA V1.heap.size 0)=some a)(m1:w1.cell? (aA V1.heap.size 1)=some b)(m2:w1.cell? (aA V1.heap.size 2)=some c):
  gY wr (((w1.setCell (aA V1.heap.size 0) (iI (p.lf K))).setCell (aA V1.heap.size 1) (pP S')).setCell (aA V1.heap.size 2) (sL E' n n)) K p V1.heap.size:=by
 subst hn;have s1:=hQ.size;have s3:=uY.size;have hT:aU V1.heap.size V1.heap.size w1 (((w1.setCell (aA V1.heap.size 0) (iI (p.lf K))).setCell (aA V1.heap.size 1) (pP S')).setCell (aA V1.heap.size 2) (sL E' p.n p.n)):=(((aU.refl _ _ w1).set (p:=(aA V1.heap.size 0)) (.inl rfl) _).set (p:=(aA V1.heap.size 1)) (.inl rfl) _).set (p:=(aA V1.heap.size 2)) (.inl rfl) _;have hk:bW wr w1:=hQ.trans ((hVa.mono s1).trans (uY.mono od));refine⟨N,S',E',D',R',Q',(hL.same hT.size (fun c h1 h2=>hT.block c h2 od od)).low od,hk.trans (hT.below hk.size od od),s1,?_,?_,?_,?_⟩
 ·have:=hT.size;omega
 ·exact(aB (.inr oe)).trans ((aB (.inr oe)).trans (aY m0))
 ·exact(aB (.inr oe)).trans (aY ((aB (.inr oe)).trans m1))
 ·exact aY ((aB (.inr oe)).trans ((aB (.inr oe)).trans m2))
theorem aOn(C:Nat)(p:aQ)(fa:Int)(cs:List Int)(cb cI:Nat)(sa:Option Addr)(oD:Nat)(X0:List Nat)(la:Option Addr)(rJ:Nat)(wz w0:World)(hH:P9 w0 C p fa cs cb cI sa oD X0)(z:∀i,w0.frozen? (aA C i)=false)(c13:w0.cell? (aA C 13)=some (.slice none 0 0))(c14:w0.cell? (aA C 14)=some (.slice none 0 0))(hC:wz.heap.size<=C/\C<w0.heap.size)(hX:∀c,c∈X0->(wz.heap.size<=c/\c<w0.heap.size)/\c≠C)(hb:bW wz w0)(hl:vY wz la p.nl p.lf p.lt p.lb p.lq)(hB:Z4 p):
  Calls prog 119 #[pP C,.slice la p.nl rJ] w0 fun e w'=>e=.returned .nilIface/\Below wz.heap.size w0 w'/\∃O m,Cl w' O C p fa cs cA.start 0 1 m/\∀c,c∈O->wz.heap.size<=c:=by
 obtain⟨i0,hi,lO,mX,jX⟩:=info_parts Tryz.aPn;obtain⟨i1,gi,gz0,gz1,gz2⟩:=info_parts Tryz.aPm;have lK:1<=p.n:=by have:=hB.n1;unfold aQ.n;omega
 have mR:p.n<=16:=by have:=hB.n2;unfold aQ.n;omega
 have jB:p.nodes=(p.n:Int):=by have:=hB.n1;unfold aQ.n;omega
 have qO:=hB.nl;have c0:=hH.c0;rw[jB]at c0;have Z1:=U4.first (n:=p.n) z c13 hC hX;have HN0:Hid (∃Of P v,U4 w0 w0 wz.heap.size X0 Of C p.n P v 0):=by obtain⟨Of,h⟩:=Z1;exact⟨Of,_,_,h⟩
 have sG:=hC.2;have HHD:Hid (P9 w0 C p fa cs cb cI sa oD X0/\w0.cell? (aA C 14)=some (.slice none 0 0)):=⟨hH,c14⟩;have HZ:Hid (bW wz w0/\vY wz la p.nl p.lf p.lt p.lb p.lq):=⟨hb,hl⟩;have HPB:Hid (Z4 p):=hB;have HC:Hid (wz.heap.size<=C/\C<w0.heap.size):=hC;have HNN:Hid (p.nodes=(p.n:Int)):=jB;clear hH z c13 c14 hC hX hb hl hB Z1 jB;obtain⟨n,hpn⟩:∃n,p.n=n:=⟨_,rfl⟩;have L8:Hid (p.n=n):=hpn;rw[hpn]at c0 HN0 lK mR;obtain⟨nl,hpl⟩:∃nl,p.nl=nl:=⟨_,rfl⟩;have HPL:Hid (p.nl=nl):=hpl;rw[hpl]at qO;rw[hpl];clear hpn hpl;go_enter func119,ntmps119;go_wp2_with fail;go_loopw[17] (fun t wr=>∃I:Nat,I<=n/\t=iI I/\Hid (∃Of P v,U4 w0 wr wz.heap.size X0 Of C n P v I)) (fun t _=>n-(intOf t).toNat);case atStart=>exact⟨0,kH _,rfl,HN0⟩
 case round=>
  obtain⟨I,hI,rfl,HI⟩:=hrel;clear HN0;by_cases hlt:I<n
  ·have ii:(I:Int)<(n:Int):=by omega
   obtain⟨Of,P,v,hF⟩:=HI.out;have y0:=(hF.kc 0 oe).trans c0;have hCw:C<wr.heap.size:=hF.fam.lt iB C (by rw[hF.ob];exact kQ);have HF:Hid (U4 w0 wr wz.heap.size X0 Of C n P v I):=hF;clear hF HI;go_wp2_with fail;refine(aQd I n wr lK mR od ii).mono ?_;rintro e w1 ⟨rfl,hp1,dB⟩;obtain⟨a,cap,hv⟩:=eY HF.out.vo;have HV:Hid (v=.slice a I cap):=hv;have y13:=bc dB hCw HF.out.c13;have x13:=(dB.frozen (p:=(aA C 13)) hCw).trans (HF.out.z 13);rw[hv]at y13;have aE7:=fF HF.out.vo dB;rw[hv]at aE7;have bEx:C<w1.heap.size:=kB hCw dB.size;have HP1:Hid (bW wr w1/\bJ w1 wr.heap.size I n (2^n-1) 1 0 false):=⟨dB,hp1⟩;have HI':Hid (I<n/\n<=16):=⟨hlt,mR⟩;clear y0 dB hp1 hv;go_wp2_with(at_builtin;refine wpList_append_own_at _ rfl _ _ 197 rfl (C+1) 227 i0 (.pointer none) 1 8 underlying197 hi lO mX jX rfl oe (.slice a I cap) I _ rfl (aE7.alloc _) (aA w1.heap.size 0) 1 1 [pP wr.heap.size] rfl rfl (cell_one_new _ _ _) Oc oo od ol ?_;apply Hid.out);unfold Hid;intro v' w3 cD bP _ jW;obtain⟨a',cap',rfl⟩:=eY cD;have xE:=HF.out.step HP1.out.1 HP1.out.2 ((kX _ _).alloc (kF _) _) cD (by rw[HV.out];exact bP) (by rw[HV.out];simpa using jW);have HST:Hid (∃Of P v,U4 w0 (w3.setCell (aA C 13) (.slice a' (I+1) cap')) wz.heap.size X0 Of C n P v (I+1)):=by obtain⟨Of',h'⟩:=xE;exact⟨Of',_,_,h'⟩
   have dM:some C≠(Value.slice a I cap).ownBlock:=fun e=>by have:=(aE7.lt C e.symm).1;omega
   have hs3:=bP.size;have hsa:(w1.alloc (.cells #[pP wr.heap.size] 227)).heap.size=w1.heap.size+1:=oh;have hA:bW w1 (w1.alloc (.cells #[pP wr.heap.size] 227)):=(kX _ _).alloc (kF _) _;have q13:w3.cell? (aA C 13)=some (.slice a I cap):=(World.cell?_of_block (a:=(aA C 13)) (bP.block C od dM)).trans (bc hA bEx y13);have r13:w3.frozen? (aA C 13)=false:=(World.frozen?_of_block (a:=(aA C 13)) (bP.block C od dM)).trans ((hA.frozen (p:=(aA C 13)) bEx).trans x13);have hC3:C<w3.heap.size:=od;clear xE dM hs3 hsa hA cD bP jW aE7 y13 x13;go_wp2;go_roundw;case rel=>exact⟨I+1,od,ow,HST⟩
   case measure=>simp[intOf];omega
  ·have hIn:I=n:=by omega
   have kj:decide (I<n)=false:=kC od;obtain⟨Of,P,v,hF⟩:=HI.out;rw[hIn]at hF;have hF':=hF;rw[<-L8.out]at hF';obtain⟨nb,vQ,Of',hv,hnd,hK0⟩:=hF'.done (by rw[L8.out];exact lK) HHD.out.2 (fun _=>0) (fun _=>0) (fun _ _=>0) (fun _ _=>0) (fun _ _=>0);have HK0:Hid (∃Of S E D R Q u,aB6 wr wr wz.heap.size X0 Of C nb p P S E D R Q u 0):=⟨_,_,_,_,_,_,_,hK0⟩;have HB0:Hid (Below wz.heap.size w0 wr):=hF.bel;have HHN:Hid (P9 wr C p fa cs cb cI sa oD X0):=HHD.out.1.keep (fun i hi=>hF.kc i od) hF.kx;have y0:=(hF.kc 0 oe).trans c0;have H13:Hid (wr.cell? (aA C 13)=some (sL nb p.n vQ)/\∀j,j<p.n->wr.cell? (aA nb j)=some (.pointer (some ⟨P j,0,none⟩))):=⟨by rw[hF.c13,hv],hnd⟩;have hCr:C<wr.heap.size:=hF.fam.lt iB C (by rw[hF.ob];exact kQ);clear hF hF' hv hnd hK0 hIn hlt HI HHD c0 hI;obtain⟨wn,H7⟩:∃x,x=wr:=⟨wr,rfl⟩;subst H7;go_wp2_with fail;go_loopw[46] (fun t wk=>∃K:Nat,K<=nl/\t=iI K/\Hid (∃Of S E D R Q u,aB6 wn wk wz.heap.size X0 Of C nb p P S E D R Q u K)) (fun t _=>nl-(intOf t).toNat);case atStart=>exact⟨0,kH _,rfl,HK0⟩
   case round=>
    obtain⟨K,hK,rfl,HI⟩:=hrel;clear HK0;by_cases hlt:K<nl
    ·have kk:(K:Int)<(nl:Int):=by omega
     obtain⟨Of,S,E,D,R,Q,u,hF⟩:=HI.out;obtain⟨b,off,hla,hbz,hc⟩:=HZ.out.2 (by rw[HPL.out];omega);subst hla;obtain⟨x0,x1,x2,x3⟩:=hc K (by rw[HPL.out];exact hlt);have hBz:bW wz wr:=HZ.out.1.trans (HB0.out.trans hF.bel);have y0':=(hBz.cell (p:=⟨b,off+K*4,none⟩) hbz).trans x0;have y1':=(hBz.cell (p:=⟨b,off+K*4+1,none⟩) hbz).trans x1;have y2':=(hBz.cell (p:=⟨b,off+K*4+2,none⟩) hbz).trans x2;have y3':=(hBz.cell (p:=⟨b,off+K*4+3,none⟩) hbz).trans x3;have hbw:b<wr.heap.size:=kB hbz hBz.size;have hCw:C<wr.heap.size:=hF.fam.lt iB C (by rw[hF.ob];simp);have yc0:=(hF.kc 0 oe).trans y0;obtain⟨⟨q0,q1,q2,q3⟩,qB,qS⟩:=bEn wr (iI (p.lf K)) (iI (p.lt K)) (iI (p.lb K)) (iI (p.lq K)) 96;obtain⟨l1,l2,⟨l3,l4⟩,l5,l6⟩:=HPB.out.link K (by rw[HPL.out];exact hlt);have yc1:=bc qB hCw yc0;have hCv:C<(wr.alloc (.cells #[iI (p.lf K),iI (p.lt K),iI (p.lb K),iI (p.lq K)] 96)).heap.size:=jc;have hwv:wr.heap.size<(wr.alloc (.cells #[iI (p.lf K),iI (p.lt K),iI (p.lb K),iI (p.lq K)] 96)).heap.size:=jc;have hnw:=fun v=>aHr K n (p.lf K) (p.lt K) (p.lb K) (p.lq K) v mR ⟨⟨l3,od⟩,l5,l6⟩;have uO:Hid _:=qB;have HF:Hid (aB6 wn wr wz.heap.size X0 Of C nb p P S E D R Q u K):=hF;clear x0 x1 x2 x3 hc hF HI hBz l1 l2 l3 l4 l5 l6 qB qS;go_wp2_with fail;clear y0' y1' y2' y3' yc0;generalize(wr.alloc (.cells #[iI (p.lf K),iI (p.lt K),iI (p.lb K),iI (p.lq K)] 96))=V1 at *;have hQ:∀o,bW V1 (V1.alloc o):=fun o=>(kX _ _).alloc (kF _) _;have t0:=fun o=>((hQ o).cell (p:=(aA wr.heap.size 0)) hwv).trans q0;have t1:=fun o=>((hQ o).cell (p:=(aA wr.heap.size 1)) hwv).trans q1;have t2:=fun o=>((hQ o).cell (p:=(aA wr.heap.size 2)) hwv).trans q2;have t3:=fun o=>((hQ o).cell (p:=(aA wr.heap.size 3)) hwv).trans q3;have t4:=fun o=>((hQ o).cell (p:=(aA C 0)) hCv).trans yc1;have HQ:Hid _:=hQ;clear hQ;go_cut [10,11] (fun mv ev wx=>ev=.nilIface/\∃MB,mv=pP MB/\Hid (gY wr wx K p MB));case first=>
      go_region_with(go_at_call 164;refine(hnw _).mono ?_;rintro e w1 ⟨uY,N,S',E',D',R',Q',rfl,hL⟩;try(have m0:w1.cell? (aA V1.heap.size 0)=some (iI 0):=bc uY oh oh;have m1:w1.cell? (aA V1.heap.size 1)=some (.pointer none):=bc uY oh oh;have m2:w1.cell? (aA V1.heap.size 2)=some (.slice none 0 0):=bc uY oh oh;have z0:w1.frozen? (aA V1.heap.size 0)=false:=(uY.frozen (p:=(aA V1.heap.size 0)) oh).trans oh;have z1:w1.frozen? (aA V1.heap.size 1)=false:=(uY.frozen (p:=(aA V1.heap.size 1)) oh).trans oh;have z2:w1.frozen? (aA V1.heap.size 2)=false:=(uY.frozen (p:=(aA V1.heap.size 2)) oh).trans oh;have hlw:V1.heap.size<w1.heap.size:=(by have:=uY.size;simp at this;omega)));all_goals go_wp2_with fail
      all_goals go_meet
      all_goals refine⟨rfl,_,rfl,?_⟩
      all_goals unfold Hid
      all_goals repeat apply gY.drew
      all_goals first
       |exact gY.after L8.out uO.out (kX _ _).drew uY hL
       |exact gY.after L8.out uO.out (kX _ _) uY hL
       |exact gY.after L8.out uO.out (kX _ _).drew.drew uY hL
       |exact gY.before L8.out uO.out ((kX _ _).alloc (kF _) _).drew oh uY hL m0 m1 m2
       |exact gY.before L8.out uO.out ((kX _ _).alloc (kF _) _) oh uY hL m0 m1 m2
       |exact gY.before L8.out uO.out ((kX _ _).alloc (kF _) _).drew.drew oh uY hL m0 m1 m2
       |exact gY.before L8.out uO.out ((kX _ _).drew.alloc (kF _) _).drew oh uY hL m0 m1 m2
       |exact gY.before L8.out uO.out ((kX _ _).drew.alloc (kF _) _) oh uY hL m0 m1 m2
     case rest=>
      obtain⟨rfl,MB,rfl,HML⟩:=hcut;clear t0 t1 t2 t3 t4 q0 q1 q2 q3 hnw yc1 hCv hwv HQ uO;obtain⟨N,S',E',D',R',Q',hL,R4,hMB,hMl,r0,r1,r2⟩:=HML.out;obtain⟨LF,hLF⟩:∃LF,p.lf K=LF:=⟨_,rfl⟩;rw[hLF]at r0;rw[L8.out]at r2;obtain⟨a,cap,hu⟩:=aLn HF.out.uo;have y14:=bc R4 hCw HF.out.c14;have x14:=(R4.frozen (p:=(aA C 14)) hCw).trans (HF.out.z 14);rw[hu]at y14;have aE7:=fF HF.out.uo R4;rw[hu]at aE7;have hs1:=R4.size;have bBa:C<wc.heap.size:=od;have HL:Hid (eF wr.heap.size wc N K p.n p.n (p.lt K) (p.lb K) (p.lq K) S' E' D' R' Q'/\p.lf K=LF/\u=.slice a K cap/\bW wr wc):=⟨hL,hLF,hu,R4⟩;have hMC:MB≠C:=od;have hAl:∀o,bW wc (wc.drew.alloc o):=fun o=>(kX _ _).drew.alloc (kF _) _;have r0a:=fun o=>((hAl o).cell (p:=(aA MB 0)) hMl).trans r0;have r1a:=fun o=>((hAl o).cell (p:=(aA MB 1)) hMl).trans r1;have r2a:=fun o=>((hAl o).cell (p:=(aA MB 2)) hMl).trans r2;have bMw:=fun o=>((hAl o).cell (p:=(aA C 14)) bBa).trans y14;have bF0:wc.drew.ownsRow (C+1) 208 3 (.slice a K cap) K (fZ (fun k=>iI (p.lf k)) (fun k=>.pointer (some ⟨S k,0,none⟩)) (fun k=>.slice (some ⟨E k,0,none⟩) p.n p.n) K):=aE7;have HQ3:Hid (∀gq cq w3,w3.ownsRow (C+1) 208 3 (sL gq (K+1) cq) (K+1) (fZ (fun k=>iI (p.lf k)) (fun k=>.pointer (some ⟨S k,0,none⟩)) (fun k=>.slice (some ⟨E k,0,none⟩) p.n p.n) K++[iI LF,pP S',sL E' n n])->(wc.drew.alloc (.cells #[iI LF,pP S',sL E' n n] 208)).grownBy w3 (Value.slice a K cap).ownBlock->((Value.slice a K cap).ownBlock=some gq\/gq=wc.heap.size+1)->(w3.cell? (aA C 14)=some (.slice a K cap)/\w3.frozen? (aA C 14)=false/\C<w3.heap.size)/\(w3.cell? (aA MB 0)=some (iI LF)/\w3.cell? (aA MB 1)=some (pP S')/\w3.cell? (aA MB 2)=some (sL E' n n))/\∃Of S E D R Q u,aB6 wn (w3.setCell (aA C 14) (sL gq (K+1) cq)) wz.heap.size X0 Of C nb p P S E D R Q u (K+1)):=by
       intro gq cq w3 cD bP jW;have hA:=hAl (.cells #[iI LF,pP S',sL E' n n] 208);have hsa:(wc.drew.alloc (.cells #[iI LF,pP S',sL E' n n] 208)).heap.size=wc.heap.size+1:=oh;have hs3:=bP.size;have dM:some C≠(Value.slice a K cap).ownBlock:=fun e=>by have:=(aE7.lt C e.symm).1;omega
       have bJu:some MB≠(Value.slice a K cap).ownBlock:=fun e=>by have g:=HF.out.fam.lt iB MB (by rw[HF.out.ob,hu,<-e];simp);omega
       have cM:∀i,w3.cell? (aA MB i)=wc.cell? (aA MB i):=fun i=>(World.cell?_of_block (a:=(aA MB i)) (bP.block MB od bJu)).trans (hA.cell (p:=(aA MB i)) hMl);refine⟨⟨(World.cell?_of_block (a:=(aA C 14)) (bP.block C od dM)).trans (bc hA bBa y14),(World.frozen?_of_block (a:=(aA C 14)) (bP.block C od dM)).trans ((hA.frozen (p:=(aA C 14)) bBa).trans x14),od⟩,⟨(cM 0).trans r0,(cM 1).trans r1,(cM 2).trans r2⟩,?_⟩;have xE:=HF.out.step (u':=sL gq (K+1) cq) R4 hL (kF _) hA (by rw[hLF];simpa only[L8.out]using cD) (by rw[hu];exact bP) (by
        rw[hu]
        rcases jW with y|y
        ·exact .inl y.symm
        ·exact .inr (by rw[hsa,<-y];rfl))
       obtain⟨Of',h'⟩:=xE;exact⟨Of',_,_,_,_,_,_,h'⟩
      clear hL hLF hu R4 HML hMB HL hAl aE7 HF;go_wp2_with fail;refine wp_region_noPanic ?_;refine wp_region_held_drew (S:=fun u=>u.cell? (aA MB 0)=some (iI LF)/\u.cell? (aA MB 1)=some (pP S')/\u.cell? (aA MB 2)=some (sL E' n n)) og ⟨r0,r1,r2⟩ (fun aG=>?_);refine tk 0 aG ?_;refine tk 1 aG ?_;refine tk 2 aG ?_;refine tk 3 aG ?_;refine tk 5 aG ?_;refine Y5 4 6 (fun Kq hK=>?_) fun Kq hK=>?_
      ·go_simp;refine kp hK (fun aG=>?_) ⟨r0,r1,r2⟩;clear hK Kq;refine eA 6 fun Kq hK=>?_;exact zA1
      ·go_simp;refine kp hK (fun aG=>?_) ⟨r0a _,r1a _,r2a _⟩;clear hK Kq;refine eA 4 fun Kq hK=>?_;exact zA1
    ·have hKn:K=nl:=by omega
     have kj:decide (K<nl)=false:=kC od;obtain⟨Of,S,E,D,R,Q,u,hF⟩:=HI.out;have HD:Hid (Below wz.heap.size w0 wr/\∃O m,Cl wr O C p fa cs cA.start 0 1 m/\∀c,c∈O->wz.heap.size<=c):=by refine⟨HB0.out.trans hF.bel,?_⟩;rw[hKn,<-HPL.out]at hF;exact hF.whole H13.out.1 H13.out.2 HHN.out
     clear hF HI hKn hlt;go_wp2;go_ret;exact⟨rfl,HD.out⟩
end
section
variable{C cI cb n:Nat}{V wx:World}{fa:Int}{p:aQ}
def wY(w:World)(p:aQ)(fa:Int)(cs:List Int)(e:Ending)(w':World):Prop:=
 bW w w'/\∃K I,qU p fa cs K I/\((K≠0/\∃E,e=rT (tU #[.pointer none,E])/\jK w' E K I)\/(K=0/\∃O C m,e=rT (tU #[pP C,.nilIface])/\Cl w' O C p fa cs cA.start 0 1 m/\∀c,c∈O->w.heap.size<=c))
def aA3(p:aQ)(fa:Int):Bool:=decide (p.aF<S7 (IntKind.u64.wrap fa))||(bits BinOp.andNot .i64 fa (2^p.n-1) !=0)
theorem aT0(hB:Z4 p)(h0:-9223372036854775808<=fa)(h1:fa<=9223372036854775807):aA3 p fa=false↔(0<=fa/\fa<2^p.n/\(List.range p.n).countP (aW fa)<=p.aF.toNat):=by
 have mR:p.n<=16:=by have:=hB.n2;unfold aQ.n;omega
 have hf:=hB.f0;unfold aA3;rw[aRa mR h0 od];by_cases eE:0<=fa/\fa<2^p.n
 ·obtain⟨x,hx⟩:∃x:Nat,fa=x:=⟨fa.toNat,od⟩;subst hx;have hlt:x<2^p.n:=by have h:=eE.2;have e:((2:Int)^p.n)=((2^p.n:Nat):Int):=oh;rw[e]at h;exact_mod_cast h
  have hx6:x<65536:=kB hlt (Nat.pow_le_pow_right (n:=2) oe mR);have hw:IntKind.u64.wrap (x:Int)=(x:Int):=zDd
  rw[hw,aLl mR hlt];simp only[eE,decide_true,Bool.not_true,Bool.or_false,decide_eq_false_iff_not,and_self,true_and];omega
 ·simp only[eE,decide_false,Bool.not_false,Bool.or_true,Bool.true_eq_false,false_iff];intro y;exact eE ⟨y.1,y.2.1⟩
theorem bAy(w:World)(a b c d e f g h i j:Value)(t:TypeId)(V:World)(hV:w.alloc (.cells #[a,b,c,d,e,f,g,h,i,j] t)=V):
  ((V.cell? (aA w.heap.size 0)=some a/\V.cell? (aA w.heap.size 1)=some b/\V.cell? (aA w.heap.size 2)=some c/\V.cell? (aA w.heap.size 3)=some d/\V.cell? (aA w.heap.size 4)=some e)/\V.cell? (aA w.heap.size 5)=some f/\V.cell? (aA w.heap.size 6)=some g/\V.cell? (aA w.heap.size 7)=some h/\V.cell? (aA w.heap.size 8)=some i/\V.cell? (aA w.heap.size 9)=some j)/\bW w V/\V.heap.size=w.heap.size+1:=by subst hV;exact⟨⟨⟨oh,oh,oh,oh,oh⟩,oh,oh,oh,oh,oh⟩,(kX _ _).alloc (kF _) _,oh⟩
structure A7(V wx:World)(p:aQ)(a:iH)(fa:Int)(cs:List Int)(n C cb cI:Nat):Prop where
 bel:bW V wx
 cel:∀(i:Nat)(u:Value),(#[iI n,iI p.aF,iI p.aJ,iI p.aC,iI p.aH,iI p.round,sV a.sa p.ns a.sc,sV a.la p.nl a.lc,iI p.frame,sV a.wa p.nw a.wc,iI fa,sL cb n cI,iI 0,sV none 0 0,sV none 0 0]:Array Value)[i]?=some u->wx.cell? (aA C i)=some u
 z:∀i,wx.frozen? (aA C i)=false
 lC:C<wx.heap.size
 lc:V.heap.size<=cb/\cb<C
 ck:∀j,j<cs.length->wx.cell? (aA cb j)=some (iI (cs.getD j 0))
theorem A7.of{v3:World}{a:iH}{cs:List Int}(hb:bW V v3)(hc:V.heap.size<=cb/\cb<v3.heap.size)(ck:∀j,j<cs.length->v3.cell? (aA cb j)=some (iI (cs.getD j 0))){t:TypeId}:
  A7 V (v3.alloc (.cells #[iI n,iI p.aF,iI p.aJ,iI p.aC,iI p.aH,iI p.round,sV a.sa p.ns a.sc,sV a.la p.nl a.lc,iI p.frame,sV a.wa p.nw a.wc,iI fa,sL cb n cI,iI 0,sV none 0 0,sV none 0 0] t)) p a fa cs n v3.heap.size cb cI:=by have k:∀o,bW v3 (v3.alloc o):=fun o=>(kX _ _).alloc (kF _) _;exact⟨hb.trans ((k _).mono hb.size),fun i u hi=>by simpa using hi,fun i=>by simp,oh,hc,fun j hj=>((k _).cell (p:=(aA cb j)) hc.2).trans (ck j hj)⟩
structure aNf(V v:World)(C:Nat)(p:aQ)(fa:Int)(cs:List Int)(cb cI:Nat)(sa:Option Addr)(oD:Nat)(X0:List Nat):Prop where
 bel:bW V v
 hd:P9 v C p fa cs cb cI sa oD X0
 z:∀i,v.frozen? (aA C i)=false
 c13:v.cell? (aA C 13)=some (sV none 0 0)
 c14:v.cell? (aA C 14)=some (sV none 0 0)
 lC:V.heap.size<=C/\C<v.heap.size
 lX:∀c,c∈X0->(V.heap.size<=c/\c<v.heap.size)/\c≠C
theorem aNf.below{v v':World}{cs:List Int}{sa:Option Addr}{oD:Nat}{X0:List Nat}(h:aNf V v C p fa cs cb cI sa oD X0)(k:bW v v'):aNf V v' C p fa cs cb cI sa oD X0:=by have cC:∀i,v'.cell? (aA C i)=v.cell? (aA C i):=fun i=>k.cell (p:=(aA C i)) h.lC.2;have hs:=k.size;exact⟨h.bel.trans (k.mono h.bel.size),h.hd.keep (fun i _=>cC i) (Same.of_below k (fun c hc=>(h.lX c hc).1.2)),fun i=>(k.frozen (p:=(aA C i)) h.lC.2).trans (h.z i),(cC 13).trans h.c13,(cC 14).trans h.c14,⟨h.lC.1,kB h.lC.2 hs⟩,fun c hc=>⟨⟨(h.lX c hc).1.1,kB (h.lX c hc).1.2 hs⟩,(h.lX c hc).2⟩⟩
theorem A7.next{v5:World}{a:iH}{cs:List Int}(h:A7 V wx p a fa cs n C cb cI)(hn:p.nodes=(n:Int))(hl:cs.length=n){a':Option Addr}{cap':Nat}(k:bW wx v5)(hr:dX v5 a' p.ns p.nd p.fr p.td)(hf:∀b off s,a'=some ⟨b,off,s⟩->wx.heap.size<=b/\b<v5.heap.size):
  ∃X0,aNf V (((v5.setCell (aA C 6) (sV a' p.ns cap')).setCell (aA C 7) (sV none 0 0)).setCell (aA C 9) (sV none 0 0)) C p fa cs cb cI a' cap' X0:=zN5
theorem aSn(aKq:∀(p:aQ) (a:iH) (w:World),p.In a w->∃E I,p.Is E I/\Calls prog 111 #[p.val a] w fun e w'=>∃V,e=rT V/\jK w' V E I/\bW w w')(p:aQ)(a:iH)(fa:Int)(ca:Option Addr)(cap:Nat)(cs:List Int)(w:World)(hIn:p.In a w)(hC:bE w ca cs)(f0:-9223372036854775808<=fa)(f1:fa<=9223372036854775807):
  Calls prog 69 #[p.val a,iI fa,sV ca cs.length cap] w fun e w'=>wY w p fa cs e w':=by
 unfold aQ.val at aKq⊢;obtain⟨V,hV⟩:∃V,w.alloc (.cells #[iI p.nodes,iI p.aF,iI p.aJ,iI p.aC,iI p.aH,iI p.round,sV a.sa p.ns a.sc,sV a.la p.nl a.lc,iI p.frame,sV a.wa p.nw a.wc] 51)=V:=⟨_,rfl⟩;obtain⟨⟨⟨b0,b1,b2,b3,b4⟩,b5,b6,b7,b8,b9⟩,hBV,hVs⟩:=bAy w _ _ _ _ _ _ _ _ _ _ _ V hV;obtain⟨E,I,hIs,M1⟩:=aKq p a V (hIn.below hBV);have HIn:Hid (p.In a w/\bE w ca cs):=⟨hIn,hC⟩;have HBV:Hid (bW w V/\V.heap.size=w.heap.size+1):=⟨hBV,hVs⟩;have tQ:w.heap.size<V.heap.size:=od;clear aKq hIn hC hBV hVs;go_enter func69,ntmps69;go_wp2_with fail;refine M1.mono ?_;rintro e v1 ⟨EV,rfl,bEy,uY⟩;have oP:Hid (bW w v1/\bW V v1):=⟨HBV.out.1.trans (uY.mono od),uY⟩;have HEr:Hid (jK v1 EV E I):=bEy;clear hV M1;rcases bEy with⟨rfl,he,hi⟩|⟨rfl,he,hi⟩|⟨b,rfl,he,c0,c1⟩
 ·subst he hi;have hPB:=hIs.bounds;have lK:1<=p.n:=by have:=hPB.n1;unfold aQ.n;omega
  have mR:p.n<=16:=by have:=hPB.n2;unfold aQ.n;omega
  have jB:p.nodes=(p.n:Int):=by have:=hPB.n1;unfold aQ.n;omega
  have sW:=hPB.ns;have y0:=bc uY tQ b0;have y1:=bc uY tQ b1;rw[jB]at y0;have N5:w.heap.size<v1.heap.size:=kB tQ uY.size;have hpw:1<=(2:Int)^p.n/\(2:Int)^p.n<=65536:=aUh p.n mR;have HFB:Hid (aA3 p fa=false↔(0<=fa/\fa<2^p.n/\(List.range p.n).countP (aW fa)<=p.aF.toNat)):=aT0 hPB f0 f1;have HFD:Hid (aA3 p fa=(decide (p.aF<S7 (IntKind.u64.wrap fa))||(bits BinOp.andNot .i64 fa (2^p.n-1) !=0))):=rfl;have HIs:Hid (p.Is 0 (-1)):=hIs;have HPB:Hid (Z4 p):=hPB;have HNN:Hid (p.nodes=(p.n:Int)):=jB;have bAe:=fun v=>aUa (IntKind.u64.wrap fa) (u64_in fa) v;have N2:=fun v=>I5 p.n mR v;have H1:Hid (∀v,bW w v->aA3 p fa=true->wY w p fa cs (rT (tU #[.pointer none,.iface 25 (iI 1)])) v):=fun v hv hb=>by refine⟨hv,1,-1,.inr ⟨hIs,rfl,.inl ⟨fun y=>?_,rfl⟩⟩,.inl ⟨oe,_,rfl,.inr (.inl ⟨rfl,oe,rfl⟩)⟩⟩;rw[HFB.out.2 y]at hb;cases hb
  clear hIs hPB uY HEr;generalize S7 (IntKind.u64.wrap fa)=oc at *;obtain⟨n,hpn⟩:∃n,p.n=n:=⟨_,rfl⟩;have L8:Hid (p.n=n):=hpn;rw[hpn]at lK mR y0 hpw HFD N2;generalize hpw2:(2:Int)^n=PW at hpw HFD N2;clear hpn jB hpw2;by_cases hA:p.aF<oc
  ·have kA:decide (p.aF<oc)=true:=kD hA;have HBd:Hid (aA3 p fa=true):=by show _=_;rw[HFD.out,kA];rfl
   exact zCn
  ·have kA:decide (p.aF<oc)=false:=kC hA;by_cases hR:(bits BinOp.andNot .i64 fa (PW-1) !=0)=true
   ·have HBd:Hid (aA3 p fa=true):=by show _=_;rw[HFD.out,kA,hR];rfl
    exact zCn
   ·have hR':(bits BinOp.andNot .i64 fa (PW-1) !=0)=false:=by simpa using hR
    have HOk:Hid (0<=fa/\fa<2^p.n/\(List.range p.n).countP (aW fa)<=p.aF.toNat):=HFB.out.1 (by rw[HFD.out,kA,hR'];rfl);clear hR;exact zPg
 ·have HD:Hid (wY w p fa cs (rT (tU #[.pointer none,.iface 25 (iI E)])) v1):=⟨oP.out.1,E,I,.inl ⟨E,hIs,he,rfl⟩,.inl ⟨he,_,rfl,HEr.out⟩⟩;clear hIs;go_wp2;go_ret2;exact HD.out
 ·have HD:Hid (wY w p fa cs (rT (tU #[.pointer none,.iface 299 (pP b)])) v1):=⟨oP.out.1,E,I,.inl ⟨E,hIs,he,rfl⟩,.inl ⟨he,_,rfl,HEr.out⟩⟩;clear hIs;go_wp2;go_ret2;exact HD.out
end
