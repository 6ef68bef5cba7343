import Derived.Test.YtknimkfdnanejaaGreatDoorZW2
import Derived.Deep.QuietTactic
set_option maxRecDepth 100000
namespace Go.Proofs.YtknimkfdnanejaaGreatDoor
variable {p:Prop}
theorem zCb(h:p:=by go_wp2;go_quiet((go_at_call 53;refine Calls.quiet_of_same (aTm _ _ _ _)));go_wp2;refine bodyPost_ret (v:=.agg #[.int .i64 1,.int .i64 (1000+(m:Int))]) Oq rfl ⟨fJ (HR.out.link hzz.out.1 (Z2.out.is hml g0.out (N6 m1 m2 w1.out) oe) oe),rE xR wU _ _ _ _⟩):p:=h
theorem zCs(h:p:=by go_enter func15,ntmps15;go_wp2_with fail;go_quiet((go_at_call 53;refine Calls.quiet_of_same (H1.out _ _ _ ?_);exact⟨rfl,by first|rfl|go_num⟩));go_wp2;go_ret2;exact HE.out _ ⟨rfl,rfl,rfl,kF _,fun _ _=>rfl⟩):p:=h
theorem zC6(h:p:=by go_enter func171,ntmps171;go_wp2_with fail;go_quiet(first|(go_at_call 201;refine Calls.quiet_of_same (hK _))|(go_at_call 215;refine Calls.quiet_of_same (HBt _)));go_wp2;go_ret;exact⟨rfl,_,rfl⟩):p:=h
theorem zDj(h:p:=by go_wp2_with fail;go_quiet(fail);go_wp2;go_ret;exact⟨rfl,_,rfl⟩):p:=h
theorem zEl(h:p:=by go_wp2_with fail;go_quiet(fail);go_wp2;go_ret2;exact HE.out _ (by first|exact dQ|exact sZ dQ _|exact dQ.drew)):p:=h
theorem zIy(h:p:=by
 obtain⟨a,cap,rfl⟩:=eY own
 first|have _:=m10;have aDb:Hid (w.ownsRow B 9 1 (.slice a all.length cap) all.length (all.map Value.string)):=own|skip
 have J1:decide (40<(d.size:Int))=false:=kC od
 first|have _:=m10;have hq2:decide (queue<=(all.length:Int)-(aP:Int))=false:=kC od;have z2:=z 2|have hq2:decide (most<=(all.length:Int))=false:=kC od;have z1:=z 1
 have HZ:Hid (∀i,w.frozen? (aA P i)=false):=z;have hlp:P<w.heap.size:=od
 first|have _:=m10;clear own hq z|skip
 obtain⟨n,hn⟩:∃n,all.length=n:=⟨_,rfl⟩;have HN:Hid (all.length=n):=hn
 first|have _:=m10;rw[hn]at aDb hq2 c2 ha we HH;rw[hn];clear hn;have Y0:IntKind.i64.wrap ((n:Int)-(aP:Int))=(n:Int)-(aP:Int):=jd;go_enter func54,ntmps54|rw[hn]at own hq2 c1 ha;have aDb:Hid (w.ownsRow B 9 1 (.slice a n cap) n (all.map Value.string)):=own;rw[hn];clear own hq z hn;go_enter func217,ntmps217
 go_wp2_with fail;go_quiet(fail);have hOq:(w.drewN nq).ownsRow B 9 1 (.slice a n cap) n (all.map Value.string):=aDb.out;exact zM2):p:=h
theorem zJv(h:p:=by
 obtain⟨x0,x1,x2⟩:=HC.out k hlt
 first|have _:=m43;have y0:=(bT.cell (p:=⟨b,off+k*3,none⟩) hb).trans x0;have y1:=(bT.cell (p:=⟨b,off+k*3+1,none⟩) hb).trans x1;have y2:=(bT.cell (p:=⟨b,off+k*3+2,none⟩) hb).trans x2;clear x0 x1 x2;have hz:b<wr.heap.size:=kB hb bT.size|replace x0:=(bT.cell (p:=⟨b,off+k*3,none⟩) hb).trans x0;replace x1:=(bT.cell (p:=⟨b,off+k*3+1,none⟩) hb).trans x1;replace x2:=(bT.cell (p:=⟨b,off+k*3+2,none⟩) hb).trans x2;have hbr:b<wr.heap.size:=kB hb bT.size
 by_cases c1:tq k<=fr k
 first
 |have _:=m43
  ·go_wp2;go_ret2;exact⟨oB (HF.out.is hlt h0.out (aWg c1) oe),bT.alloc bT.size _⟩
 |·go_wp2;refine bodyPost_ret (v:=.agg #[.int .i64 1,.int .i64 k]) jA0 rfl ⟨fJ (HR.out.slot (HF1.out.is hlt h0.out (aRq c1) oe) oe),?_⟩;exact zS hB bT _ _ _
 ·have c1':decide (tq k<=fr k)=false:=kC c1;by_cases ck:k=0
  ·have k1:((k:Int)==0)=true:=by rw[ck];rfl
   have k2:decide (0<k)=false:=by rw[ck];rfl
   have k3:decide ((0:Int)<(k:Int))=false:=by rw[ck];rfl
   have CK:Hid (k=0):=ck;clear ck;by_cases c2:fr k<0
   first
   |have _:=m43
    ·go_wp2;go_ret2;exact⟨oB (HF.out.is hlt h0.out (aD6 c1 (.inl ⟨CK.out,c2⟩)) oe),bT.alloc bT.size _⟩
   |·go_wp2;refine bodyPost_ret (v:=.agg #[.int .i64 10,.int .i64 k]) jA0 rfl ⟨fJ (HR.out.slot (HF1.out.is hlt h0.out (aAw c1 (.inl ⟨CK.out,c2⟩)) oe) oe),?_⟩;exact zS hB bT _ _ _
   ·have c2':decide (fr k<0)=false:=kC c2
    first
    |have _:=m43;have c3:Hid (¬((k=0/\fr k<0)\/(0<k/\fr k<tq (k-1)))):=by
      have:=CK.out;rintro(⟨_,h⟩|⟨h,_⟩)
      ·exact c2 h
      ·omega
    |have g3:Hid (¬((k=0/\fr k<0)\/(0<k/\fr k<=tq (k-1)+aJ))):=by
      have:=CK.out;rintro(⟨_,h⟩|⟨h,_⟩)
      ·exact c2 h
      ·omega
    go_wp2;go_quiet(fail);go_wp2
    ·first|have _:=m43;go_ret2;exact⟨oB (HF.out.is hlt h0.out (aK0 c1 c3.out Oe) oe),below_drewN (bT.alloc bT.size _) _⟩|refine bodyPost_ret (v:=.agg #[.int .i64 2,.int .i64 k]) jA0 rfl ⟨fJ (HR.out.slot (HF1.out.is hlt h0.out (aCy c1 g3.out Oe) oe) oe),?_⟩;exact zD6
    ·first|have _:=m43;go_ret2;exact⟨oB (HF.out.is hlt h0.out (K9 c1 c3.out Oe (.inr je)) oe),below_drewN (bT.alloc bT.size _) _⟩|refine bodyPost_ret (v:=.agg #[.int .i64 7,.int .i64 k]) jA0 rfl ⟨fJ (HR.out.slot (HF1.out.is hlt h0.out (l9 c1 g3.out Oe (.inr je)) oe) oe),?_⟩;exact zD6
    ·first|have _:=m43;refine⟨⟨k+1,od,ow,pW h0.out (aJz c1 c3.out Oe Oe je),below_drewN (bT.alloc bT.size _) _⟩,?_⟩;exact zHv|have aA7:dH nd fr tq nodes aJ round k=0:=aCx c1 g3.out Oe Oe je;exact zDm
    ·first|have _:=m43;go_ret2;exact⟨oB (HF.out.is hlt h0.out (K9 c1 c3.out Oe (.inl Oe)) oe),below_drewN (bT.alloc bT.size _) _⟩|refine bodyPost_ret (v:=.agg #[.int .i64 7,.int .i64 k]) jA0 rfl ⟨fJ (HR.out.slot (HF1.out.is hlt h0.out (l9 c1 g3.out Oe (.inl Oe)) oe) oe),?_⟩;exact zD6
  ·have hk0:0<k:=Nat.pos_of_ne_zero ck;have k1:((k:Int)==0)=false:=ol;have k2:(0:Int)<(k:Int):=od
   first|have _:=m43;have k3:(k:Int)<=1000:=od;have k4:(1:Int)<=(k:Int):=od;have k5:(k:Int)-1<(n:Int):=od|have k5:(k:Int)-1<(ns:Int):=od
   have k6:(0:Int)<=(k:Int)-1:=od;have k7:IntKind.i64.wrap ((k:Int)-1)=(k:Int)-1:=aS1 k od od;have k8:((k:Int)-1).toNat=k-1:=od
   first|have _:=m43;have y3:=(bT.cell (p:=⟨b,off+(k-1)*3+2,none⟩) hb).trans (HC.out (k-1) od).2.2|have x3:=(bT.cell (p:=⟨b,off+(k-1)*3+2,none⟩) hb).trans (HC.out (k-1) od).2.2;have up:=K5 b1 h0.out (k-1) od;have u1:0<=tq (k-1):=od;have u2:tq (k-1)<=137438953472:=od;clear up
   have CK:Hid (0<k):=hk0
   first|(have _:=m43;have c3:Hid (tq (k-1)<=fr k->¬((k=0/\fr k<0)\/(0<k/\fr k<tq (k-1)))):=by have:=CK.out;rintro g (⟨h,_⟩|⟨_,h⟩)<;>omega)|(have g3:Hid (tq (k-1)+aJ<fr k->¬((k=0/\fr k<0)\/(0<k/\fr k<=tq (k-1)+aJ))):=by have:=CK.out;rintro g (⟨h,_⟩|⟨_,h⟩)<;>omega)
   clear ck;go_wp2;go_quiet(fail);go_wp2
   ·first|have _:=m43;go_ret2;exact⟨oB (HF.out.is hlt h0.out (aD6 c1 (.inr ⟨CK.out,Oe⟩)) oe),below_drewN (bT.alloc bT.size _) _⟩|refine bodyPost_ret (v:=.agg #[.int .i64 10,.int .i64 k]) jA0 rfl ⟨fJ (HR.out.slot (HF1.out.is hlt h0.out (aAw c1 (.inr ⟨CK.out,Oe⟩)) oe) oe),?_⟩;exact zD6
   ·first|have _:=m43;go_ret2;exact⟨oB (HF.out.is hlt h0.out (aK0 c1 (c3.out Oe) Oe) oe),below_drewN (bT.alloc bT.size _) _⟩|refine bodyPost_ret (v:=.agg #[.int .i64 2,.int .i64 k]) jA0 rfl ⟨fJ (HR.out.slot (HF1.out.is hlt h0.out (aCy c1 (g3.out Oe) Oe) oe) oe),?_⟩;exact zD6
   ·first|have _:=m43;go_ret2;exact⟨oB (HF.out.is hlt h0.out (K9 c1 (c3.out Oe) Oe (.inr je)) oe),below_drewN (bT.alloc bT.size _) _⟩|refine bodyPost_ret (v:=.agg #[.int .i64 7,.int .i64 k]) jA0 rfl ⟨fJ (HR.out.slot (HF1.out.is hlt h0.out (l9 c1 (g3.out Oe) Oe (.inr je)) oe) oe),?_⟩;exact zD6
   ·first|have _:=m43;refine⟨⟨k+1,od,ow,pW h0.out (aJz c1 (c3.out Oe) Oe Oe je),below_drewN (bT.alloc bT.size _) _⟩,?_⟩;exact zHv|have aA7:dH nd fr tq nodes aJ round k=0:=aCx c1 (g3.out Oe) Oe Oe je;exact zDm
   ·first|have _:=m43;go_ret2;exact⟨oB (HF.out.is hlt h0.out (K9 c1 (c3.out Oe) Oe (.inl Oe)) oe),below_drewN (bT.alloc bT.size _) _⟩|refine bodyPost_ret (v:=.agg #[.int .i64 7,.int .i64 k]) jA0 rfl ⟨fJ (HR.out.slot (HF1.out.is hlt h0.out (l9 c1 (g3.out Oe) Oe (.inl Oe)) oe) oe),?_⟩;exact zD6):p:=h
theorem zKg(h:p:=by
 obtain⟨b,off,rfl,hb,hc⟩:=hr od;have hfa:=aXj b off cap l.length l rfl hn w hb hc;rw[eE]at hfa
 first
 |have _:=jA5;obtain⟨n,hl⟩:∃n,l.length=n:=⟨_,rfl⟩;have hA:=l7 eE (k:=f) od;have hZ:=l7 eE (k:=n-1-f) od;have HM:Hid (yV l f=(nP l f+nP l (n-1-f))/2):=by show _=_;rw[yV,hl]
  rw[hl]at hfa hn h⊢;have HC:Hid (∀W:World,bW w W->Calls prog 115 #[sV (some (aA b off)) n cap] W fun e w'=>∃g cp,e=rT (sL g n cp)/\W.heap.size<=g/\g<w'.heap.size/\Holds (Value.int .i64) w' g 0 l.toArray/\bW W w'):=fun W hW=>by refine(Tryz.slices_Clone_int b off n cap l W od od (fun j hj=>bc hW hb (hc j hj))).mono ?_;rintro e w1 ⟨v1,rfl,bK,jB,bBl⟩;rw[List.take_of_length_le od]at bK;obtain⟨g,cp,rfl,hbg,tE,_,_,_,hH⟩:=Lib.holds_of_ownsRow bK jB;exact⟨g,cp,rfl,hbg,tE,hH,bBl⟩
 |generalize l.length=n at *
 have k1:decide ((f:Int)<0)=false:=kC od;have k2:((n:Int)==0)=false:=ol;have k3:decide (((n:Int)-1)/2<(f:Int))=false:=kC od
 first|have _:=jA5;obtain⟨k,hk⟩:∃k,n-1-f=k:=⟨_,rfl⟩;rw[hk]at hZ HM;have k4:(n:Int)-1-(f:Int)=(k:Int):=od;have M2:k<n:=od;have hfn:f<n:=od;have HL:Hid (l.length=n):=hl;clear hc eE hr hl hk;obtain⟨p,hp⟩:∃p,nP l f=p:=⟨_,rfl⟩;obtain⟨q,hq⟩:∃q,nP l k=q:=⟨_,rfl⟩;rw[hp]at hA HM;rw[hq]at hZ HM;have HP:Hid (nP l f=p):=hp;have HQ:Hid (nP l k=q):=hq;clear hp hq;rw[HM.out]|clear hc eE hr
 go_enter func80,ntmps80;go_wp2_with fail;refine(aA1 _).mono ?_;rintro e w1 ⟨rfl,rfl⟩;go_wp2_with fail;refine hfa.mono ?_;rintro e w2 ⟨rfl,dQ⟩
 first
 |have _:=jA5;go_wp2_with fail;refine(HC.out _ dQ).mono ?_;rintro e w3 ⟨g,cp,rfl,hg,tE,hH,jN⟩;have bJ8:bW w w3:=D4 dQ jN;have hS:=Tryz.slices_Sort_int g 0 cp l w3 hH tE Ef;rw[HL.out]at hS;have HX:Hid (w.heap.size<=g/\Holds (Value.int .i64) w3 g 0 l.toArray):=⟨kG dQ.size hg,hH⟩;clear hH dQ jN hfa HC;go_wp2_with fail;refine hS.mono ?_;rintro e w4 ⟨rfl,nn,os,hw4⟩;obtain⟨hcs,yN⟩:=aAx bJ8 HX.out.1 tE HX.out.2 hw4;have c1:w4.cell? (aA g f)=some (iI p):=by rw[hcs f (by rw[HL.out];exact hfn),HP.out]
  have c2:w4.cell? (aA g k)=some (iI q):=by rw[hcs k (by rw[HL.out];exact M2),HQ.out]
  clear hcs hw4 HX hS;have k5:(f:Int)<(n:Int):=od;have k6:(k:Int)<(n:Int):=od;go_wp2_with fail;go_quiet(fail);all_goals go_wp2
  all_goals go_ret2
  all_goals exact⟨rfl,below_drewN' yN _⟩
 |go_wp2;go_ret2;exact⟨rfl,dQ⟩):p:=h
theorem zLy(h:p:=by
 go_wp2_with(first|(go_at_call 136;refine(aRk f s n d _ HR.out).mono ?_;rintro e w1 ⟨rfl,hb⟩;obtain⟨c0,c1,c2,c3,hz⟩:=bA8 hb)|go_in)
 first|have _:=bKb;go_quiet(fail);go_wp2;go_ret2;refine⟨rfl,below_drewN ?_ _⟩|go_ret2;refine⟨rfl,?_⟩
 exact zHu):p:=h
theorem zMa(h:p:=by
 have hi:=Tryz.stringslite_Index_one s 10;rw[h]at hi
 first|have _:=bGj;have c1:(0:Int)<=↑k:=od;have c2:(↑k:Int)<=↑s.size:=od;have c3:(0:Int)<=↑k+1:=od;have c4:(↑k+1:Int)<=↑s.size:=od|skip
 go_enter func84,ntmps84;go_wp2_with(go_at_call 138;refine(hi _).mono ?_;rintro e w' ⟨rfl,rfl⟩)
 first|have _:=bGj;go_quiet(fail);go_wp2;refine bodyPost_ret (v:=tU #[sT (s.extract 0 k),sT (s.extract (k+1) s.size),.bool true]) (by simp[results,results84,go_sem]) rfl ⟨rfl,rfl,rfl,rfl,kF _,fun _ _=>rfl⟩|refine bodyPost_ret (v:=tU #[sT s,sT ⟨#[]⟩,.bool false]) (by simp[results,results84,go_sem]) rfl ⟨rfl,kX _ _⟩):p:=h
theorem zMp(h:p:=by
 have dQ:decide (g<=b)=false:=kC od;have HB:Hid (decide (b<g)=true):=kD hb;rw[HB.out];clear hb
 first|have _:=bKn;go_enter func101,ntmps101;go_wp2_with fail;go_quiet(fail);have HNQ:Hid (bZ (((w.drewN nq).setCell (aA P 3) (iI 1)).setCell (aA P 4) (iI 0)) P Q id n t 1 0 false):=((HH.out.drawn nq).xD 1).bad 0;have HBT:=T2 HNQ.out hn;go_wp2_with fail;refine HBT.mono ?_;rintro e w1 ⟨rfl,rfl⟩;go_wp2;go_ret2;exact⟨rfl,HNQ.out,((aU.drawn _).set (p:=(aA P 3)) (.inl rfl) _).set (p:=(aA P 4)) (.inl rfl) _⟩|have HX:Hid (bJ ((w.setCell (aA P 3) (.bool false)).drew) P id n m g b false):=(HH.out.freeze false).drawn 1;have HT:Hid (aU P P w ((w.setCell (aA P 3) (.bool false)).drew)):=((aU.refl _ _ _).set (p:=(aA P 3)) (.inl rfl) _).trans (aU.drawn 1);go_enter func169,ntmps169;go_wp2_with fail;go_region;go_wp2_with fail;refine(aCu HX.out).mono ?_;rintro e w1 ⟨rfl,hN,hT⟩;have HN:Hid (bJ w1 P id n m 1 0 false):=hN;obtain⟨d0,d1,d2,d3,d4,d5,y,lp'⟩:=hN;clear y;go_wp2;go_ret2;exact⟨rfl,HN.out,HT.out.trans hT⟩):p:=h
theorem zMw(h:p:=by
 obtain⟨a,cap,rfl⟩:=eY own;have J1:decide (40<(d.size:Int))=false:=kC od
 first|have _:=bC9;have hq2:decide (queue<=((all.length-aP:Nat):Int))=false:=kC od;have z2:=z 2;have HZ:Hid (∀i,w.frozen? (aA P i)=false):=z|skip
 have hlp:P<w.heap.size:=od
 first|have _:=bC9;obtain⟨n,hn⟩:∃n,all.length-aP=n:=⟨_,rfl⟩;have HN:Hid (all.length-aP=n/\aP<=all.length):=⟨hn,we⟩;rw[hn]at own hq2 c2;have aDb:Hid (w.ownsRow B 9 1 (.slice a n cap) n ((all.drop aP).map Value.string)):=own;have lK:n<=10000000:=od;rw[hn];clear own hq z hn we ha;go_enter func122,ntmps122|have z2:=z 2;clear own z HH;obtain⟨n,hn⟩:∃n,all.length=n:=⟨_,rfl⟩;rw[hn]at c1 hq HF⊢;clear hn;go_enter func217,ntmps217
 go_wp2_with fail;go_quiet(fail)
 first|have _:=bC9;have hOq:(w.drewN nq).ownsRow B 9 1 (.slice a n cap) n ((all.drop aP).map Value.string):=aDb.out;have bCb:=0;exact zM2|go_wp2;go_ret;exact⟨rfl,HF.out _⟩):p:=h
theorem zOg(h:p:=by
 go_enter func102,ntmps102;go_wp2_with fail;refine hI.mono ?_;rintro e w1 ⟨rfl,yS⟩;replace yS:=yS.symm;subst yS
 first
 |have _:=bLc;go_wp2_with fail;go_quiet(fail)
  first
  |have _:=bK9
  |have hX:dF ((((w.setCell (aA P 5) (iI t)).drewN nq).setCell (aA P 4) (iI t)).setCell (aA P 3) (iI ((aP:Int)+1))) B P bag queue all (sL g n cap) (aP+1) t t:=by have:=(((HH.out.aVq t).drawn nq).setLast t).aZr (aP+1) (by rw[HNN.out];omega);exact zHh
   have HX:Hid _:=hX;have HT:Hid (aU P P w ((((w.setCell (aA P 5) (iI t)).drewN nq).setCell (aA P 4) (iI t)).setCell (aA P 3) (iI ((aP:Int)+1)))):=((((aU.refl _ _ _).set (p:=(aA P 5)) (.inl rfl) _).trans (aU.drawn nq)).set (p:=(aA P 4)) (.inl rfl) _).set (p:=(aA P 3)) (.inl rfl) _;clear hX;rename Nat=>nq1
   go_wp2_with fail;go_quiet((go_at_call 153;refine Calls.quiet_of_same (hO _)))
  exact zId
 |go_wp2;go_ret3;exact zIf):p:=h
theorem zOn(h:p:=by
 rintro e u1 ⟨hu0,KK,II,PP,rfl,oX⟩
 first|have _:=aYh;have C1:Below (w.alloc (.cells #[iI 0,iI 0] 98)).heap.size (w.alloc (.cells #[iI 0,iI 0] 98)) u1:=fR hu0;have hu:bW w u1:=hV.trans (C1.mono hV.size);have y0:u1.cell? (aA w.heap.size 0)=some (iI 0):=bc C1 oh jA2;have y1:u1.cell? (aA w.heap.size 1)=some (iI 0):=bc C1 oh jA2;have zz:∀i,u1.frozen? (aA w.heap.size i)=false:=fun i=>(World.frozen?_of_block (a:=(aA w.heap.size i)) (C1.block w.heap.size oh)).trans jA2;have z0:=zz 0;have z1:=zz 1|have hu:bW w u1:=fR hu0
 refine kp hK (fun aG=>?_) (yC.out u1 hu)
 first|have _:=aYh;clear hK K zz|clear hK K
 refine tk 10 aG ?_;refine tk 11 aG ?_;refine tk 12 aG ?_
 first|have _:=aYh|refine eA 13 fun K hK=>?_;go_simp;refine kp hK (fun aG=>?_) (yC.out _ (hu.alloc hu.size _));clear hK K
 refine eA 14 fun K hK=>?_;go_simp
 first
 |have _:=aYh;refine kp hK (fun aG=>?_) (yC.out u1 hu);clear hK K;refine eA 15 fun K hK=>?_;go_simp;refine kp hK (fun aG=>?_) (yC.out _ ((hu.setCell (p:=(aA w.heap.size 0)) (kF _) _).setCell (p:=(aA w.heap.size 1)) (kF _) _));clear hK K;refine dn ?_;obtain⟨⟨d10,e10⟩,zY,hf2⟩:=oX ((u1.setCell (aA w.heap.size 0) (iI KK)).setCell (aA w.heap.size 1) (iI II)) ⟨⟨rfl,rfl,rfl,oh⟩,fun c hc hq=>by
   have dM:c≠w.heap.size:=by rcases hq with q|q;exact Nat.ne_of_lt q;intro e;simp at q;omega
   rw[cJ dM,cJ dM]⟩
  have x0:((u1.setCell (aA w.heap.size 0) (iI KK)).setCell (aA w.heap.size 1) (iI II)).cell? (aA w.heap.size 0)=some (iI KK):=by simp[go_sem,y0]
  have HF1:Hid _:=zY;have Z2:Hid _:=hf2;clear oX zY hf2;generalize((u1.setCell (aA w.heap.size 0) (iI KK)).setCell (aA w.heap.size 1) (iI II))=UW at *;by_cases hk:KK=0
  ·subst hk;go_wp2;all_goals(
    go_ret2
    exact Z2.out (by first|trivial|rfl))
  ·have hk2:(KK !=0)=true:=by simpa using hk
   have hk3:decide (KK=0)=false:=kC hk;go_wp2_with fail;all_goals(
    go_quiet(fail)
    go_wp2
    go_ret2
    exact HF1.out hk _ ⟨rfl,rfl,rfl,kF _,fun _ _=>rfl⟩)
 |refine kp hK (fun aG=>?_) (yC.out _ (hu.alloc hu.size _));clear hK K;all_goals(
   refine eA 15 fun K hK=>?_
   go_simp
   refine kp hK (fun aG=>?_) (yC.out _ (hu.alloc hu.size _))
   clear hK K
   refine dn ?_
   obtain⟨⟨d10,e10⟩,zY,hf2⟩:=oX (u1.alloc (.cells #[iI KK,iI II] 98)) ⟨⟨rfl,rfl,rfl,oh⟩,fun c hc _=>Below.heap_alloc u1 _ c hc⟩
   have HF1:Hid _:=zY
   have Z2:Hid _:=hf2
   clear oX zY hf2
   by_cases hk:KK=0
   ·subst hk
    go_wp2
    all_goals(
     go_ret2
     exact Z2.out (by first|trivial|rfl))
   ·have hk2:(KK !=0)=true:=by simpa using hk
    have hk3:decide (KK=0)=false:=kC hk
    go_wp2_with fail
    all_goals(
     go_quiet(fail)
     go_wp2
     go_ret2
     exact HF1.out hk _ ⟨rfl,rfl,rfl,kF _,fun _ _=>rfl⟩))):p:=h
theorem zOz(h:p:=by
 have n0:V.cell? (aA b off)=some (iI (n.getD 0 0)):=bc hB gX (hc 0 oe);have n1:V.cell? (aA b (off+1))=some (iI (n.getD 1 0)):=bc hB gX (hc 1 oe);have n2:V.cell? (aA b (off+2))=some (iI (n.getD 2 0)):=bc hB gX (hc 2 oe)
 first
 |have _:=bLj;have n3:V.cell? (aA b (off+3))=some (iI (n.getD 3 0)):=bc hB gX (hc 3 oe);have n4:V.cell? (aA b (off+4))=some (iI (n.getD 4 0)):=bc hB gX (hc 4 oe)
  first|have _:=m63;have n5:V.cell? (aA b (off+5))=some (iI (n.getD 5 0)):=bc hB gX (hc 5 oe);have hs:=h.below hB;have hblk:=hs.blk;have c0:=aM hblk (i:=0) rfl;have c1:=aM hblk (i:=1) rfl;have c2:=aM hblk (i:=2) rfl;have c3:=aM hblk (i:=3) rfl;have c4:=aM hblk (i:=4) rfl;have c5:=aM hblk (i:=5) rfl;have z0:=bC hblk (i:=0);have z1:=bC hblk (i:=1);have z2:=bC hblk (i:=2);have z3:=bC hblk (i:=3);have z4:=bC hblk (i:=4);have z5:=bC hblk (i:=5);have HS:Hid (jF V base S M O st A N):=hs;have HB:Hid (bW w V):=hB;have HC:Hid (st.clu=none):=hc0;generalize R8:n.getD 0 0=y0 at n0;generalize hy1:n.getD 1 0=y1 at n1;generalize M3:n.getD 2 0=y2 at n2;generalize hy3:n.getD 3 0=y3 at n3;generalize hy4:n.getD 4 0=y4 at n4;generalize hy5:n.getD 5 0=y5 at n5;have HY:Hid (n.getD 0 0=y0/\n.getD 1 0=y1/\n.getD 2 0=y2/\n.getD 3 0=y3/\n.getD 4 0=y4/\n.getD 5 0=y5):=⟨R8,hy1,M3,hy3,hy4,hy5⟩;clear hblk hs hc h hr hn hc0 hB R8 hy1 M3 hy3 hy4 hy5;go_enter func18,ntmps18;go_wp2_with fail;go_quiet(fail)|have dB:b≠w.heap.size+1:=od;have HB:Hid (∀q x0 x1 x2 x3,bW w (((((V.drewN q).setCell (aA (w.heap.size+1) 0) x0).setCell (aA (w.heap.size+1) 1) x1).setCell (aA (w.heap.size+1) 2) x2).setCell (aA (w.heap.size+1) 3) x3)):=fun q x0 x1 x2 x3=>((((sZ hB q).setCell (p:=(aA (w.heap.size+1) 0)) Om _).setCell (p:=(aA (w.heap.size+1) 1)) Om _).setCell (p:=(aA (w.heap.size+1) 2)) Om _).setCell (p:=(aA (w.heap.size+1) 3)) Om _;clear hc hr hn hB;generalize n.getD 0 0=y0 at *;generalize n.getD 1 0=y1 at *;generalize n.getD 2 0=y2 at *;generalize n.getD 3 0=y3 at *;generalize n.getD 4 0=y4 at *;go_enter func81,ntmps81
  go_wp2_with fail;go_region;go_wp2_with fail
  first|have _:=m63;refine bodyPost_ret (v:=sT Kd.qX.name) (by simp[results,results18,go_sem];rfl) rfl ?_;obtain⟨e0,e1,e2,e3,e4,e5⟩:=HY.out;subst e0 e1 e2 e3 e4 e5;have hd:=HS.out.below (bdN V (nq+1));have hS:S∈M++O:=kK (.inl hd.r.s);have bCh:=0;exact zOj|refine bodyPost_ret (v:=tU #[.agg #[iI y0,iI y1,iI y2,iI y3],iI y4]) (by simp[results,results81,go_sem,k0,k1,k2,k3]) rfl ⟨rfl,?_⟩;exact(HB.out 0 _ _ _ _).drew
 |first|have _:=m27;have n3:V.cell? (aA b (off+3))=some (iI (n.getD 3 0)):=bc hB gX (hc 3 oe)|skip
  have zW:b<V.heap.size:=kB gX hB.size;have hs:=h.below (hB.trans ((bdN V 1).mono hB.size));have HBO:Hid (b∉M++O):=hbo
  first
  |have _:=m27;have HC:Hid (Calls prog 65 #[.pointer (some (aA S 7)),iI 8,.agg #[iI (n.getD 0 0),iI (n.getD 1 0),iI (n.getD 2 0),iI (n.getD 3 0)]] (V.drewN 1) (cS base S M O st N .oU n tx (V.drewN 1))):=by
    by_cases sW:st.aI.nl<8
    ·exact aB9 (V.drewN 1) hs hc0 sW n hi tx
    ·exact aB8 (V.drewN 1) hs sW n tx
   have HP:Hid (∀e w',cS base S M O st N .oU n tx (V.drewN 1) e w'->cS base S M O st N .oU n tx w e w'):=fun e w' q=>q.aO9.pre hB
  |have HC:Hid (Calls prog 64 #[.pointer (some (aA S 6)),iI 32,.agg #[iI (n.getD 0 0),iI (n.getD 1 0),iI (n.getD 2 0)]] (V.drewN 1) (cS base S M O st N .oW n tx (V.drewN 1))):=by
    by_cases sW:st.aI.ns<32
    ·exact aBb (V.drewN 1) hs hc0 sW n tx
    ·exact aBa (V.drewN 1) hs sW n tx
   have HP:Hid (∀e w',cS base S M O st N .oW n tx (V.drewN 1) e w'->cS base S M O st N .oW n tx w e w'):=fun e w' q=>q.aO9.pre hB
  generalize n.getD 0 0=y0 at *;generalize n.getD 1 0=y1 at *;generalize n.getD 2 0=y2 at *
  first|have _:=m27;generalize n.getD 3 0=y3 at *|skip
  clear hs h hr hc hB hbo hc0 hn
  first|have _:=m27;go_enter func20,ntmps20;go_wp2_with fail;refine wp_region_held_drew (S:=fun v=>v.cell? (aA b off)=some (iI y0)/\v.cell? (aA b (off+1))=some (iI y1)/\v.cell? (aA b (off+2))=some (iI y2)/\v.cell? (aA b (off+3))=some (iI y3)) og ⟨n0,n1,n2,n3⟩ (fun aG=>?_)|go_enter func19,ntmps19;go_wp2_with fail;refine wp_region_held_drew (S:=fun v=>v.cell? (aA b off)=some (iI y0)/\v.cell? (aA b (off+1))=some (iI y1)/\v.cell? (aA b (off+2))=some (iI y2)) og ⟨n0,n1,n2⟩ (fun aG=>?_)
  exact zNi):p:=h
theorem zPc(h:p:=by
 generalize p.lf k=LF at *
 first|have _:=bHf;clear HI HS hw la1|clear hw la1
 go_wp2_with fail;generalize(wr.alloc (.cells #[.int .i64 LF,.pointer (some ⟨m.S k,0,none⟩),.slice (some ⟨m.E k,0,none⟩) n n] 208))=V1 at *;go_quiet(fail)
 first
 |have _:=bHf;go_wp2;go_roundw;case rel=>exact⟨k+1,od,ow,L6.out _ ⟨HBB.out.os,HBB.out.tape,HBB.out.output,HBB.out.size,HBB.out.block⟩⟩
  case measure=>simp[intOf];omega
 |go_wp2_with fail;refine(H4.out _ _ HBB.out).mono ?_;rintro e v2 ⟨rfl,hI2⟩;have L6:Hid (dZ O w v2 C p fa cs (cA.tH ⟨s.nodes,(aK p.S who t s.aN k).1,s.aV,s.aR⟩ k (((aK p.S who t s.aN k).1 k).asked t (p.lb k))) rd B m):=hI2;clear hI2 H4;have HKZ:Hid (fU ((aK p.S who t s.aN k).1 k).all.length ((aK p.S who t s.aN k).1 k).aP t ((aK p.S who t s.aN k).1 k).now ((aK p.S who t s.aN k).1 k).last (p.lb k)=0\/fU ((aK p.S who t s.aN k).1 k).all.length ((aK p.S who t s.aN k).1 k).aP t ((aK p.S who t s.aN k).1 k).now ((aK p.S who t s.aN k).1 k).last (p.lb k)≠0):=by show _\/_;exact Classical.em _
  have HSN:Hid (fU ((aK p.S who t s.aN k).1 k).all.length ((aK p.S who t s.aN k).1 k).aP t ((aK p.S who t s.aN k).1 k).now ((aK p.S who t s.aN k).1 k).last (p.lb k)≠0->∀v,dZ O w v C p fa cs (cA.tH ⟨s.nodes,(aK p.S who t s.aN k).1,s.aV,s.aR⟩ k (((aK p.S who t s.aN k).1 k).asked t (p.lb k))) rd B m->(aK p.S who t s.aN (k+1)).2=none/\dZ O w v C p fa cs ⟨s.nodes,(aK p.S who t s.aN (k+1)).1,s.aV,s.aR⟩ rd B m):=fun hK v hv=>by rw[HS.out];exact⟨kI hK,hv⟩
  have HSY:Hid (fU ((aK p.S who t s.aN k).1 k).all.length ((aK p.S who t s.aN k).1 k).aP t ((aK p.S who t s.aN k).1 k).now ((aK p.S who t s.aN k).1 k).last (p.lb k)=0->aK p.S who t s.aN p.nl=(fun j=>if j=k then(((aK p.S who t s.aN k).1 k).asked t (p.lb k))else(aK p.S who t s.aN k).1 j,some (k,jZ 0 ((aK p.S who t s.aN k).1 k).aP,jY 0 ((aK p.S who t s.aN k).1 k).all ((aK p.S who t s.aN k).1 k).aP))):=fun hK=>by have hK':fU ((aK p.S who t s.aN k).1 k).all.length ((aK p.S who t s.aN k).1 k).aP t ((aK p.S who t s.aN k).1 k).now ((aK p.S who t s.aN k).1 k).last (p.S.lb k)=0:=hK;have e0:aK p.S who t s.aN (k+1)=_:=HS.out;rw[kJ hK']at e0;have e1:=S2 (P:=p.S) (who:=who) (t:=t) (L:=s.aN) (k:=k+1) (by rw[e0];rfl) p.nl (by have:=HKL.out;omega);rw[e1,e0];rfl
  clear HS HI;generalize hKK:fU ((aK p.S who t s.aN k).1 k).all.length ((aK p.S who t s.aN k).1 k).aP t ((aK p.S who t s.aN k).1 k).now ((aK p.S who t s.aN k).1 k).last (p.lb k)=K at *;clear hKK;generalize((aK p.S who t s.aN k).1 k).aP=WE at *;generalize((aK p.S who t s.aN k).1 k).all=AL at *;rcases HKZ.out with hK|hK
  ·subst hK;have hFv:F<v2.heap.size:=kB hF L6.out.size;obtain⟨x0,x1,xB,xS⟩:=bEm v2 (.int .i64 (jZ 0 WE)) (.string (jY 0 AL WE)) 303;have HXB:Hid (Below v2.heap.size v2 (v2.alloc (.cells #[.int .i64 (jZ 0 WE),.string (jY 0 AL WE)] 303))):=xB;have z:∀j,(v2.alloc (.cells #[.int .i64 (jZ 0 WE),.string (jY 0 AL WE)] 303)).frozen? ⟨F,j,none⟩=false:=fun j=>by obtain⟨O2,q1,q2⟩:=L6.out;exact(xB.frozen (p:=⟨F,j,none⟩) hFv).trans ((q1.frozen (p:=⟨F,j,none⟩) hF HFx.out.2.1).trans (HFx.out.1 j))
   have cF:∀j,(v2.alloc (.cells #[.int .i64 (jZ 0 WE),.string (jY 0 AL WE)] 303)).cell? ⟨F,j,none⟩=w.cell? ⟨F,j,none⟩:=fun j=>(xB.cell (p:=⟨F,j,none⟩) hFv).trans (L6.out.box hF HFx.out.2.1 j);have z3:=z 3;have z4:=z 4;have z5:=z 5;have HcF:Hid _:=cF;have q3:=(cF 3).trans HFx.out.2.2.2.2.2.1;have q4:=(cF 4).trans HFx.out.2.2.2.2.2.2.1;have q5:=(cF 5).trans HFx.out.2.2.2.2.2.2.2;have hFx:F<(v2.alloc (.cells #[.int .i64 (jZ 0 WE),.string (jY 0 AL WE)] 303)).heap.size:=by rw[xS];omega
   have hxx:v2.heap.size<(v2.alloc (.cells #[.int .i64 (jZ 0 WE),.string (jY 0 AL WE)] 303)).heap.size:=by rw[xS];omega
   have dM:v2.heap.size≠F:=od;have aTf:F≠v2.heap.size:=od;have qF:=HSY.out rfl;have bIc:Hid (aK p.S who t s.aN p.nl=(fun j=>if j=k then(((aK p.S who t s.aN k).1 k).asked t (p.lb k))else(aK p.S who t s.aN k).1 j,some (k,jZ 0 WE,jY 0 AL WE))):=qF;rw[aDz];generalize jZ 0 WE=SQ at *;generalize jY 0 AL WE=SD at *;clear z cF xB xS qF HSY HSN HKZ;go_wp2_with fail;generalize(v2.alloc (.cells #[.int .i64 SQ,.string SD] 303))=V2 at *;have HD:Hid (aC8 O F w (((V2.setCell ⟨F,3,none⟩ (.int .i64 k)).setCell ⟨F,4,none⟩ (.int .i64 SQ)).setCell ⟨F,5,none⟩ (.string SD)).drew C p fa cs ⟨s.nodes,(aK p.S who t s.aN p.nl).1,s.aV,s.aR⟩ rd B m/\((((V2.setCell ⟨F,3,none⟩ (.int .i64 k)).setCell ⟨F,4,none⟩ (.int .i64 SQ)).setCell ⟨F,5,none⟩ (.string SD)).drew.cell? ⟨F,0,none⟩=some (.int .i64 who)/\(((V2.setCell ⟨F,3,none⟩ (.int .i64 k)).setCell ⟨F,4,none⟩ (.int .i64 SQ)).setCell ⟨F,5,none⟩ (.string SD)).drew.cell? ⟨F,1,none⟩=some (.int .i64 i)/\(((V2.setCell ⟨F,3,none⟩ (.int .i64 k)).setCell ⟨F,4,none⟩ (.int .i64 SQ)).setCell ⟨F,5,none⟩ (.string SD)).drew.cell? ⟨F,2,none⟩=some (.int .i64 mem)/\(((V2.setCell ⟨F,3,none⟩ (.int .i64 k)).setCell ⟨F,4,none⟩ (.int .i64 SQ)).setCell ⟨F,5,none⟩ (.string SD)).drew.cell? ⟨F,3,none⟩=some (.int .i64 (gS (aK p.S who t s.aN p.nl).2))/\(((V2.setCell ⟨F,3,none⟩ (.int .i64 k)).setCell ⟨F,4,none⟩ (.int .i64 SQ)).setCell ⟨F,5,none⟩ (.string SD)).drew.cell? ⟨F,4,none⟩=some (.int .i64 (dN (aK p.S who t s.aN p.nl).2))/\(((V2.setCell ⟨F,3,none⟩ (.int .i64 k)).setCell ⟨F,4,none⟩ (.int .i64 SQ)).setCell ⟨F,5,none⟩ (.string SD)).drew.cell? ⟨F,5,none⟩=some (.string (dE (aK p.S who t s.aN p.nl).2)))):=by obtain⟨hz,hFO,f0,f1,f2,f3,f4,f5⟩:=HFx.out;obtain⟨d1,d2,d3,d4,d5⟩:=(L6.out.below HXB.out).store3 hF hFO ⟨_,_,_,q3,q4,q5⟩ (.int .i64 k) (.int .i64 SQ) (.string SD);rw[bIc.out];refine⟨?_,(d2 0 oe).trans ((HcF.out 0).trans f0),(d2 1 oe).trans ((HcF.out 1).trans f1),(d2 2 oe).trans ((HcF.out 2).trans f2),d3,d4,d5⟩;obtain⟨O',y1,y2,y3⟩:=d1;exact⟨O',y1.trans (aS.drawn _ _ 1),y2,y3.below ⟨rfl,rfl,rfl,kF _,fun _ _=>rfl⟩⟩
   go_region;go_wp2;exact bodyPost_ret (v:=.tuple #[]) E0 rfl ⟨rfl,HD.out⟩
  ·have hev:fI K=.iface 25 (.int .i64 K):=by unfold fI;rw[kI hK]
   have HI3:Hid (∀v,Below v2.heap.size v2 v->(aK p.S who t s.aN (k+1)).2=none/\dZ O w v C p fa cs ⟨s.nodes,(aK p.S who t s.aN (k+1)).1,s.aV,s.aR⟩ rd B m):=fun v hv=>HSN.out hK v (L6.out.below hv);rw[hev];generalize jZ K WE=SQ at *;generalize jY K AL WE=SD at *;clear hev HKZ HSN HSY L6 hK;go_wp2;go_roundw;case rel=>exact⟨k+1,od,ow,HI3.out _ ((kX _ _).alloc (kF _) _)⟩
   case measure=>simp[intOf];omega):p:=h
theorem zP1(h:p:=by
 go_enter func15,ntmps15;go_wp2_with fail
 first
 |have _:=bHh
  first
  |have _:=bCf
   first|(have _:=m74;go_quiet((go_at_call 53;refine Calls.quiet_of_same (H1.out _ _ _ ?_);exact⟨rfl,by first|rfl|go_num⟩));go_wp2_with fail;refine wp_region_held_drew (S:=fun u=>u.cell? (aA A.C 12)=some (sL m.nb nn m.vQ)/\u.cell? (aA b off)=some (iI (j:Int))/\u.cell? (aA m.nb j)=some (.pointer (some ⟨m.P j,0,none⟩))) og ⟨d12,n0,dj⟩ (fun aG=>?_))|refine wp_region_held_drew (S:=fun u=>u.cell? (aA b off)=some (iI x)) og n0 (fun aG=>?_)
  |have _:=m38;refine wp_region_held_drew (S:=fun u=>u.cell? (aA b off)=some (iI y0)/\u.cell? (aA b (off+1))=some (iI y1)/\u.cell? (aA b (off+2))=some (iI y2)) og ⟨mm _ _ _ n0,mm _ _ _ n1,mm _ _ _ n2⟩ (fun aG=>?_)
  |refine wp_region_held_drew (S:=fun u=>u.cell? (aA b off)=some (iI y0)/\u.cell? (aA b (off+1))=some (iI y1)/\u.cell? (aA b (off+2))=some (iI y2)/\u.cell? (aA b (off+3))=some (iI y3)) og ⟨n0,n1,n2,n3⟩ (fun aG=>?_)
 |have _:=m49;refine wp_region_held_drew (S:=fun v=>v.cell? (aA b off)=some (iI x)/\v.cell? (aA b (off+1))=some (iI y)) og ⟨n0,n1⟩ (fun aG=>?_)
 |go_quiet((go_at_call 53;refine Calls.quiet_of_same (H1.out _ _ _ ?_);exact⟨rfl,by first|rfl|go_num⟩));go_wp2_with fail;refine wp_region_held_drew (S:=fun v=>v.cell? (aA A.C 13)=some (sL m.kb nn m.aKw)/\v.cell? (aA b off)=some (iI (k:Int))/\v.cell? (aA m.kb k)=some (.pointer (some ⟨m.S k,0,none⟩))/\v.cell? (aA wb (P8+1))=some (sT tx)) og ⟨d13,n0,dk,yS⟩ (fun aG=>?_)
 refine tk 0 aG ?_;refine tk 1 aG ?_;refine tk 2 aG ?_;refine tk 3 aG ?_;refine tk 4 aG ?_
 first
 |have _:=bHh
  first
  |have _:=bCf
   first|have _:=m74;refine tk 5 aG ?_|refine eA 5 fun K hK=>?_;go_simp;refine Calls.mono hM ?_;rintro e u1 ⟨rfl,wT⟩;have hb:bW w u1:=fR wT;have m0:u1.cell? (aA b off)=some (iI x):=bc hb gX n0;have hT:=pI mv hv u1 (HT.out u1 hb);refine kp hK (fun aG=>?_) m0;clear hK K hM wT
  |have _:=m38;refine tk 5 aG ?_
  |skip
  refine tk 6 aG ?_;refine tk 7 aG ?_;refine tk 8 aG ?_
  first
  |have _:=bCf;refine eA 9 fun K hK=>?_;go_simp
   first|have _:=m74;refine Calls.mono (HB.out _ ⟨rfl,rfl,rfl,kF _,fun _ _=>rfl⟩) ?_;rintro e u1 ⟨rfl,rfl⟩;refine kp hK (fun aG=>?_) ⟨d12,n0,dj⟩|refine kp hK (fun aG=>?_) m0
   clear hK K;refine eA 10 fun K hK=>?_;go_simp
   first|have _:=m74;refine kp hK (fun aG=>?_) ⟨mm _ hCl d12,mm _ gX n0,mm _ hnb dj⟩;clear hK K;refine eA 11 fun K hK=>?_;go_simp;refine Calls.mono (HT2.out _ ⟨rfl,rfl,rfl,kF _,fun _ _=>rfl⟩) ?_;rintro e u2 ⟨rfl,dQ,e12,e0,ej,ez⟩;refine kp hK (fun aG=>?_) ⟨e12,e0,ej⟩;clear hK K;refine eA 12 fun K hK=>?_;go_simp;refine kp hK (fun aG=>?_) ⟨e12,e0,ej⟩|refine kp hK (fun aG=>?_) m0
   clear hK K;refine dn ?_
   first
   |have _:=m74;cases fz
    ·exact zEl
    ·exact zEl
   |go_wp2_with fail;all_goals(
     refine hT.mono ?_
     rintro e w2 ⟨rfl,dQ⟩
     go_wp2
     go_ret2
     exact HE.out w2 (hb.trans (dQ.mono hb.size)))
  |refine tk 9 aG ?_
   first|have _:=m38;refine eA 10 fun K hK=>?_;go_simp;refine kp hK (fun aG=>?_) ⟨mm _ _ _ n0,mm _ _ _ n1,mm _ _ _ n2⟩;clear hK K|refine tk 10 aG ?_
   refine tk 11 aG ?_;refine tk 12 aG ?_
   first|have _:=m38;refine eA 13 fun K hK=>?_;go_simp;refine kp hK (fun aG=>?_) ⟨mm _ _ _ n0,mm _ _ _ n1,mm _ _ _ n2⟩;clear hK K|refine tk 13 aG ?_
   refine tk 14 aG ?_;refine tk 15 aG ?_
   first
   |have _:=m38;refine eA 16 fun K hK=>?_;go_simp;refine kp hK (fun aG=>?_) ⟨mm _ _ _ n0,mm _ _ _ n1,mm _ _ _ n2⟩;clear hK K;refine dn ?_;rw[HV.out];go_wp2_with fail;refine wp_region_held_drew (S:=fun u=>u.cell? (aA w.heap.size 0)=some (iI y0)/\u.cell? (aA w.heap.size 1)=some (iI y1)/\u.cell? (aA w.heap.size 2)=some (iI y2)) og ⟨x0,x1,x2⟩ (fun aG=>?_);refine tk 0 aG ?_;refine tk 1 aG ?_;refine tk 2 aG ?_;refine tk 3 aG ?_;refine tk 4 aG ?_;refine tk 6 aG ?_;refine Y5 5 7 (fun K hK=>?_) (fun K hK=>?_);rotate_left;focus
     go_simp
     refine kp hK (fun aG=>?_) ⟨mb _ _ _ x0,mb _ _ _ x1,mb _ _ _ x2⟩
     clear hK K
     refine eA 5 fun K hK=>?_
     go_simp
     refine kp hK (fun aG=>?_) ⟨mb _ _ _ x0,mb _ _ _ x1,mb _ _ _ x2⟩
     clear hK K
    rotate_left;focus
     go_simp
     refine kp hK (fun aG=>?_) ⟨x0,x1,x2⟩
     clear hK K
     refine eA 7 fun K hK=>?_
     go_simp
     refine kp hK (fun aG=>?_) ⟨mb _ _ _ x0,mb _ _ _ x1,mb _ _ _ x2⟩
     clear hK K
    all_goals(
     refine eA 8 fun K hK=>?_
     refine step_append_lies _ oq _ _ _ oq base 94 i0 (.agg #[iI 0,iI 0,iI 0]) 3 24 underlying47 hi0 lO mX jX rfl oe (sV va2 nn vc) nn _ oq H3.out (aA V.heap.size 0) 1 1 [iI y0,iI y1,iI y2] oq rfl wX.out Oc oe oo od Ol (V.heap.size+1) oh ?_
     intro gq cq w3 cD uA jW aTd
     have bP:=aFx (aFx uA)
     clear uA
     obtain⟨r0,r1,r2,rc,rz⟩:=lT.out w3 bP
     refine kp hK (fun aG=>?_) ⟨r0,r1,r2⟩
     clear hK K
     refine tk 9 aG ?_
     refine tk 10 aG ?_
     refine tk 11 aG ?_
     refine eA 12 fun K hK=>?_
     go_simp
     refine kp hK (fun aG=>?_) ⟨(aB (.inl qY.out)).trans r0,(aB (.inl qY.out)).trans r1,(aB (.inl qY.out)).trans r2⟩
     clear hK K
     refine dn ?_
     obtain⟨U,hU⟩:∃U,w3.setCell (aA S 6) (sL gq (nn+1) cq)=U:=⟨_,rfl⟩
     obtain⟨u7,hDU,oX⟩:=tW.out w3 gq cq bP cD jW aTd U hU
     have HF:Hid _:=oX
     have hT:=pI (nn:Int) ⟨od,od⟩ U hDU
     rw[hU]
     clear hU oX hDU
     go_wp2_with fail
     refine hT.mono ?_
     rintro e w4 ⟨rfl,yN⟩
     go_wp2
     go_ret2
     exact HF.out w4 yN)
   |refine tk 16 aG ?_;refine tk 17 aG ?_;refine tk 18 aG ?_;refine Y5 5 19 (fun K hK=>?_) (fun K hK=>?_)
    ·go_simp;refine kp hK (fun aG=>?_) ⟨n0,n1,n2,n3⟩;clear hK K;refine eA 19 fun K hK=>?_;exact zAy
    ·go_simp;refine kp hK (fun aG=>?_) ⟨mm _ _ _ n0,mm _ _ _ n1,mm _ _ _ n2,mm _ _ _ n3⟩;clear hK K;refine eA 5 fun K hK=>?_;exact zAy
 |refine tk 5 aG ?_;refine tk 6 aG ?_
  first|have _:=m49;refine eA 7 fun K hK=>?_|refine tk 7 aG ?_;refine tk 8 aG ?_;refine tk 9 aG ?_;refine tk 10 aG ?_;refine tk 11 aG ?_;refine eA 12 fun K hK=>?_
  go_simp;refine Calls.mono (HP.out _ ⟨rfl,rfl,rfl,kF _,fun _ _=>rfl⟩) ?_
  first|have _:=m49;rintro e u1 ⟨d,k,rfl,hd,hcells,oX⟩;skip|rintro e u1 ⟨rfl,hcells,oX⟩;skip
  have HF:Hid _:=oX;refine kp hK (fun aG=>?_) hcells;clear hK K oX
  first|have _:=m49;refine tk 8 aG ?_;refine tk 9 aG ?_;refine tk 10 aG ?_;refine eA 11 fun K hK=>?_|refine eA 13 fun K hK=>?_
  go_simp;refine kp hK (fun aG=>?_) hcells;clear hK K
  first
  |have _:=m49;refine eA 12 fun K hK=>?_;go_simp;refine kp hK (fun aG=>?_) hcells;clear hK K;refine dn ?_;go_wp2;all_goals(
    go_ret2
    exact HF.out _ (kX _ _))
  |refine eA 14 fun K hK=>?_;exact zEy):p:=h
theorem zQi(h:p:=by
 replace hs:=hs.below hB;replace hl:=hl.below hB;replace hw:=hw.below hB;replace mQ:=mQ.below hB
 first
 |have _:=aYj;clear hV;clear n1 n2 n3 n4 n5 n6 n7 n8 n9 n10 a3 a4 a5 b3 b4 b5 b6 f1;go_loopw[101] (fun t wr=>∃k:Nat,k<=ns/\t=.int .i64 k/\Hid (∀j,j<k->dH nd fr tq nodes aJ round j=0)/\Below V.heap.size V wr) (fun t _=>ns-(intOf t).toNat);case atStart=>exact⟨0,kH _,rfl,fun j hj=>absurd hj (kT _),kX _ _⟩
 |go_wp2_with fail;go_loopw[5,40] (fun v t wr=>∃k:Nat,k<=ns/\t=iI k/\wr.ownsRow w1.heap.size 3 1 v (7+3*k) (([nodes,aF,aJ,aC,aH,round,(ns:Int)]++bX nd fr tq k).map (Value.int .i64))/\bW w1 wr) (fun _ t _=>ns-(intOf t).toNat);case atStart=>
   refine⟨0,kH _,rfl,?_,?_⟩
   ·have:=zD (w1.alloc (.cells #[iI 0,iI (-1)] 98)) #[iI nodes,iI aF,iI aJ,iI aC,iI aH,iI round,iI ns] 3 7 rfl (by simp[maxLen]) w1.heap.size oh;simpa[bX]using this
   ·exact((kX _ _).alloc (kF _) _).alloc oh _
 case round=>
  first|have _:=aYj;obtain⟨k,hk,rfl,h0,bT⟩:=hrel;have hzr:w.heap.size+1<wr.heap.size:=kB hz bT.size;have bNy:w.heap.size<wr.heap.size:=od;have q0:=(bT.cell (p:=⟨w.heap.size,0,none⟩) ol).trans p0;have q2:=(bT.cell (p:=⟨w.heap.size,2,none⟩) ol).trans p2;have q5:=(bT.cell (p:=⟨w.heap.size,5,none⟩) ol).trans p5;have q6:=(bT.cell (p:=⟨w.heap.size,6,none⟩) ol).trans p6;have q7:=(bT.cell (p:=⟨w.heap.size,7,none⟩) ol).trans p7;have q8:=(bT.cell (p:=⟨w.heap.size,8,none⟩) ol).trans p8;have q9:=(bT.cell (p:=⟨w.heap.size,9,none⟩) ol).trans p9;have s0:=(bT.cell (p:=⟨w.heap.size+1,0,none⟩) hz).trans r0;have s1:=(bT.cell (p:=⟨w.heap.size+1,1,none⟩) hz).trans r1;have y0:=(bT.frozen (p:=⟨w.heap.size+1,0,none⟩) hz).trans z0;have y1:=(bT.frozen (p:=⟨w.heap.size+1,1,none⟩) hz).trans z1;replace hl:=hl.below bT;replace hw:=hw.below bT;replace mQ:=mQ.below bT;clear p0 p2 p5 p6 p7 p8 p9 r0 r1 z0 z1|obtain⟨k,hk,rfl,bK,bT⟩:=hrel;have hzr:w1.heap.size<=wr.heap.size:=bT.size;have hzs:w.heap.size<wr.heap.size:=od
  by_cases hlt:k<ns
  ·first|have _:=aYj;obtain⟨b,off,rfl,hb,hc⟩:=hs od;have HC:Hid (∀j,j<ns->V.cell? ⟨b,off+j*3,none⟩=some (.int .i64 (nd j))/\V.cell? ⟨b,off+j*3+1,none⟩=some (.int .i64 (fr j))/\V.cell? ⟨b,off+j*3+2,none⟩=some (.int .i64 (tq j))):=hc;clear hc hs;exact zJv|obtain⟨b,off,rfl,hb,tN⟩:=hs od;exact zNf
  ·first
   |have _:=aYj;have aXo:Hid (∀j,j<ns->dH nd fr tq nodes aJ round j=0):=fun j hj=>h0.out j od;have hzz:Hid (e1=0/\i1=0):=HF1.out.at_end aXo.out;have xR:Below w.heap.size w wr:=hB.trans (bT.mono hB.size);rename World=>wq
    go_wp2_with fail;go_loopw[170] (fun t wv=>∃k:Nat,k<=nl/\t=.int .i64 k/\Hid (∀j,j<k->dC lf lt lb lq hit nodes pw j=0)/\Below wq.heap.size wq wv) (fun t _=>nl-(intOf t).toNat);case atStart=>exact⟨0,kH _,rfl,fun j hj=>absurd hj (kT _),kX _ _⟩
    case round=>
     obtain⟨m,hm,rfl,g0,wU⟩:=hrel;have hzv:w.heap.size+1<wr.heap.size:=kB hzr wU.size;have bNz:w.heap.size<wr.heap.size:=od;have t0:=(wU.cell (p:=⟨w.heap.size,0,none⟩) ol).trans q0;have t8:=(wU.cell (p:=⟨w.heap.size,8,none⟩) ol).trans q8;have t9:=(wU.cell (p:=⟨w.heap.size,9,none⟩) ol).trans q9;have v0:=(wU.cell (p:=⟨w.heap.size+1,0,none⟩) hzr).trans s0;have v1:=(wU.cell (p:=⟨w.heap.size+1,1,none⟩) hzr).trans s1;have f0:=(wU.frozen (p:=⟨w.heap.size+1,0,none⟩) hzr).trans y0;have f1:=(wU.frozen (p:=⟨w.heap.size+1,1,none⟩) hzr).trans y1;clear q0 q2 q5 q6 q7 q8 q9 s0 s1 y0 y1;by_cases hml:m<nl
     ·obtain⟨b,off,rfl,hb,hc⟩:=hl od;obtain⟨x0,x1,x2,x3⟩:=hc m hml;clear hc hl;replace x0:=(wU.cell (p:=⟨b,off+m*4,none⟩) hb).trans x0;replace x1:=(wU.cell (p:=⟨b,off+m*4+1,none⟩) hb).trans x1;replace x2:=(wU.cell (p:=⟨b,off+m*4+2,none⟩) hb).trans x2;replace x3:=(wU.cell (p:=⟨b,off+m*4+3,none⟩) hb).trans x3;by_cases m1:0<=lf m
      ·by_cases m2:lf m<=nodes-1
       ·have u1:(2:Int)^nodes.toNat=pw:=HPW.out;have u2:IntKind.i64.wrap pw=pw:=wrap_small pw od od;have u3:IntKind.i64.wrap (pw-1)=pw-1:=wrap_small (pw-1) od od;cases u4:inB (lt m) 1 (pw-1)
        ·have w1:Hid (lt m<1\/pw-1<lt m\/hit m=true):=by have:=of_decide_eq_false u4;show _\/_\/_;omega
         exact zCb
        ·have w0:=of_decide_eq_true u4;have w2:=HH.out m m1 od;have w3:=aI0 (lf m).toNat od;obtain⟨pf,hpf⟩:∃pf,(2:Int)^(lf m).toNat=pf:=⟨_,rfl⟩;rw[hpf]at w2 w3;have u5:IntKind.i64.wrap pf=pf:=wrap_small pf od od;cases u6:(bits BinOp.and .i64 (lt m) pf !=0)
         ·rw[u6]at w2;have w1:Hid (¬(lt m<1\/pw-1<lt m\/hit m=true)):=by show ¬_;rw[w2];simp;omega
          clear w0 w2 w3;go_wp2;go_quiet((go_at_call 53;refine Calls.quiet_of_same (aTm _ _ _ _)));go_wp2
          ·refine bodyPost_ret (v:=.agg #[.int .i64 2,.int .i64 (1000+(m:Int))]) Oq rfl ⟨fJ (HR.out.link hzz.out.1 (Z2.out.is hml g0.out (wJ m1 m2 w1.out (.inr (.inr je))) oe) oe),rE xR wU _ _ _ _⟩
          ·have aA7:dC lf lt lb lq hit nodes pw m=0:=aCp m1 m2 w1.out ⟨Oe,Oe⟩ ⟨Oe,je⟩;go_roundw;case rel=>((repeat apply Exists.intro);exact⟨⟨m+1,od,ow,pW g0.out aA7,below_drewN (wU.alloc wU.size _) _⟩,rfl⟩)
           case measure=>simp[intOf];omega
          ·refine bodyPost_ret (v:=.agg #[.int .i64 2,.int .i64 (1000+(m:Int))]) Oq rfl ⟨fJ (HR.out.link hzz.out.1 (Z2.out.is hml g0.out (wJ m1 m2 w1.out (.inr (.inl Oe))) oe) oe),rE xR wU _ _ _ _⟩
          ·refine bodyPost_ret (v:=.agg #[.int .i64 2,.int .i64 (1000+(m:Int))]) Oq rfl ⟨fJ (HR.out.link hzz.out.1 (Z2.out.is hml g0.out (wJ m1 m2 w1.out (.inl (.inr Oe))) oe) oe),rE xR wU _ _ _ _⟩
          ·refine bodyPost_ret (v:=.agg #[.int .i64 2,.int .i64 (1000+(m:Int))]) Oq rfl ⟨fJ (HR.out.link hzz.out.1 (Z2.out.is hml g0.out (wJ m1 m2 w1.out (.inl (.inl Oe))) oe) oe),rE xR wU _ _ _ _⟩
         ·rw[u6]at w2;have w1:Hid (lt m<1\/pw-1<lt m\/hit m=true):=.inr (.inr w2);clear w0 w2 w3;exact zCb
       ·have m3:decide (lf m<=nodes-1)=false:=kC m2;go_wp2;refine bodyPost_ret (v:=.agg #[.int .i64 7,.int .i64 (1000+(m:Int))]) Oq rfl ⟨fJ (HR.out.link hzz.out.1 (Z2.out.is hml g0.out (N7 (.inr od)) oe) oe),zS xR wU _ _ _⟩
      ·have m3:decide (0<=lf m)=false:=kC m1;go_wp2;refine bodyPost_ret (v:=.agg #[.int .i64 7,.int .i64 (1000+(m:Int))]) Oq rfl ⟨fJ (HR.out.link hzz.out.1 (Z2.out.is hml g0.out (N7 (.inl od)) oe) oe),zS xR wU _ _ _⟩
     ·have bIx:Hid (∀j,j<nl->dC lf lt lb lq hit nodes pw j=0):=fun j hj=>g0.out j od;have gzz:Hid (e2=0/\i2=0):=Z2.out.at_end bIx.out;replace hw:=hw.below wU;replace mQ:=mQ.below wU;clear hl;have uQ:Below w.heap.size w wr:=xR.trans (wU.mono xR.size);go_wp2_with fail;refine(aK1 wp wf wt frame e3 i3 wa nw wc wr od hw HF3.out).mono ?_;rintro ev ws ⟨rfl,hbg⟩;have hzs:w.heap.size+1<ws.heap.size:=kB hzv hbg.size;have r0:=(hbg.cell (p:=⟨w.heap.size+1,0,none⟩) hzv).trans v0;have r1:=(hbg.cell (p:=⟨w.heap.size+1,1,none⟩) hzv).trans v1;have z0:=(hbg.frozen (p:=⟨w.heap.size+1,0,none⟩) hzv).trans f0;have z1:=(hbg.frozen (p:=⟨w.heap.size+1,1,none⟩) hzv).trans f1;obtain⟨_,k0,k1⟩:=mQ.below hbg;clear t0 t8 t9 v0 v1 f0 f1 hw mQ;by_cases he:e3=0
      ·have e3b:(e3 !=0)=false:=by simp[he]
       have HE:Hid (e3=0):=he;clear he;go_wp2;refine bodyPost_ret (v:=.agg #[.int .i64 0,.int .i64 (-1)]) (by simp[results,results94,go_sem,r0,r1]) rfl ⟨fJ (HR.out.bB8 hzz.out.1 gzz.out.1 HE.out),?_⟩;exact zDw
      ·have e3b:(e3 !=0)=true:=by simp[he]
       have HE:Hid (e3≠0):=he;clear he;obtain⟨j1,j2⟩:=HF3.out.bound;have j3:i3<=32:=od;clear j2;go_wp2;refine bodyPost_ret (v:=.agg #[.int .i64 e3,.int .i64 (2000+i3)]) (by simp[results,results94,go_sem,r0,r1]) rfl ⟨fJ (HR.out.win hzz.out.1 gzz.out.1 HE.out),?_⟩;exact zDw
   |have hkk:k=ns:=by omega
    rw[hkk]at bK;clear hk hkk hs;have q7:=bc bT hzb p7;have wD:∀(j:Nat) (u:Value),[iI (nl:Int)][j]?=some u->(wr.alloc (.cells #[iI (nl:Int)] 3)).cell? (((aA wr.heap.size 0):Addr).add j)=some u:=rN wr #[iI (nl:Int)] 3;have HN:=(show Hid _ from wD);clear wD;go_wp2_with(at_builtin;refine wpList_append_own _ rfl _ _ 55 rfl w1.heap.size 3 i0 (iI 0) 1 8 underlying55 hi lO mX jX rfl oe u5 _ _ rfl (bK.alloc _) (aA wr.heap.size 0) 1 1 [iI (nl:Int)] rfl rfl HN.out (gK [(nl:Int)]) oo od ol ?_;intro v' w2 cD bP vP;have dQ:bW w1 w2:=(bT.alloc hzr _).grown bP ol (fun g hg=>(bK.lt g hg).1);have q7b:=bc dQ hzb p7;have hzw:w.heap.size<w2.heap.size:=kB hzb dQ.size);have lG:w2.ownsRow w1.heap.size 3 1 v' (8+3*ns) (([nodes,aF,aJ,aC,aH,round,(ns:Int)]++bX nd fr tq ns++[(nl:Int)]).map (Value.int .i64)):=by rw[List.map_append,show 8+3*ns=7+3*ns+1 from by omega];exact cD
    clear bK cD bP vP HN bT hzr hzs q7;go_loopw[5,65] (fun v t wr=>∃k:Nat,k<=nl/\t=iI k/\wr.ownsRow w1.heap.size 3 1 v (8+3*ns+4*k) ((([nodes,aF,aJ,aC,aH,round,(ns:Int)]++bX nd fr tq ns++[(nl:Int)])++fN lf lt lb lq k).map (Value.int .i64))/\bW w1 wr) (fun _ t _=>nl-(intOf t).toNat);case atStart=>exact⟨0,kH _,rfl,by simpa[fN]using lG,dQ⟩
    case round=>
     obtain⟨k,hk,rfl,bK,bT⟩:=hrel;have hzr:w1.heap.size<=wr.heap.size:=bT.size;have hzs:w.heap.size<wr.heap.size:=od;by_cases hlt:k<nl
     ·obtain⟨b,off,rfl,hb,tN⟩:=hl od;obtain⟨x0,x1,x2,x3⟩:=tN k hlt;exact zPi
     ·have hkk:k=nl:=by omega
      rw[hkk]at bK;clear hk hkk hl;have q8:=bc bT hzb p8;have q9:=bc bT hzb p9;have wD:∀(j:Nat) (u:Value),[iI frame,iI (nw:Int)][j]?=some u->(wr.alloc (.cells #[iI frame,iI (nw:Int)] 3)).cell? (((aA wr.heap.size 0):Addr).add j)=some u:=rN wr #[iI frame,iI (nw:Int)] 3;have HN:=(show Hid _ from wD);clear wD;go_wp2_with(at_builtin;refine wpList_append_own _ rfl _ _ 55 rfl w1.heap.size 3 i0 (iI 0) 1 8 underlying55 hi lO mX jX rfl oe u5 _ _ rfl (bK.alloc _) (aA wr.heap.size 0) 2 2 [iI frame,iI (nw:Int)] rfl rfl HN.out (gK [frame,(nw:Int)]) oo od ol ?_;intro v' w2 cD bP vP;have dQ:bW w1 w2:=(bT.alloc hzr _).grown bP ol (fun g hg=>(bK.lt g hg).1);have q9b:=bc dQ hzb p9;have hzw:w.heap.size<w2.heap.size:=kB hzb dQ.size);have lG:w2.ownsRow w1.heap.size 3 1 v' (10+3*ns+4*nl) (((([nodes,aF,aJ,aC,aH,round,(ns:Int)]++bX nd fr tq ns++[(nl:Int)])++fN lf lt lb lq nl)++[frame,(nw:Int)]).map (Value.int .i64)):=by rw[List.map_append,show 10+3*ns+4*nl=8+3*ns+4*nl+2 from by omega];exact cD
      clear bK cD bP vP HN bT hzr hzs q8 q9;go_loopw[5,92] (fun v t wr=>∃k:Nat,k<=nw/\t=iI k/\wr.ownsRow w1.heap.size 3 1 v (10+3*ns+4*nl+3*k) ((((([nodes,aF,aJ,aC,aH,round,(ns:Int)]++bX nd fr tq ns++[(nl:Int)])++fN lf lt lb lq nl)++[frame,(nw:Int)])++bX wp wf wt k).map (Value.int .i64))/\bW w1 wr) (fun _ t _=>nw-(intOf t).toNat);case atStart=>exact⟨0,kH _,rfl,by simpa[bX]using lG,dQ⟩
      case round=>
       obtain⟨k,hk,rfl,bK,bT⟩:=hrel;have hzr:w1.heap.size<=wr.heap.size:=bT.size;have hzs:w.heap.size<wr.heap.size:=od;by_cases hlt:k<nw
       ·obtain⟨b,off,rfl,hb,tN⟩:=hw od;have aYc:=0;exact zNf
       ·have hkk:k=nw:=by omega
        rw[hkk]at bK;clear hk hkk hw;have aTj:wr.ownsRow w1.heap.size 3 1 u5 (10+3*ns+4*nl+3*nw) (L.map (Value.int .i64)):=by rw[HL.out];exact bK
        obtain⟨g,cap,rfl,hg,hcells⟩:=pX aTj od;have HCE:Hid (∀(j:Nat) (u:Value),(L.map (Value.int .i64))[j]?=some u->wr.cell? (((aA g 0):Addr).add j)=some u):=hcells;have tE:g<wr.heap.size:=(aTj.lt g rfl).2;have r0b:=bc bT hz r0;have r1b:=bc bT hz r1;have z0b:=(bT.frozen (p:=(aA (w.heap.size+1) 0)) hz).trans z0;have z1b:=(bT.frozen (p:=(aA (w.heap.size+1) 1)) hz).trans z1;have hfb:=mQ.below bT;have hzx:w.heap.size+1<wr.heap.size:=od;have hBx:bW w wr:=hB.trans (bT.mono od);clear bK aTj hcells bT mQ p0 p1 p2 p3 p4 p5 p6 p7 p8 p9 r0 r1 z0 z1 hi lO mX jX hg hzr hzs;obtain⟨i1,hj,R8,hy1,M3⟩:=info_parts Tryz.infoByte;rename World=>x4
        go_wp2_with fail;go_loopw[12,110] (fun v t wr=>∃k:Nat,k<=10+3*ns+4*nl+3*nw/\t=iI k/\wr.ownsRow x4.heap.size 5 1 v (dL L k).length ((dL L k).map (Value.int .u8))/\bW x4 wr) (fun _ t _=>10+3*ns+4*nl+3*nw-(intOf t).toNat);case atStart=>exact⟨0,kH _,rfl,by simpa[dL]using World.ownsRow_nil _ _ _ _,kX _ _⟩
        case round=>
         obtain⟨k,hk,rfl,bK,bT⟩:=hrel;have hkl:k<10+3*ns+4*nl+3*nw\/k=10+3*ns+4*nl+3*nw:=od;rcases hkl with hlt|hkk
         ·have hkL:k<L.length:=by rw[HLL.out];exact hlt
          obtain⟨x,hx⟩:∃x,x=L[k]:=⟨_,rfl⟩;have hxb:=HNN.out x (by rw[hx];exact List.getElem_mem hkL);have y0:wr.cell? (aA g k)=some (iI x):=by rw[bT.cell (p:=(aA g k)) tE];have:=HCE.out k (iI x) (by simp[hkL,hx]);simpa only[add_plain,Nat.zero_add]using this
          have HX:Hid (x=L[k]):=hx;clear hx;obtain⟨m,hm⟩:=Int.eq_ofNat_of_zero_le hxb.1;have hm2:m<=1099511627776:=od;have HM:Hid (x=(m:Int)):=hm;have bl:=uV L k od;go_wp2_with fail;refine(aIv 5 m od hm2 oe _).mono ?_;rintro e w3 ⟨v1,rfl,ho1,jN⟩;have nl1:=uF 5 m;have bAf:=fF bK jN;obtain⟨g1,aX2,rfl,hg1,rH⟩:=pX ho1 nl1.1;have HC1:=(show Hid _ from rH);have hz3:x4.heap.size<=w3.heap.size:=kG bT.size jN.size;clear rH ho1;go_wp2_with(at_builtin;refine wpList_append_own _ rfl _ _ 31 rfl x4.heap.size 5 i1 (.int .u8 0) 1 1 underlying31 hj R8 hy1 M3 rfl oe u12 _ _ rfl bAf (aA g1 0) (pO 5 m).length aX2 ((pO 5 m).map (Value.int .u8)) rfl oh HC1.out (aOm _) oo od hz3 ?_;intro v' w4 cD bP vP);have yN:bW x4 w4:=(bT.trans (jN.mono bT.size)).grown bP hz3 (fun q hq=>(bAf.lt q hq).1);have lG:w4.ownsRow x4.heap.size 5 1 v' (dL L (k+1)).length ((dL L (k+1)).map (Value.int .u8)):=by
           have e5:(L[k]).toNat=m:=by have:=HX.out;have:=HM.out;omega
           rw[tB L k hkL,e5,List.length_append,List.map_append];exact cD
          go_roundw;case rel=>exact⟨k+1,od,ow,lG,yN⟩
          case measure=>simp[intOf];omega
         ·have bl:=uV L k (by rw[HLL.out];omega);have bp:1<=(dL L k).length:=by obtain⟨q,rfl⟩:∃q,k=q+1:=⟨k-1,od⟩;exact aGd L q (by rw[HLL.out];omega)
          rw[hkk]at bl bp bK;clear hk;obtain⟨g1,aX2,rfl,hg1,rH⟩:=pX bK bp;have bJg:decide ((2000:Int)<((dL L (10+3*ns+4*nl+3*nw)).length:Int))=false:=kC od;have r0c:=bc bT hzx r0b;have r1c:=bc bT hzx r1b;have z0c:=(bT.frozen (p:=(aA (w.heap.size+1) 0)) hzx).trans z0b;have z1c:=(bT.frozen (p:=(aA (w.heap.size+1) 1)) hzx).trans z1b;obtain⟨_,k0,k1⟩:=hfb.below bT;have hlt:¬k<10+3*ns+4*nl+3*nw:=od;clear rH HCE r0b r1b z0b z1b hfb;go_wp2_with fail;go_region;go_wp2;refine bodyPost_ret (v:=tU #[sL g1 (dL L (10+3*ns+4*nl+3*nw)).length aX2,.agg #[iI 0,iI (-1)]]) (by simp[results,results51,go_sem,r0c,r1c]) rfl ⟨_,rfl,?_,?_⟩
          ·have o1:=ownsRow_setCell_below bK (a:=(aA (w.heap.size+1) 0)) hzx (iI 0);have o2:=ownsRow_setCell_below o1 (a:=(aA (w.heap.size+1) 1)) hzx (iI (-1));exact(d6 o2 od).drew
          ·refine Below.drew ?_;exact((hBx.trans (bT.mono hBx.size)).setCell (p:=(aA (w.heap.size+1) 0)) (kR _) _).setCell (p:=(aA (w.heap.size+1) 1)) (kR _) _):p:=h
