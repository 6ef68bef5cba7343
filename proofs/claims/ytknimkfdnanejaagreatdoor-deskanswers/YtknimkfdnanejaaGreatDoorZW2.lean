import Derived.Test.YtknimkfdnanejaaGreatDoorZW1
import Derived.IntWalk
import Derived.OwnWalk
import Derived.RegionCalls
set_option maxRecDepth 100000
namespace Go.Proofs.YtknimkfdnanejaaGreatDoor
variable {p:Prop}
theorem ow(h:p:=by go_num):p:=h
theorem zAe(h:p:=by
 go_simp;refine kp hK (fun aG=>?_) trivial;clear hK K;refine eA 11 fun K hK=>?_;(refine step_append_lies _ oq _ _ _ oq Bi 3 i1 (.int .i64 0) 1 8 underlying55 hiI R8 hy1 M3 rfl oe v j _ oq (Z2.out.1.alloc _) ⟨w2.heap.size,0,none⟩ 1 1 [.int .i64 X] oq rfl (cell_one_new _ _ _) (gK [X]) oe oo od Jq (w2.heap.size+1) oh ?_;intro gq cq w3 cD bP _ _;have HW3:Hid (Below Bi wr w3/\w3.ownsRow Bi 3 1 (.slice (some ⟨gq,0,none⟩) (j+1) cq) (j+1) ((List.range (j+1)).map fun j=>.int .i64 (cs.getD j 0-cs.getD i 0))):=bD4 Z2.out.1 Z2.out.2.1 Z2.out.2.2 HXe.out cD bP;have yR3:w3.cell? ⟨w.heap.size,i,none⟩=some v:=(HW3.out.1.cell (p:=⟨w.heap.size,i,none⟩) HTB.out.lR).trans yR;have zR3:w3.frozen? ⟨w.heap.size,i,none⟩=false:=(HW3.out.1.frozen (p:=⟨w.heap.size,i,none⟩) HTB.out.lR).trans zR;have hl3:w.heap.size<w3.heap.size:=kB hlR HW3.out.1.size;clear cD bP);refine kp hK (fun aG=>?_) trivial;clear hK K;refine tk 12 aG ?_;refine eA 13 fun K hK=>?_;go_simp;refine kp hK (fun aG=>?_) trivial;clear hK K;refine dn ?_;refine NoPanic.normal ?_;have HN:Hid (∃v,RTab (w3.setCell ⟨w.heap.size,i,none⟩ (.slice (some ⟨gq,0,none⟩) (j+1) cq)) w.heap.size w.heap.size n i (fun i j=>cs.getD j 0-cs.getD i 0) G rF Bi v/\(w3.setCell ⟨w.heap.size,i,none⟩ (.slice (some ⟨gq,0,none⟩) (j+1) cq)).ownsRow Bi 3 1 v (j+1) ((List.range (j+1)).map fun j=>.int .i64 (cs.getD j 0-cs.getD i 0))/\Below w.heap.size w (w3.setCell ⟨w.heap.size,i,none⟩ (.slice (some ⟨gq,0,none⟩) (j+1) cq))):=
  ⟨_,HTB.out.grow HLT.out HW3.out.1 _,fY HW3.out.2 HTB.out.lR,(HBW.out.trans (HW3.out.1.mono HBi.out)).trans (((aU.refl w.heap.size w.heap.size w3).set (p:=⟨w.heap.size,i,none⟩) (.inl rfl) _).below od (kF _) (kF _))⟩
 clear Z2 HW3 yR2 zR2 yR3 zR3 yR zR bBg;go_wp2;go_roundw;case rel=>exact⟨j+1,od,ow,HN⟩
 case measure=>simp[intOf];omega):p:=h
theorem zAi(h:p:=by
 rw[wU]at hli HCN;go_wp2_with fail;refine hli.mono ?_;rintro ev w2 ⟨rfl,q,rfl⟩;clear hli;go_wp2_with fail;refine(wX.out q).mono ?_;rintro ev w1 ⟨rfl,hRN,dB⟩;have h1:=HNM.out.below (w':=w1) (Below.trans (⟨rfl,rfl,rfl,kF _,fun _ _=>rfl⟩:bW wr (wr.drewN q)) dB);have y12:=h1.c12;have z12:=h1.z 12;have lC1:=h1.lC;have bG2:=h1.sz;have HOw:Hid (w1.ownsRow base 119 1 (sV a12 i aK8) i ((List.range i).map fun j=>.pointer (some ⟨m.P j,0,none⟩))):=h1.own12;have HST:Hid (∀(V':Value) (w3:World),w3.ownsRow base 119 1 V' (i+1) (((List.range i).map fun j=>.pointer (some ⟨m.P j,0,none⟩))++[.pointer (some ⟨(wr.drewN q).heap.size+1,0,none⟩)])->(w1.alloc (.cells #[.pointer (some ⟨(wr.drewN q).heap.size+1,0,none⟩)] 119)).grownBy w3 (Value.slice a12 i aK8).ownBlock->(V'.ownBlock=(Value.slice a12 i aK8).ownBlock\/V'.ownBlock=some (w1.heap.size+1))->NMy w (w3.setCell (aA C 12) V') base Z C p cc fT m0 (i+1)/\aU C C w (w3.setCell (aA C 12) V')):=fun V' w3 a b c=>bIq.out q V' w1 w3 dB hRN a b c;have aKo:(Value.slice a12 i aK8).ownBlock≠some C:=fun e=>h1.nC jn;have bE6:Hid ((Value.slice a12 i aK8).ownBlock≠some C):=aKo;clear h1 hRN dB aKo;generalize(wr.drewN q).heap.size+1=NP at *;go_wp2_with(at_builtin;refine wpList_append_own_at _ rfl _ _ 104 rfl base 119 i1 (.pointer none) 1 8 underlying104 hiI R8 hy1 M3 rfl oe (sV a12 i aK8) i _ rfl (World.ownsRow.alloc HOw.out _) (aA w1.heap.size 0) 1 1 [pP NP] rfl rfl (cell_one_new _ _ _) Oc oo od ol ?_;apply Hid.out);unfold Hid;intro V' w3 cD bP _ jW;obtain⟨a3,c3,rfl⟩:=eY cD;have HN3:Hid _:=HST.out _ w3 cD bP (by simpa using jW);have lA:C<(w1.alloc (.cells #[pP NP] 119)).heap.size:=ol;have x12:w3.cell? (aA C 12)=some (sV a12 i aK8):=(bP.cell_far (aA C 12) lA (Ne.symm bE6.out)).trans ((World.cell?_alloc_lt _ _ _ lC1).trans y12);have v12:w3.frozen? (aA C 12)=false:=(bP.frozen_far (aA C 12) lA (Ne.symm bE6.out)).trans (by
  rw[show(w1.alloc (.cells #[pP NP] 119)).frozen? (aA C 12)=w1.frozen? (aA C 12)from((kX w1.heap.size w1).alloc (kF _) _).frozen (p:=(aA C 12)) lC1]
  exact z12)
 have lC3:C<w3.heap.size:=lt_of_cell x12;clear cD bP jW HST HOw y12 z12;go_wp2;exact⟨⟨i+1,od,ow,by rw[HCN.out];simp,HN3.out.1,HN3.out.2⟩,ot⟩):p:=h
theorem zAk(h:p:=by go_wp2;go_ret;refine⟨rfl,?_⟩;exact zHp):p:=h
theorem C6(h:p:=by go_wp2;go_ret;exact zIf):p:=h
theorem zAy(h:p:=by go_simp;refine kp hK (fun aG=>?_) ⟨mm _ _ _ n0,mm _ _ _ n1,mm _ _ _ n2,mm _ _ _ n3⟩;clear hK K;refine eA 20 fun K hK=>?_;refine step_append_lies _ oq _ _ _ oq base 96 i0 (.agg #[iI 0,iI 0,iI 0,iI 0]) 4 32 underlying48 hi0 lO mX jX rfl oe (sV va2 nn vc) nn _ oq H3.out (aA w.heap.size 0) 1 1 [iI y0,iI y1,iI y2,iI y3] oq rfl wX.out Oc oe oo od Ol (w.heap.size+1) oh ?_;exact zKk):p:=h
theorem zA1(h:p:=by
 go_simp;refine kp hK (fun aG=>?_) ⟨r0a _,r1a _,r2a _⟩;clear hK Kq;refine eA 7 fun Kq hK=>?_;(refine step_append_lies _ oq _ _ _ oq (C+1) 208 i1 (.agg #[iI 0,.pointer none,.slice none 0 0]) 3 40 underlying198 gi gz0 gz1 gz2 rfl oe (.slice a K cap) K _ oq (bF0.alloc _) (aA wc.heap.size 0) 1 1 [iI LF,pP S',sL E' n n] oq rfl (rN wc.drew #[iI LF,pP S',sL E' n n] 208) Oc oe oo od ol (wc.heap.size+1) oh ?_;intro gq cq w3 cD bP jW _;have hQ3:=HQ3.out gq cq w3 cD bP jW;clear cD bP jW;obtain⟨⟨bMx,bMu,hC3⟩,⟨s0,s1,s2⟩,xE⟩:=hQ3;have HST:Hid _:=xE;clear xE);refine kp hK (fun aG=>?_) ⟨s0,s1,s2⟩;clear hK Kq;refine tk 8 aG ?_;refine tk 9 aG ?_;refine eA 10 fun Kq hK=>?_;go_simp;refine kp hK (fun aG=>?_) ⟨(aB (.inl hMC)).trans s0,(aB (.inl hMC)).trans s1,(aB (.inl hMC)).trans s2⟩;clear hK Kq;refine dn ?_;refine NoPanic.normal ?_;clear bMx bMu s0 s1 s2 r0 r1 r2 r0a r1a r2a y14 x14 bMw HQ3;go_wp2;go_roundw;case rel=>exact⟨K+1,od,ow,HST⟩
 case measure=>simp[intOf];omega):p:=h
theorem zA2(h:p:=by
 rintro ev u1 ⟨rfl,C1⟩;have b1:bW V u1:=fR C1;have y0:=bc b1 hwV x0;have y1:=bc b1 zW n0;have oP:Hid (bW w u1):=HB.out.trans (b1.mono HB.out.size);refine kp hK (fun aG=>?_) ⟨y0,y1⟩;clear hK K;refine tk 8 aG ?_;refine tk 9 aG ?_;refine eA 10 fun K hK=>?_;go_simp;refine(HR.out u1 0 oP.out).mono ?_;rintro ev u2 ⟨he2,fP⟩;have b2:bW V u2:=b1.trans (fP.mono b1.size);by_cases hme:me=0
 ·rw[kJ hme]at he2;subst he2;have z0:=bc b2 hwV x0;have z1:=bc b2 zW n0;have hI:=qH mv HI.out u2 (HD.out u2 (HB.out.trans (b2.mono HB.out.size)));refine kp hK (fun aG=>?_) ⟨z0,z1⟩;clear hK K;refine eA 11 fun K hK=>?_;go_simp;refine hI.mono ?_;rintro ev u3 ⟨rfl,hu3⟩;have b3:bW V u3:=b2.trans (hu3.mono b2.size);have w0:=bc b3 hwV x0;have w1:=bc b3 zW n0;refine kp hK (fun aG=>?_) ⟨w0,w1⟩;clear hK K;refine eA 12 fun K hK=>?_;go_simp;refine kp hK (fun aG=>?_) ⟨w0,w1⟩;clear hK K;refine dn ?_;go_wp2_with fail;go_ret;exact HE.out u3 _ b3 jo
 ·rw[kI hme]at he2;subst he2;exact⟨rfl,HE.out u2 _ b2 jp⟩):p:=h
theorem zA3(h:p:=by go_simp;refine kp hK (fun aG=>?_) ⟨m0 _,m1 _,m2 _,m3 _⟩;clear hK K;refine eA 6 fun K hK=>?_;refine step_append_lies _ oq _ _ _ oq base 96 i0 (.agg #[iI 0,iI 0,iI 0,iI 0]) 4 32 underlying48 hi0 lO mX jX rfl oe _ nn _ oq H3.out (aA V.heap.size 0) 1 1 [iI y0,iI y1,iI y2,iI y3] oq rfl wX.out Oc oe oo od Ol (V.heap.size+1) oh ?_;have m68:=0;exact zKk):p:=h
theorem zA6(h:p:=by go_simp;refine kp hK (fun aG=>?_) ⟨m0 _,m1 _,m2 _⟩;clear hK K;refine eA 6 fun K hK=>?_;refine step_append_lies _ oq _ _ _ oq base 94 i0 (.agg #[iI 0,iI 0,iI 0]) 3 24 underlying47 hi0 lO mX jX rfl oe _ nn _ oq H3.out (aA V.heap.size 0) 1 1 [iI y0,iI y1,iI y2] oq rfl wX.out Oc oe oo od Ol (V.heap.size+1) oh ?_;exact zNm):p:=h
theorem zA9(h:p:=by
 intro L2 os st wr hrun hb pC pD t6;obtain⟨gL,rfl⟩:=pD.over (pC.trans rfl);clear pD pC;simp(decide:=true) only[ov,if_true,if_false,Nat.reduceAdd]at t6⊢;replace t6:=kW t6;rw[t6];clear t6;have HR:Hid (gA gD.start (iF text) os st):=by rw[hL];exact hrun
 have HBB:Hid (bW w wr):=HB0.out.trans (hb.mono HBS.out);clear hrun hb;go_wp2;go_ret;exact⟨os,st,HR.out,rfl,HBB.out⟩):p:=h
theorem zBb(h:p:=by
 go_wp2_with fail;refine hC.mono ?_;rintro ev u1 ⟨rfl,b1⟩;go_wp2_with fail;refine(HL.out _).mono ?_;rintro ev u2 ⟨x,rfl,hx,fP⟩;have b2:bW V u2:=(b1.alloc b1.size _).trans (fP.mono (by have:=b1.size;simp;omega));have hR:=J9 x me u2 (HD.out u2 (HB.out.trans (b2.mono HB.out.size))).told;go_wp2_with fail;refine hR.mono ?_;rintro ev u3 ⟨he3,hu3⟩;have b3:bW V u3:=b2.trans (hu3.mono b2.size);by_cases hme:me=0
 ·rw[kJ hme]at he3;subst he3;obtain⟨rfl,hir⟩:=hx hme;have hI:=qH x hir u3 (HD.out u3 (HB.out.trans (b3.mono HB.out.size)));go_wp2_with fail;refine hI.mono ?_;rintro ev u4 ⟨rfl,hu4⟩;go_wp2_with fail;go_ret;exact HE.out u4 _ (b3.trans (hu4.mono b3.size)) jo
 ·rw[kI hme]at he3;subst he3;exact⟨rfl,HE.out u3 _ b3 jp⟩):p:=h
theorem zBh(h:p:=by go_wp2_with fail;refine hI.mono ?_;rintro ev w2 ⟨rfl,dQ⟩;have uR:=bT.trans (dQ.mono bT.size);have lG:=yZ bK dQ;have qP:=uR.size;go_wp2_with(at_builtin;refine wpList_append_own _ rfl _ _ 43 rfl u1.heap.size 9 i0 (sT ⟨#[]⟩) 1 16 underlying43 hi lO mX jX rfl oe _ _ _ rfl (lG.alloc _) (aA w2.heap.size 0) 1 1 [sT (dG x)] rfl rfl (cell_one_new _ _ _) ja oo od ol ?_;intro v' w3 cD bP vP);have jN:bW u1 w3:=(uR.alloc qP _).grown bP ol (fun g hg=>(lG.lt g hg).1);refine⟨⟨k+1,ow,od,by rw[HSu.out];exact cD,jN⟩,?_⟩;exact zHv):p:=h
theorem zBu(h:p:=by go_enter func105,ntmps105;go_wp2;exact bodyPost_ret (v:=tU #[]) Ow rfl ⟨rfl,rfl⟩):p:=h
theorem zBw(h:p:=by
 go_enter func46,ntmps46;go_wp2_with fail;all_goals refine(hA _).mono ?_
 all_goals rintro e u3 ⟨rfl,rfl⟩
 all_goals exact⟨rfl,rfl,(((kX _ w).alloc (kF _) _).alloc oh _).alloc ol _⟩):p:=h
theorem zB0(h:p:=by have HX:Hid (bJ ((w.setCell (aA P 3) (.bool true)).drew) P id n m g b true):=(HH.out.freeze true).drawn 1;have HT:Hid (aU P P w ((w.setCell (aA P 3) (.bool true)).drew)):=((aU.refl _ _ _).set (p:=(aA P 3)) (.inl rfl) _).trans (aU.drawn 1);go_enter func169,ntmps169;go_wp2_with fail;go_region;go_wp2;go_ret2;exact⟨rfl,HX.out,HT.out⟩):p:=h
theorem zB2(h:p:=by go_wp2;exact⟨⟨k+1,od,ow,by rw[HS.out],by rw[HE.out],trivial⟩,ot⟩):p:=h
theorem zB5(h:p:=by
 go_enter func200,ntmps200;go_wp2;all_goals go_ret
 all_goals first|exact⟨rfl,rfl⟩|exact⟨Ej,rfl⟩|exact⟨(by congr 2;omega),rfl⟩):p:=h
theorem zB7(h:p:=by go_enter func197,ntmps197;go_wp2;go_ret;exact⟨rfl,(kX _ _).alloc (kF _) _⟩):p:=h
theorem zB8(h:p:=by
 go_wp2;exact⟨⟨q+1,od,ow,fun j hj=>by
  rcases Nat.lt_succ_iff_lt_or_eq.1 hj with y|y
  ·exact h0.out j y
  ·rw[y];exact HOK.out,trivial⟩,ot⟩):p:=h
theorem zCa(h:p:=by go_wp2_with fail;refine ha.mono ?_;rintro e w' ⟨rfl,hb⟩;exact zIb):p:=h
theorem zCg(h:p:=by go_enter func173,ntmps173;go_wp2;exact bodyPost_ret (v:=tU #[]) ec rfl ⟨rfl,rfl⟩):p:=h
theorem zCl(h:p:=by
 go_enter func46,ntmps46;go_wp2_with fail;go_region;go_wp2_with fail;all_goals refine(hA _).mono ?_
 all_goals rintro e u3 ⟨rfl,rfl⟩
 all_goals exact⟨rfl,rfl,(((kX _ w).alloc (kF _) _).alloc oh _).alloc ol _|>.drew⟩):p:=h
theorem zCr(h:p:=by
 go_wp2;go_roundw;case rel=>exact⟨k+1,od,ow,uO⟩
 case measure=>simp[intOf];omega):p:=h
theorem zCw(h:p:=by go_wp2_with fail;refine ha.mono ?_;rintro e w' ⟨rfl,hb⟩;exact⟨rfl,rfl,hb⟩):p:=h
theorem zC1(h:p:=by have hA:=fun u=>tZ 3 u;go_enter func87,ntmps87;go_wp2_with fail;refine hP.mono ?_;rintro e u1 ⟨N,rfl,_,_,dB⟩;clear hP;go_wp2_with fail;refine(hA _).mono ?_;rintro e u3 ⟨rfl,rfl⟩;exact⟨rfl,rfl,dB⟩):p:=h
theorem zC4(h:p:=by have aG6:Hid _:=fin;have HTT:Hid _:=HT3.out.set (p:=(aA P 2)) (.inl rfl) (.slice a3 (n+1) U7);clear fin cc cD bP jW uQ fE hOq c0 c1 c2 c3 c4 c5;go_wp2;go_ret;exact⟨rfl,_,aG6.out,HTT.out,HAt.out⟩):p:=h
theorem zDb(h:p:=by rintro ev w3 ⟨b3,rfl,q0,q1,jN⟩;go_wp2;go_ret;obtain⟨rfl,rfl⟩:=HF.out.is hlt h0.out HK.out HZ.out;exact⟨_,rfl,.inr ⟨b3,rfl,HZ.out,q0,q1⟩,hV1.trans ((jS C0 jN).mono hV1.size)⟩):p:=h
theorem zDc(h:p:=by clear h hvv sW;go_enter func15,ntmps15;go_wp2;go_ret2;exact⟨st,.err 4,M,O,A,.inr ⟨HN.out,rfl,rfl⟩,⟨oe,_,rfl⟩,aS.of_below (kX _ _),HS.out.later (kR N)⟩):p:=h
theorem zDe(h:p:=by rintro ev w4 ⟨b4,rfl,q0,q1,yN⟩;go_wp2;go_ret;obtain⟨rfl,rfl⟩:=HF.out.is hlt h0.out HK.out oe;exact⟨_,rfl,.inr ⟨b4,rfl,oe,q0,q1⟩,hV1.trans ((jS hbu yN).mono hV1.size)⟩):p:=h
theorem zDm(h:p:=by
 go_roundw;case rel=>((repeat apply Exists.intro);exact⟨⟨k+1,od,ow,pW h0.out aA7,below_drewN (bT.alloc bT.size _) _⟩,rfl⟩)
 case measure=>simp[intOf];omega):p:=h
theorem zDo(h:p:=by go_enter func214,ntmps214;go_wp2;exact bodyPost_ret (v:=tU #[.agg #[iI 0,sT ⟨#[]⟩],.iface 25 (iI 2)]) En rfl ⟨rfl,(kX _ _).alloc (kF _) _⟩):p:=h
theorem zDt(h:p:=by
 go_wp2;go_roundw;case rel=>exact⟨k+1,od,ow,ho4,yN⟩
 case measure=>simp[intOf];omega):p:=h
theorem zDv(h:p:=by
 go_enter func213,ntmps213;go_wp2;go_ret2;refine⟨rfl,?_⟩;repeat(refine Below.alloc ?_ (by first|omega|(simp;omega)|simp) _)
 exact kX _ _):p:=h
theorem zD2(h:p:=by go_enter func214,ntmps214;go_wp2;exact bodyPost_ret (v:=tU #[.agg #[iI 0,sT ⟨#[]⟩],.iface 25 (iI 8)]) En rfl ⟨rfl,HF.out,HT.out⟩):p:=h
theorem zD3(h:p:=by go_wp2;go_ret;exact⟨rfl,(HH.out.set.1 seq).set.2.1 (a+1),((aU.refl _ _ _).set (p:=(aA P 0)) (.inl rfl) _).set (p:=(aA P 1)) (.inl rfl) _⟩):p:=h
theorem zD9(h:p:=by go_enter func14,ntmps14;go_wp2_with fail;refine hP.mono ?_;rintro e u1 ⟨N,rfl,_,_,dB⟩;clear hP;go_wp2;go_ret2;exact⟨rfl,dB⟩):p:=h
theorem zEa(h:p:=by go_wp2;go_ret;obtain⟨rfl,rfl⟩:=HF.out.at_end (fun j hj=>h0.out j od);exact⟨_,rfl,.inl ⟨rfl,rfl⟩,hV1.trans (bT.mono hV1.size)⟩):p:=h
theorem zEd(h:p:=by go_wp2_with(go_at_call 136;refine(aVg f s n d _ HR.out).mono ?_;rintro e w1 ⟨rfl,hb⟩);go_ret2;exact⟨rfl,rC hb⟩):p:=h
theorem zEk(h:p:=by go_wp2_with fail;refine(aIj f s n d _ HR.out).mono ?_;rintro e w1 ⟨rfl,hb⟩;go_wp2;go_ret2;exact⟨rfl,rC hb⟩):p:=h
theorem zEm(h:p:=by clear hT W7;go_wp2;exact bodyPost_ret (v:=tU #[.pointer none,.agg #[iI 1,iI (-1)]]) ed rfl (rU.bad HNO.out oe lT.out)):p:=h
theorem zEn(h:p:=by
 go_wp2;go_roundw;case rel=>exact⟨k+1,od,ow,by rw[HL.out],pW h0.out HK.out,hbu⟩
 case measure=>simp[intOf];omega):p:=h
theorem zEo(h:p:=by go_ret2;rw[HM.out.1,HM.out.2];exact⟨rfl,below_drewN' yN _⟩):p:=h
theorem zEs(h:p:=by go_wp2;exact bodyPost_ret (v:=tU #[.pointer none,.agg #[iI 2,iI (-1)]]) ed rfl (rU.bad HNO.out oe lT.out)):p:=h
theorem zEy(h:p:=by go_simp;refine kp hK (fun aG=>?_) hcells;clear hK K;refine dn ?_;go_wp2;go_ret2;exact HF.out _ (kX _ _)):p:=h
theorem zE1(h:p:=by rintro e w2 ⟨rfl,dQ⟩;go_wp2;go_ret2;exact⟨rfl,(rC hb).trans (dQ.mono (kV hz))⟩):p:=h
theorem zE5(h:p:=by have HS2:Hid _:=HSt;clear HSt hS;go_wp2_with fail;exact⟨⟨k+1,_,od,ow,rfl,HS2,od,od,_,rfl⟩,ot⟩):p:=h
theorem zE6(h:p:=by
 go_wp2;go_roundw;case rel=>exact⟨c+1,od,ow,by rw[HWH.out],HJ2⟩
 case measure=>simp[intOf];omega):p:=h
theorem zE8(h:p:=by go_wp2;go_ret;exact⟨rfl,HH.out.set.2.2 (b+1),(aU.refl _ _ _).set (p:=(aA P 2)) (.inl rfl) _⟩):p:=h
theorem zFj(h:p:=by
 go_wp2;go_roundw;case rel=>exact⟨k+1,od,ow,HNN.out _⟩
 case measure=>simp[intOf];omega):p:=h
theorem zFl(h:p:=by go_wp2_with fail;refine(hA _).mono ?_;rintro e u3 ⟨rfl,rfl⟩;exact⟨rfl,HE.out⟩):p:=h
theorem zFq(h:p:=by
 go_wp2;go_roundw;case rel=>exact⟨j+1,od,ow,L6⟩
 case measure=>simp[intOf];omega):p:=h
theorem zFv(h:p:=by rw[C0]at hsh HS;go_wp2;exact⟨⟨k+1,od,ow,by rw[HS.out];simp,HB.out⟩,ot⟩):p:=h
theorem zFw(h:p:=by rw[ht]at r0 HS;go_wp2;exact⟨⟨k+1,od,ow,by rw[HS.out];simp,trivial⟩,ot⟩):p:=h
theorem zF3(h:p:=by go_wp2;refine⟨⟨k+1,od,ow,Ja,Ja,Ja,?_⟩,ot⟩;rw[HE2.out];exact L6.out):p:=h
theorem zF4(h:p:=by go_wp2;refine⟨⟨k+1,od,ow,E7,E7,E7,?_⟩,ot⟩;rw[HE2.out];exact A8.out):p:=h
theorem zGa(h:p:=by go_wp2;exact⟨⟨k+1,od,ow,by rw[HS.out,HE.out];simp,HB.out⟩,ot⟩):p:=h
theorem zGg(h:p:=by go_wp2;exact HX.out _ _ _ bK.out bT.out rfl (Rest.of rfl) rfl rfl):p:=h
theorem zGh(h:p:=by go_enter func44,ntmps44;go_wp2;go_ret;exact⟨rfl,0,rfl⟩):p:=h
theorem zGo(h:p:=by obtain⟨h1,h2,h3,h4,h5,h6,h7,h8,h9,h10⟩:=iK h;have HR:Hid (cV f s n d=true):=h;clear h;have hn:l<=1099511627776:=hl;have wC:-1099511627776<=l:=od;obtain⟨p1,p2⟩:=vB (x:=l-s) (n:=d) (M:=2199023255552) (R:=1000000) od od h7 h8;obtain⟨q1,q2⟩:=aD5 (x:=l-s) (n:=n) (d:=d) (M:=2199023255552) od od h5 h7 h10;have W9:=Tryz.mf;go_enter func83,ntmps83;exact zA4):p:=h
theorem zGq(h:p:=by go_enter func108,ntmps108;exact zAk):p:=h
theorem zGr(h:p:=by go_enter func136,ntmps136;exact zAk):p:=h
theorem zGu(h:p:=by obtain⟨h1,h2,h3,h4,h5,h6,h7,h8,h9,h10⟩:=iK h;have HR:Hid (cV f s n d=true):=h;clear h;obtain⟨p1,p2⟩:=vB (x:=r-f) (n:=n) (M:=1099511627776) (R:=1000000) od od h5 h6;obtain⟨q1,q2⟩:=aAl (x:=r-f) (n:=n) (d:=d) (M:=1099511627776) od od h5 h7 h9;have W9:=Tryz.mf;go_enter func82,ntmps82;exact zA4):p:=h
theorem zGw(h:p:=by go_simp;refine kp hK (fun aG=>?_) ⟨m0 _,m1 _,m2 _⟩;clear hK K;refine eA 17 fun K hK=>?_;refine step_append_lies _ oq _ _ _ oq base 145 i0 (.agg #[iI 0,iI 0,iI 0]) 3 24 underlying65 hi0 lO mX jX rfl oe vv nn _ oq H3.out (aA V.heap.size 0) 1 1 [iI y0,iI y1,iI y2] oq rfl wX.out Oc oe oo od Ol (V.heap.size+1) oh ?_;exact zKl):p:=h
theorem zGx(h:p:=by go_simp;refine kp hK (fun aG=>?_) ⟨m0 _,m1 _,m2 _⟩;clear hK K;refine eA 17 fun K hK=>?_;refine step_append_lies _ oq _ _ _ oq base 146 i0 (.agg #[iI 0,iI 0,iI 0]) 3 24 underlying66 hi0 lO mX jX rfl oe vv nn _ oq H3.out (aA V.heap.size 0) 1 1 [iI y0,iI y1,iI y2] oq rfl wX.out Oc oe oo od Ol (V.heap.size+1) oh ?_;exact zKl):p:=h
theorem zGy(h:p:=by go_simp;refine kp hK (fun aG=>?_) ⟨m0 _,m1 _,m2 _⟩;clear hK K;refine eA 16 fun K hK=>?_;refine step_append_lies _ oq _ _ _ oq base 114 i0 (.agg #[iI 0,iI 0,iI 0]) 3 24 underlying53 hi0 lO mX jX rfl oe vv nn _ oq H3.out (aA w.heap.size 0) 1 1 [iI y0,iI y1,iI y2] oq rfl wX.out Oc oe oo od Ol (w.heap.size+1) oh ?_;exact zAw):p:=h
theorem zGz(h:p:=by go_simp;refine kp hK (fun aG=>?_) ⟨m0 _,m1 _,m2 _⟩;clear hK K;refine eA 16 fun K hK=>?_;refine step_append_lies _ oq _ _ _ oq base 116 i0 (.agg #[iI 0,iI 0,iI 0]) 3 24 underlying54 hi0 lO mX jX rfl oe vv nn _ oq H3.out (aA w.heap.size 0) 1 1 [iI y0,iI y1,iI y2] oq rfl wX.out Oc oe oo od Ol (w.heap.size+1) oh ?_;exact zAw):p:=h
theorem zG1(h:p:=by go_wp2;go_ret;exact⟨HE.out _ hE.out,hV.trans (hW.mono hV.size)⟩):p:=h
theorem zG3(h:p:=by go_enter func53,ntmps53;exact C6):p:=h
theorem zG6(h:p:=by go_enter func73,ntmps73;have bGh:=0;exact zL8):p:=h
theorem zHa(h:p:=by clear hK K;refine dn ?_;go_wp2_with fail;refine(HI.out _).mono ?_;rintro e u9 ⟨rfl,hu9⟩;replace hu9:=hu9.symm;subst hu9;go_wp2_with fail;go_ret;exact zIl):p:=h
theorem zHc(h:p:=by clear hI5 hc4;go_wp2;exact wW.out _ _ HI5.out rfl (Rest.of rfl)):p:=h
theorem zHj(h:p:=by go_enter func103,ntmps103;exact C6):p:=h
theorem zHk(h:p:=by have W9:=Tryz.mf;go_enter func83,ntmps83;exact zLy):p:=h
theorem zHl(h:p:=by go_enter func120,ntmps120;go_wp2_with fail;refine hh.mono ?_;rintro e w' ⟨rfl,rfl⟩;clear hh;exact zAk):p:=h
theorem zHn(h:p:=by go_enter func80,ntmps80;exact zIm):p:=h
theorem zHo(h:p:=by go_enter func59,ntmps59;exact zIm):p:=h
theorem zHw(h:p:=by go_wp2_with fail;refine hT.mono ?_;rintro e w4 ⟨rfl,yN⟩;go_wp2;go_ret2;exact HF.out w4 yN):p:=h
theorem zH2(h:p:=by
 go_wp2;go_roundw;case rel=>exact⟨k+1,od,ow,HNN⟩
 case measure=>simp[intOf];omega):p:=h
theorem zH4(h:p:=by go_enter func123,ntmps123;exact C6):p:=h
theorem zH5(h:p:=by go_enter func121,ntmps121;exact C6):p:=h
theorem zH6(h:p:=by go_enter func244,ntmps244;exact C6):p:=h
theorem zH7(h:p:=by go_enter func237,ntmps237;exact C6):p:=h
theorem zH8(h:p:=by go_enter func201,ntmps201;exact C6):p:=h
theorem zIa(h:p:=by go_wp2;refine⟨⟨x+1,od,ow,?_,bAq.out⟩,ot⟩;rw[HE.out];exact aSa.out):p:=h
theorem zIb(h:p:=by go_wp2_with fail;go_ret;exact⟨rfl,hb⟩):p:=h
theorem zIc(h:p:=by go_wp2;go_ret2;exact⟨rfl,⟨rfl,rfl,rfl,kF _,fun _ _=>rfl⟩⟩):p:=h
theorem zId(h:p:=by go_wp2;go_ret3;exact⟨rfl,HX.out.drawn _,HT.out.trans (aU.drawn _)⟩):p:=h
theorem zIm(h:p:=by go_wp2;go_ret2;exact zB1):p:=h
theorem zIs(h:p:=by
 have x0:=@run_callFunc_extern prog 207 _ (fun args=>ReflectliteValue.unpack (args.getD 0 (tU #[]))) func207 og og og og;have x1:=@run_callFunc_extern prog 208 _ (ReflectliteValue.methodAny (ReflectliteValue.valueError "reflectlite.Value.Type" 0) (fun t _ _ _=>ReflectliteType.toType t)) func208 og og og og;have x2:=@run_callFunc_extern prog 209 _ (ReflectliteValue.method (ReflectliteValue.valueError "reflectlite.Value.IsNil" 0) ReflectliteValue.isNil) func209 og og og og;have x3:=@run_callFunc_extern prog 260 _ (ReflectliteType.abiMethod fun t=>do pure (.int .u8 (<-Rtype.kind t))) func260 og og og og;have x4:=@run_callFunc_extern prog 280 _ (ReflectliteType.method ReflectliteType.elem) func280 og og og og;have x5:=@run_callFunc_extern prog 281 _ (ReflectliteType.relation "Implements" ReflectliteType.implements_) func281 og og og og;have x6:=@run_callFunc_extern prog 233 _ ReflectliteType.typeOf func233 og og og og;have x7:=@run_callFunc_extern prog 278 _ (ReflectliteType.relation "AssignableTo" ReflectliteType.assignableTo) func278 og og og og;have x8:=@run_callFunc_extern prog 234 _ (ReflectliteValue.method (ReflectliteValue.valueError "reflectlite.Value.Elem" 0) ReflectliteValue.elem) func234 og og og og;have x9:=@run_callFunc_extern prog 235 _ ReflectliteValue.set func235 og og og og;have tO:=Tryz.aZx
 first|have _:=m4;have tA:=Tryz.aWa;have nA:=Tryz.aDm;have bHm:=Tryz.bHm;have bNj:=Tryz.aPb;have mU:=Tryz.aEi;have nU:=Tryz.aQ4|skip
 have mA:=Tryz.F8;have aE:=Tryz.aGb;have vE:=Tryz.aWe;have f6:=Tryz.aWf;have f7:=Tryz.bHx;have mK:=Tryz.aLb;have mE:=Tryz.aLa;have mI:=Tryz.N9;have kP:=Tryz.bG4;have kE:=Tryz.bG3;have eP:=Tryz.bEs;have iE:=Tryz.aH8;have n8:=Tryz.bC1 (aA w.heap.size 0) t ((w.alloc (.cells #[.pointer (some t)] 258)).alloc (.cells #[.pointer (some (aA 10 258)),pP w.heap.size,.int .u64 150] 289)) oh;have hlt:5<w.heap.size:=by exact zE0
 have hg2:((w.alloc (.cells #[.pointer (some t)] 258)).alloc (.cells #[.pointer (some (aA 10 258)),pP w.heap.size,.int .u64 150] 289)).cell? (aA 5 0)=some (.iface 326 (.agg #[.pointer (some (aA 10 38))])):=by exact zEp
 first
 |have _:=m4;have xZ:a.block<w.heap.size:=by exact zEv
  have hk3:(((w.alloc (.cells #[.pointer (some t)] 258)).alloc (.cells #[.pointer (some (aA 10 258)),pP w.heap.size,.int .u64 150] 289)).alloc (.cells #[.pointer (some (aA 10 258)),pP w.heap.size,.int .u64 150] 289)).cell? a=some (iI k):=by rw[World.cell?_alloc_lt _ _ a ol,World.cell?_alloc_lt _ _ a ol,World.cell?_alloc_lt _ _ a xZ];exact hk
 |skip
 have htl:t.block<w.heap.size:=by exact zEt
 have el:=Tryz.bB6 (aA w.heap.size 0) t (((w.alloc (.cells #[.pointer (some t)] 258)).alloc (.cells #[.pointer (some (aA 10 258)),pP w.heap.size,.int .u64 150] 289)).alloc (.cells #[.pointer (some (aA 10 258)),pP w.heap.size,.int .u64 150] 289)) (by rw[World.cell?_alloc_lt _ _ (aA w.heap.size 0) ol];simp);have st:=Tryz.bMr t (aA (w.heap.size+1+1+1) 0) k old ((((w.alloc (.cells #[.pointer (some t)] 258)).alloc (.cells #[.pointer (some (aA 10 258)),pP w.heap.size,.int .u64 150] 289)).alloc (.cells #[.pointer (some (aA 10 258)),pP w.heap.size,.int .u64 150] 289)).alloc (.cells #[iI k] 25))
  (by rw[World.cell?_alloc_at _ _ _ _ oh];rfl)
  o5
  El
 go_enter func165,ntmps165;go_wp2
 first|have _:=m4;refine wp_loop_rounds 2 ?_;rw[rounds_succ];go_wp2|refine wp_loop_rounds 1 ?_
 rw[rounds_succ];exact C6):p:=h
theorem zI3(h:p:=by
 have hB:bW w V:=hV▸(kX _ w).alloc (kF _) _;have hs:=h.below hB;obtain⟨pa,eS,eL,eW,eC,eE⟩:=hs.aLt
 first
 |have _:=m15;have a0:V.cell? (aA w.heap.size 0)=some (sV (some (aA b off)) (l.length+1) cap):=ou;have a1:V.cell? (aA b off)=some (iI x):=bc hB gX Oj;have fE:bE V (if cap=1 then some (aA b off)else some (aA b (off+1))) l:=fun h0=>⟨b,off+1,kI od,kB gX hB.size,fun j hj=>bc hB gX (by have:=hc (j+1) ju;simpa[Nat.add_assoc,Nat.add_comm 1 j]using this)⟩;have zW:b<V.heap.size:=kB gX hB.size;have hwV:w.heap.size<V.heap.size:=eo;have yA:=hs.r.hi S hs.r.s;have hwS:w.heap.size≠S:=fun e=>by have:=h.r.hi S h.r.s;omega
  have R1:b≠S:=fun e=>hr.2 b off rfl oh jm
 |obtain⟨E,I,hI,hmax,hC⟩:=aP4 st.aI pa V eE;skip
 have c0:V.cell? (aA S 0)=some (iI st.aI.nodes):=aM hs.blk (i:=0) rfl;have c1:V.cell? (aA S 1)=some (iI st.aI.aF):=aM hs.blk (i:=1) rfl;have c2:V.cell? (aA S 2)=some (iI st.aI.aJ):=aM hs.blk (i:=2) rfl;have c3:V.cell? (aA S 3)=some (iI st.aI.aC):=aM hs.blk (i:=3) rfl;have c4:V.cell? (aA S 4)=some (iI st.aI.aH):=aM hs.blk (i:=4) rfl;have c5:V.cell? (aA S 5)=some (iI st.aI.round):=aM hs.blk (i:=5) rfl;have c6:V.cell? (aA S 6)=some (sV pa.sa st.aI.ns pa.sc):=(aM hs.blk (i:=6) rfl).trans (congrArg some eS);have c7:V.cell? (aA S 7)=some (sV pa.la st.aI.nl pa.lc):=(aM hs.blk (i:=7) rfl).trans (congrArg some eL);have c8:V.cell? (aA S 8)=some (iI st.aI.frame):=aM hs.blk (i:=8) rfl;have c9:V.cell? (aA S 9)=some (sV pa.wa st.aI.nw pa.wc):=by rw[eW,eC,h.r.nw];exact aM hs.blk (i:=9) rfl
 first
 |have _:=m15;have hC:=gG.new st.aI pa x (if cap=1 then some (aA b off)else some (aA b (off+1))) (cap-1) l (V.drewN 1) (eE.below (bdN V 1)) (fE.below (bdN V 1)) od hx.1 hx.2;have HC:Hid (Calls prog 69 #[st.aI.val pa,iI x,sV (if cap=1 then some (aA b off)else some (aA b (off+1))) l.length (cap-1)] (V.drewN 1) fun e u=>bW V u/\∃K I,((K≠0/\∃E,e=rT (tU #[.pointer none,E])/\jK u E K I/\∀u',bW u u'->cS base S M O st N .iV (x::l) tx w (fX K) u')\/(K=0/\∃C,e=rT (tU #[pP C,.nilIface])/\∀u',bW u u'->cS base S M O st N .iV (x::l) tx w (rT (sT Kd.iV.name)) (u'.setCell (aA S 10) (pP C))))):=by
   refine hC.mono fun e u ⟨dB,K,I,hK,q⟩=>?_;have b1:bW V u:=fR dB;refine⟨b1,K,I,?_⟩;rcases q with⟨k0,E,he,hE⟩|⟨k0,O1,C,he,dI,hO1⟩
   ·exact .inl ⟨k0,E,he,hE,fun u' hu=>mN h hB (b1.trans (hu.mono b1.size)) (k:=.iV) (n:=x::l) (tx:=tx) (r:=.err K) ⟨K,I,hK,.inl ⟨k0,rfl,rfl⟩⟩ rfl⟩
   ·refine .inr ⟨k0,C,he,fun u' hu=>?_⟩;have bJc:L5 u' O1 C st.aI x l cA.start 0 0:=gG.keep dI (Same.of_below hu (gG.lt dI));obtain⟨q1,q2⟩:=(hs.later (kR N)).begun (b1.trans (hu.mono b1.size)) bJc hO1;exact⟨_,.ok Kd.iV.name,M,O1,_,⟨K,I,hK,.inr ⟨k0,rfl,rfl⟩⟩,rfl,(aS.of_below hB).trans q2,q1⟩
 |skip
 have HB:Hid (bW w V):=hB
 first|have _:=m15;have HK:Hid (∀u,bW V u->u.heap[S]?=some (.cells (st.cells A) 70 (0,0))):=fun u hu=>(hu.block S yA).trans hs.blk;have hbw:base<=w.heap.size:=kG (h.r.lo S h.r.s) (kV (h.r.hi S h.r.s));have HD:Hid (∀u,bW V u->nV u):=fun u hu=>(hD.below (hB.mono hbw)) u (hu.mono (kG hbw hB.size));clear h hD hB hs eE hC hc hr fE eS eL eW eC;unfold aQ.val at HC|have HD:Hid (∀u,bW w u->nV u):=fun u hu=>hD u hu;have HE:Hid (∀w' e,bW V w'->e=(jR E (mJ st.aI)).ending->cS base S M O st N .bytes_ n tx w e w'):=fun w' e q1 q2=>mN h hB q1 (k:=.bytes_) (n:=n) (tx:=tx) ⟨E,I,hI,rfl,rfl⟩ q2;have HM:Hid (E=0->mJ st.aI<=2000):=hmax;clear h hD hB hs eE hI eS eL eW eC hmax;generalize mJ st.aI=pl at *;unfold aQ.val at hC
 generalize st.aI.nodes=p0 at *;generalize st.aI.aF=p1 at *;generalize st.aI.aJ=p2 at *;generalize st.aI.aC=p3 at *;generalize st.aI.aH=p4 at *;generalize st.aI.round=p5 at *;generalize st.aI.frame=p8 at *;generalize st.aI.ns=q1 at *;generalize st.aI.nl=q2 at *;generalize st.aI.nw=q3 at *
 first
 |have _:=m15;have N5:(1:Int)<=(l.length:Int)+1:=od;go_enter func22,ntmps22;go_wp2_with fail;refine wp_region_held_drew (S:=fun v=>v.cell? (aA w.heap.size 0)=some (sV (some (aA b off)) (l.length+1) cap)/\v.cell? (aA b off)=some (iI x)/\v.cell? (aA S 0)=some (iI p0)/\v.cell? (aA S 1)=some (iI p1)/\v.cell? (aA S 2)=some (iI p2)/\v.cell? (aA S 3)=some (iI p3)/\v.cell? (aA S 4)=some (iI p4)/\v.cell? (aA S 5)=some (iI p5)/\v.cell? (aA S 6)=some (sV pa.sa q1 pa.sc)/\v.cell? (aA S 7)=some (sV pa.la q2 pa.lc)/\v.cell? (aA S 8)=some (iI p8)/\v.cell? (aA S 9)=some (sV pa.wa q3 pa.wc)) og ⟨a0,a1,c0,c1,c2,c3,c4,c5,c6,c7,c8,c9⟩ (fun aG=>?_);exact zPz
 |go_enter func21,ntmps21;go_wp2_with fail;refine hC.mono ?_;rintro ev u1 ⟨v1,X,rfl,hX,lF,b1⟩;by_cases hE:E=0
  ·obtain⟨rfl,ad,cap,rfl⟩:=lF hE;have hm:=HM.out hE;have hR:=aAt (sV ad pl cap) u1;go_wp2_with fail;refine hR.mono ?_;rintro ev u2 ⟨rfl,fP⟩;have b2:=b1.trans (fP.mono b1.size);have hI:=qH (pl:Int) ⟨od,od⟩ u2 (HD.out u2 (HB.out.trans (b2.mono HB.out.size)));go_wp2_with fail;refine hI.mono ?_;rintro ev u3 ⟨rfl,hu3⟩;go_wp2_with fail;go_ret;exact HE.out u3 _ (b2.trans (hu3.mono b2.size)) (by rw[jR,kJ hE];rfl)
  ·have hR:=aC4 v1 u1 (HD.out u1 (HB.out.trans (b1.mono HB.out.size))).told hX hE;go_wp2_with fail;refine hR.mono ?_;rintro ev u2 ⟨rfl,fP⟩;exact⟨rfl,HE.out u2 _ (b1.trans (fP.mono b1.size)) (by rw[jR,kI hE];rfl)⟩):p:=h
theorem zI7(h:p:=by
 obtain⟨n,hln⟩:∃n,cs.length=n:=⟨_,rfl⟩;have HL:Hid (cs.length=n):=hln;have HIn:Hid (∀x∈cs,-274877906944<=x/\x<=274877906944):=eE;have HR:Hid (bE w a cs):=hr
 first|have _:=m19;have sG:C<w.heap.size:=lt_of_cell c10|have sG:C<w.heap.size:=dY c10
 obtain⟨i0,hi,lO,mX,jX⟩:=info_parts Tryz.uZ;rw[hln]at hn c11;clear eE hr hln
 first|have _:=m19;go_enter func57,ntmps57;go_wp2_with fail;go_loopw[3,11] (fun lv t wr=>∃k:Nat,k<=n/\t=iI k/\Hid (wr.ownsRow w.heap.size 3 1 lv (gQ fa cs k).length ((gQ fa cs k).map (Value.int .i64)))/\Hid (bW w wr)) (fun _ t _=>n-(intOf t).toNat)|go_enter func77,ntmps77;go_wp2_with fail;go_loopw[3,11] (fun lv t wr=>∃k:Nat,k<=n/\t=iI k/\Hid (wr.ownsRow w.heap.size 3 1 lv (oK fa cs k).length ((oK fa cs k).map (Value.int .i64)))/\Hid (bW w wr)) (fun _ t _=>n-(intOf t).toNat)
 case atStart=>exact⟨0,kH _,rfl,World.ownsRow_nil _ _ _ _,kX _ _⟩
 case round=>
  obtain⟨k,hk,rfl,bK,bT⟩:=hrel
  first|have _:=m19;have y10:=aO c10 bT.out|have y10:=bc bT.out sG c10;have aEd:C<wr.heap.size:=kB sG bT.out.size
  by_cases hlt:k<n
  ·have kk:(k:Int)<(n:Int):=by omega
   obtain⟨b,off,rfl,hb,hc⟩:=HR.out Ef;have y0:=bc bT.out hb (hc k ji);have hbw:b<wr.heap.size:=kB hb bT.out.size
   first|have _:=m19;have HS:Hid (gQ fa cs (k+1)=gQ fa cs k++(if aW fa k=true then[]else[cs.getD k 0])):=X5 fa cs k;have hrl:=zJ fa cs k;have hli:=vF C fa k od wr y10|have HS:Hid (oK fa cs (k+1)=oK fa cs k++(if aW fa k=true then[]else[cs.getD k 0])):=aFk fa cs k;have hrl:=T3 fa cs k;have hli:=yJ fa k od wr
   have hs0:=bT.out.size;generalize cs.getD k 0=CK at *
   first|have _:=m19;generalize hRT:gQ fa cs k=RT at *|generalize hRT:oK fa cs k=RT at *
   clear hc hRT;cases dQ:aW fa k
   ·rw[dQ]at hli;rw[dQ,kI oe]at HS;go_wp2_with fail;refine hli.mono ?_
    first|have _:=m19;rintro ev w2 ⟨rfl,q,rfl⟩;have hOq:(wr.drewN q).ownsRow w.heap.size 3 1 u3 RT.length (RT.map (Value.int .i64)):=bK.out|rintro ev w2 ⟨rfl,h⟩;replace h:=h.symm;subst h;have hOq:wr.ownsRow w.heap.size 3 1 u3 RT.length (RT.map (Value.int .i64)):=bK.out
    clear hli;go_wp2_with(at_builtin;refine wpList_append_own _ rfl _ _ 55 rfl w.heap.size 3 i0 (iI 0) 1 8 underlying55 hi lO mX jX rfl oe u3 _ _ rfl (hOq.alloc _) (aA wr.heap.size 0) 1 1 [iI CK] rfl rfl (cell_one_new _ _ _) (gK [CK]) oo od ol ?_;intro v' w3 cD bP vP)
    first|have _:=m19;have jN:bW w w3:=((bT.out.trans (⟨rfl,rfl,rfl,kF _,fun _ _=>rfl⟩:Below w.heap.size wr (wr.drewN q))).alloc hs0 _).grown bP ol (fun g hg=>(bK.out.lt g hg).1)|have jN:bW w w3:=(bT.out.alloc hs0 _).grown bP ol (fun g hg=>(bK.out.lt g hg).1)
    exact zEq
   ·rw[dQ]at hli;rw[dQ,kJ rfl,List.append_nil]at HS;go_wp2_with fail;refine hli.mono ?_
    first|have _:=m19;rintro ev w2 ⟨rfl,q,rfl⟩;skip|rintro ev w2 ⟨rfl,h⟩;replace h:=h.symm;subst h
    clear hli;go_wp2_with fail
    first|have _:=m19;refine⟨⟨k+1,od,ow,?_,⟨bT.out.os,bT.out.tape,bT.out.output,bT.out.size,bT.out.block⟩⟩,?_⟩|refine⟨⟨k+1,od,ow,?_,bT⟩,?_⟩
    ·rw[HS.out];exact bK.out
    ·exact zHv
  ·have M2:k=n:=by omega
   first|(have _:=m19;obtain⟨va,aZz,rfl,hir,bAb⟩:=aIf bK.out;have hsp:=aC2 va aZz (gQ fa cs k) wr hir (kG (zJ fa cs k) od) (fun x hx=>HIn.out x (aAs (by rw[HL.out];exact hk) hx));have HE:Hid (gQ fa cs k=dW fa cs):=by show _=_;rw[M2,<-HL.out];rfl)|obtain⟨va,aZz,rfl,hir,bAb⟩:=aEm bK.out;have hsp:=aI1 va aZz (oK fa cs k) wr hir (kG (T3 fa cs k) od) (fun x hx=>by have:=HIn.out x (aIu (by rw[HL.out];exact hk) hx);omega);have HE:Hid (oK fa cs k=dW fa cs):=by show _=_;rw[M2,<-HL.out];rfl
   have kk:decide (k<n)=false:=kC hlt;clear M2 hlt bK hir bAb;go_wp2_with fail;refine hsp.mono ?_
   first|have _:=m19;rintro ev w2 ⟨rfl,q,rfl⟩;skip|rintro ev w2 ⟨rfl,h⟩;replace h:=h.symm;subst h
   clear hsp;go_wp2;go_ret
   first|have _:=m19;exact⟨congrArg (fun x=>Ending.returned (iI (dA x))) HE.out,⟨bT.out.os,bT.out.tape,bT.out.output,bT.out.size,bT.out.block⟩⟩|exact⟨congrArg (fun x=>Ending.returned (iI (dA x))) HE.out,bT.out⟩):p:=h
theorem zI8(h:p:=by
 go_enter func46,ntmps46;go_wp2_with fail
 first|have _:=m20|go_region;go_wp2_with fail
 refine(hA _).mono ?_;rintro e u3 ⟨rfl,rfl⟩;clear hA
 first|have _:=m20;have HR:Hid (D2 w _ (ws)):=hr|have HR:Hid (D2 w _ ((ws.take m))):=hr.take m
 have HW:Hid (cB w.heap.size w):=hw
 first|have _:=m20;have HSZ:Hid (∀x∈(ws),x.size<=20000):=hsz;have HLQ:Hid ((ws).length=ws.length):=rfl;have HLN:Hid (ws.length<=20000):=hl|have HSZ:Hid (∀x∈((ws.take m)),x.size<=20000):=(fun x hx=>hsz x (List.mem_of_mem_take hx));have HLQ:Hid (((ws.take m)).length=m):=(show(ws.take m).length=m by rw[List.length_take];omega);have HLN:Hid (m<=20000):=(show m<=20000 by omega)
 clear hr hw hsz;go_wp2_with fail
 first|(have _:=m20;go_loopw[45] (fun t wr=>∃(k:Nat) (r:List Int) (v:Value),k<=ws.length/\t=iI k/\Hid (jI ((ws).take k)=some r)/\Hid (M6 (w.heap.size+1+1) (ByteArray.empty) r v wr)/\Hid (bW w wr)) (fun t _=>ws.length-(intOf t).toNat);case atStart=>exact⟨0,[],sV none 0 0,kH _,rfl,rfl,aAm w _ _ ⟨#[]⟩,(((kX _ w).alloc (kF _) _).alloc oh _).alloc ol _⟩)|go_loopw[45] (fun t wr=>∃(k:Nat) (r:List Int) (v:Value),k<=m/\t=iI k/\Hid (jI (((ws.take m)).take k)=some r)/\Hid (M6 (w.heap.size+1+1) (tx) r v wr)/\Hid (bW w wr)) (fun t _=>m-(intOf t).toNat);case atStart=>exact⟨0,[],sV none 0 0,kH _,rfl,rfl,(aAm w _ _ _).below ((kX _ _).drew),((((kX _ w).alloc (kF _) _).alloc oh _).alloc ol _).drew⟩
 case round=>
  obtain⟨k,r,v,hk,rfl,hnu,xE,bT⟩:=hrel
  first|have _:=m20;by_cases hlt:k<ws.length|by_cases hlt:k<m
  ·first
   |have _:=m20;have kk:(k:Int)<(ws.length:Int):=by omega
    obtain⟨b,off,rfl,hb,hc⟩:=HR.out Er;obtain⟨x,hx⟩:∃x,(ws)[k]?=some x:=⟨_,List.getElem?_eq_getElem Er⟩;skip
   |have kk:(k:Int)<(m:Int):=by omega
    obtain⟨b1,bMo,hbo,dB,hc⟩:=HR.out (by rw[List.length_take];omega);obtain⟨rfl,rfl⟩:b=b1/\off=bMo:=by injection hbo with e;injection e with e1 e2;exact⟨e1,e2⟩
    obtain⟨x,hx⟩:∃x,((ws.take m))[k]?=some x:=⟨_,List.getElem?_eq_getElem Er⟩;skip
   have y:=bc bT.out hb (hc k x hx);have hz:b<wr.heap.size:=kB hb bT.out.size;have hxs:x.size<=20000:=HSZ.out x (List.mem_of_getElem? hx);have hN:=aLe x hxs (wr.drewN 1) (HW.out.at (v:=wr.drewN 1) (sZ bT.out 1) bT.out.size);have hrl:r.length=k:=by
    have:=tG hnu.out
    first|have _:=m20;rw[List.length_take]at this|rw[List.length_take,HLQ.out]at this
    omega
   subst hrl;have hk2:r.length<=20000:=by have:=HLN.out;omega
   first|(have _:=m20;have htk:(ws).take (r.length+1)=(ws).take r.length++[x]:=by rw[List.take_add_one,hx];rfl)|have htk:((ws.take m)).take (r.length+1)=((ws.take m)).take r.length++[x]:=by rw[List.take_add_one,hx];rfl
   have c0:=xE.out.c0;have z0:=xE.out.z0;have bNx:=xE.out.lt
   first|have _:=m20;have HX:Hid ((ws)[r.length]?=some x):=hx|have HX:Hid (((ws.take m))[r.length]?=some x):=hx
   have HTK:Hid _:=htk;clear hx hc htk
   first
   |have _:=m20
    cases hnp:qA x with
    |none=>
     have J4:jI (ws)=none:=xW (k:=r.length+1) Ec
     have HNO:Hid _:=J4
     simp only[hnp]at hN
     go_wp2_with fail
     refine wp_region_held_drew (S:=fun _=>True) og trivial (fun aG=>?_)
     refine tk 0 aG ?_
     refine tk 2 aG ?_
     refine Y5 1 3 (fun K hK=>?_) (fun K hK=>?_)
     ·go_simp
      refine kp hK (fun aG=>?_) trivial
      clear hK K
      refine eA 3 fun K hK=>?_
      go_simp
      refine hN.mono ?_
      rintro ev u1 ⟨rfl,C1⟩
      exact⟨rfl,.no Ew,bT.out.trans ((fR C1).mono bT.out.size)⟩
     ·go_simp
      refine hN.mono ?_
      rintro ev u1 ⟨rfl,C1⟩
      exact⟨rfl,.no Ew,bT.out.trans ((fR C1).mono bT.out.size)⟩
    |some val=>
     simp only[hnp]at hN
     have HNU:Hid (jI ((ws).take (r.length+1))=some (r++[val])):=Ec
     go_wp2_with fail
     refine wp_region_held_drew (S:=fun _=>True) og trivial (fun aG=>?_)
     refine tk 0 aG ?_
     refine tk 2 aG ?_
     refine Y5 1 3 (fun K hK=>?_) (fun K hK=>?_)
     ·go_simp
      refine kp hK (fun aG=>?_) trivial
      clear hK K
      refine eA 3 fun K hK=>?_
      go_simp
      refine hN.mono ?_
      rintro ev u1 ⟨rfl,C1⟩
      have qR:Hid (M6 (w.heap.size+1+1) (ByteArray.empty) r v u1):=xE.out.below (fR C1)
      have A4:Hid (bW w u1):=bT.out.trans ((fR C1).mono bT.out.size)
      have c1:=qR.out.c0
      refine kp hK (fun aG=>?_) trivial
      clear hK K
      refine eA 4 fun K hK=>?_
      go_simp
      refine kp hK (fun aG=>?_) trivial
      clear hK K
      refine eA 5 fun K hK=>?_
      refine step_append_lies _ oq _ _ _ oq (w.heap.size+1+1+1) 3 i0 (iI 0) 1 8 underlying55 hi lO mX jX rfl oe v r.length _ oq (qR.out.own.alloc _) (aA u1.heap.size 0) 1 1 [iI val] oq rfl (cell_one_new _ _ _) (gK [val]) oe oo od ep (u1.heap.size+1) oh ?_
      intro gq cq w3 cD bP _ _
      obtain⟨c3,z3,hn3⟩:=(qR.out.below ((kX _ u1).alloc (kF _) (.cells #[iI val] 3))).grown bP val _ cD
      have HN3:Hid _:=hn3
      have jN:Hid (bW w w3):=(A4.out.alloc A4.out.size (.cells #[iI val] 3)).grown bP ef (fun k hk=>kV (kB od (P0 qR.out.own hk)))
      clear hn3
      refine kp hK (fun aG=>?_) trivial
      clear hK K
      refine tk 6 aG ?_
      refine eA 7 fun K hK=>?_
      go_simp
      refine kp hK (fun aG=>?_) trivial
      clear hK K
      refine dn ?_
      clear hN
      go_wp2
      go_roundw
      case rel=>exact⟨r.length+1,r++[val],_,od,ow,HNU,HN3,jN.out.setCell (p:=(aA (w.heap.size+1+1) 0)) Oo _⟩
      case measure=>simp[intOf];omega
     ·go_simp
      refine hN.mono ?_
      rintro ev u1 ⟨rfl,C1⟩
      have qR:Hid (M6 (w.heap.size+1+1) (ByteArray.empty) r v u1):=xE.out.below (fR C1)
      have A4:Hid (bW w u1):=bT.out.trans ((fR C1).mono bT.out.size)
      have c1:=qR.out.c0
      refine kp hK (fun aG=>?_) trivial
      clear hK K
      refine Y5 1 4 (fun K hK=>?_) (fun K hK=>?_)
      ·go_simp
       refine kp hK (fun aG=>?_) trivial
       clear hK K
       refine eA 4 fun K hK=>?_
       go_simp
       refine kp hK (fun aG=>?_) trivial
       clear hK K
       refine eA 5 fun K hK=>?_
       refine step_append_lies _ oq _ _ _ oq (w.heap.size+1+1+1) 3 i0 (iI 0) 1 8 underlying55 hi lO mX jX rfl oe v r.length _ oq (qR.out.own.alloc _) (aA u1.heap.size 0) 1 1 [iI val] oq rfl (cell_one_new _ _ _) (gK [val]) oe oo od ep (u1.heap.size+1) oh ?_
       intro gq cq w3 cD bP _ _
       obtain⟨c3,z3,hn3⟩:=(qR.out.below ((kX _ u1).alloc (kF _) (.cells #[iI val] 3))).grown bP val _ cD
       have HN3:Hid _:=hn3
       have jN:Hid (bW w w3):=(A4.out.alloc A4.out.size (.cells #[iI val] 3)).grown bP ef (fun k hk=>kV (kB od (P0 qR.out.own hk)))
       clear hn3
       refine kp hK (fun aG=>?_) trivial
       clear hK K
       refine tk 6 aG ?_
       refine eA 7 fun K hK=>?_
       go_simp
       refine kp hK (fun aG=>?_) trivial
       clear hK K
       refine dn ?_
       clear hN
       go_wp2
       go_roundw
       case rel=>exact⟨r.length+1,r++[val],_,od,ow,HNU,HN3,jN.out.setCell (p:=(aA (w.heap.size+1+1) 0)) Oo _⟩
       case measure=>simp[intOf];omega
      ·go_simp
       refine kp hK (fun aG=>?_) trivial
       clear hK K
       have c2:(u1.alloc (.cells #[iI val] 3)).cell? (aA (w.heap.size+1+1) 0)=some v:=(((kX _ u1).alloc (kF _) (.cells #[iI val] 3)).cell (p:=(aA (w.heap.size+1+1) 0)) qR.out.lt).trans c1
       refine eA 1 fun K hK=>?_
       go_simp
       refine kp hK (fun aG=>?_) trivial
       clear hK K
       refine eA 5 fun K hK=>?_
       refine step_append_lies _ oq _ _ _ oq (w.heap.size+1+1+1) 3 i0 (iI 0) 1 8 underlying55 hi lO mX jX rfl oe v r.length _ oq (qR.out.own.alloc _) (aA u1.heap.size 0) 1 1 [iI val] oq rfl (cell_one_new _ _ _) (gK [val]) oe oo od ep (u1.heap.size+1) oh ?_
       intro gq cq w3 cD bP _ _
       obtain⟨c3,z3,hn3⟩:=(qR.out.below ((kX _ u1).alloc (kF _) (.cells #[iI val] 3))).grown bP val _ cD
       have HN3:Hid _:=hn3
       have jN:Hid (bW w w3):=(A4.out.alloc A4.out.size (.cells #[iI val] 3)).grown bP ef (fun k hk=>kV (kB od (P0 qR.out.own hk)))
       clear hn3
       refine kp hK (fun aG=>?_) trivial
       clear hK K
       refine tk 6 aG ?_
       refine eA 7 fun K hK=>?_
       go_simp
       refine kp hK (fun aG=>?_) trivial
       clear hK K
       refine dn ?_
       clear hN
       go_wp2
       go_roundw
       case rel=>exact⟨r.length+1,r++[val],_,od,ow,HNU,HN3,jN.out.setCell (p:=(aA (w.heap.size+1+1) 0)) Oo _⟩
       case measure=>simp[intOf];omega
    skip
   |cases hnp:qA x with
    |none=>
     have J4:jI ((ws.take m))=none:=xW (k:=r.length+1) Ec
     have HNO:Hid _:=J4
     simp only[hnp]at hN
     go_wp2_with fail
     refine wp_region_held_drew (S:=fun _=>True) og trivial (fun aG=>?_)
     refine tk 0 aG ?_
     refine tk 2 aG ?_
     refine Y5 1 3 (fun K hK=>?_) (fun K hK=>?_)
     ·go_simp
      refine kp hK (fun aG=>?_) trivial
      clear hK K
      refine eA 3 fun K hK=>?_
      go_simp
      refine hN.mono ?_
      rintro ev u1 ⟨rfl,C1⟩
      exact⟨rfl,.no Ew,bT.out.trans ((fR C1).mono bT.out.size)⟩
     ·go_simp
      refine hN.mono ?_
      rintro ev u1 ⟨rfl,C1⟩
      exact⟨rfl,.no Ew,bT.out.trans ((fR C1).mono bT.out.size)⟩
    |some val=>
     simp only[hnp]at hN
     have HNU:Hid (jI (((ws.take m)).take (r.length+1))=some (r++[val])):=Ec
     go_wp2_with fail
     refine wp_region_held_drew (S:=fun _=>True) og trivial (fun aG=>?_)
     refine tk 0 aG ?_
     refine tk 2 aG ?_
     refine Y5 1 3 (fun K hK=>?_) (fun K hK=>?_)
     ·go_simp
      refine kp hK (fun aG=>?_) trivial
      clear hK K
      refine eA 3 fun K hK=>?_
      go_simp
      refine hN.mono ?_
      rintro ev u1 ⟨rfl,C1⟩
      have qR:Hid (M6 (w.heap.size+1+1) (tx) r v u1):=xE.out.below (fR C1)
      have A4:Hid (bW w u1):=bT.out.trans ((fR C1).mono bT.out.size)
      have c1:=qR.out.c0
      refine kp hK (fun aG=>?_) trivial
      clear hK K
      refine eA 4 fun K hK=>?_
      go_simp
      refine kp hK (fun aG=>?_) trivial
      clear hK K
      refine eA 5 fun K hK=>?_
      refine step_append_lies _ oq _ _ _ oq (w.heap.size+1+1+1) 3 i0 (iI 0) 1 8 underlying55 hi lO mX jX rfl oe v r.length _ oq (qR.out.own.alloc _) (aA u1.heap.size 0) 1 1 [iI val] oq rfl (cell_one_new _ _ _) (gK [val]) oe oo od ep (u1.heap.size+1) oh ?_
      intro gq cq w3 cD bP _ _
      obtain⟨c3,z3,hn3⟩:=(qR.out.below ((kX _ u1).alloc (kF _) (.cells #[iI val] 3))).grown bP val _ cD
      have HN3:Hid _:=hn3
      have jN:Hid (bW w w3):=(A4.out.alloc A4.out.size (.cells #[iI val] 3)).grown bP ef (fun k hk=>kV (kB od (P0 qR.out.own hk)))
      clear hn3
      refine kp hK (fun aG=>?_) trivial
      clear hK K
      refine tk 6 aG ?_
      refine eA 7 fun K hK=>?_
      go_simp
      refine kp hK (fun aG=>?_) trivial
      clear hK K
      refine dn ?_
      clear hN
      go_wp2
      go_roundw
      case rel=>exact⟨r.length+1,r++[val],_,od,ow,HNU,HN3,jN.out.setCell (p:=(aA (w.heap.size+1+1) 0)) Oo _⟩
      case measure=>simp[intOf];omega
     ·go_simp
      refine hN.mono ?_
      rintro ev u1 ⟨rfl,C1⟩
      have qR:Hid (M6 (w.heap.size+1+1) (tx) r v u1):=xE.out.below (fR C1)
      have A4:Hid (bW w u1):=bT.out.trans ((fR C1).mono bT.out.size)
      have c1:=qR.out.c0
      refine kp hK (fun aG=>?_) trivial
      clear hK K
      refine Y5 1 4 (fun K hK=>?_) (fun K hK=>?_)
      ·go_simp
       refine kp hK (fun aG=>?_) trivial
       clear hK K
       refine eA 4 fun K hK=>?_
       go_simp
       refine kp hK (fun aG=>?_) trivial
       clear hK K
       refine eA 5 fun K hK=>?_
       refine step_append_lies _ oq _ _ _ oq (w.heap.size+1+1+1) 3 i0 (iI 0) 1 8 underlying55 hi lO mX jX rfl oe v r.length _ oq (qR.out.own.alloc _) (aA u1.heap.size 0) 1 1 [iI val] oq rfl (cell_one_new _ _ _) (gK [val]) oe oo od ep (u1.heap.size+1) oh ?_
       intro gq cq w3 cD bP _ _
       obtain⟨c3,z3,hn3⟩:=(qR.out.below ((kX _ u1).alloc (kF _) (.cells #[iI val] 3))).grown bP val _ cD
       have HN3:Hid _:=hn3
       have jN:Hid (bW w w3):=(A4.out.alloc A4.out.size (.cells #[iI val] 3)).grown bP ef (fun k hk=>kV (kB od (P0 qR.out.own hk)))
       clear hn3
       refine kp hK (fun aG=>?_) trivial
       clear hK K
       refine tk 6 aG ?_
       refine eA 7 fun K hK=>?_
       go_simp
       refine kp hK (fun aG=>?_) trivial
       clear hK K
       refine dn ?_
       clear hN
       go_wp2
       go_roundw
       case rel=>exact⟨r.length+1,r++[val],_,od,ow,HNU,HN3,jN.out.setCell (p:=(aA (w.heap.size+1+1) 0)) Oo _⟩
       case measure=>simp[intOf];omega
      ·go_simp
       refine kp hK (fun aG=>?_) trivial
       clear hK K
       have c2:(u1.alloc (.cells #[iI val] 3)).cell? (aA (w.heap.size+1+1) 0)=some v:=(((kX _ u1).alloc (kF _) (.cells #[iI val] 3)).cell (p:=(aA (w.heap.size+1+1) 0)) qR.out.lt).trans c1
       refine eA 1 fun K hK=>?_
       go_simp
       refine kp hK (fun aG=>?_) trivial
       clear hK K
       refine eA 5 fun K hK=>?_
       refine step_append_lies _ oq _ _ _ oq (w.heap.size+1+1+1) 3 i0 (iI 0) 1 8 underlying55 hi lO mX jX rfl oe v r.length _ oq (qR.out.own.alloc _) (aA u1.heap.size 0) 1 1 [iI val] oq rfl (cell_one_new _ _ _) (gK [val]) oe oo od ep (u1.heap.size+1) oh ?_
       intro gq cq w3 cD bP _ _
       obtain⟨c3,z3,hn3⟩:=(qR.out.below ((kX _ u1).alloc (kF _) (.cells #[iI val] 3))).grown bP val _ cD
       have HN3:Hid _:=hn3
       have jN:Hid (bW w w3):=(A4.out.alloc A4.out.size (.cells #[iI val] 3)).grown bP ef (fun k hk=>kV (kB od (P0 qR.out.own hk)))
       clear hn3
       refine kp hK (fun aG=>?_) trivial
       clear hK K
       refine tk 6 aG ?_
       refine eA 7 fun K hK=>?_
       go_simp
       refine kp hK (fun aG=>?_) trivial
       clear hK K
       refine dn ?_
       clear hN
       go_wp2
       go_roundw
       case rel=>exact⟨r.length+1,r++[val],_,od,ow,HNU,HN3,jN.out.setCell (p:=(aA (w.heap.size+1+1) 0)) Oo _⟩
       case measure=>simp[intOf];omega
    skip
  ·first
   |have _:=m20;have hke:ws.length=k:=by omega
    have kk:decide ((k:Int)<(ws.length:Int))=false:=kC od
   |have hke:m=k:=by omega
    have kk:decide ((k:Int)<(m:Int))=false:=kC od
   subst hke;obtain⟨av,cv,rfl⟩:=eY xE.out.own;have c0:=xE.out.c0;have c1:=xE.out.c1;obtain⟨q0,a0⟩:=xE.out.a0;obtain⟨q1,a1⟩:=xE.out.a1;have a0':wr.cell? (aA (w.heap.size+1) 0)=some q0:=a0;have a1':wr.cell? (aA (w.heap.size+1) 1)=some q1:=a1;have y0:wr.frozen? (aA (w.heap.size+1) 0)=false:=xE.out.y0;have y1:wr.frozen? (aA (w.heap.size+1) 1)=false:=xE.out.y1;have dM:w.heap.size+1≠w.heap.size+1+1:=od;clear a0 a1;have hbs:Hid (∀x y,bW w ((wr.setCell (aA (w.heap.size+1) 0) x).setCell (aA (w.heap.size+1) 1) y)):=fun x y=>(bT.out.setCell (p:=(aA (w.heap.size+1) 0)) Om x).setCell (p:=(aA (w.heap.size+1) 1)) Om y;go_wp2_with fail
   first|have _:=m20;refine bodyPost_ret (v:=.agg #[sV av r.length cv,sT (ByteArray.empty)]) jk rfl ⟨?_,hbs.out _ _⟩;have jB:jI (ws)=some r:=jg;rw[jB];have bK:=fY (b:=w.heap.size+1) (i:=1) (x:=sT (ByteArray.empty)) (fY (b:=w.heap.size+1) (i:=0) (x:=sV av r.length cv) xE.out.own od) od|refine bodyPost_ret (v:=.agg #[sV av r.length cv,sT (tx)]) jk rfl ⟨?_,hbs.out _ _⟩;have jB:jI ((ws.take m))=some r:=jg;rw[jB];have bK:=fY (b:=w.heap.size+1) (i:=1) (x:=sT (tx)) (fY (b:=w.heap.size+1) (i:=0) (x:=sV av r.length cv) xE.out.own od) od
   exact zHe):p:=h
theorem zJb(h:p:=by
 obtain⟨pa,eS,eL,eW,eC,eE⟩:=h.aLt
 first|have _:=m23|obtain⟨E,I,hI,hC⟩:=aEv st.aI pa w eE hFi.2.2;skip
 have c0:w.cell? (aA S 0)=some (iI st.aI.nodes):=aM h.blk (i:=0) rfl;have c1:w.cell? (aA S 1)=some (iI st.aI.aF):=aM h.blk (i:=1) rfl;have c2:w.cell? (aA S 2)=some (iI st.aI.aJ):=aM h.blk (i:=2) rfl;have c3:w.cell? (aA S 3)=some (iI st.aI.aC):=aM h.blk (i:=3) rfl;have c4:w.cell? (aA S 4)=some (iI st.aI.aH):=aM h.blk (i:=4) rfl;have c5:w.cell? (aA S 5)=some (iI st.aI.round):=aM h.blk (i:=5) rfl;have c6:w.cell? (aA S 6)=some (sV pa.sa st.aI.ns pa.sc):=(aM h.blk (i:=6) rfl).trans (congrArg some eS);have c7:w.cell? (aA S 7)=some (sV pa.la st.aI.nl pa.lc):=(aM h.blk (i:=7) rfl).trans (congrArg some eL);have c8:w.cell? (aA S 8)=some (iI st.aI.frame):=aM h.blk (i:=8) rfl;have c9:w.cell? (aA S 9)=some (sV pa.wa st.aI.nw pa.wc):=by rw[eW,eC,h.r.nw];exact aM h.blk (i:=9) rfl
 first
 |have _:=m23;have B9:=h.r.hi S h.r.s;have yC:Hid (∀u,bW w u->u.cell? (aA S 0)=some (iI st.aI.nodes)/\u.cell? (aA S 1)=some (iI st.aI.aF)/\u.cell? (aA S 2)=some (iI st.aI.aJ)/\u.cell? (aA S 3)=some (iI st.aI.aC)/\u.cell? (aA S 4)=some (iI st.aI.aH)/\u.cell? (aA S 5)=some (iI st.aI.round)/\u.cell? (aA S 6)=some (sV pa.sa st.aI.ns pa.sc)/\u.cell? (aA S 7)=some (sV pa.la st.aI.nl pa.lc)/\u.cell? (aA S 8)=some (iI st.aI.frame)/\u.cell? (aA S 9)=some (sV pa.wa st.aI.nw pa.wc)/\u.cell? (aA b off)=some (iI x)):=fun u hu=>⟨bc hu B9 c0,bc hu B9 c1,bc hu B9 c2,bc hu B9 c3,bc hu B9 c4,bc hu B9 c5,bc hu B9 c6,bc hu B9 c7,bc hu B9 c8,bc hu B9 c9,bc hu gX n0⟩;have HP:Hid (∀v,bW w v->Calls prog 52 #[st.aI.val pa,iI x,sV (if cap=1 then some (aA b off)else some (aA b (off+1))) l.length (cap-1)] v fun e u=>bW v u/\∃K I P,e=rT (tU #[.pointer P,.agg #[iI K,iI I]])/\∀U,Agr w v u U->(U.cell? (aA S 10)=some (.pointer none)/\U.frozen? (aA S 10)=false)/\(K≠0->∀w',bW U w'->gU base S M O st N .iV (x::l) tx w (rT (tU #[sT ⟨#[]⟩,iI K])) w')/\(K=0->gU base S M O st N .iV (x::l) tx w (rT (tU #[sT ⟨#[115,116,97,114,116]⟩,iI 0])) (U.setCell (aA S 10) (.pointer P)))):=fun v hv=>by
   refine(aVj st.aI pa x _ _ l v (eE.below hv) (fE.below hv) od (hFi.at (hv.mono hFi.2.1)).2.2).mono ?_;rintro e u ⟨hu,K,I,bBc,aY2⟩;have cc:∀U,Agr w v u U->U.cell? (aA S 10)=some (.pointer none)/\U.frozen? (aA S 10)=false:=fun U hU=>by have hb:=hU.below hv hu;exact⟨bc hb B9 c10,(World.frozen?_of_block (a:=(aA S 10)) (hb.block S B9)).trans z10⟩
   rcases aY2 with⟨hK,rfl⟩|⟨hK,O1,C,m,rfl,hR,hO1⟩
   ·exact⟨hu,K,I,none,rfl,fun U hU=>⟨cc U hU,fun _ w' q=>lE h ((hU.below hv hu).trans (q.mono (hU.below hv hu).size)) (r:=.err K) ⟨K,I,bBc,.inl ⟨hK,rfl,rfl⟩⟩ ⟨hK,_,rfl⟩,fun q=>absurd q hK⟩⟩
   ·subst hK;refine⟨hu,0,-1,_,rfl,fun U hU=>⟨cc U hU,fun q=>absurd rfl q,fun _=>?_⟩⟩;have hb:=hU.below hv hu;have hZ:=aWm h eS eL;have hZl:∀c,c∈zOf st.aI pa->c<w.heap.size:=fun c q=>h.r.hi c (hZ c q).1;have hRU:=hR.keep (w':=U) ⟨hU.1.2.2.2,fun c q=>hU.2 c (hR.lt c q) (.inr (hO1 c q))⟩ ⟨hU.1.2.2.2,fun c q=>hU.2 c (kB (hZl c q) (kG hv.size hu.size)) (.inl (hZl c q))⟩;have hcU:A3 U M O1 C st.aI x l cA.start 0 0:=⟨_,m,fun c q=>⟨(hZ c q).1,by have:=(hZ c q).2;unfold rQ at this⊢;rw[hb.block c (hZl c q)];exact this⟩,hRU,bBc.ok,od,od⟩;obtain⟨q1,q2⟩:=(h.later (kR N)).begun hb hcU (fun c q=>kG hv.size (hO1 c q));exact⟨_,.ok Kd.iV.name,M,O1,_,⟨0,_,bBc,.inr ⟨rfl,rfl,rfl⟩⟩,rfl,q2,q1⟩
  clear h hFi dI hr hc fE eS eL eW eC eE;unfold aQ.val at HP;generalize st.aI.nodes=p0 at *;generalize st.aI.aF=p1 at *;generalize st.aI.aJ=p2 at *;generalize st.aI.aC=p3 at *;generalize st.aI.aH=p4 at *;generalize st.aI.round=p5 at *;generalize st.aI.ns=p6 at *;generalize st.aI.nl=p7 at *;generalize st.aI.frame=p8 at *;generalize st.aI.nw=p9 at *;have N5:(1:Int)<=(l.length:Int)+1:=od
 |have hC0:=hC w (kX _ _);have HT:Hid (∀u,bW w u->cB u.heap.size u):=fun u hu=>h.aBi hD (aS.of_below hu);have HE:Hid (∀(x:Nat) w',(E=0->x=mJ st.aI)->bW w w'->gU base S M O st N .bytes_ n tx w (rT (tU #[sT (dG x),iI E])) w'):=fun x w' q1 q=>lE h q (r:=jR E (mJ st.aI)) ⟨E,I,hI,rfl,rfl⟩ (xG _ _ _ fun e=>by rw[q1 e]);clear h hD hFi eE eS eL eW eC hI hC;unfold aQ.val at hC0;generalize mJ st.aI=pl at *;generalize st.aI.ns=q1 at *;generalize st.aI.nl=q2 at *;generalize st.aI.nw=q3 at *
 go_enter func15,ntmps15;go_wp2_with fail
 first
 |have _:=m23;refine wp_region_held_drew (S:=fun u=>u.cell? (aA S 0)=some (iI p0)/\u.cell? (aA S 1)=some (iI p1)/\u.cell? (aA S 2)=some (iI p2)/\u.cell? (aA S 3)=some (iI p3)/\u.cell? (aA S 4)=some (iI p4)/\u.cell? (aA S 5)=some (iI p5)/\u.cell? (aA S 6)=some (sV pa.sa p6 pa.sc)/\u.cell? (aA S 7)=some (sV pa.la p7 pa.lc)/\u.cell? (aA S 8)=some (iI p8)/\u.cell? (aA S 9)=some (sV pa.wa p9 pa.wc)/\u.cell? (aA b off)=some (iI x)) og (yC.out w (kX _ _)) (fun aG=>?_)
 |refine hC0.mono ?_;rintro e u1 ⟨ad,len,bNe,rfl,⟨hlen,hq⟩,hb⟩;have HQ:Hid _:=hq;have dB:bW w (u1.alloc (.cells #[iI E,iI I] 98)):=hb.alloc hb.size _;obtain⟨U,hU⟩:∃U,u1.alloc (.cells #[iI E,iI I] 98)=U:=⟨_,rfl⟩;rw[hU]at dB;have x0:U.cell? (aA u1.heap.size 0)=some (iI E):=by rw[<-hU];simp[go_sem]
  have hlt:u1.heap.size<U.heap.size:=by rw[<-hU];simp
  have HU:Hid _:=hU;have HT2:Hid (∀v,bW U v->Calls prog 16 #[sL v.heap.size 1 1] (v.alloc (.cells #[iI (len:Int)] 3)) fun e w'=>e=rT (sT (dG (len:Int)))/\bW U w'/\w'.cell? (aA u1.heap.size 0)=some (iI E)):=fun v hv=>(pI (len:Int) ⟨od,od⟩ v (HT.out v (dB.trans (hv.mono dB.size)))).mono fun e w' ⟨q1,q2⟩=>by have q:=hv.trans (q2.mono hv.size);exact⟨q1,q,bc q hlt x0⟩
  have mm:∀o:Obj,(U.alloc o).cell? (aA u1.heap.size 0)=some (iI E):=fun o=>(((kX _ U).alloc (kF _) o).cell (p:=(aA u1.heap.size 0)) hlt).trans x0;clear hC0 hq c0 c1 c2 c3 c4 c5 c6 c7 c8 c9 c10 hU;go_wp2_with fail;rw[HU.out];refine wp_region_held_drew (S:=fun u=>u.cell? (aA u1.heap.size 0)=some (iI E)) og x0 (fun aG=>?_)
 refine tk 0 aG ?_;refine tk 1 aG ?_
 first|have _:=m23;refine tk 2 aG ?_;refine tk 3 aG ?_|skip
 refine tk 4 aG ?_;refine tk 5 aG ?_
 first
 |have _:=m23;refine tk 6 aG ?_;refine tk 7 aG ?_;refine tk 8 aG ?_;refine Y5 9 13 (fun K hK=>?_) (fun K hK=>?_)
  ·go_simp;refine Calls.mono (HP.out _ ⟨rfl,rfl,rfl,kF _,fun _ _=>rfl⟩) ?_;exact zOn
  ·have hV:bW w (w.alloc (.cells #[iI 0,iI 0] 98)):=(kX _ w).alloc (kF _) _;go_simp;refine kp hK (fun aG=>?_) (yC.out _ ⟨rfl,rfl,rfl,oh,fun c hc=>Below.heap_alloc w _ c hc⟩);clear hK K;refine eA 9 fun K hK=>?_;go_simp;refine Calls.mono (HP.out _ ⟨rfl,rfl,rfl,oh,fun c hc=>Below.heap_alloc w _ c hc⟩) ?_;have aYh:=0;exact zOn
 |refine eA 2 fun K hK=>?_;go_simp;refine kp hK (fun aG=>?_) (mm _);clear hK K;refine eA 3 fun K hK=>?_;go_simp;refine Calls.mono (show Calls _ _ _ (U.alloc (.cells #[iI (len:Int)] 3)).drew _ from HT2.out U.drew ⟨rfl,rfl,rfl,kF _,fun _ _=>rfl⟩) ?_;rintro e w2 ⟨rfl,dQ,y0⟩;refine kp hK (fun aG=>?_) y0;clear hK K;refine eA 6 fun K hK=>?_;go_simp;refine kp hK (fun aG=>?_) y0;clear hK K;refine eA 7 fun K hK=>?_;go_simp;refine kp hK (fun aG=>?_) y0;clear hK K;refine dn ?_;go_wp2;go_ret2;exact HE.out len _ HQ.out (dB.trans (dQ.mono dB.size))):p:=h
theorem zJj(h:p:=by clear h hD hB hs hcu lF hTN hc hr;go_enter func32,ntmps32;go_wp2_with fail;refine wp_region_held_drew (S:=fun v=>v.cell? (aA w.heap.size 0)=some (sV (some (aA b off)) 1 cap)/\v.cell? (aA b off)=some (iI x)/\v.cell? (aA S 10)=some (pP A.C)) og ⟨x0,n0,c0⟩ (fun aG=>?_);have bGy:=0;exact zPz):p:=h
theorem zJk(h:p:=by
 refine kp hK fun aG=>?_;clear hK K;refine tk 5 aG ?_;refine tk 6 aG ?_;refine tk 8 aG ?_;refine tk 9 aG ?_;refine Y5 7 10 (fun K hK=>?_) fun K hK=>?_
 ·go_simp;(go_at_call 196;refine(dO _ _ _).mono ?_;rintro e u1 ⟨fv,rfl,hB,hu⟩;have hW:=jS hW hu;obtain⟨c0,c1,c2,c3⟩:=hc.below hW);refine kp hK fun aG=>?_;clear hK K;refine eA 10 fun K hK=>?_;go_simp;refine kp hK fun aG=>?_;clear hK K;refine eA 11 fun K hK=>?_;go_simp
  first|have _:=jA4;(go_at_call 195;refine(iA true fv _ _ (lq) u1.heap.size _ _ (hB.alloc _) oh J1).mono ?_;rintro e x1 ⟨rfl,fP⟩;have hW:=oE hW fP;obtain⟨c0,c1,c2,c3⟩:=hc.below hW)|(go_at_call 195;refine(iA false fv _ _ (lq) u1.heap.size _ _ (hB.alloc _) oh J1).mono ?_;rintro e x1 ⟨rfl,fP⟩;have hW:=oE hW fP;obtain⟨c0,c1,c2,c3⟩:=hc.below hW)
  exact zG5
 ·go_simp;refine kp hK fun aG=>?_;clear hK K;refine eA 7 fun K hK=>?_;go_simp;(go_at_call 196;refine(dO _ _ _).mono ?_;rintro e u1 ⟨fv,rfl,hB,hu⟩;have L9:=aO (a:=(aA x0.heap.size 0)) (v:=iI lq) oh hu;have hW:=oE hW hu;obtain⟨c0,c1,c2,c3⟩:=hc.below hW);refine kp hK fun aG=>?_;clear hK K;refine eA 11 fun K hK=>?_;go_simp
  first|have _:=jA4;(go_at_call 195;refine(iA true fv _ _ (lq) x0.heap.size _ _ hB L9 J1).mono ?_;rintro e x1 ⟨rfl,fP⟩;have hW:=jS hW fP;obtain⟨c0,c1,c2,c3⟩:=hc.below hW)|(go_at_call 195;refine(iA false fv _ _ (lq) x0.heap.size _ _ hB L9 J1).mono ?_;rintro e x1 ⟨rfl,fP⟩;have hW:=jS hW fP;obtain⟨c0,c1,c2,c3⟩:=hc.below hW)
  exact zG5):p:=h
theorem zJn(h:p:=by
 obtain⟨n,dI⟩:∃n,cs.length=n:=⟨_,rfl⟩;have HL:Hid (cs.length=n/\rows.length=n):=⟨dI,by rw[hlen,dI]⟩
 first|have _:=m35;have HF:Hid (bY (fun j=>fQ n (cs.getD j 0) (rows.getD j []) f) n e i):=dI▸hF;have HPP:Hid (p=if e=0 then-1 else i):=hp;have hVB:bW w (w.alloc (.cells #[iI 0,iI 0] 98)):=(kX _ _).alloc (kF _) _;obtain⟨V,hV⟩:∃V,V=w.alloc (.cells #[iI 0,iI 0] 98):=⟨_,rfl⟩;rw[<-hV]at hVB;have HR:Hid (bE V a cs):=hr.below hVB;have HT:Hid (wZ V ra rows):=ht.below hVB|have HF:Hid (∀j,j<n->fQ n (cs.getD j 0) (rows.getD j []) f=0):=dI▸hF;have HR:Hid (bE w a cs):=hr;have HT:Hid (wZ w ra rows):=ht
 have HRN:Hid (∀r∈rows,r.length<=1000):=hrn
 first|(have _:=m35;have HFI:Hid (pT V):=mQ.below hVB;have HV:Hid (V=w.alloc (.cells #[iI 0,iI 0] 98)):=hV;have hVs:w.heap.size<V.heap.size:=by rw[hV];simp)|skip
 rw[dI]at hn;rw[hlen,dI]
 first|have _:=m35;clear hF hr ht hlen hrn dI hp mQ|clear hF hr ht hlen hrn dI
 obtain⟨i0,hi,lO,mX,jX⟩:=info_parts Tryz.uZ;have k1:((n:Int) !=(n:Int))=false:=oh
 first|(have _:=m35;go_enter func100,ntmps100;go_wp2_with fail;rw[<-hV];clear hV;go_loopw[8,21] (fun v t wr=>∃k:Nat,k<=n/\t=iI k/\Hid (∀j,j<k->fQ n (cs.getD j 0) (rows.getD j []) f=0)/\wr.ownsRow V.heap.size 3 1 v k ((rZ cs rows f k).map (Value.int .i64))/\bW V wr) (fun _ t _=>n-(intOf t).toNat);case atStart=>exact⟨0,kH _,rfl,fun j hj=>absurd hj (kT _),by simpa[rZ]using World.ownsRow_nil _ _ _ _,kX _ _⟩)|(go_enter func167,ntmps167;go_wp2_with(at_make;refine wpList_make_own _ rfl _ _ 55 rfl w.heap.size 3 i0 (iI 0) 1 underlying55 hi lO mX .i64 .i64 _ n rfl rfl rfl jw oo (kF _) ?_;intro w0 bFo uA);have wT:bW w w0:=(kX _ _).grown uA (kF _) (fun k h=>by cases h);clear uA;go_loopw[8,24] (fun v t wr=>∃k:Nat,k<=n/\t=iI k/\Hid (∀j,j<k->fQ n (cs.getD j 0) (rows.getD j []) f=0)/\wr.ownsRow w.heap.size 3 1 v k ((rZ cs rows f k).map (Value.int .i64))/\bW w wr) (fun _ t _=>n-(intOf t).toNat);case atStart=>exact⟨0,kH _,rfl,fun j hj=>absurd hj (kT _),by simpa[rZ]using bFo,wT⟩)
 case round=>
  obtain⟨k,hk,rfl,h0,bK,bT⟩:=hrel;by_cases hlt:k<n
  ·obtain⟨b,off,rfl,hb,hc⟩:=HR.out (by rw[HL.out.1];omega);obtain⟨tb,bO2,rfl,htb,htc⟩:=HT.out (by rw[HL.out.2];omega);have y0:=bc bT hb (hc k (by rw[HL.out.1];exact hlt));obtain⟨rx,rc,y1,fE⟩:=htc k Je;replace y1:=bc bT htb y1;have hrl:(rows.getD k []).length<=1000:=HRN.out _ (by
    have:k<rows.length:=Je
    simp[List.getD,this])
   first|have _:=m35|have HS:Hid (Calls prog 211 #[iI (cs.getD k 0),.slice rx (rows.getD k []).length rc,iI n,iI f] wr fun e w'=>e=rT (tU #[iI (vI n (cs.getD k 0) (rows.getD k []) f),fI (fQ n (cs.getD k 0) (rows.getD k []) f)])/\bW wr w'):=aVw rx rc (rows.getD k []) n (cs.getD k 0) f wr (fE.below bT) hrl
   have H4:Hid (rZ cs rows f (k+1)=rZ cs rows f k++[cs.getD k 0+fO (rows.getD k []) f]):=aMn ..
   first
   |have _:=m35;have HM:Hid (∀u:World,bW V u->Calls prog 59 #[.slice rx (rows.getD k []).length rc,iI f] u fun e w'=>e=rT (tU #[iI (fO (rows.getD k []) f),iI (dR (rows.getD k []) f)])/\bW u w'):=fun u hu=>aAr rx rc _ f u (fE.below hu) od;clear hc htc fE
   |clear hc htc fE hrl;obtain⟨se,R7⟩:∃se,fQ n (cs.getD k 0) (rows.getD k []) f=se:=⟨_,rfl⟩;have HE:Hid (fQ n (cs.getD k 0) (rows.getD k []) f=se):=R7;rw[R7]at HS;have hz:se=0:=by rw[<-R7];exact HF.out k hlt
    subst hz;obtain⟨z1,z2,z3⟩:=aFs HE.out;have hcr:=tL.1 z2;have hmr:=tR (rows.getD k []) f;rw[aMv HE.out,aDz]at HS;have HZ1:Hid (fQ n (cs.getD k 0) (rows.getD k []) f=0):=HE.out;clear R7 HE z1 z2 z3
   obtain⟨c,tN⟩:∃c,cs.getD k 0=c:=⟨_,rfl⟩
   first
   |have _:=m35;obtain⟨rl,bBx⟩:∃rl,(rows.getD k []).length=rl:=⟨_,rfl⟩;have HC:Hid (cs.getD k 0=c/\(rows.getD k []).length=rl):=⟨tN,bBx⟩;rw[tN]at y0 H4;rw[bBx]at y1 HM hrl;clear tN bBx;by_cases h1:rl=n;rotate_left
    ·have HE:Hid (fQ n (cs.getD k 0) (rows.getD k []) f=1):=r8 (by rw[HC.out.2];exact h1);have k2:((rl:Int) !=(n:Int))=true:=ol;obtain⟨c0,c1,q0,q1,hB,_⟩:=zV (x:=1) (y:=(k:Int)) HV.out bT;clear HM h1;go_wp2;obtain⟨rfl,rfl⟩:=HF.out.is hlt h0.out HE.out oe;obtain rfl:=HPP.out;exact bodyPost_ret (v:=tU #[sV none 0 0,.agg #[iI 1,iI k]]) o4 rfl ⟨_,rfl,fun h=>absurd h oe,fun _=>rfl,hB⟩
    ·have k2:((rl:Int) !=(n:Int))=false:=by simp;omega
     have hif:=aTn c wr;cases h2:far c;rotate_left
     ·rw[h2]at hif;have HE:Hid (fQ n (cs.getD k 0) (rows.getD k []) f=2):=r9 (by rw[HC.out.2];exact h1) (by rw[HC.out.1];exact h2);obtain⟨c0,c1,q0,q1,hB,_⟩:=zV (x:=2) (y:=(k:Int)) HV.out bT;clear HM h2 h1;go_wp2_with fail;refine hif.mono ?_;rintro ev w2 ⟨rfl,rfl⟩;go_wp2;obtain⟨rfl,rfl⟩:=HF.out.is hlt h0.out HE.out oe;obtain rfl:=HPP.out;exact bodyPost_ret (v:=tU #[sV none 0 0,.agg #[iI 2,iI k]]) o4 rfl ⟨_,rfl,fun h=>absurd h oe,fun _=>rfl,hB⟩
     ·rw[h2]at hif;have hcr:=tL.1 h2;have HE:Hid (fQ n (cs.getD k 0) (rows.getD k []) f=dR (rows.getD k []) f):=sC (by rw[HC.out.2];exact h1) (by rw[HC.out.1];exact h2);have hmr:=tR (rows.getD k []) f;obtain⟨x,hx⟩:∃x,fO (rows.getD k []) f=x:=⟨_,rfl⟩;obtain⟨se,R7⟩:∃se,dR (rows.getD k []) f=se:=⟨_,rfl⟩;rw[hx]at HM hmr H4;rw[R7]at HM HE;clear hx R7 h2 h1;go_wp2_with fail;refine hif.mono ?_;rintro ev w2 ⟨rfl,rfl⟩;go_wp2_with fail;refine(HM.out _ bT).mono ?_;rintro ev w2 ⟨rfl,dQ⟩;have uR:=D4 bT dQ;replace y0:=bc dQ (kB hb bT.size) y0;have lG:=fF bK dQ;have qP:=uR.size;clear HM dQ;by_cases hz:se=0;rotate_left
      ·have HZ:Hid (se≠0):=hz;have k3:(se !=0)=true:=by simpa using hz
       obtain⟨c0,c1,q0,q1,hB,_⟩:=zV (x:=se) (y:=(k:Int)) HV.out uR;clear hz;go_wp2;obtain⟨rfl,rfl⟩:=HF.out.is hlt h0.out HE.out HZ.out;have hpe:=HPP.out;rw[kI HZ.out]at hpe;subst hpe;exact bodyPost_ret (v:=tU #[sV none 0 0,.agg #[iI _,iI k]]) o4 rfl ⟨_,rfl,fun h=>absurd h HZ.out,fun _=>rfl,hB⟩
      ·subst hz;go_wp2_with(at_builtin;refine wpList_append_own _ rfl _ _ 55 rfl V.heap.size 3 i0 (iI 0) 1 8 underlying55 hi lO mX jX rfl oe u8 _ _ rfl (lG.alloc _) (aA w2.heap.size 0) 1 1 [iI (c+x)] rfl rfl (cell_one_new _ _ _) (gK [c+x]) oo od ol ?_;intro v' w3 cD bP vP);have jN:bW V w3:=(uR.alloc qP _).grown bP ol (fun g hg=>(lG.lt g hg).1);refine⟨⟨k+1,od,ow,pW h0.out HE.out,by rw[H4.out,List.map_append];exact cD,jN⟩,?_⟩;exact zHv
   |obtain⟨rl,hrl⟩:∃rl,(rows.getD k []).length=rl:=⟨_,rfl⟩;obtain⟨x,hx⟩:∃x,fO (rows.getD k []) f=x:=⟨_,rfl⟩;rw[tN]at y0 HS hcr H4;rw[hrl]at y1 HS;rw[hx]at HS hmr H4;clear tN hrl hx;go_wp2_with fail;refine HS.out.mono ?_;rintro ev w2 ⟨rfl,dQ⟩;have uR:=bT.trans (dQ.mono bT.size);have lG:=fF bK dQ;have qP:=uR.size;go_wp2_with(at_builtin;refine wpList_append_own _ rfl _ _ 55 rfl w.heap.size 3 i0 (iI 0) 1 8 underlying55 hi lO mX jX rfl oe u8 _ _ rfl (lG.alloc _) (aA w2.heap.size 0) 1 1 [iI (c+x)] rfl rfl (cell_one_new _ _ _) (gK [c+x]) oo od ol ?_;intro v' w3 cD bP vP);have jN:bW w w3:=(uR.alloc qP _).grown bP ol (fun g hg=>(lG.lt g hg).1);refine⟨⟨k+1,od,ow,pW h0.out HZ1.out,by rw[H4.out,List.map_append];exact cD,jN⟩,?_⟩;exact zHv
  ·have:k=n:=by omega
   subst this
   first|have _:=m35;obtain⟨g0,g1,g2⟩:=HFI.out.below bT;obtain⟨c0,c1,q0,q1,hB,_⟩:=zV (x:=0) (y:=-1) HV.out bT;go_wp2_with fail;go_region;go_wp2;obtain⟨rfl,rfl⟩:=HF.out.at_end h0.out;obtain rfl:=HPP.out;exact bodyPost_ret (v:=tU #[u8,.agg #[iI 0,iI (-1)]]) o4 rfl ⟨_,rfl,fun _=>aQc (d6 (aHv (aHv bK hVs) hVs) (kV hVs)),fun h=>absurd rfl h,hB.drew⟩|go_wp2;go_ret2;exact⟨_,rfl,bK,bT⟩):p:=h
theorem zJo(h:p:=by
 obtain⟨m,hm⟩:∃m,cs.length=m:=⟨_,rfl⟩;rw[hm]at aXw;have HM:Hid (cs.length=m):=hm
 first|have _:=m36;rw[hm];clear hr hm eE hD;obtain⟨i0,hi,lO,mX,jX⟩:=info_parts Tryz.aAe;go_enter func16,ntmps16;go_wp2_with fail;go_loopw[3,8] (fun lv iv wr=>∃k:Nat,iv=iI k/\k<=m/\wr.ownsRow u1.heap.size 9 1 lv k (K7 (cs.take k))/\bW u1 wr) (fun _ iv _=>m-(intOf iv).toNat)|have oP:Hid (bW V u1):=b1;rw[hm];clear fE hm b1;go_wp2_with fail;go_loopw[5,14] (fun lv iv wr=>∃k:Nat,iv=iI k/\k<=m/\wr.ownsRow u1.heap.size 9 1 lv k (K7 (cs.take k))/\bW u1 wr) (fun _ iv _=>m-(intOf iv).toNat)
 case atStart=>exact zF6
 case round=>
  obtain⟨k,rfl,hk,bK,bT⟩:=hrel;have hsz:=bT.size;by_cases hlt:k<m
  ·obtain⟨b,off,rfl,gX,hcs⟩:=HR.out j7;have y0:wr.cell? (aA b (off+k))=some (iI (cs.getD k 0)):=bc bT gX (hcs k E6);have HIx:Hid (gW (cs.getD k 0)):=HI.out _ jr;have HSu:Hid (K7 (cs.take (k+1))=K7 (cs.take k)++[sT (dG (cs.getD k 0))]):=aN2 cs k E6;obtain⟨x,hx⟩:∃x,cs.getD k 0=x:=⟨_,rfl⟩;rw[hx]at y0 HIx HSu;clear hx hcs
   first|have _:=m36;have hI:=qH x HIx.out wr (HD.out wr bT)|have hI:=qH x HIx.out wr (HD.out wr (HB.out.trans ((oP.out.trans (bT.mono oP.out.size)).mono HB.out.size)))
   exact zBh
  ·have:k=m:=by omega
   subst this;have hj:=aTr cs (by rw[HM.out];exact aXw) HI.out u1.heap.size wr _ jx;go_wp2_with fail;refine hj.mono ?_;rintro ev w2 ⟨rfl,dQ⟩;go_wp2_with fail;go_ret
   first|have _:=m36;exact⟨rfl,bT.trans (dQ.mono bT.size)⟩|exact HE.out w2 _ (oP.out.trans ((bT.trans (dQ.mono bT.size)).mono oP.out.size)) rfl):p:=h
theorem zJs(h:p:=by
 have HC:=hc ((w.alloc (.cells #[iI nodes,iI aF,iI aJ,iI aC,iI aH,iI round,sV sa ns sc,sV la nl lc,iI frame,sV wa nw wc] 51)).alloc (.cells #[iI 0,iI 0] 98)) (((kX _ _).alloc (kF _) _).alloc oh _)
 first|have _:=m40;clear hc;obtain⟨i0,hi,lO,mX,jX⟩:=info_parts Tryz.uZ;skip|clear hc hE
 go_enter func51,ntmps51;go_wp2_with fail;refine HC.mono ?_;rintro ev w1 ⟨rfl,hb⟩;clear HC;have hz:w.heap.size+1<w1.heap.size:=by have:=hb.size;simp at this;omega
 first|have _:=m40;have hzb:w.heap.size<w1.heap.size:=od;have p0:w1.cell? (aA w.heap.size 0)=some (iI nodes):=Eh;have p1:w1.cell? (aA w.heap.size 1)=some (iI aF):=Eh;have p2:w1.cell? (aA w.heap.size 2)=some (iI aJ):=Eh;have p3:w1.cell? (aA w.heap.size 3)=some (iI aC):=Eh;have p4:w1.cell? (aA w.heap.size 4)=some (iI aH):=Eh;have p5:w1.cell? (aA w.heap.size 5)=some (iI round):=Eh;have p6:w1.cell? (aA w.heap.size 6)=some (sV sa ns sc):=Eh;have p7:w1.cell? (aA w.heap.size 7)=some (sV la nl lc):=Eh;have p8:w1.cell? (aA w.heap.size 8)=some (iI frame):=Eh;have p9:w1.cell? (aA w.heap.size 9)=some (sV wa nw wc):=Eh|skip
 have r0:w1.cell? (aA (w.heap.size+1) 0)=some (iI 0):=Jr;have r1:w1.cell? (aA (w.heap.size+1) 1)=some (iI 0):=Jr;have z0:w1.frozen? (aA (w.heap.size+1) 0)=false:=Ji;have z1:w1.frozen? (aA (w.heap.size+1) 1)=false:=Ji;have hB:bW w w1:=(((kX _ _).alloc (kF _) _).alloc oh _).trans (hb.mono ol);clear hb
 first|have _:=m40;exact zQi|go_wp2;go_region;go_wp2;refine bodyPost_ret (v:=tU #[sV none 0 0,.agg #[iI E,iI I]]) (by simp[results,results51,go_sem,r0,r1,hz]) rfl ⟨rfl,Below.drew ?_⟩;refine Below.alloc ?_ (by simp[World.setCell];omega) _;exact(hB.setCell (p:=(aA (w.heap.size+1) 0)) (kR _) _).setCell (p:=(aA (w.heap.size+1) 1)) (kR _) _):p:=h
theorem zJx(h:p:=by
 have gX:b<wr.heap.size:=lt_of_cell (tN.out k hkL);have HLA:Hid (((xs++dL L k)++dn).length<=11000):=by exact zEg
 have hbs:base<=wr.heap.size:=by have:=bT.size;omega
 first|have _:=m45;have aTi:=fF ho.out ((kX wr.heap.size wr).alloc (kF _) (.cells #[.int .u8 (q:Int)] 5))|have aTi:=fF ho.out ((kX wr.heap.size wr).alloc (kF _) (.cells #[.int .u8 ((q:Int)%128+128)] 5))
 have HO:Hid (World.ownsRow _ _ _ _ _ _ _):=aTi;clear aTi
 first|have _:=m45;go_wp2_with(at_builtin;refine wpList_append_own_at _ rfl _ _ 31 rfl base 5 i1 (.int .u8 0) 1 1 underlying31 hj R8 hy1 M3 rfl oe u0 _ _ rfl HO.out (aA wr.heap.size 0) 1 1 [.int .u8 (q:Int)] rfl rfl (cell_one_new _ _ _) (fun u hu=>by simp at hu;subst hu;rfl) (by have:=HLA.out;unfold maxLen;omega) (by have:=HLA.out;omega) ol ?_;intro v' w2 cD bP vP hblk)|go_wp2_with(at_builtin;refine wpList_append_own_at _ rfl _ _ 31 rfl base 5 i1 (.int .u8 0) 1 1 underlying31 hj R8 hy1 M3 rfl oe u0 _ _ rfl HO.out (aA wr.heap.size 0) 1 1 [.int .u8 ((q:Int)%128+128)] rfl rfl (cell_one_new _ _ _) (fun u hu=>by simp at hu;subst hu;rfl) (by have:=HLA.out;unfold maxLen;omega) (by have:=HLA.out;omega) ol ?_;intro v' w2 cD bP vP hblk)
 have yN:Below base w w2:=(bT.alloc hbs _).grown bP ol (fun z hz=>(HO.out.lt z hz).1);have bF8:Hid (∀j (h:j<L.length),w2.cell? (aA b j)=some (iI L[j])):=fun j h=>aKn bP (by rw[World.cell?_alloc_lt _ _ _ gX];exact tN.out j h) hbk.out;have bF7:Hid (v'.ownBlock≠some b):=by exact zF5
 first
 |have _:=m45;have ho4:Hid (w2.ownsRow base 5 1 v' (xs++dL L (k+1)).length ((xs++dL L (k+1)).map (Value.int .u8))):=by
   show World.ownsRow _ _ _ _ _ _ _;have e4:xs++dL L (k+1)=((xs++dL L k)++dn)++[(q:Int)]:=by rw[tB L k hkL,HM.out,<-hdn.out,HNB.out];simp
   rw[e4,List.length_append,List.map_append];exact cD
 |have ho4:Hid (w2.ownsRow base 5 1 v' ((xs++dL L k)++(dn++[((q%128:Nat)+128:Int)])).length (((xs++dL L k)++(dn++[((q%128:Nat)+128:Int)])).map (Value.int .u8))):=by show World.ownsRow _ _ _ _ _ _ _;have e3:(((q%128:Nat):Int)+128)=(q:Int)%128+128:=od;rw[<-List.append_assoc,List.length_append,List.map_append,e3];exact cD
  have bJh:Hid ((dn++[((q%128:Nat)+128:Int)])++pO j' (q/128)=pO 5 m):=by show _=_;rw[<-hdn.out,HNB.out];simp
 clear cD bP vP hblk HO ho hbk tN bT hdn;go_wp2;go_roundw
 first|(have _:=m45;case rel=>exact⟨k+1,od,ow,ho4,bF7,bF8,yN⟩)|case rel=>exact⟨j',q/128,_,od,hQ,od,oh,bJh,ho4,bF7,bF8,yN⟩
 case measure=>simp[intOf];omega):p:=h
theorem zJ6(h:p:=by
 generalize hV:w.alloc (.cells #[sV a n.length cap,sT tx] 83)=V;have hB:bW w V:=hV▸(kX _ w).alloc (kF _) _;have x0:V.cell? (aA w.heap.size 0)=some (sV a n.length cap):=ou;have hs:=h.below hB
 first|have _:=m54;have c0:=aM hs.blk (i:=14) rfl;have z0:=bC hs.blk (i:=14)|have c0:=aM hs.blk (i:=13) rfl;have z0:=bC hs.blk (i:=13)
 have HS:Hid (jF V base S M O st A N):=hs;have HB:Hid (bW w V):=hB;have HR:Hid (mY w M a n):=hr;have qY:Hid (∀b off,a=some (aA b off)->0<n.length->b≠S):=fun b off e h0=>hr.ne h e h0;have HN:Hid (n.length<=20000):=hn;clear hs h hr hn hB
 first|have _:=m54;go_enter func28,ntmps28;go_wp2_with fail;refine bodyPost_ret (v:=sT Kd.qL.name) (by simp[results,results28,go_sem];rfl) rfl ?_|go_enter func27,ntmps27;go_wp2_with fail;refine bodyPost_ret (v:=sT Kd.mF.name) (by simp[results,results27,go_sem];rfl) rfl ?_
 have hd:=HS.out;have hS:S∈M++O:=kK (.inl hd.r.s)
 first
 |have _:=m54;refine⟨{ st with next:={ st.next with bH:=n } },.ok Kd.qL.name,M,O,{ A with ma:=a,mc:=cap },⟨rfl,rfl⟩,rfl,(aS.of_below HB.out).trans (bQ hS _),?_,cH hd.blk _⟩;have hr:=hd.rest (w':=V.setCell (aA S 14) (sV a n.length cap)) oh (fun c hc=>by simp only[cJ hc]);have fE:bE (V.setCell (aA S 14) (sV a n.length cap)) a n:=fun h0=>by obtain⟨b,off,e,hl,hc⟩:=HR.out.1.below HB.out h0;exact zB3
  exact { hr.later (kR N)with rM:=fE,bM:=fun b off e h0=>⟨(HR.out.2 b off e h0).1,o8⟩,nM:=HN.out }
 |refine⟨{ st with next:={ st.next with bA:=n } },.ok Kd.mF.name,M,O,{ A with da:=a,dc:=cap },⟨rfl,rfl⟩,rfl,(aS.of_below HB.out).trans (bQ hS _),?_,cH hd.blk _⟩;have hr:=hd.rest (w':=V.setCell (aA S 13) (sV a n.length cap)) oh (fun c hc=>by simp only[cJ hc]);have fE:bE (V.setCell (aA S 13) (sV a n.length cap)) a n:=fun h0=>by obtain⟨b,off,e,hl,hc⟩:=HR.out.1.below HB.out h0;exact zB3
  exact { hr.later (kR N)with rD:=fE,bD:=fun b off e h0=>⟨(HR.out.2 b off e h0).1,o8⟩,nD:=HN.out }):p:=h
theorem zKc(h:p:=by
 go_simp;(go_at_call 212;refine bBg.mono ?_;rintro e w2 ⟨rfl,q,qP⟩;have Z2:Hid (w2.ownsRow Bi 3 1 v j ((List.range j).map fun j=>.int .i64 (cs.getD j 0-cs.getD i 0))/\Below Bi wr w2/\Bi<=w2.heap.size):=jq;have yR2:w2.cell? ⟨w.heap.size,i,none⟩=some v:=(by rw[qP];exact yR);have zR2:w2.frozen? ⟨w.heap.size,i,none⟩=false:=(by rw[qP];exact zR);have J2:w.heap.size<w2.heap.size:=(by rw[qP];exact hlR);clear qP)
 first
 |have _:=m60;refine kp hK (fun aG=>?_) trivial;clear hK K;refine Y5 5 10 (fun K hK=>?_) fun K hK=>?_
  ·go_simp;exact zH3
  ·go_simp;refine kp hK (fun aG=>?_) trivial;clear hK K;refine eA 5 fun K hK=>?_;exact zAe
 |exact zH3):p:=h
theorem zKe(h:p:=by
 go_enter func15,ntmps15;go_wp2_with fail
 first|have _:=m62;refine wp_region_held_drew (S:=fun u=>u.cell? (aA b off)=some (iI y0)/\u.cell? (aA b (off+1))=some (iI y1)/\u.cell? (aA b (off+2))=some (iI y2)/\u.cell? (aA b (off+3))=some (iI y3)/\u.cell? (aA b (off+4))=some (iI y4)) og ⟨n0,n1,n2,n3,n4⟩ (fun aG=>?_)|refine wp_region_held_drew (S:=fun u=>u.cell? (aA b off)=some (iI y0)/\u.cell? (aA b (off+1))=some (iI y1)/\u.cell? (aA b (off+2))=some (iI y2)/\u.cell? (aA b (off+3))=some (iI y3)/\u.cell? (aA b (off+4))=some (iI y4)/\u.cell? (aA b (off+5))=some (iI y5)) og ⟨n0,n1,n2,n3,n4,n5⟩ (fun aG=>?_)
 have bKw:=0;exact zNi):p:=h
theorem zKh(h:p:=by
 have hi:=rV C p.nodes j w h.base.c0;rw[kD od]at hi;have hl:=yK C m.la p.nl m.rJ k w h.base.c14;rw[kD od]at hl
 first|have _:=m65;obtain⟨OQ,lost,hQ,hQ1,hQ2,qD⟩:=h.que hk hj hb;have hp:=aLy hQ od;have HBK:Hid (∀(w':World) (OQ':List Nat),Que w' OQ' (m.Q k j) 16 (s.aR k j).tail lost->aS OQ OQ' w w'->∃O',aS O O' w w'/\Cl w' O' C p fa cs (s.recv k j) rd B m):=fun w' OQ' q1 q2=>qD w' OQ' B (s.aR k j).tail lost q1 q2 hQ1 (by rw[List.length_tail];omega) (kF _)|skip
 obtain⟨la1,la2⟩:=h.base.la od;obtain⟨l0,l1,l2⟩:=h.base.lk k hk;obtain⟨e1,e2⟩:=h.base.en k hk
 first|have _:=m65;obtain⟨d1,d2,d3⟩:=h.base.dn k j hk hj hb;have e3:=e2 j hj;rw[hb,kJ rfl]at e3|have e3:=e2 j hj;rw[hb,kI oe]at e3
 have c14:=h.base.c14;rw[la1]at c14;have hll:=h.base.lx _ la2;have hel:=h.base.lx _ e1
 first|have _:=m65;have hdl:=h.base.lx _ d1|skip
 have sG:=h.base.lc;have kk:(k:Int)<(p.nl:Int):=od;have jj:(j:Int)<(p.n:Int):=od
 first|have _:=m65;generalize recvD (s.aR k j)=RD at *;generalize fI (zH (s.aR k j))=RK at *;obtain⟨n,hn⟩:∃n,p.n=n:=⟨_,rfl⟩;rw[hn]at l2 jj;clear qD hQ hQ1 hQ2 h la1 la2 e2 d1;go_enter func73,ntmps73;exact zN6|generalize p.n=n at *;clear h la1 la2 e2 hb;exact zG6):p:=h
theorem zKj(h:p:=by
 go_simp;refine kp hK fun aG=>?_;clear hK K;refine eA 2 fun K hK=>?_;go_simp;(go_at_call 196;refine(dO _ _ _).mono ?_;rintro e u0 ⟨fv,rfl,hB,hu⟩;have L9:=aO (a:=(aA V.heap.size 0)) (v:=iI lf) oh hu;have hW:=G8 hW hu;obtain⟨c0,c1,c2,c3⟩:=hc.below hW);refine kp hK fun aG=>?_;clear hK K;refine eA 6 fun K hK=>?_;go_simp
 first|have _:=m67;(go_at_call 195;refine(iA true fv _ _ (lf) V.heap.size _ _ hB L9 hd1).mono ?_;rintro e x0 ⟨rfl,fP⟩;have hW:=jS hW fP;obtain⟨c0,c1,c2,c3⟩:=hc.below hW);exact zE7|(go_at_call 195;refine(iA false fv _ _ (lf) V.heap.size _ _ hB L9 hd).mono ?_;rintro e x0 ⟨rfl,fP⟩;have hW:=jS hW fP;obtain⟨c0,c1,c2,c3⟩:=hc.below hW);refine kp hK fun aG=>?_;clear hK K;refine tk 7 aG ?_;exact zAj):p:=h
theorem zKk(h:p:=by
 intro gq cq w3 cD uA jW aTd;have bP:=aFx uA;clear uA;obtain⟨r0,r1,r2,r3,rc,rz⟩:=lT.out w3 bP;refine kp hK (fun aG=>?_) ⟨r0,r1,r2,r3⟩;clear hK K
 first|have _:=m68;refine tk 7 aG ?_;refine eA 8 fun K hK=>?_|refine tk 21 aG ?_;refine tk 22 aG ?_;refine tk 23 aG ?_;refine eA 24 fun K hK=>?_
 go_simp;refine kp hK (fun aG=>?_) ⟨(aB (.inl qY.out)).trans r0,(aB (.inl qY.out)).trans r1,(aB (.inl qY.out)).trans r2,(aB (.inl qY.out)).trans r3⟩
 first|have _:=m68;exact zHa|clear hK K;refine dn ?_;obtain⟨U,hU⟩:∃U,w3.setCell (aA S 7) (sL gq (nn+1) cq)=U:=⟨_,rfl⟩;obtain⟨u7,hDU,oX⟩:=tW.out w3 gq cq bP cD jW aTd U hU;have HF:Hid _:=oX;have hT:=pI (nn:Int) ⟨od,od⟩ U hDU;rw[hU];clear hU oX hDU;exact zHw):p:=h
theorem zKo(h:p:=by
 refine callsD_of_wpS func42 rfl fun c₀ cs hu=>?_;simp only[ntmps42,List.size_toArray,List.length_cons,List.length_nil,Nat.reduceAdd,Nat.reduceSub,Array.replicate_succ,Array.replicate_zero,List.push_toArray,List.append_toArray,List.nil_append,List.cons_append];apply wpS_seq;apply wpS_region
 first|have _:=m72;simp[wpOpsS,go_sem,recoverD,hu,Tryz.aYr,Exit.thenS]|simp[wpOpsS,go_sem,recoverD,hu,Tryz.aY7,Exit.thenS]
 refine wpS_of_wp ?_;go_wp2_with fail
 first|(have _:=m72;exact⟨rfl,.returning,by cases c₀;simp at hu;subst hu;rfl,tU #[],by simp[results,results42,go_sem],rfl,rfl,rfl⟩)|refine hW.mono ?_;rintro e w1 ⟨rfl,dB⟩;have hb':w1.heap[b]?=some (.cells #[sT old] 9 (0,0)):=(dB.block b hlt).trans hb;have c1:w1.cell? (aA b 0)=some (sT old):=aM hb' rfl;have z1:=bC hb' (i:=0);have oP:Hid (bW w w1):=dB;clear dB;go_wp2_with fail;exact⟨rfl,_,rfl,tU #[],by simp[results,results42,go_sem],rfl,rfl,w1,oP.out,rfl⟩):p:=h
theorem zKr(h:p:=by
 have hSM:S∈M:=h.r.s
 first
 |have _:=m75;have B9:=h.r.hi S hSM;have hSO:S∉O:=fun q=>h.r.ap S q hSM;have HP:Hid (∀v,bW w v->Calls prog 56 #[pP A.C,sV ra.la st.next.nL ra.lc,sV ra.ra st.next.nR ra.rc,sV ra.da st.next.bA.length ra.dc,sV ra.ma st.next.bH.length ra.mc] v fun e u=>((u.cell? (aA S 11)=some (sV ra.la st.next.nL ra.lc)/\u.cell? (aA S 12)=some (sV ra.ra st.next.nR ra.rc)/\u.cell? (aA S 13)=some (sV ra.da st.next.bA.length ra.dc)/\u.cell? (aA S 14)=some (sV ra.ma st.next.bH.length ra.mc))/\∀i,u.frozen? (aA S i)=false)/\
    ((e=rT (iI 6)/\∀w',bW u w'->gU base S M O st N .oC n tx w (rT (tU #[sT ⟨#[]⟩,iI 6])) w')\/
     (e=rT (iI 0)/\∀u2,u2=((((u.setCell (aA S 11) (sV none 0 0)).setCell (aA S 12) (sV none 0 0)).setCell (aA S 13) (sV none 0 0)).setCell (aA S 14) (sV none 0 0))->u2.cell? (aA A.C 16)=some (iI (rd+1))/\cB u2.heap.size u2/\∀w',bW u2 w'->gU base S M O st N .oC n tx w (rT (tU #[sT (dG (rd+1)),iI 0])) w'))):=fun v hv=>by
   refine(aRl (hR.below hv) lF sH.1 od od od ((hFi.at (hv.mono hFi.2.1)).2.2) st.next ra (eE.below hv) (fun b off e=>?_) (fun b off e h0 q=>h.r.ap b q (h.r.bM b off (by rw[<-eMa];exact e) h0).1)).mono ?_
   ·have hb:b∈M:=h.r.bO b (by rw[eO,e];rfl)
    exact⟨fun q=>h.r.ap b q hb,kB (h.r.hi b hb) hv.size⟩
   rintro e u ⟨O1,hf,q⟩
   have N3:aS O O1 w u:=(aS.of_below hv).trans hf
   have hSu:u.heap[S]?=w.heap[S]?:=N3.block S B9 hSO
   refine⟨⟨⟨(World.cell?_of_block (a:=(aA S 11)) hSu).trans c1,(World.cell?_of_block (a:=(aA S 12)) hSu).trans c2,(World.cell?_of_block (a:=(aA S 13)) hSu).trans c3,(World.cell?_of_block (a:=(aA S 14)) hSu).trans c4⟩,fun i=>(World.frozen?_of_block (a:=(aA S i)) hSu).trans (bC h.blk (i:=i))⟩,?_⟩
   rcases q with⟨q1,he,hR1⟩|⟨q1,he,m',hR1⟩
   ·refine .inl ⟨he,fun w' hw'=>?_⟩
    have rH:A3 u M O1 A.C st.aI fa cs c rd T:=⟨Z,m,d9 N3 hZ hR.az hR.rows.zl,hR1,lF,sH⟩
    obtain⟨q2,q3⟩:=(h.later (kR N)).aGl N3 (by rw[dI];exact fun q=>by cases q) rH od
    have est:{ st with clu:=some (fa,cs,c,rd,T) }=st:=by rw[<-dI]
    rw[est]at q2
    exact⟨st,.err 6,M,O1,A,⟨fa,cs,c,rd,T,dI,.inl ⟨q1,rfl,rfl⟩⟩,⟨oe,_,rfl⟩,q3.trans (aS.of_below hw'),q2.below hw'⟩
   ·refine .inr ⟨he,?_⟩
    rintro u2 rfl
    have rH:A3 u M O1 A.C st.aI fa (nZ st.aI fa cs st.next) (aCe st.aI fa c rd st.next) (rd+1) (T+1):=⟨Z,m',d9 N3 hZ hR.az hR.rows.zl,hR1.more od,lF.next st.next q1,od,od⟩
    obtain⟨q2,q3⟩:=(h.later (kR N)).aGl N3 (by rw[dI];exact fun q=>by cases q) rH od
    have q5:=q2.aE5
    have f5:=q3.trans (I7 (u:=u) (kK (.inl hSM)))
    obtain⟨⟨Z5,m5,_,hR5,_⟩,_⟩:=q5.r.clu _ _ _ _ _ rfl
    exact⟨hR5.base.c16,h.aBi hD f5,fun w' hw'=>⟨_,.ok (dG (rd+1)),M,O1,A.aE6,⟨fa,cs,c,rd,T,dI,.inr ⟨q1,rfl,rfl⟩⟩,rfl,f5.trans (aS.of_below hw'),q5.below hw'⟩⟩
 |have sH:=(gG.ok hcu).2;have HC:Hid (Calls prog 74 #[pP A.C,st.next.val ra] (V.drewN 1) fun e u=>∃k O',e=rT (fI k)/\aS O O' V u/\((k=0->∀u',bW u u'->u'.heap[S]?=some (.cells (st.cells A) 70 (0,0))/\(∀u2,u2=((((u'.setCell (aA S 11) (sV none 0 0)).setCell (aA S 12) (sV none 0 0)).setCell (aA S 13) (sV none 0 0)).setCell (aA S 14) (sV none 0 0))->nV u2/\(∀u3,bW u2 u3->nV u3)/\(Calls prog 75 #[pP A.C] u2 fun e w'=>e=rT (iI (rd+1))/\bW u2 w')/\∀u3,bW u2 u3->cS base S M O st N .oC n tx w (rT (sT (dG (rd+1)))) u3))/\(k≠0->∀u',bW u u'->cS base S M O st N .oC n tx w (fX k) u'))):=by
   refine(gG.bHr st.next ra hcd od (eE.below (bdN V 1)) (fun b off e h0=>fun q=>hs.r.ap b q (hs.r.bM b off (by rw[<-eMa];exact e) h0).1)).mono fun e u ⟨O1,hf,q⟩=>?_;have N3:aS O O1 V u:=⟨hf.os,hf.tape,hf.output,hf.size,hf.block,hf.fresh⟩;rcases q with⟨q1,he,rH⟩|⟨q1,he,rH⟩
   ·obtain⟨q2,q3⟩:=(hs.later (kR N)).aGl N3 (by rw[dI];exact fun q=>by cases q) rH od;have est:{ st with clu:=some (fa,cs,c,rd,T) }=st:=by rw[<-dI]
    rw[est]at q2;refine⟨6,O1,he,N3,fun q=>eh,fun _ u' hu=>?_⟩;exact⟨st,.err 6,M,O1,A,⟨fa,cs,c,rd,T,dI,.inl ⟨q1,rfl,rfl⟩⟩,rfl,((aS.of_below hB).trans q3).trans (aS.of_below hu),q2.below hu⟩
   ·obtain⟨q2,q3⟩:=(hs.later (kR N)).aGl N3 (by rw[dI];exact fun q=>by cases q) rH od;refine⟨0,O1,he,N3,fun _ u' hu=>?_,fun q=>absurd rfl q⟩;have q4:=q2.below hu;have e4:=q4.blk;refine⟨?_,?_⟩
    ·rw[e4];unfold gD.cells;rw[dI];rfl
    rintro u2 rfl;have q5:=q4.aE5;have f5:=((aS.of_below (O:=M++O) hB).trans q3).trans ((aS.of_below hu).trans (I7 (u:=u') (kK (.inl hSM))));have X9:∀x,x∈M++O->base<=x:=fun x hx=>(kL hx).elim (h.r.lo x) (h.r.loO x);have b5:=f5.below X9 hbw;have D5:=hD.below b5;have hs5:base<=((((u'.setCell (aA S 11) (sV none 0 0)).setCell (aA S 12) (sV none 0 0)).setCell (aA S 13) (sV none 0 0)).setCell (aA S 14) (sV none 0 0)).heap.size:=kG hbw b5.size;refine⟨D5.here,fun u3 hu3=>D5 u3 (hu3.mono hs5),?_,fun u3 hu3=>?_⟩
    ·exact gG.rounds (q5.r.clu _ _ _ _ _ rfl).1
    ·exact⟨_,.ok (dG (rd+1)),M,O1,A.aE6,⟨fa,cs,c,rd,T,dI,.inr ⟨q1,rfl,rfl⟩⟩,rfl,f5.trans (aS.of_below hu3),q5.below hu3⟩
  have HD:Hid (∀O' u,aS O O' V u->nV u):=fun O' u hf=>HDV.out u (hf.below hs.r.loO R1)
 have HI:Hid (gW (rd+1)):=⟨od,od⟩
 first|have _:=m75;clear h hD dI hR hZ lF sH hTN eE eO eR eDa eDc eMa eMc hFi|clear h hD hB hs hcu hcd hTN dI HDV eE eO eR eDa eDc eMa eMc sH hbw R1;unfold cT.val at HC
 generalize st.next.nL=q1 at *;generalize st.next.nR=q2 at *;generalize st.next.bA.length=q3 at *;generalize st.next.bH.length=q4 at *
 first|have _:=m75;go_enter func15,ntmps15;go_wp2_with fail;refine wp_region_held_drew (S:=fun v=>v.cell? (aA S 11)=some (sV ra.la q1 ra.lc)/\v.cell? (aA S 12)=some (sV ra.ra q2 ra.rc)/\v.cell? (aA S 13)=some (sV ra.da q3 ra.dc)/\v.cell? (aA S 14)=some (sV ra.ma q4 ra.mc)) og ⟨c1,c2,c3,c4⟩ (fun aG=>?_)|go_enter func29,ntmps29;go_wp2_with fail;refine wp_region_held_drew (S:=fun v=>v.cell? (aA S 10)=some (pP A.C)/\v.cell? (aA S 11)=some (sV ra.la q1 ra.lc)/\v.cell? (aA S 12)=some (sV ra.ra q2 ra.rc)/\v.cell? (aA S 13)=some (sV ra.da q3 ra.dc)/\v.cell? (aA S 14)=some (sV ra.ma q4 ra.mc)) og ⟨c0,c1,c2,c3,c4⟩ (fun aG=>?_)
 exact zN4):p:=h
theorem zKu(h:p:=by
 obtain⟨r0,r1,r2⟩:=dI k hlt;replace r0:=aO r0 bT;replace r1:=aO r1 bT;replace r2:=aO r2 bT;have hbr:b<wr.heap.size:=lt_of_cell r0;clear dI;go_wp2_with fail
 first|have _:=m78;refine(rP w1.heap.size _ _ [wp k,wf k,wt k] _ _ (wr.alloc (.cells #[iI (wp k),iI (wf k),iI (wt k)] 168)) (wr.heap.size+1) oh rfl (fF ho.out ((kX _ _).alloc (kF _) _)) ol (MW.out k hlt) (kG (iY _) Jc) oh).mono ?_|refine(rP w1.heap.size _ _ [nd k,fr k,tq k] _ _ (wr.alloc (.cells #[iI (nd k),iI (fr k),iI (tq k)] 94)) (wr.heap.size+1) oh rfl (fF ho.out ((kX _ _).alloc (kF _) _)) ol (MS.out k hlt) (kG (iY _) (by simp[sA];omega)) oh).mono ?_
 rintro ev w3 ⟨v3,rfl,ho3,uQ,hz3⟩;have yN:bW w1 w3:=(bT.alloc bT.size _).trans uQ
 first|(have _:=m78;have ho4:Hid (w3.ownsRow w1.heap.size 5 1 v3 (bytesOf ([nodes,aF,aJ,aC,aH,round,(ns:Int)]++bX nd fr tq ns++[(nl:Int)]++fN lf lt lb lq nl++[frame,(nw:Int)]++bX wp wf wt (k+1))).length ((bytesOf ([nodes,aF,aJ,aC,aH,round,(ns:Int)]++bX nd fr tq ns++[(nl:Int)]++fN lf lt lb lq nl++[frame,(nw:Int)]++bX wp wf wt (k+1))).map (Value.int .u8))):=by exact zFc)|have ho4:Hid (w3.ownsRow w1.heap.size 5 1 v3 (bytesOf ([nodes,aF,aJ,aC,aH,round,(ns:Int)]++bX nd fr tq (k+1))).length ((bytesOf ([nodes,aF,aJ,aC,aH,round,(ns:Int)]++bX nd fr tq (k+1))).map (Value.int .u8))):=by exact zFc
 clear ho ho3 r0 r1 r2;exact zDt):p:=h
theorem zK3(h:p:=by
 go_enter func33,ntmps33;go_wp2_with fail
 first|have _:=m87;refine wp_region_held_drew (S:=fun v=>v.cell? (aA w.heap.size 0)=some (sV (some (aA b off)) (l.length+1) cap)/\v.cell? (aA b off)=some (iI x)) og ⟨x0,n0⟩ (fun aG=>?_)|refine wp_region_held_drew (S:=fun v=>v.cell? (aA w.heap.size 0)=some (sV (some (aA b off)) 1 1)/\v.cell? (aA b off)=some (iI x)) og ⟨x0,n0⟩ (fun aG=>?_)
 have bL6:=0;exact zN4):p:=h
theorem zK7(h:p:=by
 rintro ev u9 ⟨rfl,W7⟩;have g0:=aO p0 W7;have g1:=aO p1 W7;have k0:=(W7.frozen (p:=(aA (w.heap.size+1) 0)) aXx).trans l0;have k1:=(W7.frozen (p:=(aA (w.heap.size+1) 1)) aXx).trans l1
 first|have _:=m91;obtain⟨c0,c1,hT⟩:=aP7 (E:=iI 7) (I:=iI (-1)) g0 g1;have lT:Hid (bW w ((u9.setCell (aA (w.heap.size+1) 0) (iI 7)).setCell (aA (w.heap.size+1) 1) (iI (-1)))):=(btr aS3.out W7).trans (hT.below (kG (kV bAc) W7.size) (kR _) (kR _));clear hT W7;go_wp2;exact bodyPost_ret (v:=tU #[.pointer none,.agg #[iI 7,iI (-1)]]) ed rfl (rU.bad HNO.out oe lT.out)|obtain⟨c0,c1,hT⟩:=aP7 (E:=iI 1) (I:=iI (-1)) g0 g1;have lT:Hid (bW w ((u9.setCell (aA (w.heap.size+1) 0) (iI 1)).setCell (aA (w.heap.size+1) 1) (iI (-1)))):=(btr aS3.out W7).trans (hT.below (kG (kV bAc) W7.size) (kR _) (kR _));exact zEm):p:=h
theorem zLi(h:p:=by
 obtain⟨c0,c1,c2,c3,c4,c5,z,own,lp,lb,we⟩:=h;obtain⟨a,cap,rfl⟩:=eY own;have J1:decide (40<(d.size:Int))=false:=kC od;have hlp:P<w.heap.size:=od
 first|have _:=bK5;clear own z;generalize all.length=n at *;have Y0:IntKind.i64.wrap ((n:Int)-(aP:Int))=(n:Int)-(aP:Int):=jd;go_enter func54,ntmps54|have hn:all.length-aP<=10000000:=od;clear own z we;generalize all.length-aP=n at *;go_enter func122,ntmps122
 exact zDj):p:=h
theorem zLk(h:p:=by
 generalize l.getD k 0=P at *;go_wp2_with fail;refine qF.mono ?_;rintro e w1 ⟨rfl,yS⟩;have oP:Hid (bW w w1):=bT.out.trans (yS.mono bT.out.size);clear qF yS y0;go_wp2
 first
 |have _:=bK6;go_roundw;case rel=>exact⟨k+1,od,ow,HN,oP⟩
  case measure=>simp[intOf];omega
 |go_ret;exact⟨_,rfl,bI7.out,oP.out⟩):p:=h
theorem zLo(h:p:=by
 have f0:wr.cell? (aA w.heap.size 0)=some (iI who):=(HJ.out.box Em HX.out.1.1 0).trans (HX.out.2.1 0 _ rfl)
 first|have _:=bC6|have f2:wr.cell? (aA w.heap.size 2)=some (iI mem):=(HJ.out.box Em HX.out.1.1 2).trans (HX.out.2.1 2 _ rfl)
 have bNn:w.heap.size<wr.heap.size:=by have:=HJ.out.size;have:=HX.out.2.2.2;omega
 first
 |have _:=bC6;have HWE:Hid (∃WH,(if cQ aT l0 l1 j 2=true then eV p.n (s.nodes j).t (tb mem) who mem else 0)=WH):=⟨_,rfl⟩;have hhr:=bB0 HJ.out j (by rw[L8.out];exact HLT.out) HN.out.1 who (if cQ aT l0 l1 j 2=true then eV p.n (s.nodes j).t (tb mem) who mem else 0) Eu;have HST:Hid (s.cK p who mem mk aT l0 l1 (j+1)=(if cQ aT l0 l1 j 2=true then(s.cK p who mem mk aT l0 l1 j).dT p mk j else s.cK p who mem mk aT l0 l1 j).setNode j ((s.nodes j).hears j p.n who (if cQ aT l0 l1 j 2=true then eV p.n (s.nodes j).t (tb mem) who mem else 0))):=kI HW.out;rw[HJN.out]at hhr;generalize(if cQ aT l0 l1 j 2=true then eV p.n (s.nodes j).t (tb mem) who mem else 0)=WH at *;clear HWE HJN HJ;go_wp2_with fail;refine hhr.mono ?_
 |have aXv:=aX3 HJ.out j (by rw[L8.out];exact HLT.out) HN.out.1 who mem;rw[HJN.out]at aXv;have HTW:Hid ((if cQ aT l0 l1 j c=true then(s.cK p who mem mk aT l0 l1 j).dT p mk j else s.cK p who mem mk aT l0 l1 j).dT p mk j=(s.cK p who mem mk aT l0 l1 j).dT p mk j):=by
   show _=_;split
   ·exact U1 _ _ _ _
   ·rfl
  clear hs HSU;generalize(if cQ aT l0 l1 j c=true then(s.cK p who mem mk aT l0 l1 j).dT p mk j else s.cK p who mem mk aT l0 l1 j)=SC at *;generalize(if cQ aT l0 l1 j c=true then eV p.n (s.nodes j).t (tb mem) who mem else 0)=WH at *;obtain⟨JV,hJV⟩:∃JV,eV p.n (s.nodes j).t (tb mem) who mem=JV:=⟨_,rfl⟩;have HJV:Hid (eV p.n (s.nodes j).t (tb mem) who mem=JV):=hJV;rw[hJV]at aXv;clear hJV HJN;have H4:Hid (aT=true):=yQ;subst yQ;go_wp2_with fail;refine(yO _).mono ?_;rintro e v1 ⟨rfl,hv⟩;replace hv:=hv.symm;subst hv;go_wp2_with fail;refine aXv.mono ?_
 rintro e v1 ⟨rfl,hI1⟩
 first
 |have _:=bC6;have L6:Hid (dZ O V v1 C p fa cs (s.cK p who mem mk aT l0 l1 (j+1)) rd (B+5*(j+1)) m):=by show dZ _ _ _ _ _ _ _ _ _ _ _;rw[HST.out];exact hI1
  clear hI1 hhr HST;exact zFq
 |have A8:Hid (dZ O V v1 C p fa cs SC rd (B+5*j+2*c) m):=hI1;have y:∀(i':Nat) (v:Value),(#[iI who,iI i,iI mem,iI lk,iI q,sT d]:Array Value)[i']?=some v->v1.cell? (aA w.heap.size i')=some v:=fun i' v hv=>(hI1.box Em HX.out.1.1 i').trans (HX.out.2.1 i' v hv);have g0:v1.cell? (aA w.heap.size 0)=some (iI who):=y 0 _ rfl;have g1:v1.cell? (aA w.heap.size 1)=some (iI i):=y 1 _ rfl;have g2:v1.cell? (aA w.heap.size 2)=some (iI mem):=y 2 _ rfl;have g3:v1.cell? (aA w.heap.size 3)=some (iI lk):=y 3 _ rfl;have g4:v1.cell? (aA w.heap.size 4)=some (iI q):=y 4 _ rfl;have g5:v1.cell? (aA w.heap.size 5)=some (sT d):=y 5 _ rfl;have bNo:w.heap.size<v1.heap.size:=by have:=hI1.size;have:=HX.out.2.2.2;omega
  clear y aXv HJ hI1;go_wp2_with fail;refine(HT.out V v1 SC _ j A8.out (by rw[L8.out];exact HLT.out) Eu).mono ?_;rintro e v2 ⟨rfl,hI2⟩;have L6:Hid (dZ O V v2 C p fa cs (if cQ true l0 l1 j (c+1)=true then(s.cK p who mem mk true l0 l1 j).dT p mk j else s.cK p who mem mk true l0 l1 j) rd (B+5*j+2*(c+1)) m):=by show dZ _ _ _ _ _ _ _ _ _ _ _;rw[HE.out,kJ rfl,<-HTW.out];exact hI2
  have HWH:Hid (JV=(if cQ true l0 l1 j (c+1)=true then eV p.n (s.nodes j).t (tb mem) who mem else 0)):=by show _=_;rw[HE.out,kJ rfl];exact HJV.out.symm
  clear hI2 A8 HTW HE g0 g1 g2 g3 g4 g5;go_wp2;go_roundw;case rel=>exact⟨c+1,od,ow,by rw[HWH.out],L6⟩
  case measure=>simp[intOf];omega):p:=h
theorem zLp(h:p:=by
 obtain rfl:=dQ;clear mP;conv=>arg 2;arg 1;whnf
 have wW:Hid _:=cN;obtain⟨fL,rfl⟩:=lit L 139 tC;replace s3:=aX s3;replace s9:=aX s9
 first|have _:=bG6;replace s10:=aX s10;replace s43:=aX s43;replace s44:=aX s44;simp only[List.range,List.range.loop,List.map_cons,List.map_nil,s3,s9,s10,s43,s44];have HH:Hid (NMy w w base Z C p cc fT m0 0):=h|replace s99:=aX s99;replace bDf:=aX bDf;replace aMk:=aX aMk;simp only[List.range,List.range.loop,List.map_cons,List.map_nil,s3,s9,s99,bDf,aMk];have HH:Hid (NMz w base Z C p cc fT m0 iT 0):=h;have aS9:Hid _:=fE;have Z1:Hid (∀iU,Z3 w base Z C p cc fT m0 p.n 0 (X6 p.n 0 0) iT iU->iU.ownBlock=none):=bFd
 have lPB:PB<w.heap.size:=lt_of_cell hPB
 first
 |have _:=bG6;obtain⟨i1,hiI,R8,hy1,M3⟩:=info_parts Tryz.aY5;clear cN h;go_loopw[44,10] (fun a b wr=>∃i:Nat,i<=p.n/\a=iI i/\b=iI ((List.range i).countP (aW fa):Nat)/\Hid (NMy w wr base Z C p cc fT m0 i)/\Hid (aU C C w wr)) (fun a _ _=>p.n-(intOf a).toNat);case atStart=>exact⟨0,kH _,rfl,rfl,HH.out,aU.refl _ _ _⟩
  case round=>
   obtain⟨i,hi,rfl,rfl,hN,Q9⟩:=hrel;by_cases hlt:i<p.n
   ·have ii:(i:Int)<(p.n:Int):=by omega
    obtain⟨iT,⟨Of,m,aEb,hNM⟩,hfr⟩:=hN.out;have hli:=vF C fa i od wr ((hNM.cel 10 oe oe).trans e10);have HCN:Hid ((List.range (i+1)).countP (aW fa)=(List.range i).countP (aW fa)+(if aW fa i=true then 1 else 0)):=by show _=_;cases hb:aW fa i<;>simp[List.range_succ,List.countP_append,hb]
    have dI:(List.range i).countP (aW fa)<=i:=by have:=List.countP_le_length (p:=aW fa) (l:=List.range i);exact zHh
    have HNM:Hid (NM wr base Z Of C p cc fT m i 0 (fun _ _=>false) iT (sV none 0 0)):=hNM;have HFR:Hid (∀g,iT.ownBlock=some g->w.heap.size<=g):=hfr;have HFX:Hid (iD.fix m m0):=aEb;obtain⟨CT,hCT⟩:∃CT,(List.range i).countP (aW fa)=CT:=⟨_,rfl⟩;rw[hCT]at HCN dI;rw[hCT];clear hNM hfr aEb hCT hN;have bIq:Hid (∀q (V':Value) (w1 w3:World),Below (wr.drewN q).heap.size (wr.drewN q) w1->bZ w1 ((wr.drewN q).heap.size+1) (wr.drewN q).heap.size i p.n (fun _=>true) 1 0 false->w3.ownsRow base 119 1 V' (i+1) (((List.range i).map fun j=>.pointer (some ⟨m.P j,0,none⟩))++[.pointer (some ⟨(wr.drewN q).heap.size+1,0,none⟩)])->(w1.alloc (.cells #[.pointer (some ⟨(wr.drewN q).heap.size+1,0,none⟩)] 119)).grownBy w3 iT.ownBlock->(V'.ownBlock=iT.ownBlock\/V'.ownBlock=some (w1.heap.size+1))->NMy w (w3.setCell (aA C 12) V') base Z C p cc fT m0 (i+1)/\aU C C w (w3.setCell (aA C 12) V')):=fun q V' w1 w3 b1 hRN ho hg jW=>by
     have hq:NM (wr.drewN q) base Z Of C p cc fT m i 0 (fun _ _=>false) iT (sV none 0 0):=HNM.out.below ⟨rfl,rfl,rfl,kF _,fun _ _=>rfl⟩;obtain⟨Of',hN'⟩:=hq.addNode b1 hRN (kR _) (kF _) ho hg jW;have hwq:w.heap.size<=wr.heap.size:=Q9.out.size;have hs1:wr.heap.size<=w1.heap.size:=b1.size;refine⟨⟨V',⟨Of',_,?_,hN'⟩,fun g hg'=>?_⟩,?_⟩
     ·exact HFX.out
     ·rcases jW with y|y
      ·exact HFR.out g (by rw[<-y];exact hg')
      ·rw[y]at hg';have:=kW hg';omega
     ·have hs3:w1.heap.size+1<=w3.heap.size:=by have:=hg.size;rw[show(w1.alloc (.cells #[.pointer (some ⟨(wr.drewN q).heap.size+1,0,none⟩)] 119)).heap.size=w1.heap.size+1 by simp]at this;exact this
      refine⟨hg.os.trans (b1.os.trans Q9.out.os),hg.tape.trans (b1.tape.trans Q9.out.tape),hg.output.trans (b1.output.trans Q9.out.output),?_,fun c hc h1 h2=>?_⟩
      ·rw[show(w3.setCell (aA C 12) V').heap.size=w3.heap.size by simp];omega
      ·refine(Below.heap_setCell _ _ _ c h1).trans ((hg.block c ol (fun e=>?_)).trans ((((kX w1.heap.size w1).alloc (kF _) _).block c od).trans ((b1.block c (show c<wr.heap.size by omega)).trans (Q9.out.block c hc h1 h2))));have:=HFR.out c e.symm;omega
    have zPB:wr.cell? (aA PB 0)=some (iI p.n):=(Q9.out.cell (p:=(aA PB 0)) lPB hPC hPC).trans hPB;have lPr:PB<wr.heap.size:=kB lPB Q9.out.size;have lCr:=HNM.out.lC;obtain⟨a12,aK8,h12⟩:=eY HNM.out.own12;have wX:Hid (∀q,Calls prog 98 #[iI i,iI p.n] (wr.drewN q) fun e w'=>e=rT (tU #[.pointer (some ⟨(wr.drewN q).heap.size+1,0,none⟩),.bool true])/\bZ w' ((wr.drewN q).heap.size+1) (wr.drewN q).heap.size i p.n (fun _=>true) 1 0 false/\Below (wr.drewN q).heap.size (wr.drewN q) w'):=fun q=>aIe i p.n (wr.drewN q) lK hn od ii;subst h12;cases wU:aW fa i
    ·exact zAi
    ·exact zAi
   ·obtain rfl:i=p.n:=by omega
    go_wp2;exact wW.out _ _ hN.out Q9.out rfl (Rest.of rfl) rfl rfl
 |clear cN h fE bFd;go_loopw[101] (fun a wr=>∃k:Nat,k<=p.nl/\a=iI k/\Hid (∃iU,Z3 wr base Z C p cc fT m0 p.n k (X6 p.n k 0) iT iU/\∀g,iU.ownBlock=some g->w.heap.size<=g)/\Hid (aU C m0.tb w wr)) (fun a _=>p.nl-(intOf a).toNat);case atStart=>obtain⟨iU,hV⟩:=HH.out;exact⟨0,kH _,rfl,⟨iU,hV,fun g hg=>by rw[Z1.out iU hV]at hg;cases hg⟩,aU.refl _ _ _⟩
  case round=>
   obtain⟨k,hk,rfl,hN,Q9⟩:=hrel;by_cases hlt:k<p.nl
   ·have kk:(k:Int)<(p.nl:Int):=by omega
    obtain⟨iU,⟨Of,m,aEb,hNM⟩,hfr⟩:=hN.out;obtain⟨b,off,rfl,⟨gX,hbC,hbT⟩,hc⟩:=aS9.out od;obtain⟨x0,x1,x2,x3⟩:=hc k hlt;have hsw:=Q9.out.size;replace x0:=(Q9.out.cell (p:=⟨b,off+k*4,none⟩) gX hbC hbT).trans x0;replace x1:=(Q9.out.cell (p:=⟨b,off+k*4+1,none⟩) gX hbC hbT).trans x1;replace x2:=(Q9.out.cell (p:=⟨b,off+k*4+2,none⟩) gX hbC hbT).trans x2;replace x3:=(Q9.out.cell (p:=⟨b,off+k*4+3,none⟩) gX hbC hbT).trans x3;obtain⟨z2,z3,zb,zs⟩:=bHl wr (iI (p.lf k)) (iI (p.lt k)) (iI (p.lb k)) (iI (p.lq k)) 96;have hN1:=hNM.below zb;obtain⟨W1,R0⟩:∃W1,W1=wr.alloc (.cells #[iI (p.lf k),iI (p.lt k),iI (p.lb k),iI (p.lq k)] 96):=⟨_,rfl⟩;have HW1:Hid (W1=wr.alloc (.cells #[iI (p.lf k),iI (p.lt k),iI (p.lb k),iI (p.lq k)] 96)):=R0;rw[<-R0]at z2 z3 zb zs hN1;have bIi:Hid (NM W1 base Z Of C p cc fT m p.n k (X6 p.n k 0) iT iU):=hN1;have y13:=hN1.c13;have v13:=hN1.z 13;have hVf:=eY hN1.own13;have bFp:=hN1.own13;have lC1:=hNM.lC;have hLC:wr.heap.size≠C:=od;have hVC:iU.ownBlock≠some C:=fun e=>hNM.nC jn;have hVL:iU.ownBlock≠some wr.heap.size:=fun e=>by have:=hNM.fam.lt iB wr.heap.size (by rw[hNM.ob];simp[e]);omega
    have bG2:=hN1.sz;have htb:=aEb.1.1;have HFX:Hid (iD.fix m m0):=aEb;have HFR:Hid (∀g,iU.ownBlock=some g->w.heap.size<=g):=hfr;have zPB:wr.cell? (aA PB 0)=some (iI p.n):=(Q9.out.cell (p:=(aA PB 0)) lPB hPC hPT).trans hPB;clear hNM hN1 hN hfr aEb R0 hc;go_wp2_with fail;rw[<-HW1.out];refine bD5 _ oq _ base C wr.heap.size k (p.lb k) (p.lq k) iU _ W1 od y13 v13 hVf z2 z3 hLC bFp hVC hVL bG2 rfl rfl rfl ?_;intro L2 g cap w3 ho3 hg3 bBi pC pD;exact zOr
   ·obtain rfl:k=p.nl:=by omega
    obtain⟨iU,hV,_⟩:=hN.out;have HV:Hid _:=hV;clear hV;go_wp2;exact wW.out _ _ ⟨iU,HV.out⟩ Q9.out rfl (Rest.of rfl) rfl):p:=h
theorem zLq(h:p:=by
 generalize row.length=n at *
 first|have _:=bG7;clear h2 h1 hr hn HM|clear e1 e2 h2 h1 hr hn
 go_enter func211,ntmps211;go_wp2_with fail;refine bT.mono ?_;rintro e w1 ⟨rfl,rfl⟩;go_wp2_with fail;refine hp.mono ?_;rintro e w2 ⟨rfl,q,rfl⟩
 first|have _:=bG7;go_wp2;go_ret2;exact⟨rfl,hV q⟩|go_wp2_with fail;refine(HM.out _ (hV q)).mono ?_;rintro e w3 ⟨rfl,jN⟩;go_wp2;go_ret2;exact⟨rfl,D4 (hV q) jN⟩):p:=h
theorem zLu(h:p:=by
 unfold sK at hh;have hh:¬(0<=gH/\gH<n/\gH≠id/\0<=bU/\bU<=2):=by simpa using hh
 by_cases k1:0<=gH
 first
 |have _:=bGa
  ·by_cases k2:gH<=(n:Int)-1
   ·by_cases k3:gH=id
    ·subst k3;clear hh;exact zBu
    ·have k3':(gH==id)=false:=by simpa using k3
     by_cases k4:0<=bU
     ·have k5:decide (bU<=2)=false:=kC od;clear hh k3;exact zBu
     ·have k5:decide (0<=bU)=false:=kC k4;clear hh k3 k4;exact zBu
   ·have k2':decide (gH<=(n:Int)-1)=false:=kC k2;clear hh k2;exact zBu
 |·by_cases k2:gH<(n:Int)
   ·by_cases k3:gH=id
    ·subst k3;clear hh;exact zCg
    ·have k3':(gH==id)=false:=by simpa using k3
     have k4:(bU==0)=false:=ol;have k5:(bU==1)=false:=ol;have k6:(bU==2)=false:=ol;clear hh k3;go_enter func173,ntmps173;go_wp2;exact bodyPost_end (v:=tU #[]) ec rfl ⟨rfl,rfl⟩
   ·have k2':decide (gH<(n:Int))=false:=kC k2;clear hh k2;exact zCg
 ·have k1':decide (0<=gH)=false:=kC k1;clear hh k1
  first|have _:=bGa;exact zBu|exact zCg):p:=h
theorem zLv(h:p:=by
 have c10:=h.c10s (by rw[dI];exact fun e=>by cases e);obtain⟨a,cap,d10,d11,fE,hl,eE⟩:=(h.r.clu fa cs c rd T dI).1.aDs
 first|have _:=aY9;have hC:=zI A.C fa a cap cs w d10 d11 fE hl eE;have HT:Hid (∀u,bW w u->cB u.heap.size u):=fun u hu=>h.aBi hD (aS.of_below hu);have HE:Hid (∀w',bW w w'->gU base S M O st N .kY n tx w (rT (tU #[sT (dG (dA (dW fa cs))),iI 0])) w'):=fun w' q=>lE h q (r:=.ok (dG (dA (dW fa cs)))) ⟨fa,cs,c,rd,T,dI,rfl,rfl⟩ rfl|have hT:=aJg cs hl (fun x hx=>by have:=eE x hx;exact⟨od,od⟩) a cap w fE (h.aBi hD (aS.of_below (kX _ w)));have HE:Hid (∀w',bW w w'->gU base S M O st N .jV n tx w (rT (tU #[sT (yX cs),iI 0])) w'):=fun w' q=>lE h q (r:=.ok (yX cs)) ⟨fa,cs,c,rd,T,dI,rfl,rfl⟩ rfl
 clear h hD dI fE eE
 first|have _:=aY9;generalize dA (dW fa cs)=x at *|skip
 go_enter func15,ntmps15;go_wp2_with fail
 first|have _:=aY9;refine hC.mono ?_|refine hT.mono ?_
 rintro e w1 ⟨rfl,hb⟩
 first|have _:=aY9;have hT:=pI x hsp w1 (HT.out w1 hb);clear hC;go_wp2_with fail;refine hT.mono ?_;rintro e w2 ⟨rfl,dQ⟩;go_wp2;go_ret2;exact HE.out w2 (hb.trans (dQ.mono hb.size))|go_wp2;go_ret2;exact HE.out w1 hb):p:=h
theorem zLw(h:p:=by
 have hi:=yK C m.la p.nl m.rJ k w h.base.c14
 first
 |have _:=bGb;rw[kD od]at hi;obtain⟨OS,hS,⟨hS1,hS2,hS3⟩,qD⟩:=h.sdr hk;have hp:=bDv hS d od;have HBK:Hid (∀(w':World) (OS':List Nat),Sdr w' OS' (m.S k) (p.lb k) (p.lq k) (oY (putK ((s.aN k).all.length-(s.aN k).aP) (p.lq k) d) (s.aN k).all d) (s.aN k).aP (s.aN k).last (s.aN k).now->aS OS OS' w w'->∃O',aS O O' w w'/\Cl w' O' C p fa cs (s.put p k d) rd (B+1) m):=fun w' OS' q1 q2=>by
   refine qD w' OS' (B+1) ⟨_,_,_,_⟩ q1 q2 ⟨?_,hS2,?_⟩ od
   ·exact zD4
   ·exact zBv
  have HK:Hid (s.putK p k d=putK ((s.aN k).all.length-(s.aN k).aP) (p.lq k) d):=rfl;rw[HK.out];generalize putK ((s.aN k).all.length-(s.aN k).aP) (p.lq k) d=K at *;obtain⟨la1,la2⟩:=h.base.la od;obtain⟨l0,l1,l2⟩:=h.base.lk k hk;have c14:=h.base.c14;rw[la1]at c14;have hll:=h.base.lx _ la2;have sG:=h.base.lc;have kk:(k:Int)<(p.nl:Int):=od;generalize fI K=EV at *;clear qD hS hS1 hS2 hS3 h la1 la2 HK
 |rw[kC hk]at hi;clear h hk
 go_enter func71,ntmps71;go_wp2_with fail;refine hi.mono ?_;rintro e w1 ⟨rfl,hw⟩;replace hw:=hw.symm;subst hw;clear hi
 first|have _:=bGb;go_wp2_with fail;refine hp.mono ?_;rintro e w1 ⟨rfl,OS',q1,q2⟩;have HD:=HBK.out w1 OS' q1 q2;clear HBK q1 q2 hp c14 l0 l1 l2;go_wp2;go_ret;exact⟨rfl,HD⟩|go_wp2;go_ret;exact zB1):p:=h
theorem zLz(h:p:=by
 have hi:=rV C p.nodes j w h.base.c0;rw[kC hj]at hi;clear h hj
 first|have _:=bGc;go_enter func78,ntmps78|go_enter func73,ntmps73
 go_wp2_with fail;refine hi.mono ?_;rintro e w1 ⟨rfl,hw⟩;replace hw:=hw.symm;subst hw;clear hi
 first|have _:=bGc;go_wp2;exact bodyPost_ret (v:=tU #[iI 0,.bool false,fI 2]) (by simp[results,results78,go_sem,fI]) rfl ⟨rfl,kX _ _⟩|exact zIm):p:=h
theorem zL0(h:p:=by
 go_enter func216,ntmps216;go_wp2_with fail;refine hIw.mono ?_;rintro e w1 ⟨rfl,q⟩;replace q:=q.symm;subst q;clear hIw hV;go_wp2_with fail;go_region
 first|have _:=bKc;go_wp2_with fail;go_region;go_wp2;go_ret;exact⟨rfl,_,HF.out.keep ⟨kF _,fun _ _=>rfl⟩,HT.out.trans (aS.drawn _ _ 2)⟩|go_wp2;go_ret;exact⟨rfl,_,HF.out.keep ⟨kF _,fun _ _=>rfl⟩,HT.out.trans (aS.drawn _ _ 1)⟩):p:=h
theorem zL7(h:p:=by
 clear hk hc;generalize cs.getD i 0=CI at *;go_wp2_with fail;refine hca.mono ?_;rintro ev w2 ⟨rfl,qP⟩;replace qP:=qP.symm;subst qP;clear hca
 first|have _:=bKf;go_wp2_with fail;refine(rY 2 _).mono ?_;rintro ev w3 ⟨rfl,jN⟩;have x0:=aO r0 jN;have x1:=aO r1 jN;have f0:=(jN.frozen (p:=(aA RB 0)) lR).trans q0;have f1:=(jN.frozen (p:=(aA RB 1)) lR).trans q1;have HT:Hid (aU RB RB wr ((w3.setCell (aA RB 0) (iI 2)).setCell (aA RB 1) (iI (-1)))):=((aU.trans (⟨jN.os,jN.tape,jN.output,jN.size,fun c hc _ _=>jN.block c hc⟩:aU RB RB wr w3) (aU.refl _ _ _)).set (p:=(aA RB 0)) (.inl rfl) _).set (p:=(aA RB 1)) (.inl rfl) _;have HC:Hid (((w3.setCell (aA RB 0) (iI 2)).setCell (aA RB 1) (iI (-1))).cell? (aA RB 0)=some (iI 2)/\((w3.setCell (aA RB 0) (iI 2)).setCell (aA RB 1) (iI (-1))).cell? (aA RB 1)=some (iI (-1))):=⟨(aB (.inr oe)).trans (aY x0),aY ((aB (.inr oe)).trans x1)⟩;go_wp2;exact HRT.out _ _ HNO.out HC.out HT.out rfl (Rest.of rfl)|(go_wp2;exact⟨⟨i+1,od,ow,by first|trivial|rfl,by first|trivial|rfl,HIN.out⟩,ot⟩;skip)):p:=h
theorem zMb(h:p:=by
 have HR:Hid (cV f s n d=true):=h;clear h;have hn:decide (l<=1099511627776)=false:=kC od;have wC:-1099511627776<=l:=od
 first|have _:=bKg;go_enter func61,ntmps61;exact zPj|exact zHk):p:=h
theorem zMf(h:p:=by
 replace r0:=aO r0 bT;replace r1:=aO r1 bT;replace r2:=aO r2 bT;replace r3:=aO r3 bT
 first|have _:=bGl;clear tN hs;have Y0:w.heap.size<wr.heap.size:=lt_of_cell y0|skip
 have hbr:b<wr.heap.size:=lt_of_cell r0
 first
 |have _:=bGl;go_wp2_with fail;refine(HL.out k _).mono ?_;rintro ev w2 ⟨rfl,dQ⟩;have C0:bW V w2:=oE bT dQ;clear y0 r0 r1 r2 r3;obtain⟨le,hle⟩:∃le,dC lf lt lb lq hit nodes pw k=le:=⟨_,rfl⟩;rw[hle];have HLE:Hid (dC lf lt lb lq hit nodes pw k=le):=hle;clear hle;go_wp2_with fail;by_cases hz:le=0
  ·subst hz;refine(aX1 _ _).mono ?_;rintro ev w3 ⟨rfl,jN⟩;have hbu:=jS C0 jN;go_wp2;go_roundw;case rel=>exact⟨k+1,od,ow,pW h0.out HLE.out,hbu⟩
   case measure=>simp[intOf];omega
  ·have HZ:Hid (le≠0):=hz;clear hz;refine(I3 le (1000+k) HZ.out _).mono ?_;rintro ev w3 ⟨b3,rfl,q0,q1,jN⟩;go_wp2;go_ret;obtain⟨rfl,rfl⟩:=HF.out.is hlt h0.out HLE.out HZ.out;exact⟨_,rfl,.inr ⟨b3,rfl,HZ.out,q0,q1⟩,hV.trans ((jS C0 jN).mono hV.size)⟩
 |clear dI;go_wp2_with fail;refine(rP w1.heap.size _ _ [lf k,lt k,lb k,lq k] _ _ (wr.alloc (.cells #[iI (lf k),iI (lt k),iI (lb k),iI (lq k)] 96)) (wr.heap.size+1) oh rfl (fF ho.out ((kX _ _).alloc (kF _) _)) ol (ML.out k hlt) (kG (iY _) Jc) oh).mono ?_;rintro ev w3 ⟨v3,rfl,ho3,uQ,hz3⟩;have yN:bW w1 w3:=(bT.alloc bT.size _).trans uQ;have ho4:Hid (w3.ownsRow w1.heap.size 5 1 v3 (bytesOf ([nodes,aF,aJ,aC,aH,round,(ns:Int)]++bX nd fr tq ns++[(nl:Int)]++fN lf lt lb lq (k+1))).length ((bytesOf ([nodes,aF,aJ,aC,aH,round,(ns:Int)]++bX nd fr tq ns++[(nl:Int)]++fN lf lt lb lq (k+1))).map (Value.int .u8))):=by show World.ownsRow _ _ _ _ _ _ _;rw[yU,<-List.append_assoc,nW];exact ho3
  clear ho ho3 r0 r1 r2 r3;exact zDt):p:=h
theorem zMi(h:p:=by
 have hf:=(iK h).2.1;have HR:Hid (cV f s n d=true):=h;clear h
 first|have _:=bGn|have W9:=Tryz.mf
 have hn:decide (r<=1099511627776)=false:=kC od;have hle:f<=r:=od
 first|have _:=bGn;go_enter func60,ntmps60;exact zPj|go_enter func82,ntmps82;exact zLy):p:=h
theorem zMj(h:p:=by
 have k2:decide ((30000:Int)<(text.size:Int))=false:=kC od
 first|have _:=bGo;have S0:=aFo text od od w hw.here;have HS:Hid (∀u,Calls prog 5 #[sT text] u fun e w'=>e=rT (sT ⟨#[101,114,114,111,114,32,52,10]⟩)/\w'=u):=fun u=>aC5 text od u;have e4:dS 4++⟨#[10]⟩=(⟨#[101,114,114,111,114,32,52,10]⟩:ByteArray):=og;rw[e4]at S0|have k3:(text.size:Int)<=20000:=od
 clear hw hF;go_enter func3,ntmps3;go_wp2_with fail;refine S0.mono ?_
 first|have _:=bGo;rintro e u1 ⟨rfl,dB⟩;go_wp2_with fail;refine(HS.out u1).mono ?_;rintro e u2 ⟨rfl,rfl⟩;go_wp2;go_ret;exact⟨rfl,dB⟩|rintro e u1 ⟨os,st,hr,_,rfl,dB⟩;have HR:Hid (gA gD.start (iF text) os st):=hr;have HB:Hid (bW w u1):=dB;clear S0 hr dB;go_wp2_with fail;refine(HS.out u1 HB.out).mono ?_;rintro e u2 ⟨os2,st2,pE,rfl,dQ⟩;obtain⟨_,he⟩:=HR.out.one pE;subst he;have uN:Hid (bW w u2):=HB.out.trans (dQ.mono HB.out.size);clear pE dQ;generalize(⟨(jO os).toArray⟩:ByteArray)=o;go_wp2;go_ret;exact⟨rfl,uN.out⟩):p:=h
theorem zMk(h:p:=by
 obtain rfl:=dQ;clear mP;conv=>arg 2;arg 1;whnf
 have wW:Hid _:=cN;have HP:Hid _:=hp
 first
 |have _:=bGp;have HSZ:Hid (∀x∈ws,x.size<=20000):=hsz;have HN:Hid (ws.length=m):=hn;have HSA:Hid _:=hsa;have HM:Hid (gT x0 m<=m):=by show gT x0 m<=m;unfold gT;split<;>omega
  have HD:Hid (∀u,bW w u->cB u.heap.size u):=fun u hu=>hD.at hu hu.size
 |have HN:Hid (ps.length=n):=hn
 obtain⟨fL,rfl⟩:=lit L 154 tC;replace s9:=aX s9
 first
 |have _:=bGp;replace s15:=aX s15;replace s16:=aX s16;replace aMk:=aX aMk;replace bDg:=aX bDg;replace bDh:=aX bDh;simp only[List.range,List.range.loop,List.map_cons,List.map_nil,s9,s15,s16,aMk,bDg,bDh];obtain⟨i0,hi,lO,mX,jX⟩:=info_parts Tryz.uZ;clear cN hp hn hsz hsa hD;go_loopw[103,15,16] (fun a o V wr=>∃k:Nat,k<=gT x0 m/\a=iI k/\o=.bool (ok&&lH (ws.take k))/\Hid (wr.ownsRow w.heap.size 3 1 V k (C2 (ws.take k)))/\Hid (bW w wr)) (fun a _ _ _=>m-(intOf a).toNat);case atStart=>exact⟨0,kH _,rfl,by simp[lH],World.ownsRow_nil _ _ _ _,kX _ _⟩
  case round=>
   obtain⟨k,hk,rfl,rfl,bK,bT⟩:=hrel;have hsz:=bT.out.size;have z0:=bc bT.out hpl y0;by_cases hlt:k<m
   ·have kk:(k:Int)<(m:Int):=by omega
    have bK0:=HSA.out od;subst bK0;have yk:=bc bT.out hpl (HP.out k hlt);have yk2:wr.cell? (aA g (1+k))=some (sT (ws.getD k ByteArray.empty)):=by rw[Nat.add_comm];exact yk
    clear yk;by_cases hb:x0=⟨#[112,117,116]⟩/\k=1
    ·obtain⟨rfl,rfl⟩:=hb;have hM1:gT ⟨#[112,117,116]⟩ m=1:=by unfold gT;rw[kJ rfl];omega
     have HX:Hid _:=wW.out;rw[hM1]at HX;exact zGg
    ·have hkM:k+1<=gT x0 m:=by
      unfold gT at hk⊢;by_cases q:x0=⟨#[112,117,116]⟩
      ·rw[kJ q]at hk⊢;have:k≠1:=fun e=>hb ⟨q,e⟩;omega
      ·rw[kI q];omega
     have aAb:¬x0.toList=[112,117,116]\/x0.toList=[112,117,116]/\((k:Int)==1)=false:=by
      by_cases q:x0=⟨#[112,117,116]⟩
      ·refine .inr ⟨by rw[q,ByteArray.toList_eq],?_⟩;have:k≠1:=fun e=>hb ⟨q,e⟩;simp;omega
      ·refine .inl fun e=>q ?_;rw[ByteArray.toList_eq]at e;exact aCb e
     have hs1:=aLj (ws:=ws) (k:=k) E5;have hs2:=aHt (ws:=ws) (k:=k) E5;have hxs:(ws.getD k ByteArray.empty).size<=20000:=HSZ.out _ js;generalize ws.getD k ByteArray.empty=x at *;have hNu:=aIw x hxs wr (HD.out wr bT.out);have HS1:Hid _:=hs1;have HS2:Hid _:=hs2;generalize lH (ws.take k)=okk at *;generalize C2 (ws.take k)=nl at *;generalize(qA x).getD 0=v at *;generalize(qA x).isSome=bB8 at *;clear hs1 hs2 hb hxs;rcases aAb with e1|⟨e1,e2⟩;all_goals(
      go_wp2_with fail
      refine hNu.mono ?_
      rintro ev w2 ⟨rfl,dQ⟩
      have uR:=bT.out.trans (dQ.mono bT.out.size)
      have lG:=yZ bK.out dQ
      have qP:=uR.size
      go_wp2_with(at_builtin;refine wpList_append_own _ rfl _ _ 55 rfl w.heap.size 3 i0 (iI 0) 1 8 underlying55 hi lO mX jX rfl oe _ _ _ rfl (lG.alloc _) (aA w2.heap.size 0) 1 1 [iI v] rfl rfl (cell_one_new _ _ _) ja oo od ol ?_;intro v' w3 cD bP vP)
      all_goals(
       have jN:bW w w3:=(uR.alloc qP _).grown bP ol (fun g hg=>(lG.lt g hg).1)
       exact⟨⟨k+1,od,ow,by rw[HS2.out];rename_i q;cases ok<;>cases okk<;>simp at q⊢,by rw[HS1.out];exact cD,jN⟩,ot⟩))
   ·have e:k=m:=by have:=HM.out;omega
    have e2:gT x0 m=m:=by have:=HM.out;omega
    subst e;have HX:Hid _:=wW.out;rw[e2]at HX;exact zGg
 |replace s55:=aX s55;replace s56:=aX s56;replace s57:=aX s57;simp only[List.range,List.range.loop,List.map_cons,List.map_nil,s9,s55,s56,s57];obtain⟨i0,hi,lO,mX,jX⟩:=info_parts Tryz.aAe;clear cN hp hn;go_loopw[57,9] (fun a V wr=>∃k:Nat,k<=n/\a=iI k/\Hid (wr.ownsRow w.heap.size 9 1 V (sN (ps.take k)).length (sN (ps.take k)))/\Hid (bW w wr)) (fun a _ _=>n-(intOf a).toNat);case atStart=>exact⟨0,kH _,rfl,World.ownsRow_nil _ _ _ _,kX _ _⟩
  case round=>
   obtain⟨k,hk,rfl,bK,bT⟩:=hrel;by_cases hlt:k<n
   ·have kk:(k:Int)<(n:Int):=by omega
    have y0:=bc bT.out hpl (HP.out k hlt);have hsu:=aK3 (ps:=ps) (k:=k) E5;have hsz:=bT.out.size;have hwl:(sN (ps.take k)).length<=20001:=by
     have h1:=List.length_filter_le (fun x=>decide (x≠[])) (ps.take k);have h2:(ps.take k).length<=k:=by rw[List.length_take];omega
     unfold sN;rw[List.length_map];omega
    by_cases hx:ps.getD k []=[]
    ·rw[kJ hx,List.append_nil]at hsu;rw[hx]at y0;have y1:wr.cell? (aA pb k)=some (sT ⟨#[]⟩):=y0;have HSU:Hid _:=hsu;clear hsu y0 hx;go_wp2;exact⟨⟨k+1,od,ow,by rw[HSU.out];exact bK,bT⟩,ot⟩
    ·rw[kI hx]at hsu;have dM:=aW9 hx;generalize nH (ps.getD k [])=x at *;have HSU:Hid _:=hsu;generalize sN (ps.take k)=wl at *;have lG:=bK.out;clear hsu hx;go_wp2_with(at_builtin;refine wpList_append_own _ rfl _ _ 43 rfl w.heap.size 9 i0 (sT ⟨#[]⟩) 1 16 underlying43 hi lO mX jX rfl oe _ _ _ rfl (lG.alloc _) (aA wr.heap.size 0) 1 1 [sT x] rfl rfl (cell_one_new _ _ _) ja oo od ol ?_;intro v' w3 cD bP vP);have jN:bW w w3:=(bT.out.alloc hsz _).grown bP ol (fun g hg=>(lG.lt g hg).1);exact⟨⟨k+1,od,ow,by rw[HSU.out,List.length_append];exact cD,jN⟩,ot⟩
   ·obtain rfl:k=n:=by omega
    go_wp2;rw[List.take_of_length_le (Nat.le_of_eq HN.out)]at bK;exact wW.out _ _ _ bK.out bT.out rfl (Rest.of rfl) rfl):p:=h
theorem zMl(h:p:=by
 clear eE;go_wp2_with fail;refine aA5.mono ?_;rintro ev w6 ⟨rfl,hw6⟩;replace hw6:=hw6.symm;subst hw6;clear aA5;go_wp2
 first|have _:=bKj;exact⟨⟨i+1,od,ow,rfl,bAs.out,HC.out⟩,ot⟩|exact HRT.out _ _ HC.out bAs.out.t rfl (Rest.of rfl) rfl):p:=h
theorem zMs(h:p:=by
 obtain⟨c0,c1,c2,c3,c4,c5,z,row,zr,ne,lp,lq⟩:=h
 first|have _:=bGq;have HR:Hid (∀j,j<n->w.cell? (aA Q j)=some (.bool (t j))):=row;have HS:Hid (∀j,j<n->(bits BinOp.and .i64 m (2^j) !=0)=s j):=hs;clear z zr row hs|clear z zr row
 have p0:=pow_pos n;have p1:(2:Int)^n<=2^16:=xH hn;have p2:(2:Int)^16=65536:=oe
 first
 |have _:=bGq;have k0:(k:Int)<=(n:Int)-1:=od;have k3:decide (m<0)=false:=kC od;have k4:decide (2^n<=m)=false:=kC od;obtain⟨J,hJ⟩:∃J:Int,(if F4 n k s t=true then 1 else 2)=J:=⟨_,rfl⟩;have HJ:Hid ((if F4 n k s t=true then 1 else 2)=J):=hJ;rw[hJ];clear hJ;go_enter func103,ntmps103;go_wp2;clear p0 p1 p2 k3 k4;go_loopw[36] (fun v wr=>∃q:Nat,q<=n/\v=iI q/\Hid (∀j,j<q->(j=k->s j=true)/\(j≠k->s j=t j))/\wr=w) (fun v _=>n-(intOf v).toNat);case atStart=>exact⟨0,kH _,rfl,fun j hj=>absurd hj (kT _),rfl⟩
  case round=>
   obtain⟨q,hq,rfl,h0,Y0⟩:=hrel;subst Y0;by_cases hlt:q<n
   ·have r0:=HR.out q hlt;have bq:=HS.out q hlt;have kk:(q:Int)<(n:Int):=od;have p0:=pow_pos q;have p1:(2:Int)^q<=2^16:=xH od;have p2:(2:Int)^16=65536:=oe;by_cases e:q=k
    ·subst e;cases hv:s q
     ·have HNO:Hid (J=2):=by show _=_;rw[<-HJ.out,kI (fun y=>by have:=(qI.1 y).1;rw[hv]at this;cases this)]
      rw[hv]at bq;go_wp2;go_ret;exact⟨Ew,rfl⟩
     ·have HOK:Hid ((q=q->s q=true)/\(q≠q->s q=t q)):=⟨fun _=>hv,fun y=>absurd rfl y⟩;rw[hv]at bq;exact zB8
    ·have e1:((q:Int)==(k:Int))=false:=by simp;omega
     have e2:((q:Int) !=(k:Int))=true:=ol;by_cases hv:s q=t q
     ·have HOK:Hid ((q=k->s q=true)/\(q≠k->s q=t q)):=⟨fun y=>absurd y e,fun _=>hv⟩;rw[hv]at bq;clear e;cases ht:t q
      ·rw[ht]at r0 bq;exact zB8
      ·rw[ht]at r0 bq;exact zB8
     ·have HNO:Hid (J=2):=by show _=_;rw[<-HJ.out,kI (fun y=>hv ((qI.1 y).2 q hlt e))]
      clear e;cases ht:t q
      ·have hs1:s q=true:=by
        cases y:s q
        ·rw[y,ht]at hv;exact absurd rfl hv
        ·rfl
       rw[ht]at r0;rw[hs1]at bq;clear hv;go_wp2;go_ret;exact⟨Ew,rfl⟩
      ·have hs1:s q=false:=by
        cases y:s q
        ·rfl
        ·rw[y,ht]at hv;exact absurd rfl hv
       rw[ht]at r0;rw[hs1]at bq;clear hv;go_wp2;go_ret;exact⟨Ew,rfl⟩
   ·obtain rfl:q=n:=by omega
    have HY:Hid (J=1):=by show _=_;rw[<-HJ.out,kJ (qI.2 ⟨(h0.out k hk).1 rfl,fun j hj dM=>(h0.out j hj).2 dM⟩)]
    go_wp2;go_ret;exact⟨by rw[HY.out];rfl,rfl⟩
 |by_cases k1:0<=gH
  ·by_cases k2:gH<=(n:Int)-1
   ·by_cases k3:m<0
    ·clear ho;exact zHj
    ·have k3':decide (m<0)=false:=kC k3;have k4:2^n<=m:=od;clear k3;clear ho;exact zHj
   ·have k2':decide (gH<=(n:Int)-1)=false:=kC k2;clear ho k2;exact zHj
  ·have k1':decide (0<=gH)=false:=kC k1;clear ho k1;exact zHj):p:=h
theorem zMx(h:p:=by
 go_wp2_with fail;refine yO.mono ?_;rintro e w' ⟨rfl,hw⟩;rw[hw];clear hw
 first
 |have _:=bKr;go_wp2;go_roundw;case rel=>exact⟨J+1,od,ow,HN⟩
 |go_wp2_with fail;refine bFs.mono ?_;rintro e v1 ⟨OQ,PQ,rfl,hQ,uY,hlq⟩;have bFu:=bD3 v1;clear bFs yO y1;go_wp2_with fail;refine bFu.mono ?_;rintro e v2 ⟨OR,PR,rfl,hR,xR,hlr⟩;obtain⟨D,R,Q,N,hN,U9⟩:=HI.out;obtain⟨v3,hv3⟩:∃v3,v2.alloc (.cells #[pP PR,pP PQ] 214)=v3:=⟨_,rfl⟩;have xE:=hN.step N2 U9.size U9 uY hQ hlq xR hR hlr hv3 rfl;have hE:=hN.fam.lt _ _ hN.eX;have hk3:bW wr v3:=by rw[<-hv3];exact(uY.trans (xR.mono uY.size)).alloc (by have:=uY.size;have:=xR.size;omega) _
  have g:=bc hk3 hE (hN.en J hlt);have gz:=(hk3.frozen (p:=(aA E J)) hE).trans (hN.zE J);have hE3:E<v3.heap.size:=kB hE hk3.size;have HST:Hid (∃D R Q N,eF V.heap.size (v3.setCell (aA E J) (pP v2.heap.size)) N kk n (J+1) tq bag queue S E D R Q/\bW V (v3.setCell (aA E J) (pP v2.heap.size))):=by obtain⟨⟨N',h1⟩,h2⟩:=xE;exact⟨_,_,_,N',h1,h2⟩
  clear xE hk3 hE hN U9 uY hQ hlq xR hR hlr bFu HI;go_wp2;go_roundw;case rel=>exact⟨J+1,od,ow,HST⟩
 case measure=>simp[intOf];omega):p:=h
theorem zM2(h:p:=by
 go_wp2_with(at_builtin;refine wpList_append_own_at _ rfl _ _ 43 rfl B 9 i0 (.string ByteArray.empty) 1 16 underlying43 hi lO mX jX rfl oe (.slice a n cap) n _ rfl (hOq.alloc _) (aA w.heap.size 0) 1 1 [.string d] rfl rfl (cell_one_new _ _ _) Oc oo od ol ?_;apply Hid.out);unfold Hid;intro v' w3 cD bP _ jW;have fE:∀g,(Value.slice a n cap).ownBlock=some g->B<=g/\g<w.heap.size:=fun g hg=>aDb.out.lt g hg;have hD:∀C,Below C w (w.drewN nq):=fun _=>⟨rfl,rfl,rfl,kF _,fun _ _=>rfl⟩;have uQ:Below B w w3:=(((hD B).alloc lb _).grown bP ol (fun g hg=>(fE g hg).1));have HT3:Hid (aU P ((Value.slice a n cap).ownBlock.getD P) w w3):=by exact zBj
 have HAt:Hid (v'.ownBlock=(Value.slice a n cap).ownBlock\/∃g,w.heap.size<=g/\v'.ownBlock=some g):=by exact zEr
 obtain⟨a3,U7,rfl⟩:=eY cD
 first|(have _:=bCb;have HO3:Hid (w3.ownsRow B 9 1 (.slice a3 (n+1) U7) (n+1) ((all.drop aP).map Value.string++[.string d])):=by rw[List.map_drop];exact cD)|have HO3:Hid (w3.ownsRow B 9 1 (.slice a3 (n+1) U7) (n+1) (all.map Value.string++[.string d])):=cD
 have cc:∀i,w3.cell? (aA P i)=w.cell? (aA P i):=fun i=>uQ.cell (p:=(aA P i)) lp;have HZ3:Hid (∀i,w3.frozen? (aA P i)=false):=fun i=>(uQ.frozen (p:=(aA P i)) lp).trans (HZ.out i)
 first|have _:=bCb;have y2:=(cc 2).trans c2;have zz2:=HZ3.out 2|have _:=m10;have y2:=(cc 2).trans c2;have zz2:=HZ3.out 2|have y1:=(cc 1).trans c1;have zz1:=HZ3.out 1
 have hs3:=uQ.size;have hl3:P<w3.heap.size:=od
 first
 |have _:=bCb;have fin:gM (w3.setCell (aA P 2) (.slice a3 (n+1) U7)) B P bag queue (all++[d]) (.slice a3 (n+1) U7) aP last now:=
   ⟨(aB (.inr oe)).trans ((cc 0).trans c0),(aB (.inr oe)).trans ((cc 1).trans c1),aY y2,(aB (.inr oe)).trans ((cc 3).trans c3),(aB (.inr oe)).trans ((cc 4).trans c4),(aB (.inr oe)).trans ((cc 5).trans c5),fun i=>bI.trans (HZ3.out i),by
    have e0:=HN.out
    have e1:(all++[d]).length-aP=n+1:=ol
    have e2:((all++[d]).drop aP).map Value.string=(all.drop aP).map Value.string++[.string d]:=by
     rw[List.drop_append_of_le_length e0.2,List.map_append];rfl
    rw[e1,e2]
    exact fY HO3.out lp,lp,ol,by have:=HN.out;simp;omega⟩
  exact zC4
 |have _:=m10;have fin:dF (w3.setCell (aA P 2) (.slice a3 (n+1) U7)) B P bag queue (all++[d]) (.slice a3 (n+1) U7) aP last now:=
   ⟨(aB (.inr oe)).trans ((cc 0).trans c0),(aB (.inr oe)).trans ((cc 1).trans c1),aY y2,(aB (.inr oe)).trans ((cc 3).trans c3),(aB (.inr oe)).trans ((cc 4).trans c4),(aB (.inr oe)).trans ((cc 5).trans c5),fun i=>bI.trans (HZ3.out i),by
    have e1:(all++[d]).length=n+1:=by simp[HN.out]
    have e2:(all++[d]).map Value.string=all.map Value.string++[.string d]:=oh
    rw[e1,e2]
    exact fY HO3.out lp,lp,ol,by have:=HN.out;simp;omega⟩
  exact zC4
 |have fin:pK (w3.setCell (aA P 1) (.slice a3 (n+1) U7)) B P most (all++[d]) lost (.slice a3 (n+1) U7):=
   ⟨(aB (.inr oe)).trans ((cc 0).trans c0),aY y1,(aB (.inr oe)).trans ((cc 2).trans c2),fun i=>bI.trans (HZ3.out i),by
    have e0:=HN.out
    have e1:(all++[d]).length=n+1:=ol
    rw[e1,List.map_append]
    exact fY HO3.out lp,lp,ol⟩
  have aG6:Hid _:=fin;have HTT:Hid _:=HT3.out.set (p:=(aA P 1)) (.inl rfl) (.slice a3 (n+1) U7);clear fin cc cD bP jW uQ fE hOq c0 c1 c2;go_wp2;go_ret;exact⟨rfl,_,aG6.out,HTT.out,HAt.out⟩):p:=h
theorem zM4(h:p:=by
 obtain⟨b,off,rfl,gX,hc⟩:=hr.1 od
 first|have _:=aEg;have dM:b≠S:=hr.neH h rfl od|have dM:b≠S:=hr.ne h rfl od
 obtain⟨_,bcs,bfr,C0⟩:=hr.2 b off rfl od;rw[hn]at hc⊢
 first
 |have _:=aEg
  first|have _:=m8;obtain⟨i0,hi0,lO,mX,jX⟩:=info_parts Tryz.aKv;skip|obtain⟨i0,hi0,lO,mX,jX⟩:=info_parts Tryz.aKu;skip
  have c10:=h.c10s dI;have n0:w.cell? (aA b off)=some (iI (n.getD 0 0)):=hc 0 oe;have n1:w.cell? (aA b (off+1))=some (iI (n.getD 1 0)):=hc 1 oe;have n2:w.cell? (aA b (off+2))=some (iI (n.getD 2 0)):=hc 2 oe;have hs:=h
  first|have _:=m8;have c0:=aM hs.blk (i:=12) rfl;have z0:=bC hs.blk (i:=12)|have c0:=aM hs.blk (i:=11) rfl;have z0:=bC hs.blk (i:=11)
 |first|have _:=m6;obtain⟨i0,hi0,lO,mX,jX⟩:=info_parts Tryz.aPq;skip|obtain⟨i0,hi0,lO,mX,jX⟩:=info_parts Tryz.aPp;skip
  generalize hV:w.alloc (.cells #[sV (some (aA b off)) 3 cap,sT tx] 83)=V;have hB:bW w V:=hV▸(kX _ w).alloc (kF _) _;have x0:V.cell? (aA w.heap.size 0)=some (sV (some (aA b off)) 3 cap):=ou;have n0:V.cell? (aA b off)=some (iI (n.getD 0 0)):=bc hB gX (hc 0 oe);have n1:V.cell? (aA b (off+1))=some (iI (n.getD 1 0)):=bc hB gX (hc 1 oe);have n2:V.cell? (aA b (off+2))=some (iI (n.getD 2 0)):=bc hB gX (hc 2 oe);have hs:=h.below hB
  first|have _:=m6;have c0:=aM hs.blk (i:=12) rfl;have z0:=bC hs.blk (i:=12)|have c0:=aM hs.blk (i:=11) rfl;have z0:=bC hs.blk (i:=11)
 have B9:=hs.r.hi S hs.r.s
 first
 |have _:=aEg
  first|have _:=m8;have jB:=hs.r.nR|have jB:=hs.r.nL
 |have zW:b<V.heap.size:=kB gX hB.size;have bBo:V.heap[b]?=some (.cells bcs 3 bfr):=(hB.block b gX).trans C0
  first|have _:=m6;have jB:=hs.r.nR|have jB:=hs.r.nL
 have qY:Hid (b≠S):=dM
 first
 |have _:=aEg;have HLO:Hid (base<=w.heap.size):=kG (hs.r.lo S hs.r.s) (kV B9)
  first
  |have _:=m8;have tW:Hid (∀w3 g c,(w.alloc (.cells #[iI (n.getD 0 0),iI (n.getD 1 0),iI (n.getD 2 0)] 116)).grownBy w3 A.vR.ownBlock->w3.ownsRow base 116 3 (sL g (st.next.nR+1) c) (st.next.nR+1) (bN st.next.rn st.next.ro st.next.ri st.next.nR++[iI (n.getD 0 0),iI (n.getD 1 0),iI (n.getD 2 0)])->(A.vR.ownBlock=some g\/g=w.heap.size+1)->g<w3.heap.size->gU base S M O st N .pY n tx w (rT (tU #[sT ⟨#[114,101,97,100]⟩,iI 0])) (w3.setCell (aA S 12) (sL g (st.next.nR+1) c))):=fun w3 g c hg bK jW hlt=>by obtain⟨e1,e2⟩:=aPk hs (kX _ w) n _ g c hg bK jW hlt;exact⟨_,.ok Kd.pY.name,_,_,_,⟨rfl,rfl⟩,rfl,e1,e2⟩
   have hvb:A.vR.ownBlock≠some b:=fun e=>by obtain⟨_,_,q⟩:=fD hs.r.oR e;exact sJ q C0 oe rfl
   have hvS:A.vR.ownBlock≠some S:=fun e=>gE hs.r.oR hs.blk oe e rfl;have H3:Hid ((w.alloc (.cells #[iI (n.getD 0 0),iI (n.getD 1 0),iI (n.getD 2 0)] 116)).ownsRow base 116 3 A.vR st.next.nR (bN st.next.rn st.next.ro st.next.ri st.next.nR)):=hs.r.oR.alloc _;have wX:Hid (∀(j:Nat) (u:Value),[iI (n.getD 0 0),iI (n.getD 1 0),iI (n.getD 2 0)][j]?=some u->(w.alloc (.cells #[iI (n.getD 0 0),iI (n.getD 1 0),iI (n.getD 2 0)] 116)).drew.cell? (((aA w.heap.size 0):Addr).add j)=some u):=w8 w _ _ _ _;have lT:Hid (∀w3,(w.alloc (.cells #[iI (n.getD 0 0),iI (n.getD 1 0),iI (n.getD 2 0)] 116)).grownBy w3 A.vR.ownBlock->w3.cell? (aA b off)=some (iI (n.getD 0 0))/\w3.cell? (aA b (off+1))=some (iI (n.getD 1 0))/\w3.cell? (aA b (off+2))=some (iI (n.getD 2 0))/\w3.cell? (aA S 12)=some A.vR/\w3.frozen? (aA S 12)=false):=fun w3 hg=>by exact zP9
  |have tW:Hid (∀w3 g c,(w.alloc (.cells #[iI (n.getD 0 0),iI (n.getD 1 0),iI (n.getD 2 0)] 114)).grownBy w3 A.vO.ownBlock->w3.ownsRow base 114 3 (sL g (st.next.nL+1) c) (st.next.nL+1) (bN st.next.ls st.next.lc st.next.lt st.next.nL++[iI (n.getD 0 0),iI (n.getD 1 0),iI (n.getD 2 0)])->(A.vO.ownBlock=some g\/g=w.heap.size+1)->g<w3.heap.size->gU base S M O st N .pV n tx w (rT (tU #[sT ⟨#[108,111,115,101]⟩,iI 0])) (w3.setCell (aA S 11) (sL g (st.next.nL+1) c))):=fun w3 g c hg bK jW hlt=>by obtain⟨e1,e2⟩:=aPh hs (kX _ w) n _ g c hg bK jW hlt hi;exact⟨_,.ok Kd.pV.name,_,_,_,⟨rfl,rfl⟩,rfl,e1,e2⟩
   have hvb:A.vO.ownBlock≠some b:=fun e=>by obtain⟨_,_,q⟩:=fD hs.r.oO e;exact sJ q C0 oe rfl
   have hvS:A.vO.ownBlock≠some S:=fun e=>gE hs.r.oO hs.blk oe e rfl;have H3:Hid ((w.alloc (.cells #[iI (n.getD 0 0),iI (n.getD 1 0),iI (n.getD 2 0)] 114)).ownsRow base 114 3 A.vO st.next.nL (bN st.next.ls st.next.lc st.next.lt st.next.nL)):=hs.r.oO.alloc _;have wX:Hid (∀(j:Nat) (u:Value),[iI (n.getD 0 0),iI (n.getD 1 0),iI (n.getD 2 0)][j]?=some u->(w.alloc (.cells #[iI (n.getD 0 0),iI (n.getD 1 0),iI (n.getD 2 0)] 114)).drew.cell? (((aA w.heap.size 0):Addr).add j)=some u):=w8 w _ _ _ _;have lT:Hid (∀w3,(w.alloc (.cells #[iI (n.getD 0 0),iI (n.getD 1 0),iI (n.getD 2 0)] 114)).grownBy w3 A.vO.ownBlock->w3.cell? (aA b off)=some (iI (n.getD 0 0))/\w3.cell? (aA b (off+1))=some (iI (n.getD 1 0))/\w3.cell? (aA b (off+2))=some (iI (n.getD 2 0))/\w3.cell? (aA S 11)=some A.vO/\w3.frozen? (aA S 11)=false):=fun w3 hg=>by exact zPs
  have m0:∀o:Obj,(w.alloc o).cell? (aA b off)=some (iI (n.getD 0 0)):=fun o=>(((kX _ w).alloc (kF _) o).cell (p:=(aA b off)) gX).trans n0;have m1:∀o:Obj,(w.alloc o).cell? (aA b (off+1))=some (iI (n.getD 1 0)):=fun o=>(((kX _ w).alloc (kF _) o).cell (p:=(aA b (off+1))) gX).trans n1;have m2:∀o:Obj,(w.alloc o).cell? (aA b (off+2))=some (iI (n.getD 2 0)):=fun o=>(((kX _ w).alloc (kF _) o).cell (p:=(aA b (off+2))) gX).trans n2
  first|have _:=m8;have mc:∀o:Obj,(w.alloc o).cell? (aA S 12)=some A.vR:=fun o=>(((kX _ w).alloc (kF _) o).cell (p:=(aA S 12)) B9).trans c0;generalize bN st.next.rn st.next.ro st.next.ri st.next.nR=cells at H3 tW|have mc:∀o:Obj,(w.alloc o).cell? (aA S 11)=some A.vO:=fun o=>(((kX _ w).alloc (kF _) o).cell (p:=(aA S 11)) B9).trans c0;generalize bN st.next.ls st.next.lc st.next.lt st.next.nL=cells at H3 tW
 |have HLO:Hid (base<=V.heap.size):=kG (hs.r.lo S hs.r.s) (kV B9)
  first
  |have _:=m6;have tW:Hid (∀w3 g c,(V.alloc (.cells #[iI (n.getD 0 0),iI (n.getD 1 0),iI (n.getD 2 0)] 146)).grownBy w3 A.vR.ownBlock->w3.ownsRow base 146 3 (sL g (st.next.nR+1) c) (st.next.nR+1) (bN st.next.rn st.next.ro st.next.ri st.next.nR++[iI (n.getD 0 0),iI (n.getD 1 0),iI (n.getD 2 0)])->(A.vR.ownBlock=some g\/g=V.heap.size+1)->g<w3.heap.size->cS base S M O st N .pY n tx w (rT (sT Kd.pY.name)) (w3.setCell (aA S 12) (sL g (st.next.nR+1) c))):=fun w3 g c hg bK jW hlt=>by obtain⟨e1,e2⟩:=aUw hs hB n _ g c hg bK jW hlt;exact⟨_,.ok Kd.pY.name,_,_,_,⟨rfl,rfl⟩,rfl,e1,e2⟩
   have hvb:A.vR.ownBlock≠some b:=fun e=>by obtain⟨_,_,q⟩:=fD hs.r.oR e;exact sJ q bBo oe rfl
   have hvS:A.vR.ownBlock≠some S:=fun e=>gE hs.r.oR hs.blk oe e rfl;have H3:Hid ((V.alloc (.cells #[iI (n.getD 0 0),iI (n.getD 1 0),iI (n.getD 2 0)] 146)).ownsRow base 146 3 A.vR st.next.nR (bN st.next.rn st.next.ro st.next.ri st.next.nR)):=hs.r.oR.alloc _;have wX:Hid (∀(j:Nat) (u:Value),[iI (n.getD 0 0),iI (n.getD 1 0),iI (n.getD 2 0)][j]?=some u->(V.alloc (.cells #[iI (n.getD 0 0),iI (n.getD 1 0),iI (n.getD 2 0)] 146)).drew.cell? (((aA V.heap.size 0):Addr).add j)=some u):=w8 V _ _ _ _;have lT:Hid (∀w3,(V.alloc (.cells #[iI (n.getD 0 0),iI (n.getD 1 0),iI (n.getD 2 0)] 146)).grownBy w3 A.vR.ownBlock->w3.cell? (aA b off)=some (iI (n.getD 0 0))/\w3.cell? (aA b (off+1))=some (iI (n.getD 1 0))/\w3.cell? (aA b (off+2))=some (iI (n.getD 2 0))/\w3.cell? (aA S 12)=some A.vR/\w3.frozen? (aA S 12)=false):=fun w3 hg=>by exact zPr
  |have tW:Hid (∀w3 g c,(V.alloc (.cells #[iI (n.getD 0 0),iI (n.getD 1 0),iI (n.getD 2 0)] 145)).grownBy w3 A.vO.ownBlock->w3.ownsRow base 145 3 (sL g (st.next.nL+1) c) (st.next.nL+1) (bN st.next.ls st.next.lc st.next.lt st.next.nL++[iI (n.getD 0 0),iI (n.getD 1 0),iI (n.getD 2 0)])->(A.vO.ownBlock=some g\/g=V.heap.size+1)->g<w3.heap.size->cS base S M O st N .pV n tx w (rT (sT Kd.pV.name)) (w3.setCell (aA S 11) (sL g (st.next.nL+1) c))):=fun w3 g c hg bK jW hlt=>by obtain⟨e1,e2⟩:=aU1 hs hB n _ g c hg bK jW hlt hi;exact⟨_,.ok Kd.pV.name,_,_,_,⟨rfl,rfl⟩,rfl,e1,e2⟩
   have hvb:A.vO.ownBlock≠some b:=fun e=>by obtain⟨_,_,q⟩:=fD hs.r.oO e;exact sJ q bBo oe rfl
   have hvS:A.vO.ownBlock≠some S:=fun e=>gE hs.r.oO hs.blk oe e rfl;have H3:Hid ((V.alloc (.cells #[iI (n.getD 0 0),iI (n.getD 1 0),iI (n.getD 2 0)] 145)).ownsRow base 145 3 A.vO st.next.nL (bN st.next.ls st.next.lc st.next.lt st.next.nL)):=hs.r.oO.alloc _;have wX:Hid (∀(j:Nat) (u:Value),[iI (n.getD 0 0),iI (n.getD 1 0),iI (n.getD 2 0)][j]?=some u->(V.alloc (.cells #[iI (n.getD 0 0),iI (n.getD 1 0),iI (n.getD 2 0)] 145)).drew.cell? (((aA V.heap.size 0):Addr).add j)=some u):=w8 V _ _ _ _;have lT:Hid (∀w3,(V.alloc (.cells #[iI (n.getD 0 0),iI (n.getD 1 0),iI (n.getD 2 0)] 145)).grownBy w3 A.vO.ownBlock->w3.cell? (aA b off)=some (iI (n.getD 0 0))/\w3.cell? (aA b (off+1))=some (iI (n.getD 1 0))/\w3.cell? (aA b (off+2))=some (iI (n.getD 2 0))/\w3.cell? (aA S 11)=some A.vO/\w3.frozen? (aA S 11)=false):=fun w3 hg=>by have bM2:=0;exact zPr
  have m0:∀o:Obj,(V.alloc o).cell? (aA b off)=some (iI (n.getD 0 0)):=fun o=>(((kX _ V).alloc (kF _) o).cell (p:=(aA b off)) zW).trans n0;have m1:∀o:Obj,(V.alloc o).cell? (aA b (off+1))=some (iI (n.getD 1 0)):=fun o=>(((kX _ V).alloc (kF _) o).cell (p:=(aA b (off+1))) zW).trans n1;have m2:∀o:Obj,(V.alloc o).cell? (aA b (off+2))=some (iI (n.getD 2 0)):=fun o=>(((kX _ V).alloc (kF _) o).cell (p:=(aA b (off+2))) zW).trans n2
  first|have _:=m6;have mc:∀o:Obj,(V.alloc o).cell? (aA S 12)=some A.vR:=fun o=>(((kX _ V).alloc (kF _) o).cell (p:=(aA S 12)) B9).trans c0;generalize bN st.next.rn st.next.ro st.next.ri st.next.nR=cells at H3 tW|have mc:∀o:Obj,(V.alloc o).cell? (aA S 11)=some A.vO:=fun o=>(((kX _ V).alloc (kF _) o).cell (p:=(aA S 11)) B9).trans c0;generalize bN st.next.ls st.next.lc st.next.lt st.next.nL=cells at H3 tW
 generalize n.getD 0 0=y0 at *;generalize n.getD 1 0=y1 at *;generalize n.getD 2 0=y2 at *
 first
 |have _:=aEg
  first|have _:=m8;replace c0:w.cell? (aA S 12)=some A.vR:=c0;generalize A.vR=vv at *;generalize st.next.nR=nn at *|replace c0:w.cell? (aA S 11)=some A.vO:=c0;generalize A.vO=vv at *;generalize st.next.nL=nn at *
  clear hs h hr hc C0 hvb hvS hn dI;go_enter func15,ntmps15
 |first|have _:=m6;replace c0:V.cell? (aA S 12)=some A.vR:=c0;generalize A.vR=vv at *;generalize st.next.nR=nn at *|replace c0:V.cell? (aA S 11)=some A.vO:=c0;generalize A.vO=vv at *;generalize st.next.nL=nn at *
  clear hs h hr hc hB C0 bBo hvb hvS hn
  first|have _:=m6;go_enter func26,ntmps26|go_enter func25,ntmps25
 go_wp2_with fail;refine wp_region_held_drew (S:=fun u=>u.cell? (aA b off)=some (iI y0)/\u.cell? (aA b (off+1))=some (iI y1)/\u.cell? (aA b (off+2))=some (iI y2)) og ⟨n0,n1,n2⟩ (fun aG=>?_);exact zOx):p:=h
theorem zM5(h:p:=by
 refine wp_region_held_drew (S:=fun u=>u.cell? (aA w.heap.size 0)=some (iI lf)/\u.cell? (aA w.heap.size 1)=some (iI lt)) og On (fun aG=>?_);refine tk 0 aG ?_;refine tk 1 aG ?_;refine tk 2 aG ?_;refine tk 4 aG ?_;refine tk 5 aG ?_;refine Y5 3 6 (fun K hK=>?_) fun K hK=>?_
 ·first|have _:=bGt;exact zO1|have m90:=0;exact zK6
 ·go_simp;refine kp hK fun aG=>?_;clear hK K;refine eA 3 fun K hK=>?_;go_simp;(go_at_call 196;refine(dO _ _ _).mono ?_;rintro e u0 ⟨fv,rfl,hB,hu⟩;have L9:=aO (a:=(aA u.heap.size 0)) (v:=iI lt) oh hu;have hW:=G8 hW hu;obtain⟨c0,c1,c2,c3⟩:=hc.below hW);refine kp hK fun aG=>?_;clear hK K;refine eA 7 fun K hK=>?_;go_simp
  first
  |have _:=bGt
   first|have _:=m26;exact zPa|(go_at_call 195;refine(iA false fv _ _ (lt) u.heap.size _ _ hB L9 hd).mono ?_;rintro e x0 ⟨rfl,fP⟩;have hW:=jS hW fP;obtain⟨c0,c1,c2,c3⟩:=hc.below hW);exact zIh
  |have bLp:=0;exact zPa):p:=h
theorem zM9(h:p:=by
 have W9:=Tryz.mfD;have hF:=aKk cO hl (w.alloc (.cells #[sT ⟨#[]⟩] 9))
 first
 |have _:=aPy;have hx:x.size<=20000:=kG (vJ (by rw[hw];exact kQ)) hl;have hwl:=aK2 cO
  first|have _:=m33;have HWs:Hid (∀y∈ws,y.size<=20000):=fun y hy=>kG (vJ (by rw[hw];exact kO _ hy)) hl;rw[hw]at hF hwl;have HE3:Hid (qN k.m k.more k.text ws=none->∀w',bW w w'->w9 base S M O st N cO w (rT (sT (dS 3))) w'):=fun q w' hb=>w9.same h wF (.form hw hk q) aWk hb;have HE6:Hid (∀y,qN k.m k.more k.text ws=some y->kZ st k=false->∀w',bW w w'->w9 base S M O st N cO w (rT (sT (dS 6))) w'):=fun y q q2 w' hb=>w9.same h wF (.state hw hk q q2) bE2 hb|rw[hw]at hF hwl;have HE:Hid (∀w',bW w w'->w9 base S M O st N cO w (rT (sT (dS 3))) w'):=fun w' hb=>w9.same h wF (.unknown hw hk) aWk hb
  have HDw:=aNg h hD
  first|have _:=m33;have HD:Hid (∀u,bW w u->cB u.heap.size u):=fun u hu=>HDw.at hu hu.size|have HD:Hid (∀u,bW w u->nV u):=fun u hu=>HDw u hu
  have HK:Hid (∀u,bW w u->lY u kb S):=fun u hu=>hK.keep (hu.block kb hK.lt)
  first|have _:=m33;have HS:Hid (jF w base S M O st A N/\cB base w/\st.Small):=⟨h,hD,wF⟩|skip
 |rw[hw]at hF;have HE:Hid (∀w',bW w w'->w9 base S M O st N cO w (rT (sT ⟨#[111,107]⟩)) w'):=fun w' hb=>w9.same h wF (.empty hw) oe hb
 generalize hV:w.alloc (.cells #[sT ⟨#[]⟩] 9)=V at hF;have hB:bW w V:=hV▸(kX _ w).alloc (kF _) _;have hbk:V.heap[w.heap.size]?=some (.cells #[sT ⟨#[]⟩] 9 (0,0)):=Jf
 first
 |have _:=aPy;simp only[List.length_cons]at hF hwl;obtain⟨m,hm⟩:∃m,ws.length=m:=⟨_,rfl⟩
  first|have _:=m33;have HM:Hid (ws.length=m):=hm|skip
  rw[hm]at hF hwl;have e0:((m:Int)+1==0)=false:=ol;clear h hD wF HDw hK
 |clear h wF
 go_enter_defers func11,ntmps11;go_wp2_with fail;refine hF.mono ?_
 first
 |have _:=aPy
  first|have _:=m33;rintro e u1 ⟨A1,rfl,hA,hc,dB⟩;skip|rintro e u1 ⟨A,rfl,hA,hc,dB⟩;skip
 |rintro e u1 ⟨A,rfl,hA,hc,dB⟩;skip
 have aKp:u1.heap[w.heap.size]?=some (.cells #[sT ⟨#[]⟩] 9 (0,0)):=(dB.block _ (cW hbk)).trans hbk
 first
 |have _:=aPy
  first|have _:=m33;have hc0:u1.cell? (aA A1 0)=some (sT x):=hc 0 x rfl|have hc0:u1.cell? (aA A 0)=some (sT x):=hc 0 x rfl
 |have c1:u1.cell? (aA w.heap.size 0)=some (sT ⟨#[]⟩):=aM aKp rfl;have z1:=bC aKp (i:=0)
 have oP:Hid (bW w u1):=hB.trans (dB.mono hB.size)
 first
 |have _:=aPy
  first|have _:=m33;have HC:Hid (∀j y,ws[j]?=some y->u1.cell? (aA A1 (j+1))=some (sT y)):=fun j y hj=>hc (j+1) y ju|skip
  have qF:=(HK.out u1 oP.out).look x hx;rw[hk]at qF
  first|have _:=m33;simp only[Option.map,Option.getD,Option.isSome,Kd.val,pU]at qF;generalize hm0:(k.m:Int)=km at qF;generalize hm1:k.more=kmo at qF;generalize hm2:k.text=kt at qF;generalize hm3:k.when=kw at qF|simp only[Option.map,Option.getD,Option.isSome,aTv,pU]at qF
 |skip
 clear dB hc hF;go_wp2_with fail
 first
 |have _:=aPy
  first|have _:=m33;refine(sY 3 _).mono ?_|refine(tZ 3 _).mono ?_
  rintro e u2 ⟨rfl,rfl⟩
  first
  |have _:=m33;generalize hW:u1.alloc (.cells #[iI km,.bool kmo,.bool kt,iI kw,.func (.func k.fn) #[pP S] #[]] 73)=W;have hbW:bW u1 W:=hW▸(kX _ u1).alloc (kF _) _;have bBm:W.heap[u1.heap.size]?=some (.cells #[iI km,.bool kmo,.bool kt,iI kw,.func (.func k.fn) #[pP S] #[]] 73 (0,0)):=by rw[<-hW];exact heap_alloc_new u1 _
   have HBW:Hid (bW w W):=oP.out.trans (hbW.mono oP.out.size);have hkW:u1.heap.size<W.heap.size:=cW bBm;have HRd:Hid (∀u,bW W u->Calls prog 46 #[.agg #[iI km,.bool kmo,.bool kt,iI kw,.func (.func k.fn) #[pP S] #[]],sV (if m=0 then some (aA A1 0)else some (aA A1 1)) m m] u fun e w'=>D1 u w' (qN k.m k.more k.text ws) e/\bW u w'):=fun u hu=>by
    have hb:=HBW.out.trans (hu.mono HBW.out.size);have fE:D2 u (if m=0 then some (aA A1 0)else some (aA A1 1)) ws:=fun h0=>⟨A1,1,kI (by rw[HM.out]at h0;omega),kB hA (kG hbW.size hu.size),fun j y hj=>by
     have:=HC.out j y hj
     rw[Nat.add_comm]at this
     exact bc hu (kB hA hbW.size) (bc hbW hA this)⟩
    have:=aUv k.m k.bMn k.more k.text k.aZv k.when (.func (.func k.fn) #[pP S] #[]) (if m=0 then some (aA A1 0)else some (aA A1 1)) m ws (Nat.le_of_eq HM.out) j7 HWs.out u (HD.out u hb) fE;rw[HM.out]at this;unfold pU at this;rw[hm0,hm1,hm2,hm3]at this;rw[hm1,hm2];exact this
   have N5:(1:Int)<=(m:Int)+1:=od;have HT:Hid (∀u,bW u1 u->u.heap[w.heap.size]?=some (.cells #[sT ⟨#[]⟩] 9 (0,0))):=fun u hu=>(hu.block _ (cW aKp)).trans aKp;have HBu:Hid (bW u1 W):=hbW;have HKB:Hid (W.heap[u1.heap.size]?=some (.cells #[iI km,.bool kmo,.bool kt,iI kw,.func (.func k.fn) #[pP S] #[]] 73 (0,0))):=bBm;have HH:Hid ((k.m:Int)=km/\k.more=kmo/\k.text=kt/\k.when=kw):=⟨hm0,hm1,hm2,hm3⟩;clear hbW HC HWs hm0 hm1 hm2 hm3 qF hc0 hbk aKp hA;obtain⟨q0,q1,q2,q3,q4⟩:=mG bBm;go_wp2_with fail;refine wp_region_held_drew (S:=fun v=>v.cell? (aA u1.heap.size 0)=some (iI km)/\v.cell? (aA u1.heap.size 1)=some (.bool kmo)/\v.cell? (aA u1.heap.size 2)=some (.bool kt)/\v.cell? (aA u1.heap.size 3)=some (iI kw)/\v.cell? (aA u1.heap.size 4)=some (.func (.func k.fn) #[pP S] #[])) og ⟨q0,q1,q2,q3,q4⟩ (fun aG=>?_);refine tk 0 aG ?_ (hQ:=by exact fun _ _ _ q=>P1 (i:=27) oe q);refine tk 1 aG ?_ (hQ:=by exact fun _ _ _ q=>P1 (i:=28) oe q);refine tk 2 aG ?_ (hQ:=by exact fun _ _ _ q=>P1 (i:=29) oe q);refine Y5 3 4 (fun K hK=>?_) (fun K hK=>?_)
   ·go_simp;refine Calls.mono (HRd.out (W.drewN 1) (bdN W 1)) ?_;rintro ev u3 ⟨hR,hu3⟩;have b3:bW W u3:=fR hu3;have b3u:bW u1 u3:=HBu.out.trans (b3.mono HBu.out.size)
    cases hrp:qN k.m k.more k.text ws with
    |none=>
     rw[hrp]at hR
     obtain rfl:ev=fX 3:=hR
     have hbp:=HT.out u3 b3u
     have HW3:Hid (bW w u3):=oP.out.trans (b3u.mono oP.out.size)
     refine leaves_cons (f:=42) (args:=#[pP w.heap.size]) oh jA2 ?_
     refine(mD w.heap.size 3 ⟨od,od⟩ ⟨#[]⟩ u3 hbp (HD.out u3 HW3.out).here).mono ?_
     rintro e u' w'' ⟨rfl,rfl,w1,dB,rfl⟩
     have hd:(w1.setCell (aA w.heap.size 0) (sT (dS 3))).cell? (aA w.heap.size 0)=some (sT (dS 3)):=World.cell?_setCell_same' _ _ _ o9
     simp[Leaves,settle,results,results11,go_sem,hd]
     exact HE3.out hrp _ ((HW3.out.trans (dB.mono HW3.out.size)).setCell (p:=(aA w.heap.size 0)) (kF _) _)
    |some y=>
     rw[hrp]at hR
     obtain⟨a,cap,rfl,hcap,fE,hfr⟩:=hR
     have hk3:u3.heap[u1.heap.size]?=some (.cells #[iI km,.bool kmo,.bool kt,iI kw,.func (.func k.fn) #[pP S] #[]] 73 (0,0)):=(b3.block _ hkW).trans HKB.out
     refine kp hK (fun aG=>?_) (mG hk3)
     clear hK K
     refine eA 4 fun K hK=>?_
     go_simp
     refine kp hK (fun aG=>?_) (mG ((Below.heap_alloc u3 _ _ (cW hk3)).trans hk3))
     clear hK K
     refine eA 5 fun K hK=>?_
     go_simp
     have hbX:(u3.alloc (.cells #[sV a y.1.length cap,sT y.2] 83)).heap[u3.heap.size]?=some (.cells #[sV a y.1.length cap,sT y.2] 83 (0,0)):=heap_alloc_new u3 _
     have ba:bW u3 (u3.alloc (.cells #[sV a y.1.length cap,sT y.2] 83)):=(kX _ u3).alloc (kF _) _
     have b4:=b3.trans (ba.mono b3.size)
     have aH4:=fE.below ba
     have aEc:∀b off,a=some (aA b off)->W.heap.size<=b/\b<(u3.alloc (.cells #[sV a y.1.length cap,sT y.2] 83)).heap.size/\∃cs fr,(u3.alloc (.cells #[sV a y.1.length cap,sT y.2] 83)).heap[b]?=some (.cells cs 3 fr):=fun b off e=>by
      obtain⟨p1,p2,cs,fr,p3⟩:=hfr b off e
      exact⟨p1,kB p2 ba.size,cs,fr,(ba.block b p2).trans p3⟩
     refine kp hK (fun aG=>?_) (mG ((ba.block _ (cW hk3)).trans hk3))
     clear hK K aG
     refine dn ?_
     generalize u3.alloc (.cells #[sV a y.1.length cap,sT y.2] 83)=W4 at *
     generalize u3.heap.size=X at *
     clear hk3 fE hfr b3 b3u hu3 ba q0 q1 q2 q3 q4
     have zQ:Hid (bW w W4):=HBW.out.trans (b4.mono HBW.out.size)
     have hkx:W4.heap[u1.heap.size]?=some (.cells #[iI km,.bool kmo,.bool kt,iI kw,.func (.func k.fn) #[pP S] #[]] 73 (0,0)):=(b4.block _ hkW).trans HKB.out
     have aAa:=HT.out W4 (HBu.out.trans (b4.mono HBu.out.size))
     have t0:W4.cell? (aA w.heap.size 0)=some (sT ⟨#[]⟩):=aM aAa rfl
     have yE:Hid (W4.heap[w.heap.size]?=some (.cells #[sT ⟨#[]⟩] 9 (0,0))):=aAa
     obtain⟨_,_,_,y3,y4⟩:=mG hkx
     have x0:W4.cell? (aA X 0)=some (sV a y.1.length cap):=aM hbX rfl
     have x1:W4.cell? (aA X 1)=some (sT y.2):=aM hbX rfl
     have hs4:jF W4 base S M O st A N:=HS.out.1.below zQ.out
     have xZ:=Z8 hs4 k
     rw[HH.out.2.2.2]at xZ
     obtain⟨XL,hX,hXa⟩:∃XL:List Nat,(∀b off,a=some (aA b off)->b∈XL)/\∀c,c∈XL->∃off,a=some (aA c off):=by
      cases a with
      |none=>exact⟨[],fun _ _ q=>eh,fun _ q=>eh⟩
      |some p=>
       obtain⟨b,off,t⟩:=p
       cases t with
       |none=>exact⟨[b],fun _ _ q=>by cases q;exact kQ,fun c q=>⟨off,by rw[List.mem_singleton.1 q]⟩⟩
       |some t=>exact⟨[],fun _ _ q=>eh,fun _ q=>eh⟩
     have hXl:∀c,c∈XL->W.heap.size<=c/\c<W4.heap.size:=fun c q=>by
      obtain⟨off,e⟩:=hXa c q
      exact⟨(aEc c off e).1,(aEc c off e).2.1⟩
     have hWw:w.heap.size<W.heap.size:=Nat.lt_of_le_of_lt oP.out.size hkW
     have HX:Hid (∀c,c∈XL->w.heap.size<c):=fun c q=>kB hWw (hXl c q).1
     have hbw:base<=w.heap.size:=kG (HS.out.1.r.lo S HS.out.1.r.s) (kV (HS.out.1.r.hi S HS.out.1.r.s))
     have hDb:cB base W4:=HS.out.2.1.below (zQ.out.mono hbw)
     obtain⟨f1,f2,f3⟩:=l8 hrp
     have HDo:Hid (kZ st k=true->Calls prog k.fn #[pP S,.agg #[sV a y.1.length cap,sT y.2]] W4 (cS base S (XL++M) O st N k y.1 y.2 W4)):=fun q=>aGp k hs4 hDb q HS.out.2.2 hN y.1 y.2 f1 (kG f2 j7) f3 a cap hcap aH4 (fun b off e=>⟨hX b off e,(aEc b off e).2.2⟩) (fun c q=>kG hbw (kV (HX.out c q))) (fun c q=>(hXl c q).2) (fun c q1 q2=>by
      have:=HX.out c q1
      rcases kL q2 with q|q
      ·have:=HS.out.1.r.hi c q;omega
      ·have:=HS.out.1.r.hiO c q;omega)
     have HDb:Hid (cB base W4):=hDb
     clear hs4 hX hXa hXl hDb f1 f2 f3 aEc aH4 hcap hbX aAa b4
     have bJi:=aCo k
     clear HRd
     generalize(if m=0 then(some (aA A1 0):Option Addr)else some (aA A1 1))=sl1
     go_wp2_with fail
     refine xZ.mono ?_
     rintro e u5 ⟨rfl,rfl⟩
     cases hal2:kZ st k with
     |false=>
      go_wp2_with fail
      refine(tZ 6 _).mono ?_
      rintro e u6 ⟨rfl,rfl⟩
      refine leaves_cons (f:=42) (args:=#[pP w.heap.size]) oh jA2 ?_
      refine(mD w.heap.size 6 ⟨od,od⟩ ⟨#[]⟩ _ yE.out (HD.out _ zQ.out).here).mono ?_
      rintro e u' w'' ⟨rfl,rfl,w1,dB,rfl⟩
      have hd:(w1.setCell (aA w.heap.size 0) (sT (dS 6))).cell? (aA w.heap.size 0)=some (sT (dS 6)):=World.cell?_setCell_same' _ _ _ j9
      simp[Leaves,settle,results,results11,go_sem,hd]
      exact HE6.out y hrp hal2 _ ((zQ.out.trans (dB.mono zQ.out.size)).setCell (p:=(aA w.heap.size 0)) (kF _) _)
     |true=>
      go_wp2_with fail
      refine(sY 6 _).mono ?_
      rintro e u6 ⟨rfl,rfl⟩
      go_wp2_with fail
      refine(HDo.out hal2).mono ?_
      rintro e u7 ⟨qQ,r,M',O',A',hd,he,hf,hs7⟩
      have hsh:=hd.short HS.out.2.2 (HS.out.1.aYt hN)
      have hLI:=fK.aKg (st:=st) hw hk hrp hal2 hd
      have aS4:Hid (∀u8 v,bW u7 u8->v=Value.string r.out->w9 base S M O st N cO w (rT (sT r.out)) (u8.setCell (aA w.heap.size 0) v)):=fun u8 v hb hv=>by
       obtain⟨z1,z2⟩:=aNk HS.out.1 zQ.out (cW yE.out) HX.out hf hs7 hb v
       exact⟨qQ,r.out,M',O',A',hLI,hsh.out,HS.out.2.2.aKg hd,rfl,z1,z2⟩
      have HD7:Hid (nV u7):=HDb.out u7 (hf.below (fun c q=>by
       rcases kL q with q|q
       ·rcases kL q with q|q
        ·exact kG hbw (kV (HX.out c q))
        ·exact HS.out.1.r.lo c q
       ·exact HS.out.1.r.loO c q) (kG hbw zQ.out.size))
      have ht7:u7.heap[w.heap.size]?=some (.cells #[sT ⟨#[]⟩] 9 (0,0)):=(hf.block _ (cW yE.out) (aB0 HS.out.1 HX.out)).trans yE.out
      clear hf hs7 hd hLI HDo
      cases r with
      |inl kk=>
       obtain rfl:e=fX kk:=he
       refine leaves_cons (f:=42) (args:=#[pP w.heap.size]) oh jA2 ?_
       refine(mD w.heap.size kk (fG.int hsh) ⟨#[]⟩ _ ht7 HD7.out).mono ?_
       rintro e u' w'' ⟨rfl,rfl,w1,dB,rfl⟩
       have hd:(w1.setCell (aA w.heap.size 0) (sT (dS kk))).cell? (aA w.heap.size 0)=some (sT (dS kk)):=World.cell?_setCell_same' _ _ _ Jk
       simp[Leaves,settle,results,results11,go_sem,hd]
       exact aS4.out w1 _ dB rfl
      |inr o=>
       obtain rfl:e=rT (sT o):=he
       have v0:u7.cell? (aA w.heap.size 0)=some (sT ⟨#[]⟩):=aM ht7 rfl
       have v1:=bC ht7 (i:=0)
       go_wp2_with fail
       have hd:(u7.setCell (aA w.heap.size 0) (sT o)).cell? (aA w.heap.size 0)=some (sT o):=World.cell?_setCell_same' _ _ _ (by rw[v0];rfl)
       refine leaves_cons (f:=42) (args:=#[pP w.heap.size]) oh jA2 ?_
       refine(D6 _ _).mono ?_
       rintro e u' w'' ⟨rfl,rfl,rfl⟩
       simp[Leaves,settle,results,results11,go_sem,hd]
       exact aS4.out u7 _ (kX _ _) rfl
   ·go_simp;have hk2:(W.alloc (.cells #[sV none 0 0,sT ⟨#[]⟩] 83)).drew.heap[u1.heap.size]?=some (.cells #[iI km,.bool kmo,.bool kt,iI kw,.func (.func k.fn) #[pP S] #[]] 73 (0,0)):=(Below.heap_alloc W _ _ (cW HKB.out)).trans HKB.out;have hbx:(W.alloc (.cells #[sV none 0 0,sT ⟨#[]⟩] 83)).drew.heap[W.heap.size]?=some (.cells #[sV none 0 0,sT ⟨#[]⟩] 83 (0,0)):=heap_alloc_new W _;have zW:bW W ((W.alloc (.cells #[sV none 0 0,sT ⟨#[]⟩] 83)).drew):=sZ ((kX _ W).alloc (kF _) _) 1;refine kp hK (fun aG=>?_) (mG hk2);clear hK K;generalize(W.alloc (.cells #[sV none 0 0,sT ⟨#[]⟩] 83)).drew=W2 at *;refine eA 3 fun K hK=>?_;go_simp;refine Calls.mono (HRd.out W2 zW) ?_;rintro ev u3 ⟨hR,hu3⟩;have b3:bW W u3:=zW.trans (hu3.mono zW.size);have b3u:bW u1 u3:=HBu.out.trans (b3.mono HBu.out.size)
    cases hrp:qN k.m k.more k.text ws with
    |none=>
     rw[hrp]at hR
     obtain rfl:ev=fX 3:=hR
     have hbp:=HT.out u3 b3u
     have HW3:Hid (bW w u3):=oP.out.trans (b3u.mono oP.out.size)
     refine leaves_cons (f:=42) (args:=#[pP w.heap.size]) oh jA2 ?_
     refine(mD w.heap.size 3 ⟨od,od⟩ ⟨#[]⟩ u3 hbp (HD.out u3 HW3.out).here).mono ?_
     rintro e u' w'' ⟨rfl,rfl,w1,dB,rfl⟩
     have hd:(w1.setCell (aA w.heap.size 0) (sT (dS 3))).cell? (aA w.heap.size 0)=some (sT (dS 3)):=World.cell?_setCell_same' _ _ _ o9
     simp[Leaves,settle,results,results11,go_sem,hd]
     exact HE3.out hrp _ ((HW3.out.trans (dB.mono HW3.out.size)).setCell (p:=(aA w.heap.size 0)) (kF _) _)
    |some y=>
     rw[hrp]at hR
     obtain⟨a,cap,rfl,hcap,fE,hfr⟩:=hR
     have hk3:u3.heap[u1.heap.size]?=some (.cells #[iI km,.bool kmo,.bool kt,iI kw,.func (.func k.fn) #[pP S] #[]] 73 (0,0)):=(b3.block _ hkW).trans HKB.out
     have aPd:u3.heap[W.heap.size]?=some (.cells #[sV none 0 0,sT ⟨#[]⟩] 83 (0,0)):=(hu3.block _ (cW hbx)).trans hbx
     have g0:u3.cell? (aA W.heap.size 0)=some (sV none 0 0):=aM aPd rfl
     have g1:u3.cell? (aA W.heap.size 1)=some (sT ⟨#[]⟩):=aM aPd rfl
     have g2:=bC aPd (i:=0)
     have g3:=bC aPd (i:=1)
     refine kp hK (fun aG=>?_) (mG hk3)
     clear hK K
     refine eA 5 fun K hK=>?_
     go_simp
     have hbX:((u3.setCell (aA W.heap.size 0) (sV a y.1.length cap)).setCell (aA W.heap.size 1) (sT y.2)).heap[W.heap.size]?=some (.cells #[sV a y.1.length cap,sT y.2] 83 (0,0)):=cH (cH aPd _) _
     have aH1:∀c,c≠W.heap.size->((u3.setCell (aA W.heap.size 0) (sV a y.1.length cap)).setCell (aA W.heap.size 1) (sT y.2)).heap[c]?=u3.heap[c]?:=fun c hc=>by simp only[cJ hc]
     have hsz:((u3.setCell (aA W.heap.size 0) (sV a y.1.length cap)).setCell (aA W.heap.size 1) (sT y.2)).heap.size=u3.heap.size:=oh
     have b4:bW W ((u3.setCell (aA W.heap.size 0) (sV a y.1.length cap)).setCell (aA W.heap.size 1) (sT y.2)):=(b3.setCell (p:=(aA W.heap.size 0)) (kF _) _).setCell (p:=(aA W.heap.size 1)) (kF _) _
     have bK3:=cW hbx
     have aH4:bE ((u3.setCell (aA W.heap.size 0) (sV a y.1.length cap)).setCell (aA W.heap.size 1) (sT y.2)) a y.1:=fE.at (Nat.le_of_eq hsz.symm) fun b off e h0=>aH1 b (by have:=(hfr b off e).1;omega)
     have aEc:∀b off,a=some (aA b off)->W.heap.size<=b/\b<((u3.setCell (aA W.heap.size 0) (sV a y.1.length cap)).setCell (aA W.heap.size 1) (sT y.2)).heap.size/\∃cs fr,((u3.setCell (aA W.heap.size 0) (sV a y.1.length cap)).setCell (aA W.heap.size 1) (sT y.2)).heap[b]?=some (.cells cs 3 fr):=fun b off e=>by
      obtain⟨p1,p2,cs,fr,p3⟩:=hfr b off e
      exact⟨od,by rw[hsz];exact p2,cs,fr,(aH1 b od).trans p3⟩
     refine kp hK (fun aG=>?_) (mG ((aH1 _ od).trans hk3))
     clear hK K aG
     refine dn ?_
     generalize(u3.setCell (aA W.heap.size 0) (sV a y.1.length cap)).setCell (aA W.heap.size 1) (sT y.2)=W4 at *
     obtain⟨X,hXe⟩:∃X,W.heap.size=X:=⟨_,rfl⟩
     have hbX:W4.heap[X]?=some (.cells #[sV a y.1.length cap,sT y.2] 83 (0,0)):=hXe▸hbX
     clear hk3 fE hfr b3 b3u hu3 q0 q1 q2 q3 q4 aH1 hsz g0 g1 g2 g3 aPd bK3 hbx hk2 zW
     rw[hXe]
     clear hXe
     have zQ:Hid (bW w W4):=HBW.out.trans (b4.mono HBW.out.size)
     have hkx:W4.heap[u1.heap.size]?=some (.cells #[iI km,.bool kmo,.bool kt,iI kw,.func (.func k.fn) #[pP S] #[]] 73 (0,0)):=(b4.block _ hkW).trans HKB.out
     have aAa:=HT.out W4 (HBu.out.trans (b4.mono HBu.out.size))
     have t0:W4.cell? (aA w.heap.size 0)=some (sT ⟨#[]⟩):=aM aAa rfl
     have yE:Hid (W4.heap[w.heap.size]?=some (.cells #[sT ⟨#[]⟩] 9 (0,0))):=aAa
     obtain⟨_,_,_,y3,y4⟩:=mG hkx
     have x0:W4.cell? (aA X 0)=some (sV a y.1.length cap):=aM hbX rfl
     have x1:W4.cell? (aA X 1)=some (sT y.2):=aM hbX rfl
     have hs4:jF W4 base S M O st A N:=HS.out.1.below zQ.out
     have xZ:=Z8 hs4 k
     rw[HH.out.2.2.2]at xZ
     obtain⟨XL,hX,hXa⟩:∃XL:List Nat,(∀b off,a=some (aA b off)->b∈XL)/\∀c,c∈XL->∃off,a=some (aA c off):=by
      cases a with
      |none=>exact⟨[],fun _ _ q=>eh,fun _ q=>eh⟩
      |some p=>
       obtain⟨b,off,t⟩:=p
       cases t with
       |none=>exact⟨[b],fun _ _ q=>by cases q;exact kQ,fun c q=>⟨off,by rw[List.mem_singleton.1 q]⟩⟩
       |some t=>exact⟨[],fun _ _ q=>eh,fun _ q=>eh⟩
     have hXl:∀c,c∈XL->W.heap.size<=c/\c<W4.heap.size:=fun c q=>by
      obtain⟨off,e⟩:=hXa c q
      exact⟨(aEc c off e).1,(aEc c off e).2.1⟩
     have hWw:w.heap.size<W.heap.size:=Nat.lt_of_le_of_lt oP.out.size hkW
     have HX:Hid (∀c,c∈XL->w.heap.size<c):=fun c q=>kB hWw (hXl c q).1
     have hbw:base<=w.heap.size:=kG (HS.out.1.r.lo S HS.out.1.r.s) (kV (HS.out.1.r.hi S HS.out.1.r.s))
     have hDb:cB base W4:=HS.out.2.1.below (zQ.out.mono hbw)
     obtain⟨f1,f2,f3⟩:=l8 hrp
     have HDo:Hid (kZ st k=true->Calls prog k.fn #[pP S,.agg #[sV a y.1.length cap,sT y.2]] W4 (cS base S (XL++M) O st N k y.1 y.2 W4)):=fun q=>aGp k hs4 hDb q HS.out.2.2 hN y.1 y.2 f1 (kG f2 j7) f3 a cap hcap aH4 (fun b off e=>⟨hX b off e,(aEc b off e).2.2⟩) (fun c q=>kG hbw (kV (HX.out c q))) (fun c q=>(hXl c q).2) (fun c q1 q2=>by
      have:=HX.out c q1
      rcases kL q2 with q|q
      ·have:=HS.out.1.r.hi c q;omega
      ·have:=HS.out.1.r.hiO c q;omega)
     have HDb:Hid (cB base W4):=hDb
     clear hs4 hX hXa hXl hDb f1 f2 f3 aEc aH4 hcap hbX aAa b4
     have bJi:=aCo k
     clear HRd
     generalize(if m=0 then(some (aA A1 0):Option Addr)else some (aA A1 1))=sl1
     go_wp2_with fail
     refine xZ.mono ?_
     rintro e u5 ⟨rfl,rfl⟩
     cases hal2:kZ st k with
     |false=>
      go_wp2_with fail
      refine(tZ 6 _).mono ?_
      rintro e u6 ⟨rfl,rfl⟩
      refine leaves_cons (f:=42) (args:=#[pP w.heap.size]) oh jA2 ?_
      refine(mD w.heap.size 6 ⟨od,od⟩ ⟨#[]⟩ _ yE.out (HD.out _ zQ.out).here).mono ?_
      rintro e u' w'' ⟨rfl,rfl,w1,dB,rfl⟩
      have hd:(w1.setCell (aA w.heap.size 0) (sT (dS 6))).cell? (aA w.heap.size 0)=some (sT (dS 6)):=World.cell?_setCell_same' _ _ _ j9
      simp[Leaves,settle,results,results11,go_sem,hd]
      exact HE6.out y hrp hal2 _ ((zQ.out.trans (dB.mono zQ.out.size)).setCell (p:=(aA w.heap.size 0)) (kF _) _)
     |true=>
      go_wp2_with fail
      refine(sY 6 _).mono ?_
      rintro e u6 ⟨rfl,rfl⟩
      go_wp2_with fail
      refine(HDo.out hal2).mono ?_
      rintro e u7 ⟨qQ,r,M',O',A',hd,he,hf,hs7⟩
      have hsh:=hd.short HS.out.2.2 (HS.out.1.aYt hN)
      have hLI:=fK.aKg (st:=st) hw hk hrp hal2 hd
      have aS4:Hid (∀u8 v,bW u7 u8->v=Value.string r.out->w9 base S M O st N cO w (rT (sT r.out)) (u8.setCell (aA w.heap.size 0) v)):=fun u8 v hb hv=>by
       obtain⟨z1,z2⟩:=aNk HS.out.1 zQ.out (cW yE.out) HX.out hf hs7 hb v
       exact⟨qQ,r.out,M',O',A',hLI,hsh.out,HS.out.2.2.aKg hd,rfl,z1,z2⟩
      have HD7:Hid (nV u7):=HDb.out u7 (hf.below (fun c q=>by
       rcases kL q with q|q
       ·rcases kL q with q|q
        ·exact kG hbw (kV (HX.out c q))
        ·exact HS.out.1.r.lo c q
       ·exact HS.out.1.r.loO c q) (kG hbw zQ.out.size))
      have ht7:u7.heap[w.heap.size]?=some (.cells #[sT ⟨#[]⟩] 9 (0,0)):=(hf.block _ (cW yE.out) (aB0 HS.out.1 HX.out)).trans yE.out
      clear hf hs7 hd hLI HDo
      cases r with
      |inl kk=>
       obtain rfl:e=fX kk:=he
       refine leaves_cons (f:=42) (args:=#[pP w.heap.size]) oh jA2 ?_
       refine(mD w.heap.size kk (fG.int hsh) ⟨#[]⟩ _ ht7 HD7.out).mono ?_
       rintro e u' w'' ⟨rfl,rfl,w1,dB,rfl⟩
       have hd:(w1.setCell (aA w.heap.size 0) (sT (dS kk))).cell? (aA w.heap.size 0)=some (sT (dS kk)):=World.cell?_setCell_same' _ _ _ Jk
       simp[Leaves,settle,results,results11,go_sem,hd]
       exact aS4.out w1 _ dB rfl
      |inr o=>
       obtain rfl:e=rT (sT o):=he
       have v0:u7.cell? (aA w.heap.size 0)=some (sT ⟨#[]⟩):=aM ht7 rfl
       have v1:=bC ht7 (i:=0)
       go_wp2_with fail
       have hd:(u7.setCell (aA w.heap.size 0) (sT o)).cell? (aA w.heap.size 0)=some (sT o):=World.cell?_setCell_same' _ _ _ (by rw[v0];rfl)
       refine leaves_cons (f:=42) (args:=#[pP w.heap.size]) oh jA2 ?_
       refine(D6 _ _).mono ?_
       rintro e u' w'' ⟨rfl,rfl,rfl⟩
       simp[Leaves,settle,results,results11,go_sem,hd]
       exact aS4.out u7 _ (kX _ _) rfl
  |have hbu:=oP.out.alloc oP.out.size (.cells #[iI 0,.bool false,.bool false,iI 0,.nilFunc] 73);have hbp:(u1.alloc (.cells #[iI 0,.bool false,.bool false,iI 0,.nilFunc] 73)).heap[w.heap.size]?=some (.cells #[sT ⟨#[]⟩] 9 (0,0)):=(Below.heap_alloc u1 _ _ (cW aKp)).trans aKp;have HW:Hid (bW w (u1.alloc (.cells #[iI 0,.bool false,.bool false,iI 0,.nilFunc] 73))):=hbu;generalize u1.alloc (.cells #[iI 0,.bool false,.bool false,iI 0,.nilFunc] 73)=W at *;refine leaves_cons (f:=42) (args:=#[pP w.heap.size]) oh jA2 ?_;refine(mD w.heap.size 3 ⟨od,od⟩ ⟨#[]⟩ W hbp (HD.out W HW.out)).mono ?_;rintro e u' w'' ⟨rfl,rfl,w1,dB,rfl⟩;have hd:(w1.setCell (aA w.heap.size 0) (sT (dS 3))).cell? (aA w.heap.size 0)=some (sT (dS 3)):=World.cell?_setCell_same' _ _ _ o9;simp[Leaves,settle,results,results11,go_sem,hd];exact HE.out _ ((HW.out.trans (dB.mono HW.out.size)).setCell (p:=(aA w.heap.size 0)) (kF _) _)
 |have hd:(u1.setCell (aA w.heap.size 0) (sT ⟨#[111,107]⟩)).cell? (aA w.heap.size 0)=some (sT ⟨#[111,107]⟩):=World.cell?_setCell_same' _ _ _ (by rw[c1];rfl);refine leaves_cons (f:=42) (args:=#[pP w.heap.size]) oh jA2 ?_;refine(D6 _ _).mono ?_;rintro e u' w'' ⟨rfl,rfl,rfl⟩;simp[Leaves,settle,results,results11,go_sem,hd];exact HE.out _ (oP.out.setCell (p:=(aA w.heap.size 0)) (kF _) _)):p:=h
theorem zNa(h:p:=by
 refine kp hK fun aG=>?_;clear hK K
 first|have _:=aPz;refine tk 5 aG ?_;refine tk 6 aG ?_;refine tk 7 aG ?_;refine tk 8 aG ?_|skip
 refine tk 9 aG ?_;refine tk 10 aG ?_;refine tk 12 aG ?_;refine tk 13 aG ?_
 first|have _:=aPz;refine Y5 11 14 (fun K hK=>?_) fun K hK=>?_|refine tk 14 aG ?_;refine tk 15 aG ?_;refine Y5 11 16 (fun K hK=>?_) fun K hK=>?_
 ·go_simp;(go_at_call 196;refine(dO _ _ _).mono ?_;rintro e u1 ⟨fv,rfl,hB,hu⟩;have hW:=jS hW hu;obtain⟨c0,c1,c2,c3,c4,c5,c6,c7,c8,c9⟩:=hc.below hW);refine kp hK fun aG=>?_;clear hK K
  first|have _:=aPz;refine eA 14 fun K hK=>?_|refine eA 16 fun K hK=>?_
  go_simp;refine kp hK fun aG=>?_;clear hK K
  first
  |have _:=aPz;refine eA 15 fun K hK=>?_;go_simp
   first|have _:=m25;(go_at_call 195;refine(iA true fv _ _ (aF) u1.heap.size _ _ (hB.alloc _) oh J1).mono ?_;rintro e x1 ⟨rfl,fP⟩;have hW:=oE hW fP;obtain⟨c0,c1,c2,c3,c4,c5,c6,c7,c8,c9⟩:=hc.below hW);exact zHg|(go_at_call 195;refine(iA false fv _ _ (aF) u1.heap.size _ _ (hB.alloc _) oh J1).mono ?_;rintro e x1 ⟨rfl,fP⟩;have hW:=oE hW fP;obtain⟨c0,c1,c2,c3,c4,c5,c6,c7,c8,c9⟩:=hc.below hW);exact zH1
  |refine eA 17 fun K hK=>?_;go_simp
   first|have _:=m24;(go_at_call 195;refine(aDh false fv _ _ (round) (frame) u1.heap.size _ _ (hB.alloc _) oh oh J1).mono ?_;rintro e x1 ⟨rfl,fP⟩;have hW:=oE hW fP;obtain⟨c0,c1,c2,c3,c4,c5,c6,c7,c8,c9⟩:=hc.below hW);exact zH0|(go_at_call 195;refine(aDh true fv _ _ (round) (frame) u1.heap.size _ _ (hB.alloc _) oh oh J1).mono ?_;rintro e x1 ⟨rfl,fP⟩;have hW:=oE hW fP;obtain⟨c0,c1,c2,c3,c4,c5,c6,c7,c8,c9⟩:=hc.below hW);exact zHb
 ·go_simp;refine kp hK fun aG=>?_;clear hK K;refine eA 11 fun K hK=>?_;go_simp
  first|have _:=aPz;(go_at_call 196;refine(dO _ _ _).mono ?_;rintro e u1 ⟨fv,rfl,hB,hu⟩;have L9:=aO (a:=(aA x0.heap.size 0)) (v:=iI aF) oh hu;have hW:=oE hW hu;obtain⟨c0,c1,c2,c3,c4,c5,c6,c7,c8,c9⟩:=hc.below hW)|(go_at_call 196;refine(dO _ _ _).mono ?_;rintro e u1 ⟨fv,rfl,hB,hu⟩;have L9:=aO (a:=(aA x0.heap.size 0)) (v:=iI round) oh hu;have hX1:=aO (a:=(aA x0.heap.size 1)) (v:=iI frame) oh hu;have hW:=oE hW hu;obtain⟨c0,c1,c2,c3,c4,c5,c6,c7,c8,c9⟩:=hc.below hW)
  refine kp hK fun aG=>?_;clear hK K
  first
  |have _:=aPz;refine eA 15 fun K hK=>?_;go_simp
   first|have _:=m25;(go_at_call 195;refine(iA true fv _ _ (aF) x0.heap.size _ _ hB L9 J1).mono ?_;rintro e x1 ⟨rfl,fP⟩;have hW:=jS hW fP;obtain⟨c0,c1,c2,c3,c4,c5,c6,c7,c8,c9⟩:=hc.below hW);exact zHg|(go_at_call 195;refine(iA false fv _ _ (aF) x0.heap.size _ _ hB L9 J1).mono ?_;rintro e x1 ⟨rfl,fP⟩;have hW:=jS hW fP;obtain⟨c0,c1,c2,c3,c4,c5,c6,c7,c8,c9⟩:=hc.below hW);exact zH1
  |refine eA 17 fun K hK=>?_;go_simp
   first|have _:=m24;(go_at_call 195;refine(aDh false fv _ _ (round) (frame) x0.heap.size _ _ hB L9 hX1 J1).mono ?_;rintro e x1 ⟨rfl,fP⟩;have hW:=jS hW fP;obtain⟨c0,c1,c2,c3,c4,c5,c6,c7,c8,c9⟩:=hc.below hW);exact zH0|(go_at_call 195;refine(aDh true fv _ _ (round) (frame) x0.heap.size _ _ hB L9 hX1 J1).mono ?_;rintro e x1 ⟨rfl,fP⟩;have hW:=jS hW fP;obtain⟨c0,c1,c2,c3,c4,c5,c6,c7,c8,c9⟩:=hc.below hW);exact zHb):p:=h
theorem zNd(h:p:=by
 have hP:=Tryz.strconv_ParseInt_10_at64_ok word od v hp w
 first
 |have _:=bGu
  first|have _:=m58;have hA:=fun u=>tZ 3 u|have hA:=fun u=>sY 3 u
  go_enter func87,ntmps87
 |go_enter func14,ntmps14
 go_wp2_with fail;refine hP.mono ?_;rintro e u1 ⟨rfl,hu⟩;have dB:bW w u1:=by exact zCi
 have hF:=Tryz.strconv_FormatInt_10 v h0 h1 u1 (hw u1 dB).tab;clear hP hu;go_wp2_with fail;refine hF.mono ?_;rintro e u2 ⟨rfl,k,os,fP⟩;have dQ:bW w u2:=dB.trans ((fP▸below_grow u1 k os:bW u1 u2).mono dB.size);clear hF fP k os
 first
 |have _:=bGu
  first|have _:=m58;generalize(⟨(Lib.itoa v).toArray⟩:ByteArray)=x at he⊢;have hd:=aGe he|rw[he]
  go_wp2_with fail;refine(hA _).mono ?_;rintro e u3 ⟨rfl,rfl⟩
  first|have _:=m58;exact⟨rfl,rfl,dQ⟩|go_wp2_with fail;go_ret;exact⟨rfl,dQ⟩
 |first|have _:=m56;generalize(⟨(Lib.itoa v).toArray⟩:ByteArray)=x at he⊢;have hd:=aGe he|rw[he]
  go_wp2;go_ret2;exact⟨rfl,dQ⟩):p:=h
theorem zNk(h:p:=by
 have hb:=lF.aI.bounds;have jB:p.nodes=(p.n:Int):=by show p.nodes=(p.nodes.toNat:Int);have:=hb.n1;omega
 have mR:p.n<=16:=by have:=hb.n2;omega
 have lK:1<=p.n:=by have:=hb.n1;omega
 obtain⟨f,hf⟩:∃f:Nat,p.aF=f:=⟨p.aF.toNat,by have:=hb.f0;omega⟩;have hf3:3*f+1<=p.n:=by have:=hb.f3;omega
 first
 |have _:=bKy;have hfn:f=p.aF.toNat:=by rw[hf];rfl
  have uS:∀i,i<p.n->-274877906944<=cs.getD i 0/\cs.getD i 0<=274877906944:=fun i hi=>lF.inn _ (rG (by rw[lF.len];exact hi));have bEd:Hid _:=uS;have HOK:Hid (vX p fa cs):=lF;have HB:Hid (Z4 p):=hb;have HH:Hid (jJ w O Z C p fa cs s rd B m):=h;have HR:Hid (r.In a w):=hr;have HLA:Hid (∀b off,a.la=some (aA b off)->b∉O/\b<w.heap.size):=hla;have HMA:Hid (∀b off,a.ma=some (aA b off)->0<r.bH.length->b∉O):=hma;have HFI:Hid (pT w):=mQ;obtain⟨ca,off,hca,hcX,M1⟩:=h.base.ck (by rw[lF.len];omega);rw[lF.len]at M1;have HCK:Hid (∀j,j<p.n->w.cell? (aA ca (off+j))=some (iI (cs.getD j 0))):=M1;have y0:=h.base.c0;rw[jB]at y0;have y1:=h.base.c1;rw[hf]at y1;have y11:=h.base.c11;rw[lF.len,hca]at y11;have y3:=h.base.c3;have y4:=h.base.c4;have y10:=h.base.c10;have lC:=h.base.lc;have lca:ca<w.heap.size:=h.base.lx _ hcX;clear h lF hb hr hla hma mQ M1 uS;go_enter func56,ntmps56;go_wp2_with fail;refine aZk _ oq _ C p.n ca off m.cI cs w HOK.out.len od mR y11 HCK.out HOK.out.inn rfl rfl rfl rfl rfl rfl ?_;intro L2 iT w1 G cap bBd dB pC pD t12 t48;obtain⟨gL,rfl⟩:=pD.over (pC.trans rfl);clear pD pC;simp(decide:=true) only[ov,if_true,if_false,Nat.reduceAdd]at t12 t48⊢;replace t12:=kW t12;replace t48:=kW t48;rw[t12,t48];clear t12 t48;obtain⟨uX,c12,rfl,bNr,bN5⟩:=bBd.own.form od;have aSa:Hid _:=bBd;have oP:Hid (bW w w1):=dB;have z10:=aO y10 dB;have z3:=aO y3 dB;have z11:=aO y11 dB;have HZK:Hid (∀j,j<p.n->w1.cell? (aA ca (off+j))=some (iI (cs.getD j 0))):=fun j hj=>aO (HCK.out j hj) oP.out;have hR1:=HR.out.reads.below dB;have HRB:Hid (∀b off,a.ra=some (aA b off)->0<r.nR->b<w.heap.size):=fun b off e h0=>by obtain⟨b',aLk,e',hb',_⟩:=HR.out.reads h0;rw[e]at e';cases e';exact hb'
  clear bBd dB;go_wp2_with fail;refine aZj _ oq _ C p.n ca off m.cI w.heap.size uX c12 fa p.aC cs r a.ra a.rc G cap w1 HOK.out.len mR z10 z3 z11 HZK.out HOK.out.inn HB.out.j0 HB.out.j1 aSa.out oP.out.size lC lca hR1 HRB.out HR.out.lR rfl rfl rfl rfl rfl rfl rfl ?_;intro L2 w2 bF1 dQ pC pD t81;obtain⟨gL,rfl⟩:=pD.over (pC.trans rfl);clear pD pC;simp(decide:=true) only[ov,if_true,if_false,Nat.reduceAdd]at t81⊢;replace t81:=kW t81;rw[t81];clear t81;have uN:Hid (bW w w2):=oP.out.trans dQ;have aOe:Hid _:=bF1;clear bF1 dQ z10 z3 z11 hR1;have x11:=aO y11 uN.out;have x1:=aO y1 uN.out;have HZ2:Hid (∀j,j<p.n->w2.cell? (aA ca (off+j))=some (iI (cs.getD j 0))):=fun j hj=>aO (HCK.out j hj) uN.out;have aOf:Hid (∀u,bW w2 u->Calls prog 100 #[sV (some (aA ca off)) p.n m.cI,sL uX p.n c12,iI f] u fun ev w'=>∃g gc,ev=rT (tU #[sL g p.n gc,.agg #[iI 0,iI (-1)]])/\(u.heap.size<=g/\g<w'.heap.size/\(∀j,j<p.n->w'.cell? (aA g j)=some (iI (mW p.n f (fun i=>cs.getD i 0) (readAll p.n (aW fa) p.aC (fun i=>cs.getD i 0) r.reads) j)))/\∀j,w'.frozen? (aA g j)=false)/\bW u w'):=fun u hu=>aVo ca off m.cI uX c12 w.heap.size G cap u (HFI.out.below (uN.out.trans (hu.mono uN.out.size))) HOK.out.len mR lK hf3 HB.out.j0 HB.out.j1 bEd.out (fun j hj=>aO (HZ2.out j hj) hu) (RT.below aOe.out hu);have HSI:Hid (∀j,j<p.n->-4398046511104<=mW p.n f (fun i=>cs.getD i 0) (readAll p.n (aW fa) p.aC (fun i=>cs.getD i 0) r.reads) j/\mW p.n f (fun i=>cs.getD i 0) (readAll p.n (aW fa) p.aC (fun i=>cs.getD i 0) r.reads) j<=4398046511104):=fun j hj=>by have:=aZo (r:=r) (fa:=fa) hf3 HB.out.j0 HB.out.j1 bEd.out hj;omega
  have HCT:Hid (∀j,jM p.n p.aF.toNat (aW fa) p.aC p.aH (fun i=>cs.getD i 0) r.reads r.bA j=mW p.n f (fun i=>cs.getD i 0) (readAll p.n (aW fa) p.aC (fun i=>cs.getD i 0) r.reads) j+eU r.bA p.aH j):=fun j=>by rw[<-hfn];rfl
  obtain⟨ST,hST⟩:∃ST,mW p.n f (fun i=>cs.getD i 0) (readAll p.n (aW fa) p.aC (fun i=>cs.getD i 0) r.reads)=ST:=⟨_,rfl⟩;rw[hST]at aOf HSI HCT;have bE9:Hid (nY p fa cs r=gV p.n (fun j=>ST j+eU r.bA p.aH j)):=by show nY _ _ _ _=_;unfold nY;congr 1;funext j;exact HCT.out j
  have HTO:Hid (nZ p fa cs r=(List.range p.n).map fun j=>ST j+eU r.bA p.aH j):=by show nZ _ _ _ _=_;unfold nZ;refine List.map_congr_left fun j _=>?_;exact HCT.out j
  clear hST;go_wp2_with fail;refine bDb _ oq _ C p.n ca off m.cI uX c12 f ST w2 x11 x1 aOf.out rfl rfl rfl ?_;intro L2 g gc FB w3 hg3 hF0 jN pC pD t18 t19;obtain⟨gL,rfl⟩:=pD.over (pC.trans rfl);clear pD pC;simp(decide:=true) only[ov,if_true,if_false,Nat.reduceAdd]at t18 t19⊢;replace t18:=kW t18;replace t19:=kW t19;rw[t18,t19];clear t18 t19;obtain⟨⟨hg1,hg2⟩,hgc,hgz⟩:=hg3;have HB3:Hid (bW w w3):=uN.out.trans (jN.mono uN.out.size);have hgw:w.heap.size<=g:=kG uN.out.size hg1;have HDR:Hid (DR w3 w3 g p.n ST):=⟨hgc,hgz,aU.refl _ _ _⟩;have x4:=aO y4 HB3.out;have hDw:=HR.out.bA.below HB3.out;have HDG:Hid (∀b off,a.da=some (aA b off)->0<r.bA.length->b≠g):=fun b off e h0=>by obtain⟨b',aLk,e',hb',_⟩:=HR.out.bA h0;rw[e]at e';cases e';omega
  have hCg:C≠g:=od;clear hgc hgz jN x11 x1 aOf HZ2 aOe;go_wp2_with fail;refine aVl _ oq _ C g p.n gc p.aH a.da a.dc r.bA ST w3 mR HDR.out hg2 hCg x4 HB.out.d0 HB.out.d1 hDw HDG.out HR.out.lD HSI.out rfl rfl rfl rfl rfl rfl rfl ?_ ?_
  ·intro L2 w4 hby aGt pC pD aVz;obtain⟨gL,rfl⟩:=pD.over (pC.trans rfl);clear pD pC;simp(decide:=true) only[ov,if_true,if_false,Nat.reduceAdd]at aVz⊢;replace aVz:=kW aVz;rw[aVz];clear aVz;have hB4:bW w w4:=⟨aGt.t.os.trans HB3.out.os,aGt.t.tape.trans HB3.out.tape,aGt.t.output.trans HB3.out.output,kG HB3.out.size aGt.t.size,fun c hc=>(aGt.t.block c (kB hc HB3.out.size) od od).trans (HB3.out.block c hc)⟩;have zQ:Hid (bW w w4):=hB4;have hc4:=HH.out.below hB4;have HG4:Hid (g<w4.heap.size/\∀j,j<p.n->w4.cell? (aA g j)=some (iI (ST j+eU r.bA p.aH j))):=⟨kB hg2 aGt.t.size,aGt.c⟩;have HFA:Hid (nY p fa cs r=false):=bE9.out.trans hby;have q6:=hc4.base.c6;have lC4:=hc4.base.lc;have hL4:=HR.out.aL5.below hB4;have hM4:=HR.out.bH.below hB4;have bIa:Hid (∀b off,a.la=some (aA b off)->b∉O):=fun b off e=>(HLA.out b off e).1;have bIb:Hid (∀b off,a.la=some (aA b off)->b<w4.heap.size):=fun b off e=>kB (HLA.out b off e).2 zQ.out.size;have HBR:Hid (p.ns<=32/\p.nl<=8/\1<=p.round/\p.round<=137438953472):=⟨HB.out.ns,HB.out.nl,HB.out.r0,HB.out.r1⟩;have bIn:Hid (∀i,i<p.ns->(0<=p.nd i/\p.nd i<p.nodes)/\0<=p.fr i/\p.fr i<=1099511627776):=fun i hi=>by obtain⟨t1,t3,t4⟩:=HB.out.slot i hi;have:=HB.out.r1;exact⟨t1,t3,od⟩
   have aOb:Hid (∀k,k<p.nl->0<=p.lf k/\0<=p.lb k/\p.lb k<=1099511627776):=fun k hk=>by obtain⟨⟨l1,_⟩,_,⟨l3,l4⟩,_⟩:=HB.out.link k hk;exact⟨l1,od,od⟩
   clear aGt hby hB4 hDw x4;go_wp2_with fail;refine aZl _ oq _ hc4 (r.hap fa) a.la r.nL a.lc r.ls r.lc r.lt a.ma a.mc r.bH m.sa rfl jB lK mR HBR.out.1 HBR.out.2.1 wS od hL4 bIa.out bIb.out HR.out.lL hM4 HMA.out HR.out.lM rfl (fun _=>rfl) (fun _ _ _=>rfl) sH uT HBR.out.2.2.1 HBR.out.2.2.2 bIn.out aOb.out rfl rfl rfl rfl rfl rfl rfl rfl ?_;intro L2 w5 hI5 pC pD t213;obtain⟨gL,rfl⟩:=pD.over (pC.trans rfl);clear pD pC;simp(decide:=true) only[ov,if_true,if_false,Nat.reduceAdd]at t213⊢;replace t213:=kW t213;rw[t213];clear t213;obtain⟨O5,hF5,hc5⟩:=hI5;have y16:=hc5.base.c16;have z16:=hc5.base.z 16;have z11:=hc5.base.z 11;have k11:=hc5.base.c11;have lC5:=hc5.base.lc;have hgO:g∉O:=fun y=>by have:=HH.out.lt g y;omega
   have bJm:g∉O5:=fun y=>by
    rcases hF5.fresh g y with q|q
    ·exact hgO q
    ·have:=HG4.out.1;omega
   have hgZ:g∉Z:=fun y=>by have:=HH.out.rows.zl g y;omega
   have hlen:(nZ p fa cs r).length=p.n:=by simp[nZ]
   have hg5:g<w5.heap.size:=kB HG4.out.1 hF5.size;have dI:=hc5.closed (g:=g) (gc:=gc) (cs':=nZ p fa cs r) hg5 bJm hgZ (fun j hj=>by
    rw[hlen]at hj
    rw[hF5.cell (p:=(aA g j)) HG4.out.1 hgO,HG4.out.2 j hj,HTO.out]
    simp[hj]) (rd+1)
   rw[hlen]at dI;obtain⟨bF9,aPe⟩:=dI;have hCO:=HH.out.mem;have lT:Hid (aDe w ((w5.setCell (aA C 16) (iI (rd+1))).setCell (aA C 11) (sL g p.n gc)) O Z C p fa cs s rd B m r (rT (iI 0))):=by
    refine⟨g::O5,⟨aPe.os.trans (hF5.os.trans zQ.out.os),aPe.tape.trans (hF5.tape.trans zQ.out.tape),aPe.output.trans (hF5.output.trans zQ.out.output),kG zQ.out.size (kG hF5.size aPe.size),fun c hc hn=>?_,fun c hc=>?_⟩,.inr ⟨HFA.out,rfl,_,bF9.more (by have:=HBR.out.1;omega)⟩⟩
    ·have hcC:c≠C:=fun e=>hn (e▸hCO);have h4:c<w4.heap.size:=kB hc zQ.out.size;exact(aPe.block c (kB h4 hF5.size) hcC hcC).trans ((hF5.block c h4 hn).trans (zQ.out.block c hc))
    ·rcases kN hc with y|y
     ·exact .inr (y▸hgw)
     ·rcases hF5.fresh c y with q|q
      ·exact .inl q
      ·exact .inr (kG zQ.out.size q)
   clear bF9 aPe hF5 hc5 hc4 hL4 hM4;go_wp2;go_ret;exact lT.out
  ·intro L2 w4 hby hT4 pC pD P5;obtain⟨gL,rfl⟩:=pD.over (pC.trans rfl);clear pD pC;simp(decide:=true) only[ov,if_true,if_false,Nat.reduceAdd]at P5⊢;replace P5:=kW P5;rw[P5];clear P5;have HFR:Hid (aDe w w4 O Z C p fa cs s rd B m r (rT (iI 6))):=by have hB4:bW w w4:=⟨hT4.os.trans HB3.out.os,hT4.tape.trans HB3.out.tape,hT4.output.trans HB3.out.output,kG HB3.out.size hT4.size,fun c hc=>(hT4.block c (kB hc HB3.out.size) od od).trans (HB3.out.block c hc)⟩;exact⟨O,aS.of_below hB4,.inl ⟨bE9.out.trans hby,rfl,HH.out.below hB4⟩⟩
   clear hby hT4;go_wp2;go_ret;exact HFR.out
 |have HAG:Hid (∀v,bW w v->Calls prog 125 #[pP C,r.val a] v fun e w'=>bW v w'/\aG4 v w' p.n (nY p fa cs r) (jM p.n f (aW fa) p.aC p.aH (fun i=>cs.getD i 0) r.reads r.bA) e):=fun v hv=>by
   have hc:=h.below hv;have b:=hc.base;have c0:=b.c0;have c1:=b.c1;have c11:=b.c11;rw[jB]at c0;rw[hf]at c1;rw[lF.len]at c11;have hag:=aGf C m.cb p.n m.cI f fa p.aC p.aH cs lF.len v c0 c1 b.c3 b.c4 b.c10 c11 b.ck lF.inn hf3 mR hb.j0 hb.j1 hb.d0 hb.d1 r a (hr.below hv);have e:f=p.aF.toNat:=by rw[hf];rfl
   unfold nY;rw[<-e];exact hag
  have HLO:Hid (∀v,bW w v->Calls prog 126 #[pP C,sV a.la r.nL a.lc] v fun e w'=>∃T,e=rT (sL T p.ns p.ns)/\v.heap.size<=T/\yF w' T p.ns (oV r r.nL)/\bW v w'):=fun v hv=>aOu C m.sa p.ns m.oD r a.la a.lc v (h.below hv).base.c6 hb.ns (hr.aL5.below hv) hr.lL;have HOF:Hid (∀(V wr:World) (s1:cA) (B1 j:Nat),dZ O V wr C p fa cs s1 rd B1 m->bW w V->Calls prog 128 #[sV a.ma r.bH.length a.mc,iI j] wr fun e w'=>e=rT (iI ((r.hap fa).mode j))/\w'=wr):=fun V wr s1 B1 j hI hV=>aNl a.ma a.mc r.bH j r.bH.length rfl hr.lM wr (fun h0=>by
   obtain⟨b,off,e,hl,hc⟩:=hr.bH h0
   have hn:=hma b off e h0
   have hlV:b<V.heap.size:=kB hl hV.size
   exact⟨b,off,e,kB hlV hI.size,fun x hx=>(hI.box hlV hn (off+x)).trans (bc hV hl (hc x hx))⟩)
  have H4:Hid (∀(O1:List Nat) (V wr:World) (s1:cA) (B1 i:Nat),dZ O1 V wr C p fa cs s1 rd B1 m->i<p.ns->1<=B1->B1<=9999000->Calls prog 127 #[pP C,iI i,iI ((r.hap fa).mode (p.S.nd i))] wr fun e w'=>∃mem aT LK SQ SD,e=rT (tU #[.agg #[iI (p.S.nd i:Nat),iI i,iI mem,iI LK,iI SQ,sT SD],.bool aT])/\((LK=gS (s1.goes p.S (r.hap fa) rd i).2/\SQ=dN (s1.goes p.S (r.hap fa) rd i).2/\SD=dE (s1.goes p.S (r.hap fa) rd i).2)/\tY p (s1.goes p.S (r.hap fa) rd i).2/\aT=s1.sends (r.hap fa) (p.S.nd i)/\(aT=true->mem=aZ (s1.pH p.S (r.hap fa) (p.S.nd i)) p.n))/\dZ O1 V w' C p fa cs (s1.mT p (r.hap fa) rd i) rd B1 m):=fun O1 V wr s1 B1 i hI hi h1 h2=>by
   obtain⟨⟨t1,t2⟩,t3,t4⟩:=hb.slot i hi;have:=hb.r1;exact aSt hI (r.hap fa) i _ hi rfl rfl t1 (by show(p.nd i).toNat<p.n;omega) jB mR h1 hb.r0 hb.r1 sH t3 od hb.nl od (fun k hk=>by
    obtain⟨⟨l1,_⟩,_,⟨l3,l4⟩,_⟩:=hb.link k hk
    exact⟨l1,od,od⟩)
  have HHE:Hid (∀(O1:List Nat) (V wr:World) (s1:cA) (B1 i:Nat) (mem LK SQ:Int) (SD:ByteArray) (aT:Bool),dZ O1 V wr C p fa cs (s1.mT p (r.hap fa) rd i) rd B1 m->i<p.ns->B1<=9999000->((LK=gS (s1.goes p.S (r.hap fa) rd i).2/\SQ=dN (s1.goes p.S (r.hap fa) rd i).2/\SD=dE (s1.goes p.S (r.hap fa) rd i).2)/\tY p (s1.goes p.S (r.hap fa) rd i).2/\aT=s1.sends (r.hap fa) (p.S.nd i)/\(aT=true->mem=aZ (s1.pH p.S (r.hap fa) (p.S.nd i)) p.n))->Calls prog 129 #[pP C,.agg #[iI (p.S.nd i:Nat),iI i,iI mem,iI LK,iI SQ,sT SD],.bool aT,.agg #[iI (oV r r.nL i 0),iI (oV r r.nL i 1)]] wr fun e w'=>e=rT (tU #[])/\dZ O1 V w' C p fa cs (s1.slot p.S (r.hap fa) rd i) rd (B1+80) m):=fun O1 V wr s1 B1 i mem LK SQ SD aT hI hi h2 hx=>by obtain⟨⟨t1,t2⟩,t3,t4⟩:=hb.slot i hi;refine(aX5 hI hx (by show(p.nd i).toNat<p.n;omega) mR h2 (fun j hj=>aCq r i 0 od r.nL) (fun j hj=>aCq r i 1 od r.nL)).mono ?_;rintro e w' ⟨he,qC⟩;exact⟨he,qC.more od⟩
  have HDN:Hid (∀v (O1:List Nat) (m1:wV) (s1:cA) g gc,Cl v O1 C p fa cs s1 rd (B+80*p.ns) m1->g<v.heap.size->g∉O1->(∀j,j<p.n->v.cell? (aA g j)=some (iI (jM p.n f (aW fa) p.aC p.aH (fun i=>cs.getD i 0) r.reads r.bA j)))->∃m',Cl ((v.setCell (aA C 12) (iI (rd+1))).setCell (aA C 11) (sL g p.n gc)) (g::O1) C p fa (nZ p fa cs r) s1 (rd+1) (B+2600) m'/\aU C C v ((v.setCell (aA C 12) (iI (rd+1))).setCell (aA C 11) (sL g p.n gc))):=fun v O1 m1 s1 g gc hc hg hgO sP=>by
   have e:f=p.aF.toNat:=by rw[hf];rfl
   have hlen:(nZ p fa cs r).length=p.n:=by simp[nZ]
   have:=hc.closed (g:=g) (gc:=gc) (cs':=nZ p fa cs r) hg hgO (fun j hj=>by
    rw[hlen]at hj
    rw[sP j hj]
    unfold nZ
    rw[<-e]
    simp[hj]) (rd+1)
   rw[hlen]at this;exact⟨_,this.1.more (by have:=hb.ns;omega),this.2⟩
  have HC0:Hid (Cl w O C p fa cs s rd B m):=h;have HSL:Hid (∀i,i<p.ns->∃b off,m.sa=some (aA b off)/\b∈m.X/\p.nd i=((p.S.nd i:Nat):Int)):=fun i hi=>by obtain⟨b,off,h1,h2,_⟩:=h.base.sl od;obtain⟨⟨t1,t2⟩,_⟩:=hb.slot i hi;exact⟨b,off,h1,h2,by show p.nd i=((p.nd i).toNat:Int);omega⟩
  have HRD:Hid (0<=rd/\rd<=1000000):=⟨sH,uT⟩;have HNS:Hid (p.ns<=32/\B<=9000000/\1<=B/\1<=p.n):=⟨hb.ns,hB,wS,lK⟩;have HON:Hid (aCe p fa s rd r=s.iM p.S (r.hap fa) rd p.ns):=rfl;generalize hFX:jM p.n f (aW fa) p.aC p.aH (fun i=>cs.getD i 0) r.reads r.bA=CT at HAG HDN;clear hFX;unfold cT.val at HAG⊢;have m42:=0;exact zJu):p:=h
theorem zNm(h:p:=by
 intro gq cq w3 cD uA jW aTd;have bP:=aFx uA;clear uA;obtain⟨r0,r1,r2,rc,rz⟩:=lT.out w3 bP;refine kp hK (fun aG=>?_) ⟨r0,r1,r2⟩;clear hK K
 first
 |have _:=bGv
  first|have _:=m69;refine tk 17 aG ?_;refine tk 18 aG ?_;refine eA 19 fun K hK=>?_|refine tk 18 aG ?_;refine tk 19 aG ?_;refine tk 20 aG ?_;refine eA 21 fun K hK=>?_
 |refine tk 7 aG ?_;refine eA 8 fun K hK=>?_
 go_simp;refine kp hK (fun aG=>?_) ⟨(aB (.inl qY.out)).trans r0,(aB (.inl qY.out)).trans r1,(aB (.inl qY.out)).trans r2⟩
 first
 |have _:=bGv;clear hK K;refine dn ?_
  first|have _:=m69;go_wp2;go_ret2|go_wp2_with fail;go_ret
  exact zIl
 |exact zHa):p:=h
theorem zNt(h:p:=by
 go_wp2_with fail;refine rH.mono ?_;rintro ev w2 ⟨rfl,qP⟩;replace qP:=qP.symm;subst qP;clear rH;go_wp2_with fail;refine R2.mono ?_;rintro ev w2 ⟨rfl,qP⟩;replace qP:=qP.symm;subst qP;clear R2
 first
 |have _:=bL2;rw[<-HW1.out]at hli;go_wp2_with fail;try rw[<-HW1.out]
  refine hli.mono ?_;rintro ev w2 ⟨rfl,q,qP⟩;clear hli;have aWw:Hid (RT w2 base (sL uX n c12) n n (fV r n fa aC cs x) G cap):=by rw[qP];exact aOe.out.drawn q
  have uN:Hid (Below base w w2):=by rw[qP];exact⟨oP.out.os,oP.out.tape,oP.out.output,oP.out.size,oP.out.block⟩
  have u0:w2.cell? (aA wr.heap.size 0)=some (iI a):=by rw[qP];exact z0
  have u1:w2.cell? (aA wr.heap.size 1)=some (iI d):=by rw[qP];exact z1
  have u2:w2.cell? (aA wr.heap.size 2)=some (iI E):=by rw[qP];exact z2
  clear qP z0 z1 z2;have ug:w2.cell? (aA uX a)=some (sV (some ⟨G a,0,none⟩) n (cap a)):=by have:=aWw.out.own.cells (g:=uX) rfl a (sV (some ⟨G a,0,none⟩) n (cap a)) (by simp[han]);exact zCx
  have uG:=aWw.out.cel a d han hdn;have vG:=aWw.out.zG a d han;have hGl:=aOe.out.lt a han;have hGr:=hRT.out.lt a han;have hXG:wr.heap.size≠G a:=od;have hgG:uX≠G a:=fun e=>hRT.out.no a han (by rw[<-e];rfl);have hCG:C≠G a:=od;have bBp:ca≠G a:=od;have lT:Hid (∀V:Int,(if aW fa d=true then cutV E 549755813888 else cs.getD d 0-cs.getD a 0+cutV E aC)=V->RT (w2.setCell ⟨G a,d,none⟩ (iI V)).drew base (sL uX n c12) n n (fV r n fa aC cs (x+1)) G cap/\Below base w (w2.setCell ⟨G a,d,none⟩ (iI V)).drew):=fun V hV=>⟨RT.drawn (q:=1) (aWw.out.set han hdn (fun i' j' _ _=>by rw[HRO.out,hV])),(uN.out.setCell (p:=⟨G a,d,none⟩) hGr.1 _).drew⟩;clear aOe hGl;cases wU:aW fa d
  ·have q0:=HIN.out a han;have q1:=HIN.out d hdn;have v11:=bc uN.out hCb y11;have vd:=bc uN.out hcb (HCK.out d hdn);have va:=bc uN.out hcb (HCK.out a han);have v3:=bc uN.out hCb hC3;have Z2:Hid _:=lT.out (cs.getD d 0-cs.getD a 0+cutV E aC) (by rw[wU,kI oe]);go_wp2_with fail;refine bDc _ oq _ C n uX c12 wr.heap.size (G a) (cap a) a d E _ ca off cI (cs.getD d 0) (cs.getD a 0) aC hj0 hj1 q0 q1 w2 aa dd u0 u1 u2 ug uG vG hXG hgG hCG bBp v11 vd va v3 rfl rfl rfl rfl ?_;exact zO3
  ·have Z2:Hid _:=lT.out (cutV E 549755813888) (by rw[wU,kJ rfl]);go_wp2_with fail;refine bD8 _ oq _ C n uX c12 wr.heap.size (G a) (cap a) a d E _ w2 aa dd u0 u1 u2 ug uG vG hXG hgG rfl rfl rfl rfl ?_;have bLl:=0;exact zO3
 |exact zIa):p:=h
theorem zNv(h:p:=by
 have HR:Hid (cV f s n d=true):=h
 first
 |have _:=bGz;clear h
  first|have _:=m92;go_enter func61,ntmps61|go_enter func60,ntmps60
 |have _:=m46;have HI:Hid (∀t,f<=t->t<=1099511627776->(l<=s+(t-f)*n/d↔T<=t)):=bBt;clear h bBt;go_enter func61,ntmps61
 |clear h;go_enter func60,ntmps60
 have bLv:=0;exact zPj):p:=h
theorem zNz(h:p:=by
 have HH:Hid (eH w P nw a b):=h
 first
 |have _:=aYe
  first|have _:=m89;obtain⟨MB,hMB⟩:∃MB,xF nw seq 127=MB:=⟨_,rfl⟩;rw[hMB];have HMB:Hid (xF nw seq 127=MB):=hMB;clear hMB|skip
 |skip
 obtain⟨c0,c1,c2,z,lp⟩:=h
 first
 |have _:=aYe;have z0:=z 0;have z1:=z 1
  first|have _:=m89;have z2:=z 2|skip
 |have z2:=z 2
 clear z;have hI:=wG seq 0 255 w
 first
 |have _:=aYe;rw[kD hs]at hI
  first|have _:=m89|have wC:decide (0<=nw)=false:=kC od;clear hs hn
 |rw[kC hs]at hI;clear hs
 go_enter func104,ntmps104;go_wp2_with fail;refine hI.mono ?_;rintro e w1 ⟨rfl,yS⟩;replace yS:=yS.symm;subst yS
 first
 |have _:=aYe
  first
  |have _:=m89;go_wp2_with fail;clear hI;go_loopw[21,6,5] (fun t av ov wr=>∃k:Nat,k<=127/\t=iI k/\av=iI (pA nw k)/\ov=.bool (xF nw seq k)/\wr=w) (fun t _ _ _=>127-(intOf t).toNat);case atStart=>exact⟨0,kH _,rfl,rfl,rfl,rfl⟩
   case round=>
    obtain⟨k,hk,rfl,rfl,rfl,Y0⟩:=hrel;subst Y0;by_cases hlt:k<127
    ·have kk:(k:Int)<127:=by omega
     have hx:=aD2 hn wC k;have HS:Hid (pA nw (k+1)=C4 (pA nw k)):=rfl;have HMt:Hid (xF nw seq (k+1)=(xF nw seq k||decide (pA nw (k+1)=seq))):=rfl;unfold C4 at HS;generalize pA nw k=x at hx HS⊢;by_cases aP8:x+1=256
     ·rw[kJ aP8]at HS;have h2:(x+1==256)=true:=by simpa using aP8
      obtain rfl:x=255:=od;clear aP8;cases hm:xF nw seq k
      ·rw[hm]at HMt;by_cases e:1=seq
       ·have e2:(1==seq)=true:=by simpa using e
        exact zHr
       ·have e2:(1==seq)=false:=by simpa using e
        exact zHq
      ·exact zHz
     ·rw[kI aP8]at HS;have h2:(x+1==256)=false:=by simpa using aP8
      clear aP8;cases hm:xF nw seq k
      ·rw[hm]at HMt;by_cases e:x+1=seq
       ·have e2:(x+1==seq)=true:=by simpa using e
        exact zHr
       ·have e2:(x+1==seq)=false:=by simpa using e
        exact zHq
      ·exact zHz
    ·obtain rfl:k=127:=by omega
     generalize pA nw 127=y;rw[HMB.out];clear HMB;cases MB
     ·exact zE8
     ·exact zD3
  |exact zD3
 |exact zE8):p:=h
theorem zN1(h:p:=by
 obtain⟨c0,c1,c2,c3,c4,c5,z,own,lp,lb,we⟩:=h;have k1:decide (t<0)=false:=kC od;have k2:decide (1099511627776<t)=false:=kC od
 first
 |have _:=bH0;have k3:decide (t<now)=false:=kC od
  first|have _:=m66;have k5:decide (t<I8 aP last bag)=false:=kC h5|skip
 |skip
 have lP:P<w.heap.size:=od
 first
 |have _:=bH0;have z3:=z 3;obtain⟨a,cap,rfl⟩:=eY own;have lK:all.length-aP<=10000000:=od
  first
  |have _:=m66;have k4:(((all.length-aP:Nat):Int)==0)=false:=ol;have HR:Hid (V.cell? ⟨w.heap.size,0,none⟩=some (.int .i64 0)/\V.cell? ⟨w.heap.size,1,none⟩=some (.string ⟨#[]⟩)/\∀i,V.frozen? ⟨w.heap.size,i,none⟩=false):=⟨r0,r1,rz⟩;have HG:Hid (∀c,(Value.slice a (all.length-aP) cap).ownBlock=some c->c<w.heap.size):=tE;clear z own h1 h2 h3 h5 c0 c1 c5 bMp we0 we hw HT0 tE hgb r0 r1 rz
  |unfold xV at h3;rw[Bool.or_eq_true,Bool.and_eq_true,decide_eq_true_eq,decide_eq_true_eq,decide_eq_true_eq]at h3;have h4:all.length-aP=0\/(all.length-aP≠0/\t<I8 aP last bag):=by
    rcases Nat.eq_zero_or_pos (all.length-aP)with q|q
    ·exact .inl q
    ·refine .inr ⟨od,?_⟩;rcases h3 with y|⟨y,y2⟩
     ·omega
     ·rw[show I8 aP last bag=last+bag from kI od];exact y2
   clear z own h1 h2 h3 c0 c1 c5
  generalize all.length-aP=n at *;generalize I8 aP last bag=fr at *
  first
  |have _:=m66;generalize all.getD aP ByteArray.empty=D at *;generalize mH aP=Y at *;go_enter func214,ntmps214;go_wp2_with fail;refine hR.mono ?_;rintro e W ⟨rfl,v',hS,hT,jW⟩;have aGv:w.heap.size≠P/\w.heap.size≠(Value.slice a n cap).ownBlock.getD P:=by
    refine⟨od,?_⟩
    cases e:(Value.slice a n cap).ownBlock with
    |none=>show w.heap.size≠P;omega
    |some g=>have:=HG.out g e;show w.heap.size≠g;omega
   have q0:=(hT.cell (p:=⟨w.heap.size,0,none⟩) (show w.heap.size<V.heap.size by omega) aGv.1 aGv.2).trans HR.out.1;have q1:=(hT.cell (p:=⟨w.heap.size,1,none⟩) (show w.heap.size<V.heap.size by omega) aGv.1 aGv.2).trans HR.out.2.1;have qz:∀i,W.frozen? ⟨w.heap.size,i,none⟩=false:=fun i=>(hT.frozen (p:=⟨w.heap.size,i,none⟩) (show w.heap.size<V.heap.size by omega) aGv.1 aGv.2).trans (HR.out.2.2 i);have qz0:=qz 0;have qz1:=qz 1;have lW:w.heap.size+1<=W.heap.size:=by have:=hT.size;omega
   have HS:Hid _:=hS;have HT:Hid _:=hT;have HA:Hid _:=jW;have HB:Hid (w.heap.size≠P/\w.heap.size≠(Value.slice a n cap).ownBlock.getD P):=aGv;clear hS hT jW aGv hR qz hV;go_wp2;have s0:((W.setCell ⟨w.heap.size,0,none⟩ (.int .i64 Y)).setCell ⟨w.heap.size,1,none⟩ (.string D)).cell? ⟨w.heap.size,0,none⟩=some (.int .i64 Y):=(aB (.inr oe)).trans (aY q0);have s1:((W.setCell ⟨w.heap.size,0,none⟩ (.int .i64 Y)).setCell ⟨w.heap.size,1,none⟩ (.string D)).cell? ⟨w.heap.size,1,none⟩=some (.string D):=aY ((aB (.inr oe)).trans q1);have ht5:aU w.heap.size w.heap.size W ((W.setCell ⟨w.heap.size,0,none⟩ (.int .i64 Y)).setCell ⟨w.heap.size,1,none⟩ (.string D)):=((aU.refl _ _ _).set (p:=⟨w.heap.size,0,none⟩) (.inl rfl) _).set (p:=⟨w.heap.size,1,none⟩) (.inl rfl) _;have bB7:=HS.out.keep (w':=(W.setCell ⟨w.heap.size,0,none⟩ (.int .i64 Y)).setCell ⟨w.heap.size,1,none⟩ (.string D)) ⟨ht5.size,fun c hc=>by
    rcases kN hc with y|y
    ·exact ht5.block c od od od
    ·rw[HA.out]at y
     have:=HG.out c Ea
     exact ht5.block c od od od⟩
   refine bodyPost_ret (v:=.tuple #[.agg #[.int .i64 Y,.string D],.nilIface]) (by simp[results,results214,go_sem,s0,s1]) rfl ⟨rfl,_,bB7,?_,HA.out⟩;have t2:=HV.out;have t3:=HT.out;exact⟨(ht5.os.trans t3.os).trans t2.os,(ht5.tape.trans t3.tape).trans t2.tape,(ht5.output.trans t3.output).trans t2.output,by have:=ht5.size;have:=t3.size;omega,fun c hc h1 h2=>((ht5.block c (by have:=t3.size;omega) od od).trans (t3.block c od h1 h2)).trans (t2.block c hc h1 h1)⟩
  |rcases h4 with h4|⟨h4,h5⟩
   ·subst h4;exact zD2
   ·have k4:((n:Int)==0)=false:=by simp;omega
    clear h4;exact zD2
 |clear z own h1 c0 c1 c2 c4 c5;go_enter func214,ntmps214;go_wp2;exact bodyPost_ret (v:=tU #[.agg #[iI 0,sT ⟨#[]⟩],.iface 25 (iI 10)]) En rfl ⟨rfl,(kX _ _).alloc (kF _) _⟩):p:=h
theorem zN5(h:p:=by
 obtain⟨v6,hv6⟩:∃v6,((v5.setCell (aA C 6) (sV a' p.ns cap')).setCell (aA C 7) (sV none 0 0)).setCell (aA C 9) (sV none 0 0)=v6:=⟨_,rfl⟩
 first
 |have _:=bL7;rw[hv6]at HX⊢;clear e6 e7 e9 g6 g7 g9 hC5 hv6 HBo;have s2:=bc HX.out.bel tQ b2;have hl6:w.heap.size<v6.heap.size:=kB tQ HX.out.bel.size;have U5:Hid (bW w v6):=HBV.out.1.trans (HX.out.bel.mono HBV.out.1.size);have W8:=fun(q:Nat)=>aGi ca cap n cs aS6.out (v6.drewN q) (HIn.out.2.below ⟨U5.out.os,U5.out.tape,U5.out.output,U5.out.size,U5.out.block⟩) od;have H2:Hid (∀v,bW w v->¬((∀c∈cs,-274877906944<=c/\c<=274877906944)/\dA (dW fa cs)<=p.aJ)->wY w p fa cs (rT (tU #[.pointer none,.iface 25 (iI 2)])) v):=fun v hv hb=>⟨hv,2,-1,.inr ⟨HIs.out,rfl,.inr ⟨HOk.out,.inr ⟨by rw[L8.out];exact aS6.out,.inl ⟨hb,rfl⟩⟩⟩⟩,.inl ⟨oe,_,rfl,.inr (.inl ⟨rfl,oe,rfl⟩)⟩⟩
  by_cases hF:cs.any iW=true
  ·have HNo:Hid (¬((∀c∈cs,-274877906944<=c/\c<=274877906944)/\dA (dW fa cs)<=p.aJ)):=fun y=>by obtain⟨c,hc,ht⟩:=List.any_eq_true.1 hF;have:=y.1 c hc;unfold iW at ht;have:=of_decide_eq_true ht;omega
   rw[hF]at W8;refine wp_region_noPanic ?_;refine wp_region_held_drew (S:=fun _=>True) og trivial (fun aG=>?_);refine tk 0 aG ?_;refine eA 1 fun Kq hK=>?_;go_simp;(go_at_call 117;refine(W8 1).mono ?_;rintro e v7 ⟨rfl,hB7⟩;have HB7:Hid (bW w v7):=(by have h6:=U5.out;exact h6.trans ⟨hB7.os,hB7.tape,hB7.output,hB7.size,fun c hc=>hB7.block c (kB hc h6.size)⟩);clear hB7);refine kp hK (fun aG=>?_) trivial;clear hK Kq;refine tk 2 aG ?_;refine oM (fuel:=1) og (fun _ _ _ _ h=>h) aG [(3,62),(4,63),(5,64),(6,65),(7,66)] og ?_;exact zMo
  ·have hF':cs.any iW=false:=by simpa using hF
   have bA6:Hid (∀c∈cs,-274877906944<=c/\c<=274877906944):=fun c hc=>by have:=List.any_eq_false.1 hF' c hc;unfold iW at this;have:¬(c< -274877906944\/274877906944<c):=fun y=>this (kD y);omega
   rw[hF']at W8;obtain⟨SP,hSP⟩:∃SP,dA (dW fa cs)=SP:=⟨_,rfl⟩;have HSP:Hid (dA (dW fa cs)=SP):=hSP;by_cases hS:p.aJ<SP
   ·have kS:decide (p.aJ<SP)=true:=kD hS;have HNo:Hid (¬((∀c∈cs,-274877906944<=c/\c<=274877906944)/\dA (dW fa cs)<=p.aJ)):=fun y=>by have:=y.2;rw[hSP]at this;omega
    exact zJr
   ·have kS:decide (p.aJ<SP)=false:=kC hS;have bIp:Hid ((∀c∈cs,-274877906944<=c/\c<=274877906944)/\dA (dW fa cs)<=p.aJ):=⟨bA6.out,by rw[hSP];omega⟩;have m39:=0;exact zJr
 |rw[hv6];have hT:aU C C v5 v6:=by rw[<-hv6];exact(((aU.refl _ _ v5).set (p:=(aA C 6)) (.inl rfl) _).set (p:=(aA C 7)) (.inl rfl) _).set (p:=(aA C 9)) (.inl rfl) _
  have s5:=k.size;have s6:=hT.size;have hVs:=h.bel.size;have sG:=h.lC;have hlc:=h.lc;have cc:∀i u,(#[iI n,iI p.aF,iI p.aJ,iI p.aC,iI p.aH,iI p.round,sV a.sa p.ns a.sc,sV a.la p.nl a.lc,iI p.frame,sV a.wa p.nw a.wc,iI fa,sL cb n cI,iI 0,sV none 0 0,sV none 0 0]:Array Value)[i]?=some u->i≠6->i≠7->i≠9->v6.cell? (aA C i)=some u:=fun i u hi h6 h7 h9=>by rw[<-hv6,aB (.inr h9),aB (.inr h7),aB (.inr h6)];exact bc k sG (h.cel i u hi)
  have c6:v6.cell? (aA C 6)=some (sV a' p.ns cap'):=by rw[<-hv6,aB (.inr oe),aB (.inr oe)];exact aY (bc k sG (h.cel 6 _ rfl))
  have hb:∀b,b<v5.heap.size->b≠C->∀i,v6.cell? (aA b i)=v5.cell? (aA b i):=fun b hb hn i=>hT.cell (p:=(aA b i)) hb hn hn;refine⟨cb::(a'.map Addr.block).toList,?_,?_,fun i=>?_,cc 13 _ rfl oe oe oe,cc 14 _ rfl oe oe oe,⟨od,od⟩,fun c hc=>?_⟩
  ·exact(h.bel.trans (k.mono hVs)).trans (hT.below od od od)
  ·refine⟨by rw[hn];exact cc 0 _ rfl oe oe oe,cc 1 _ rfl oe oe oe,cc 3 _ rfl oe oe oe,cc 4 _ rfl oe oe oe,cc 5 _ rfl oe oe oe,c6,cc 10 _ rfl oe oe oe,by rw[hl];exact cc 11 _ rfl oe oe oe,cc 12 _ rfl oe oe oe,fun j hj=>?_,kQ,fun h0=>?_⟩
   ·rw[hb cb od od];exact bc k (by show cb<_;omega) (h.ck j hj)
   ·obtain⟨b,off,e,gX,hc⟩:=hr h0;have hbb:=hf b off none e;refine⟨b,off,e,by rw[e];exact kO _ (List.mem_singleton.2 rfl),fun i hi=>?_⟩;rw[hb b gX od,hb b gX od,hb b gX od];exact hc i hi
  ·rw[<-hv6];exact(bI.trans (bI.trans bI)).trans ((k.frozen (p:=(aA C i)) sG).trans (h.z i))
  ·rcases kN hc with y|y
   ·omega
   ·cases ha:a' with
    |none=>rw[ha]at y;simp at y
    |some ad=>
     rw[ha]at y
     have hcb:c=ad.block:=Ea
     have:=hf ad.block ad.off ad.spot (by rw[ha])
     omega):p:=h
theorem zN6(h:p:=by
 go_wp2_with fail;refine hi.mono ?_;rintro e w1 ⟨rfl,hw⟩;replace hw:=hw.symm;subst hw;clear hi;go_wp2_with fail
 first
 |have _:=bH2
  first|have _:=bGh;refine hl.mono ?_|refine(HM.out _ (kX _ _)).mono ?_;rintro e w1 ⟨rfl,hw⟩;replace hw:=hw.symm;subst hw;go_wp2_with fail;refine(HF.out _ (kX _ _)).mono ?_
 |refine hl.mono ?_
 rintro e w1 ⟨rfl,hw⟩;replace hw:=hw.symm;subst hw
 first
 |have _:=bH2
  first|have _:=bGh;clear hl;exact zIm|go_wp2;exact bodyPost_ret (v:=tU #[iI bv,.bool fz,.nilIface]) (by simp[results,results78,go_sem]) rfl ⟨rfl,kX _ _⟩
 |clear hl;go_wp2_with fail;refine hp.mono ?_;rintro e w1 ⟨rfl,OQ',q1,q2⟩;have HD:=HBK.out w1 OQ' q1 q2;clear HBK q1 q2 hp c14 l0 l1 l2;go_wp2;go_ret2;exact⟨rfl,HD⟩):p:=h
theorem zN7(h:p:=by
 obtain⟨tN,hV⟩:=aSi nodes aF aJ aC aH round frame sa la wa ns sc nl lc nw wc w 51
 first|have _:=aYf;have HNN:Hid (∀x∈dP nodes aF aJ aC aH round frame ns nl nw nd fr tq lf lt lb lq wp wf wt,0<=x/\x<=1099511627776):=jB;clear jB;replace hs:=hs.below hV;replace hl:=hl.below hV;replace hw:=hw.below hV|have HE:Hid (E≠0):=hE;clear hE
 go_enter func67,ntmps67;go_wp2_with fail
 first|have _:=aYf;generalize w.alloc (.cells #[iI nodes,iI aF,iI aJ,iI aC,iI aH,iI round,sV sa ns sc,sV la nl lc,iI frame,sV wa nw wc] 51)=V at tN hV hs hl hw⊢|generalize w.alloc (.cells #[iI nodes,iI aF,iI aJ,iI aC,iI aH,iI round,sV sa ns sc,sV la nl lc,iI frame,sV wa nw wc] 51)=V at tN hV⊢
 refine(hc V hV).mono ?_
 first|have _:=aYf;clear hc|skip
 rintro ev w1 ⟨X,rfl,hX,dB⟩
 first
 |have _:=aYf;obtain rfl:X=.nilIface:=by
   rcases hX with⟨h,_⟩|⟨_,h,_⟩|⟨_,_,h,_⟩
   ·exact h
   ·exact absurd rfl h
   ·exact absurd rfl h
  clear hX;replace hs:=hs.below dB;replace hl:=hl.below dB;replace hw:=hw.below dB;replace tN:=tN.below dB;replace hV:=hV.trans (dB.mono hV.size);clear dB;obtain⟨x0,x1,x2,x3,x4,x5,x6,x7,x8,x9⟩:=tN.below (kX _ _);go_wp2_with fail;refine(rP w1.heap.size _ [] [nodes,aF,aJ,aC,aH,round] _ _ w1 _ rfl rfl (World.ownsRow_nil _ _ _ _) (kF _) (fun x hx=>HNN.out x (by simp[dP];simp at hx;omega)) oh oh).mono ?_;rintro ev w2 ⟨v2,rfl,ho2,xR,jX⟩;rw[List.nil_append]at ho2;have bFm:Hid (w2.ownsRow w1.heap.size 5 1 v2 (bytesOf ([nodes,aF,aJ,aC,aH,round])).length ((bytesOf ([nodes,aF,aJ,aC,aH,round])).map (Value.int .u8))):=ho2;clear ho2 x0 x1 x2 x3 x4 x5 x6 x7 x8 x9;obtain⟨x0,x1,x2,x3,x4,x5,x6,x7,x8,x9⟩:=tN.below xR;clear x0 x1 x2 x3 x4 x5 x7 x8 x9;go_wp2_with fail;refine(rP w1.heap.size _ _ [(ns:Int)] _ _ w2 _ rfl rfl bFm.out od (fun x hx=>HNN.out x (by simp[dP];simp at hx;omega)) (by have:=iY [nodes,aF,aJ,aC,aH,round];simp at this;omega) oh).mono ?_;rintro ev w3 ⟨v3,rfl,ho3,uQ,hz3⟩;replace uQ:=xR.trans uQ;have bJw:Hid (w3.ownsRow w1.heap.size 5 1 v3 (bytesOf ([nodes,aF,aJ,aC,aH,round,(ns:Int)]++bX nd fr tq 0)).length ((bytesOf ([nodes,aF,aJ,aC,aH,round,(ns:Int)]++bX nd fr tq 0)).map (Value.int .u8))):=by show World.ownsRow _ _ _ _ _ _ _;rw[<-nW]at ho3;simpa[bX]using ho3
  clear bFm ho3 x6 xR jX hz3;obtain⟨x0,x1,x2,x3,x4,x5,x6,x7,x8,x9⟩:=tN.below uQ;clear x0 x1 x2 x3 x4 x5 x7 x8 x9;have MS:Hid (∀k,k<ns->∀x∈[nd k,fr k,tq k],0<=x/\x<=1099511627776):=fun k hk x hx=>HNN.out x (aU6 hk hx);have ML:Hid (∀k,k<nl->∀x∈[lf k,lt k,lb k,lq k],0<=x/\x<=1099511627776):=fun k hk x hx=>HNN.out x (aU5 hk hx);have MW:Hid (∀k,k<nw->∀x∈[wp k,wf k,wt k],0<=x/\x<=1099511627776):=fun k hk x hx=>HNN.out x (aYn hk hx);have MO:Hid (∀x∈[(nl:Int),frame,(nw:Int)],0<=x/\x<=1099511627776):=fun x hx=>HNN.out x (aQ1 hx);clear HNN;go_wp2_with fail;go_loopw[5,40] (fun v t wr=>∃k:Nat,k<=ns/\t=iI k/\Hid (wr.ownsRow w1.heap.size 5 1 v (bytesOf ([nodes,aF,aJ,aC,aH,round,(ns:Int)]++bX nd fr tq k)).length ((bytesOf ([nodes,aF,aJ,aC,aH,round,(ns:Int)]++bX nd fr tq k)).map (Value.int .u8)))/\bW w1 wr) (fun _ t _=>ns-(intOf t).toNat);case atStart=>exact⟨0,kH _,rfl,bJw,uQ⟩
  case round=>
   obtain⟨k,hk,rfl,ho,bT⟩:=hrel;have hbz:=bT.size;rcases(show k<ns\/ns=k by omega)with hlt|hkk
   ·obtain⟨b,off,rfl,hb,dI⟩:=hs od;exact zKu
   ·subst hkk;clear hk;obtain⟨x0,x1,x2,x3,x4,x5,x6,x7,x8,x9⟩:=tN.below bT;clear x0 x1 x2 x3 x4 x5 x6 x8 x9;go_wp2_with fail;refine(rP w1.heap.size _ _ [(nl:Int)] _ _ wr _ rfl rfl ho.out od (fun x hx=>MO.out x (by simp at hx⊢;omega)) (kG (iY _) (by simp[sA];omega)) oh).mono ?_;rintro ev w5 ⟨v5,rfl,ho5,hB5,hz5⟩;replace hB5:=bT.trans hB5;have bJx:Hid (w5.ownsRow w1.heap.size 5 1 v5 (bytesOf ([nodes,aF,aJ,aC,aH,round,(ns:Int)]++bX nd fr tq ns++[(nl:Int)]++fN lf lt lb lq 0)).length ((bytesOf ([nodes,aF,aJ,aC,aH,round,(ns:Int)]++bX nd fr tq ns++[(nl:Int)]++fN lf lt lb lq 0)).map (Value.int .u8))):=by show World.ownsRow _ _ _ _ _ _ _;rw[<-nW]at ho5;simpa[fN]using ho5
    clear ho ho5 x7 bT hbz hz5;obtain⟨x0,x1,x2,x3,x4,x5,x6,x7,x8,x9⟩:=tN.below hB5;clear x0 x1 x2 x3 x4 x5 x6 x8 x9;go_wp2_with fail;rename World=>wy
    go_loopw[5,65] (fun v t wr=>∃k:Nat,k<=nl/\t=iI k/\Hid (wr.ownsRow w1.heap.size 5 1 v (bytesOf ([nodes,aF,aJ,aC,aH,round,(ns:Int)]++bX nd fr tq ns++[(nl:Int)]++fN lf lt lb lq k)).length ((bytesOf ([nodes,aF,aJ,aC,aH,round,(ns:Int)]++bX nd fr tq ns++[(nl:Int)]++fN lf lt lb lq k)).map (Value.int .u8)))/\bW w1 wr) (fun _ t _=>nl-(intOf t).toNat);case atStart=>exact⟨0,kH _,rfl,bJx,hB5⟩
    case round=>
     obtain⟨k,hk,rfl,ho,bT⟩:=hrel;have hbz:=bT.size;rcases(show k<nl\/nl=k by omega)with hlt|hkk
     ·obtain⟨b,off,rfl,hb,dI⟩:=hl od;obtain⟨r0,r1,r2,r3⟩:=dI k hlt;exact zMf
     ·subst hkk;clear hk;obtain⟨x0,x1,x2,x3,x4,x5,x6,x7,x8,x9⟩:=tN.below bT;clear x0 x1 x2 x3 x4 x5 x6 x7;go_wp2_with fail;refine(rP w1.heap.size _ _ [frame,(nw:Int)] _ _ wr _ rfl rfl ho.out od (fun x hx=>MO.out x (by simp at hx⊢;omega)) (kG (iY _) Jc) oh).mono ?_;rintro ev w6 ⟨v6,rfl,ho6,hB6,hz6⟩;replace hB6:=bT.trans hB6;have bJy:Hid (w6.ownsRow w1.heap.size 5 1 v6 (bytesOf ([nodes,aF,aJ,aC,aH,round,(ns:Int)]++bX nd fr tq ns++[(nl:Int)]++fN lf lt lb lq nl++[frame,(nw:Int)]++bX wp wf wt 0)).length ((bytesOf ([nodes,aF,aJ,aC,aH,round,(ns:Int)]++bX nd fr tq ns++[(nl:Int)]++fN lf lt lb lq nl++[frame,(nw:Int)]++bX wp wf wt 0)).map (Value.int .u8))):=by show World.ownsRow _ _ _ _ _ _ _;rw[<-nW]at ho6;simpa[bX]using ho6
      clear ho ho6 x8 x9 bT hbz hz6;obtain⟨x0,x1,x2,x3,x4,x5,x6,x7,x8,x9⟩:=tN.below hB6;clear x0 x1 x2 x3 x4 x5 x6 x7 x8;go_wp2_with fail;rename World=>wz
      go_loopw[5,92] (fun v t wr=>∃k:Nat,k<=nw/\t=iI k/\Hid (wr.ownsRow w1.heap.size 5 1 v (bytesOf ([nodes,aF,aJ,aC,aH,round,(ns:Int)]++bX nd fr tq ns++[(nl:Int)]++fN lf lt lb lq nl++[frame,(nw:Int)]++bX wp wf wt k)).length ((bytesOf ([nodes,aF,aJ,aC,aH,round,(ns:Int)]++bX nd fr tq ns++[(nl:Int)]++fN lf lt lb lq nl++[frame,(nw:Int)]++bX wp wf wt k)).map (Value.int .u8)))/\bW w1 wr) (fun _ t _=>nw-(intOf t).toNat);case atStart=>exact⟨0,kH _,rfl,bJy,hB6⟩
      case round=>
       obtain⟨k,hk,rfl,ho,bT⟩:=hrel;have hbz:=bT.size;rcases(show k<nw\/nw=k by omega)with hlt|hkk
       ·obtain⟨b,off,rfl,hb,dI⟩:=hw od;have m78:=0;exact zKu
       ·subst hkk;clear hk;have gX:=iY ([nodes,aF,aJ,aC,aH,round,(ns:Int)]++bX nd fr tq ns++[(nl:Int)]++fN lf lt lb lq nl++[frame,(nw:Int)]++bX wp wf wt nw);simp only[List.length_append,sA,F6,List.length_cons,List.length_nil]at gX;have hbp:1<=(bytesOf ([nodes,aF,aJ,aC,aH,round,(ns:Int)]++bX nd fr tq ns++[(nl:Int)]++fN lf lt lb lq nl++[frame,(nw:Int)]++bX wp wf wt nw)).length:=aGc _ oh;obtain⟨N,hN⟩:∃N,(bytesOf ([nodes,aF,aJ,aC,aH,round,(ns:Int)]++bX nd fr tq ns++[(nl:Int)]++fN lf lt lb lq nl++[frame,(nw:Int)]++bX wp wf wt nw)).length=N:=⟨_,rfl⟩;have hoN:=ho.out;rw[hN]at hoN hbp gX;have HNL:Hid ((bytesOf ([nodes,aF,aJ,aC,aH,round,(ns:Int)]++bX nd fr tq ns++[(nl:Int)]++fN lf lt lb lq nl++[frame,(nw:Int)]++bX wp wf wt nw)).length=N):=hN;obtain⟨g1,aX2,rfl,hg1,rH⟩:=pX hoN hbp;have HON:Hid (World.ownsRow _ _ _ _ _ _ _):=hoN;have bJg:decide ((2000:Int)<(N:Int))=false:=kC od;clear rH ho hN hoN;go_wp2;go_ret2;refine⟨_,rfl,?_,hV.trans (bT.mono hV.size)⟩;have e:dP nodes aF aJ aC aH round frame ns nl nw nd fr tq lf lt lb lq wp wf wt=[nodes,aF,aJ,aC,aH,round,(ns:Int)]++bX nd fr tq ns++[(nl:Int)]++fN lf lt lb lq nl++[frame,(nw:Int)]++bX wp wf wt nw:=rfl;rw[e,HNL.out];exact d6 HON.out hV.size
 |have HX:Hid (jK w1 X E I):=hX;rcases hX with⟨_,h0,_⟩|⟨rfl,_,_⟩|⟨b,rfl,_⟩
  ·exact absurd h0 HE.out
  ·go_wp2;go_ret2;exact⟨_,rfl,HX.out,hV.trans (dB.mono hV.size)⟩
  ·go_wp2;go_ret2;exact⟨_,rfl,HX.out,hV.trans (dB.mono hV.size)⟩):p:=h
theorem zN9(h:p:=by
 obtain rfl:=dQ;clear mP;conv=>arg 2;arg 1;whnf
 have wW:Hid _:=cN;have HRT:Hid _:=aY1
 first|(have _:=aQ0;obtain⟨fL,rfl⟩:=lit L 452 tC;replace s0:=aX s0;replace s3:=aX s3;replace s10:=aX s10;replace s18:=aX s18;replace bDk:=aX bDk;replace bDl:=aX bDl;simp only[List.range,List.range.loop,List.map_cons,List.map_nil,s0,s3,s10,s18,bDk,bDl];have HR:Hid (bE w da bA):=hr;have HRG:Hid (∀b off,da=some (aA b off)->0<bA.length->b≠g):=hrg;have HF:Hid (∀j,j<n->-4398046511104<=f j/\f j<=4398046511104):=hf;have HD:Hid (DR w w g n f):=hD;have sG:C<w.heap.size:=lt_of_cell hcd;clear cN aY1 hr hrg hf hD;go_loopw[177,10] (fun a e0 wr=>∃i:Nat,i<=n/\a=iI i/\e0=iI 0/\Hid (DR w wr g n (fun j=>if j<i then f j+eU bA aH j else f j))/\Hid (gV i (fun j=>f j+eU bA aH j)=false)) (fun a _ _=>n-(intOf a).toNat);case atStart=>exact⟨0,kH _,rfl,rfl,HD.out.same (fun j _=>by rw[kI (kT _)]),rfl⟩)|obtain⟨fL,rfl⟩:=lit L 139 tC;replace s6:=aX s6;replace s7:=aX s7;replace s81:=aX s81;replace s82:=aX s82;replace s83:=aX s83;simp only[List.range,List.range.loop,List.map_cons,List.map_nil,s6,s7,s81,s82,s83];have HR:Hid (bE w ca cs):=hr;have C8:Hid (cs.length=n):=hlen;have lR:RB<w.heap.size:=lt_of_cell r0;clear cN aY1 hr hlen;go_loopw[83,6] (fun a b wr=>∃i:Nat,i<=n/\a=iI i/\b=.pointer none/\wr=w/\Hid (∀j,j<i->-274877906944<=cs.getD j 0/\cs.getD j 0<=274877906944)) (fun a _ _=>n-(intOf a).toNat);case atStart=>exact⟨0,kH _,rfl,rfl,rfl,fun j hj=>absurd hj (kT _)⟩
 case round=>
  first|have _:=aQ0;obtain⟨i,hi,rfl,rfl,hDR,bT⟩:=hrel;skip|obtain⟨i,hi,rfl,rfl,Y0,eE⟩:=hrel;subst Y0
  by_cases hlt:i<n
  ·have ii:(i:Int)<(n:Int):=by omega
   first
   |have _:=aQ0;have yg:wr.cell? (aA g i)=some (iI (f i)):=by have:=hDR.out.c i hlt;rw[kI (kU _)]at this;exact this
    have zg:=hDR.out.z i;have y4:wr.cell? (aA C 4)=some (iI aH):=(hDR.out.t.cell (p:=(aA C 4)) sG hgC hgC).trans hcd;have lgr:g<wr.heap.size:=kB tE hDR.out.t.size;have lcr:C<wr.heap.size:=kB sG hDR.out.t.size;obtain⟨b1,b2⟩:=HF.out i hlt;have hdv:=N0 (bA:=bA) hd0 i;have HBS:Hid (gV (i+1) (fun j=>f j+eU bA aH j)=(gV i (fun j=>f j+eU bA aH j)||decide (f i+eU bA aH i< -274877906944\/274877906944<f i+eU bA aH i))):=aDo _ _;obtain⟨DV,hDV⟩:∃DV,eU bA aH i=DV:=⟨_,rfl⟩;have HDV:Hid (eU bA aH i=DV):=hDV;rw[hDV]at HBS hdv;have HIN:=wG (f i+DV) (-274877906944) 274877906944;have aS5:Hid (∀v:World,Calls prog 53 #[iI (f i+DV),iI (-274877906944),iI 274877906944] v fun e w'=>e=rT (.bool (decide (-274877906944<=f i+DV/\f i+DV<=274877906944)))/\w'=v):=HIN;clear HIN hDV;by_cases hdl:i<bA.length
   |obtain⟨b,off,rfl,gX,hc⟩:=HR.out (by rw[C8.out];omega);have y0:=hc i (by rw[C8.out];exact hlt);have hca:=wG (cs.getD i 0) (-274877906944) 274877906944 wr;by_cases hk:-274877906944<=cs.getD i 0/\cs.getD i 0<=274877906944
   ·first
    |have _:=aQ0;have hdd:DV=cutV (bA.getD i 0) aH:=by rw[<-HDV.out];unfold eU;rw[kJ hdl]
     obtain⟨b,off,rfl,gX,hc⟩:=HR.out od;have hbg:=HRG.out b off rfl od;have yd:wr.cell? (aA b (off+i))=some (iI (bA.getD i 0)):=(hDR.out.t.cell (p:=(aA b (off+i))) gX hbg hbg).trans (hc i hdl);have kd:(i:Int)<(bA.length:Int):=od;have hcut:∀v:World,Calls prog 99 #[iI (bA.getD i 0),iI aH] v fun e w'=>e=rT (iI DV)/\w'=v:=fun v=>by have:=G0 (bA.getD i 0) aH hd0 od v;rw[<-hdd]at this;exact this
     have aB7:Hid _:=hcut;have HD2:Hid (DR w (wr.setCell (aA g i) (iI (f i+DV))).drew g n (fun j=>if j<i+1 then f j+eU bA aH j else f j)):=DR.drawn (q:=1) (hDR.out.set (fun j hj=>by
      by_cases e:j=i
      ·subst e;rw[kJ (Nat.lt_succ_self _),kJ rfl,HDV.out]
      ·rw[kI e]
       by_cases e2:j<i
       ·rw[kJ od,kJ e2]
       ·rw[kI od,kI e2]))
     clear hc hdd hcut;generalize bA.getD i 0=DI at *;generalize f i=FI at *;go_wp2_with fail;refine bD7 _ oq _ C g n gc b off bA.length dc i aH FI DI DV wr ii kd yg zg y4 yd b1 b2 od od aB7.out rfl rfl rfl rfl rfl ?_;intro L2  pC pD;have bKp:=0;exact zMr
    |rw[kD hk]at hca;have HIN:Hid (∀j,j<i+1->-274877906944<=cs.getD j 0/\cs.getD j 0<=274877906944):=fun j hj=>by
      by_cases e:j=i
      ·subst e;exact hk
      ·exact eE.out j od
     exact zL7
   ·first
    |have _:=aQ0;have hdd:DV=0:=by rw[<-HDV.out];unfold eU;rw[kI hdl]
     have bAs:Hid (DR w wr g n (fun j=>if j<i+1 then f j+eU bA aH j else f j)):=hDR.out.same (fun j hj=>by
      by_cases e:j=i
      ·subst e;rw[kJ (Nat.lt_succ_self _),kI (kU _),HDV.out,hdd];omega
      ·by_cases e2:j<i
       ·rw[kJ od,kJ e2]
       ·rw[kI od,kI e2])
     have kd:decide ((i:Int)<(bA.length:Int))=false:=kC od;have kd2:decide (i<bA.length)=false:=kC hdl;subst hdd;rw[Int.add_zero]at HBS aS5;generalize f i=FI at *;clear hdl;by_cases eE:-274877906944<=FI/\FI<=274877906944
     ·have HC:Hid (gV (i+1) (fun j=>f j+eU bA aH j)=false):=by exact zGi
      have aA5:=aS5.out wr;exact zC8
     ·have HC:Hid (gV n (fun j=>f j+eU bA aH j)=true):=by exact zFe
      have aA5:=aS5.out wr;exact zC5
    |rw[kC hk]at hca;have HNO:Hid (¬(∀c∈cs,-274877906944<=c/\c<=274877906944)):=fun y=>hk (y _ (rG (by rw[C8.out];exact hlt)));have bKf:=0;exact zL7
  ·obtain rfl:i=n:=by omega
   go_wp2
   first
   |have _:=aQ0;exact wW.out _ _ bT.out (hDR.out.same (fun j hj=>by rw[kJ hj])) rfl (Rest.of rfl) rfl
   |exact wW.out _ _ (fun c hc=>by
     obtain⟨j,hj,e⟩:=List.getElem_of_mem hc
     have:=eE.out j (by rw[<-C8.out];exact hj)
     rw[List.getD_eq_getElem?_getD,List.getElem?_eq_getElem hj,Option.getD_some,e]at this
     exact this) rfl rfl (Rest.of rfl) rfl):p:=h
theorem zOa(h:p:=by
 have HS:Hid (iG w base S M O st A N):=h
 first|have _:=bH4;have HR:Hid (mY w M a n):=hr;have qY:Hid (∀b off,a=some (aA b off)->0<n.length->b≠S):=fun b off e h0=>hr.neH h e h0;have HN:Hid (n.length<=20000):=hn;clear h hr hn dI|clear hblk h
 go_enter func15,ntmps15;go_wp2;go_ret2;have hd:=HS.out;have hS:S∈M++O:=kK (.inl hd.r.s)
 first
 |have _:=bH4
  first
  |have _:=m70;refine⟨{ st with next:={ st.next with bH:=n } },.ok Kd.qL.name,M,O,{ A with ma:=a,mc:=cap },⟨rfl,rfl⟩,rfl,bQ hS _,?_,cH hd.blk _⟩;have hr:=hd.rest (w':=w.setCell (aA S 14) (sV a n.length cap)) oh (fun c hc=>by simp only[cJ hc]);have fE:bE (w.setCell (aA S 14) (sV a n.length cap)) a n:=fun h0=>by obtain⟨b,off,e,hl,hc⟩:=HR.out.1 h0;exact zB3
   exact { hr.later (kR N)with rM:=fE,bM:=fun b off e h0=>⟨(HR.out.2 b off e h0).1,Jl⟩,nM:=HN.out }
  |refine⟨{ st with next:={ st.next with bA:=n } },.ok Kd.mF.name,M,O,{ A with da:=a,dc:=cap },⟨rfl,rfl⟩,rfl,bQ hS _,?_,cH hd.blk _⟩;have hr:=hd.rest (w':=w.setCell (aA S 13) (sV a n.length cap)) oh (fun c hc=>by simp only[cJ hc]);have fE:bE (w.setCell (aA S 13) (sV a n.length cap)) a n:=fun h0=>by obtain⟨b,off,e,hl,hc⟩:=HR.out.1 h0;exact zB3
   exact { hr.later (kR N)with rD:=fE,bD:=fun b off e h0=>⟨(HR.out.2 b off e h0).1,Jl⟩,nD:=HN.out }
 |obtain⟨U,hU⟩:∃U,U=(((((((((((((((w.setCell (aA S 0) (iI 0)).setCell (aA S 1) (iI 0)).setCell (aA S 2) (iI 0)).setCell (aA S 3) (iI 0)).setCell (aA S 4) (iI 0)).setCell (aA S 5) (iI 0)).setCell (aA S 6) (sV none 0 0)).setCell (aA S 7) (sV none 0 0)).setCell (aA S 8) (iI 1)).setCell (aA S 9) (sV none 0 0)).setCell (aA S 10) (.pointer none)).setCell (aA S 11) (sV none 0 0)).setCell (aA S 12) (sV none 0 0)).setCell (aA S 13) (sV none 0 0)).setCell (aA S 14) (sV none 0 0)):=⟨_,rfl⟩;rw[<-hU];have hfo:aS (M++O) (M++O) w U:=by rw[hU];exact((((((((((((((((aS.of_below (kX _ w)).trans (bQ hS _)).trans (bQ hS _)).trans (bQ hS _)).trans (bQ hS _)).trans (bQ hS _)).trans (bQ hS _)).trans (bQ hS _)).trans (bQ hS _)).trans (bQ hS _)).trans (bQ hS _)).trans (bQ hS _)).trans (bQ hS _)).trans (bQ hS _)).trans (bQ hS _)).trans (bQ hS _))
  have hb:U.heap[S]?=some (.cells (gD.start.cells aJ3) 57 (0,0)):=by exact zBi
  have hsz:U.heap.size=w.heap.size:=by rw[hU];simp
  have R6:∀c,c≠S->U.heap[c]?=w.heap[c]?:=fun c hc=>by rw[hU];simp only[cJ hc]
  exact zBd):p:=h
theorem zOb(h:p:=by
 refine wp_region_held_drew (S:=fun _=>True) og trivial (fun aG=>?_);refine tk 0 aG ?_;refine tk 1 aG ?_;refine tk 2 aG ?_
 first
 |have _:=bL8;refine tk 3 aG ?_;refine tk 4 aG ?_;refine tk 6 aG ?_;refine tk 7 aG ?_;refine tk 8 aG ?_;refine Y5 5 9 (fun K hK=>?_) fun K hK=>?_
  ·go_simp;refine kp hK (fun aG=>?_) trivial;clear hK K;refine eA 9 fun K hK=>?_;exact zKc
  ·have m60:=0;exact zKc
 |refine eA 3 fun K hK=>?_;go_simp;refine(ht 1).mono ?_;rintro ev u1 ⟨rfl,C1⟩;refine kp hK (fun aG=>?_) trivial;clear hK K;refine eA 4 fun K hK=>?_;go_simp;refine(ha _).mono ?_;rintro ev u2 ⟨rfl,rfl⟩;exact⟨rfl,rfl,fR C1⟩):p:=h
theorem zOp(h:p:=by
 simp only[bAm,List.foldl_cons,List.foldl_nil,Act.put,List.setIfInBounds_toArray,List.set_cons_zero,List.set_cons_succ]
 first
 |have _:=bLf
  first
  |have _:=bKm;refine tk 17 aG ?_;exact zAj
  |refine tk 8 aG ?_;refine dn ?_;refine NoPanic.normal ?_;all_goals go_wp2
   all_goals go_ret2
   all_goals exact H2.out _ ⟨HB7.out.os,HB7.out.tape,HB7.out.output,HB7.out.size,HB7.out.block⟩ HNo.out
 |first|have _:=bGg;refine tk 13 aG ?_|refine tk 19 aG ?_
  exact zAj):p:=h
theorem zOq(h:p:=by
 have hB:bW w V:=hV▸(kX _ w).alloc (kF _) _
 first|have _:=bH5;have x0:V.cell? (aA w.heap.size 0)=some (sV a 5 cap):=ou;have x1:V.cell? (aA w.heap.size 1)=some (sT tx):=ou;have hC:=aGj n hn a cap tx V (hr.below hB)|have x0:V.cell? (aA w.heap.size 0)=some (sV (some (aA b off)) (l.length+1) cap):=ou;have n0:V.cell? (aA b off)=some (iI x):=bc hB gX Oj;have zW:b<V.heap.size:=kB gX hB.size;have hwV:w.heap.size<V.heap.size:=eo;have hrV:bE V (some (aA b (off+1))) l:=(hr.below hB).rest;have hM:=fun a' c' (q:bE V a' l)=>aO1 a' c' l x (V.drewN 1) q od
 have HD:Hid (∀u,bW w u->nV u):=fun u hu=>hD u hu;have HB:Hid (bW w V):=hB
 first
 |have _:=bH5
  first|have _:=m51;have HL:Hid (∀u:World,Calls prog 83 #[.agg #[iI (n.getD 0 0),iI (n.getD 1 0),iI (n.getD 2 0),iI (n.getD 3 0)],iI (n.getD 4 0)] u fun e w'=>∃x,e=rT (tU #[iI x,fI (oA (n.getD 0 0) (n.getD 1 0) (n.getD 2 0) (n.getD 3 0) (n.getD 4 0))])/\(oA (n.getD 0 0) (n.getD 1 0) (n.getD 2 0) (n.getD 3 0) (n.getD 4 0)=0->x=lQ (n.getD 0 0) (n.getD 1 0) (n.getD 2 0) (n.getD 3 0) (n.getD 4 0)/\gW x)/\bW u w'):=fun u=>aM4 _ _ _ _ _ u;have HE:Hid (∀w' e,bW V w'->e=(jR (oA (n.getD 0 0) (n.getD 1 0) (n.getD 2 0) (n.getD 3 0) (n.getD 4 0)) (lQ (n.getD 0 0) (n.getD 1 0) (n.getD 2 0) (n.getD 3 0) (n.getD 4 0))).ending->cS base S M O st N .real_ n tx w e w'):=fun w' e q1 q2=>mN h hB q1 (k:=.real_) (n:=n) (tx:=tx) ⟨rfl,rfl⟩ q2;clear h hD hr hB hn;generalize lQ (n.getD 0 0) (n.getD 1 0) (n.getD 2 0) (n.getD 3 0) (n.getD 4 0)=vl at *;generalize oA (n.getD 0 0) (n.getD 1 0) (n.getD 2 0) (n.getD 3 0) (n.getD 4 0)=me at *|have HL:Hid (∀u:World,Calls prog 82 #[.agg #[iI (n.getD 0 0),iI (n.getD 1 0),iI (n.getD 2 0),iI (n.getD 3 0)],iI (n.getD 4 0)] u fun e w'=>∃x,e=rT (tU #[iI x,fI (jC (n.getD 0 0) (n.getD 1 0) (n.getD 2 0) (n.getD 3 0) (n.getD 4 0))])/\(jC (n.getD 0 0) (n.getD 1 0) (n.getD 2 0) (n.getD 3 0) (n.getD 4 0)=0->x=n.getD 1 0+(n.getD 4 0-n.getD 0 0)*n.getD 2 0/n.getD 3 0/\gW x)/\bW u w'):=fun u=>aHl _ _ _ _ _ u;have HE:Hid (∀w' e,bW V w'->e=(jR (jC (n.getD 0 0) (n.getD 1 0) (n.getD 2 0) (n.getD 3 0) (n.getD 4 0)) (n.getD 1 0+(n.getD 4 0-n.getD 0 0)*n.getD 2 0/n.getD 3 0)).ending->cS base S M O st N .pM n tx w e w'):=fun w' e q1 q2=>mN h hB q1 (k:=.pM) (n:=n) (tx:=tx) ⟨rfl,rfl⟩ q2;clear h hD hr hB hn;generalize n.getD 1 0+(n.getD 4 0-n.getD 0 0)*n.getD 2 0/n.getD 3 0=vl at *;generalize jC (n.getD 0 0) (n.getD 1 0) (n.getD 2 0) (n.getD 3 0) (n.getD 4 0)=me at *
  generalize n.getD 0 0=y0 at *;generalize n.getD 1 0=y1 at *;generalize n.getD 2 0=y2 at *;generalize n.getD 3 0=y3 at *;generalize n.getD 4 0=y4 at *
  first|have _:=m51;go_enter func35,ntmps35|go_enter func34,ntmps34
  exact zBb
 |have HE:Hid (∀w' e,bW V w'->e=(jR (dR l x) (fO l x)).ending->cS base S M O st N .gP (x::l) tx w e w'):=fun w' e q1 q2=>mN h hB q1 (k:=.gP) (n:=x::l) (tx:=tx) (r:=jR (dR l x) (fO l x)) ⟨rfl,rfl⟩ q2;have HI:Hid (gW (fO l x)):=by have:=tR l x;exact⟨od,od⟩
  have HR:Hid (∀u q,bW w u->Calls prog 79 #[iI (fO l x),fI (dR l x)] (u.drewN q) fun e w'=>e=(if dR l x=0 then rT (iI (fO l x))else fX (dR l x))/\bW u w'):=fun u q hu=>(J9 _ _ (u.drewN q) (hD u hu).told).mono fun _ _ q=>⟨q.1,fR q.2⟩;clear h hD hc hr hB;generalize fO l x=mv at *;generalize dR l x=me at *;by_cases rH:cap=1
  ·subst rH;obtain rfl:l=[]:=List.eq_nil_of_length_eq_zero od;simp only[List.length_nil,Nat.zero_add]at hV x0 hM⊢;exact zK3
  ·have R2:cap≠1:=rH;have h1:(1:Int)<=(l.length:Int)+1:=od;have h2:(0:Int)<(l.length:Int)+1:=od;have m87:=0;exact zK3):p:=h
theorem zOy(h:p:=by
 go_simp;(go_at_call 196;refine(dO _ _ _).mono ?_;rintro e u0 ⟨fv,rfl,hB,hu⟩;have hW:=aO6 hW hu;obtain⟨c0,c1,c2,c3,c4,c5,c6,c7,c8,c9⟩:=hc.below hW);refine kp hK fun aG=>?_;clear hK K
 first|have _:=bHa;refine eA 7 fun K hK=>?_|have _:=m85;refine eA 3 fun K hK=>?_|refine eA 7 fun K hK=>?_
 go_simp;refine kp hK fun aG=>?_;clear hK K
 first
 |have _:=bHa;refine eA 8 fun K hK=>?_;go_simp
  first|have _:=m17;exact zPq|(go_at_call 195;refine(aDi false fv _ _ (aJ) (aC) (aH) u0.heap.size _ _ (hB.alloc _) oh oh oh hd).mono ?_;rintro e x0 ⟨rfl,fP⟩;have hW:=oE hW fP;obtain⟨c0,c1,c2,c3,c4,c5,c6,c7,c8,c9⟩:=hc.below hW);exact zL5
 |have _:=m85;refine eA 4 fun K hK=>?_;go_simp;have bM4:=0;exact zPt
 |refine eA 8 fun K hK=>?_;go_simp;have bM1:=0;exact zPq):p:=h
theorem zO0(h:p:=by
 (go_at_call 195;refine(aDi true fv _ _ (aJ) (aC) (aH) u.heap.size _ _ hB L9 hX1 hX2 hd1).mono ?_;rintro e x0 ⟨rfl,fP⟩;have hW:=jS hW fP;obtain⟨c0,c1,c2,c3,c4,c5,c6,c7,c8,c9⟩:=hc.below hW)
 first|have _:=bLk;exact zNa|exact zAo):p:=h
theorem zO1(h:p:=by
 go_simp;(go_at_call 196;refine(dO _ _ _).mono ?_;rintro e u0 ⟨fv,rfl,hB,hu⟩;have hW:=aO6 hW hu;obtain⟨c0,c1,c2,c3⟩:=hc.below hW);refine kp hK fun aG=>?_;clear hK K
 first
 |have _:=bHb
  first
  |have _:=bGx
   first|have _:=m90;refine eA 6 fun K hK=>?_|refine eA 3 fun K hK=>?_
  |refine eA 5 fun K hK=>?_
 |refine eA 6 fun K hK=>?_
 go_simp;refine kp hK fun aG=>?_;clear hK K
 first
 |have _:=bHb
  first
  |have _:=bGx
   first|have _:=m90;refine eA 7 fun K hK=>?_;go_simp;exact zPw|refine eA 4 fun K hK=>?_;go_simp;have bM7:=0;exact zPx
  |refine eA 6 fun K hK=>?_;go_simp
   first|have _:=m77;(go_at_call 195;refine(iA true fv _ _ (lf) u0.heap.size _ _ (hB.alloc _) oh hd1).mono ?_;rintro e x0 ⟨rfl,fP⟩;have hW:=oE hW fP;obtain⟨c0,c1,c2,c3⟩:=hc.below hW);exact zE7|(go_at_call 195;refine(iA false fv _ _ (lf) u0.heap.size _ _ (hB.alloc _) oh hd).mono ?_;rintro e x0 ⟨rfl,fP⟩;have hW:=oE hW fP;obtain⟨c0,c1,c2,c3⟩:=hc.below hW);refine kp hK fun aG=>?_;clear hK K;refine tk 7 aG ?_;exact zAj
 |refine eA 7 fun K hK=>?_;go_simp
  first|have _:=m26;have bM6:=0;exact zPw|(go_at_call 195;refine(iA false fv _ _ (lt) u0.heap.size _ _ (hB.alloc _) oh hd).mono ?_;rintro e x0 ⟨rfl,fP⟩;have hW:=oE hW fP;obtain⟨c0,c1,c2,c3⟩:=hc.below hW);exact zIh):p:=h
theorem zO4(h:p:=by
 (go_at_call 195;refine(iA true fv _ _ (nodes) V.heap.size _ _ hB L9 hd1).mono ?_;rintro e x0 ⟨rfl,fP⟩;have hW:=jS hW fP;obtain⟨c0,c1,c2,c3,c4,c5,c6,c7,c8,c9⟩:=hc.below hW)
 first|have _:=bLm;exact zJd|exact zAq):p:=h
theorem zO7(h:p:=by
 obtain⟨m,hm⟩:∃m,aZ t n=m:=⟨_,rfl⟩;rw[hM]at eB⊢;rw[hm]at eB c2 HH;clear hid hM hm;go_enter func173,ntmps173;go_wp2;go_region_calls;all_goals go_wp2
 first
 |have _:=bLo
  first|(have _:=m37;all_goals exact bodyPost_end (v:=tU #[]) ec rfl ⟨rfl,((HH.out.bad (b+1)).zZ M).drawn 1,(((aU.refl _ _ _).set (p:=(aA P 5)) (.inl rfl) _).set (p:=(aA P 2)) (.inl rfl) _).trans (aU.drawn 1)⟩)|all_goals exact bodyPost_end (v:=tU #[]) ec rfl ⟨rfl,(HH.out.zZ M).drawn 1,((aU.refl _ _ _).set (p:=(aA P 2)) (.inl rfl) _).trans (aU.drawn 1)⟩
 |all_goals exact bodyPost_end (v:=tU #[]) ec rfl ⟨rfl,((HH.out.xD (g+1)).zZ M).drawn 1,(((aU.refl _ _ _).set (p:=(aA P 4)) (.inl rfl) _).set (p:=(aA P 2)) (.inl rfl) _).trans (aU.drawn 1)⟩):p:=h
theorem zO9(h:p:=by
 refine kp hK (fun aG=>?_) ⟨b0,b1,bc0,bc1,bc2,bc3,bc4,bc5,bc6,bc7,bc8,bc9⟩;clear hK K;refine tk 13 aG ?_;refine tk 14 aG ?_;refine eA 15 fun K hK=>?_;go_simp
 first|have _:=bHe;refine(aFh (pP C) u1).mono ?_|refine(aIr (.pointer none) u1 (HD.out u1 dB).told hE hk).mono ?_
 rintro ev u2 ⟨rfl,fP⟩
 first|(have _:=bHe;have d0:=bc fP (kB hwV dB.size) b0;have d1:=bc fP (kB zW dB.size) b1;have dc0:=bc fP (kB yA dB.size) bc0;have dc1:=bc fP (kB yA dB.size) bc1;have dc2:=bc fP (kB yA dB.size) bc2;have dc3:=bc fP (kB yA dB.size) bc3;have dc4:=bc fP (kB yA dB.size) bc4;have dc5:=bc fP (kB yA dB.size) bc5;have dc6:=bc fP (kB yA dB.size) bc6;have dc7:=bc fP (kB yA dB.size) bc7;have dc8:=bc fP (kB yA dB.size) bc8;have dc9:=bc fP (kB yA dB.size) bc9;refine kp hK (fun aG=>?_) ⟨d0,d1,dc0,dc1,dc2,dc3,dc4,dc5,dc6,dc7,dc8,dc9⟩;clear hK K;refine tk 16 aG ?_;refine tk 17 aG ?_;have hk2:=HK.out u2 (dB.trans (fP.mono dB.size));have s0:=aM hk2 (i:=10) rfl;have z0:=bC hk2 (i:=10);clear hk2;refine eA 18 fun K hK=>?_;go_simp;refine kp hK (fun aG=>?_) ⟨(aB (.inl hwS)).trans d0,(aB (.inl R1)).trans d1,(aB (.inr oe)).trans dc0,(aB (.inr oe)).trans dc1,(aB (.inr oe)).trans dc2,(aB (.inr oe)).trans dc3,(aB (.inr oe)).trans dc4,(aB (.inr oe)).trans dc5,(aB (.inr oe)).trans dc6,(aB (.inr oe)).trans dc7,(aB (.inr oe)).trans dc8,(aB (.inr oe)).trans dc9⟩;clear hK K;refine dn ?_;go_wp2_with fail;all_goals(refine bodyPost_ret (v:=sT Kd.iV.name) (by simp[results,results22,go_sem];rfl) rfl ?_;exact bBr u2 fP))|exact⟨rfl,bBr u2 fP⟩):p:=h
theorem zPa(h:p:=by
 (go_at_call 195;refine(iA true fv _ _ (lt) u.heap.size _ _ hB L9 hd1).mono ?_;rintro e x0 ⟨rfl,fP⟩;have hW:=jS hW fP;obtain⟨c0,c1,c2,c3⟩:=hc.below hW)
 first|have _:=bLp;exact zKy|exact zG4):p:=h
theorem zPb(h:p:=by
 (go_at_call 195;refine(iA true fv _ _ (lb) u.heap.size _ _ hB L9 hd1).mono ?_;rintro e x0 ⟨rfl,fP⟩;have hW:=jS hW fP;obtain⟨c0,c1,c2,c3⟩:=hc.below hW)
 first|have _:=bLq;exact zJk|exact zAu):p:=h
theorem zPe(h:p:=by
 have hB:bW u V:=hV▸(kX _ u).alloc (kF _) _;have hs:=h.below hB
 first
 |have _:=bHg
  first
  |have _:=bC5;obtain⟨va,vc,hvv⟩:∃a c,A.vL=sV a st.aI.nl c:=by exact zGb
   have c0:V.cell? (aA S 7)=some (sV va st.aI.nl vc):=hvv▸aM hs.blk (i:=7) rfl;have k0:decide ((st.aI.nl:Int)<8)=false:=kC od;have HE:Hid (cS base S M O st N .oU n tx u (fX 4) V):=⟨st,.err 4,M,O,A,.inr ⟨sW,rfl,rfl⟩,rfl,aS.of_below hB,hs.later (kR N)⟩;generalize st.aI.nl=nn at c0 k0
  |obtain⟨va,vc,hvv⟩:∃a c,A.vS=sV a st.aI.ns c:=by exact zGe
   have c0:V.cell? (aA S 6)=some (sV va st.aI.ns vc):=hvv▸aM hs.blk (i:=6) rfl;have k0:decide ((st.aI.ns:Int)<32)=false:=kC od;have HE:Hid (cS base S M O st N .oW n tx u (fX 4) V):=⟨st,.err 4,M,O,A,.inr ⟨sW,rfl,rfl⟩,rfl,aS.of_below hB,hs.later (kR N)⟩;generalize st.aI.ns=nn at c0 k0
  clear hs h hB sW
 |first
  |have _:=m16;obtain⟨va,vc,hvv⟩:∃a c,A.vL=sV a st.aI.nl c:=by exact zGb
   have c0:V.cell? (aA S 7)=some A.vL:=aM hs.blk (i:=7) rfl;have z0:=bC hs.blk (i:=7)
  |obtain⟨va,vc,hvv⟩:∃a c,A.vS=sV a st.aI.ns c:=by exact zGe
   have c0:V.cell? (aA S 6)=some A.vS:=aM hs.blk (i:=6) rfl;have z0:=bC hs.blk (i:=6)
  have B9:=hs.r.hi S hs.r.s;have huS:=h.r.hi S h.r.s;have gX:u.heap.size<V.heap.size:=eo;have x0:V.cell? (aA u.heap.size 0)=some (iI (n.getD 0 0)):=ou;have x1:V.cell? (aA u.heap.size 1)=some (iI (n.getD 1 0)):=ou;have x2:V.cell? (aA u.heap.size 2)=some (iI (n.getD 2 0)):=ou
  first|have _:=m16;have x3:V.cell? (aA u.heap.size 3)=some (iI (n.getD 3 0)):=ou|skip
  have dM:u.heap.size≠S:=od
  first|(have _:=m16;have C0:V.heap[u.heap.size]?=some (.cells #[iI (n.getD 0 0),iI (n.getD 1 0),iI (n.getD 2 0),iI (n.getD 3 0)] 96 (0,0)):=by rw[<-hV];exact heap_alloc_new u _)|have C0:V.heap[u.heap.size]?=some (.cells #[iI (n.getD 0 0),iI (n.getD 1 0),iI (n.getD 2 0)] 94 (0,0)):=by rw[<-hV];exact heap_alloc_new u _
  have qY:Hid (u.heap.size≠S):=dM;have HLO:Hid (base<=V.heap.size):=kG (hs.r.lo S hs.r.s) (kV B9)
  first
  |have _:=m16;have tW:Hid (∀w3 g c,(V.alloc (.cells #[iI (n.getD 0 0),iI (n.getD 1 0),iI (n.getD 2 0),iI (n.getD 3 0)] 96)).grownBy w3 A.vL.ownBlock->w3.ownsRow base 96 4 (sL g (st.aI.nl+1) c) (st.aI.nl+1) (dD st.aI.lf st.aI.lt st.aI.lb st.aI.lq st.aI.nl++[iI (n.getD 0 0),iI (n.getD 1 0),iI (n.getD 2 0),iI (n.getD 3 0)])->(A.vL.ownBlock=some g\/g=V.heap.size+1)->g<w3.heap.size->cS base S M O st N .oU n tx u (rT (sT (dG st.aI.nl))) (w3.setCell (aA S 7) (sL g (st.aI.nl+1) c))):=fun w3 g c hg bK jW hlt=>by obtain⟨e1,e2⟩:=aTz hs hB n _ g c hg bK jW hlt hc sW hi;exact⟨_,.ok (dG st.aI.nl),_,_,_,.inl ⟨sW,rfl,rfl⟩,rfl,e1,e2⟩
   have hvb:A.vL.ownBlock≠some u.heap.size:=fun e=>by have:=h.r.hi _ (h.r.bL _ e);omega
   have hvS:A.vL.ownBlock≠some S:=fun e=>gE hs.r.oL hs.blk oe e rfl;have H3:Hid ((V.alloc (.cells #[iI (n.getD 0 0),iI (n.getD 1 0),iI (n.getD 2 0),iI (n.getD 3 0)] 96)).ownsRow base 96 4 A.vL st.aI.nl (dD st.aI.lf st.aI.lt st.aI.lb st.aI.lq st.aI.nl)):=hs.r.oL.alloc _;have wX:Hid (∀(j:Nat) (x:Value),[iI (n.getD 0 0),iI (n.getD 1 0),iI (n.getD 2 0),iI (n.getD 3 0)][j]?=some x->(V.alloc (.cells #[iI (n.getD 0 0),iI (n.getD 1 0),iI (n.getD 2 0),iI (n.getD 3 0)] 96)).drew.cell? (((aA V.heap.size 0):Addr).add j)=some x):=aI4 V _ _ _ _ _;have lT:Hid (∀w3,(V.alloc (.cells #[iI (n.getD 0 0),iI (n.getD 1 0),iI (n.getD 2 0),iI (n.getD 3 0)] 96)).grownBy w3 A.vL.ownBlock->w3.cell? (aA u.heap.size 0)=some (iI (n.getD 0 0))/\w3.cell? (aA u.heap.size 1)=some (iI (n.getD 1 0))/\w3.cell? (aA u.heap.size 2)=some (iI (n.getD 2 0))/\w3.cell? (aA u.heap.size 3)=some (iI (n.getD 3 0))/\w3.cell? (aA S 7)=some A.vL/\w3.frozen? (aA S 7)=false):=fun w3 hg=>by exact zNq
  |have tW:Hid (∀w3 g c,(V.alloc (.cells #[iI (n.getD 0 0),iI (n.getD 1 0),iI (n.getD 2 0)] 94)).grownBy w3 A.vS.ownBlock->w3.ownsRow base 94 3 (sL g (st.aI.ns+1) c) (st.aI.ns+1) (bN st.aI.nd st.aI.fr st.aI.td st.aI.ns++[iI (n.getD 0 0),iI (n.getD 1 0),iI (n.getD 2 0)])->(A.vS.ownBlock=some g\/g=V.heap.size+1)->g<w3.heap.size->cS base S M O st N .oW n tx u (rT (sT (dG st.aI.ns))) (w3.setCell (aA S 6) (sL g (st.aI.ns+1) c))):=fun w3 g c hg bK jW hlt=>by obtain⟨e1,e2⟩:=aVs hs hB n _ g c hg bK jW hlt hc sW;exact⟨_,.ok (dG st.aI.ns),_,_,_,.inl ⟨sW,rfl,rfl⟩,rfl,e1,e2⟩
   have hvb:A.vS.ownBlock≠some u.heap.size:=fun e=>by have:=h.r.hi _ (h.r.bS _ e);omega
   have hvS:A.vS.ownBlock≠some S:=fun e=>gE hs.r.oS hs.blk oe e rfl;have H3:Hid ((V.alloc (.cells #[iI (n.getD 0 0),iI (n.getD 1 0),iI (n.getD 2 0)] 94)).ownsRow base 94 3 A.vS st.aI.ns (bN st.aI.nd st.aI.fr st.aI.td st.aI.ns)):=hs.r.oS.alloc _;have wX:Hid (∀(j:Nat) (x:Value),[iI (n.getD 0 0),iI (n.getD 1 0),iI (n.getD 2 0)][j]?=some x->(V.alloc (.cells #[iI (n.getD 0 0),iI (n.getD 1 0),iI (n.getD 2 0)] 94)).drew.cell? (((aA V.heap.size 0):Addr).add j)=some x):=w8 V _ _ _ _;have lT:Hid (∀w3,(V.alloc (.cells #[iI (n.getD 0 0),iI (n.getD 1 0),iI (n.getD 2 0)] 94)).grownBy w3 A.vS.ownBlock->w3.cell? (aA u.heap.size 0)=some (iI (n.getD 0 0))/\w3.cell? (aA u.heap.size 1)=some (iI (n.getD 1 0))/\w3.cell? (aA u.heap.size 2)=some (iI (n.getD 2 0))/\w3.cell? (aA S 6)=some A.vS/\w3.frozen? (aA S 6)=false):=fun w3 hg=>by have bL1:=0;exact zNq
  have m0:∀o:Obj,(V.alloc o).cell? (aA u.heap.size 0)=some (iI (n.getD 0 0)):=fun o=>(((kX _ V).alloc (kF _) o).cell (p:=(aA u.heap.size 0)) gX).trans x0;have m1:∀o:Obj,(V.alloc o).cell? (aA u.heap.size 1)=some (iI (n.getD 1 0)):=fun o=>(((kX _ V).alloc (kF _) o).cell (p:=(aA u.heap.size 1)) gX).trans x1;have m2:∀o:Obj,(V.alloc o).cell? (aA u.heap.size 2)=some (iI (n.getD 2 0)):=fun o=>(((kX _ V).alloc (kF _) o).cell (p:=(aA u.heap.size 2)) gX).trans x2
  first|have _:=m16;have m3:∀o:Obj,(V.alloc o).cell? (aA u.heap.size 3)=some (iI (n.getD 3 0)):=fun o=>(((kX _ V).alloc (kF _) o).cell (p:=(aA u.heap.size 3)) gX).trans x3;have mc:∀o:Obj,(V.alloc o).cell? (aA S 7)=some A.vL:=fun o=>(((kX _ V).alloc (kF _) o).cell (p:=(aA S 7)) B9).trans c0;have k0:(st.aI.nl:Int)<8:=od;generalize dD st.aI.lf st.aI.lt st.aI.lb st.aI.lq st.aI.nl=cells at H3 tW|have mc:∀o:Obj,(V.alloc o).cell? (aA S 6)=some A.vS:=fun o=>(((kX _ V).alloc (kF _) o).cell (p:=(aA S 6)) B9).trans c0;have k0:(st.aI.ns:Int)<32:=od;generalize bN st.aI.nd st.aI.fr st.aI.td st.aI.ns=cells at H3 tW
 generalize n.getD 0 0=y0 at *;generalize n.getD 1 0=y1 at *;generalize n.getD 2 0=y2 at *
 first
 |have _:=bHg
  first|have _:=bC5;generalize n.getD 3 0=y3 at *;go_enter func65,ntmps65|go_enter func64,ntmps64
  exact zFl
 |first|have _:=m16;generalize n.getD 3 0=y3 at *|skip
  rw[hvv]at c0 mc H3 tW lT
  first|have _:=m16;generalize st.aI.nl=nn at *|generalize st.aI.ns=nn at *
  clear hs h hB C0 hvb hvS hc hvv
  first|have _:=m16;go_enter func65,ntmps65|go_enter func64,ntmps64
  go_wp2_with fail;refine(hA _).mono ?_;rintro e u3 ⟨rfl,hu3⟩;replace hu3:=hu3.symm;subst hu3;go_wp2_with fail
  first|have _:=m16;refine wp_region_held_drew (S:=fun v=>v.cell? (aA u.heap.size 0)=some (iI y0)/\v.cell? (aA u.heap.size 1)=some (iI y1)/\v.cell? (aA u.heap.size 2)=some (iI y2)/\v.cell? (aA u.heap.size 3)=some (iI y3)) og ⟨x0,x1,x2,x3⟩ (fun aG=>?_)|refine wp_region_held_drew (S:=fun v=>v.cell? (aA u.heap.size 0)=some (iI y0)/\v.cell? (aA u.heap.size 1)=some (iI y1)/\v.cell? (aA u.heap.size 2)=some (iI y2)) og ⟨x0,x1,x2⟩ (fun aG=>?_)
  refine tk 0 aG ?_;refine tk 1 aG ?_;refine tk 2 aG ?_;refine tk 4 aG ?_;refine Y5 3 5 (fun K hK=>?_) (fun K hK=>?_)
  ·go_simp
   first|have _:=m16;refine kp hK (fun aG=>?_) ⟨x0,x1,x2,x3⟩|refine kp hK (fun aG=>?_) ⟨x0,x1,x2⟩
   clear hK K;refine eA 5 fun K hK=>?_
   first|have _:=m16;exact zA3|exact zA6
  ·go_simp
   first|have _:=m16;refine kp hK (fun aG=>?_) ⟨m0 _,m1 _,m2 _,m3 _⟩|refine kp hK (fun aG=>?_) ⟨m0 _,m1 _,m2 _⟩
   clear hK K;refine eA 3 fun K hK=>?_
   first|have _:=m16;exact zA3|exact zA6):p:=h
theorem zPi(h:p:=by
 have hbr:b<wr.heap.size:=od
 first
 |have _:=bCl
  first|have _:=aYc;clear tN hw|clear tN hs
  replace x0:=(bT.cell (p:=⟨b,off+k*3,none⟩) hb).trans x0;replace x1:=(bT.cell (p:=⟨b,off+k*3+1,none⟩) hb).trans x1;replace x2:=(bT.cell (p:=⟨b,off+k*3+2,none⟩) hb).trans x2
  first|(have _:=aYc;have wD:∀(j:Nat) (u:Value),[iI (wp k),iI (wf k),iI (wt k)][j]?=some u->((wr.alloc (.cells #[iI (wp k),iI (wf k),iI (wt k)] 168)).alloc (.cells #[iI (wp k),iI (wf k),iI (wt k)] 3)).cell? (((aA (wr.heap.size+1) 0):Addr).add j)=some u:=by have:=rN (wr.alloc (.cells #[iI (wp k),iI (wf k),iI (wt k)] 168)) #[iI (wp k),iI (wf k),iI (wt k)] 3;exact zF8)|have wD:∀(j:Nat) (u:Value),[iI (nd k),iI (fr k),iI (tq k)][j]?=some u->((wr.alloc (.cells #[iI (nd k),iI (fr k),iI (tq k)] 94)).alloc (.cells #[iI (nd k),iI (fr k),iI (tq k)] 3)).cell? (((aA (wr.heap.size+1) 0):Addr).add j)=some u:=by have:=rN (wr.alloc (.cells #[iI (nd k),iI (fr k),iI (tq k)] 94)) #[iI (nd k),iI (fr k),iI (tq k)] 3;exact zF8
 |clear tN hl;replace x0:=(bT.cell (p:=⟨b,off+k*4,none⟩) hb).trans x0;replace x1:=(bT.cell (p:=⟨b,off+k*4+1,none⟩) hb).trans x1;replace x2:=(bT.cell (p:=⟨b,off+k*4+2,none⟩) hb).trans x2;replace x3:=(bT.cell (p:=⟨b,off+k*4+3,none⟩) hb).trans x3;have wD:∀(j:Nat) (u:Value),[iI (lf k),iI (lt k),iI (lb k),iI (lq k)][j]?=some u->((wr.alloc (.cells #[iI (lf k),iI (lt k),iI (lb k),iI (lq k)] 96)).alloc (.cells #[iI (lf k),iI (lt k),iI (lb k),iI (lq k)] 3)).cell? (((aA (wr.heap.size+1) 0):Addr).add j)=some u:=by have:=rN (wr.alloc (.cells #[iI (lf k),iI (lt k),iI (lb k),iI (lq k)] 96)) #[iI (lf k),iI (lt k),iI (lb k),iI (lq k)] 3;exact zF8
 have HN:=(show Hid _ from wD);clear wD
 first
 |have _:=bCl
  first|have _:=aYc;go_wp2_with(at_builtin;refine wpList_append_own _ rfl _ _ 55 rfl w1.heap.size 3 i0 (iI 0) 1 8 underlying55 hi lO mX jX rfl oe u5 _ _ rfl ((bK.alloc _).alloc _) (aA (wr.heap.size+1) 0) 3 3 [iI (wp k),iI (wf k),iI (wt k)] rfl rfl HN.out (gK [(wp k),(wf k),(wt k)]) oo od ol ?_;intro v' w2 cD bP vP)|go_wp2_with(at_builtin;refine wpList_append_own _ rfl _ _ 55 rfl w1.heap.size 3 i0 (iI 0) 1 8 underlying55 hi lO mX jX rfl oe u5 _ _ rfl ((bK.alloc _).alloc _) (aA (wr.heap.size+1) 0) 3 3 [iI (nd k),iI (fr k),iI (tq k)] rfl rfl HN.out (gK [(nd k),(fr k),(tq k)]) oo od ol ?_;intro v' w2 cD bP vP)
 |go_wp2_with(at_builtin;refine wpList_append_own _ rfl _ _ 55 rfl w1.heap.size 3 i0 (iI 0) 1 8 underlying55 hi lO mX jX rfl oe u5 _ _ rfl ((bK.alloc _).alloc _) (aA (wr.heap.size+1) 0) 4 4 [iI (lf k),iI (lt k),iI (lb k),iI (lq k)] rfl rfl HN.out (gK [(lf k),(lt k),(lb k),(lq k)]) oo od ol ?_;intro v' w2 cD bP vP)
 have dQ:bW w1 w2:=((bT.alloc hzr _).alloc ol _).grown bP ol (fun g hg=>(bK.lt g hg).1)
 first
 |have _:=bCl
  first|(have _:=aYc;have lG:w2.ownsRow w1.heap.size 3 1 v' (10+3*ns+4*nl+3*(k+1)) ((((([nodes,aF,aJ,aC,aH,round,(ns:Int)]++bX nd fr tq ns++[(nl:Int)])++fN lf lt lb lq nl)++[frame,(nw:Int)])++bX wp wf wt (k+1)).map (Value.int .i64)):=by rw[tI,<-List.append_assoc,List.map_append,show 10+3*ns+4*nl+3*(k+1)=10+3*ns+4*nl+3*k+3 from by omega];exact cD)|have lG:w2.ownsRow w1.heap.size 3 1 v' (7+3*(k+1)) (([nodes,aF,aJ,aC,aH,round,(ns:Int)]++bX nd fr tq (k+1)).map (Value.int .i64)):=by rw[tI,<-List.append_assoc,List.map_append,show 7+3*(k+1)=7+3*k+3 from by omega];exact cD
 |have lG:w2.ownsRow w1.heap.size 3 1 v' (8+3*ns+4*(k+1)) ((([nodes,aF,aJ,aC,aH,round,(ns:Int)]++bX nd fr tq ns++[(nl:Int)])++fN lf lt lb lq (k+1)).map (Value.int .i64)):=by rw[yU,<-List.append_assoc,List.map_append,show 8+3*ns+4*(k+1)=8+3*ns+4*k+4 from by omega];exact cD
 exact zEx):p:=h
theorem zPj(h:p:=by
 go_wp2_with fail;refine(aFd f s n d _ HR.out).mono ?_;rintro e w1 ⟨rfl,hb⟩;obtain⟨c0,c1,c2,c3,hz⟩:=bA8 hb
 first
 |have _:=bLv;go_wp2_with(first|(go_at_call 53;go_in))
  first
  |have _:=bGz
   first|have _:=m92;refine(tV f s n d 1099511627776 _ HR.out hf (Int.le_refl _)).mono ?_|refine(tV f s n d r _ HR.out hr pE).mono ?_
   exact zE1
  |first|have _:=m46;refine(tV f s n d 1099511627776 _ HR.out hf (Int.le_refl _)).mono ?_|refine(tV f s n d r _ HR.out hr pE).mono ?_
   rintro e w2 ⟨rfl,dQ⟩;have d0:w2.cell? (aA w.heap.size 0)=some (iI f):=by rw[dQ.cell hz];exact c0
   have d1:w2.cell? (aA w.heap.size 1)=some (iI s):=by rw[dQ.cell hz];exact c1
   have d2:w2.cell? (aA w.heap.size 2)=some (iI n):=by rw[dQ.cell hz];exact c2
   have d3:w2.cell? (aA w.heap.size 3)=some (iI d):=by rw[dQ.cell hz];exact c3
   clear c0 c1 c2 c3;have jX:=kB hz dQ.size
   first
   |have _:=m46;have hB:bW w w2:=(rC hb).trans (dQ.mono (kV hz));clear hb dQ hz;go_wp2_with fail;go_loopw[6,7] (fun lo hi wr=>∃a b:Int,lo=iI a/\hi=iI b/\f<=a/\a<=T/\T<=b/\b<=1099511627776/\bW w2 wr) (fun lo hi _=>(intOf hi-intOf lo).toNat);case atStart=>exact⟨f,1099511627776,rfl,rfl,Int.le_refl _,hT1,hT2,Int.le_refl _,kX _ _⟩
    case round=>
     obtain⟨a,b,rfl,rfl,k1,k2,k3,k4,jN⟩:=hrel;have hz3:=kB jX jN.size;have e0:wr.cell? (aA w.heap.size 0)=some (iI f):=by rw[jN.cell jX];exact d0
     have e1:wr.cell? (aA w.heap.size 1)=some (iI s):=by rw[jN.cell jX];exact d1
     have e2:wr.cell? (aA w.heap.size 2)=some (iI n):=by rw[jN.cell jX];exact d2
     have e3:wr.cell? (aA w.heap.size 3)=some (iI d):=by rw[jN.cell jX];exact d3
     clear hM;by_cases hlt:a<b
     ·go_wp2_with fail;refine(tV f s n d ((a+b)/2) _ HR.out od od).mono ?_;rintro e w3 ⟨rfl,yN⟩;have hb5:bW w2 w3:=jN.trans (yN.mono jN.size);by_cases hT:T<=(a+b)/2
      ·have ht:l<=s+((a+b)/2-f)*n/d:=(HI.out _ od od).2 hT;go_wp2;go_roundw;case rel=>exact⟨a,(a+b)/2,rfl,rfl,k1,k2,hT,od,hb5⟩
       case measure=>simp[intOf];omega
      ·have ht:s+((a+b)/2-f)*n/d<l:=by
        rcases Int.lt_or_le (s+((a+b)/2-f)*n/d) l with g|g
        ·exact g
        ·exact absurd ((HI.out _ od od).1 g) hT
       go_wp2;go_roundw;case rel=>exact⟨(a+b)/2+1,b,rfl,rfl,od,od,k3,k4,hb5⟩
       case measure=>simp[intOf];omega
     ·have ea:a=T:=by omega
      subst ea;go_wp2;go_ret2;exact⟨rfl,hB.trans (jN.mono (kV jX))⟩
   |go_wp2_with fail;refine(tV f s n d r _ HR.out hr pE).mono ?_;rintro e w3 ⟨rfl,jN⟩;go_wp2;go_ret2;exact⟨rfl,((rC hb).trans (dQ.mono (kV hz))).trans (jN.mono (kV jX))⟩
 |go_wp2_with go_in;go_ret2;exact⟨rfl,rC hb⟩):p:=h
theorem zPk(h:p:=by
 obtain⟨hc,hV⟩:=aSi nodes aF aJ aC aH round frame sa la wa ns sc nl lc nw wc w 51;replace hs:=hs.below hV
 first
 |have _:=bLw
  first
  |have _:=aL8
   first|have _:=m9;go_enter func158,ntmps158|go_enter func156,ntmps156
  |go_enter func157,ntmps157
  go_wp2_with fail;generalize w.alloc (.cells #[iI nodes,iI aF,iI aJ,iI aC,iI aH,iI round,sV sa ns sc,sV la nl lc,iI frame,sV wa nw wc] 51)=V at hc hV hs⊢
  first|have _:=aL8;refine(dO _ _ _).mono ?_;rintro ev V1 ⟨fv,rfl,hB,hu⟩;replace hc:=hc.below hu;replace hs:=hs.below hu;have hV1:bW w V1:=hV.trans (hu.mono hV.size)|skip
  obtain⟨x0,x1,x2,x3,x4,x5,x6,x7,x8,x9⟩:=hc
  first
  |have _:=aL8;have hwz:w.heap.size<V1.heap.size:=lt_of_cell x0;go_wp2_with fail
   first|have _:=m9;go_loopw[4,12] (fun lv t wr=>∃k:Nat,k<=nw/\t=iI k/\lv=iI (uB tq k)/\Hid (∀j,j<k->fH nd fr tq frame j=0)/\bW V1 wr) (fun _ t _=>nw-(intOf t).toNat)|go_loopw[4,15] (fun lv t wr=>∃k:Nat,k<=ns/\t=iI k/\lv=iI (qJ tq aJ k)/\Hid (∀j,j<k->dH nd fr tq nodes aJ round j=0)/\bW V1 wr) (fun _ t _=>ns-(intOf t).toNat)
   case atStart=>exact⟨0,kH _,rfl,rfl,fun j hj=>absurd hj (kT _),kX _ _⟩
  |go_loopw[9] (fun t wr=>∃k:Nat,k<=nl/\t=iI k/\Hid (∀j,j<k->dC lf lt lb lq hit nodes pw j=0)/\bW V wr) (fun t _=>nl-(intOf t).toNat);case atStart=>exact⟨0,kH _,rfl,fun j hj=>absurd hj (kT _),kX _ _⟩
  case round=>
   first
   |have _:=aL8;obtain⟨k,hk,rfl,rfl,h0,bT⟩:=hrel
    first|have _:=m9;have y2:=aO x8 bT|have y2:=aO x2 bT;have y5:=aO x5 bT
   |obtain⟨k,hk,rfl,h0,bT⟩:=hrel;have y0:=aO x0 bT
   clear x0 x1 x2 x3 x4 x5 x6 x7 x8 x9
   first
   |have _:=aL8
    first|have _:=m9;by_cases hlt:k<nw|by_cases hlt:k<ns
   |by_cases hlt:k<nl
   ·obtain⟨b,off,rfl,hb,tN⟩:=hs od
    first
    |have _:=aL8;obtain⟨r0,r1,r2⟩:=tN k hlt;replace r0:=aO r0 bT;replace r1:=aO r1 bT;replace r2:=aO r2 bT;clear tN hs
     first
     |have _:=m9;obtain⟨se,R7⟩:∃se,nK (fr k) (tq k) (uB tq k) frame=se:=⟨_,rfl⟩;have HS:Hid (∀u:World,Calls prog 197 #[.agg #[iI (fr k),iI (tq k)],iI (uB tq k),iI frame] u fun ev w'=>ev=rT (iI se)/\bW u w'):=fun u=>by rw[<-R7];exact A9 _ _ _ _ _
      have H4:Hid (nK (fr k) (tq k) (uB tq k) frame=se):=R7
     |obtain⟨se,R7⟩:∃se,nK (fr k) (tq k) (qJ tq aJ k) (round-aJ-1)=se:=⟨_,rfl⟩;have HS:Hid (∀u:World,Calls prog 197 #[.agg #[iI (fr k),iI (tq k)],iI (qJ tq aJ k),iI (round-aJ-1)] u fun ev w'=>ev=rT (iI se)/\bW u w'):=fun u=>by rw[<-R7];exact A9 _ _ _ _ _
      have H4:Hid (nK (fr k) (tq k) (qJ tq aJ k) (round-aJ-1)=se):=R7
     clear R7;have Y0:w.heap.size<wr.heap.size:=lt_of_cell y2;have hbr:b<wr.heap.size:=lt_of_cell r0;go_wp2_with fail;refine(HS.out _).mono ?_;rintro ev w2 ⟨rfl,dQ⟩;have C0:bW V1 w2:=oE bT dQ
     first|have _:=m9;have s0:=aO (show(wr.alloc (.cells #[iI (nd k),iI (fr k),iI (tq k)] 168)).cell? (aA wr.heap.size 0)=some (iI (nd k))from by simp) dQ;have s2:=aO (show(wr.alloc (.cells #[iI (nd k),iI (fr k),iI (tq k)] 168)).cell? (aA wr.heap.size 2)=some (iI (tq k))from by simp) dQ;clear y2 r0 r1 r2 HS|have z2:=aO (show(wr.alloc (.cells #[iI (nd k),iI (fr k),iI (tq k)] 94)).cell? (aA w.heap.size 2)=_ from by rw[World.cell?_alloc_lt _ _ _ Y0];exact y2) dQ;have s0:=aO (show(wr.alloc (.cells #[iI (nd k),iI (fr k),iI (tq k)] 94)).cell? (aA wr.heap.size 0)=some (iI (nd k))from by simp) dQ;have s2:=aO (show(wr.alloc (.cells #[iI (nd k),iI (fr k),iI (tq k)] 94)).cell? (aA wr.heap.size 2)=some (iI (tq k))from by simp) dQ;clear y2 y5 r0 r1 r2 HS
     by_cases hz:se=0;rotate_left
     ·have hn:(se==0)=false:=by simpa using hz
      have wC:(se !=0)=true:=by simpa using hz
      first|(have _:=m9;have HK:Hid (fH nd fr tq frame k=se):=by show _=_;rw[zP,H4.out,kJ hz])|have HK:Hid (dH nd fr tq nodes aJ round k=se):=by show _=_;rw[xM,H4.out,kJ hz]
      have HZ:Hid (se≠0):=hz;clear hz;go_wp2_with fail
      first|have _:=m9;refine(I3 se (2000+k) HZ.out _).mono ?_|refine(I3 se k HZ.out _).mono ?_
      exact zDb
     ·subst hz
      first|have _:=m9;have xR:Btw w2 fv 0 5:=hB.below C0;go_wp2_with fail;by_cases hn:0<=nd k/\nd k<=5|obtain⟨g1,g2,g3⟩:=aRs H4.out;have g4:=(aBm b1 h0.out).1;have xR:Btw w2 fv 0 (nodes-1):=hB.below C0;go_wp2_with fail;by_cases hn:0<=nd k/\nd k<=nodes-1
      rotate_left
      ·first|(have _:=m9;have hd:decide (0<=nd k/\nd k<=5)=false:=kC hn;have HK:Hid (fH nd fr tq frame k=7):=by show _=_;rw[zP,H4.out,kI oh,kJ od])|have hd:decide (0<=nd k/\nd k<=nodes-1)=false:=kC hn;have HK:Hid (dH nd fr tq nodes aJ round k=7):=by show _=_;rw[xM,H4.out,kI oh,kJ od]
       clear hn;refine(iA false fv _ _ (nd k) w2.heap.size _ _ (xR.alloc _) oh hd).mono ?_;rintro ev w3 ⟨rfl,jN⟩;have hbu:=oE C0 jN;go_wp2_with fail
       first|have _:=m9;refine(I3 7 (2000+k) oe _).mono ?_|refine(I3 7 k oe _).mono ?_
       exact zDe
      ·first|(have _:=m9;have hd:decide (0<=nd k/\nd k<=5)=true:=kD hn;have HK:Hid (fH nd fr tq frame k=0):=by show _=_;rw[zP,H4.out,kI oh,kI od])|have hd:decide (0<=nd k/\nd k<=nodes-1)=true:=kD hn;have HK:Hid (dH nd fr tq nodes aJ round k=0):=by show _=_;rw[xM,H4.out,kI oh,kI od]
       clear hn;refine(iA true fv _ _ (nd k) w2.heap.size _ _ (xR.alloc _) oh hd).mono ?_;rintro ev w3 ⟨rfl,jN⟩;have hbu:=oE C0 jN
       first|have _:=m9|have z2':=aO (show(w2.alloc (.cells #[iI (nd k)] 3)).cell? (aA w.heap.size 2)=_ from by rw[World.cell?_alloc_lt _ _ _ (lt_of_cell z2)];exact z2) jN
       have s2':=aO (show(w2.alloc (.cells #[iI (nd k)] 3)).cell? (aA wr.heap.size 2)=_ from by rw[World.cell?_alloc_lt _ _ _ (lt_of_cell s2)];exact s2) jN
       first|(have _:=m9;have HL:Hid (uB tq (k+1)=tq k):=by show _=_;unfold uB;rw[kI od];simp)|have HL:Hid (qJ tq aJ (k+1)=tq k+aJ+1):=by show _=_;unfold qJ;rw[kI od];simp
       exact zEn
    |obtain⟨r0,r1,r2,r3⟩:=tN k hlt;have bGl:=0;exact zMf
   ·first|have _:=aL8;exact zEa|go_wp2;go_ret;obtain⟨rfl,rfl⟩:=HF.out.at_end (fun j hj=>h0.out j od);exact⟨_,rfl,.inl ⟨rfl,rfl⟩,hV.trans (bT.mono hV.size)⟩
 |replace hl:=hl.below hV;replace hw:=hw.below hV;go_enter func111,ntmps111;go_wp2_with fail;generalize w.alloc (.cells #[iI nodes,iI aF,iI aJ,iI aC,iI aH,iI round,sV sa ns sc,sV la nl lc,iI frame,sV wa nw wc] 51)=V at hc hV hs hl hw⊢;refine(aRy nodes aF aJ aC aH round frame sa la wa ns sc nl lc nw wc _).mono ?_;rintro ev w1 ⟨rfl,dB⟩;obtain⟨h,hh⟩:∃h,dJ nodes aF aJ aC aH round frame ns nl nw=h:=⟨_,rfl⟩;rw[hh];by_cases hz:h=0;rotate_left
  ·have hn:(h==0)=false:=by simpa using hz
   have wC:(h !=0)=true:=by simpa using hz
   obtain⟨rfl,rfl⟩:=HC.out.head hh hz;have HZ:Hid (E≠0):=hz;clear hz hh;go_wp2;go_ret;exact⟨_,rfl,.inr (.inl ⟨rfl,HZ.out,rfl⟩),hV.trans (dB.mono hV.size)⟩
  ·subst hz;have H0:=aEa hh;obtain⟨a1,a2,_,_,⟨b1,b2⟩,_,_,⟨c1,c2⟩,_,d1,d2,d3⟩:=H0;obtain⟨p1,p2⟩:=aLw nodes a1 a2;rw[HPW.out]at p1 p2;have HX:Hid (∃e1 i1 e2 i2 e3 i3,bY (dH nd fr tq nodes aJ round) ns e1 i1/\bY (dC lf lt lb lq hit nodes pw) nl e2 i2/\bY (fH wp wf wt frame) nw e3 i3/\oG e1 i1 e2 i2 e3 i3 E I):=by
    rcases HC.out with⟨q,_⟩|⟨_,q⟩
    ·exact absurd hh q
    ·exact q
   clear HC hh;obtain⟨e1,i1,e2,i2,e3,i3,g1,g2,g3,g4⟩:=HX.out;have HS:Hid (∀u:World,bW V u->Calls prog 156 #[.agg #[iI nodes,iI aF,iI aJ,iI aC,iI aH,iI round,sV sa ns sc,sV la nl lc,iI frame,sV wa nw wc]] u fun ev w'=>∃E,ev=rT E/\U3 w' E e1 i1/\bW u w'):=fun u hu=>aRr nodes aF aJ aC aH round frame sa la wa ns sc nl lc nw wc u a1 a2 b1 b2 c1 c2 d1 nd fr tq (hs.below hu) e1 i1 g1
   have HL:Hid (∀u:World,bW V u->Calls prog 157 #[.agg #[iI nodes,iI aF,iI aJ,iI aC,iI aH,iI round,sV sa ns sc,sV la nl lc,iI frame,sV wa nw wc]] u fun ev w'=>∃E,ev=rT E/\U3 w' E e2 (1000+i2)/\bW u w'):=fun u hu=>aPu nodes aF aJ aC aH round frame sa la wa ns sc nl lc nw wc u a1 a2 d2 lf lt lb lq (hl.below hu) hit pw HPW.out p1 p2 HH.out e2 i2 g2
   have HW:Hid (∀u:World,bW V u->Calls prog 158 #[.agg #[iI nodes,iI aF,iI aJ,iI aC,iI aH,iI round,sV sa ns sc,sV la nl lc,iI frame,sV wa nw wc]] u fun ev w'=>∃E,ev=rT E/\U3 w' E e3 (2000+i3)/\bW u w'):=fun u hu=>aWi nodes aF aJ aC aH round frame sa la wa ns sc nl lc nw wc u d3 wp wf wt (hw.below hu) e3 i3 g3
   have HR:Hid (oG e1 i1 e2 i2 e3 i3 E I):=g4;clear HX g1 g2 g3 g4 HPW HH hs hl hw;obtain⟨x0,x1,x2,x3,x4,x5,x6,x7,x8,x9⟩:=hc.below dB;go_wp2_with fail;refine(HS.out _ dB).mono ?_;rintro ev w2 ⟨E1,rfl,hE1,dQ⟩;have xR:=jS dB dQ;clear x0 x1 x2 x3 x4 x5 x6 x7 x8 x9;by_cases z1:e1=0;rotate_left
   ·obtain⟨b,rfl⟩:=hE1.isSome z1;have HE:Hid (jK w2 (.iface 299 (pP b)) E I):=by obtain⟨r1,r2⟩:=HR.out.1 z1;rw[r1,r2];exact hE1.err z1
    clear z1 hE1;go_wp2;go_ret;exact⟨_,rfl,HE.out,hV.trans (xR.mono hV.size)⟩
   subst z1;obtain rfl:=hE1.isNone;obtain⟨x0,x1,x2,x3,x4,x5,x6,x7,x8,x9⟩:=hc.below xR;go_wp2_with fail;refine(HL.out _ xR).mono ?_;rintro ev w3 ⟨E2,rfl,hE2,jN⟩;have uQ:=jS xR jN;clear x0 x1 x2 x3 x4 x5 x6 x7 x8 x9;by_cases z2:e2=0;rotate_left
   ·obtain⟨b,rfl⟩:=hE2.isSome z2;have HE:Hid (jK w3 (.iface 299 (pP b)) E I):=by obtain⟨r1,r2⟩:=HR.out.2.1 rfl z2;rw[r1,r2];exact hE2.err z2
    clear z2 hE2;go_wp2;go_ret;exact⟨_,rfl,HE.out,hV.trans (uQ.mono hV.size)⟩
   subst z2;obtain rfl:=hE2.isNone;obtain⟨x0,x1,x2,x3,x4,x5,x6,x7,x8,x9⟩:=hc.below uQ;go_wp2_with fail;refine(HW.out _ uQ).mono ?_;rintro ev w4 ⟨E3,rfl,hE3,yN⟩;have hB4:=jS uQ yN;have HE:Hid (jK w4 E3 E I):=by
    by_cases z3:e3=0
    ·subst z3;obtain rfl:=hE3.isNone;exact .inl ⟨rfl,HR.out.bB8 rfl rfl rfl⟩
    ·obtain⟨r1,r2⟩:=HR.out.win rfl rfl z3;rw[r1,r2];exact hE3.err z3
   clear x0 x1 x2 x3 x4 x5 x6 x7 x8 x9 hE3;go_wp2;go_ret;exact⟨_,rfl,HE.out,hV.trans (hB4.mono hV.size)⟩):p:=h
theorem zPq(h:p:=by
 (go_at_call 195;refine(aDi true fv _ _ (aJ) (aC) (aH) u0.heap.size _ _ (hB.alloc _) oh oh oh hd1).mono ?_;rintro e x0 ⟨rfl,fP⟩;have hW:=oE hW fP;obtain⟨c0,c1,c2,c3,c4,c5,c6,c7,c8,c9⟩:=hc.below hW)
 first|have _:=bM1;exact zNa|exact zAo):p:=h
theorem zPt(h:p:=by
 (go_at_call 195;refine(iA true fv _ _ (nodes) u0.heap.size _ _ (hB.alloc _) oh hd1).mono ?_;rintro e x0 ⟨rfl,fP⟩;have hW:=oE hW fP;obtain⟨c0,c1,c2,c3,c4,c5,c6,c7,c8,c9⟩:=hc.below hW)
 first|have _:=bM4;exact zAq|exact zJd):p:=h
theorem zPw(h:p:=by
 (go_at_call 195;refine(iA true fv _ _ (lt) u0.heap.size _ _ (hB.alloc _) oh hd1).mono ?_;rintro e x0 ⟨rfl,fP⟩;have hW:=oE hW fP;obtain⟨c0,c1,c2,c3⟩:=hc.below hW)
 first|have _:=bM6;exact zG4|exact zKy):p:=h
theorem zPx(h:p:=by
 (go_at_call 195;refine(iA true fv _ _ (lb) u0.heap.size _ _ (hB.alloc _) oh hd1).mono ?_;rintro e x0 ⟨rfl,fP⟩;have hW:=oE hW fP;obtain⟨c0,c1,c2,c3⟩:=hc.below hW)
 first|have _:=bM7;exact zAu|exact zJk):p:=h
theorem zPy(h:p:=by
 refine tk 8 aG ?_;refine tk 9 aG ?_;refine tk 10 aG ?_;refine tk 11 aG ?_;refine tk 12 aG ?_;refine tk 13 aG ?_;refine tk 14 aG ?_
 first
 |have _:=bM8
  first
  |have _:=bH9
   first
   |have _:=bKw;refine tk 15 aG ?_
    first|have _:=m62;refine eA 16 fun K hK=>?_;go_simp;refine Calls.mono hM ?_;rintro e u1 ⟨x,rfl,hx,hq,wT⟩;have hb:bW w u1:=fR wT;have m0:u1.cell? (aA b off)=some (iI y0):=bc hb gX n0;have m1:u1.cell? (aA b (off+1))=some (iI y1):=bc hb gX n1;have m2:u1.cell? (aA b (off+2))=some (iI y2):=bc hb gX n2;have m3:u1.cell? (aA b (off+3))=some (iI y3):=bc hb gX n3;have m4:u1.cell? (aA b (off+4))=some (iI y4):=bc hb gX n4;have hT:=pI x hx u1 (HT.out u1 hb);have HQ:Hid _:=hq;refine kp hK (fun aG=>?_) ⟨m0,m1,m2,m3,m4⟩;clear hK K hM wT hq|refine tk 16 aG ?_
    refine tk 17 aG ?_;refine tk 18 aG ?_;refine tk 19 aG ?_
    first
    |have _:=m62;refine eA 20 fun K hK=>?_;go_simp;refine kp hK (fun aG=>?_) ⟨m0,m1,m2,m3,m4⟩;clear hK K;refine eA 21 fun K hK=>?_;go_simp;refine kp hK (fun aG=>?_) ⟨m0,m1,m2,m3,m4⟩;clear hK K;refine dn ?_;go_wp2_with fail;all_goals(
      refine hT.mono ?_
      rintro e w2 ⟨rfl,dQ⟩
      go_wp2
      go_ret2
      exact HE.out x w2 HQ.out (hb.trans (dQ.mono hb.size)))
    |refine tk 20 aG ?_;refine tk 21 aG ?_;refine tk 22 aG ?_;refine tk 23 aG ?_;refine tk 24 aG ?_;refine tk 25 aG ?_;refine tk 26 aG ?_;refine eA 27 fun K hK=>?_;go_simp;refine kp hK (fun aG=>?_) ⟨(aB (.inl qY.out)).trans n0,(aB (.inl qY.out)).trans n1,(aB (.inl qY.out)).trans n2,(aB (.inl qY.out)).trans n3,(aB (.inl qY.out)).trans n4,(aB (.inl qY.out)).trans n5⟩;clear hK K;obtain⟨W1,hW⟩:∃W,w.setCell (aA S 0) (iI y0)=W:=⟨_,rfl⟩;have B1:=cH (i:=0) B0 (iI y0);rw[hW]at aG B1⊢;have HW1:Hid (w.setCell (aA S 0) (iI y0)=W1):=hW;clear hW n0 n1 n2 n3 n4 n5;have hH:=aG;obtain⟨n0,n1,n2,n3,n4,n5⟩:=hH;have c1:=aM B1 (i:=1) rfl;have z1:=bC B1 (i:=1);refine tk 28 aG ?_;refine tk 29 aG ?_;refine tk 30 aG ?_;refine eA 31 fun K hK=>?_;go_simp;refine kp hK (fun aG=>?_) ⟨(aB (.inl qY.out)).trans n0,(aB (.inl qY.out)).trans n1,(aB (.inl qY.out)).trans n2,(aB (.inl qY.out)).trans n3,(aB (.inl qY.out)).trans n4,(aB (.inl qY.out)).trans n5⟩;clear hK K;obtain⟨W2,hW⟩:∃W,W1.setCell (aA S 1) (iI y1)=W:=⟨_,rfl⟩;have B2:=cH (i:=1) B1 (iI y1);rw[hW]at aG B2⊢;have HW2:Hid (W1.setCell (aA S 1) (iI y1)=W2):=hW;clear hW n0 n1 n2 n3 n4 n5;have hH:=aG;obtain⟨n0,n1,n2,n3,n4,n5⟩:=hH;have c2:=aM B2 (i:=2) rfl;have z2:=bC B2 (i:=2);refine tk 32 aG ?_;refine tk 33 aG ?_;refine tk 34 aG ?_;refine eA 35 fun K hK=>?_;go_simp;refine kp hK (fun aG=>?_) ⟨(aB (.inl qY.out)).trans n0,(aB (.inl qY.out)).trans n1,(aB (.inl qY.out)).trans n2,(aB (.inl qY.out)).trans n3,(aB (.inl qY.out)).trans n4,(aB (.inl qY.out)).trans n5⟩;clear hK K;obtain⟨W3,hW⟩:∃W,W2.setCell (aA S 2) (iI y2)=W:=⟨_,rfl⟩;have B3:=cH (i:=2) B2 (iI y2);rw[hW]at aG B3⊢;have HW3:Hid (W2.setCell (aA S 2) (iI y2)=W3):=hW;clear hW n0 n1 n2 n3 n4 n5;have hH:=aG;obtain⟨n0,n1,n2,n3,n4,n5⟩:=hH;have c3:=aM B3 (i:=3) rfl;have z3:=bC B3 (i:=3);refine tk 36 aG ?_;refine tk 37 aG ?_;refine tk 38 aG ?_;refine eA 39 fun K hK=>?_;go_simp;refine kp hK (fun aG=>?_) ⟨(aB (.inl qY.out)).trans n0,(aB (.inl qY.out)).trans n1,(aB (.inl qY.out)).trans n2,(aB (.inl qY.out)).trans n3,(aB (.inl qY.out)).trans n4,(aB (.inl qY.out)).trans n5⟩;clear hK K;obtain⟨W4,hW⟩:∃W,W3.setCell (aA S 3) (iI y3)=W:=⟨_,rfl⟩;have B4:=cH (i:=3) B3 (iI y3);rw[hW]at aG B4⊢;have HW4:Hid (W3.setCell (aA S 3) (iI y3)=W4):=hW;clear hW n0 n1 n2 n3 n4 n5;have hH:=aG;obtain⟨n0,n1,n2,n3,n4,n5⟩:=hH;have c4:=aM B4 (i:=4) rfl;have z4:=bC B4 (i:=4);refine tk 40 aG ?_;refine tk 41 aG ?_;refine tk 42 aG ?_;refine eA 43 fun K hK=>?_;go_simp;refine kp hK (fun aG=>?_) ⟨(aB (.inl qY.out)).trans n0,(aB (.inl qY.out)).trans n1,(aB (.inl qY.out)).trans n2,(aB (.inl qY.out)).trans n3,(aB (.inl qY.out)).trans n4,(aB (.inl qY.out)).trans n5⟩;clear hK K;obtain⟨W5,hW⟩:∃W,W4.setCell (aA S 4) (iI y4)=W:=⟨_,rfl⟩;have B5:=cH (i:=4) B4 (iI y4);rw[hW]at aG B5⊢;have HW5:Hid (W4.setCell (aA S 4) (iI y4)=W5):=hW;clear hW n0 n1 n2 n3 n4 n5;have hH:=aG;obtain⟨n0,n1,n2,n3,n4,n5⟩:=hH;have c5:=aM B5 (i:=5) rfl;have z5:=bC B5 (i:=5);refine tk 44 aG ?_;refine tk 45 aG ?_;refine tk 46 aG ?_;refine eA 47 fun K hK=>?_;go_simp;refine kp hK (fun aG=>?_) ⟨(aB (.inl qY.out)).trans n0,(aB (.inl qY.out)).trans n1,(aB (.inl qY.out)).trans n2,(aB (.inl qY.out)).trans n3,(aB (.inl qY.out)).trans n4,(aB (.inl qY.out)).trans n5⟩;clear hK K;obtain⟨W6,hW⟩:∃W,W5.setCell (aA S 5) (iI y5)=W:=⟨_,rfl⟩;have B6:=cH (i:=5) B5 (iI y5);rw[hW]at aG B6⊢;have HW6:Hid (W5.setCell (aA S 5) (iI y5)=W6):=hW;clear hW n0 n1 n2 n3 n4 n5;have hH:=aG;obtain⟨n0,n1,n2,n3,n4,n5⟩:=hH;clear aG n0 n1 n2 n3 n4 n5 c0 c1 c2 c3 c4 c5 z0 z1 z2 z3 z4 z5 B0 B1 B2 B3 B4 B5 B6;refine dn ?_;go_wp2;go_ret2;have e6:=HW6.out;subst e6;have e5:=HW5.out;subst e5;have e4:=HW4.out;subst e4;have e3:=HW3.out;subst e3;have e2:=HW2.out;subst e2;have e1:=HW1.out;subst e1;obtain⟨e0,e1,e2,e3,e4,e5⟩:=HY.out;rw[<-e0,<-e1,<-e2,<-e3,<-e4,<-e5];exact(aPj HS.out HC.out n tx).drew
   |first|have _:=m27;refine tk 15 aG ?_;refine tk 16 aG ?_;refine eA 17 fun K hK=>?_|refine eA 15 fun K hK=>?_
    go_simp;refine Calls.mono HC.out ?_;intro e u1 hd;have J1:=HP.out e u1 hd;obtain⟨qQ,r,M',O',A',h1,rfl,hf,h4⟩:=hd
    first
    |have _:=m27
     cases r with
     |inl k=>exact⟨rfl,J1⟩
     |inr s=>
      have hcs:u1.cell? (aA b off)=some (iI y0)/\u1.cell? (aA b (off+1))=some (iI y1)/\u1.cell? (aA b (off+2))=some (iI y2)/\u1.cell? (aA b (off+3))=some (iI y3):=⟨(hf.cell (p:=(aA b off)) zW HBO.out).trans n0,(hf.cell (p:=(aA b (off+1))) zW HBO.out).trans n1,(hf.cell (p:=(aA b (off+2))) zW HBO.out).trans n2,(hf.cell (p:=(aA b (off+3))) zW HBO.out).trans n3⟩
      clear hf h4 h1
      refine kp hK (fun aG=>?_) hcs
      clear hK K
      refine eA 18 fun K hK=>?_
      go_simp
      refine kp hK (fun aG=>?_) hcs
      clear hK K
      refine dn ?_
      go_wp2_with fail
      go_ret
      exact J1
     skip
    |cases r with
     |inl k=>exact⟨rfl,J1⟩
     |inr s=>
      have hcs:u1.cell? (aA b off)=some (iI y0)/\u1.cell? (aA b (off+1))=some (iI y1)/\u1.cell? (aA b (off+2))=some (iI y2):=⟨(hf.cell (p:=(aA b off)) zW HBO.out).trans n0,(hf.cell (p:=(aA b (off+1))) zW HBO.out).trans n1,(hf.cell (p:=(aA b (off+2))) zW HBO.out).trans n2⟩
      clear hf h4 h1
      refine kp hK (fun aG=>?_) hcs
      clear hK K
      refine eA 16 fun K hK=>?_
      go_simp
      refine kp hK (fun aG=>?_) hcs
      clear hK K
      refine dn ?_
      go_wp2_with fail
      go_ret
      exact J1
     skip
  |first|have _:=aEg;refine Y5 4 15 (fun K hK=>?_) (fun K hK=>?_)|refine tk 15 aG ?_;refine Y5 5 16 (fun K hK=>?_) (fun K hK=>?_)
   ·go_simp;refine kp hK (fun aG=>?_) ⟨n0,n1,n2⟩;clear hK K
    first
    |have _:=aEg;refine eA 15 fun K hK=>?_
     first|have _:=m8;exact zGz|exact zGy
    |refine eA 16 fun K hK=>?_
     first|have _:=m6;exact zGx|exact zGw
   ·go_simp;refine kp hK (fun aG=>?_) ⟨m0 _,m1 _,m2 _⟩;clear hK K
    first
    |have _:=aEg;refine eA 4 fun K hK=>?_
     first|have _:=m8;exact zGz|exact zGy
    |refine eA 5 fun K hK=>?_
     first|have _:=m6;exact zGx|exact zGw
 |refine tk 15 aG ?_;refine tk 16 aG ?_;refine tk 17 aG ?_
  first|have _:=m82;exact zAj|refine dn ?_;exact aSp _ _ _ _ _ _ _ _ _ _ _ _ _ _ _ _ _ _ _ _ _ _ _ _ _ _ hW):p:=h
theorem zP0(h:p:=by
 go_enter func94,ntmps94;go_wp2_with(first|(go_at_call 96;refine(tK _ _).mono ?_;rintro e w' ⟨rfl,rfl⟩)|go_in)
 first
 |have _:=bMa;refine wp_loop_rounds 4 ?_
  first
  |have _:=bLr
   first
   |have _:=bL4
    first|have _:=bKa;exact zQd|exact zMt
   |first|have _:=bK7|(rw[rounds_succ];go_wp2_with(first|(go_at_call 96;refine(tK _ _).mono ?_;rintro e w' ⟨rfl,rfl⟩)|go_in);skip)
    exact zIj
  |have bMi:=0;exact zQd
 |refine bodyPost_ret (v:=.agg #[iI 1,iI (-1)]) oy rfl ⟨rfl,?_⟩;exact zGm):p:=h
theorem zP3(h:p:=by
 go_simp;refine kp hK fun aG=>?_;clear hK K;refine eA 0 fun K hK=>?_;go_simp
 first
 |have _:=bHi
  first|have _:=aYd;(go_at_call 196;refine(dO _ _ _).mono ?_;rintro e u0 ⟨fv,rfl,hB,hu⟩;have L9:=aO (a:=(aA u.heap.size 0)) (v:=iI lb) oh hu;have hW:=G8 hW hu;obtain⟨c0,c1,c2,c3⟩:=hc.below hW)|(go_at_call 196;refine(dO _ _ _).mono ?_;rintro e u0 ⟨fv,rfl,hB,hu⟩;have L9:=aO (a:=(aA V.heap.size 0)) (v:=iI nodes) oh hu;have hW:=G8 hW hu;obtain⟨c0,c1,c2,c3,c4,c5,c6,c7,c8,c9⟩:=hc.below hW)
 |have _:=bGm;(go_at_call 196;refine(dO _ _ _).mono ?_;rintro e u0 ⟨fv,rfl,hB,hu⟩;have L9:=aO (a:=(aA V.heap.size 0)) (v:=iI nodes) oh hu;have hW:=G8 hW hu;obtain⟨c0,c1,c2,c3,c4,c5,c6,c7,c8,c9⟩:=hc.below hW)
 |(go_at_call 196;refine(dO _ _ _).mono ?_;rintro e u0 ⟨fv,rfl,hB,hu⟩;have L9:=aO (a:=(aA u.heap.size 0)) (v:=iI lb) oh hu;have hW:=G8 hW hu;obtain⟨c0,c1,c2,c3⟩:=hc.below hW)
 refine kp hK fun aG=>?_;clear hK K;refine eA 4 fun K hK=>?_;go_simp
 first
 |have _:=bHi
  first
  |have _:=aYd
   first|have _:=m22;have bLq:=0;exact zPb|(go_at_call 195;refine(iA false fv _ _ (lb) u.heap.size _ _ hB L9 hd).mono ?_;rintro e x0 ⟨rfl,fP⟩;have hW:=jS hW fP;obtain⟨c0,c1,c2,c3⟩:=hc.below hW);exact zGv
  |have _:=m21;have bLm:=0;exact zO4
  |(go_at_call 195;refine(iA false fv _ _ (nodes) V.heap.size _ _ hB L9 hd).mono ?_;rintro e x0 ⟨rfl,fP⟩;have hW:=jS hW fP;obtain⟨c0,c1,c2,c3,c4,c5,c6,c7,c8,c9⟩:=hc.below hW);exact zIg
 |have _:=bGm;exact zO4
 |exact zPb):p:=h
theorem zP8(h:p:=by
 clear hSA hc A6 qF sS sU;subst bJ2;rw[hwi]at x0;obtain⟨z0,z1,z2⟩:=bAi wr (iI (who:Int)) (iI (p.fr i)) (iI (p.td i)) 94;have zb:bW wr (wr.alloc (.cells #[iI (who:Int),iI (p.fr i),iI (p.td i)] 94)):=(kX _ _).alloc (kF _) _;have zs:(wr.alloc (.cells #[iI (who:Int),iI (p.fr i),iI (p.td i)] 94)).heap.size=wr.heap.size+1:=oh;have hci:=h;obtain⟨W1,R0⟩:∃W1,W1=wr.alloc (.cells #[iI (who:Int),iI (p.fr i),iI (p.td i)] 94):=⟨_,rfl⟩;have HW1:Hid (W1=wr.alloc (.cells #[iI (who:Int),iI (p.fr i),iI (p.td i)] 94)):=R0;obtain⟨SB,bF3⟩:∃SB,wr.heap.size=SB:=⟨_,rfl⟩;have bIm:Hid (wr.heap.size=SB):=bF3;rw[<-R0]at z0 z1 z2 zb zs;have HSO:Hid (SB∉Oi):=fun y=>by have:=hci.lt _ y;omega
 have aOc:Hid (tY p (si.goes p.S H rd i).2):=hci.msg H i;have A8:Hid (cP Oi W1 W1 Z C p fa cs si rd (B) m):=⟨Oi,aS.refl _ _,hci.below zb⟩;have bI5:Hid (∀(w':World) (s2:cA) (B2:Nat),cP Oi W1 w' Z C p fa cs s2 rd B2 m->cP Oi wr w' Z C p fa cs s2 rd B2 m):=fun w' s2 B2 ⟨O2,h2,c2⟩=>⟨O2,(aS.of_below zb).trans h2,c2⟩;have aWv:Hid (∀b off,la=some (aA b off)->b∉Oi):=hrO;have aWt:Hid (∀b off,la=some (aA b off)->b<W1.heap.size):=fun b off e=>by have:=hrL b off e;omega
 have HRW:Hid (dX W1 la nL ls oJ lt):=hr.below zb;have HMR:Hid (∀(x:Nat),x<bH.length->∃b2 vT,ma=some (aA b2 vT)/\(b2<W1.heap.size/\b2∉Oi)/\W1.cell? (aA b2 (vT+x))=some (iI (bH.getD x 0))):=fun x hx=>by exact zBo
 have HLO:Hid (∀j,j<p.n->∀c,c<2->mS ls oJ lt nL i c j=aW (if c=0 then aZ (fun j=>H.lost i 0 j) p.n else aZ (fun j=>H.lost i 1 j) p.n) j):=fun j hj c hc=>by exact zBg
 have hSB:SB<W1.heap.size:=od;rw[bF3]at z0 z1 z2;have sb0:W1.cell? (aA SB 0)=some (iI who):=z0;have sb1:W1.cell? (aA SB 1)=some (iI (p.fr i)):=z1;have hLi:=vF C fa who od W1 A8.out.base.c10;obtain⟨sB,hsB⟩:∃sB,eZ (si.nodes who).g (si.nodes who).b (si.nodes who).fz=sB:=⟨_,rfl⟩;obtain⟨M0,hM0⟩:∃M0,(if eZ (si.nodes who).g (si.nodes who).b (si.nodes who).fz=true then aZ (si.nodes who).t p.n else 0)=M0:=⟨_,rfl⟩;have bAt:Hid (eZ (si.nodes who).g (si.nodes who).b (si.nodes who).fz=sB):=hsB;have HM0:Hid ((if eZ (si.nodes who).g (si.nodes who).b (si.nodes who).fz=true then aZ (si.nodes who).t p.n else 0)=M0):=hM0;have HM1:Hid (sB=true->M0=aZ (si.nodes who).t p.n):=fun y=>by rw[<-hM0,hsB,kJ y]
 clear R0 hci h hsB hM0 zb z0 z1 z2 e hr hrO hrL hm hmO qW rW;rw[HW1.out]at hLi sb0 sb1;go_wp2_with fail;try rw[bIm.out]
 refine hLi.mono ?_;rintro ev w2 ⟨rfl,q2,qP⟩;rw[<-HW1.out]at qP sb0 sb1;have L6:Hid (cP Oi W1 w2 Z C p fa cs si rd (B) m):=Eo;have bO6:w2.cell? (aA SB 0)=some (iI who):=(L6.out.box hSB HSO.out 0).trans sb0;have bNi:SB<w2.heap.size:=kB hSB L6.out.size;clear qP hLi
 first
 |have _:=bMe
  first|(have _:=m2;have hmo:H.nG who=0:=by unfold lJ.nG;rw[aNh.out,qE.1,kJ rfl,aS8.out,kI qE.2])|have hmo:H.nG who=0:=by unfold lJ.nG;rw[aNh.out,qE,kI oe]
  have aNi:Hid (sB=si.sends H who):=Ey;have aS7:Hid (sB=true->M0=aZ (si.pH p.S H who) p.n):=fun y=>(HM1.out y).trans (gF fun j _=>by show _=if H.nG who=2/\_ then _ else _;rw[hmo,kI (fun z=>by cases z.1)])
  first|have _:=m2;rw[qE.1];have kwm:decide ((who:Int)<(bH.length:Int))=false:=kC (by have:=qE.2;omega);have bO0:decide (who<bH.length)=false:=kC qE.2|rw[qE]
  clear hmo qE;exact zOt
 |first
  |have _:=bGr
   first|have _:=m1;obtain⟨wU,hwm,d1,d2⟩:=qE;skip|obtain⟨wU,hwm,aT3⟩:=qE;skip
  |obtain⟨qE,d3⟩:=qE;obtain⟨wU,hwm,aT3⟩:=qE;skip
  have hmo:H.nG who=bH.getD who 0:=Ed;rw[wU];have kwm:(who:Int)<(bH.length:Int):=od;obtain⟨b2,vT,rfl,⟨dQ,aXt⟩,R2⟩:=HMR.out who hwm;have bJ7:b2<w2.heap.size:=kB dQ L6.out.size;have ysm:w2.cell? (aA b2 (vT+who))=some (iI (bH.getD who 0)):=(L6.out.box dQ aXt _).trans R2
  first
  |have _:=bGr
   first
   |have _:=m1;obtain⟨MD,hMD⟩:∃MD,bH.getD who 0=MD:=⟨_,rfl⟩;rw[hMD]at ysm hmo d1 d2;clear hMD wU hwm R2 aXt;have aNi:Hid (sB=si.sends H who):=by show _=_;unfold cA.sends;rw[bAt.out,hmo];simp[d1]
    have aS7:Hid (sB=true->M0=aZ (si.pH p.S H who) p.n):=fun y=>(HM1.out y).trans (gF fun j _=>by show _=if H.nG who=2/\_ then _ else _;rw[hmo,kI (fun z=>d2 z.1)]);have k1:(MD==1)=false:=by simpa using d1
    have k2:(MD==2)=false:=by simpa using d2
    clear hmo d1 d2;exact zOt
   |rw[aT3]at ysm hmo;clear aT3 wU hwm R2 aXt;have aNi:Hid (false=si.sends H who):=by show _=_;unfold cA.sends;rw[hmo];simp
    have aS7:Hid (false=true->M0=aZ (si.pH p.S H who) p.n):=fun y=>by cases y
    clear hmo;exact zPp
  |rw[aT3]at ysm hmo;clear aT3 wU hwm R2 aXt;have aNi:Hid (sB=si.sends H who):=Ey;have hNX:(who+1)%p.n<p.n:=Nat.mod_lt _ od;obtain⟨NX,aP9⟩:∃NX,(who+1)%p.n=NX:=⟨_,rfl⟩;rw[aP9]at d3
   first|have _:=m0;have bN2:NX<=15:=od|skip
   have htm:Int.tmod ((who:Int)+1) (p.n:Int)=(NX:Int):=by rw[Int.tmod_eq_emod_of_nonneg od,<-aP9];rfl
   have k0:((p.n:Int)==0)=false:=ol;have hpw:=aUg who od;have hpx:=aUg NX od;have e1:wrap64 ((2:Int)^who)=2^who:=by unfold wrap64;generalize(2:Int)^who=T at *;omega
   have e2:wrap64 ((2:Int)^NX)=2^NX:=by unfold wrap64;generalize(2:Int)^NX=T at *;omega
   first
   |have _:=m0;obtain⟨X1,hX1⟩:∃X1,bits BinOp.xor .i64 M0 (2^who)=X1:=⟨_,rfl⟩;obtain⟨X2,hX2⟩:∃X2,bits BinOp.xor .i64 X1 (2^NX)=X2:=⟨_,rfl⟩;have aS7:Hid (sB=true->X2=aZ (si.pH p.S H who) p.n):=fun y=>by rw[<-hX2,<-hX1,HM1.out y,<-aP9,bE1 _ hn H7 (fun z=>d3 (aP9.symm.trans z))];exact zC2
    have k3:((NX:Int) !=(who:Int))=true:=ol
   |have aS7:Hid (sB=true->bits BinOp.xor .i64 M0 (2^who)=aZ (si.pH p.S H who) p.n):=fun y=>by rw[HM1.out y,bE0 _ hn H7 (aP9.trans d3)];exact zC2
    have k3:((NX:Int) !=(who:Int))=false:=ol
   clear hmo aP9 d3;have bH6:=0;exact zOt):p:=h
theorem zQa(h:p:=by
 have HV0:Hid (aS O O w V):=aS.of_below yM;have hc:=h.below yM
 first|have _:=bCo;have HX:Hid ((w.heap.size∉O/\w.heap.size+1∉O/\w.heap.size+1+1∉O)/\V.heap.size=w.heap.size+3):=⟨⟨fun y=>kU _ (h.lt _ y),fun y=>by have:=h.lt _ y;omega,fun y=>by have:=h.lt _ y;omega⟩,hsz⟩;have HBR:Hid _:=bR;have HBS:Hid _:=bS;have HBF:Hid _:=bF;have HZ:Hid _:=And.intro zR zF|have _:=bCg;have HX:Hid ((w.heap.size∉O/\w.heap.size+1∉O/\w.heap.size+1+1∉O)/\V.heap.size=w.heap.size+3):=⟨⟨fun y=>kU _ (h.lt _ y),fun y=>by have:=h.lt _ y;omega,fun y=>by have:=h.lt _ y;omega⟩,hsz⟩;have HBR:Hid _:=bR;have HBS:Hid _:=bS;have HBF:Hid _:=bF;have HZ:Hid _:=And.intro zR zF|skip
 have HI0:Hid (dZ O V V C p fa cs s rd B m):=⟨O,aS.refl _ _,hc⟩
 first|have _:=bCo;have HN:Hid (p.n<=16/\who<p.n/\p.nodes=p.n/\1<=B):=⟨hn,H7,jB,wS⟩;have c13:=hc.base.c13;have cnd:=hc.base.nd who H7;have hnb:=hc.base.lx _ hc.base.ndX;have hlV:=hc.base.lc;have b0:V.cell? (aA (w.heap.size+1) 0)=some (iI who):=bS 0 _ rfl;have R7:=fun(u:Nat)=>aNm (HI0.out.drawn u) who H7 wS;have H4:Hid _:=R7|have _:=bCg;have HN:Hid (p.n<=16/\who<p.n/\p.nodes=p.n/\1<=B):=⟨hn,H7,jB,wS⟩;have c13:=hc.base.c13;have cnd:=hc.base.nd who H7;have hnb:=hc.base.lx _ hc.base.ndX;have hlV:=hc.base.lc;have b0:V.cell? (aA (w.heap.size+1) 0)=some (iI who):=bS 0 _ rfl;have R7:=fun(u:Nat)=>aNm (HI0.out.drawn u) who H7 wS;have H4:Hid _:=R7|have HX:Hid ((w.heap.size∉O/\w.heap.size+1∉O)/\(∀(i':Nat) (v:Value),(#[iI who,iI i,iI mem,iI lk,iI q,sT d]:Array Value)[i']?=some v->V.cell? (aA w.heap.size i')=some v)/\(∀(i':Nat) (v:Value),(#[iI l0,iI l1]:Array Value)[i']?=some v->V.cell? (aA (w.heap.size+1) i')=some v)/\V.heap.size=w.heap.size+2):=⟨⟨fun y=>kU _ (h.lt _ y),fun y=>by have:=h.lt _ y;omega⟩,bx,by2,hsz⟩;have c13:=hc.base.c13;have sG:=hc.base.lc;have HN:Hid (p.n<=16/\who<p.n/\B<=9999000):=⟨hn,A6,hB⟩;have bJ5:=hVe.symm
 obtain⟨n,hpn⟩:∃n,p.n=n:=⟨_,rfl⟩;have L8:Hid (p.n=n):=hpn
 first
 |have _:=bCo;have bM5:=0;exact zPu
 |have _:=bCg;exact zPu
 |rw[hpn]at c13 hn A6⊢;clear h hc yM hVe bx by2 hpn hB;go_enter func129,ntmps129;go_wp2_with fail;clear bJ5 c13 hsz sG HM;go_loopw[18] (fun t wr=>∃j:Nat,j<=n/\t=iI j/\Hid (dZ O V wr C p fa cs (s.cK p who mem mk aT l0 l1 j) rd (B+5*j) m)) (fun t _=>n-(intOf t).toNat);case atStart=>exact⟨0,kH _,rfl,HI0⟩
  case round=>
   obtain⟨j,hj,rfl,HI⟩:=hrel;by_cases hlt:j<n
   ·have jj:(j:Int)<(n:Int):=by omega
    have cnd:=HI.out.base.nd j (by rw[L8.out];exact hlt);have hnb:=HI.out.base.lx _ HI.out.base.ndX;have hbw:w.heap.size<wr.heap.size:=by have:=HI.out.size;have:=HX.out.2.2.2;omega
    have bNm:w.heap.size+1<wr.heap.size:=by have:=HI.out.size;have:=HX.out.2.2.2;omega
    have f0:wr.cell? (aA w.heap.size 0)=some (iI who):=(HI.out.box Em HX.out.1.1 0).trans (HX.out.2.1 0 _ rfl);have a0:wr.cell? (aA (w.heap.size+1) 0)=some (iI l0):=(HI.out.box Em HX.out.1.2 0).trans (HX.out.2.2.1 0 _ rfl);have a1:wr.cell? (aA (w.heap.size+1) 1)=some (iI l1):=(HI.out.box Em HX.out.1.2 1).trans (HX.out.2.2.1 1 _ rfl);have HLT:Hid (j<n):=hlt;by_cases hwj:j=who
    ·have L6:Hid (dZ O V wr C p fa cs (s.cK p who mem mk aT l0 l1 (j+1)) rd (B+5*(j+1)) m):=by have e:s.cK p who mem mk aT l0 l1 (j+1)=s.cK p who mem mk aT l0 l1 j:=kJ hwj;show dZ _ _ _ _ _ _ _ _ _ _ _;rw[e];exact HI.out.more od
     subst hwj;clear HI a0 a1;exact zFq
    ·have kw:((j:Int)==(who:Int))=false:=by simp;omega
     have HW:Hid (¬j=who):=hwj;clear hwj;go_wp2_with fail;clear f0 a0 a1 cnd kw;go_loopw[10,28] (fun x t v=>∃c:Nat,c<=2/\t=iI c/\x=iI (if cQ aT l0 l1 j c=true then eV p.n (s.nodes j).t (tb mem) who mem else 0)/\Hid (dZ O V v C p fa cs (if cQ aT l0 l1 j c=true then(s.cK p who mem mk aT l0 l1 j).dT p mk j else s.cK p who mem mk aT l0 l1 j) rd (B+5*j+2*c) m)) (fun _ t _=>2-(intOf t).toNat);case atStart=>
      refine⟨0,oe,rfl,?_,?_⟩
      ·rw[xA];rfl
      ·rw[xA];exact HI
     case round=>
      clear HI;obtain⟨c,hc,rfl,rfl,HJ⟩:=hrel;have HJN:Hid ((if cQ aT l0 l1 j c=true then(s.cK p who mem mk aT l0 l1 j).dT p mk j else s.cK p who mem mk aT l0 l1 j).nodes j=s.nodes j):=by
       show _=_;split
       ·rw[sD];exact tD j j (kF _)
       ·exact tD j j (kF _)
      by_cases R2:c<2
      ·have hix:=bMq l0 l1 c R2;have cc2:(c:Int)<2:=od;have HS:=aA2 aT l0 l1 j c R2;have HSU:Hid (cQ aT l0 l1 j (c+1)=(cQ aT l0 l1 j c||(aT&& !aW (if c=0 then l0 else l1) j))):=HS;clear HS;have bI8:Hid (j<=16):=by show j<=16;omega
       generalize(if c=0 then l0 else l1)=lc at *;have yO:=fun v=>yJ lc j bI8.out v;cases hs:aT&& !aW lc j
       ·have HE:Hid (cQ aT l0 l1 j (c+1)=cQ aT l0 l1 j c):=by show _=_;rw[HSU.out,hs,Bool.or_false]
        have HJ2:Hid (dZ O V wr C p fa cs (if cQ aT l0 l1 j (c+1)=true then(s.cK p who mem mk aT l0 l1 j).dT p mk j else s.cK p who mem mk aT l0 l1 j) rd (B+5*j+2*(c+1)) m):=by show dZ _ _ _ _ _ _ _ _ _ _ _;rw[HE.out];exact HJ.out.more od
        clear HJ HSU;generalize hWH:(if cQ aT l0 l1 j c=true then eV p.n (s.nodes j).t (tb mem) who mem else 0)=WH;have HWH:Hid (WH=(if cQ aT l0 l1 j (c+1)=true then eV p.n (s.nodes j).t (tb mem) who mem else 0)):=by show _=_;rw[HE.out];exact hWH.symm
        clear hWH HE HJN;cases aT
        ·clear yO hs;exact zE6
        ·have dQ:aW lc j=true:=by simpa using hs
         rw[dQ]at yO;clear hs dQ;go_wp2_with fail;refine(yO _).mono ?_;rintro e v1 ⟨rfl,hv⟩;replace hv:=hv.symm;subst hv;exact zE6
       ·have yQ:aT=true:=by cases aT<;>simp_all
        have dQ:aW lc j=false:=by cases aT<;>simp_all
        have HE:Hid (cQ aT l0 l1 j (c+1)=true):=by show _=_;rw[HSU.out,hs,Bool.or_true]
        rw[dQ]at yO;exact zLo
      ·obtain rfl:c=2:=by omega
       have bC6:=0;exact zLo
   ·have hjn:j=n:=by omega
    have HD:Hid (∃O',aS O O' w wr/\Cl wr O' C p fa cs (s.cK p who mem mk aT l0 l1 n) rd (B+5*n) m):=by obtain⟨O',h1,h2⟩:=HI.out;rw[hjn]at h2;exact⟨O',HV0.out.trans h1,h2⟩
    have kk:decide (j<n)=false:=kC od;clear hjn hlt HI;go_wp2;exact bodyPost_end (v:=tU #[]) (by simp[results,results129,go_sem]) rfl ⟨rfl,HD.out⟩):p:=h
theorem zQc(h:p:=by
 obtain⟨gL,rfl⟩:=pD.over (pC.trans rfl);clear pD pC;simp(decide:=true) only[ov,if_true,if_false,Nat.reduceAdd]
 first
 |have _:=bMh
  first
  |have _:=bMd
   first
   |have _:=bM0
    first
    |have _:=bLg
     first
     |have _:=bKp;have bE8:=HD2.out;have yg2:(wr.setCell (aA g i) (iI (FI+DV))).drew.cell? (aA g i)=some (iI (FI+DV)):=aY yg;have lg2:g<(wr.setCell (aA g i) (iI (FI+DV))).drew.heap.size:=by simpa using lgr
      generalize(wr.setCell (aA g i) (iI (FI+DV))).drew=w5 at *;have bAs:Hid _:=bE8;clear bE8 yg zg y4 yd;by_cases eE:-274877906944<=FI+DV/\FI+DV<=274877906944
      ·have HC:Hid (gV (i+1) (fun j=>f j+eU bA aH j)=false):=by exact zGi
       have aA5:=aS5.out w5;exact zC8
      ·have HC:Hid (gV n (fun j=>f j+eU bA aH j)=true):=by exact zFe
       have aA5:=aS5.out w5;exact zC5
     |have lT:Hid (bW w wr):=aS3.out.trans (hT9.below od od od);have HNO:Hid (qU p fa cs 2 (-1)):=.inr ⟨HIS.out,rfl,.inr ⟨aWr.out,.inr ⟨HLN.out,.inl ⟨fun y=>J4 y.1,rfl⟩⟩⟩⟩;obtain⟨c0,c1⟩:=bJe;clear hT9 J4;exact zEs
    |have hNd:NM W1.drew base Z Of C p cc fT m p.n k (X6 p.n k 0) iT iU:=bIi.out.below ⟨rfl,rfl,rfl,kF _,fun _ _=>rfl⟩;have hAl:Below W1.drew.heap.size W1.drew (W1.drew.alloc (.cells #[iI (p.lb k),iI (p.lq k),sV none 0 0,iI 0,iI 0,iI 0] 174)):=(kX _ _).alloc (kF _) _;have hs2:(W1.drew.alloc (.cells #[iI (p.lb k),iI (p.lq k),sV none 0 0,iI 0,iI 0,iI 0] 174)).heap.size=W1.heap.size+1:=by show(W1.alloc _).heap.size=_;simp
     obtain⟨Of',hN'⟩:=hNd.aWz (S:=W1.heap.size) (V':=sL g (k+1) cap) hAl aMa (kF _) ho3 hg3 (by
      rw[hs2]
      rcases bBi with y|y
      ·exact .inl y.symm
      ·exact .inr (by rw[y];rfl))
     have hg0:w.heap.size<=g:=by
      rcases bBi with y|y
      ·exact HFR.out g y
      ·omega
     have HN4:Hid (Z3 (w3.setCell (aA C 13) (sL g (k+1) cap)) base Z C p cc fT m0 p.n (k+1) (X6 p.n k 0) iT (sL g (k+1) cap)):=by refine⟨Of',_,?_,hN'⟩;exact HFX.out
     have hs3:W1.heap.size+2<=w3.heap.size:=by
      have:=hg3.size;rw[show((W1.drew.alloc (.cells #[iI (p.lb k),iI (p.lq k),sV none 0 0,iI 0,iI 0,iI 0] 174)).alloc (.cells #[pP W1.heap.size] 110)).heap.size=W1.heap.size+2 by
       show((W1.alloc _).alloc _).heap.size=_
       simp]at this
      exact this
     have hs4:(w3.setCell (aA C 13) (sL g (k+1) cap)).heap.size=w3.heap.size:=oh;have HT4:Hid (aU C m0.tb w (w3.setCell (aA C 13) (sL g (k+1) cap))):=by have hA2:bW W1 ((W1.drew.alloc (.cells #[iI (p.lb k),iI (p.lq k),sV none 0 0,iI 0,iI 0,iI 0] 174)).alloc (.cells #[pP W1.heap.size] 110)):=(((kX W1.heap.size W1).drew).alloc (kF _) _).alloc oh _;refine⟨hg3.os.trans (hA2.os.trans (zb.os.trans Q9.out.os)),hg3.tape.trans (hA2.tape.trans (zb.tape.trans Q9.out.tape)),hg3.output.trans (hA2.output.trans (zb.output.trans Q9.out.output)),by rw[hs4];omega,fun c hc h1 h2=>?_⟩;have bNf:=hA2.size;exact(Below.heap_setCell _ _ _ c h1).trans ((hg3.block c od (fun e=>by have:=HFR.out c e.symm;omega)).trans ((hA2.block c od).trans ((zb.block c od).trans (Q9.out.block c hc h1 h2))))
     have zP4:(w3.setCell (aA C 13) (sL g (k+1) cap)).cell? (aA PB 0)=some (iI p.n):=(HT4.out.cell (p:=(aA PB 0)) lPB hPC hPT).trans hPB;have lP4:PB<(w3.setCell (aA C 13) (sL g (k+1) cap)).heap.size:=lt_of_cell zP4;generalize w3.setCell (aA C 13) (sL g (k+1) cap)=w4 at *;clear ho3 hg3 bBi hNd hAl hs2 hN' zPB y13 v13 z2 z3;go_wp2_with fail;refine aVi _ oq _ base Z C k p cc fT m0 iT (sL g (k+1) cap) w4 od hn e14 HN4.out rfl rfl rfl rfl rfl ?_;intro L2 w5 hN5 hT5 pC pD aVy;obtain⟨gL,rfl⟩:=pD.over (pC.trans rfl);clear pD pC;simp(decide:=true) only[ov,if_true,if_false,Nat.reduceAdd]at aVy⊢;replace aVy:=kW aVy;rw[aVy];clear aVy;have HN5:Hid (∃iU,Z3 w5 base Z C p cc fT m0 p.n (k+1) (X6 p.n (k+1) 0) iT iU/\∀g,iU.ownBlock=some g->w.heap.size<=g):=⟨_,hN5,fun x hx=>by have e:g=x:=kW hx;omega⟩;have HT5:Hid (aU C m0.tb w w5):=HT4.out.trans ⟨hT5.os,hT5.tape,hT5.output,hT5.size,fun c hc _ h2=>hT5.block c hc h2 h2⟩;clear hN5 hT5;go_wp2;exact⟨⟨k+1,od,ow,HN5.out,HT5.out⟩,ot⟩
   |have HI7:Hid (cP O w w7 Z C p fa cs (R.dT p (some (k,SQ,SD)) j) rd (B+c+1) m):=by rw[<-HE.out];exact bE4.out _ _ oX
    clear oX aTc c15 HC6 bEa;go_wp2;exact⟨⟨c+1,od,ow,Jp,lT.out _ _ HI7.out rfl⟩,ot⟩
  |have HI5:Hid (cP O w w5 Z C p fa cs (s.iM p.S H rd (i+1)) rd (B+70*(i+1)) m):=by rw[aOg.out];exact cP.more (HBK.out _ _ _ hI5) od
   clear hI5 hci bFt hmR;go_wp2;exact⟨⟨i+1,od,ow,HI5.out⟩,ot⟩
 |first|have _:=bLl;clear u0 u1 u2 ug uG vG;generalize(w2.setCell ⟨G a,d,none⟩ (iI (cutV E 549755813888))).drew=w5 at *|clear v11 vd va v3 u0 u1 u2 ug uG vG;generalize(w2.setCell ⟨G a,d,none⟩ (iI (cs.getD d 0-cs.getD a 0+cutV E aC))).drew=w5 at *
  go_wp2;exact⟨⟨x+1,od,ow,Z2.out.1,Z2.out.2⟩,ot⟩):p:=h
theorem zQd(h:p:=by
 rw[rounds_succ];go_wp2_with(first|(go_at_call 96;refine(tK _ _).mono ?_;rintro e w' ⟨rfl,rfl⟩)|go_in)
 first
 |have _:=bMi;rw[rounds_succ];go_wp2_with(first|(go_at_call 96;refine(tK _ _).mono ?_;rintro e w' ⟨rfl,rfl⟩)|go_in);rw[rounds_succ];go_wp2_with(first|(go_at_call 96;refine(tK _ _).mono ?_;rintro e w' ⟨rfl,rfl⟩)|go_in);rw[rounds_succ];go_wp2_with(first|(go_at_call 96;refine(tK _ _).mono ?_;rintro e w' ⟨rfl,rfl⟩)|go_in)
  first
  |have _:=bKv
   first|have _:=m41;refine bodyPost_ret (v:=.agg #[iI 4,iI (-1)]) oy rfl ⟨rfl,?_⟩|refine bodyPost_ret (v:=.agg #[iI 13,iI (-1)]) oy rfl ⟨rfl,?_⟩
   exact zGm
  |obtain⟨V,hV⟩:∃V,V=((w.alloc (.cells #[.int .i64 nodes,.int .i64 aF,.int .i64 aJ,.int .i64 aC,.int .i64 aH,.int .i64 round,.slice sa ns sc,.slice la nl lc,.int .i64 frame,.slice wa nw wc] 51)).alloc (.cells #[.int .i64 0,.int .i64 0] 98)).alloc (.cells #[.int .i64 aJ,.int .i64 aC,.int .i64 aH] 3):=⟨_,rfl⟩;rw[<-hV];have hB:Below w.heap.size w V:=by rw[hV];exact(((kX _ _).alloc (kF _) _).alloc oh _).alloc ol _
   have hz:w.heap.size+1<V.heap.size:=by rw[hV];simp
   have p0:V.cell? ⟨w.heap.size,0,none⟩=some (.int .i64 nodes):=o7;have p2:V.cell? ⟨w.heap.size,2,none⟩=some (.int .i64 aJ):=o7;have p5:V.cell? ⟨w.heap.size,5,none⟩=some (.int .i64 round):=o7;have p6:V.cell? ⟨w.heap.size,6,none⟩=some (.slice sa ns sc):=o7;have p7:V.cell? ⟨w.heap.size,7,none⟩=some (.slice la nl lc):=o7;have p8:V.cell? ⟨w.heap.size,8,none⟩=some (.int .i64 frame):=o7;have p9:V.cell? ⟨w.heap.size,9,none⟩=some (.slice wa nw wc):=o7;have r0:V.cell? ⟨w.heap.size+1,0,none⟩=some (.int .i64 0):=by rw[hV,aAu];simp
   have r1:V.cell? ⟨w.heap.size+1,1,none⟩=some (.int .i64 0):=by rw[hV,aAu];simp
   have z0:V.frozen? ⟨w.heap.size+1,0,none⟩=false:=by rw[hV,C3];simp
   have z1:V.frozen? ⟨w.heap.size+1,1,none⟩=false:=by rw[hV,C3];simp
   have aYj:=0;exact zQi
 |have _:=bLh
  first|have _:=bKq;exact zQd|refine bodyPost_ret (v:=.agg #[iI 2,iI (-1)]) oy rfl ⟨rfl,?_⟩;exact zGm
 |exact zMt):p:=h
theorem zQg(h:p:=by
 have hB:bW w V:=hV▸(kX _ w).alloc (kF _) _;have hs:=h.below hB
 first|have _:=bCp|have _:=aPx|obtain⟨ra,eO,eR,eDa,eDc,eMa,eMc,eE⟩:=hs.aFl od;skip
 have c0:V.cell? (aA S 10)=some (pP A.C):=by exact zA8
 first
 |have _:=bCp
 |have _:=aPx
 |have c1:V.cell? (aA S 11)=some (sV ra.la st.next.nL ra.lc):=(aM hs.blk (i:=11) rfl).trans (congrArg some eO);have c2:V.cell? (aA S 12)=some (sV ra.ra st.next.nR ra.rc):=(aM hs.blk (i:=12) rfl).trans (congrArg some eR);have c3:V.cell? (aA S 13)=some (sV ra.da st.next.bA.length ra.dc):=by rw[eDa,eDc];exact aM hs.blk (i:=13) rfl
  have c4:V.cell? (aA S 14)=some (sV ra.ma st.next.bH.length ra.mc):=by rw[eMa,eMc];exact aM hs.blk (i:=14) rfl
 obtain⟨hcu,hTN⟩:=hs.r.clu fa cs c rd T dI
 first
 |have _:=bCp;have HB:Hid (bW w V):=hB;have HD:Hid (∀u,bW w u->nV u):=fun u hu=>hD u hu
  first
  |have _:=bH8
   first|have _:=bCd;have hC:=gG.spread hcu|have hC:=aDt.aDs hcu
  |have x0:V.cell? (aA w.heap.size 0)=some (sV (some (aA b off)) 1 cap):=ou;have n0:V.cell? (aA b off)=some (iI x):=bc hB gX Oj;have zW:b<V.heap.size:=kB gX hB.size;have hwV:w.heap.size<V.heap.size:=eo;have yA:=hs.r.hi S hs.r.s
  have lF:=(gG.ok hcu).1
  first
  |have _:=bH8
   first
   |have _:=bCd;have HI:Hid (gW (dA (dW fa cs))):=by exact zE9
    have HE:Hid (∀w' e,bW V w'->e=(H5.ok (dG (dA (dW fa cs)))).ending->cS base S M O st N .kY n tx w e w'):=fun w' e q1 q2=>mN h hB q1 (k:=.kY) (n:=n) (tx:=tx) ⟨fa,cs,c,rd,T,dI,rfl,rfl⟩ q2;clear h hD hB hs hcu lF hTN;generalize dA (dW fa cs)=sp at *;go_enter func31,ntmps31
   |have aXw:cs.length<=16:=by rw[lF.len];have:=lF.aI.bounds.n2;show st.aI.nodes.toNat<=16;omega
    have HI:Hid (∀x∈cs,gW x):=fun x hx=>by have:=lF.inn x hx;exact⟨od,od⟩
    have HE:Hid (∀w' e,bW V w'->e=(H5.ok (yX cs)).ending->cS base S M O st N .jV n tx w e w'):=fun w' e q1 q2=>mN h hB q1 (k:=.jV) (n:=n) (tx:=tx) ⟨fa,cs,c,rd,T,dI,rfl,rfl⟩ q2;clear h hD hB hs hcu lF hTN dI;obtain⟨i0,hi,lO,mX,jX⟩:=info_parts Tryz.aAe;go_enter func30,ntmps30
   go_wp2_with fail;refine hC.mono ?_
   first|have _:=bCd;rintro ev u1 ⟨rfl,b1⟩;have hI:=qH sp HI.out u1 (HD.out u1 (HB.out.trans (b1.mono HB.out.size)));go_wp2_with fail;refine hI.mono ?_;rintro ev u2 ⟨rfl,fP⟩;go_wp2_with fail;go_ret;exact HE.out u2 _ (b1.trans (fP.mono b1.size)) rfl|rintro ev u1 ⟨a,cap,rfl,fE,b1⟩;have HR:Hid (bE u1 a cs):=fE;exact zJo
  |have _:=bKu;have hC:Calls prog 78 #[pP A.C,iI x] (V.drewN 1) fun e w'=>e=rT (tU #[iI (aZ (c.nodes j).t st.aI.n),.bool (c.nodes j).fz,.nilIface])/\Below (V.drewN 1).heap.size (V.drewN 1) w':=jl;rw[hfz]at hC
   first|have _:=m30;have HE:Hid (∀w' e,bW V w'->e=(H5.ok (dG (aZ (c.nodes j).t st.aI.n))).ending->cS base S M O st N .eD [x] tx w e w'):=fun w' e q1 q2=>mN h hB q1 (k:=.eD) (n:=[x]) (tx:=tx) ⟨fa,cs,c,rd,T,dI,rfl,.inl ⟨j,hj,hjn,by rw[hfz];rfl⟩⟩ q2|have HE:Hid (∀w' e,bW V w'->e=(H5.ok (dG (aZ (c.nodes j).t st.aI.n)++⟨#[32,102,114,111,122,101,110]⟩)).ending->cS base S M O st N .eD [x] tx w e w'):=fun w' e q1 q2=>mN h hB q1 (k:=.eD) (n:=[x]) (tx:=tx) ⟨fa,cs,c,rd,T,dI,rfl,.inl ⟨j,hj,hjn,by rw[hfz];rfl⟩⟩ q2
   exact zAr
  |have hC:Calls prog 78 #[pP A.C,iI x] (V.drewN 1) fun e w'=>e=rT (tU #[iI 0,.bool false,fI 2])/\Below (V.drewN 1).heap.size (V.drewN 1) w':=aDt.members_bad x (gG.keep hcu (Same.of_below (bdN V 1) (gG.lt hcu))) hx;have HE:Hid (∀w' e,bW V w'->e=(H5.err 2).ending->cS base S M O st N .eD [x] tx w e w'):=fun w' e q1 q2=>mN h hB q1 (k:=.eD) (n:=[x]) (tx:=tx) ⟨fa,cs,c,rd,T,dI,rfl,.inr ⟨hx,rfl⟩⟩ q2;exact zJj
 |have hcd:L5 (V.drewN 1) O A.C st.aI fa cs c rd T:=gG.keep hcu (Same.of_below (bdN V 1) (gG.lt hcu));have R1:base<=V.heap.size:=kG (hs.r.lo S hs.r.s) (kV (hs.r.hi S hs.r.s));have hbw:base<=w.heap.size:=kG (h.r.lo S h.r.s) (kV (h.r.hi S h.r.s))
  first|have _:=aPx;have HB:Hid (bW w V):=hB|skip
  have HDV:Hid (cB base V):=hD.below (hB.mono hbw)
  first
  |have _:=aPx
   first|have _:=m18;have x0:V.cell? (aA w.heap.size 0)=some (sV (some (aA b off)) 2 cap):=ou|have x0:V.cell? (aA w.heap.size 0)=some (sV (some (aA b off)) 1 cap):=ou;have x1:V.cell? (aA w.heap.size 1)=some (sT tx):=ou
   have n0:V.cell? (aA b off)=some (iI x):=bc hB gX Oj
   first|have _:=m18;have n1:V.cell? (aA b (off+1))=some (iI y):=bc hB gX (by have:=hc 1 oh;simpa using this)|skip
   have zW:b<V.heap.size:=kB gX hB.size;have hwV:w.heap.size<V.heap.size:=eo
  |skip
  have yA:=hs.r.hi S hs.r.s
  first
  |have _:=aPx;have hwO:w.heap.size∉O:=fun q=>by have:=h.r.hiO _ q;omega
   have hbO:b∉O:=fun q=>hbo (kK (.inr q))
  |skip
  have hSO:S∉O:=fun q=>h.r.ap S q h.r.s
  first
  |have _:=aPx
   first
   |have _:=m18;have lF:=(gG.ok hcu).1;have jB:st.aI.nodes=(st.aI.n:Int):=M9 lF;have HC:Hid (Calls prog 73 #[pP A.C,iI x,iI y] (V.drewN 1) fun e u=>∃k d O',e=rT (tU #[sT d,fI k])/\d.size<=40/\aS O O' V u/\((k=0->∀u',bW u u'->cS base S M O st N .iC [x,y] tx w (rT (sT (⟨#[105,115,32]⟩++d))) u')/\(k≠0->∀u',bW u u'->cS base S M O st N .iC [x,y] tx w (fX k) u'))):=by have bH7:=0;exact zOv
   |have HC:Hid (Calls prog 71 #[pP A.C,iI x,sT tx] (V.drewN 1) fun e u=>∃k O',e=rT (fI k)/\aS O O' V u/\((k=0->∀u',bW u u'->cS base S M O st N .oZ [x] tx w (rT (sT Kd.oZ.name)) u')/\(k≠0->∀u',bW u u'->cS base S M O st N .oZ [x] tx w (fX k) u'))):=by
     by_cases hx:0<=x/\x<st.aI.nl
     ·obtain⟨j,rfl⟩:∃j:Nat,x=j:=⟨x.toNat,od⟩;refine(gG.put j tx hcd od od).mono fun e u ⟨he,O1,hf,rH⟩=>?_;exact zPv
     ·refine(gG.aO3 x tx hcd hx).mono fun e u ⟨he,dB⟩=>?_;have b1:bW V u:=fR dB;exact⟨2,O,he,aS.of_below b1,fun q=>eh,fun _ u' hu=>mN h hB (b1.trans (hu.mono b1.size)) (k:=.oZ) (n:=[x]) (tx:=tx) (r:=.err 2) ⟨fa,cs,c,rd,T,dI,.inr ⟨hx,rfl,rfl⟩⟩ rfl⟩
   have HD:Hid (∀O' u,aS O O' V u->nV u):=fun O' u hf=>HDV.out u (hf.below hs.r.loO R1)
   first|have _:=m18;clear h hD hB hs hcu hcd hTN hc hr hbo dI HDV lF jB;go_enter func24,ntmps24;go_wp2_with fail;refine wp_region_held_drew (S:=fun v=>v.cell? (aA w.heap.size 0)=some (sV (some (aA b off)) 2 cap)/\v.cell? (aA b off)=some (iI x)/\v.cell? (aA b (off+1))=some (iI y)/\v.cell? (aA S 10)=some (pP A.C)) og ⟨x0,n0,n1,c0⟩ (fun aG=>?_)|clear h hD hB hs hcu hcd hTN hc hr hbo dI HDV;go_enter func23,ntmps23;go_wp2_with fail;refine wp_region_held_drew (S:=fun v=>v.cell? (aA w.heap.size 0)=some (sV (some (aA b off)) 1 cap)/\v.cell? (aA w.heap.size 1)=some (sT tx)/\v.cell? (aA b off)=some (iI x)/\v.cell? (aA S 10)=some (pP A.C)) og ⟨x0,x1,n0,c0⟩ (fun aG=>?_)
   exact zQb
  |exact zKr):p:=h
theorem zQh(h:p:=by
 refine tk 1 aG ?_;refine tk 2 aG ?_;refine tk 3 aG ?_;refine tk 4 aG ?_;refine tk 5 aG ?_;refine tk 6 aG ?_
 first
 |have _:=bMk
  first
  |have _:=bMg
   first
   |have _:=bM9
    first
    |have _:=bL6;refine eA 7 fun K hK=>?_;go_simp
     first|have _:=m87;refine(hM _ _ hrV).mono ?_|refine(hM _ _ (fun h=>absurd h (kU _))).mono ?_
     exact zA2
    |refine tk 7 aG ?_
     first|(have _:=m75;refine tk 8 aG ?_;refine tk 9 aG ?_;refine tk 10 aG ?_;refine tk 11 aG ?_;refine tk 12 aG ?_;refine tk 13 aG ?_;refine tk 14 aG ?_;refine tk 15 aG ?_;refine tk 16 aG ?_;refine eA 17 fun K hK=>?_;go_simp;refine Calls.mono (HP.out _ ⟨rfl,rfl,rfl,kF _,fun _ _=>rfl⟩) ?_;rintro e u1 ⟨⟨hcells,hz⟩,aAb⟩;have mX:=hz 11;have jX:=hz 12;have hz3:=hz 13;have hz4:=hz 14;clear hz;rcases aAb with⟨rfl,oX⟩|⟨rfl,oX⟩;skip)|refine eA 8 fun K hK=>?_;go_simp;refine Calls.mono HC.out ?_;rintro ev u1 ⟨k,O1,rfl,hf,hk0,R4⟩;have y0:=(hf.cell (p:=(aA S 10)) yA hSO).trans c0;have y1:=(hf.cell (p:=(aA S 11)) yA hSO).trans c1;have y2:=(hf.cell (p:=(aA S 12)) yA hSO).trans c2;have y3:=(hf.cell (p:=(aA S 13)) yA hSO).trans c3;have y4:=(hf.cell (p:=(aA S 14)) yA hSO).trans c4;refine kp hK (fun aG=>?_) ⟨y0,y1,y2,y3,y4⟩;clear hK K;have hA:=Q0 u1 (HD.out O1 u1 hf).told (I6 u1 k);refine eA 9 fun K hK=>?_;go_simp;refine hA.mono ?_;rintro ev u2 ⟨he2,fP⟩;by_cases hk:k=0
     ·first|have _:=m75;have HF:Hid _:=oX;refine kp hK (fun aG=>?_) hcells;clear hK K oX;refine eA 18 fun K hK=>?_;exact zEy|rw[kJ hk]at he2;subst he2;have hS2:=kB yA hf.size;refine kp hK (fun aG=>?_) ⟨bc fP hS2 y0,bc fP hS2 y1,bc fP hS2 y2,bc fP hS2 y3,bc fP hS2 y4⟩;clear hK K;refine dn ?_;obtain⟨hblk,aH3⟩:=hk0 hk u2 fP;have z1:=bC hblk (i:=11);have z2:=bC hblk (i:=12);have z3:=bC hblk (i:=13);have z4:=bC hblk (i:=14);have x0:u2.cell? (aA S 10)=some (pP A.C):=bc fP hS2 y0;have x1:u2.cell? (aA S 11)=some (sV ra.la q1 ra.lc):=bc fP hS2 y1;have x2:u2.cell? (aA S 12)=some (sV ra.ra q2 ra.rc):=bc fP hS2 y2;have x3:u2.cell? (aA S 13)=some (sV ra.da q3 ra.dc):=bc fP hS2 y3;have x4:u2.cell? (aA S 14)=some (sV ra.ma q4 ra.mc):=bc fP hS2 y4;have bEe:Hid _:=aH3;clear aH3 hk0 R4 hblk hA HC HD;go_wp2_with fail;obtain⟨d0,d1,hR,hE⟩:=bEe.out _ rfl;have HDD:Hid (∀u4,Below ((((u2.setCell (aA S 11) (sV none 0 0)).setCell (aA S 12) (sV none 0 0)).setCell (aA S 13) (sV none 0 0)).setCell (aA S 14) (sV none 0 0)).heap.size ((((u2.setCell (aA S 11) (sV none 0 0)).setCell (aA S 12) (sV none 0 0)).setCell (aA S 13) (sV none 0 0)).setCell (aA S 14) (sV none 0 0)) u4->nV u4):=d1;have HEE:Hid _:=hE;clear d0 d1 hE;refine hR.mono ?_;rintro ev u4 ⟨rfl,yN⟩;have zQ:Hid (Below _ _ u4):=yN;have hI:=qH (rd+1) HI.out u4 (HDD.out u4 yN);clear yN hR;go_wp2_with fail;refine hI.mono ?_;rintro ev u5 ⟨rfl,hb5⟩;have HB5:Hid (bW u4 u5):=hb5;clear hb5 hI;go_wp2_with fail;go_ret;exact HEE.out u5 (zQ.out.trans (HB5.out.mono zQ.out.size))
     ·first|have _:=m75;obtain⟨y16,hDU,aTa⟩:=oX _ rfl;have hsz:((((u1.setCell (aA S 11) (sV none 0 0)).setCell (aA S 12) (sV none 0 0)).setCell (aA S 13) (sV none 0 0)).setCell (aA S 14) (sV none 0 0)).heap.size=u1.heap.size:=oh;have hT:=pI (rd+1) HI.out _ hDU;unfold bW at hT aTa;rw[hsz]at hT aTa;have HF:Hid _:=aTa;refine kp hK (fun aG=>?_) hcells;clear hK K oX aTa hDU hsz;refine eA 18 fun K hK=>?_;go_simp;refine kp hK (fun aG=>?_) hcells;clear hK K;refine dn ?_;obtain⟨y1,y2,y3,y4⟩:=hcells;exact zHw|rw[kI hk]at he2;subst he2;exact⟨rfl,R4 hk u2 fP⟩
   |refine tk 7 aG ?_
    first|have _:=bGy;refine eA 8 fun K hK=>?_;go_simp;refine hC.mono ?_;rintro ev u1 ⟨rfl,C1⟩;have b1:bW V u1:=fR C1;refine kp hK (fun aG=>?_) ⟨bc b1 hwV x0,bc b1 zW n0,bc b1 yA c0⟩;clear hK K|refine tk 8 aG ?_
    refine tk 9 aG ?_;refine tk 10 aG ?_;refine tk 11 aG ?_
    first
    |have _:=bGy;refine tk 12 aG ?_;refine tk 13 aG ?_;refine tk 14 aG ?_;refine tk 15 aG ?_;refine dn ?_;go_wp2_with fail
     first|have _:=m31;refine(rA u1).mono ?_|have hAn:=oH u1 (HD.out u1 (HB.out.trans (b1.mono HB.out.size))).told (I6 u1 2) oe;refine hAn.mono ?_
     rintro ev u2 ⟨rfl,fP⟩
     first|have _:=m31;have b2:bW V u2:=b1.trans (fP.mono b1.size);have hI:=qH bv HI.out u2 (HD.out u2 (HB.out.trans (b2.mono HB.out.size)));go_wp2_with fail;refine hI.mono ?_;rintro ev u3 ⟨rfl,hu3⟩;have hz:=jQ HI.out;have jX:decide (9223372036854775807<(dG bv).size+7)=false:=kC od;go_wp2_with fail;go_ret;exact HE.out u3 _ (b2.trans (hu3.mono b2.size)) rfl|exact⟨rfl,HE.out u2 _ (b1.trans (fP.mono b1.size)) rfl⟩
    |refine eA 12 fun K hK=>?_;go_simp;refine Calls.mono HC.out ?_;rintro ev u1 ⟨dB,k,I,q⟩;have b0:=bc dB hwV a0;have b1:=bc dB zW a1;have bc0:=bc dB yA c0;have bc1:=bc dB yA c1;have bc2:=bc dB yA c2;have bc3:=bc dB yA c3;have bc4:=bc dB yA c4;have bc5:=bc dB yA c5;have bc6:=bc dB yA c6;have bc7:=bc dB yA c7;have bc8:=bc dB yA c8;have bc9:=bc dB yA c9;rcases q with⟨hk,E,rfl,hE,bBr⟩|⟨hk,C,rfl,bBr⟩
     ·exact zO9
     ·have bHe:=0;exact zO9
  |refine tk 7 aG ?_;refine tk 8 aG ?_;refine tk 9 aG ?_
   first|have _:=m18;refine tk 10 aG ?_;refine tk 11 aG ?_;refine eA 12 fun K hK=>?_|refine eA 10 fun K hK=>?_
   go_simp;refine Calls.mono HC.out ?_
   first|have _:=m18;rintro ev u1 ⟨k,d,O1,rfl,hd,hf,hk0,R4⟩;have y0:=(hf.cell (p:=(aA w.heap.size 0)) hwV hwO).trans x0;have y1:=(hf.cell (p:=(aA b off)) zW hbO).trans n0;have y2:=(hf.cell (p:=(aA b (off+1))) zW hbO).trans n1;have y3:=(hf.cell (p:=(aA S 10)) yA hSO).trans c0;refine kp hK (fun aG=>?_) ⟨y0,y1,y2,y3⟩;clear hK K;refine tk 13 aG ?_;refine tk 14 aG ?_;refine eA 15 fun K hK=>?_;go_simp|rintro ev u1 ⟨k,O1,rfl,hf,hk0,R4⟩;refine kp hK (fun aG=>?_) ⟨(hf.cell (p:=(aA w.heap.size 0)) hwV hwO).trans x0,(hf.cell (p:=(aA w.heap.size 1)) hwV hwO).trans x1,(hf.cell (p:=(aA b off)) zW hbO).trans n0,(hf.cell (p:=(aA S 10)) yA hSO).trans c0⟩;clear hK K;have hA:=Q0 u1 (HD.out O1 u1 hf).told (I6 u1 k);refine eA 11 fun K hK=>?_;go_simp;refine hA.mono ?_;rintro ev u2 ⟨he2,fP⟩;skip
   by_cases hk:k=0
   ·first|have _:=m18;subst hk;rw[aDz];refine(aFj (sT d) u1).mono ?_;rintro ev u2 ⟨rfl,fP⟩;have z0:=bc fP (kB hwV hf.size) y0;have z1:=bc fP (kB zW hf.size) y1;have z2:=bc fP (kB zW hf.size) y2;have z3:=bc fP (kB yA hf.size) y3;have jX:¬9223372036854775807<3+d.size:=od;refine kp hK (fun aG=>?_) ⟨z0,z1,z2,z3⟩;clear hK K;refine tk 16 aG ?_;refine eA 17 fun K hK=>?_;go_simp;refine kp hK (fun aG=>?_) ⟨z0,z1,z2,z3⟩|rw[kJ hk]at he2;subst he2;refine kp hK (fun aG=>?_) ⟨bc fP (kB hwV hf.size) ((hf.cell (p:=(aA w.heap.size 0)) hwV hwO).trans x0),bc fP (kB hwV hf.size) ((hf.cell (p:=(aA w.heap.size 1)) hwV hwO).trans x1),bc fP (kB zW hf.size) ((hf.cell (p:=(aA b off)) zW hbO).trans n0),bc fP (kB yA hf.size) ((hf.cell (p:=(aA S 10)) yA hSO).trans c0)⟩
    clear hK K;refine dn ?_;go_wp2_with fail;go_ret
    first|have _:=m18;exact hk0 trivial u2 fP|exact hk0 hk u2 fP
   ·first|have _:=m18;refine(aIt (sT d) u1 (HD.out O1 u1 hf).told (I6 u1 k) hk).mono ?_;rintro ev u2 ⟨rfl,fP⟩;skip|rw[kI hk]at he2;subst he2
    exact⟨rfl,R4 hk u2 fP⟩
 |refine Y5 0 7 (fun K hK=>?_) fun K hK=>?_
  ·first|have _:=bGs;have bHa:=0;exact zOy|exact zOy
  ·go_simp;refine kp hK fun aG=>?_;clear hK K;refine eA 0 fun K hK=>?_;go_simp;(go_at_call 196;refine(dO _ _ _).mono ?_;rintro e u0 ⟨fv,rfl,hB,hu⟩;have L9:=aO (a:=(aA u.heap.size 0)) (v:=iI aJ) oh hu;have hX1:=aO (a:=(aA u.heap.size 1)) (v:=iI aC) oh hu;have hX2:=aO (a:=(aA u.heap.size 2)) (v:=iI aH) oh hu;have hW:=G8 hW hu;obtain⟨c0,c1,c2,c3,c4,c5,c6,c7,c8,c9⟩:=hc.below hW);refine kp hK fun aG=>?_;clear hK K;refine eA 8 fun K hK=>?_;go_simp
   first
   |have _:=bGs
    first|have _:=m17;exact zO0|(go_at_call 195;refine(aDi false fv _ _ (aJ) (aC) (aH) u.heap.size _ _ hB L9 hX1 hX2 hd).mono ?_;rintro e x0 ⟨rfl,fP⟩;have hW:=jS hW fP;obtain⟨c0,c1,c2,c3,c4,c5,c6,c7,c8,c9⟩:=hc.below hW);exact zL5
   |have bLk:=0;exact zO0):p:=h
theorem zQj(h:p:=by
 refine tk 1 aG ?_;refine tk 2 aG ?_;refine Y5 0 3 (fun K hK=>?_) fun K hK=>?_
 ·first
  |have _:=bHk
   first
   |have _:=bHj;exact zK6
   |go_simp
    first|have _:=aYd;(go_at_call 196;refine(dO _ _ _).mono ?_;rintro e u0 ⟨fv,rfl,hB,hu⟩;have hW:=aO6 hW hu;obtain⟨c0,c1,c2,c3⟩:=hc.below hW)|(go_at_call 196;refine(dO _ _ _).mono ?_;rintro e u0 ⟨fv,rfl,hB,hu⟩;have hW:=aO6 hW hu;obtain⟨c0,c1,c2,c3,c4,c5,c6,c7,c8,c9⟩:=hc.below hW)
    refine kp hK fun aG=>?_;clear hK K;refine eA 3 fun K hK=>?_;go_simp;refine kp hK fun aG=>?_;clear hK K;refine eA 4 fun K hK=>?_;go_simp
    first
    |have _:=aYd
     first|have _:=m22;exact zPx|(go_at_call 195;refine(iA false fv _ _ (lb) u0.heap.size _ _ (hB.alloc _) oh hd).mono ?_;rintro e x0 ⟨rfl,fP⟩;have hW:=oE hW fP;obtain⟨c0,c1,c2,c3⟩:=hc.below hW);exact zGv
    |have _:=m21;exact zPt
    |(go_at_call 195;refine(iA false fv _ _ (nodes) u0.heap.size _ _ (hB.alloc _) oh hd).mono ?_;rintro e x0 ⟨rfl,fP⟩;have hW:=oE hW fP;obtain⟨c0,c1,c2,c3,c4,c5,c6,c7,c8,c9⟩:=hc.below hW);exact zIg
  |have m85:=0;exact zOy
 ·first
  |have _:=bHk
   first|have _:=bHj;exact zP3|have bHi:=0;exact zP3
  |have bGm:=0;exact zP3):p:=h
theorem zQl(h:p:=by
 have aNh:Hid (H.lies=aW fa):=sS;have aS8:Hid (∀j,H.mode j=if j<bH.length then bH.getD j 0 else 0):=sU
 first
 |have _:=bMm;exact zP8
 |have _:=bLz;have bMe:=0;exact zP8
 |have bEb:Hid (∀i c j,H.lost i c j=mS ls oJ lt nL i c j):=qW;have bEf:Hid (∀i,i<p.ns->(0<=p.nd i/\p.nd i<p.nodes)/\0<=p.fr i/\p.fr i<=1099511627776):=rW;have aWq:Hid (∀k,k<p.nl->0<=p.lf k/\0<=p.lb k/\p.lb k<=1099511627776):=qF;have HSA:Hid (SA=m.sa):=hSA;clear cN h hr hrO hrL hm hmO sS sU qW rW qF hSA;go_loopw[213] (fun a wr=>∃i:Nat,i<=p.ns/\a=iI i/\Hid (cP O w wr Z C p fa cs (s.iM p.S H rd i) rd (B+70*i) m)) (fun a _=>p.ns-(intOf a).toNat);case atStart=>exact⟨0,kH _,rfl,O,aS.refl _ _,HH.out⟩
  case round=>
   obtain⟨i,hi,rfl,eE⟩:=hrel;by_cases hlt:i<p.ns
   ·have ii:(i:Int)<(p.ns:Int):=by omega
    have aOg:Hid (s.iM p.S H rd (i+1)=(s.iM p.S H rd i).slot p.S H rd i):=rfl;obtain⟨Oi,hci,bBh,aT9⟩:=eE.out.part2;have bFt:=eE.out.rows3 HR.out HRO.out;have hmR:bE wr ma bH:=fun h0=>by obtain⟨b,off,e,hb,hc⟩:=HM.out h0;have wC:=HMO.out b off e h0;exact⟨b,off,e,kB hb eE.out.size,fun j hj=>(eE.out.box hb wC _).trans (hc j hj)⟩
    have bIf:Hid (∀b off,ma=some (aA b off)->0<bH.length->b∉Oi):=fun b off e h0=>by obtain⟨b',aLk,e',hb,_⟩:=HM.out h0;rw[e]at e';cases e';exact bBh b hb (HMO.out b off e h0)
    have aWv:Hid (∀b off,la=some (aA b off)->b∉Oi):=fun b off e=>bBh b (HRL.out b off e) (HRO.out b off e);have aWt:Hid (∀b off,la=some (aA b off)->b<wr.heap.size):=fun b off e=>kB (HRL.out b off e) eE.out.size;have HBK:Hid (∀(w':World) (s2:cA) (B2:Nat),cP Oi wr w' Z C p fa cs s2 rd B2 m->cP O w w' Z C p fa cs s2 rd B2 m):=aT9;clear bBh aT9;have bJ1:=HSA.out;iterate 15 (go_step)
    refine bD9 _ oq _ hci H i la nL lc ls oJ lt ma mc bH SA bJ1 hlt jB lK hn qO sW od od bFt aWv.out aWt.out hL hmR bIf.out hmL aNh.out aS8.out bEb.out sH uT xU pE bEf.out aWq.out rfl rfl rfl rfl rfl rfl rfl rfl ?_;intro L2 w5 hI5 pC pD;exact zP7
   ·obtain rfl:i=p.ns:=by omega
    go_wp2;exact wW.out _ _ eE.out rfl (Rest.of rfl) rfl):p:=h
