import Derived.Test.YtnbomhedoelklaaGreatDoorZW1
import Derived.IntWalk
import Derived.OwnWalk
import Derived.RegionCalls
set_option maxRecDepth 100000
namespace Go.Proofs.YtnbomhedoelklaaGreatDoor
variable {p:Prop}
theorem Od(h:p:=by go_num):p:=h
theorem zAd(h:p:=by
 go_simp;refine kp hK (λaF=>?_) trivial;clear hK K;refine fJ 11 λK hK=>?_;(refine step_append_lies _ ou _ _ _ ou Bi 3 i1 (.int .i64 0) 1 8 underlying87 hiI hy0 hy1 hy2 rfl og v j _ ou (HF2.out.1.alloc _) ⟨w2.1.size,0,none⟩ 1 1 [.int .i64 X] ou rfl (cell_one_new _ _ _) (mY [X]) og ot od Ja (w2.1.size+1) oe ?_;intro gq cq w3 dI bT _ _;have HW3:Hid (Below Bi wr w3/\w3.ownsRow Bi 3 1 (.slice (some ⟨gq,0,none⟩) (j+1) cq) (j+1) ((List.range (j+1)).map λj=>.int .i64 (cs.getD j 0-cs.getD i 0))):=bD0 HF2.out.1 HF2.out.2.1 HF2.out.2.2 HXe.out dI bT;have yR3:w3.cell? ⟨w.1.size,i,none⟩=some v:=(HW3.out.1.cell (p:=⟨w.1.size,i,none⟩) HTB.out.lR).trans yR;have zR3:w3.frozen? ⟨w.1.size,i,none⟩=false:=(HW3.out.1.frozen (p:=⟨w.1.size,i,none⟩) HTB.out.lR).trans zR;have hl3:w.1.size<w3.1.size:=kC hlR HW3.out.1.size;clear dI bT);refine kp hK (λaF=>?_) trivial;clear hK K;refine tk 12 aF ?_;refine fJ 13 λK hK=>?_;go_simp;refine kp hK (λaF=>?_) trivial;clear hK K;refine dn ?_;refine NoPanic.normal ?_;have HN:Hid (∃v,RTab (w3.setCell ⟨w.1.size,i,none⟩ (.slice (some ⟨gq,0,none⟩) (j+1) cq)) w.1.size w.1.size n i (λi j=>cs.getD j 0-cs.getD i 0) G rW Bi v/\(w3.setCell ⟨w.1.size,i,none⟩ (.slice (some ⟨gq,0,none⟩) (j+1) cq)).ownsRow Bi 3 1 v (j+1) ((List.range (j+1)).map λj=>.int .i64 (cs.getD j 0-cs.getD i 0))/\Below w.1.size w (w3.setCell ⟨w.1.size,i,none⟩ (.slice (some ⟨gq,0,none⟩) (j+1) cq))):=
  ⟨_,HTB.out.grow HLT.out HW3.out.1 _,fL HW3.out.2 HTB.out.lR,(HBW.out.trans (HW3.out.1.mono HBi.out)).trans (((aW.refl w.1.size w.1.size w3).set (p:=⟨w.1.size,i,none⟩) (.inl rfl) _).below od (kG _) (kG _))⟩
 clear HF2 HW3 yR2 zR2 yR3 zR3 yR zR bBb;go_wp2;go_roundw;case rel=>exact⟨j+1,od,Od,HN⟩
 case measure=>simp[intOf];omega):p:=h
theorem zAn(h:p:=by go_enter func125,ntmps125;go_wp2;go_ret;refine⟨rfl,?_⟩;exact zFl):p:=h
theorem zAp(h:p:=by
 go_simp;refine kp hK (λaF=>?_) ⟨r0a _,r1a _,r2a _⟩;clear hK Kq;refine fJ 7 λKq hK=>?_;(refine step_append_lies _ ou _ _ _ ou (C+1) 178 i1 (.agg #[iI 0,.pointer none,.slice none 0 0]) 3 40 underlying168 gi gz0 gz1 gz2 rfl og (.slice a K cap) K _ ou (bEw.alloc _) (aA wc.1.size 0) 1 1 [iI LF,pP S',sL E' n n] ou rfl (aCx wc.drew #[iI LF,pP S',sL E' n n] 178) Oi og ot od ol (wc.1.size+1) oe ?_;intro gq cq w3 dI bT oX _;have hQ3:=HQ3.out gq cq w3 dI bT oX;clear dI bT oX;obtain⟨⟨bMd,bMb,hC3⟩,⟨s0,s1,s2⟩,fM⟩:=hQ3;have HST:Hid _:=fM;clear fM);refine kp hK (λaF=>?_) ⟨s0,s1,s2⟩;clear hK Kq;refine tk 8 aF ?_;refine tk 9 aF ?_;refine fJ 10 λKq hK=>?_;go_simp;refine kp hK (λaF=>?_) ⟨(aB (.inl hMC)).trans s0,(aB (.inl hMC)).trans s1,(aB (.inl hMC)).trans s2⟩;clear hK Kq;refine dn ?_;refine NoPanic.normal ?_;clear bMd bMb s0 s1 s2 r0 r1 r2 r0a r1a r2a y14 x14 bMc HQ3;go_wp2;go_roundw;case rel=>exact⟨K+1,od,Od,HST⟩
 case measure=>simp[intOf];omega):p:=h
theorem zAq(h:p:=by
 rintro ev u1 ⟨rfl,i6⟩;have b1:bW V u1:=eZ i6;have y0:=bc b1 hwV x0;have y1:=bc b1 xC n0;have oZ:Hid (bW w u1):=HB.out.trans (b1.mono HB.out.size);refine kp hK (λaF=>?_) ⟨y0,y1⟩;clear hK K;refine tk 8 aF ?_;refine tk 9 aF ?_;refine fJ 10 λK hK=>?_;go_simp;refine(HR.out u1 0 oZ.out).mono ?_;rintro ev u2 ⟨he2,dS⟩;have b2:bW V u2:=b1.trans (dS.mono b1.size);by_cases hme:me=0
 .rw[kK hme]at he2;subst he2;have z0:=bc b2 hwV x0;have z1:=bc b2 xC n0;have hI:=oK mv HI.out u2 (HD.out u2 (HB.out.trans (b2.mono HB.out.size)));refine kp hK (λaF=>?_) ⟨z0,z1⟩;clear hK K;refine fJ 11 λK hK=>?_;go_simp;refine hI.mono ?_;rintro ev u3 ⟨rfl,hu3⟩;have b3:bW V u3:=b2.trans (hu3.mono b2.size);have w0:=bc b3 hwV x0;have w1:=bc b3 xC n0;refine kp hK (λaF=>?_) ⟨w0,w1⟩;clear hK K;refine fJ 12 λK hK=>?_;go_simp;refine kp hK (λaF=>?_) ⟨w0,w1⟩;clear hK K;refine dn ?_;go_wp2_with fail;go_ret;exact HE.out u3 _ b3 je
 .rw[kJ hme]at he2;subst he2;exact⟨rfl,HE.out u2 _ b2 jf⟩):p:=h
theorem zAr(h:p:=by go_simp;refine kp hK (λaF=>?_) ⟨m0 _,m1 _,m2 _,m3 _⟩;clear hK K;refine fJ 6 λK hK=>?_;refine step_append_lies _ ou _ _ _ ou base 124 i0 (.agg #[iI 0,iI 0,iI 0,iI 0]) 4 32 underlying80 hi0 qV qO qP rfl og _ nn _ ou HOW.out (aA V.1.size 0) 1 1 [iI y0,iI y1,iI y2,iI y3] ou rfl aJ3.out Oi og ot od Ea (V.1.size+1) oe ?_;intro gq cq w3 dI vJ oX bFa;have bT:=aW1 vJ;clear vJ;obtain⟨r0,r1,r2,r3,rc,rz⟩:=aNt.out w3 bT;refine kp hK (λaF=>?_) ⟨r0,r1,r2,r3⟩;clear hK K;refine tk 7 aF ?_;refine fJ 8 λK hK=>?_;go_simp;refine kp hK (λaF=>?_) ⟨(aB (.inl HNE.out)).trans r0,(aB (.inl HNE.out)).trans r1,(aB (.inl HNE.out)).trans r2,(aB (.inl HNE.out)).trans r3⟩;exact zFd):p:=h
theorem zAt(h:p:=by go_simp;refine kp hK (λaF=>?_) ⟨m0 _,m1 _,m2 _⟩;clear hK K;refine fJ 6 λK hK=>?_;refine step_append_lies _ ou _ _ _ ou base 120 i0 (.agg #[iI 0,iI 0,iI 0]) 3 24 underlying79 hi0 qV qO qP rfl og _ nn _ ou HOW.out (aA V.1.size 0) 1 1 [iI y0,iI y1,iI y2] ou rfl aJ3.out Oi og ot od Ea (V.1.size+1) oe ?_;have m52:=0;exact zHj):p:=h
theorem W5(h:p:=by go_wp2;go_ret;exact⟨rfl,rfl⟩):p:=h
theorem zAw(h:p:=by
 go_wp2_with fail;refine hC.mono ?_;rintro ev u1 ⟨rfl,b1⟩;go_wp2_with fail;refine(HL.out _).mono ?_;rintro ev u2 ⟨x,rfl,hx,dS⟩;have b2:bW V u2:=(b1.alloc b1.size _).trans (dS.mono (by have:=b1.size;simp;omega));have hR:=A2 x me u2 (HD.out u2 (HB.out.trans (b2.mono HB.out.size))).told;go_wp2_with fail;refine hR.mono ?_;rintro ev u3 ⟨he3,hu3⟩;have b3:bW V u3:=b2.trans (hu3.mono b2.size);by_cases hme:me=0
 .rw[kK hme]at he3;subst he3;obtain⟨rfl,hir⟩:=hx hme;have hI:=oK x hir u3 (HD.out u3 (HB.out.trans (b3.mono HB.out.size)));go_wp2_with fail;refine hI.mono ?_;rintro ev u4 ⟨rfl,hu4⟩;go_wp2_with fail;go_ret;exact HE.out u4 _ (b3.trans (hu4.mono b3.size)) je
 .rw[kJ hme]at he3;subst he3;exact⟨rfl,HE.out u3 _ b3 jf⟩):p:=h
theorem zA7(h:p:=by
 go_enter func65,ntmps65;go_wp2_with fail;all_goals refine(hA _).mono ?_
 all_goals rintro e u3 ⟨rfl,rfl⟩
 all_goals exact⟨rfl,rfl,(((jD _ w).alloc (kG _) _).alloc oe _).alloc ol _⟩):p:=h
theorem zBc(h:p:=by have HX:Hid (aU ((w.setCell (aA P 3) (.bool true)).drew) P id n m g b true):=(HH.out.freeze true).drawn 1;have HT:Hid (aW P P w ((w.setCell (aA P 3) (.bool true)).drew)):=((aW.refl _ _ _).set (p:=(aA P 3)) (.inl rfl) _).trans (aW.drawn 1);go_enter func149,ntmps149;go_wp2_with fail;go_region;go_wp2;go_ret2;exact⟨rfl,HX.out,HT.out⟩):p:=h
theorem zBg(h:p:=by
 go_enter func190,ntmps190;go_wp2;go_ret2;refine⟨rfl,?_⟩;repeat(refine Below.alloc ?_ (by first|omega|(simp;omega)|simp) _)
 exact jD _ _):p:=h
theorem zBj(h:p:=by
 go_enter func177,ntmps177;go_wp2;all_goals go_ret
 all_goals first|exact⟨rfl,rfl⟩|exact⟨Ee,rfl⟩|exact⟨(by congr 2;omega),rfl⟩):p:=h
theorem zBk(h:p:=by go_enter func174,ntmps174;go_wp2;go_ret;exact⟨rfl,(jD _ _).alloc (kG _) _⟩):p:=h
theorem zBl(h:p:=by go_wp2_with fail;refine ha.mono ?_;rintro e w' ⟨rfl,hb⟩;go_wp2_with fail;go_ret;exact⟨rfl,hb⟩):p:=h
theorem zBn(h:p:=by go_enter func153,ntmps153;go_wp2;exact bodyPost_ret (v:=tU #[]) Oj rfl ⟨rfl,rfl⟩):p:=h
theorem zBp(h:p:=by go_enter func82,ntmps82;have bG2:=0;exact zIw):p:=h
theorem zBs(h:p:=by
 go_enter func65,ntmps65;go_wp2_with fail;go_region;go_wp2_with fail;all_goals refine(hA _).mono ?_
 all_goals rintro e u3 ⟨rfl,rfl⟩
 all_goals exact⟨rfl,rfl,(((jD _ w).alloc (kG _) _).alloc oe _).alloc ol _|>.drew⟩):p:=h
theorem zBu(h:p:=by
 go_wp2;go_roundw;case rel=>exact⟨k+1,od,Od,qK⟩
 case measure=>simp[intOf];omega):p:=h
theorem zBx(h:p:=by go_wp2_with fail;refine ha.mono ?_;rintro e w' ⟨rfl,hb⟩;exact⟨rfl,rfl,hb⟩):p:=h
theorem zB1(h:p:=by rintro ev w3 ⟨b3,rfl,q0,q1,sN⟩;go_wp2;go_ret;obtain⟨rfl,rfl⟩:=HF.out.is hlt h0.out HK.out HZ.out;exact⟨_,rfl,.inr ⟨b3,rfl,HZ.out,q0,q1⟩,hV1.trans ((gM hbt sN).mono hV1.size)⟩):p:=h
theorem zB4(h:p:=by go_enter func108,ntmps108;go_wp2_with fail;refine hh.mono ?_;rintro e w' ⟨rfl,rfl⟩;clear hh;go_wp2;go_ret;refine⟨rfl,?_⟩;exact zFl):p:=h
theorem zB6(h:p:=by rintro ev w4 ⟨b4,rfl,q0,q1,hb4⟩;go_wp2;go_ret;obtain⟨rfl,rfl⟩:=HF.out.is hlt h0.out HK.out og;exact⟨_,rfl,.inr ⟨b4,rfl,og,q0,q1⟩,hV1.trans ((gM hbu hb4).mono hV1.size)⟩):p:=h
theorem zB9(h:p:=by go_enter func191,ntmps191;go_wp2;exact bodyPost_ret (v:=tU #[.agg #[iI 0,sT ⟨#[]⟩],.iface 30 (iI 2)]) Ek rfl ⟨rfl,(jD _ _).alloc (kG _) _⟩):p:=h
theorem zCd(h:p:=by
 go_wp2;go_roundw;case rel=>exact⟨k+1,od,Od,ho4,hb4⟩
 case measure=>simp[intOf];omega):p:=h
theorem zCq(h:p:=by go_enter func90,ntmps90;exact zFi):p:=h
theorem zCr(h:p:=by go_enter func191,ntmps191;go_wp2;exact bodyPost_ret (v:=tU #[.agg #[iI 0,sT ⟨#[]⟩],.iface 30 (iI 8)]) Ek rfl ⟨rfl,HF.out,HT.out⟩):p:=h
theorem zCw(h:p:=by go_wp2;go_ret;obtain⟨rfl,rfl⟩:=HF.out.at_end (λj hj=>h0.out j od);exact⟨_,rfl,.inl ⟨rfl,rfl⟩,hV1.trans (eG.mono hV1.size)⟩):p:=h
theorem zCy(h:p:=by go_wp2_with(go_at_call 125;refine(aVd f s n d _ HR.out).mono ?_;rintro e w1 ⟨rfl,hb⟩);go_ret2;exact⟨rfl,aC3 hb⟩):p:=h
theorem zC6(h:p:=by
 go_wp2;go_roundw;case rel=>exact⟨k+1,od,Od,by rw[HL.out],H4 h0.out HK.out,hbu⟩
 case measure=>simp[intOf];omega):p:=h
theorem zDo(h:p:=by
 go_wp2;go_roundw;case rel=>exact⟨c+1,od,Od,by rw[HWH.out],HJ2⟩
 case measure=>simp[intOf];omega):p:=h
theorem zD0(h:p:=by
 go_wp2;go_roundw;case rel=>exact⟨k+1,od,Od,HNN.out _⟩
 case measure=>simp[intOf];omega):p:=h
theorem zD3(h:p:=by go_wp2_with fail;refine(hA _).mono ?_;rintro e u3 ⟨rfl,rfl⟩;exact⟨rfl,HE.out⟩):p:=h
theorem zD8(h:p:=by
 go_wp2;go_roundw;case rel=>exact⟨j+1,od,Od,HI2⟩
 case measure=>simp[intOf];omega):p:=h
theorem zEf(h:p:=by go_wp2;go_ret;exact⟨rfl,jD _ _⟩):p:=h
theorem zEt(h:p:=by go_enter func63,ntmps63;go_wp2;go_ret;exact⟨rfl,0,rfl⟩):p:=h
theorem zE0(h:p:=by obtain⟨h1,h2,h3,h4,h5,h6,h7,h8,h9,h10⟩:=oU h;have HR:Hid (eA f s n d=true):=h;clear h;obtain⟨p1,p2⟩:=M6 (x:=r-f) (n:=n) (M:=1099511627776) (R:=1000000) od od h5 h6;obtain⟨q1,q2⟩:=aAi (x:=r-f) (n:=n) (d:=d) (M:=1099511627776) od od h5 h7 h9;have L8:=Tryz.mf;go_enter func92,ntmps92;exact zAs):p:=h
theorem zE1(h:p:=by go_simp;refine kp hK (λaF=>?_) ⟨m0 _,m1 _,m2 _⟩;clear hK K;refine fJ 17 λK hK=>?_;refine step_append_lies _ ou _ _ _ ou base 138 i0 (.agg #[iI 0,iI 0,iI 0]) 3 24 underlying85 hi0 qV qO qP rfl og vv nn _ ou HOW.out (aA V.1.size 0) 1 1 [iI y0,iI y1,iI y2] ou rfl aJ3.out Oi og ot od Ea (V.1.size+1) oe ?_;exact zHj):p:=h
theorem zE2(h:p:=by go_simp;refine kp hK (λaF=>?_) ⟨m0 _,m1 _,m2 _⟩;clear hK K;refine fJ 17 λK hK=>?_;refine step_append_lies _ ou _ _ _ ou base 140 i0 (.agg #[iI 0,iI 0,iI 0]) 3 24 underlying86 hi0 qV qO qP rfl og vv nn _ ou HOW.out (aA V.1.size 0) 1 1 [iI y0,iI y1,iI y2] ou rfl aJ3.out Oi og ot od Ea (V.1.size+1) oe ?_;exact zHj):p:=h
theorem zE4(h:p:=by go_wp2;go_ret;exact⟨HE.out _ hE.out,hV.trans (hW.mono hV.size)⟩):p:=h
theorem zFd(h:p:=by clear hK K;refine dn ?_;go_wp2_with fail;refine(HI.out _).mono ?_;rintro e u9 ⟨rfl,hu9⟩;replace hu9:=hu9.symm;subst hu9;exact zF2):p:=h
theorem zFi(h:p:=by go_wp2;go_ret2;exact⟨rfl,jD _ _⟩):p:=h
theorem zFj(h:p:=by have L8:=Tryz.mf;go_enter func93,ntmps93;exact zIk):p:=h
theorem zFq(h:p:=by go_wp2;go_ret;exact⟨rfl,_,rfl⟩):p:=h
theorem zFs(h:p:=by
 go_wp2;go_roundw;case rel=>exact⟨k+1,od,Od,HNN⟩
 case measure=>simp[intOf];omega):p:=h
theorem zFv(h:p:=by go_enter func111,ntmps111;exact W5):p:=h
theorem zFw(h:p:=by go_enter func109,ntmps109;exact W5):p:=h
theorem zFx(h:p:=by go_enter func231,ntmps231;exact W5):p:=h
theorem zFy(h:p:=by go_enter func220,ntmps220;exact W5):p:=h
theorem zFz(h:p:=by go_enter func178,ntmps178;exact W5):p:=h
theorem zF2(h:p:=by go_wp2_with fail;go_ret;exact aDd.out w3 gq cq bT dI oX bFa):p:=h
theorem zF4(h:p:=by
 have x0:=@run_callFunc_extern prog 184 _ (λargs=>ReflectliteValue.unpack (args.getD 0 (tU #[]))) func184 oh oh oh oh;have x1:=@run_callFunc_extern prog 185 _ (ReflectliteValue.methodAny (ReflectliteValue.valueError "reflectlite.Value.Type" 0) (λt _ _ _=>ReflectliteType.toType t)) func185 oh oh oh oh;have x2:=@run_callFunc_extern prog 186 _ (ReflectliteValue.method (ReflectliteValue.valueError "reflectlite.Value.IsNil" 0) ReflectliteValue.isNil) func186 oh oh oh oh;have x3:=@run_callFunc_extern prog 247 _ (ReflectliteType.abiMethod λt=>do pure (.int .u8 (<-Rtype.kind t))) func247 oh oh oh oh;have x4:=@run_callFunc_extern prog 266 _ (ReflectliteType.method ReflectliteType.elem) func266 oh oh oh oh;have x5:=@run_callFunc_extern prog 267 _ (ReflectliteType.relation "Implements" ReflectliteType.implements_) func267 oh oh oh oh;have x6:=@run_callFunc_extern prog 216 _ ReflectliteType.typeOf func216 oh oh oh oh;have x7:=@run_callFunc_extern prog 264 _ (ReflectliteType.relation "AssignableTo" ReflectliteType.assignableTo) func264 oh oh oh oh;have x8:=@run_callFunc_extern prog 217 _ (ReflectliteValue.method (ReflectliteValue.valueError "reflectlite.Value.Elem" 0) ReflectliteValue.elem) func217 oh oh oh oh;have x9:=@run_callFunc_extern prog 218 _ ReflectliteValue.set func218 oh oh oh oh;have tO:=Tryz.aZ6
 first|let _:=m1;have tA:=Tryz.aVw;have nA:=Tryz.aDl;have bHc:=Tryz.bHc;have bMl:=Tryz.aOt;have mU:=Tryz.aEo;have nU:=Tryz.aPv|skip
 have mA:=Tryz.yT;have aE:=Tryz.aG2;have vE:=Tryz.aW3;have f6:=Tryz.aW4;have f7:=Tryz.bIf;have mK:=Tryz.aKh;have mE:=Tryz.aKg;have mI:=Tryz.H3;have kP:=Tryz.bFr;have kE:=Tryz.bFq;have eP:=Tryz.bEk;have iE:=Tryz.aGw;have n8:=Tryz.bBq (aA w.1.size 0) t ((w.alloc (.cells #[.pointer (some t)] 221)).alloc (.cells #[.pointer (some (aA 7 221)),pP w.1.size,.int .u64 150] 255)) oe;have hlt:2<w.1.size:=by exact zDk
 have hg2:((w.alloc (.cells #[.pointer (some t)] 221)).alloc (.cells #[.pointer (some (aA 7 221)),pP w.1.size,.int .u64 150] 255)).cell? (aA 2 0)=some (.iface 293 (.agg #[.pointer (some (aA 7 24))])):=by exact zC7
 first
 |let _:=m1;have hal:a.block<w.1.size:=by exact zDf
  have hk3:(((w.alloc (.cells #[.pointer (some t)] 221)).alloc (.cells #[.pointer (some (aA 7 221)),pP w.1.size,.int .u64 150] 255)).alloc (.cells #[.pointer (some (aA 7 221)),pP w.1.size,.int .u64 150] 255)).cell? a=some (iI k):=by rw[World.cell?_alloc_lt _ _ a ol,World.cell?_alloc_lt _ _ a ol,World.cell?_alloc_lt _ _ a hal];exact hk
 |skip
 have htl:t.block<w.1.size:=by exact zDe
 have el:=Tryz.bAy (aA w.1.size 0) t (((w.alloc (.cells #[.pointer (some t)] 221)).alloc (.cells #[.pointer (some (aA 7 221)),pP w.1.size,.int .u64 150] 255)).alloc (.cells #[.pointer (some (aA 7 221)),pP w.1.size,.int .u64 150] 255)) (by rw[World.cell?_alloc_lt _ _ (aA w.1.size 0) ol];simp);have st:=Tryz.bM5 t (aA (w.1.size+1+1+1) 0) k old ((((w.alloc (.cells #[.pointer (some t)] 221)).alloc (.cells #[.pointer (some (aA 7 221)),pP w.1.size,.int .u64 150] 255)).alloc (.cells #[.pointer (some (aA 7 221)),pP w.1.size,.int .u64 150] 255)).alloc (.cells #[iI k] 30))
  (by rw[World.cell?_alloc_at _ _ _ _ oe];rfl)
  Eu
  Ei
 go_enter func145,ntmps145;go_wp2
 first|let _:=m1;refine wp_loop_rounds 2 ?_;rw[rounds_succ];go_wp2|refine wp_loop_rounds 1 ?_
 rw[rounds_succ];exact W5):p:=h
theorem zGa(h:p:=by
 have hB:bW w V:=hV▸(jD _ w).alloc (kG _) _;have hs:=h.below hB;obtain⟨pa,eS,eL,eW,eC,jT⟩:=hs.bCr
 first
 |let _:=m7;have a0:V.cell? (aA w.1.size 0)=some (sV (some (aA b off)) (l.length+1) cap):=om;have a1:V.cell? (aA b off)=some (iI x):=bc hB oF ew;have nJ:bI V (if cap=1 then some (aA b off)else some (aA b (off+1))) l:=λh0=>⟨b,off+1,kJ od,kC oF hB.size,λj hj=>bc hB oF (by have:=hc (j+1) O7;simpa[Nat.add_assoc,Nat.add_comm 1 j]using this)⟩;have xC:b<V.1.size:=kC oF hB.size;have hwV:w.1.size<V.1.size:=Ov;have uT:=hs.r.hi S hs.r.s;have hwS:w.1.size≠S:=λe=>by have:=h.r.hi S h.r.s;omega
  have hbS:b≠S:=λe=>hr.2 b off rfl oe (by rw[e];exact kL (.inl h.r.s))
 |obtain⟨E,I,hI,hmax,hC⟩:=aOp st.aO pa V jT;skip
 have c0:V.cell? (aA S 0)=some (iI st.aO.AA):=aN hs.blk (i:=0) rfl;have c1:V.cell? (aA S 1)=some (iI st.aO.aG):=aN hs.blk (i:=1) rfl;have c2:V.cell? (aA S 2)=some (iI st.aO.aM):=aN hs.blk (i:=2) rfl;have c3:V.cell? (aA S 3)=some (iI st.aO.aC):=aN hs.blk (i:=3) rfl;have c4:V.cell? (aA S 4)=some (iI st.aO.aJ):=aN hs.blk (i:=4) rfl;have c5:V.cell? (aA S 5)=some (iI st.aO.round):=aN hs.blk (i:=5) rfl;have c6:V.cell? (aA S 6)=some (sV pa.sa st.aO.ns pa.sc):=(aN hs.blk (i:=6) rfl).trans (jA some eS);have c7:V.cell? (aA S 7)=some (sV pa.la st.aO.nl pa.lc):=(aN hs.blk (i:=7) rfl).trans (jA some eL);have c8:V.cell? (aA S 8)=some (iI st.aO.frame):=aN hs.blk (i:=8) rfl;have c9:V.cell? (aA S 9)=some (sV pa.wa st.aO.nw pa.wc):=by rw[eW,eC,h.r.nw];exact aN hs.blk (i:=9) rfl
 first
 |let _:=m7;have hC:=eK.new st.aO pa x (if cap=1 then some (aA b off)else some (aA b (off+1))) (cap-1) l (V.drewN 1) (jT.below (bdN V 1)) (nJ.below (bdN V 1)) od hx.1 hx.2;have HC:Hid (Calls prog 78 #[st.aO.val pa,iI x,sV (if cap=1 then some (aA b off)else some (aA b (off+1))) l.length (cap-1)] (V.drewN 1) λe u=>bW V u/\∃K I,((K≠0/\∃E,e=rT (tU #[.pointer none,E])/\gX u E K I/\∀u',bW u u'->bK base S M O st N .iV (x::l) tx w (dM K) u')\/(K=0/\∃C,e=rT (tU #[pP C,.nilIface])/\∀u',bW u u'->bK base S M O st N .iV (x::l) tx w (rT (sT Kd.iV.name)) (u'.setCell (aA S 10) (pP C))))):=by
   refine hC.mono λe u ⟨cV,K,I,hK,q⟩=>?_;have b1:bW V u:=eZ cV;refine⟨b1,K,I,?_⟩;rcases q with⟨k0,E,he,hE⟩|⟨k0,O1,C,he,fN,hO1⟩
   .exact .inl ⟨k0,E,he,hE,λu' hu=>iK h hB (b1.trans (hu.mono b1.size)) (k:=.iV) (n:=x::l) (tx:=tx) (r:=.err K) ⟨K,I,hK,.inl ⟨k0,rfl,rfl⟩⟩ rfl⟩
   .refine .inr ⟨k0,C,he,λu' hu=>?_⟩;have bJb:B7 u' O1 C st.aO x l cJ.start 0 0:=eK.keep fN (Same.of_below hu (eK.lt fN));obtain⟨q1,q2⟩:=(hs.later (kU N)).begun (b1.trans (hu.mono b1.size)) bJb hO1;exact⟨_,.ok Kd.iV.name,M,O1,_,⟨K,I,hK,.inr ⟨k0,rfl,rfl⟩⟩,rfl,(aR.of_below hB).trans q2,q1⟩
 |skip
 have HB:Hid (bW w V):=hB
 first|let _:=m7;have HK:Hid (∀u,bW V u->u.1[S]?=some (.cells (st.cells A) 91 (0,0))):=λu hu=>(hu.block S uT).trans hs.blk;have T9:base<=w.1.size:=kH (h.r.lo S h.r.s) (kX (h.r.hi S h.r.s));have HD:Hid (∀u,bW V u->gW u):=λu hu=>(hD.below (hB.mono T9)) u (hu.mono (kH T9 hB.size));clear h hD hB hs jT hC hc hr nJ eS eL eW eC;unfold aP.val at HC|have HD:Hid (∀u,bW w u->gW u):=λu hu=>hD u hu;have HE:Hid (∀w' e,bW V w'->e=(mM E (qY st.aO)).ending->bK base S M O st N .bytes_ n tx w e w'):=λw' e q1 q2=>iK h hB q1 (k:=.bytes_) (n:=n) (tx:=tx) ⟨E,I,hI,rfl,rfl⟩ q2;have HM:Hid (E=0->qY st.aO<=2000):=hmax;clear h hD hB hs jT hI eS eL eW eC hmax;generalize qY st.aO=pl at *;unfold aP.val at hC
 generalize st.aO.AA=p0 at *;generalize st.aO.aG=p1 at *;generalize st.aO.aM=p2 at *;generalize st.aO.aC=p3 at *;generalize st.aO.aJ=p4 at *;generalize st.aO.round=p5 at *;generalize st.aO.frame=p8 at *;generalize st.aO.ns=q1 at *;generalize st.aO.nl=q2 at *;generalize st.aO.nw=q3 at *
 first
 |let _:=m7;have hl1:(1:Int)<=(l.length:Int)+1:=od;go_enter func41,ntmps41;go_wp2_with fail;refine wp_region_held_drew (S:=λv=>v.cell? (aA w.1.size 0)=some (sV (some (aA b off)) (l.length+1) cap)/\v.cell? (aA b off)=some (iI x)/\v.cell? (aA S 0)=some (iI p0)/\v.cell? (aA S 1)=some (iI p1)/\v.cell? (aA S 2)=some (iI p2)/\v.cell? (aA S 3)=some (iI p3)/\v.cell? (aA S 4)=some (iI p4)/\v.cell? (aA S 5)=some (iI p5)/\v.cell? (aA S 6)=some (sV pa.sa q1 pa.sc)/\v.cell? (aA S 7)=some (sV pa.la q2 pa.lc)/\v.cell? (aA S 8)=some (iI p8)/\v.cell? (aA S 9)=some (sV pa.wa q3 pa.wc)) oh ⟨a0,a1,c0,c1,c2,c3,c4,c5,c6,c7,c8,c9⟩ (λaF=>?_);exact zKt
 |go_enter func40,ntmps40;go_wp2_with fail;refine hC.mono ?_;rintro ev u1 ⟨v1,X,rfl,hX,jM,b1⟩;by_cases hE:E=0
  .obtain⟨rfl,ad,cap,rfl⟩:=jM hE;have hm:=HM.out hE;have hR:=aAn (sV ad pl cap) u1;go_wp2_with fail;refine hR.mono ?_;rintro ev u2 ⟨rfl,dS⟩;have b2:=b1.trans (dS.mono b1.size);have hI:=oK (pl:Int) ⟨od,od⟩ u2 (HD.out u2 (HB.out.trans (b2.mono HB.out.size)));go_wp2_with fail;refine hI.mono ?_;rintro ev u3 ⟨rfl,hu3⟩;go_wp2_with fail;go_ret;exact HE.out u3 _ (b2.trans (hu3.mono b2.size)) (by rw[mM,kK hE];rfl)
  .have hR:=aBx v1 u1 (HD.out u1 (HB.out.trans (b1.mono HB.out.size))).told hX hE;go_wp2_with fail;refine hR.mono ?_;rintro ev u2 ⟨rfl,dS⟩;exact⟨rfl,HE.out u2 _ (b1.trans (dS.mono b1.size)) (by rw[mM,kJ hE];rfl)⟩):p:=h
theorem zGe(h:p:=by
 go_enter func65,ntmps65;go_wp2_with fail
 first|let _:=m11|go_region;go_wp2_with fail
 refine(hA _).mono ?_;rintro e u3 ⟨rfl,rfl⟩;clear hA
 first|let _:=m11;have HR:Hid (R5 w _ (ws)):=hr|have HR:Hid (R5 w _ ((ws.take m))):=hr.take m
 have HW:Hid (cU w.1.size w):=hw
 first|let _:=m11;have HSZ:Hid (∀x∈(ws),x.size<=20000):=hsz;have HLQ:Hid ((ws).length=ws.length):=rfl;have HLN:Hid (ws.length<=20000):=hl|have HSZ:Hid (∀x∈((ws.take m)),x.size<=20000):=(λx hx=>hsz x (List.mem_of_mem_take hx));have HLQ:Hid (((ws.take m)).length=m):=(show(ws.take m).length=m by rw[List.length_take];omega);have HLN:Hid (m<=20000):=(show m<=20000 by omega)
 clear hr hw hsz;go_wp2_with fail
 first|(let _:=m11;go_loopw[45] (λt wr=>∃(k:Nat) (r:List Int) (v:WB),k<=ws.length/\t=iI k/\Hid (gL ((ws).take k)=some r)/\Hid (D8 (w.1.size+1+1) (AU) r v wr)/\Hid (bW w wr)) (λt _=>ws.length-(intOf t).toNat);case atStart=>exact⟨0,[],sV none 0 0,kI _,rfl,rfl,aAm w _ _ ⟨#[]⟩,(((jD _ w).alloc (kG _) _).alloc oe _).alloc ol _⟩)|go_loopw[45] (λt wr=>∃(k:Nat) (r:List Int) (v:WB),k<=m/\t=iI k/\Hid (gL (((ws.take m)).take k)=some r)/\Hid (D8 (w.1.size+1+1) (tx) r v wr)/\Hid (bW w wr)) (λt _=>m-(intOf t).toNat);case atStart=>exact⟨0,[],sV none 0 0,kI _,rfl,rfl,(aAm w _ _ _).below ((jD _ _).drew),((((jD _ w).alloc (kG _) _).alloc oe _).alloc ol _).drew⟩
 case round=>
  obtain⟨k,r,v,hk,rfl,hnu,fM,eG⟩:=hrel
  first|let _:=m11;by_cases hlt:k<ws.length|by_cases hlt:k<m
  .first
   |let _:=m11;have kk:(k:Int)<(ws.length:Int):=by omega
    obtain⟨b,off,rfl,hb,hc⟩:=HR.out Em;obtain⟨x,hx⟩:∃x,(ws)[k]?=some x:=⟨_,AT Em⟩;skip
   |have kk:(k:Int)<(m:Int):=by omega
    obtain⟨b1,bLz,hbo,cV,hc⟩:=HR.out (by rw[List.length_take];omega);obtain⟨rfl,rfl⟩:b=b1/\off=bLz:=by injection hbo with e;injection e with e1 e2;exact⟨e1,e2⟩
    obtain⟨x,hx⟩:∃x,((ws.take m))[k]?=some x:=⟨_,AT Em⟩;skip
   have y:=bc eG.out hb (hc k x hx);have hz:b<wr.1.size:=kC hb eG.out.size;have hxs:x.size<=20000:=HSZ.out x (List.mem_of_getElem? hx);have hN:=aKn x hxs (wr.drewN 1) (HW.out.at (v:=wr.drewN 1) (tM eG.out 1) eG.out.size);have hrl:r.length=k:=by
    have:=pK hnu.out
    first|let _:=m11;rw[List.length_take]at this|rw[List.length_take,HLQ.out]at this
    omega
   subst hrl;have hk2:r.length<=20000:=by have:=HLN.out;omega
   first|(let _:=m11;have htk:(ws).take (r.length+1)=(ws).take r.length++[x]:=by rw[List.take_add_one,hx];rfl)|have htk:((ws.take m)).take (r.length+1)=((ws.take m)).take r.length++[x]:=by rw[List.take_add_one,hx];rfl
   have c0:=fM.out.c0;have z0:=fM.out.z0;have bMx:=fM.out.lt
   first|let _:=m11;have HX:Hid ((ws)[r.length]?=some x):=hx|have HX:Hid (((ws.take m))[r.length]?=some x):=hx
   have HTK:Hid _:=htk;clear hx hc htk
   first
   |let _:=m11
    cases hnp:s9 x with
    |none=>
     have hno:gL (ws)=none:=uG (k:=r.length+1) ep
     have HNO:Hid _:=hno
     simp only[hnp]at hN
     go_wp2_with fail
     refine wp_region_held_drew (S:=λ_=>True) oh trivial (λaF=>?_)
     refine tk 0 aF ?_
     refine tk 2 aF ?_
     refine rd2 1 3 (λK hK=>?_) (λK hK=>?_)
     .go_simp
      refine kp hK (λaF=>?_) trivial
      clear hK K
      refine fJ 3 λK hK=>?_
      go_simp
      refine hN.mono ?_
      rintro ev u1 ⟨rfl,i6⟩
      exact⟨rfl,.no E7,eG.out.trans ((eZ i6).mono eG.out.size)⟩
     .go_simp
      refine hN.mono ?_
      rintro ev u1 ⟨rfl,i6⟩
      exact⟨rfl,.no E7,eG.out.trans ((eZ i6).mono eG.out.size)⟩
    |some val=>
     simp only[hnp]at hN
     have HNU:Hid (gL ((ws).take (r.length+1))=some (r++[val])):=ep
     go_wp2_with fail
     refine wp_region_held_drew (S:=λ_=>True) oh trivial (λaF=>?_)
     refine tk 0 aF ?_
     refine tk 2 aF ?_
     refine rd2 1 3 (λK hK=>?_) (λK hK=>?_)
     .go_simp
      refine kp hK (λaF=>?_) trivial
      clear hK K
      refine fJ 3 λK hK=>?_
      go_simp
      refine hN.mono ?_
      rintro ev u1 ⟨rfl,i6⟩
      have lQ:Hid (D8 (w.1.size+1+1) (AU) r v u1):=fM.out.below (eZ i6)
      have xD:Hid (bW w u1):=eG.out.trans ((eZ i6).mono eG.out.size)
      have c1:=lQ.out.c0
      refine kp hK (λaF=>?_) trivial
      clear hK K
      refine fJ 4 λK hK=>?_
      go_simp
      refine kp hK (λaF=>?_) trivial
      clear hK K
      refine fJ 5 λK hK=>?_
      refine step_append_lies _ ou _ _ _ ou (w.1.size+1+1+1) 3 i0 (iI 0) 1 8 underlying87 hi qV qO qP rfl og v r.length _ ou (lQ.out.own.alloc _) (aA u1.1.size 0) 1 1 [iI val] ou rfl (cell_one_new _ _ _) (mY [val]) og ot od Ot (u1.1.size+1) oe ?_
      intro gq cq w3 dI bT _ _
      obtain⟨c3,z3,hn3⟩:=(lQ.out.below ((jD _ u1).alloc (kG _) (.cells #[iI val] 3))).grown bT val _ dI
      have HN3:Hid _:=hn3
      have sN:Hid (bW w w3):=(xD.out.alloc xD.out.size (.cells #[iI val] 3)).grown bT On (λk hk=>kX (kC od (H7 lQ.out.own hk)))
      clear hn3
      refine kp hK (λaF=>?_) trivial
      clear hK K
      refine tk 6 aF ?_
      refine fJ 7 λK hK=>?_
      go_simp
      refine kp hK (λaF=>?_) trivial
      clear hK K
      refine dn ?_
      clear hN
      go_wp2
      go_roundw
      case rel=>exact⟨r.length+1,r++[val],_,od,Od,HNU,HN3,sN.out.setCell (p:=(aA (w.1.size+1+1) 0)) Ob _⟩
      case measure=>simp[intOf];omega
     .go_simp
      refine hN.mono ?_
      rintro ev u1 ⟨rfl,i6⟩
      have lQ:Hid (D8 (w.1.size+1+1) (AU) r v u1):=fM.out.below (eZ i6)
      have xD:Hid (bW w u1):=eG.out.trans ((eZ i6).mono eG.out.size)
      have c1:=lQ.out.c0
      refine kp hK (λaF=>?_) trivial
      clear hK K
      refine rd2 1 4 (λK hK=>?_) (λK hK=>?_)
      .go_simp
       refine kp hK (λaF=>?_) trivial
       clear hK K
       refine fJ 4 λK hK=>?_
       go_simp
       refine kp hK (λaF=>?_) trivial
       clear hK K
       refine fJ 5 λK hK=>?_
       refine step_append_lies _ ou _ _ _ ou (w.1.size+1+1+1) 3 i0 (iI 0) 1 8 underlying87 hi qV qO qP rfl og v r.length _ ou (lQ.out.own.alloc _) (aA u1.1.size 0) 1 1 [iI val] ou rfl (cell_one_new _ _ _) (mY [val]) og ot od Ot (u1.1.size+1) oe ?_
       intro gq cq w3 dI bT _ _
       obtain⟨c3,z3,hn3⟩:=(lQ.out.below ((jD _ u1).alloc (kG _) (.cells #[iI val] 3))).grown bT val _ dI
       have HN3:Hid _:=hn3
       have sN:Hid (bW w w3):=(xD.out.alloc xD.out.size (.cells #[iI val] 3)).grown bT On (λk hk=>kX (kC od (H7 lQ.out.own hk)))
       clear hn3
       refine kp hK (λaF=>?_) trivial
       clear hK K
       refine tk 6 aF ?_
       refine fJ 7 λK hK=>?_
       go_simp
       refine kp hK (λaF=>?_) trivial
       clear hK K
       refine dn ?_
       clear hN
       go_wp2
       go_roundw
       case rel=>exact⟨r.length+1,r++[val],_,od,Od,HNU,HN3,sN.out.setCell (p:=(aA (w.1.size+1+1) 0)) Ob _⟩
       case measure=>simp[intOf];omega
      .go_simp
       refine kp hK (λaF=>?_) trivial
       clear hK K
       have c2:(u1.alloc (.cells #[iI val] 3)).cell? (aA (w.1.size+1+1) 0)=some v:=(((jD _ u1).alloc (kG _) (.cells #[iI val] 3)).cell (p:=(aA (w.1.size+1+1) 0)) lQ.out.lt).trans c1
       refine fJ 1 λK hK=>?_
       go_simp
       refine kp hK (λaF=>?_) trivial
       clear hK K
       refine fJ 5 λK hK=>?_
       refine step_append_lies _ ou _ _ _ ou (w.1.size+1+1+1) 3 i0 (iI 0) 1 8 underlying87 hi qV qO qP rfl og v r.length _ ou (lQ.out.own.alloc _) (aA u1.1.size 0) 1 1 [iI val] ou rfl (cell_one_new _ _ _) (mY [val]) og ot od Ot (u1.1.size+1) oe ?_
       intro gq cq w3 dI bT _ _
       obtain⟨c3,z3,hn3⟩:=(lQ.out.below ((jD _ u1).alloc (kG _) (.cells #[iI val] 3))).grown bT val _ dI
       have HN3:Hid _:=hn3
       have sN:Hid (bW w w3):=(xD.out.alloc xD.out.size (.cells #[iI val] 3)).grown bT On (λk hk=>kX (kC od (H7 lQ.out.own hk)))
       clear hn3
       refine kp hK (λaF=>?_) trivial
       clear hK K
       refine tk 6 aF ?_
       refine fJ 7 λK hK=>?_
       go_simp
       refine kp hK (λaF=>?_) trivial
       clear hK K
       refine dn ?_
       clear hN
       go_wp2
       go_roundw
       case rel=>exact⟨r.length+1,r++[val],_,od,Od,HNU,HN3,sN.out.setCell (p:=(aA (w.1.size+1+1) 0)) Ob _⟩
       case measure=>simp[intOf];omega
    skip
   |cases hnp:s9 x with
    |none=>
     have hno:gL ((ws.take m))=none:=uG (k:=r.length+1) ep
     have HNO:Hid _:=hno
     simp only[hnp]at hN
     go_wp2_with fail
     refine wp_region_held_drew (S:=λ_=>True) oh trivial (λaF=>?_)
     refine tk 0 aF ?_
     refine tk 2 aF ?_
     refine rd2 1 3 (λK hK=>?_) (λK hK=>?_)
     .go_simp
      refine kp hK (λaF=>?_) trivial
      clear hK K
      refine fJ 3 λK hK=>?_
      go_simp
      refine hN.mono ?_
      rintro ev u1 ⟨rfl,i6⟩
      exact⟨rfl,.no E7,eG.out.trans ((eZ i6).mono eG.out.size)⟩
     .go_simp
      refine hN.mono ?_
      rintro ev u1 ⟨rfl,i6⟩
      exact⟨rfl,.no E7,eG.out.trans ((eZ i6).mono eG.out.size)⟩
    |some val=>
     simp only[hnp]at hN
     have HNU:Hid (gL (((ws.take m)).take (r.length+1))=some (r++[val])):=ep
     go_wp2_with fail
     refine wp_region_held_drew (S:=λ_=>True) oh trivial (λaF=>?_)
     refine tk 0 aF ?_
     refine tk 2 aF ?_
     refine rd2 1 3 (λK hK=>?_) (λK hK=>?_)
     .go_simp
      refine kp hK (λaF=>?_) trivial
      clear hK K
      refine fJ 3 λK hK=>?_
      go_simp
      refine hN.mono ?_
      rintro ev u1 ⟨rfl,i6⟩
      have lQ:Hid (D8 (w.1.size+1+1) (tx) r v u1):=fM.out.below (eZ i6)
      have xD:Hid (bW w u1):=eG.out.trans ((eZ i6).mono eG.out.size)
      have c1:=lQ.out.c0
      refine kp hK (λaF=>?_) trivial
      clear hK K
      refine fJ 4 λK hK=>?_
      go_simp
      refine kp hK (λaF=>?_) trivial
      clear hK K
      refine fJ 5 λK hK=>?_
      refine step_append_lies _ ou _ _ _ ou (w.1.size+1+1+1) 3 i0 (iI 0) 1 8 underlying87 hi qV qO qP rfl og v r.length _ ou (lQ.out.own.alloc _) (aA u1.1.size 0) 1 1 [iI val] ou rfl (cell_one_new _ _ _) (mY [val]) og ot od Ot (u1.1.size+1) oe ?_
      intro gq cq w3 dI bT _ _
      obtain⟨c3,z3,hn3⟩:=(lQ.out.below ((jD _ u1).alloc (kG _) (.cells #[iI val] 3))).grown bT val _ dI
      have HN3:Hid _:=hn3
      have sN:Hid (bW w w3):=(xD.out.alloc xD.out.size (.cells #[iI val] 3)).grown bT On (λk hk=>kX (kC od (H7 lQ.out.own hk)))
      clear hn3
      refine kp hK (λaF=>?_) trivial
      clear hK K
      refine tk 6 aF ?_
      refine fJ 7 λK hK=>?_
      go_simp
      refine kp hK (λaF=>?_) trivial
      clear hK K
      refine dn ?_
      clear hN
      go_wp2
      go_roundw
      case rel=>exact⟨r.length+1,r++[val],_,od,Od,HNU,HN3,sN.out.setCell (p:=(aA (w.1.size+1+1) 0)) Ob _⟩
      case measure=>simp[intOf];omega
     .go_simp
      refine hN.mono ?_
      rintro ev u1 ⟨rfl,i6⟩
      have lQ:Hid (D8 (w.1.size+1+1) (tx) r v u1):=fM.out.below (eZ i6)
      have xD:Hid (bW w u1):=eG.out.trans ((eZ i6).mono eG.out.size)
      have c1:=lQ.out.c0
      refine kp hK (λaF=>?_) trivial
      clear hK K
      refine rd2 1 4 (λK hK=>?_) (λK hK=>?_)
      .go_simp
       refine kp hK (λaF=>?_) trivial
       clear hK K
       refine fJ 4 λK hK=>?_
       go_simp
       refine kp hK (λaF=>?_) trivial
       clear hK K
       refine fJ 5 λK hK=>?_
       refine step_append_lies _ ou _ _ _ ou (w.1.size+1+1+1) 3 i0 (iI 0) 1 8 underlying87 hi qV qO qP rfl og v r.length _ ou (lQ.out.own.alloc _) (aA u1.1.size 0) 1 1 [iI val] ou rfl (cell_one_new _ _ _) (mY [val]) og ot od Ot (u1.1.size+1) oe ?_
       intro gq cq w3 dI bT _ _
       obtain⟨c3,z3,hn3⟩:=(lQ.out.below ((jD _ u1).alloc (kG _) (.cells #[iI val] 3))).grown bT val _ dI
       have HN3:Hid _:=hn3
       have sN:Hid (bW w w3):=(xD.out.alloc xD.out.size (.cells #[iI val] 3)).grown bT On (λk hk=>kX (kC od (H7 lQ.out.own hk)))
       clear hn3
       refine kp hK (λaF=>?_) trivial
       clear hK K
       refine tk 6 aF ?_
       refine fJ 7 λK hK=>?_
       go_simp
       refine kp hK (λaF=>?_) trivial
       clear hK K
       refine dn ?_
       clear hN
       go_wp2
       go_roundw
       case rel=>exact⟨r.length+1,r++[val],_,od,Od,HNU,HN3,sN.out.setCell (p:=(aA (w.1.size+1+1) 0)) Ob _⟩
       case measure=>simp[intOf];omega
      .go_simp
       refine kp hK (λaF=>?_) trivial
       clear hK K
       have c2:(u1.alloc (.cells #[iI val] 3)).cell? (aA (w.1.size+1+1) 0)=some v:=(((jD _ u1).alloc (kG _) (.cells #[iI val] 3)).cell (p:=(aA (w.1.size+1+1) 0)) lQ.out.lt).trans c1
       refine fJ 1 λK hK=>?_
       go_simp
       refine kp hK (λaF=>?_) trivial
       clear hK K
       refine fJ 5 λK hK=>?_
       refine step_append_lies _ ou _ _ _ ou (w.1.size+1+1+1) 3 i0 (iI 0) 1 8 underlying87 hi qV qO qP rfl og v r.length _ ou (lQ.out.own.alloc _) (aA u1.1.size 0) 1 1 [iI val] ou rfl (cell_one_new _ _ _) (mY [val]) og ot od Ot (u1.1.size+1) oe ?_
       intro gq cq w3 dI bT _ _
       obtain⟨c3,z3,hn3⟩:=(lQ.out.below ((jD _ u1).alloc (kG _) (.cells #[iI val] 3))).grown bT val _ dI
       have HN3:Hid _:=hn3
       have sN:Hid (bW w w3):=(xD.out.alloc xD.out.size (.cells #[iI val] 3)).grown bT On (λk hk=>kX (kC od (H7 lQ.out.own hk)))
       clear hn3
       refine kp hK (λaF=>?_) trivial
       clear hK K
       refine tk 6 aF ?_
       refine fJ 7 λK hK=>?_
       go_simp
       refine kp hK (λaF=>?_) trivial
       clear hK K
       refine dn ?_
       clear hN
       go_wp2
       go_roundw
       case rel=>exact⟨r.length+1,r++[val],_,od,Od,HNU,HN3,sN.out.setCell (p:=(aA (w.1.size+1+1) 0)) Ob _⟩
       case measure=>simp[intOf];omega
    skip
  .first
   |let _:=m11;have hke:ws.length=k:=by omega
    have kk:decide ((k:Int)<(ws.length:Int))=false:=kD od
   |have hke:m=k:=by omega
    have kk:decide ((k:Int)<(m:Int))=false:=kD od
   subst hke;obtain⟨av,cv,rfl⟩:=nZ fM.out.own;have c0:=fM.out.c0;have c1:=fM.out.c1;obtain⟨q0,a0⟩:=fM.out.a0;obtain⟨q1,a1⟩:=fM.out.a1;have a0':wr.cell? (aA (w.1.size+1) 0)=some q0:=a0;have a1':wr.cell? (aA (w.1.size+1) 1)=some q1:=a1;have y0:wr.frozen? (aA (w.1.size+1) 0)=false:=fM.out.y0;have y1:wr.frozen? (aA (w.1.size+1) 1)=false:=fM.out.y1;have eH:w.1.size+1≠w.1.size+1+1:=od;clear a0 a1;have hbs:Hid (∀x y,bW w ((wr.setCell (aA (w.1.size+1) 0) x).setCell (aA (w.1.size+1) 1) y)):=λx y=>(eG.out.setCell (p:=(aA (w.1.size+1) 0)) oy x).setCell (p:=(aA (w.1.size+1) 1)) oy y;go_wp2_with fail
   first|let _:=m11;refine bodyPost_ret (v:=.agg #[sV av r.length cv,sT (AU)]) E8 rfl ⟨?_,hbs.out _ _⟩;have pA:gL (ws)=some r:=O5;rw[pA];have cP:=fL (b:=w.1.size+1) (i:=1) (x:=sT (AU)) (fL (b:=w.1.size+1) (i:=0) (x:=sV av r.length cv) fM.out.own od) od|refine bodyPost_ret (v:=.agg #[sV av r.length cv,sT (tx)]) E8 rfl ⟨?_,hbs.out _ _⟩;have pA:gL ((ws.take m))=some r:=O5;rw[pA];have cP:=fL (b:=w.1.size+1) (i:=1) (x:=sT (tx)) (fL (b:=w.1.size+1) (i:=0) (x:=sV av r.length cv) fM.out.own od) od
   exact zFg):p:=h
theorem zGp(h:p:=by clear h hD hB hs hcu jM hTN hc hr;go_enter func51,ntmps51;go_wp2_with fail;refine wp_region_held_drew (S:=λv=>v.cell? (aA w.1.size 0)=some (sV (some (aA b off)) 1 cap)/\v.cell? (aA b off)=some (iI x)/\v.cell? (aA S 10)=some (pP A.C)) oh ⟨x0,n0,c0⟩ (λaF=>?_);have bGm:=0;exact zKt):p:=h
theorem zGz(h:p:=by
 have oF:b<wr.1.size:=lt_of_cell (wR.out k hkL);have HLA:Hid (((xs++eY L k)++dn).length<=11000):=by exact zCz
 have hbs:base<=wr.1.size:=by have:=eG.size;omega
 first|let _:=jA1;have aT6:=gK ho.out ((jD wr.1.size wr).alloc (kG _) (.cells #[.int .u8 (q:Int)] 5))|have aT6:=gK ho.out ((jD wr.1.size wr).alloc (kG _) (.cells #[.int .u8 ((q:Int)%128+128)] 5))
 have HO:Hid (World.ownsRow _ _ _ _ _ _ _):=aT6;clear aT6
 first|let _:=jA1;go_wp2_with(at_builtin;refine wpList_append_own_at _ rfl _ _ 52 rfl base 5 i1 (.int .u8 0) 1 1 underlying52 hj hy0 hy1 hy2 rfl og u0 _ _ rfl HO.out (aA wr.1.size 0) 1 1 [.int .u8 (q:Int)] rfl rfl (cell_one_new _ _ _) (λu hu=>by simp at hu;subst hu;rfl) (by have:=HLA.out;unfold maxLen;omega) (by have:=HLA.out;omega) ol ?_;intro v' w2 dI bT aGq hblk)|go_wp2_with(at_builtin;refine wpList_append_own_at _ rfl _ _ 52 rfl base 5 i1 (.int .u8 0) 1 1 underlying52 hj hy0 hy1 hy2 rfl og u0 _ _ rfl HO.out (aA wr.1.size 0) 1 1 [.int .u8 ((q:Int)%128+128)] rfl rfl (cell_one_new _ _ _) (λu hu=>by simp at hu;subst hu;rfl) (by have:=HLA.out;unfold maxLen;omega) (by have:=HLA.out;omega) ol ?_;intro v' w2 dI bT aGq hblk)
 have hb4:Below base w w2:=(eG.alloc hbs _).grown bT ol (λz hz=>(HO.out.lt z hz).1);have bF0:Hid (∀j (h:j<L.length),w2.cell? (aA b j)=some (iI L[j])):=λj h=>aK0 bT (by rw[World.cell?_alloc_lt _ _ _ oF];exact wR.out j h) hbk.out;have bEy:Hid (v'.ownBlock≠some b):=by exact zEl
 first
 |let _:=jA1;have ho4:Hid (w2.ownsRow base 5 1 v' (xs++eY L (k+1)).length ((xs++eY L (k+1)).map (Value.int .u8))):=by
   show World.ownsRow _ _ _ _ _ _ _;have e4:xs++eY L (k+1)=((xs++eY L k)++dn)++[(q:Int)]:=by rw[zU L k hkL,HM.out,<-hdn.out,HNB.out];simp
   rw[e4,List.length_append,List.map_append];exact dI
 |have ho4:Hid (w2.ownsRow base 5 1 v' ((xs++eY L k)++(dn++[((q%128:Nat)+128:Int)])).length (((xs++eY L k)++(dn++[((q%128:Nat)+128:Int)])).map (Value.int .u8))):=by show World.ownsRow _ _ _ _ _ _ _;have e3:(((q%128:Nat):Int)+128)=(q:Int)%128+128:=od;rw[<-List.append_assoc,List.length_append,List.map_append,e3];exact dI
  have bJf:Hid ((dn++[((q%128:Nat)+128:Int)])++uS j' (q/128)=uS 5 m):=by show _=_;rw[<-hdn.out,HNB.out];simp
 clear dI bT aGq hblk HO ho hbk wR eG hdn;go_wp2;go_roundw
 first|(let _:=jA1;case rel=>exact⟨k+1,od,Od,ho4,bEy,bF0,hb4⟩)|case rel=>exact⟨j',q/128,_,od,hQ,od,oe,bJf,ho4,bEy,bF0,hb4⟩
 case measure=>simp[intOf];omega):p:=h
theorem zG3(h:p:=by
 generalize hV:w.alloc (.cells #[sV a n.length cap,sT tx] 105)=V;have hB:bW w V:=hV▸(jD _ w).alloc (kG _) _;have x0:V.cell? (aA w.1.size 0)=some (sV a n.length cap):=om;have hs:=h.below hB
 first|let _:=m36;have c0:=aN hs.blk (i:=14) rfl;have z0:=bE hs.blk (i:=14)|have c0:=aN hs.blk (i:=13) rfl;have z0:=bE hs.blk (i:=13)
 have HS:Hid (fV V base S M O st A N):=hs;have HB:Hid (bW w V):=hB;have HR:Hid (tJ w M a n):=hr;have HNE:Hid (∀b off,a=some (aA b off)->0<n.length->b≠S):=λb off e h0=>hr.ne h e h0;have HN:Hid (n.length<=20000):=hn;clear hs h hr hn hB
 first|let _:=m36;go_enter func47,ntmps47;go_wp2_with fail;refine bodyPost_ret (v:=sT Kd.qX.name) (by simp[results,results47,go_sem];rfl) rfl ?_|go_enter func46,ntmps46;go_wp2_with fail;refine bodyPost_ret (v:=sT Kd.mX.name) (by simp[results,results46,go_sem];rfl) rfl ?_
 have hd:=HS.out;have hS:S∈M++O:=kL (.inl hd.r.s)
 first
 |let _:=m36;refine⟨{ st with next:={ st.next with lE:=n } },.ok Kd.qX.name,M,O,{ A with ma:=a,mc:=cap },⟨rfl,rfl⟩,rfl,(aR.of_below HB.out).trans (cD hS _),?_,bU hd.blk _⟩;have hr:=hd.rest (w':=V.setCell (aA S 14) (sV a n.length cap)) oe (λc hc=>by simp only[cH hc]);have nJ:bI (V.setCell (aA S 14) (sV a n.length cap)) a n:=λh0=>by exact zCc
  exact { hr.later (kU N)with rM:=nJ,bM:=λb off e h0=>⟨(HR.out.2 b off e h0).1,Ex⟩,nM:=HN.out }
 |refine⟨{ st with next:={ st.next with bP:=n } },.ok Kd.mX.name,M,O,{ A with da:=a,dc:=cap },⟨rfl,rfl⟩,rfl,(aR.of_below HB.out).trans (cD hS _),?_,bU hd.blk _⟩;have hr:=hd.rest (w':=V.setCell (aA S 13) (sV a n.length cap)) oe (λc hc=>by simp only[cH hc]);have nJ:bI (V.setCell (aA S 13) (sV a n.length cap)) a n:=λh0=>by exact zCc
  exact { hr.later (kU N)with rD:=nJ,bD:=λb off e h0=>⟨(HR.out.2 b off e h0).1,Ex⟩,nD:=HN.out }):p:=h
theorem zG6(h:p:=by
 go_simp;(go_at_call 189;refine bBb.mono ?_;rintro e w2 ⟨rfl,q,xG⟩;have HF2:Hid (w2.ownsRow Bi 3 1 v j ((List.range j).map λj=>.int .i64 (cs.getD j 0-cs.getD i 0))/\Below Bi wr w2/\Bi<=w2.1.size):=jg;have yR2:w2.cell? ⟨w.1.size,i,none⟩=some v:=(by rw[xG];exact yR);have zR2:w2.frozen? ⟨w.1.size,i,none⟩=false:=(by rw[xG];exact zR);have R7:w.1.size<w2.1.size:=(by rw[xG];exact hlR);clear xG)
 first
 |let _:=m39;refine kp hK (λaF=>?_) trivial;clear hK K;refine rd2 5 10 (λK hK=>?_) λK hK=>?_
  .go_simp;exact zFu
  .go_simp;refine kp hK (λaF=>?_) trivial;clear hK K;refine fJ 5 λK hK=>?_;exact zAd
 |exact zFu):p:=h
theorem zHc(h:p:=by
 have hi:=oJ C p.AA j w h.base.c0;rw[kF od]at hi;have hl:=vF C m.la p.nl m.aBn k w h.base.c14;rw[kF od]at hl
 first|let _:=m45;obtain⟨OQ,lost,hQ,hQ1,hQ2,aGl⟩:=h.que hk hj hb;have hp:=aL7 hQ od;have HBK:Hid (∀(w':WA) (OQ':List Nat),Que w' OQ' (m.Q k j) 16 (s.aT k j).tail lost->aR OQ OQ' w w'->∃O',aR O O' w w'/\Cl w' O' C p fa cs (s.recv k j) rd B m):=λw' OQ' q1 q2=>aGl w' OQ' B (s.aT k j).tail lost q1 q2 hQ1 (by rw[List.length_tail];omega) (kG _)|skip
 obtain⟨la1,la2⟩:=h.base.la od;obtain⟨l0,l1,l2⟩:=h.base.lk k hk;obtain⟨e1,e2⟩:=h.base.en k hk
 first|let _:=m45;obtain⟨d1,d2,d3⟩:=h.base.dn k j hk hj hb;have e3:=e2 j hj;rw[hb,kK rfl]at e3|have e3:=e2 j hj;rw[hb,kJ og]at e3
 have c14:=h.base.c14;rw[la1]at c14;have hll:=h.base.lx _ la2;have hel:=h.base.lx _ e1
 first|let _:=m45;have hdl:=h.base.lx _ d1|skip
 have qN:=h.base.lc;have kk:(k:Int)<(p.nl:Int):=od;have jj:(j:Int)<(p.n:Int):=od
 first|let _:=m45;generalize recvD (s.aT k j)=RD at *;generalize dG (yA (s.aT k j))=RK at *;obtain⟨n,hn⟩:∃n,p.n=n:=⟨_,rfl⟩;rw[hn]at l2 jj;clear aGl hQ hQ1 hQ2 h la1 la2 e2 d1;go_enter func82,ntmps82;exact zK0|generalize p.n=n at *;clear h la1 la2 e2 hb;exact zBp):p:=h
theorem zHe(h:p:=by
 go_simp;refine kp hK λaF=>?_;clear hK K;refine fJ 2 λK hK=>?_;go_simp;(go_at_call 173;refine(cL _ _ _).mono ?_;rintro e u0 ⟨fv,rfl,hB,hu⟩;have C2:=aS (a:=(aA V.1.size 0)) (v:=iI lf) oe hu;have hW:=zH hW hu;obtain⟨c0,c1,c2,c3⟩:=hc.below hW);refine kp hK λaF=>?_;clear hK K;refine fJ 6 λK hK=>?_;go_simp
 first|let _:=m47;(go_at_call 172;refine(fD true fv _ _ (lf) V.1.size _ _ hB C2 G5).mono ?_;rintro e x0 ⟨rfl,dS⟩;have hW:=gM hW dS;obtain⟨c0,c1,c2,c3⟩:=hc.below hW);exact zDp|(go_at_call 172;refine(fD false fv _ _ (lf) V.1.size _ _ hB C2 hd).mono ?_;rintro e x0 ⟨rfl,dS⟩;have hW:=gM hW dS;obtain⟨c0,c1,c2,c3⟩:=hc.below hW);refine kp hK λaF=>?_;clear hK K;refine tk 7 aF ?_;exact zAe):p:=h
theorem zHi(h:p:=by
 refine callsD_of_wpS func61 rfl λc₀ cs hu=>?_;simp only[ntmps61,List.size_toArray,List.length_cons,List.length_nil,Nat.reduceAdd,Nat.reduceSub,Array.replicate_succ,Array.replicate_zero,List.push_toArray,List.append_toArray,List.nil_append,List.cons_append];apply wpS_seq;apply wpS_region
 first|let _:=m51;simp[wpOpsS,go_sem,recoverD,hu,Tryz.aYe,Exit.thenS]|simp[wpOpsS,go_sem,recoverD,hu,Tryz.aXk,Exit.thenS]
 refine wpS_of_wp ?_;go_wp2_with fail
 first|(let _:=m51;exact⟨rfl,.returning,by cases c₀;simp at hu;subst hu;rfl,tU #[],by simp[results,results61,go_sem],rfl,rfl,rfl⟩)|refine hW.mono ?_;rintro e w1 ⟨rfl,cV⟩;have hb':w1.1[b]?=some (.cells #[sT old] 9 (0,0)):=(cV.block b hlt).trans hb;have c1:w1.cell? (aA b 0)=some (sT old):=aN hb' rfl;have z1:=bE hb' (i:=0);have oZ:Hid (bW w w1):=cV;clear cV;go_wp2_with fail;exact⟨rfl,_,rfl,tU #[],by simp[results,results61,go_sem],rfl,rfl,w1,oZ.out,rfl⟩):p:=h
theorem zHj(h:p:=by
 intro gq cq w3 dI vJ oX bFa;have bT:=aW1 vJ;clear vJ;obtain⟨r0,r1,r2,rc,rz⟩:=aNt.out w3 bT;refine kp hK (λaF=>?_) ⟨r0,r1,r2⟩;clear hK K
 first|let _:=m52;refine tk 7 aF ?_;refine fJ 8 λK hK=>?_|refine tk 18 aF ?_;refine tk 19 aF ?_;refine tk 20 aF ?_;refine fJ 21 λK hK=>?_
 go_simp;refine kp hK (λaF=>?_) ⟨(aB (.inl HNE.out)).trans r0,(aB (.inl HNE.out)).trans r1,(aB (.inl HNE.out)).trans r2⟩
 first|let _:=m52;exact zFd|clear hK K;refine dn ?_;exact zF2):p:=h
theorem zHl(h:p:=by
 obtain⟨r0,r1,r2⟩:=fN k hlt;replace r0:=aS r0 eG;replace r1:=aS r1 eG;replace r2:=aS r2 eG;have hbr:b<wr.1.size:=lt_of_cell r0;clear fN;go_wp2_with fail
 first|let _:=m54;refine(oE w1.1.size _ _ [wp k,wf k,wt k] _ _ (wr.alloc (.cells #[iI (wp k),iI (wf k),iI (wt k)] 163)) (wr.1.size+1) oe rfl (gK ho.out ((jD _ _).alloc (kG _) _)) ol (MW.out k hlt) (kH (gE _) jn) oe).mono ?_|refine(oE w1.1.size _ _ [nd k,fr k,tq k] _ _ (wr.alloc (.cells #[iI (nd k),iI (fr k),iI (tq k)] 120)) (wr.1.size+1) oe rfl (gK ho.out ((jD _ _).alloc (kG _) _)) ol (MS.out k hlt) (kH (gE _) (by simp[oW];omega)) oe).mono ?_
 rintro ev w3 ⟨v3,rfl,ho3,qT,hz3⟩;have hb4:bW w1 w3:=(eG.alloc eG.size _).trans qT
 first|(let _:=m54;have ho4:Hid (w3.ownsRow w1.1.size 5 1 v3 (bytesOf ([AA,aG,aM,aC,aJ,round,(ns:Int)]++bH nd fr tq ns++[(nl:Int)]++fE lf lt lb lq nl++[frame,(nw:Int)]++bH wp wf wt (k+1))).length ((bytesOf ([AA,aG,aM,aC,aJ,round,(ns:Int)]++bH nd fr tq ns++[(nl:Int)]++fE lf lt lb lq nl++[frame,(nw:Int)]++bH wp wf wt (k+1))).map (Value.int .u8))):=by exact zDr)|have ho4:Hid (w3.ownsRow w1.1.size 5 1 v3 (bytesOf ([AA,aG,aM,aC,aJ,round,(ns:Int)]++bH nd fr tq (k+1))).length ((bytesOf ([AA,aG,aM,aC,aJ,round,(ns:Int)]++bH nd fr tq (k+1))).map (Value.int .u8))):=by exact zDr
 clear ho ho3 r0 r1 r2;exact zCd):p:=h
theorem zHw(h:p:=by
 go_enter func52,ntmps52;go_wp2_with fail
 first|let _:=m65;refine wp_region_held_drew (S:=λv=>v.cell? (aA w.1.size 0)=some (sV (some (aA b off)) (l.length+1) cap)/\v.cell? (aA b off)=some (iI x)) oh ⟨x0,n0⟩ (λaF=>?_)|refine wp_region_held_drew (S:=λv=>v.cell? (aA w.1.size 0)=some (sV (some (aA b off)) 1 1)/\v.cell? (aA b off)=some (iI x)) oh ⟨x0,n0⟩ (λaF=>?_)
 refine tk 0 aF ?_;exact zMn):p:=h
theorem zH9(h:p:=by
 generalize l.getD k 0=P at *;go_wp2_with fail;refine uU.mono ?_;rintro e w1 ⟨rfl,iM⟩;have oZ:Hid (bW w w1):=eG.out.trans (iM.mono eG.out.size);clear uU iM y0;go_wp2
 first
 |let _:=m78;go_roundw;case rel=>exact⟨k+1,od,Od,HN,oZ⟩
  case measure=>simp[intOf];omega
 |go_ret;exact⟨_,rfl,bIj.out,oZ.out⟩):p:=h
theorem zIe(h:p:=by
 have f0:wr.cell? (aA w.1.size 0)=some (iI AE):=(HJ.out.box Ej HX.out.1.1 0).trans (HX.out.2.1 0 _ rfl)
 first|let _:=m83|have f2:wr.cell? (aA w.1.size 2)=some (iI mem):=(HJ.out.box Ej HX.out.1.1 2).trans (HX.out.2.1 2 _ rfl)
 have bMp:w.1.size<wr.1.size:=by have:=HJ.out.size;have:=HX.out.2.2.2;omega
 first
 |let _:=m83;have HWE:Hid (∃WH,(if cO aI l0 l1 j 2=true then fZ p.n (s.AA j).t (tb mem) AE mem else 0)=WH):=⟨_,rfl⟩;have hhr:=bAq HJ.out j (by rw[C1.out];exact HLT.out) HN.out.1 AE (if cO aI l0 l1 j 2=true then fZ p.n (s.AA j).t (tb mem) AE mem else 0) Et;have HST:Hid (s.bY p AE mem mk aI l0 l1 (j+1)=(if cO aI l0 l1 j 2=true then(s.bY p AE mem mk aI l0 l1 j).gN p mk j else s.bY p AE mem mk aI l0 l1 j).setNode j ((s.AA j).hears j p.n AE (if cO aI l0 l1 j 2=true then fZ p.n (s.AA j).t (tb mem) AE mem else 0))):=kJ HW.out;rw[HJN.out]at hhr;generalize(if cO aI l0 l1 j 2=true then fZ p.n (s.AA j).t (tb mem) AE mem else 0)=WH at *;clear HWE HJN HJ;go_wp2_with fail;refine hhr.mono ?_
 |have aXf:=aWt HJ.out j (by rw[C1.out];exact HLT.out) HN.out.1 AE mem;rw[HJN.out]at aXf;have HTW:Hid ((if cO aI l0 l1 j c=true then(s.bY p AE mem mk aI l0 l1 j).gN p mk j else s.bY p AE mem mk aI l0 l1 j).gN p mk j=(s.bY p AE mem mk aI l0 l1 j).gN p mk j):=by
   show _=_;split
   .exact aIo _ _ _ _
   .rfl
  clear hs HSU;generalize(if cO aI l0 l1 j c=true then(s.bY p AE mem mk aI l0 l1 j).gN p mk j else s.bY p AE mem mk aI l0 l1 j)=SC at *;generalize(if cO aI l0 l1 j c=true then fZ p.n (s.AA j).t (tb mem) AE mem else 0)=WH at *;obtain⟨JV,hJV⟩:∃JV,fZ p.n (s.AA j).t (tb mem) AE mem=JV:=⟨_,rfl⟩;have HJV:Hid (fZ p.n (s.AA j).t (tb mem) AE mem=JV):=hJV;rw[hJV]at aXf;clear hJV HJN;have C6:Hid (aI=true):=aMt;subst aMt;go_wp2_with fail;refine(vK _).mono ?_;rintro e v1 ⟨rfl,hv⟩;replace hv:=hv.symm;subst hv;go_wp2_with fail;refine aXf.mono ?_
 rintro e v1 ⟨rfl,hI1⟩
 first
 |let _:=m83;have HI2:Hid (dC O V v1 C p fa cs (s.bY p AE mem mk aI l0 l1 (j+1)) rd (B+5*(j+1)) m):=by show dC _ _ _ _ _ _ _ _ _ _ _;rw[HST.out];exact hI1
  clear hI1 hhr HST;exact zD8
 |have HI1:Hid (dC O V v1 C p fa cs SC rd (B+5*j+2*c) m):=hI1;have y:∀(i':Nat) (v:WB),(#[iI AE,iI i,iI mem,iI lk,iI q,sT d]:Array WB)[i']?=some v->v1.cell? (aA w.1.size i')=some v:=λi' v hv=>(hI1.box Ej HX.out.1.1 i').trans (HX.out.2.1 i' v hv);have g0:v1.cell? (aA w.1.size 0)=some (iI AE):=y 0 _ rfl;have g1:v1.cell? (aA w.1.size 1)=some (iI i):=y 1 _ rfl;have g2:v1.cell? (aA w.1.size 2)=some (iI mem):=y 2 _ rfl;have g3:v1.cell? (aA w.1.size 3)=some (iI lk):=y 3 _ rfl;have g4:v1.cell? (aA w.1.size 4)=some (iI q):=y 4 _ rfl;have g5:v1.cell? (aA w.1.size 5)=some (sT d):=y 5 _ rfl;have bMq:w.1.size<v1.1.size:=by have:=hI1.size;have:=HX.out.2.2.2;omega
  clear y aXf HJ hI1;go_wp2_with fail;refine(HT.out V v1 SC _ j HI1.out (by rw[C1.out];exact HLT.out) Et).mono ?_;rintro e v2 ⟨rfl,hI2⟩;have HI2:Hid (dC O V v2 C p fa cs (if cO true l0 l1 j (c+1)=true then(s.bY p AE mem mk true l0 l1 j).gN p mk j else s.bY p AE mem mk true l0 l1 j) rd (B+5*j+2*(c+1)) m):=by show dC _ _ _ _ _ _ _ _ _ _ _;rw[HE.out,kK rfl,<-HTW.out];exact hI2
  have HWH:Hid (JV=(if cO true l0 l1 j (c+1)=true then fZ p.n (s.AA j).t (tb mem) AE mem else 0)):=by show _=_;rw[HE.out,kK rfl];exact HJV.out.symm
  clear hI2 HI1 HTW HE g0 g1 g2 g3 g4 g5;go_wp2;go_roundw;case rel=>exact⟨c+1,od,Od,by rw[HWH.out],HI2⟩
  case measure=>simp[intOf];omega):p:=h
theorem zIg(h:p:=by
 generalize row.length=n at *
 first|let _:=m85;clear h2 h1 hr hn HM|clear e1 e2 h2 h1 hr hn
 go_enter func188,ntmps188;go_wp2_with fail;refine eG.mono ?_;rintro e w1 ⟨rfl,rfl⟩;go_wp2_with fail;refine hp.mono ?_;rintro e w2 ⟨rfl,q,rfl⟩
 first|let _:=m85;go_wp2;go_ret2;exact⟨rfl,hV q⟩|go_wp2_with fail;refine(HM.out _ (hV q)).mono ?_;rintro e w3 ⟨rfl,sN⟩;go_wp2;go_ret2;exact⟨rfl,Y3 (hV q) sN⟩):p:=h
theorem zIj(h:p:=by
 have hi:=vF C m.la p.nl m.aBn k w h.base.c14
 first
 |let _:=m88;rw[kF od]at hi;obtain⟨OS,hS,⟨hS1,hS2,hS3⟩,aGl⟩:=h.sdr hk;have hp:=bD8 hS d od;have HBK:Hid (∀(w':WA) (OS':List Nat),Sdr w' OS' (m.S k) (p.lb k) (p.lq k) (mN (putK ((s.aK k).all.length-(s.aK k).aQ) (p.lq k) d) (s.aK k).all d) (s.aK k).aQ (s.aK k).last (s.aK k).now->aR OS OS' w w'->∃O',aR O O' w w'/\Cl w' O' C p fa cs (s.put p k d) rd (B+1) m):=λw' OS' q1 q2=>by
   refine aGl w' OS' (B+1) ⟨_,_,_,_⟩ q1 q2 ⟨?_,hS2,?_⟩ od
   .show(mN _ (s.aK k).all d).length<=B+1;unfold mN;split
    .simp only[List.length_append,List.length_cons,List.length_nil];omega
    .omega
   .show ∀d'∈mN _ (s.aK k).all d,d'.size<=40;intro d' hd';unfold mN at hd';by_cases hK:putK ((s.aK k).all.length-(s.aK k).aQ) (p.lq k) d=0
    .rw[kK hK]at hd';have h1:¬40<d.size:=λq=>by unfold putK at hK;rw[kK q]at hK;cases hK
     rcases kN hd' with q|q
     .exact hS3 d' q
     .simp only[List.mem_cons,List.not_mem_nil,or_false]at q;subst q;omega
    .rw[kJ hK]at hd';exact hS3 d' hd'
  have HK:Hid (s.putK p k d=putK ((s.aK k).all.length-(s.aK k).aQ) (p.lq k) d):=rfl;rw[HK.out];generalize putK ((s.aK k).all.length-(s.aK k).aQ) (p.lq k) d=K at *;obtain⟨la1,la2⟩:=h.base.la od;obtain⟨l0,l1,l2⟩:=h.base.lk k hk;have c14:=h.base.c14;rw[la1]at c14;have hll:=h.base.lx _ la2;have qN:=h.base.lc;have kk:(k:Int)<(p.nl:Int):=od;generalize dG K=EV at *;clear aGl hS hS1 hS2 hS3 h la1 la2 HK
 |rw[kD hk]at hi;clear h hk
 go_enter func80,ntmps80;go_wp2_with fail;refine hi.mono ?_;rintro e w1 ⟨rfl,hw⟩;replace hw:=hw.symm;subst hw;clear hi
 first|let _:=m88;go_wp2_with fail;refine hp.mono ?_;rintro e w1 ⟨rfl,OS',q1,q2⟩;have HD:=HBK.out w1 OS' q1 q2;clear HBK q1 q2 hp c14 l0 l1 l2;go_wp2;go_ret;exact⟨rfl,HD⟩|exact zEf):p:=h
theorem zIl(h:p:=by
 have hi:=oJ C p.AA j w h.base.c0;rw[kD hj]at hi;clear h hj
 first|let _:=m90;go_enter func88,ntmps88|go_enter func82,ntmps82
 go_wp2_with fail;refine hi.mono ?_;rintro e w1 ⟨rfl,hw⟩;replace hw:=hw.symm;subst hw;clear hi
 first|let _:=m90;go_wp2;exact bodyPost_ret (v:=tU #[iI 0,.bool false,dG 2]) (by simp[results,results88,go_sem,dG]) rfl ⟨rfl,jD _ _⟩|exact zFi):p:=h
theorem zIm(h:p:=by
 go_enter func193,ntmps193;go_wp2_with fail;refine hIw.mono ?_;rintro e w1 ⟨rfl,q⟩;replace q:=q.symm;subst q;clear hIw hV;go_wp2_with fail;go_region
 first|let _:=m91;go_wp2_with fail;go_region;go_wp2;go_ret;exact⟨rfl,_,HF.out.keep ⟨kG _,λ_ _=>rfl⟩,HT.out.trans (aR.drawn _ _ 2)⟩|go_wp2;go_ret;exact⟨rfl,_,HF.out.keep ⟨kG _,λ_ _=>rfl⟩,HT.out.trans (aR.drawn _ _ 1)⟩):p:=h
theorem zI9(h:p:=by
 replace r0:=aS r0 eG;replace r1:=aS r1 eG;replace r2:=aS r2 eG;replace r3:=aS r3 eG
 first|let _:=bG8;clear wR hs;have hwr:w.1.size<wr.1.size:=lt_of_cell y0|skip
 have hbr:b<wr.1.size:=lt_of_cell r0
 first
 |let _:=bG8;go_wp2_with fail;refine(HL.out k _).mono ?_;rintro ev w2 ⟨rfl,iT⟩;have hbt:bW V w2:=jP eG iT;clear y0 r0 r1 r2 r3;obtain⟨le,hle⟩:∃le,cN lf lt lb lq hit AA pw k=le:=⟨_,rfl⟩;rw[hle];have HLE:Hid (cN lf lt lb lq hit AA pw k=le):=hle;clear hle;go_wp2_with fail;by_cases hz:le=0
  .subst hz;refine(aWo _ _).mono ?_;rintro ev w3 ⟨rfl,sN⟩;have hbu:=gM hbt sN;go_wp2;go_roundw;case rel=>exact⟨k+1,od,Od,H4 h0.out HLE.out,hbu⟩
   case measure=>simp[intOf];omega
  .have HZ:Hid (le≠0):=hz;clear hz;refine(zQ le (1000+k) HZ.out _).mono ?_;rintro ev w3 ⟨b3,rfl,q0,q1,sN⟩;go_wp2;go_ret;obtain⟨rfl,rfl⟩:=HF.out.is hlt h0.out HLE.out HZ.out;exact⟨_,rfl,.inr ⟨b3,rfl,HZ.out,q0,q1⟩,hV.trans ((gM hbt sN).mono hV.size)⟩
 |clear fN;go_wp2_with fail;refine(oE w1.1.size _ _ [lf k,lt k,lb k,lq k] _ _ (wr.alloc (.cells #[iI (lf k),iI (lt k),iI (lb k),iI (lq k)] 124)) (wr.1.size+1) oe rfl (gK ho.out ((jD _ _).alloc (kG _) _)) ol (ML.out k hlt) (kH (gE _) jn) oe).mono ?_;rintro ev w3 ⟨v3,rfl,ho3,qT,hz3⟩;have hb4:bW w1 w3:=(eG.alloc eG.size _).trans qT;have ho4:Hid (w3.ownsRow w1.1.size 5 1 v3 (bytesOf ([AA,aG,aM,aC,aJ,round,(ns:Int)]++bH nd fr tq ns++[(nl:Int)]++fE lf lt lb lq (k+1))).length ((bytesOf ([AA,aG,aM,aC,aJ,round,(ns:Int)]++bH nd fr tq ns++[(nl:Int)]++fE lf lt lb lq (k+1))).map (Value.int .u8))):=by show World.ownsRow _ _ _ _ _ _ _;rw[M1,<-List.append_assoc,jK];exact ho3
  clear ho ho3 r0 r1 r2 r3;exact zCd):p:=h
theorem zJu(h:p:=by
 go_wp2_with fail;refine vK.mono ?_;rintro e w' ⟨rfl,hw⟩;rw[hw];clear hw
 first
 |let _:=bKh;go_wp2;go_roundw;case rel=>exact⟨J+1,od,Od,HN⟩
 |go_wp2_with fail;refine bFh.mono ?_;rintro e v1 ⟨OQ,PQ,rfl,hQ,rY,hlq⟩;have bFi:=bCw v1;clear bFh vK y1;go_wp2_with fail;refine bFi.mono ?_;rintro e v2 ⟨OR,PR,rfl,hR,uO,hlr⟩;obtain⟨D,R,Q,N,hN,Z9⟩:=HI.out;obtain⟨v3,hv3⟩:∃v3,v2.alloc (.cells #[pP PR,pP PQ] 184)=v3:=⟨_,rfl⟩;have fM:=hN.step G4 Z9.size Z9 rY hQ hlq uO hR hlr hv3 rfl;have hE:=hN.fam.lt _ _ hN.eX;have hk3:bW wr v3:=by rw[<-hv3];exact(rY.trans (uO.mono rY.size)).alloc (by have:=rY.size;have:=uO.size;omega) _
  have g:=bc hk3 hE (hN.en J hlt);have gz:=(hk3.frozen (p:=(aA E J)) hE).trans (hN.zE J);have hE3:E<v3.1.size:=kC hE hk3.size;have HST:Hid (∃D R Q N,cY V.1.size (v3.setCell (aA E J) (pP v2.1.size)) N kk n (J+1) tq bag queue S E D R Q/\bW V (v3.setCell (aA E J) (pP v2.1.size))):=by obtain⟨⟨N',h1⟩,h2⟩:=fM;exact⟨_,_,_,N',h1,h2⟩
  clear fM hk3 hE hN Z9 rY hQ hlq uO hR hlr bFi HI;go_wp2;go_roundw;case rel=>exact⟨J+1,od,Od,HST⟩
 case measure=>simp[intOf];omega):p:=h
theorem zJw(h:p:=by
 obtain⟨h1,h2,h3,h4,h5,h6,h7,h8,h9,h10⟩:=oU h;have HR:Hid (eA f s n d=true):=h;clear h
 first|let _:=bGd;have hn:l<=1099511627776:=hl|have hn:decide (l<=1099511627776)=false:=kD od
 have hn2:-1099511627776<=l:=od
 first|let _:=bGd;obtain⟨p1,p2⟩:=M6 (x:=l-s) (n:=d) (M:=2199023255552) (R:=1000000) od od h7 h8;obtain⟨q1,q2⟩:=aD2 (x:=l-s) (n:=n) (d:=d) (M:=2199023255552) od od h5 h7 h10;have L8:=Tryz.mf;go_enter func93,ntmps93;exact zAs|exact zFj):p:=h
theorem zJx(h:p:=by
 go_wp2_with fail;refine hli.mono ?_;rintro ev w2 ⟨rfl,h⟩;replace h:=h.symm;subst h
 first|let _:=bGe;clear hli;go_wp2_with fail;refine⟨⟨k+1,od,Od,?_,eG⟩,?_⟩|have hOq:wr.ownsRow w.1.size 3 1 u3 RT.length (RT.map (Value.int .i64)):=cP.out;clear hli;go_wp2_with(at_builtin;refine wpList_append_own _ rfl _ _ 87 rfl w.1.size 3 i0 (iI 0) 1 8 underlying87 hi qV qO qP rfl og u3 _ _ rfl (hOq.alloc _) (aA wr.1.size 0) 1 1 [iI CK] rfl rfl (cell_one_new _ _ _) (mY [CK]) ot od ol ?_;intro v' w3 dI bT aGq);have sN:bW w w3:=(eG.out.alloc hs0 _).grown bT ol (λg hg=>(cP.out.lt g hg).1);refine⟨⟨k+1,od,Od,?_,sN⟩,?_⟩
 .first|let _:=bGe;rw[HS.out];exact cP.out|rw[HS.out,List.map_append,List.length_append];exact dI
 .simp[intOf];omega):p:=h
theorem zJ1(h:p:=by
 generalize hV:w.alloc (.cells #[v,sT tx] 105)=V;have hB:bW w V:=hV▸(jD _ w).alloc (kG _) _
 first
 |let _:=bKj;have hs:=h.below hB;obtain⟨ra,eO,eR,eDa,eDc,eMa,eMc,jT⟩:=hs.aYq od;have aEm:=0;exact zJ9
 |have aEf:=vV V;generalize hU:V.alloc (.cells (qH 0 0 0 0 0 0 (sV none 0 0) (sV none 0 0) 1 none (sV none 0 0) (sV none 0 0) (sV none 0 0) (sV none 0 0)) 91)=U at aEf;have hBU:bW V U:=hU▸(jD _ V).alloc (kG _) _;have hbn:U.1[V.1.size]?=some (.cells (qH 0 0 0 0 0 0 (sV none 0 0) (sV none 0 0) 1 none (sV none 0 0) (sV none 0 0) (sV none 0 0) (sV none 0 0)) 91 (0,0)):=by rw[<-hU];exact heap_alloc_new V _
  have hs:=(h.below hB).below hBU;have c0:=aN hs.blk (i:=0) rfl;have z0:=bE hs.blk (i:=0);have c1:=aN hs.blk (i:=1) rfl;have z1:=bE hs.blk (i:=1);have c2:=aN hs.blk (i:=2) rfl;have z2:=bE hs.blk (i:=2);have c3:=aN hs.blk (i:=3) rfl;have z3:=bE hs.blk (i:=3);have c4:=aN hs.blk (i:=4) rfl;have z4:=bE hs.blk (i:=4);have c5:=aN hs.blk (i:=5) rfl;have z5:=bE hs.blk (i:=5);have c6:=aN hs.blk (i:=6) rfl;have z6:=bE hs.blk (i:=6);have c7:=aN hs.blk (i:=7) rfl;have z7:=bE hs.blk (i:=7);have c8:=aN hs.blk (i:=8) rfl;have z8:=bE hs.blk (i:=8);have c9:=aN hs.blk (i:=9) rfl;have z9:=bE hs.blk (i:=9);have c10:=aN hs.blk (i:=10) rfl;have z10:=bE hs.blk (i:=10);have c11:=aN hs.blk (i:=11) rfl;have z11:=bE hs.blk (i:=11);have c12:=aN hs.blk (i:=12) rfl;have z12:=bE hs.blk (i:=12);have c13:=aN hs.blk (i:=13) rfl;have z13:=bE hs.blk (i:=13);have c14:=aN hs.blk (i:=14) rfl;have z14:=bE hs.blk (i:=14);have x0:U.cell? (aA V.1.size 0)=some (iI 0):=aN hbn (i:=0) rfl;have x1:U.cell? (aA V.1.size 1)=some (iI 0):=aN hbn (i:=1) rfl;have x2:U.cell? (aA V.1.size 2)=some (iI 0):=aN hbn (i:=2) rfl;have x3:U.cell? (aA V.1.size 3)=some (iI 0):=aN hbn (i:=3) rfl;have x4:U.cell? (aA V.1.size 4)=some (iI 0):=aN hbn (i:=4) rfl;have x5:U.cell? (aA V.1.size 5)=some (iI 0):=aN hbn (i:=5) rfl;have x6:U.cell? (aA V.1.size 6)=some (sV none 0 0):=aN hbn (i:=6) rfl;have x7:U.cell? (aA V.1.size 7)=some (sV none 0 0):=aN hbn (i:=7) rfl;have x8:U.cell? (aA V.1.size 8)=some (iI 1):=aN hbn (i:=8) rfl;have x9:U.cell? (aA V.1.size 9)=some (sV none 0 0):=aN hbn (i:=9) rfl;have x10:U.cell? (aA V.1.size 10)=some (.pointer none):=aN hbn (i:=10) rfl;have x11:U.cell? (aA V.1.size 11)=some (sV none 0 0):=aN hbn (i:=11) rfl;have x12:U.cell? (aA V.1.size 12)=some (sV none 0 0):=aN hbn (i:=12) rfl;have x13:U.cell? (aA V.1.size 13)=some (sV none 0 0):=aN hbn (i:=13) rfl;have x14:U.cell? (aA V.1.size 14)=some (sV none 0 0):=aN hbn (i:=14) rfl;have eH:V.1.size≠S:=by have:=(h.below hB).r.hi S h.r.s;omega
  have HS:Hid (fV U base S M O st A N):=hs;have HB:Hid (aR (M++O) (M++O) w U):=(aR.of_below hB).trans (aR.of_below hBU);clear hs h hB hBU hbn hU;go_enter func55,ntmps55;go_wp2_with fail;refine aEf.mono ?_;rintro e u1 ⟨rfl,rfl⟩;go_wp2_with fail;go_ret;have hd:=HS.out;have hS:S∈M++O:=kL (.inl hd.r.s);obtain⟨U,hU⟩:∃U,U=(((((((((((((((u1.setCell (aA S 0) (iI 0)).setCell (aA S 1) (iI 0)).setCell (aA S 2) (iI 0)).setCell (aA S 3) (iI 0)).setCell (aA S 4) (iI 0)).setCell (aA S 5) (iI 0)).setCell (aA S 6) (sV none 0 0)).setCell (aA S 7) (sV none 0 0)).setCell (aA S 8) (iI 1)).setCell (aA S 9) (sV none 0 0)).setCell (aA S 10) (.pointer none)).setCell (aA S 11) (sV none 0 0)).setCell (aA S 12) (sV none 0 0)).setCell (aA S 13) (sV none 0 0)).setCell (aA S 14) (sV none 0 0)):=⟨_,rfl⟩;rw[<-hU];have hfo:aR (M++O) (M++O) w U:=by rw[hU];exact(((((((((((((((HB.out.trans (cD hS _)).trans (cD hS _)).trans (cD hS _)).trans (cD hS _)).trans (cD hS _)).trans (cD hS _)).trans (cD hS _)).trans (cD hS _)).trans (cD hS _)).trans (cD hS _)).trans (cD hS _)).trans (cD hS _)).trans (cD hS _)).trans (cD hS _)).trans (cD hS _))
  have hb:U.1[S]?=some (.cells (iY.start.cells aNl) 91 (0,0)):=by rw[hU];have hb:=(bU (i:=14) (bU (i:=13) (bU (i:=12) (bU (i:=11) (bU (i:=10) (bU (i:=9) (bU (i:=8) (bU (i:=7) (bU (i:=6) (bU (i:=5) (bU (i:=4) (bU (i:=3) (bU (i:=2) (bU (i:=1) (bU (i:=0) hd.blk (iI 0)) (iI 0)) (iI 0)) (iI 0)) (iI 0)) (iI 0)) (sV none 0 0)) (sV none 0 0)) (iI 1)) (sV none 0 0)) (.pointer none)) (sV none 0 0)) (sV none 0 0)) (sV none 0 0)) (sV none 0 0));simp only[iY.cells,qH,List.setIfInBounds_toArray,List.set_cons_zero,List.set_cons_succ]at hb;exact hb
  have hsz:U.1.size=u1.1.size:=by rw[hU];simp
  have hot:∀c,c≠S->U.1[c]?=u1.1[c]?:=λc hc=>by rw[hU];simp only[cH hc]
  clear hU;refine⟨iY.start,.ok Kd.clear_.name,M,O,aNl,⟨rfl,rfl⟩,rfl,hfo,?_,hb⟩;have hr:=hd.rest hsz hot;exact { s:=hr.s,lo:=hr.lo,hi:=hr.hi,loO:=hr.loO,hiO:=hr.hiO,ap:=hr.ap,oS:=⟨rfl,.inl ⟨rfl,rfl⟩⟩,oL:=⟨rfl,.inl ⟨rfl,rfl⟩⟩,oO:=⟨rfl,.inl ⟨rfl,rfl⟩⟩,oR:=⟨rfl,.inl ⟨rfl,rfl⟩⟩,bS:=λ_ h=>Oa,bL:=λ_ h=>Oa,bO:=λ_ h=>Oa,bR:=λ_ h=>Oa,rD:=λh=>absurd h (kW _),rM:=λh=>absurd h (kW _),bD:=λ_ _ h=>Oa,bM:=λ_ _ h=>Oa,nw:=rfl,iL:=λ_ h=>absurd h (kV _),iO:=λ_ h=>absurd h (kV _),ns:=kI _,nl:=kI _,nL:=kI _,nR:=kI _,nD:=kI _,nM:=kI _,clu:=λ_ _ _ _ _ h=>Oa }):p:=h
theorem zJ9(h:p:=by
 have c0:V.cell? (aA S 10)=some (pP A.C):=by exact zAu
 first
 |let _:=aEm;have c1:V.cell? (aA S 11)=some (sV ra.la st.next.nL ra.lc):=(aN hs.blk (i:=11) rfl).trans (jA some eO);have c2:V.cell? (aA S 12)=some (sV ra.ra st.next.nR ra.rc):=(aN hs.blk (i:=12) rfl).trans (jA some eR);have c3:V.cell? (aA S 13)=some (sV ra.da st.next.bP.length ra.dc):=by rw[eDa,eDc];exact aN hs.blk (i:=13) rfl
  have c4:V.cell? (aA S 14)=some (sV ra.ma st.next.lE.length ra.mc):=by rw[eMa,eMc];exact aN hs.blk (i:=14) rfl
 |skip
 obtain⟨hcu,hTN⟩:=hs.r.clu fa cs c rd T fN;have hcd:B7 (V.drewN 1) O A.C st.aO fa cs c rd T:=eK.keep hcu (Same.of_below (bdN V 1) (eK.lt hcu));have hbS:base<=V.1.size:=kH (hs.r.lo S hs.r.s) (kX (hs.r.hi S hs.r.s));have T9:base<=w.1.size:=kH (h.r.lo S h.r.s) (kX (h.r.hi S h.r.s))
 first|let _:=aEm|have HB:Hid (bW w V):=hB
 have HDV:Hid (cU base V):=hD.below (hB.mono T9)
 first
 |let _:=aEm
 |first|let _:=m10;have x0:V.cell? (aA w.1.size 0)=some (sV (some (aA b off)) 2 cap):=om|have x0:V.cell? (aA w.1.size 0)=some (sV (some (aA b off)) 1 cap):=om;have x1:V.cell? (aA w.1.size 1)=some (sT tx):=om
  have n0:V.cell? (aA b off)=some (iI x):=bc hB oF ew
  first|let _:=m10;have n1:V.cell? (aA b (off+1))=some (iI y):=bc hB oF (by have:=hc 1 oe;simpa using this)|skip
  have xC:b<V.1.size:=kC oF hB.size;have hwV:w.1.size<V.1.size:=Ov
 have uT:=hs.r.hi S hs.r.s
 first
 |let _:=aEm
 |have hwO:w.1.size∉O:=λq=>by have:=h.r.hiO _ q;omega
  have hbO:b∉O:=λq=>hbo (kL (.inr q))
 have hSO:S∉O:=λq=>h.r.ap S q h.r.s
 first
 |let _:=aEm;have hSM:S∈M:=h.r.s;have hrd:=(eK.ok hcu).2;have HC:Hid (Calls prog 83 #[pP A.C,st.next.val ra] (V.drewN 1) λe u=>∃k O',e=rT (dG k)/\aR O O' V u/\((k=0->∀u',bW u u'->u'.1[S]?=some (.cells (st.cells A) 91 (0,0))/\(∀u2,u2=((((u'.setCell (aA S 11) (sV none 0 0)).setCell (aA S 12) (sV none 0 0)).setCell (aA S 13) (sV none 0 0)).setCell (aA S 14) (sV none 0 0))->gW u2/\(∀u3,bW u2 u3->gW u3)/\(Calls prog 84 #[pP A.C] u2 λe w'=>e=rT (iI (rd+1))/\bW u2 w')/\∀u3,bW u2 u3->bK base S M O st N .pD n tx w (rT (sT (dW (rd+1)))) u3))/\(k≠0->∀u',bW u u'->bK base S M O st N .pD n tx w (dM k) u'))):=by
   refine(eK.bHx st.next ra hcd od (jT.below (bdN V 1)) (λb off e h0=>λq=>hs.r.ap b q (hs.r.bM b off (by rw[<-eMa];exact e) h0).1)).mono λe u ⟨O1,hf,q⟩=>?_;have hf':aR O O1 V u:=⟨hf.os,hf.tape,hf.output,hf.size,hf.block,hf.fresh⟩;rcases q with⟨q1,he,L6⟩|⟨q1,he,L6⟩
   .obtain⟨q2,q3⟩:=(hs.later (kU N)).bAs hf' (by rw[fN];exact λq=>by cases q) L6 od;have est:{ st with clu:=some (fa,cs,c,rd,T) }=st:=by rw[<-fN]
    rw[est]at q2;refine⟨6,O1,he,hf',λq=>Ef,λ_ u' hu=>?_⟩;exact⟨st,.err 6,M,O1,A,⟨fa,cs,c,rd,T,fN,.inl ⟨q1,rfl,rfl⟩⟩,rfl,((aR.of_below hB).trans q3).trans (aR.of_below hu),q2.below hu⟩
   .obtain⟨q2,q3⟩:=(hs.later (kU N)).bAs hf' (by rw[fN];exact λq=>by cases q) L6 od;refine⟨0,O1,he,hf',λ_ u' hu=>?_,λq=>absurd rfl q⟩;have q4:=q2.below hu;have e4:=q4.blk;refine⟨?_,?_⟩
    .rw[e4];unfold iY.cells;rw[fN];rfl
    rintro u2 rfl;have q5:=q4.aX9;have f5:=((aR.of_below (O:=M++O) hB).trans q3).trans ((aR.of_below hu).trans (aE7 (u:=u') (kL (.inl hSM))));have hlo:∀x,x∈M++O->base<=x:=λx hx=>(kN hx).elim (h.r.lo x) (h.r.loO x);have b5:=f5.below hlo T9;have D5:=hD.below b5;have hs5:base<=((((u'.setCell (aA S 11) (sV none 0 0)).setCell (aA S 12) (sV none 0 0)).setCell (aA S 13) (sV none 0 0)).setCell (aA S 14) (sV none 0 0)).1.size:=kH T9 b5.size;refine⟨D5.here,λu3 hu3=>D5 u3 (hu3.mono hs5),?_,λu3 hu3=>?_⟩
    .exact eK.rounds (q5.r.clu _ _ _ _ _ rfl).1
    .exact⟨_,.ok (dW (rd+1)),M,O1,A.aSq,⟨fa,cs,c,rd,T,fN,.inr ⟨q1,rfl,rfl⟩⟩,rfl,f5.trans (aR.of_below hu3),q5.below hu3⟩
 |let _:=m10;have jM:=(eK.ok hcu).1;have pA:st.aO.AA=(st.aO.n:Int):=aDs jM;have HC:Hid (Calls prog 82 #[pP A.C,iI x,iI y] (V.drewN 1) λe u=>∃k d O',e=rT (tU #[sT d,dG k])/\d.size<=40/\aR O O' V u/\((k=0->∀u',bW u u'->bK base S M O st N .gU [x,y] tx w (rT (sT (⟨#[105,115,32]⟩++d))) u')/\(k≠0->∀u',bW u u'->bK base S M O st N .gU [x,y] tx w (dM k) u'))):=by
   by_cases hx:(0<=x/\x<st.aO.AA)/\(0<=y/\y<st.aO.nl)/\aX (st.aO.lt y.toNat) x.toNat=true
   .obtain⟨⟨hx0,hx1⟩,⟨hy0,hy1⟩,G4⟩:=hx;exact zLs
   .refine(eK.aHy x y hcd hx).mono λe u ⟨he,cV⟩=>?_;have b1:bW V u:=eZ cV;exact⟨2,AU,O,he,og,aR.of_below b1,λq=>Ef,λ_ u' hu=>iK h hB (b1.trans (hu.mono b1.size)) (k:=.gU) (n:=[x,y]) (tx:=tx) (r:=.err 2) ⟨fa,cs,c,rd,T,fN,.inr ⟨hx,rfl,rfl⟩⟩ rfl⟩
 |have HC:Hid (Calls prog 80 #[pP A.C,iI x,sT tx] (V.drewN 1) λe u=>∃k O',e=rT (dG k)/\aR O O' V u/\((k=0->∀u',bW u u'->bK base S M O st N .vY [x] tx w (rT (sT Kd.vY.name)) u')/\(k≠0->∀u',bW u u'->bK base S M O st N .vY [x] tx w (dM k) u'))):=by
   by_cases hx:0<=x/\x<st.aO.nl
   .have aXx:=0;exact zLs
   .refine(eK.aNg x tx hcd hx).mono λe u ⟨he,cV⟩=>?_;have b1:bW V u:=eZ cV;exact⟨2,O,he,aR.of_below b1,λq=>Ef,λ_ u' hu=>iK h hB (b1.trans (hu.mono b1.size)) (k:=.vY) (n:=[x]) (tx:=tx) (r:=.err 2) ⟨fa,cs,c,rd,T,fN,.inr ⟨hx,rfl,rfl⟩⟩ rfl⟩
 have HD:Hid (∀O' u,aR O O' V u->gW u):=λO' u hf=>HDV.out u (hf.below hs.r.loO hbS)
 first|let _:=aEm;have HI:Hid (jN (rd+1)):=⟨od,od⟩;clear h hD hB hs hcu hcd hTN fN HDV jT eO eR eDa eDc eMa eMc hrd T9 hbS;unfold cB.val at HC;generalize st.next.nL=q1 at *;generalize st.next.nR=q2 at *;generalize st.next.bP.length=q3 at *;generalize st.next.lE.length=q4 at *;go_enter func48,ntmps48;go_wp2_with fail;refine wp_region_held_drew (S:=λv=>v.cell? (aA S 10)=some (pP A.C)/\v.cell? (aA S 11)=some (sV ra.la q1 ra.lc)/\v.cell? (aA S 12)=some (sV ra.ra q2 ra.rc)/\v.cell? (aA S 13)=some (sV ra.da q3 ra.dc)/\v.cell? (aA S 14)=some (sV ra.ma q4 ra.mc)) oh ⟨c0,c1,c2,c3,c4⟩ (λaF=>?_)|let _:=m10;clear h hD hB hs hcu hcd hTN hc hr hbo fN HDV jM pA;go_enter func43,ntmps43;go_wp2_with fail;refine wp_region_held_drew (S:=λv=>v.cell? (aA w.1.size 0)=some (sV (some (aA b off)) 2 cap)/\v.cell? (aA b off)=some (iI x)/\v.cell? (aA b (off+1))=some (iI y)/\v.cell? (aA S 10)=some (pP A.C)) oh ⟨x0,n0,n1,c0⟩ (λaF=>?_)|clear h hD hB hs hcu hcd hTN hc hr hbo fN HDV;go_enter func42,ntmps42;go_wp2_with fail;refine wp_region_held_drew (S:=λv=>v.cell? (aA w.1.size 0)=some (sV (some (aA b off)) 1 cap)/\v.cell? (aA w.1.size 1)=some (sT tx)/\v.cell? (aA b off)=some (iI x)/\v.cell? (aA S 10)=some (pP A.C)) oh ⟨x0,x1,n0,c0⟩ (λaF=>?_)
 exact zMk):p:=h
theorem zKa(h:p:=by
 refine wp_region_held_drew (S:=λu=>u.cell? (aA w.1.size 0)=some (iI lf)/\u.cell? (aA w.1.size 1)=some (iI lt)) oh oz (λaF=>?_);refine tk 0 aF ?_;refine tk 1 aF ?_;refine tk 2 aF ?_;refine tk 4 aF ?_;refine tk 5 aF ?_;refine rd2 3 6 (λK hK=>?_) λK hK=>?_
 .first|let _:=bGj;exact zLv|have m66:=0;exact zHx
 .go_simp;refine kp hK λaF=>?_;clear hK K;refine fJ 3 λK hK=>?_;go_simp;(go_at_call 173;refine(cL _ _ _).mono ?_;rintro e u0 ⟨fv,rfl,hB,hu⟩;have C2:=aS (a:=(aA u.1.size 0)) (v:=iI lt) oe hu;have hW:=zH hW hu;obtain⟨c0,c1,c2,c3⟩:=hc.below hW);refine kp hK λaF=>?_;clear hK K;refine fJ 7 λK hK=>?_;go_simp
  first
  |let _:=bGj
   first|let _:=m19;exact zLz|(go_at_call 172;refine(fD false fv _ _ (lt) u.1.size _ _ hB C2 hd).mono ?_;rintro e x0 ⟨rfl,dS⟩;have hW:=gM hW dS;obtain⟨c0,c1,c2,c3⟩:=hc.below hW);exact zE6
  |have bLa:=0;exact zLz):p:=h
theorem zKg(h:p:=by
 have L8:=Tryz.mfD;have hF:=aJw dZ hl (w.alloc (.cells #[sT ⟨#[]⟩] 9))
 first
 |let _:=aPo;have hx:x.size<=20000:=kH (Q7 (by rw[hw];exact kT)) hl;have hwl:=aIv dZ
  first|let _:=m24;have HWs:Hid (∀y∈ws,y.size<=20000):=λy hy=>kH (Q7 (by rw[hw];exact kR _ hy)) hl;rw[hw]at hF hwl;have HE3:Hid (rG k.m k.more k.text ws=none->∀w',bW w w'->xA base S M O st N dZ w (rT (sT (dJ 3))) w'):=λq w' hb=>xA.same h hsm (.form hw hk q) aW8 hb;have HE6:Hid (∀y,rG k.m k.more k.text ws=some y->lH st k=false->∀w',bW w w'->xA base S M O st N dZ w (rT (sT (dJ 6))) w'):=λy q q2 w' hb=>xA.same h hsm (.state hw hk q q2) bDg hb|rw[hw]at hF hwl;have HE:Hid (∀w',bW w w'->xA base S M O st N dZ w (rT (sT (dJ 3))) w'):=λw' hb=>xA.same h hsm (.unknown hw hk) aW8 hb
  have HDw:=aM9 h hD
  first|let _:=m24;have HD:Hid (∀u,bW w u->cU u.1.size u):=λu hu=>HDw.at hu hu.size|have HD:Hid (∀u,bW w u->gW u):=λu hu=>HDw u hu
  have HK:Hid (∀u,bW w u->iC u kb S):=λu hu=>hK.keep (hu.block kb hK.lt)
  first|let _:=m24;have HS:Hid (fV w base S M O st A N/\cU base w/\st.Small):=⟨h,hD,hsm⟩|skip
 |rw[hw]at hF;have HE:Hid (∀w',bW w w'->xA base S M O st N dZ w (rT (sT ⟨#[111,107]⟩)) w'):=λw' hb=>xA.same h hsm (.empty hw) og hb
 generalize hV:w.alloc (.cells #[sT ⟨#[]⟩] 9)=V at hF;have hB:bW w V:=hV▸(jD _ w).alloc (kG _) _;have hbk:V.1[w.1.size]?=some (.cells #[sT ⟨#[]⟩] 9 (0,0)):=jp
 first
 |let _:=aPo;simp only[List.length_cons]at hF hwl;obtain⟨m,hm⟩:∃m,ws.length=m:=⟨_,rfl⟩
  first|let _:=m24;have HM:Hid (ws.length=m):=hm|skip
  rw[hm]at hF hwl;have e0:((m:Int)+1==0)=false:=ol;clear h hD hsm HDw hK
 |clear h hsm
 go_enter_defers func16,ntmps16;go_wp2_with fail;refine hF.mono ?_
 first
 |let _:=aPo
  first|let _:=m24;rintro e u1 ⟨A1,rfl,hA,hc,cV⟩;skip|rintro e u1 ⟨A,rfl,hA,hc,cV⟩;skip
 |rintro e u1 ⟨A,rfl,hA,hc,cV⟩;skip
 have aK2:u1.1[w.1.size]?=some (.cells #[sT ⟨#[]⟩] 9 (0,0)):=(cV.block _ (bQ hbk)).trans hbk
 first
 |let _:=aPo
  first|let _:=m24;have hc0:u1.cell? (aA A1 0)=some (sT x):=hc 0 x rfl|have hc0:u1.cell? (aA A 0)=some (sT x):=hc 0 x rfl
 |have c1:u1.cell? (aA w.1.size 0)=some (sT ⟨#[]⟩):=aN aK2 rfl;have z1:=bE aK2 (i:=0)
 have oZ:Hid (bW w u1):=hB.trans (cV.mono hB.size)
 first
 |let _:=aPo
  first|let _:=m24;have HC:Hid (∀j y,ws[j]?=some y->u1.cell? (aA A1 (j+1))=some (sT y)):=λj y hj=>hc (j+1) y O7|skip
  have uU:=(HK.out u1 oZ.out).look x hx;rw[hk]at uU
  first|let _:=m24;simp only[Option.map,Option.getD,Option.isSome,Kd.val,mO]at uU;generalize hm0:(k.m:Int)=km at uU;generalize hm1:k.more=kmo at uU;generalize hm2:k.text=kt at uU;generalize hm3:k.when=kw at uU|simp only[Option.map,Option.getD,Option.isSome,aTg,mO]at uU
 |skip
 clear cV hc hF;go_wp2_with fail
 first
 |let _:=aPo
  first|let _:=m24;refine(pH 3 _).mono ?_|refine(pS 3 _).mono ?_
  rintro e u2 ⟨rfl,rfl⟩
  first
  |let _:=m24;generalize hW:u1.alloc (.cells #[iI km,.bool kmo,.bool kt,iI kw,.func (.func k.fn) #[pP S] #[]] 94)=W;have hbW:bW u1 W:=hW▸(jD _ u1).alloc (kG _) _;have bBd:W.1[u1.1.size]?=some (.cells #[iI km,.bool kmo,.bool kt,iI kw,.func (.func k.fn) #[pP S] #[]] 94 (0,0)):=by rw[<-hW];exact heap_alloc_new u1 _
   have HBW:Hid (bW w W):=oZ.out.trans (hbW.mono oZ.out.size);have hkW:u1.1.size<W.1.size:=bQ bBd;have HRd:Hid (∀u,bW W u->Calls prog 65 #[.agg #[iI km,.bool kmo,.bool kt,iI kw,.func (.func k.fn) #[pP S] #[]],sV (if m=0 then some (aA A1 0)else some (aA A1 1)) m m] u λe w'=>yH u w' (rG k.m k.more k.text ws) e/\bW u w'):=λu hu=>by
    have hb:=HBW.out.trans (hu.mono HBW.out.size);have nJ:R5 u (if m=0 then some (aA A1 0)else some (aA A1 1)) ws:=λh0=>⟨A1,1,kJ (by rw[HM.out]at h0;omega),kC hA (kH hbW.size hu.size),λj y hj=>by
     have:=HC.out j y hj
     rw[Nat.add_comm]at this
     exact((hu.cell (p:=(aA A1 (1+j))) (kC hA hbW.size)).trans (hbW.cell (p:=(aA A1 (1+j))) hA)).trans this⟩
    have:=aV3 k.m k.bLw k.more k.text k.aZ5 k.when (.func (.func k.fn) #[pP S] #[]) (if m=0 then some (aA A1 0)else some (aA A1 1)) m ws (Nat.le_of_eq HM.out) (by rw[HM.out];omega) HWs.out u (HD.out u hb) nJ;rw[HM.out]at this;unfold mO at this;rw[hm0,hm1,hm2,hm3]at this;rw[hm1,hm2];exact this
   have hl1:(1:Int)<=(m:Int)+1:=od;have HT:Hid (∀u,bW u1 u->u.1[w.1.size]?=some (.cells #[sT ⟨#[]⟩] 9 (0,0))):=λu hu=>(hu.block _ (bQ aK2)).trans aK2;have HBu:Hid (bW u1 W):=hbW;have HKB:Hid (W.1[u1.1.size]?=some (.cells #[iI km,.bool kmo,.bool kt,iI kw,.func (.func k.fn) #[pP S] #[]] 94 (0,0))):=bBd;have HH:Hid ((k.m:Int)=km/\k.more=kmo/\k.text=kt/\k.when=kw):=⟨hm0,hm1,hm2,hm3⟩;clear hbW HC HWs hm0 hm1 hm2 hm3 uU hc0 hbk aK2 hA;obtain⟨q0,q1,q2,q3,q4⟩:=iF bBd;go_wp2_with fail;refine wp_region_held_drew (S:=λv=>v.cell? (aA u1.1.size 0)=some (iI km)/\v.cell? (aA u1.1.size 1)=some (.bool kmo)/\v.cell? (aA u1.1.size 2)=some (.bool kt)/\v.cell? (aA u1.1.size 3)=some (iI kw)/\v.cell? (aA u1.1.size 4)=some (.func (.func k.fn) #[pP S] #[])) oh ⟨q0,q1,q2,q3,q4⟩ (λaF=>?_);refine tk 0 aF ?_ (hQ:=by exact λ_ _ _ q=>H8 (i:=27) og q);refine tk 1 aF ?_ (hQ:=by exact λ_ _ _ q=>H8 (i:=28) og q);refine tk 2 aF ?_ (hQ:=by exact λ_ _ _ q=>H8 (i:=29) og q);refine rd2 3 4 (λK hK=>?_) (λK hK=>?_)
   .go_simp;refine Calls.mono (HRd.out (W.drewN 1) (bdN W 1)) ?_;rintro ev u3 ⟨hR,hu3⟩;have b3:bW W u3:=eZ hu3;have b3u:bW u1 u3:=HBu.out.trans (b3.mono HBu.out.size)
    cases hrp:rG k.m k.more k.text ws with
    |none=>
     rw[hrp]at hR
     obtain rfl:ev=dM 3:=hR
     have hbp:=HT.out u3 b3u
     have HW3:Hid (bW w u3):=oZ.out.trans (b3u.mono oZ.out.size)
     refine leaves_cons (f:=61) (args:=#[pP w.1.size]) oe Ec ?_
     refine(iD w.1.size 3 ⟨od,od⟩ ⟨#[]⟩ u3 hbp (HD.out u3 HW3.out).here).mono ?_
     rintro e u' w'' ⟨rfl,rfl,w1,cV,rfl⟩
     have hd:(w1.setCell (aA w.1.size 0) (sT (dJ 3))).cell? (aA w.1.size 0)=some (sT (dJ 3)):=World.cell?_setCell_same' _ _ _ Ez
     simp[Leaves,settle,results,results16,go_sem,hd]
     exact HE3.out hrp _ ((HW3.out.trans (cV.mono HW3.out.size)).setCell (p:=(aA w.1.size 0)) (kG _) _)
    |some y=>
     rw[hrp]at hR
     obtain⟨a,cap,rfl,hcap,nJ,hfr⟩:=hR
     have hk3:u3.1[u1.1.size]?=some (.cells #[iI km,.bool kmo,.bool kt,iI kw,.func (.func k.fn) #[pP S] #[]] 94 (0,0)):=(b3.block _ hkW).trans HKB.out
     refine kp hK (λaF=>?_) (iF hk3)
     clear hK K
     refine fJ 4 λK hK=>?_
     go_simp
     refine kp hK (λaF=>?_) (iF ((Below.heap_alloc u3 _ _ (bQ hk3)).trans hk3))
     clear hK K
     refine fJ 5 λK hK=>?_
     go_simp
     have hbX:(u3.alloc (.cells #[sV a y.1.length cap,sT y.2] 105)).1[u3.1.size]?=some (.cells #[sV a y.1.length cap,sT y.2] 105 (0,0)):=heap_alloc_new u3 _
     have ba:bW u3 (u3.alloc (.cells #[sV a y.1.length cap,sT y.2] 105)):=(jD _ u3).alloc (kG _) _
     have b4:=b3.trans (ba.mono b3.size)
     have aGs:=nJ.below ba
     have aEc:∀b off,a=some (aA b off)->W.1.size<=b/\b<(u3.alloc (.cells #[sV a y.1.length cap,sT y.2] 105)).1.size/\∃cs fr,(u3.alloc (.cells #[sV a y.1.length cap,sT y.2] 105)).1[b]?=some (.cells cs 3 fr):=λb off e=>by
      obtain⟨p1,p2,cs,fr,p3⟩:=hfr b off e
      exact⟨p1,kC p2 ba.size,cs,fr,(ba.block b p2).trans p3⟩
     refine kp hK (λaF=>?_) (iF ((ba.block _ (bQ hk3)).trans hk3))
     clear hK K aF
     refine dn ?_
     generalize u3.alloc (.cells #[sV a y.1.length cap,sT y.2] 105)=W4 at *
     generalize u3.1.size=X at *
     clear hk3 nJ hfr b3 b3u hu3 ba q0 q1 q2 q3 q4
     have R4:Hid (bW w W4):=HBW.out.trans (b4.mono HBW.out.size)
     have hkx:W4.1[u1.1.size]?=some (.cells #[iI km,.bool kmo,.bool kt,iI kw,.func (.func k.fn) #[pP S] #[]] 94 (0,0)):=(b4.block _ hkW).trans HKB.out
     have aA5:=HT.out W4 (HBu.out.trans (b4.mono HBu.out.size))
     have t0:W4.cell? (aA w.1.size 0)=some (sT ⟨#[]⟩):=aN aA5 rfl
     have uY:Hid (W4.1[w.1.size]?=some (.cells #[sT ⟨#[]⟩] 9 (0,0))):=aA5
     obtain⟨_,_,_,y3,y4⟩:=iF hkx
     have x0:W4.cell? (aA X 0)=some (sV a y.1.length cap):=aN hbX rfl
     have x1:W4.cell? (aA X 1)=some (sT y.2):=aN hbX rfl
     have hs4:fV W4 base S M O st A N:=HS.out.1.below R4.out
     have hal:=X8 hs4 k
     rw[HH.out.2.2.2]at hal
     obtain⟨XL,hX,hXa⟩:∃XL:List Nat,(∀b off,a=some (aA b off)->b∈XL)/\∀c,c∈XL->∃off,a=some (aA c off):=by
      cases a with
      |none=>exact⟨[],λ_ _ q=>Ef,λ_ q=>Ef⟩
      |some p=>
       obtain⟨b,off,t⟩:=p
       cases t with
       |none=>exact⟨[b],λ_ _ q=>by cases q;exact kT,λc q=>⟨off,by rw[List.mem_singleton.1 q]⟩⟩
       |some t=>exact⟨[],λ_ _ q=>Ef,λ_ q=>Ef⟩
     have hXl:∀c,c∈XL->W.1.size<=c/\c<W4.1.size:=λc q=>by
      obtain⟨off,e⟩:=hXa c q
      exact⟨(aEc c off e).1,(aEc c off e).2.1⟩
     have hWw:w.1.size<W.1.size:=Nat.lt_of_le_of_lt oZ.out.size hkW
     have HX:Hid (∀c,c∈XL->w.1.size<c):=λc q=>kC hWw (hXl c q).1
     have T9:base<=w.1.size:=kH (HS.out.1.r.lo S HS.out.1.r.s) (kX (HS.out.1.r.hi S HS.out.1.r.s))
     have hDb:cU base W4:=HS.out.2.1.below (R4.out.mono T9)
     obtain⟨f1,f2,f3⟩:=aCv hrp
     have HDo:Hid (lH st k=true->Calls prog k.fn #[pP S,.agg #[sV a y.1.length cap,sT y.2]] W4 (bK base S (XL++M) O st N k y.1 y.2 W4)):=λq=>aGh k hs4 hDb q HS.out.2.2 hN y.1 y.2 f1 (kH f2 (by rw[HM.out];omega)) f3 a cap hcap aGs (λb off e=>⟨hX b off e,(aEc b off e).2.2⟩) (λc q=>kH T9 (kX (HX.out c q))) (λc q=>(hXl c q).2) (λc q1 q2=>by
      have:=HX.out c q1
      rcases kN q2 with q|q
      .have:=HS.out.1.r.hi c q;omega
      .have:=HS.out.1.r.hiO c q;omega)
     have HDb:Hid (cU base W4):=hDb
     clear hs4 hX hXa hXl hDb f1 f2 f3 aEc aGs hcap hbX aA5 b4
     have aEb:=aCj k
     clear HRd
     generalize(if m=0 then(some (aA A1 0):Option WT)else some (aA A1 1))=sl1
     go_wp2_with fail
     refine hal.mono ?_
     rintro e u5 ⟨rfl,rfl⟩
     cases hal2:lH st k with
     |false=>
      go_wp2_with fail
      refine(pS 6 _).mono ?_
      rintro e u6 ⟨rfl,rfl⟩
      refine leaves_cons (f:=61) (args:=#[pP w.1.size]) oe Ec ?_
      refine(iD w.1.size 6 ⟨od,od⟩ ⟨#[]⟩ _ uY.out (HD.out _ R4.out).here).mono ?_
      rintro e u' w'' ⟨rfl,rfl,w1,cV,rfl⟩
      have hd:(w1.setCell (aA w.1.size 0) (sT (dJ 6))).cell? (aA w.1.size 0)=some (sT (dJ 6)):=World.cell?_setCell_same' _ _ _ jm
      simp[Leaves,settle,results,results16,go_sem,hd]
      exact HE6.out y hrp hal2 _ ((R4.out.trans (cV.mono R4.out.size)).setCell (p:=(aA w.1.size 0)) (kG _) _)
     |true=>
      go_wp2_with fail
      refine(pH 6 _).mono ?_
      rintro e u6 ⟨rfl,rfl⟩
      go_wp2_with fail
      refine(HDo.out hal2).mono ?_
      rintro e u7 ⟨pO,r,M',O',A',hd,he,hf,hs7⟩
      have hsh:=hd.short HS.out.2.2 (HS.out.1.bHj hN)
      have hLI:=eQ.aSg (st:=st) hw hk hrp hal2 hd
      have aRk:Hid (∀u8 v,bW u7 u8->v=Value.string r.out->xA base S M O st N dZ w (rT (sT r.out)) (u8.setCell (aA w.1.size 0) v)):=λu8 v hb hv=>by
       obtain⟨z1,z2⟩:=aMe HS.out.1 R4.out (bQ uY.out) HX.out hf hs7 hb v
       exact⟨pO,r.out,M',O',A',hLI,hsh.out,HS.out.2.2.aSg hd,rfl,z1,z2⟩
      have HD7:Hid (gW u7):=HDb.out u7 (hf.below (λc q=>by
       rcases kN q with q|q
       .rcases kN q with q|q
        .exact kH T9 (kX (HX.out c q))
        .exact HS.out.1.r.lo c q
       .exact HS.out.1.r.loO c q) (kH T9 R4.out.size))
      have ht7:u7.1[w.1.size]?=some (.cells #[sT ⟨#[]⟩] 9 (0,0)):=(hf.block _ (bQ uY.out) (aB0 HS.out.1 HX.out)).trans uY.out
      clear hf hs7 hd hLI HDo
      cases r with
      |inl kk=>
       obtain rfl:e=dM kk:=he
       refine leaves_cons (f:=61) (args:=#[pP w.1.size]) oe Ec ?_
       refine(iD w.1.size kk (dU.int hsh) ⟨#[]⟩ _ ht7 HD7.out).mono ?_
       rintro e u' w'' ⟨rfl,rfl,w1,cV,rfl⟩
       have hd:(w1.setCell (aA w.1.size 0) (sT (dJ kk))).cell? (aA w.1.size 0)=some (sT (dJ kk)):=World.cell?_setCell_same' _ _ _ j4
       simp[Leaves,settle,results,results16,go_sem,hd]
       exact aRk.out w1 _ cV rfl
      |inr o=>
       obtain rfl:e=rT (sT o):=he
       have v0:u7.cell? (aA w.1.size 0)=some (sT ⟨#[]⟩):=aN ht7 rfl
       have v1:=bE ht7 (i:=0)
       go_wp2_with fail
       have hd:(u7.setCell (aA w.1.size 0) (sT o)).cell? (aA w.1.size 0)=some (sT o):=World.cell?_setCell_same' _ _ _ (by rw[v0];rfl)
       refine leaves_cons (f:=61) (args:=#[pP w.1.size]) oe Ec ?_
       refine(yN _ _).mono ?_
       rintro e u' w'' ⟨rfl,rfl,rfl⟩
       simp[Leaves,settle,results,results16,go_sem,hd]
       exact aRk.out u7 _ (jD _ _) rfl
   .go_simp;have hk2:(W.alloc (.cells #[sV none 0 0,sT ⟨#[]⟩] 105)).drew.1[u1.1.size]?=some (.cells #[iI km,.bool kmo,.bool kt,iI kw,.func (.func k.fn) #[pP S] #[]] 94 (0,0)):=(Below.heap_alloc W _ _ (bQ HKB.out)).trans HKB.out;have hbx:(W.alloc (.cells #[sV none 0 0,sT ⟨#[]⟩] 105)).drew.1[W.1.size]?=some (.cells #[sV none 0 0,sT ⟨#[]⟩] 105 (0,0)):=heap_alloc_new W _;have xC:bW W ((W.alloc (.cells #[sV none 0 0,sT ⟨#[]⟩] 105)).drew):=tM ((jD _ W).alloc (kG _) _) 1;refine kp hK (λaF=>?_) (iF hk2);clear hK K;generalize(W.alloc (.cells #[sV none 0 0,sT ⟨#[]⟩] 105)).drew=W2 at *;refine fJ 3 λK hK=>?_;go_simp;refine Calls.mono (HRd.out W2 xC) ?_;rintro ev u3 ⟨hR,hu3⟩;have b3:bW W u3:=xC.trans (hu3.mono xC.size);have b3u:bW u1 u3:=HBu.out.trans (b3.mono HBu.out.size)
    cases hrp:rG k.m k.more k.text ws with
    |none=>
     rw[hrp]at hR
     obtain rfl:ev=dM 3:=hR
     have hbp:=HT.out u3 b3u
     have HW3:Hid (bW w u3):=oZ.out.trans (b3u.mono oZ.out.size)
     refine leaves_cons (f:=61) (args:=#[pP w.1.size]) oe Ec ?_
     refine(iD w.1.size 3 ⟨od,od⟩ ⟨#[]⟩ u3 hbp (HD.out u3 HW3.out).here).mono ?_
     rintro e u' w'' ⟨rfl,rfl,w1,cV,rfl⟩
     have hd:(w1.setCell (aA w.1.size 0) (sT (dJ 3))).cell? (aA w.1.size 0)=some (sT (dJ 3)):=World.cell?_setCell_same' _ _ _ Ez
     simp[Leaves,settle,results,results16,go_sem,hd]
     exact HE3.out hrp _ ((HW3.out.trans (cV.mono HW3.out.size)).setCell (p:=(aA w.1.size 0)) (kG _) _)
    |some y=>
     rw[hrp]at hR
     obtain⟨a,cap,rfl,hcap,nJ,hfr⟩:=hR
     have hk3:u3.1[u1.1.size]?=some (.cells #[iI km,.bool kmo,.bool kt,iI kw,.func (.func k.fn) #[pP S] #[]] 94 (0,0)):=(b3.block _ hkW).trans HKB.out
     have aOu:u3.1[W.1.size]?=some (.cells #[sV none 0 0,sT ⟨#[]⟩] 105 (0,0)):=(hu3.block _ (bQ hbx)).trans hbx
     have g0:u3.cell? (aA W.1.size 0)=some (sV none 0 0):=aN aOu rfl
     have g1:u3.cell? (aA W.1.size 1)=some (sT ⟨#[]⟩):=aN aOu rfl
     have g2:=bE aOu (i:=0)
     have g3:=bE aOu (i:=1)
     refine kp hK (λaF=>?_) (iF hk3)
     clear hK K
     refine fJ 5 λK hK=>?_
     go_simp
     have hbX:((u3.setCell (aA W.1.size 0) (sV a y.1.length cap)).setCell (aA W.1.size 1) (sT y.2)).1[W.1.size]?=some (.cells #[sV a y.1.length cap,sT y.2] 105 (0,0)):=bU (bU aOu _) _
     have uR:∀c,c≠W.1.size->((u3.setCell (aA W.1.size 0) (sV a y.1.length cap)).setCell (aA W.1.size 1) (sT y.2)).1[c]?=u3.1[c]?:=λc hc=>by simp only[cH hc]
     have hsz:((u3.setCell (aA W.1.size 0) (sV a y.1.length cap)).setCell (aA W.1.size 1) (sT y.2)).1.size=u3.1.size:=oe
     have b4:bW W ((u3.setCell (aA W.1.size 0) (sV a y.1.length cap)).setCell (aA W.1.size 1) (sT y.2)):=(b3.setCell (p:=(aA W.1.size 0)) (kG _) _).setCell (p:=(aA W.1.size 1)) (kG _) _
     have bK0:=bQ hbx
     have aGs:bI ((u3.setCell (aA W.1.size 0) (sV a y.1.length cap)).setCell (aA W.1.size 1) (sT y.2)) a y.1:=nJ.at (Nat.le_of_eq hsz.symm) λb off e h0=>uR b (by have:=(hfr b off e).1;omega)
     have aEc:∀b off,a=some (aA b off)->W.1.size<=b/\b<((u3.setCell (aA W.1.size 0) (sV a y.1.length cap)).setCell (aA W.1.size 1) (sT y.2)).1.size/\∃cs fr,((u3.setCell (aA W.1.size 0) (sV a y.1.length cap)).setCell (aA W.1.size 1) (sT y.2)).1[b]?=some (.cells cs 3 fr):=λb off e=>by
      obtain⟨p1,p2,cs,fr,p3⟩:=hfr b off e
      exact⟨od,by rw[hsz];exact p2,cs,fr,(uR b od).trans p3⟩
     refine kp hK (λaF=>?_) (iF ((uR _ od).trans hk3))
     clear hK K aF
     refine dn ?_
     generalize(u3.setCell (aA W.1.size 0) (sV a y.1.length cap)).setCell (aA W.1.size 1) (sT y.2)=W4 at *
     obtain⟨X,hXe⟩:∃X,W.1.size=X:=⟨_,rfl⟩
     have hbX:W4.1[X]?=some (.cells #[sV a y.1.length cap,sT y.2] 105 (0,0)):=hXe▸hbX
     clear hk3 nJ hfr b3 b3u hu3 q0 q1 q2 q3 q4 uR hsz g0 g1 g2 g3 aOu bK0 hbx hk2 xC
     rw[hXe]
     clear hXe
     have R4:Hid (bW w W4):=HBW.out.trans (b4.mono HBW.out.size)
     have hkx:W4.1[u1.1.size]?=some (.cells #[iI km,.bool kmo,.bool kt,iI kw,.func (.func k.fn) #[pP S] #[]] 94 (0,0)):=(b4.block _ hkW).trans HKB.out
     have aA5:=HT.out W4 (HBu.out.trans (b4.mono HBu.out.size))
     have t0:W4.cell? (aA w.1.size 0)=some (sT ⟨#[]⟩):=aN aA5 rfl
     have uY:Hid (W4.1[w.1.size]?=some (.cells #[sT ⟨#[]⟩] 9 (0,0))):=aA5
     obtain⟨_,_,_,y3,y4⟩:=iF hkx
     have x0:W4.cell? (aA X 0)=some (sV a y.1.length cap):=aN hbX rfl
     have x1:W4.cell? (aA X 1)=some (sT y.2):=aN hbX rfl
     have hs4:fV W4 base S M O st A N:=HS.out.1.below R4.out
     have hal:=X8 hs4 k
     rw[HH.out.2.2.2]at hal
     obtain⟨XL,hX,hXa⟩:∃XL:List Nat,(∀b off,a=some (aA b off)->b∈XL)/\∀c,c∈XL->∃off,a=some (aA c off):=by
      cases a with
      |none=>exact⟨[],λ_ _ q=>Ef,λ_ q=>Ef⟩
      |some p=>
       obtain⟨b,off,t⟩:=p
       cases t with
       |none=>exact⟨[b],λ_ _ q=>by cases q;exact kT,λc q=>⟨off,by rw[List.mem_singleton.1 q]⟩⟩
       |some t=>exact⟨[],λ_ _ q=>Ef,λ_ q=>Ef⟩
     have hXl:∀c,c∈XL->W.1.size<=c/\c<W4.1.size:=λc q=>by
      obtain⟨off,e⟩:=hXa c q
      exact⟨(aEc c off e).1,(aEc c off e).2.1⟩
     have hWw:w.1.size<W.1.size:=Nat.lt_of_le_of_lt oZ.out.size hkW
     have HX:Hid (∀c,c∈XL->w.1.size<c):=λc q=>kC hWw (hXl c q).1
     have T9:base<=w.1.size:=kH (HS.out.1.r.lo S HS.out.1.r.s) (kX (HS.out.1.r.hi S HS.out.1.r.s))
     have hDb:cU base W4:=HS.out.2.1.below (R4.out.mono T9)
     obtain⟨f1,f2,f3⟩:=aCv hrp
     have HDo:Hid (lH st k=true->Calls prog k.fn #[pP S,.agg #[sV a y.1.length cap,sT y.2]] W4 (bK base S (XL++M) O st N k y.1 y.2 W4)):=λq=>aGh k hs4 hDb q HS.out.2.2 hN y.1 y.2 f1 (kH f2 (by rw[HM.out];omega)) f3 a cap hcap aGs (λb off e=>⟨hX b off e,(aEc b off e).2.2⟩) (λc q=>kH T9 (kX (HX.out c q))) (λc q=>(hXl c q).2) (λc q1 q2=>by
      have:=HX.out c q1
      rcases kN q2 with q|q
      .have:=HS.out.1.r.hi c q;omega
      .have:=HS.out.1.r.hiO c q;omega)
     have HDb:Hid (cU base W4):=hDb
     clear hs4 hX hXa hXl hDb f1 f2 f3 aEc aGs hcap hbX aA5 b4
     have aEb:=aCj k
     clear HRd
     generalize(if m=0 then(some (aA A1 0):Option WT)else some (aA A1 1))=sl1
     go_wp2_with fail
     refine hal.mono ?_
     rintro e u5 ⟨rfl,rfl⟩
     cases hal2:lH st k with
     |false=>
      go_wp2_with fail
      refine(pS 6 _).mono ?_
      rintro e u6 ⟨rfl,rfl⟩
      refine leaves_cons (f:=61) (args:=#[pP w.1.size]) oe Ec ?_
      refine(iD w.1.size 6 ⟨od,od⟩ ⟨#[]⟩ _ uY.out (HD.out _ R4.out).here).mono ?_
      rintro e u' w'' ⟨rfl,rfl,w1,cV,rfl⟩
      have hd:(w1.setCell (aA w.1.size 0) (sT (dJ 6))).cell? (aA w.1.size 0)=some (sT (dJ 6)):=World.cell?_setCell_same' _ _ _ jm
      simp[Leaves,settle,results,results16,go_sem,hd]
      exact HE6.out y hrp hal2 _ ((R4.out.trans (cV.mono R4.out.size)).setCell (p:=(aA w.1.size 0)) (kG _) _)
     |true=>
      go_wp2_with fail
      refine(pH 6 _).mono ?_
      rintro e u6 ⟨rfl,rfl⟩
      go_wp2_with fail
      refine(HDo.out hal2).mono ?_
      rintro e u7 ⟨pO,r,M',O',A',hd,he,hf,hs7⟩
      have hsh:=hd.short HS.out.2.2 (HS.out.1.bHj hN)
      have hLI:=eQ.aSg (st:=st) hw hk hrp hal2 hd
      have aRk:Hid (∀u8 v,bW u7 u8->v=Value.string r.out->xA base S M O st N dZ w (rT (sT r.out)) (u8.setCell (aA w.1.size 0) v)):=λu8 v hb hv=>by
       obtain⟨z1,z2⟩:=aMe HS.out.1 R4.out (bQ uY.out) HX.out hf hs7 hb v
       exact⟨pO,r.out,M',O',A',hLI,hsh.out,HS.out.2.2.aSg hd,rfl,z1,z2⟩
      have HD7:Hid (gW u7):=HDb.out u7 (hf.below (λc q=>by
       rcases kN q with q|q
       .rcases kN q with q|q
        .exact kH T9 (kX (HX.out c q))
        .exact HS.out.1.r.lo c q
       .exact HS.out.1.r.loO c q) (kH T9 R4.out.size))
      have ht7:u7.1[w.1.size]?=some (.cells #[sT ⟨#[]⟩] 9 (0,0)):=(hf.block _ (bQ uY.out) (aB0 HS.out.1 HX.out)).trans uY.out
      clear hf hs7 hd hLI HDo
      cases r with
      |inl kk=>
       obtain rfl:e=dM kk:=he
       refine leaves_cons (f:=61) (args:=#[pP w.1.size]) oe Ec ?_
       refine(iD w.1.size kk (dU.int hsh) ⟨#[]⟩ _ ht7 HD7.out).mono ?_
       rintro e u' w'' ⟨rfl,rfl,w1,cV,rfl⟩
       have hd:(w1.setCell (aA w.1.size 0) (sT (dJ kk))).cell? (aA w.1.size 0)=some (sT (dJ kk)):=World.cell?_setCell_same' _ _ _ j4
       simp[Leaves,settle,results,results16,go_sem,hd]
       exact aRk.out w1 _ cV rfl
      |inr o=>
       obtain rfl:e=rT (sT o):=he
       have v0:u7.cell? (aA w.1.size 0)=some (sT ⟨#[]⟩):=aN ht7 rfl
       have v1:=bE ht7 (i:=0)
       go_wp2_with fail
       have hd:(u7.setCell (aA w.1.size 0) (sT o)).cell? (aA w.1.size 0)=some (sT o):=World.cell?_setCell_same' _ _ _ (by rw[v0];rfl)
       refine leaves_cons (f:=61) (args:=#[pP w.1.size]) oe Ec ?_
       refine(yN _ _).mono ?_
       rintro e u' w'' ⟨rfl,rfl,rfl⟩
       simp[Leaves,settle,results,results16,go_sem,hd]
       exact aRk.out u7 _ (jD _ _) rfl
  |have hbu:=oZ.out.alloc oZ.out.size (.cells #[iI 0,.bool false,.bool false,iI 0,.nilFunc] 94);have hbp:(u1.alloc (.cells #[iI 0,.bool false,.bool false,iI 0,.nilFunc] 94)).1[w.1.size]?=some (.cells #[sT ⟨#[]⟩] 9 (0,0)):=(Below.heap_alloc u1 _ _ (bQ aK2)).trans aK2;have HW:Hid (bW w (u1.alloc (.cells #[iI 0,.bool false,.bool false,iI 0,.nilFunc] 94))):=hbu;generalize u1.alloc (.cells #[iI 0,.bool false,.bool false,iI 0,.nilFunc] 94)=W at *;refine leaves_cons (f:=61) (args:=#[pP w.1.size]) oe Ec ?_;refine(iD w.1.size 3 ⟨od,od⟩ ⟨#[]⟩ W hbp (HD.out W HW.out)).mono ?_;rintro e u' w'' ⟨rfl,rfl,w1,cV,rfl⟩;have hd:(w1.setCell (aA w.1.size 0) (sT (dJ 3))).cell? (aA w.1.size 0)=some (sT (dJ 3)):=World.cell?_setCell_same' _ _ _ Ez;simp[Leaves,settle,results,results16,go_sem,hd];exact HE.out _ ((HW.out.trans (cV.mono HW.out.size)).setCell (p:=(aA w.1.size 0)) (kG _) _)
 |have hd:(u1.setCell (aA w.1.size 0) (sT ⟨#[111,107]⟩)).cell? (aA w.1.size 0)=some (sT ⟨#[111,107]⟩):=World.cell?_setCell_same' _ _ _ (by rw[c1];rfl);refine leaves_cons (f:=61) (args:=#[pP w.1.size]) oe Ec ?_;refine(yN _ _).mono ?_;rintro e u' w'' ⟨rfl,rfl,rfl⟩;simp[Leaves,settle,results,results16,go_sem,hd];exact HE.out _ (oZ.out.setCell (p:=(aA w.1.size 0)) (kG _) _)):p:=h
theorem zKy(h:p:=by
 obtain⟨c0,c1,c2,c3,c4,c5,z,own,lp,lb,we⟩:=h;have k1:decide (t<0)=false:=kD od;have k2:decide (1099511627776<t)=false:=kD od
 first
 |let _:=bGo;have k3:decide (t<now)=false:=kD od
  first|let _:=m46;have k5:decide (t<d6 aQ last bag)=false:=kD h5|skip
 |skip
 have lP:P<w.1.size:=od
 first
 |let _:=bGo;have z3:=z 3;obtain⟨a,cap,rfl⟩:=nZ own;have iU:all.length-aQ<=10000000:=od
  first
  |let _:=m46;have k4:(((all.length-aQ:Nat):Int)==0)=false:=ol;have HR:Hid (V.cell? ⟨w.1.size,0,none⟩=some (.int .i64 0)/\V.cell? ⟨w.1.size,1,none⟩=some (.string ⟨#[]⟩)/\∀i,V.frozen? ⟨w.1.size,i,none⟩=false):=⟨r0,r1,rz⟩;have HG:Hid (∀c,(Value.slice a (all.length-aQ) cap).ownBlock=some c->c<w.1.size):=C3;clear z own h1 h2 h3 h5 c0 c1 c5 bM0 we0 we hw HT0 C3 hgb r0 r1 rz
  |unfold aAc at h3;rw[Bool.or_eq_true,AK,decide_eq_true_eq,decide_eq_true_eq,decide_eq_true_eq]at h3;have h4:all.length-aQ=0\/(all.length-aQ≠0/\t<d6 aQ last bag):=by
    rcases Nat.eq_zero_or_pos (all.length-aQ)with q|q
    .exact .inl q
    .refine .inr ⟨od,?_⟩;rcases h3 with y|⟨y,y2⟩
     .omega
     .rw[show d6 aQ last bag=last+bag from kJ od];exact y2
   clear z own h1 h2 h3 c0 c1 c5
  generalize all.length-aQ=n at *;generalize d6 aQ last bag=fr at *
  first
  |let _:=m46;generalize all.getD aQ AU=D at *;generalize mR aQ=Y at *;go_enter func191,ntmps191;go_wp2_with fail;refine hR.mono ?_;rintro e W ⟨rfl,v',hS,hT,oX⟩;have aGm:w.1.size≠P/\w.1.size≠(Value.slice a n cap).ownBlock.getD P:=by
    refine⟨od,?_⟩
    cases e:(Value.slice a n cap).ownBlock with
    |none=>show w.1.size≠P;omega
    |some g=>have:=HG.out g e;show w.1.size≠g;omega
   have q0:=(hT.cell (p:=⟨w.1.size,0,none⟩) (show w.1.size<V.1.size by omega) aGm.1 aGm.2).trans HR.out.1;have q1:=(hT.cell (p:=⟨w.1.size,1,none⟩) (show w.1.size<V.1.size by omega) aGm.1 aGm.2).trans HR.out.2.1;have qz:∀i,W.frozen? ⟨w.1.size,i,none⟩=false:=λi=>(hT.frozen (p:=⟨w.1.size,i,none⟩) (show w.1.size<V.1.size by omega) aGm.1 aGm.2).trans (HR.out.2.2 i);have qz0:=qz 0;have qz1:=qz 1;have lW:w.1.size+1<=W.1.size:=by have:=hT.size;omega
   have HS:Hid _:=hS;have HT:Hid _:=hT;have HA:Hid _:=oX;have HB:Hid (w.1.size≠P/\w.1.size≠(Value.slice a n cap).ownBlock.getD P):=aGm;clear hS hT oX aGm hR qz hV;go_wp2;have s0:((W.setCell ⟨w.1.size,0,none⟩ (.int .i64 Y)).setCell ⟨w.1.size,1,none⟩ (.string D)).cell? ⟨w.1.size,0,none⟩=some (.int .i64 Y):=(aB (.inr og)).trans (aZ q0);have s1:((W.setCell ⟨w.1.size,0,none⟩ (.int .i64 Y)).setCell ⟨w.1.size,1,none⟩ (.string D)).cell? ⟨w.1.size,1,none⟩=some (.string D):=aZ ((aB (.inr og)).trans q1);have ht5:aW w.1.size w.1.size W ((W.setCell ⟨w.1.size,0,none⟩ (.int .i64 Y)).setCell ⟨w.1.size,1,none⟩ (.string D)):=((aW.refl _ _ _).set (p:=⟨w.1.size,0,none⟩) (.inl rfl) _).set (p:=⟨w.1.size,1,none⟩) (.inl rfl) _;have bB7:=HS.out.keep (w':=(W.setCell ⟨w.1.size,0,none⟩ (.int .i64 Y)).setCell ⟨w.1.size,1,none⟩ (.string D)) ⟨ht5.size,λc hc=>by
    rcases kQ hc with y|y
    .exact ht5.block c od od od
    .rw[HA.out]at y
     have:=HG.out c Ep
     exact ht5.block c od od od⟩
   refine bodyPost_ret (v:=.tuple #[.agg #[.int .i64 Y,.string D],.nilIface]) (by simp[results,results191,go_sem,s0,s1]) rfl ⟨rfl,_,bB7,?_,HA.out⟩;have t2:=HV.out;have t3:=HT.out;exact⟨(ht5.os.trans t3.os).trans t2.os,(ht5.tape.trans t3.tape).trans t2.tape,(ht5.output.trans t3.output).trans t2.output,by have:=ht5.size;have:=t3.size;omega,λc hc h1 h2=>((ht5.block c (by have:=t3.size;omega) od od).trans (t3.block c od h1 h2)).trans (t2.block c hc h1 h1)⟩
  |rcases h4 with h4|⟨h4,h5⟩
   .subst h4;exact zCr
   .have k4:((n:Int)==0)=false:=by simp;omega
    clear h4;exact zCr
 |clear z own h1 c0 c1 c2 c4 c5;go_enter func191,ntmps191;go_wp2;exact bodyPost_ret (v:=tU #[.agg #[iI 0,sT ⟨#[]⟩],.iface 30 (iI 10)]) Ek rfl ⟨rfl,(jD _ _).alloc (kG _) _⟩):p:=h
theorem zKz(h:p:=by
 obtain⟨v6,hv6⟩:∃v6,((v5.setCell (aA C 6) (sV a' p.ns cap')).setCell (aA C 7) (sV none 0 0)).setCell (aA C 9) (sV none 0 0)=v6:=⟨_,rfl⟩
 first
 |let _:=bKu;rw[hv6]at HX⊢;clear e6 e7 e9 g6 g7 g9 hC5 hv6 HBo;have s2:=bc HX.out.bel xR b2;have hl6:w.1.size<v6.1.size:=kC xR HX.out.bel.size;have aFu:Hid (bW w v6):=HBV.out.1.trans (HX.out.bel.mono HBV.out.1.size);have R6:=λ(q:Nat)=>aGb ca cap n cs aRl.out (v6.drewN q) (HIn.out.2.below ⟨aFu.out.os,aFu.out.tape,aFu.out.output,aFu.out.size,aFu.out.block⟩) od;have H2:Hid (∀v,bW w v->¬((∀c∈cs,-274877906944<=c/\c<=274877906944)/\eF (fG fa cs)<=p.aM)->tI w p fa cs (rT (tU #[.pointer none,.iface 30 (iI 2)])) v):=λv hv hb=>⟨hv,2,-1,.inr ⟨HIs.out,rfl,.inr ⟨HOk.out,.inr ⟨by rw[C1.out];exact aRl.out,.inl ⟨hb,rfl⟩⟩⟩⟩,.inl ⟨og,_,rfl,.inr (.inl ⟨rfl,og,rfl⟩)⟩⟩
  by_cases hF:cs.any fP=true
  .have HNo:Hid (¬((∀c∈cs,-274877906944<=c/\c<=274877906944)/\eF (fG fa cs)<=p.aM)):=λy=>by obtain⟨c,hc,ht⟩:=List.any_eq_true.1 hF;have:=y.1 c hc;unfold fP at ht;have:=of_decide_eq_true ht;omega
   rw[hF]at R6;refine wp_region_noPanic ?_;refine wp_region_held_drew (S:=λ_=>True) oh trivial (λaF=>?_);refine tk 0 aF ?_;refine fJ 1 λKq hK=>?_;go_simp;(go_at_call 105;refine(R6 1).mono ?_;rintro e v7 ⟨rfl,hB7⟩;have HB7:Hid (bW w v7):=(by have h6:=aFu.out;exact h6.trans ⟨hB7.os,hB7.tape,hB7.output,hB7.size,λc hc=>hB7.block c (kC hc h6.size)⟩);clear hB7);refine kp hK (λaF=>?_) trivial;clear hK Kq;refine tk 2 aF ?_;refine jZ (fuel:=1) oh (λ_ _ _ _ h=>h) aF [(3,62),(4,63),(5,64),(6,65),(7,66)] oh ?_;simp only[aIk,List.foldl_cons,List.foldl_nil,Act.put,zA,zB,zC];refine tk 8 aF ?_;refine dn ?_;refine NoPanic.normal ?_;all_goals go_wp2
   all_goals go_ret2
   all_goals exact H2.out _ ⟨HB7.out.os,HB7.out.tape,HB7.out.output,HB7.out.size,HB7.out.block⟩ HNo.out
  .have hF':cs.any fP=false:=by simpa using hF
   have aZc:Hid (∀c∈cs,-274877906944<=c/\c<=274877906944):=λc hc=>by have:=List.any_eq_false.1 hF' c hc;unfold fP at this;have:¬(c< -274877906944\/274877906944<c):=λy=>this (kF y);omega
   rw[hF']at R6;obtain⟨SP,hSP⟩:∃SP,eF (fG fa cs)=SP:=⟨_,rfl⟩;have HSP:Hid (eF (fG fa cs)=SP):=hSP;by_cases hS:p.aM<SP
   .have kS:decide (p.aM<SP)=true:=kF hS;have HNo:Hid (¬((∀c∈cs,-274877906944<=c/\c<=274877906944)/\eF (fG fa cs)<=p.aM)):=λy=>by have:=y.2;rw[hSP]at this;omega
    exact zGw
   .have kS:decide (p.aM<SP)=false:=kD hS;have bIo:Hid ((∀c∈cs,-274877906944<=c/\c<=274877906944)/\eF (fG fa cs)<=p.aM):=⟨aZc.out,by rw[hSP];omega⟩;have m29:=0;exact zGw
 |rw[hv6];have hT:aW C C v5 v6:=by rw[<-hv6];exact(((aW.refl _ _ v5).set (p:=(aA C 6)) (.inl rfl) _).set (p:=(aA C 7)) (.inl rfl) _).set (p:=(aA C 9)) (.inl rfl) _
  have s5:=k.size;have s6:=hT.size;have hVs:=h.bel.size;have qN:=h.lC;have hlc:=h.lc;have cc:∀i u,(#[iI n,iI p.aG,iI p.aM,iI p.aC,iI p.aJ,iI p.round,sV a.sa p.ns a.sc,sV a.la p.nl a.lc,iI p.frame,sV a.wa p.nw a.wc,iI fa,sL cb n fK,iI 0,sV none 0 0,sV none 0 0]:Array WB)[i]?=some u->i≠6->i≠7->i≠9->v6.cell? (aA C i)=some u:=λi u hi h6 h7 h9=>by rw[<-hv6,aB (.inr h9),aB (.inr h7),aB (.inr h6)];exact bc k qN (h.cel i u hi)
  have c6:v6.cell? (aA C 6)=some (sV a' p.ns cap'):=by rw[<-hv6,aB (.inr og),aB (.inr og)];exact aZ (bc k qN (h.cel 6 _ rfl))
  have hb:∀b,b<v5.1.size->b≠C->∀i,v6.cell? (aA b i)=v5.cell? (aA b i):=λb hb hn i=>hT.cell (p:=(aA b i)) hb hn hn;refine⟨cb::(a'.map Addr.block).toList,?_,?_,λi=>?_,cc 13 _ rfl og og og,cc 14 _ rfl og og og,⟨od,od⟩,λc hc=>?_⟩
  .exact(h.bel.trans (k.mono hVs)).trans (hT.below od od od)
  .refine⟨by rw[hn];exact cc 0 _ rfl og og og,cc 1 _ rfl og og og,cc 3 _ rfl og og og,cc 4 _ rfl og og og,cc 5 _ rfl og og og,c6,cc 10 _ rfl og og og,by rw[hl];exact cc 11 _ rfl og og og,cc 12 _ rfl og og og,λj hj=>?_,kT,λh0=>?_⟩
   .rw[hb cb od od];exact bc k (by show cb<_;omega) (h.ck j hj)
   .obtain⟨b,off,e,oF,hc⟩:=hr h0;have hbb:=hf b off none e;refine⟨b,off,e,by rw[e];exact kR _ (List.mem_singleton.2 rfl),λi hi=>?_⟩;rw[hb b oF od,hb b oF od,hb b oF od];exact hc i hi
  .rw[<-hv6];exact(bJ.trans (bJ.trans bJ)).trans ((k.frozen (p:=(aA C i)) qN).trans (h.z i))
  .rcases kQ hc with y|y
   .omega
   .cases ha:a' with
    |none=>rw[ha]at y;simp at y
    |some ad=>
     rw[ha]at y
     have hcb:c=ad.block:=Ep
     have:=hf ad.block ad.off ad.spot (by rw[ha])
     omega):p:=h
theorem zK0(h:p:=by
 go_wp2_with fail;refine hi.mono ?_;rintro e w1 ⟨rfl,hw⟩;replace hw:=hw.symm;subst hw;clear hi;go_wp2_with fail
 first
 |let _:=bGp
  first|let _:=bG2;refine hl.mono ?_|refine(HM.out _ (jD _ _)).mono ?_;rintro e w1 ⟨rfl,hw⟩;replace hw:=hw.symm;subst hw;go_wp2_with fail;refine(HF.out _ (jD _ _)).mono ?_
 |refine hl.mono ?_
 rintro e w1 ⟨rfl,hw⟩;replace hw:=hw.symm;subst hw
 first
 |let _:=bGp
  first|let _:=bG2;clear hl;exact zFi|go_wp2;exact bodyPost_ret (v:=tU #[iI bv,.bool fz,.nilIface]) (by simp[results,results88,go_sem]) rfl ⟨rfl,jD _ _⟩
 |clear hl;go_wp2_with fail;refine hp.mono ?_;rintro e w1 ⟨rfl,OQ',q1,q2⟩;have HD:=HBK.out w1 OQ' q1 q2;clear HBK q1 q2 hp c14 l0 l1 l2;go_wp2;go_ret2;exact⟨rfl,HD⟩):p:=h
theorem zK1(h:p:=by
 obtain⟨wR,hV⟩:=aRw AA aG aM aC aJ round frame sa la wa ns sc nl lc nw wc w 83
 first|let _:=aXu;have HNN:Hid (∀x∈dP AA aG aM aC aJ round frame ns nl nw nd fr tq lf lt lb lq wp wf wt,0<=x/\x<=1099511627776):=pA;clear pA;replace hs:=hs.below hV;replace hl:=hl.below hV;replace hw:=hw.below hV|have HE:Hid (E≠0):=hE;clear hE
 go_enter func76,ntmps76;go_wp2_with fail
 first|let _:=aXu;generalize w.alloc (.cells #[iI AA,iI aG,iI aM,iI aC,iI aJ,iI round,sV sa ns sc,sV la nl lc,iI frame,sV wa nw wc] 83)=V at wR hV hs hl hw⊢|generalize w.alloc (.cells #[iI AA,iI aG,iI aM,iI aC,iI aJ,iI round,sV sa ns sc,sV la nl lc,iI frame,sV wa nw wc] 83)=V at wR hV⊢
 refine(hc V hV).mono ?_
 first|let _:=aXu;clear hc|skip
 rintro ev w1 ⟨X,rfl,hX,cV⟩
 first
 |let _:=aXu;obtain rfl:X=.nilIface:=by
   rcases hX with⟨h,_⟩|⟨_,h,_⟩|⟨_,_,h,_⟩
   .exact h
   .exact absurd rfl h
   .exact absurd rfl h
  clear hX;replace hs:=hs.below cV;replace hl:=hl.below cV;replace hw:=hw.below cV;replace wR:=wR.below cV;replace hV:=hV.trans (cV.mono hV.size);clear cV;obtain⟨x0,x1,x2,x3,x4,x5,x6,x7,x8,x9⟩:=wR.below (jD _ _);go_wp2_with fail;refine(oE w1.1.size _ [] [AA,aG,aM,aC,aJ,round] _ _ w1 _ rfl rfl (World.ownsRow_nil _ _ _ _) (kG _) (λx hx=>HNN.out x (by simp[dP];simp at hx;omega)) oe oe).mono ?_;rintro ev w2 ⟨v2,rfl,ho2,uO,qP⟩;rw[List.nil_append]at ho2;have bFf:Hid (w2.ownsRow w1.1.size 5 1 v2 (bytesOf ([AA,aG,aM,aC,aJ,round])).length ((bytesOf ([AA,aG,aM,aC,aJ,round])).map (Value.int .u8))):=ho2;clear ho2 x0 x1 x2 x3 x4 x5 x6 x7 x8 x9;obtain⟨x0,x1,x2,x3,x4,x5,x6,x7,x8,x9⟩:=wR.below uO;clear x0 x1 x2 x3 x4 x5 x7 x8 x9;go_wp2_with fail;refine(oE w1.1.size _ _ [(ns:Int)] _ _ w2 _ rfl rfl bFf.out od (λx hx=>HNN.out x (by simp[dP];simp at hx;omega)) (by have:=gE [AA,aG,aM,aC,aJ,round];simp at this;omega) oe).mono ?_;rintro ev w3 ⟨v3,rfl,ho3,qT,hz3⟩;replace qT:=uO.trans qT;have bJo:Hid (w3.ownsRow w1.1.size 5 1 v3 (bytesOf ([AA,aG,aM,aC,aJ,round,(ns:Int)]++bH nd fr tq 0)).length ((bytesOf ([AA,aG,aM,aC,aJ,round,(ns:Int)]++bH nd fr tq 0)).map (Value.int .u8))):=by show World.ownsRow _ _ _ _ _ _ _;rw[<-jK]at ho3;simpa[bH]using ho3
  clear bFf ho3 x6 uO qP hz3;obtain⟨x0,x1,x2,x3,x4,x5,x6,x7,x8,x9⟩:=wR.below qT;clear x0 x1 x2 x3 x4 x5 x7 x8 x9;have MS:Hid (∀k,k<ns->∀x∈[nd k,fr k,tq k],0<=x/\x<=1099511627776):=λk hk x hx=>HNN.out x (aU2 hk hx);have ML:Hid (∀k,k<nl->∀x∈[lf k,lt k,lb k,lq k],0<=x/\x<=1099511627776):=λk hk x hx=>HNN.out x (aU1 hk hx);have MW:Hid (∀k,k<nw->∀x∈[wp k,wf k,wt k],0<=x/\x<=1099511627776):=λk hk x hx=>HNN.out x (aXz hk hx);have MO:Hid (∀x∈[(nl:Int),frame,(nw:Int)],0<=x/\x<=1099511627776):=λx hx=>HNN.out x (aPr hx);clear HNN;go_wp2_with fail;go_loopw[5,40] (λv t wr=>∃k:Nat,k<=ns/\t=iI k/\Hid (wr.ownsRow w1.1.size 5 1 v (bytesOf ([AA,aG,aM,aC,aJ,round,(ns:Int)]++bH nd fr tq k)).length ((bytesOf ([AA,aG,aM,aC,aJ,round,(ns:Int)]++bH nd fr tq k)).map (Value.int .u8)))/\bW w1 wr) (λ_ t _=>ns-(intOf t).toNat);case atStart=>exact⟨0,kI _,rfl,bJo,qT⟩
  case round=>
   obtain⟨k,hk,rfl,ho,eG⟩:=hrel;have hbz:=eG.size;rcases(show k<ns\/ns=k by omega)with hlt|hkk
   .obtain⟨b,off,rfl,hb,fN⟩:=hs od;exact zHl
   .subst hkk;clear hk;obtain⟨x0,x1,x2,x3,x4,x5,x6,x7,x8,x9⟩:=wR.below eG;clear x0 x1 x2 x3 x4 x5 x6 x8 x9;go_wp2_with fail;refine(oE w1.1.size _ _ [(nl:Int)] _ _ wr _ rfl rfl ho.out od (λx hx=>MO.out x (by simp at hx⊢;omega)) (kH (gE _) (by simp[oW];omega)) oe).mono ?_;rintro ev w5 ⟨v5,rfl,ho5,hB5,hz5⟩;replace hB5:=eG.trans hB5;have bJp:Hid (w5.ownsRow w1.1.size 5 1 v5 (bytesOf ([AA,aG,aM,aC,aJ,round,(ns:Int)]++bH nd fr tq ns++[(nl:Int)]++fE lf lt lb lq 0)).length ((bytesOf ([AA,aG,aM,aC,aJ,round,(ns:Int)]++bH nd fr tq ns++[(nl:Int)]++fE lf lt lb lq 0)).map (Value.int .u8))):=by show World.ownsRow _ _ _ _ _ _ _;rw[<-jK]at ho5;simpa[fE]using ho5
    clear ho ho5 x7 eG hbz hz5;obtain⟨x0,x1,x2,x3,x4,x5,x6,x7,x8,x9⟩:=wR.below hB5;clear x0 x1 x2 x3 x4 x5 x6 x8 x9;go_wp2_with fail;rename WA=>wy
    go_loopw[5,65] (λv t wr=>∃k:Nat,k<=nl/\t=iI k/\Hid (wr.ownsRow w1.1.size 5 1 v (bytesOf ([AA,aG,aM,aC,aJ,round,(ns:Int)]++bH nd fr tq ns++[(nl:Int)]++fE lf lt lb lq k)).length ((bytesOf ([AA,aG,aM,aC,aJ,round,(ns:Int)]++bH nd fr tq ns++[(nl:Int)]++fE lf lt lb lq k)).map (Value.int .u8)))/\bW w1 wr) (λ_ t _=>nl-(intOf t).toNat);case atStart=>exact⟨0,kI _,rfl,bJp,hB5⟩
    case round=>
     obtain⟨k,hk,rfl,ho,eG⟩:=hrel;have hbz:=eG.size;rcases(show k<nl\/nl=k by omega)with hlt|hkk
     .obtain⟨b,off,rfl,hb,fN⟩:=hl od;obtain⟨r0,r1,r2,r3⟩:=fN k hlt;exact zI9
     .subst hkk;clear hk;obtain⟨x0,x1,x2,x3,x4,x5,x6,x7,x8,x9⟩:=wR.below eG;clear x0 x1 x2 x3 x4 x5 x6 x7;go_wp2_with fail;refine(oE w1.1.size _ _ [frame,(nw:Int)] _ _ wr _ rfl rfl ho.out od (λx hx=>MO.out x (by simp at hx⊢;omega)) (kH (gE _) jn) oe).mono ?_;rintro ev w6 ⟨v6,rfl,ho6,hB6,hz6⟩;replace hB6:=eG.trans hB6;have bJq:Hid (w6.ownsRow w1.1.size 5 1 v6 (bytesOf ([AA,aG,aM,aC,aJ,round,(ns:Int)]++bH nd fr tq ns++[(nl:Int)]++fE lf lt lb lq nl++[frame,(nw:Int)]++bH wp wf wt 0)).length ((bytesOf ([AA,aG,aM,aC,aJ,round,(ns:Int)]++bH nd fr tq ns++[(nl:Int)]++fE lf lt lb lq nl++[frame,(nw:Int)]++bH wp wf wt 0)).map (Value.int .u8))):=by show World.ownsRow _ _ _ _ _ _ _;rw[<-jK]at ho6;simpa[bH]using ho6
      clear ho ho6 x8 x9 eG hbz hz6;obtain⟨x0,x1,x2,x3,x4,x5,x6,x7,x8,x9⟩:=wR.below hB6;clear x0 x1 x2 x3 x4 x5 x6 x7 x8;go_wp2_with fail;rename WA=>wz
      go_loopw[5,92] (λv t wr=>∃k:Nat,k<=nw/\t=iI k/\Hid (wr.ownsRow w1.1.size 5 1 v (bytesOf ([AA,aG,aM,aC,aJ,round,(ns:Int)]++bH nd fr tq ns++[(nl:Int)]++fE lf lt lb lq nl++[frame,(nw:Int)]++bH wp wf wt k)).length ((bytesOf ([AA,aG,aM,aC,aJ,round,(ns:Int)]++bH nd fr tq ns++[(nl:Int)]++fE lf lt lb lq nl++[frame,(nw:Int)]++bH wp wf wt k)).map (Value.int .u8)))/\bW w1 wr) (λ_ t _=>nw-(intOf t).toNat);case atStart=>exact⟨0,kI _,rfl,bJq,hB6⟩
      case round=>
       obtain⟨k,hk,rfl,ho,eG⟩:=hrel;have hbz:=eG.size;rcases(show k<nw\/nw=k by omega)with hlt|hkk
       .obtain⟨b,off,rfl,hb,fN⟩:=hw od;have m54:=0;exact zHl
       .subst hkk;clear hk;have oF:=gE ([AA,aG,aM,aC,aJ,round,(ns:Int)]++bH nd fr tq ns++[(nl:Int)]++fE lf lt lb lq nl++[frame,(nw:Int)]++bH wp wf wt nw);simp only[List.length_append,oW,yQ,List.length_cons,List.length_nil]at oF;have hbp:1<=(bytesOf ([AA,aG,aM,aC,aJ,round,(ns:Int)]++bH nd fr tq ns++[(nl:Int)]++fE lf lt lb lq nl++[frame,(nw:Int)]++bH wp wf wt nw)).length:=aG4 _ oe;obtain⟨N,hN⟩:∃N,(bytesOf ([AA,aG,aM,aC,aJ,round,(ns:Int)]++bH nd fr tq ns++[(nl:Int)]++fE lf lt lb lq nl++[frame,(nw:Int)]++bH wp wf wt nw)).length=N:=⟨_,rfl⟩;have hoN:=ho.out;rw[hN]at hoN hbp oF;have HNL:Hid ((bytesOf ([AA,aG,aM,aC,aJ,round,(ns:Int)]++bH nd fr tq ns++[(nl:Int)]++fE lf lt lb lq nl++[frame,(nw:Int)]++bH wp wf wt nw)).length=N):=hN;obtain⟨g1,bMj,rfl,hg1,L6⟩:=aCr hoN hbp;have HON:Hid (World.ownsRow _ _ _ _ _ _ _):=hoN;have bMr:decide ((2000:Int)<(N:Int))=false:=kD od;clear L6 ho hN hoN;go_wp2;go_ret2;refine⟨_,rfl,?_,hV.trans (eG.mono hV.size)⟩;have e:dP AA aG aM aC aJ round frame ns nl nw nd fr tq lf lt lb lq wp wf wt=[AA,aG,aM,aC,aJ,round,(ns:Int)]++bH nd fr tq ns++[(nl:Int)]++fE lf lt lb lq nl++[frame,(nw:Int)]++bH wp wf wt nw:=rfl;rw[e,HNL.out];exact aQ6 HON.out hV.size
 |have HX:Hid (gX w1 X E I):=hX;rcases hX with⟨_,h0,_⟩|⟨rfl,_,_⟩|⟨b,rfl,_⟩
  .exact absurd h0 HE.out
  .go_wp2;go_ret2;exact⟨_,rfl,HX.out,hV.trans (cV.mono hV.size)⟩
  .go_wp2;go_ret2;exact⟨_,rfl,HX.out,hV.trans (cV.mono hV.size)⟩):p:=h
theorem zK5(h:p:=by
 refine wp_region_held_drew (S:=λ_=>True) oh trivial (λaF=>?_);refine tk 0 aF ?_;refine tk 1 aF ?_;refine tk 2 aF ?_
 first
 |let _:=bKw;refine tk 3 aF ?_;refine tk 4 aF ?_;refine tk 6 aF ?_;refine tk 7 aF ?_;refine tk 8 aF ?_;refine rd2 5 9 (λK hK=>?_) λK hK=>?_
  .go_simp;refine kp hK (λaF=>?_) trivial;clear hK K;refine fJ 9 λK hK=>?_;exact zG6
  .have m39:=0;exact zG6
 |refine fJ 3 λK hK=>?_;go_simp;refine(ht 1).mono ?_;rintro ev u1 ⟨rfl,i6⟩;refine kp hK (λaF=>?_) trivial;clear hK K;refine fJ 4 λK hK=>?_;go_simp;refine(ha _).mono ?_;rintro ev u2 ⟨rfl,rfl⟩;exact⟨rfl,rfl,eZ i6⟩):p:=h
theorem zLd(h:p:=by
 have hB:bW w V:=hV▸(jD _ w).alloc (kG _) _
 first|let _:=bGs;have x0:V.cell? (aA w.1.size 0)=some (sV a 5 cap):=om;have x1:V.cell? (aA w.1.size 1)=some (sT tx):=om;have hC:=aGc n hn a cap tx V (hr.below hB)|have x0:V.cell? (aA w.1.size 0)=some (sV (some (aA b off)) (l.length+1) cap):=om;have n0:V.cell? (aA b off)=some (iI x):=bc hB oF ew;have xC:b<V.1.size:=kC oF hB.size;have hwV:w.1.size<V.1.size:=Ov;have hrV:bI V (some (aA b (off+1))) l:=(hr.below hB).rest;have hM:=λa' c' (q:bI V a' l)=>aN2 a' c' l x (V.drewN 1) q od
 have HD:Hid (∀u,bW w u->gW u):=λu hu=>hD u hu;have HB:Hid (bW w V):=hB
 first
 |let _:=bGs
  first|let _:=m35;have HL:Hid (∀u:WA,Calls prog 93 #[.agg #[iI (n.getD 0 0),iI (n.getD 1 0),iI (n.getD 2 0),iI (n.getD 3 0)],iI (n.getD 4 0)] u λe w'=>∃x,e=rT (tU #[iI x,dG (oQ (n.getD 0 0) (n.getD 1 0) (n.getD 2 0) (n.getD 3 0) (n.getD 4 0))])/\(oQ (n.getD 0 0) (n.getD 1 0) (n.getD 2 0) (n.getD 3 0) (n.getD 4 0)=0->x=oT (n.getD 0 0) (n.getD 1 0) (n.getD 2 0) (n.getD 3 0) (n.getD 4 0)/\jN x)/\bW u w'):=λu=>aLc _ _ _ _ _ u;have HE:Hid (∀w' e,bW V w'->e=(mM (oQ (n.getD 0 0) (n.getD 1 0) (n.getD 2 0) (n.getD 3 0) (n.getD 4 0)) (oT (n.getD 0 0) (n.getD 1 0) (n.getD 2 0) (n.getD 3 0) (n.getD 4 0))).ending->bK base S M O st N .real_ n tx w e w'):=λw' e q1 q2=>iK h hB q1 (k:=.real_) (n:=n) (tx:=tx) ⟨rfl,rfl⟩ q2;clear h hD hr hB hn;generalize oT (n.getD 0 0) (n.getD 1 0) (n.getD 2 0) (n.getD 3 0) (n.getD 4 0)=vl at *;generalize oQ (n.getD 0 0) (n.getD 1 0) (n.getD 2 0) (n.getD 3 0) (n.getD 4 0)=me at *|have HL:Hid (∀u:WA,Calls prog 92 #[.agg #[iI (n.getD 0 0),iI (n.getD 1 0),iI (n.getD 2 0),iI (n.getD 3 0)],iI (n.getD 4 0)] u λe w'=>∃x,e=rT (tU #[iI x,dG (jO (n.getD 0 0) (n.getD 1 0) (n.getD 2 0) (n.getD 3 0) (n.getD 4 0))])/\(jO (n.getD 0 0) (n.getD 1 0) (n.getD 2 0) (n.getD 3 0) (n.getD 4 0)=0->x=n.getD 1 0+(n.getD 4 0-n.getD 0 0)*n.getD 2 0/n.getD 3 0/\jN x)/\bW u w'):=λu=>aHb _ _ _ _ _ u;have HE:Hid (∀w' e,bW V w'->e=(mM (jO (n.getD 0 0) (n.getD 1 0) (n.getD 2 0) (n.getD 3 0) (n.getD 4 0)) (n.getD 1 0+(n.getD 4 0-n.getD 0 0)*n.getD 2 0/n.getD 3 0)).ending->bK base S M O st N .pB n tx w e w'):=λw' e q1 q2=>iK h hB q1 (k:=.pB) (n:=n) (tx:=tx) ⟨rfl,rfl⟩ q2;clear h hD hr hB hn;generalize n.getD 1 0+(n.getD 4 0-n.getD 0 0)*n.getD 2 0/n.getD 3 0=vl at *;generalize jO (n.getD 0 0) (n.getD 1 0) (n.getD 2 0) (n.getD 3 0) (n.getD 4 0)=me at *
  generalize n.getD 0 0=y0 at *;generalize n.getD 1 0=y1 at *;generalize n.getD 2 0=y2 at *;generalize n.getD 3 0=y3 at *;generalize n.getD 4 0=y4 at *
  first|let _:=m35;go_enter func54,ntmps54|go_enter func53,ntmps53
  exact zAw
 |have HE:Hid (∀w' e,bW V w'->e=(mM (eU l x) (fU l x)).ending->bK base S M O st N .gD (x::l) tx w e w'):=λw' e q1 q2=>iK h hB q1 (k:=.gD) (n:=x::l) (tx:=tx) (r:=mM (eU l x) (fU l x)) ⟨rfl,rfl⟩ q2;have HI:Hid (jN (fU l x)):=by have:=wU l x;exact⟨od,od⟩
  have HR:Hid (∀u q,bW w u->Calls prog 89 #[iI (fU l x),dG (eU l x)] (u.drewN q) λe w'=>e=(if eU l x=0 then rT (iI (fU l x))else dM (eU l x))/\bW u w'):=λu q hu=>(A2 _ _ (u.drewN q) (hD u hu).told).mono λ_ _ q=>⟨q.1,eZ q.2⟩;clear h hD hc hr hB;generalize fU l x=mv at *;generalize eU l x=me at *;by_cases L6:cap=1
  .subst L6;obtain rfl:l=[]:=List.eq_nil_of_length_eq_zero od;simp only[List.length_nil,Nat.zero_add]at hV x0 hM⊢;exact zHw
  .have hc2:cap≠1:=L6;have h1:(1:Int)<=(l.length:Int)+1:=od;have h2:(0:Int)<(l.length:Int)+1:=od;have m65:=0;exact zHw):p:=h
theorem zLk(h:p:=by
 go_enter func97,ntmps97;go_wp2_with fail;refine hP.mono ?_
 first
 |let _:=bGv;rintro e u1 ⟨rfl,hu⟩;have cV:bW w u1:=by exact zDz
  have hF:=Tryz.strconv_FormatInt_10 v h0 h1 u1 (hw u1 cV).tab;clear hP hu;go_wp2_with fail;refine hF.mono ?_;rintro e u2 ⟨rfl,k,os,dS⟩;have iT:bW w u2:=cV.trans ((dS▸below_grow u1 k os:bW u1 u2).mono cV.size);clear hF dS k os
  first|let _:=m38;generalize(⟨(Lib.itoa v).toArray⟩:WG)=x at he⊢;have hd:=aRx he|rw[he]
 |rintro e u1 ⟨N,rfl,_,_,cV⟩;clear hP
 go_wp2_with fail;refine(hA _).mono ?_;rintro e u3 ⟨rfl,rfl⟩
 first
 |let _:=bGv
  first|let _:=m38;exact⟨rfl,rfl,iT⟩|go_wp2_with fail;go_ret;exact⟨rfl,iT⟩
 |exact⟨rfl,rfl,cV⟩):p:=h
theorem zLp(h:p:=by
 have hB:bW w V:=hV▸(jD _ w).alloc (kG _) _;have hs:=h.below hB;have c0:V.cell? (aA S 10)=some (pP A.C):=by exact zAu
 obtain⟨hcu,hTN⟩:=hs.r.clu fa cs c rd T fN;have HB:Hid (bW w V):=hB;have HD:Hid (∀u,bW w u->gW u):=λu hu=>hD u hu
 first|let _:=bGx;have x0:V.cell? (aA w.1.size 0)=some (sV (some (aA b off)) 1 cap):=om;have n0:V.cell? (aA b off)=some (iI x):=bc hB oF ew;have xC:b<V.1.size:=kC oF hB.size;have hwV:w.1.size<V.1.size:=Ov;have uT:=hs.r.hi S hs.r.s|let _:=m48;have hC:=eK.spread hcu|have hC:=aDr.aS2 hcu
 have jM:=(eK.ok hcu).1
 first
 |let _:=bGx
  first
  |let _:=bKo;have hC:Calls prog 88 #[pP A.C,iI x] (V.drewN 1) λe w'=>e=rT (tU #[iI (bA (c.AA j).t st.aO.n),.bool (c.AA j).fz,.nilIface])/\Below (V.drewN 1).1.size (V.drewN 1) w':=E9;rw[hfz]at hC
   first|let _:=m21;have HE:Hid (∀w' e,bW V w'->e=(K0.ok (dW (bA (c.AA j).t st.aO.n))).ending->bK base S M O st N .eN [x] tx w e w'):=λw' e q1 q2=>iK h hB q1 (k:=.eN) (n:=[x]) (tx:=tx) ⟨fa,cs,c,rd,T,fN,rfl,.inl ⟨j,hj,hjn,by rw[hfz];rfl⟩⟩ q2|have HE:Hid (∀w' e,bW V w'->e=(K0.ok (dW (bA (c.AA j).t st.aO.n)++⟨#[32,102,114,111,122,101,110]⟩)).ending->bK base S M O st N .eN [x] tx w e w'):=λw' e q1 q2=>iK h hB q1 (k:=.eN) (n:=[x]) (tx:=tx) ⟨fa,cs,c,rd,T,fN,rfl,.inl ⟨j,hj,hjn,by rw[hfz];rfl⟩⟩ q2
   exact zAj
  |have hC:Calls prog 88 #[pP A.C,iI x] (V.drewN 1) λe w'=>e=rT (tU #[iI 0,.bool false,dG 2])/\Below (V.drewN 1).1.size (V.drewN 1) w':=aDr.members_bad x (eK.keep hcu (Same.of_below (bdN V 1) (eK.lt hcu))) hx;have HE:Hid (∀w' e,bW V w'->e=(K0.err 2).ending->bK base S M O st N .eN [x] tx w e w'):=λw' e q1 q2=>iK h hB q1 (k:=.eN) (n:=[x]) (tx:=tx) ⟨fa,cs,c,rd,T,fN,rfl,.inr ⟨hx,rfl⟩⟩ q2;exact zGp
 |first
  |let _:=m48;have HI:Hid (jN (eF (fG fa cs))):=by have h1:=jM.bCh;have h2:=jM.aO.bounds.s1;have h3:=N8 (fG fa cs);exact zFt
   have HE:Hid (∀w' e,bW V w'->e=(K0.ok (dW (eF (fG fa cs)))).ending->bK base S M O st N .mF n tx w e w'):=λw' e q1 q2=>iK h hB q1 (k:=.mF) (n:=n) (tx:=tx) ⟨fa,cs,c,rd,T,fN,rfl,rfl⟩ q2;clear h hD hB hs hcu jM hTN;generalize eF (fG fa cs)=sp at *;go_enter func50,ntmps50
  |have bF5:cs.length<=16:=by rw[jM.len];have:=jM.aO.bounds.n2;show st.aO.AA.toNat<=16;omega
   have HI:Hid (∀x∈cs,jN x):=λx hx=>by have:=jM.inn x hx;exact⟨od,od⟩
   have HE:Hid (∀w' e,bW V w'->e=(K0.ok (aCn cs)).ending->bK base S M O st N .lZ n tx w e w'):=λw' e q1 q2=>iK h hB q1 (k:=.lZ) (n:=n) (tx:=tx) ⟨fa,cs,c,rd,T,fN,rfl,rfl⟩ q2;clear h hD hB hs hcu jM hTN fN;obtain⟨i0,hi,qV,qO,qP⟩:=info_parts Tryz.aTb;go_enter func49,ntmps49
  go_wp2_with fail;refine hC.mono ?_
  first
  |let _:=m48;rintro ev u1 ⟨rfl,b1⟩;have hI:=oK sp HI.out u1 (HD.out u1 (HB.out.trans (b1.mono HB.out.size)));go_wp2_with fail;refine hI.mono ?_;rintro ev u2 ⟨rfl,dS⟩;go_wp2_with fail;go_ret;exact HE.out u2 _ (b1.trans (dS.mono b1.size)) rfl
  |rintro ev u1 ⟨a,cap,rfl,nJ,b1⟩;have HR:Hid (bI u1 a cs):=nJ;obtain⟨m,hm⟩:∃m,cs.length=m:=⟨_,rfl⟩;rw[hm]at bF5;have HM:Hid (cs.length=m):=hm;have oZ:Hid (bW V u1):=b1;rw[hm];clear nJ hm b1;go_wp2_with fail;go_loopw[5,14] (λlv iv wr=>∃k:Nat,iv=iI k/\k<=m/\wr.ownsRow u1.1.size 9 1 lv k (P5 (cs.take k))/\bW u1 wr) (λ_ iv _=>m-(intOf iv).toNat);case atStart=>exact⟨0,rfl,kI _,World.ownsRow_nil _ _ _ _,jD _ _⟩
   case round=>
    obtain⟨k,rfl,hk,cP,eG⟩:=hrel;have hsz:=eG.size;by_cases hlt:k<m
    .obtain⟨b,off,rfl,oF,fO⟩:=HR.out (by rw[HM.out];omega);have y0:wr.cell? (aA b (off+k))=some (iI (cs.getD k 0)):=bc eG oF (fO k (by rw[HM.out];exact hlt));have HIx:Hid (jN (cs.getD k 0)):=HI.out _ (by rw[List.getD_eq_getElem?_getD,AT (by rw[HM.out];exact hlt)];exact List.getElem_mem _);have HSu:Hid (P5 (cs.take (k+1))=P5 (cs.take k)++[sT (dW (cs.getD k 0))]):=aM0 cs k (by rw[HM.out];exact hlt);obtain⟨x,hx⟩:∃x,cs.getD k 0=x:=⟨_,rfl⟩;rw[hx]at y0 HIx HSu;clear hx fO;have hI:=oK x HIx.out wr (HD.out wr (HB.out.trans ((oZ.out.trans (eG.mono oZ.out.size)).mono HB.out.size)));go_wp2_with fail;refine hI.mono ?_;rintro ev w2 ⟨rfl,iT⟩;have aSv:=eG.trans (iT.mono eG.size);have L9:=aHj cP iT;have xG:=aSv.size;go_wp2_with(at_builtin;refine wpList_append_own _ rfl _ _ 22 rfl u1.1.size 9 i0 (sT ⟨#[]⟩) 1 16 underlying22 hi qV qO qP rfl og _ _ _ rfl (L9.alloc _) (aA w2.1.size 0) 1 1 [sT (dW x)] rfl rfl (cell_one_new _ _ _) (by intro u hu;simp at hu;subst hu;rfl) ot od ol ?_;intro v' w3 dI bT aGq);have sN:bW u1 w3:=(aSv.alloc xG _).grown bT ol (λg hg=>(L9.lt g hg).1);refine⟨⟨k+1,Od,od,by rw[HSu.out];exact dI,sN⟩,?_⟩;simp[intOf];omega
    .have:k=m:=by omega
     subst this;have hj:=aTc cs (by rw[HM.out];exact bF5) HI.out u1.1.size wr _ (by rw[HM.out];rw[List.take_of_length_le (Nat.le_of_eq HM.out)]at cP;exact cP);go_wp2_with fail;refine hj.mono ?_;rintro ev w2 ⟨rfl,iT⟩;go_wp2_with fail;go_ret;exact HE.out w2 _ (oZ.out.trans ((eG.trans (iT.mono eG.size)).mono oZ.out.size)) rfl):p:=h
theorem zLq(h:p:=by
 go_simp;(go_at_call 173;refine(cL _ _ _).mono ?_;rintro e u0 ⟨fv,rfl,hB,hu⟩;have hW:=aNn hW hu;obtain⟨c0,c1,c2,c3,c4,c5,c6,c7,c8,c9⟩:=hc.below hW);refine kp hK λaF=>?_;clear hK K
 first|let _:=bGy;refine fJ 7 λK hK=>?_|let _:=m62;refine fJ 3 λK hK=>?_|refine fJ 7 λK hK=>?_
 go_simp;refine kp hK λaF=>?_;clear hK K
 first
 |let _:=bGy;refine fJ 8 λK hK=>?_;go_simp
  first|let _:=m9;exact zMe|(go_at_call 172;refine(aDh false fv _ _ (aM) (aC) (aJ) u0.1.size _ _ (hB.alloc _) oe oe oe hd).mono ?_;rintro e x0 ⟨rfl,dS⟩;have hW:=jP hW dS;obtain⟨c0,c1,c2,c3,c4,c5,c6,c7,c8,c9⟩:=hc.below hW);exact zE5
 |let _:=m62;refine fJ 4 λK hK=>?_;go_simp;have bLl:=0;exact zMg
 |refine fJ 8 λK hK=>?_;go_simp;have bLj:=0;exact zMe):p:=h
theorem zLt(h:p:=by
 (go_at_call 172;refine(aDh true fv _ _ (aM) (aC) (aJ) u.1.size _ _ hB C2 hX1 hX2 G5).mono ?_;rintro e x0 ⟨rfl,dS⟩;have hW:=gM hW dS;obtain⟨c0,c1,c2,c3,c4,c5,c6,c7,c8,c9⟩:=hc.below hW)
 first|let _:=bL6;exact zKh|exact zAg):p:=h
theorem zLv(h:p:=by
 go_simp;(go_at_call 173;refine(cL _ _ _).mono ?_;rintro e u0 ⟨fv,rfl,hB,hu⟩;have hW:=aNn hW hu;obtain⟨c0,c1,c2,c3⟩:=hc.below hW);refine kp hK λaF=>?_;clear hK K
 first
 |let _:=bGz
  first
  |let _:=bGl
   first|let _:=m66;refine fJ 6 λK hK=>?_|refine fJ 3 λK hK=>?_
  |refine fJ 5 λK hK=>?_
 |refine fJ 6 λK hK=>?_
 go_simp;refine kp hK λaF=>?_;clear hK K
 first
 |let _:=bGz
  first
  |let _:=bGl
   first|let _:=m66;refine fJ 7 λK hK=>?_;go_simp;exact zMi|refine fJ 4 λK hK=>?_;go_simp;have bLo:=0;exact zMj
  |refine fJ 6 λK hK=>?_;go_simp
   first|let _:=m53;(go_at_call 172;refine(fD true fv _ _ (lf) u0.1.size _ _ (hB.alloc _) oe G5).mono ?_;rintro e x0 ⟨rfl,dS⟩;have hW:=jP hW dS;obtain⟨c0,c1,c2,c3⟩:=hc.below hW);exact zDp|(go_at_call 172;refine(fD false fv _ _ (lf) u0.1.size _ _ (hB.alloc _) oe hd).mono ?_;rintro e x0 ⟨rfl,dS⟩;have hW:=jP hW dS;obtain⟨c0,c1,c2,c3⟩:=hc.below hW);refine kp hK λaF=>?_;clear hK K;refine tk 7 aF ?_;exact zAe
 |refine fJ 7 λK hK=>?_;go_simp
  first|let _:=m19;have bLn:=0;exact zMi|(go_at_call 172;refine(fD false fv _ _ (lt) u0.1.size _ _ (hB.alloc _) oe hd).mono ?_;rintro e x0 ⟨rfl,dS⟩;have hW:=jP hW dS;obtain⟨c0,c1,c2,c3⟩:=hc.below hW);exact zE6):p:=h
theorem zLw(h:p:=by
 (go_at_call 172;refine(fD true fv _ _ (AA) V.1.size _ _ hB C2 G5).mono ?_;rintro e x0 ⟨rfl,dS⟩;have hW:=gM hW dS;obtain⟨c0,c1,c2,c3,c4,c5,c6,c7,c8,c9⟩:=hc.below hW)
 first|let _:=bL8;exact zGl|exact zAi):p:=h
theorem zLx(h:p:=by
 obtain⟨m,hm⟩:∃m,bA t n=m:=⟨_,rfl⟩;rw[hM]at eB⊢;rw[hm]at eB c2 HH;clear hid hM hm;go_enter func153,ntmps153;go_wp2;go_region_calls;all_goals go_wp2
 first
 |let _:=bL9
  first|(let _:=m28;all_goals exact bodyPost_end (v:=tU #[]) Oj rfl ⟨rfl,((HH.out.bad (b+1)).wT M).drawn 1,(((aW.refl _ _ _).set (p:=(aA P 5)) (.inl rfl) _).set (p:=(aA P 2)) (.inl rfl) _).trans (aW.drawn 1)⟩)|all_goals exact bodyPost_end (v:=tU #[]) Oj rfl ⟨rfl,(HH.out.wT M).drawn 1,((aW.refl _ _ _).set (p:=(aA P 2)) (.inl rfl) _).trans (aW.drawn 1)⟩
 |all_goals exact bodyPost_end (v:=tU #[]) Oj rfl ⟨rfl,((HH.out.bEp (g+1)).wT M).drawn 1,(((aW.refl _ _ _).set (p:=(aA P 4)) (.inl rfl) _).set (p:=(aA P 2)) (.inl rfl) _).trans (aW.drawn 1)⟩):p:=h
theorem zLy(h:p:=by
 refine kp hK (λaF=>?_) ⟨b0,b1,bc0,bc1,bc2,bc3,bc4,bc5,bc6,bc7,bc8,bc9⟩;clear hK K;refine tk 13 aF ?_;refine tk 14 aF ?_;refine fJ 15 λK hK=>?_;go_simp
 first|let _:=bH0;refine(aF3 (pP C) u1).mono ?_|refine(aI2 (.pointer none) u1 (HD.out u1 cV).told hE hk).mono ?_
 rintro ev u2 ⟨rfl,dS⟩
 first|(let _:=bH0;have d0:=bc dS (kC hwV cV.size) b0;have d1:=bc dS (kC xC cV.size) b1;have dc0:=bc dS (kC uT cV.size) bc0;have dc1:=bc dS (kC uT cV.size) bc1;have dc2:=bc dS (kC uT cV.size) bc2;have dc3:=bc dS (kC uT cV.size) bc3;have dc4:=bc dS (kC uT cV.size) bc4;have dc5:=bc dS (kC uT cV.size) bc5;have dc6:=bc dS (kC uT cV.size) bc6;have dc7:=bc dS (kC uT cV.size) bc7;have dc8:=bc dS (kC uT cV.size) bc8;have dc9:=bc dS (kC uT cV.size) bc9;refine kp hK (λaF=>?_) ⟨d0,d1,dc0,dc1,dc2,dc3,dc4,dc5,dc6,dc7,dc8,dc9⟩;clear hK K;refine tk 16 aF ?_;refine tk 17 aF ?_;have hk2:=HK.out u2 (cV.trans (dS.mono cV.size));have s0:=aN hk2 (i:=10) rfl;have z0:=bE hk2 (i:=10);clear hk2;refine fJ 18 λK hK=>?_;go_simp;refine kp hK (λaF=>?_) ⟨(aB (.inl hwS)).trans d0,(aB (.inl hbS)).trans d1,(aB (.inr og)).trans dc0,(aB (.inr og)).trans dc1,(aB (.inr og)).trans dc2,(aB (.inr og)).trans dc3,(aB (.inr og)).trans dc4,(aB (.inr og)).trans dc5,(aB (.inr og)).trans dc6,(aB (.inr og)).trans dc7,(aB (.inr og)).trans dc8,(aB (.inr og)).trans dc9⟩;clear hK K;refine dn ?_;go_wp2_with fail;all_goals(refine bodyPost_ret (v:=sT Kd.iV.name) (by simp[results,results41,go_sem];rfl) rfl ?_;exact aK4 u2 dS))|exact⟨rfl,aK4 u2 dS⟩):p:=h
theorem zLz(h:p:=by
 (go_at_call 172;refine(fD true fv _ _ (lt) u.1.size _ _ hB C2 G5).mono ?_;rintro e x0 ⟨rfl,dS⟩;have hW:=gM hW dS;obtain⟨c0,c1,c2,c3⟩:=hc.below hW)
 first|let _:=bLa;exact zHp|exact zE8):p:=h
theorem zL0(h:p:=by
 (go_at_call 172;refine(fD true fv _ _ (lb) u.1.size _ _ hB C2 G5).mono ?_;rintro e x0 ⟨rfl,dS⟩;have hW:=gM hW dS;obtain⟨c0,c1,c2,c3⟩:=hc.below hW)
 first|let _:=bLb;exact zMc|exact zAm):p:=h
theorem zL2(h:p:=by
 have hB:bW u V:=hV▸(jD _ u).alloc (kG _) _;have hs:=h.below hB
 first
 |let _:=bH2
  first
  |let _:=m75;obtain⟨va,vc,hvv⟩:∃a c,A.vL=sV a st.aO.nl c:=by exact zEp
   have c0:V.cell? (aA S 7)=some (sV va st.aO.nl vc):=hvv▸aN hs.blk (i:=7) rfl;have k0:decide ((st.aO.nl:Int)<8)=false:=kD od;have HE:Hid (bK base S M O st N .oP n tx u (dM 4) V):=⟨st,.err 4,M,O,A,.inr ⟨hns,rfl,rfl⟩,rfl,aR.of_below hB,hs.later (kU N)⟩;generalize st.aO.nl=nn at c0 k0
  |obtain⟨va,vc,hvv⟩:∃a c,A.vS=sV a st.aO.ns c:=by exact zEr
   have c0:V.cell? (aA S 6)=some (sV va st.aO.ns vc):=hvv▸aN hs.blk (i:=6) rfl;have k0:decide ((st.aO.ns:Int)<32)=false:=kD od;have HE:Hid (bK base S M O st N .oV n tx u (dM 4) V):=⟨st,.err 4,M,O,A,.inr ⟨hns,rfl,rfl⟩,rfl,aR.of_below hB,hs.later (kU N)⟩;generalize st.aO.ns=nn at c0 k0
  clear hs h hB hns
 |first
  |let _:=m8;obtain⟨va,vc,hvv⟩:∃a c,A.vL=sV a st.aO.nl c:=by exact zEp
   have c0:V.cell? (aA S 7)=some A.vL:=aN hs.blk (i:=7) rfl;have z0:=bE hs.blk (i:=7)
  |obtain⟨va,vc,hvv⟩:∃a c,A.vS=sV a st.aO.ns c:=by exact zEr
   have c0:V.cell? (aA S 6)=some A.vS:=aN hs.blk (i:=6) rfl;have z0:=bE hs.blk (i:=6)
  have hSl:=hs.r.hi S hs.r.s;have huS:=h.r.hi S h.r.s;have oF:u.1.size<V.1.size:=Ov;have x0:V.cell? (aA u.1.size 0)=some (iI (n.getD 0 0)):=om;have x1:V.cell? (aA u.1.size 1)=some (iI (n.getD 1 0)):=om;have x2:V.cell? (aA u.1.size 2)=some (iI (n.getD 2 0)):=om
  first|let _:=m8;have x3:V.cell? (aA u.1.size 3)=some (iI (n.getD 3 0)):=om|skip
  have eH:u.1.size≠S:=od
  first|(let _:=m8;have hbt:V.1[u.1.size]?=some (.cells #[iI (n.getD 0 0),iI (n.getD 1 0),iI (n.getD 2 0),iI (n.getD 3 0)] 124 (0,0)):=by rw[<-hV];exact heap_alloc_new u _)|have hbt:V.1[u.1.size]?=some (.cells #[iI (n.getD 0 0),iI (n.getD 1 0),iI (n.getD 2 0)] 120 (0,0)):=by rw[<-hV];exact heap_alloc_new u _
  have HNE:Hid (u.1.size≠S):=eH;have HLO:Hid (base<=V.1.size):=kH (hs.r.lo S hs.r.s) (kX hSl)
  first
  |let _:=m8;have aDd:Hid (∀w3 g c,(V.alloc (.cells #[iI (n.getD 0 0),iI (n.getD 1 0),iI (n.getD 2 0),iI (n.getD 3 0)] 124)).grownBy w3 A.vL.ownBlock->w3.ownsRow base 124 4 (sL g (st.aO.nl+1) c) (st.aO.nl+1) (cS st.aO.lf st.aO.lt st.aO.lb st.aO.lq st.aO.nl++[iI (n.getD 0 0),iI (n.getD 1 0),iI (n.getD 2 0),iI (n.getD 3 0)])->(A.vL.ownBlock=some g\/g=V.1.size+1)->g<w3.1.size->bK base S M O st N .oP n tx u (rT (sT (dW st.aO.nl))) (w3.setCell (aA S 7) (sL g (st.aO.nl+1) c))):=λw3 g c hg cP oX hlt=>by obtain⟨e1,e2⟩:=aTm hs hB n _ g c hg cP oX hlt hc hns hi;exact⟨_,.ok (dW st.aO.nl),_,_,_,.inl ⟨hns,rfl,rfl⟩,rfl,e1,e2⟩
   have hvb:A.vL.ownBlock≠some u.1.size:=λe=>by have:=h.r.hi _ (h.r.bL _ e);omega
   have hvS:A.vL.ownBlock≠some S:=λe=>jE hs.r.oL hs.blk og e rfl;have HOW:Hid ((V.alloc (.cells #[iI (n.getD 0 0),iI (n.getD 1 0),iI (n.getD 2 0),iI (n.getD 3 0)] 124)).ownsRow base 124 4 A.vL st.aO.nl (cS st.aO.lf st.aO.lt st.aO.lb st.aO.lq st.aO.nl)):=hs.r.oL.alloc _;have aJ3:Hid (∀(j:Nat) (x:WB),[iI (n.getD 0 0),iI (n.getD 1 0),iI (n.getD 2 0),iI (n.getD 3 0)][j]?=some x->(V.alloc (.cells #[iI (n.getD 0 0),iI (n.getD 1 0),iI (n.getD 2 0),iI (n.getD 3 0)] 124)).drew.cell? (((aA V.1.size 0):WT).add j)=some x):=aUu V _ _ _ _ _;have aNt:Hid (∀w3,(V.alloc (.cells #[iI (n.getD 0 0),iI (n.getD 1 0),iI (n.getD 2 0),iI (n.getD 3 0)] 124)).grownBy w3 A.vL.ownBlock->w3.cell? (aA u.1.size 0)=some (iI (n.getD 0 0))/\w3.cell? (aA u.1.size 1)=some (iI (n.getD 1 0))/\w3.cell? (aA u.1.size 2)=some (iI (n.getD 2 0))/\w3.cell? (aA u.1.size 3)=some (iI (n.getD 3 0))/\w3.cell? (aA S 7)=some A.vL/\w3.frozen? (aA S 7)=false):=λw3 hg=>by exact zKo
  |have aDd:Hid (∀w3 g c,(V.alloc (.cells #[iI (n.getD 0 0),iI (n.getD 1 0),iI (n.getD 2 0)] 120)).grownBy w3 A.vS.ownBlock->w3.ownsRow base 120 3 (sL g (st.aO.ns+1) c) (st.aO.ns+1) (bN st.aO.nd st.aO.fr st.aO.td st.aO.ns++[iI (n.getD 0 0),iI (n.getD 1 0),iI (n.getD 2 0)])->(A.vS.ownBlock=some g\/g=V.1.size+1)->g<w3.1.size->bK base S M O st N .oV n tx u (rT (sT (dW st.aO.ns))) (w3.setCell (aA S 6) (sL g (st.aO.ns+1) c))):=λw3 g c hg cP oX hlt=>by obtain⟨e1,e2⟩:=aVk hs hB n _ g c hg cP oX hlt hc hns;exact⟨_,.ok (dW st.aO.ns),_,_,_,.inl ⟨hns,rfl,rfl⟩,rfl,e1,e2⟩
   have hvb:A.vS.ownBlock≠some u.1.size:=λe=>by have:=h.r.hi _ (h.r.bS _ e);omega
   have hvS:A.vS.ownBlock≠some S:=λe=>jE hs.r.oS hs.blk og e rfl;have HOW:Hid ((V.alloc (.cells #[iI (n.getD 0 0),iI (n.getD 1 0),iI (n.getD 2 0)] 120)).ownsRow base 120 3 A.vS st.aO.ns (bN st.aO.nd st.aO.fr st.aO.td st.aO.ns)):=hs.r.oS.alloc _;have aJ3:Hid (∀(j:Nat) (x:WB),[iI (n.getD 0 0),iI (n.getD 1 0),iI (n.getD 2 0)][j]?=some x->(V.alloc (.cells #[iI (n.getD 0 0),iI (n.getD 1 0),iI (n.getD 2 0)] 120)).drew.cell? (((aA V.1.size 0):WT).add j)=some x):=aFk V _ _ _ _;have aNt:Hid (∀w3,(V.alloc (.cells #[iI (n.getD 0 0),iI (n.getD 1 0),iI (n.getD 2 0)] 120)).grownBy w3 A.vS.ownBlock->w3.cell? (aA u.1.size 0)=some (iI (n.getD 0 0))/\w3.cell? (aA u.1.size 1)=some (iI (n.getD 1 0))/\w3.cell? (aA u.1.size 2)=some (iI (n.getD 2 0))/\w3.cell? (aA S 6)=some A.vS/\w3.frozen? (aA S 6)=false):=λw3 hg=>by have bKr:=0;exact zKo
  have m0:∀o:Obj,(V.alloc o).cell? (aA u.1.size 0)=some (iI (n.getD 0 0)):=λo=>(((jD _ V).alloc (kG _) o).cell (p:=(aA u.1.size 0)) oF).trans x0;have m1:∀o:Obj,(V.alloc o).cell? (aA u.1.size 1)=some (iI (n.getD 1 0)):=λo=>(((jD _ V).alloc (kG _) o).cell (p:=(aA u.1.size 1)) oF).trans x1;have m2:∀o:Obj,(V.alloc o).cell? (aA u.1.size 2)=some (iI (n.getD 2 0)):=λo=>(((jD _ V).alloc (kG _) o).cell (p:=(aA u.1.size 2)) oF).trans x2
  first|let _:=m8;have m3:∀o:Obj,(V.alloc o).cell? (aA u.1.size 3)=some (iI (n.getD 3 0)):=λo=>(((jD _ V).alloc (kG _) o).cell (p:=(aA u.1.size 3)) oF).trans x3;have mc:∀o:Obj,(V.alloc o).cell? (aA S 7)=some A.vL:=λo=>(((jD _ V).alloc (kG _) o).cell (p:=(aA S 7)) hSl).trans c0;have k0:(st.aO.nl:Int)<8:=od;generalize cS st.aO.lf st.aO.lt st.aO.lb st.aO.lq st.aO.nl=cells at HOW aDd|have mc:∀o:Obj,(V.alloc o).cell? (aA S 6)=some A.vS:=λo=>(((jD _ V).alloc (kG _) o).cell (p:=(aA S 6)) hSl).trans c0;have k0:(st.aO.ns:Int)<32:=od;generalize bN st.aO.nd st.aO.fr st.aO.td st.aO.ns=cells at HOW aDd
 generalize n.getD 0 0=y0 at *;generalize n.getD 1 0=y1 at *;generalize n.getD 2 0=y2 at *
 first
 |let _:=bH2
  first|let _:=m75;generalize n.getD 3 0=y3 at *;go_enter func74,ntmps74|go_enter func73,ntmps73
  exact zD3
 |first|let _:=m8;generalize n.getD 3 0=y3 at *|skip
  rw[hvv]at c0 mc HOW aDd aNt
  first|let _:=m8;generalize st.aO.nl=nn at *|generalize st.aO.ns=nn at *
  clear hs h hB hbt hvb hvS hc hvv
  first|let _:=m8;go_enter func74,ntmps74|go_enter func73,ntmps73
  go_wp2_with fail;refine(hA _).mono ?_;rintro e u3 ⟨rfl,hu3⟩;replace hu3:=hu3.symm;subst hu3;go_wp2_with fail
  first|let _:=m8;refine wp_region_held_drew (S:=λv=>v.cell? (aA u.1.size 0)=some (iI y0)/\v.cell? (aA u.1.size 1)=some (iI y1)/\v.cell? (aA u.1.size 2)=some (iI y2)/\v.cell? (aA u.1.size 3)=some (iI y3)) oh ⟨x0,x1,x2,x3⟩ (λaF=>?_)|refine wp_region_held_drew (S:=λv=>v.cell? (aA u.1.size 0)=some (iI y0)/\v.cell? (aA u.1.size 1)=some (iI y1)/\v.cell? (aA u.1.size 2)=some (iI y2)) oh ⟨x0,x1,x2⟩ (λaF=>?_)
  refine tk 0 aF ?_;refine tk 1 aF ?_;refine tk 2 aF ?_;refine tk 4 aF ?_;refine rd2 3 5 (λK hK=>?_) (λK hK=>?_)
  .go_simp
   first|let _:=m8;refine kp hK (λaF=>?_) ⟨x0,x1,x2,x3⟩|refine kp hK (λaF=>?_) ⟨x0,x1,x2⟩
   clear hK K;refine fJ 5 λK hK=>?_
   first|let _:=m8;exact zAr|exact zAt
  .go_simp
   first|let _:=m8;refine kp hK (λaF=>?_) ⟨m0 _,m1 _,m2 _,m3 _⟩|refine kp hK (λaF=>?_) ⟨m0 _,m1 _,m2 _⟩
   clear hK K;refine fJ 3 λK hK=>?_
   first|let _:=m8;exact zAr|exact zAt):p:=h
theorem zL7(h:p:=by
 obtain⟨hc,hV⟩:=aRw AA aG aM aC aJ round frame sa la wa ns sc nl lc nw wc w 83;replace hs:=hs.below hV
 first
 |let _:=bLf
  first
  |let _:=aKf
   first|let _:=m5;go_enter func138,ntmps138|go_enter func136,ntmps136
  |go_enter func137,ntmps137
  go_wp2_with fail;generalize w.alloc (.cells #[iI AA,iI aG,iI aM,iI aC,iI aJ,iI round,sV sa ns sc,sV la nl lc,iI frame,sV wa nw wc] 83)=V at hc hV hs⊢
  first|let _:=aKf;refine(cL _ _ _).mono ?_;rintro ev V1 ⟨fv,rfl,hB,hu⟩;replace hc:=hc.below hu;replace hs:=hs.below hu;have hV1:bW w V1:=hV.trans (hu.mono hV.size)|skip
  obtain⟨x0,x1,x2,x3,x4,x5,x6,x7,x8,x9⟩:=hc
  first
  |let _:=aKf;have hwz:w.1.size<V1.1.size:=lt_of_cell x0;go_wp2_with fail
   first|let _:=m5;go_loopw[4,12] (λlv t wr=>∃k:Nat,k<=nw/\t=iI k/\lv=iI (qA tq k)/\Hid (∀j,j<k->lJ nd fr tq frame j=0)/\bW V1 wr) (λ_ t _=>nw-(intOf t).toNat)|go_loopw[4,15] (λlv t wr=>∃k:Nat,k<=ns/\t=iI k/\lv=iI (mZ tq aM k)/\Hid (∀j,j<k->fW nd fr tq AA aM round j=0)/\bW V1 wr) (λ_ t _=>ns-(intOf t).toNat)
   case atStart=>exact⟨0,kI _,rfl,rfl,λj hj=>absurd hj (kV _),jD _ _⟩
  |go_loopw[9] (λt wr=>∃k:Nat,k<=nl/\t=iI k/\Hid (∀j,j<k->cN lf lt lb lq hit AA pw j=0)/\bW V wr) (λt _=>nl-(intOf t).toNat);case atStart=>exact⟨0,kI _,rfl,λj hj=>absurd hj (kV _),jD _ _⟩
  case round=>
   first
   |let _:=aKf;obtain⟨k,hk,rfl,rfl,h0,eG⟩:=hrel
    first|let _:=m5;have y2:=aS x8 eG|have y2:=aS x2 eG;have y5:=aS x5 eG
   |obtain⟨k,hk,rfl,h0,eG⟩:=hrel;have y0:=aS x0 eG
   clear x0 x1 x2 x3 x4 x5 x6 x7 x8 x9
   first
   |let _:=aKf
    first|let _:=m5;by_cases hlt:k<nw|by_cases hlt:k<ns
   |by_cases hlt:k<nl
   .obtain⟨b,off,rfl,hb,wR⟩:=hs od
    first
    |let _:=aKf;obtain⟨r0,r1,r2⟩:=wR k hlt;replace r0:=aS r0 eG;replace r1:=aS r1 eG;replace r2:=aS r2 eG;clear wR hs
     first
     |let _:=m5;obtain⟨se,hse⟩:∃se,jF (fr k) (tq k) (qA tq k) frame=se:=⟨_,rfl⟩;have HS:Hid (∀u:WA,Calls prog 174 #[.agg #[iI (fr k),iI (tq k)],iI (qA tq k),iI frame] u λev w'=>ev=rT (iI se)/\bW u w'):=λu=>by rw[<-hse];exact xO _ _ _ _ _
      have C6:Hid (jF (fr k) (tq k) (qA tq k) frame=se):=hse
     |obtain⟨se,hse⟩:∃se,jF (fr k) (tq k) (mZ tq aM k) (round-aM-1)=se:=⟨_,rfl⟩;have HS:Hid (∀u:WA,Calls prog 174 #[.agg #[iI (fr k),iI (tq k)],iI (mZ tq aM k),iI (round-aM-1)] u λev w'=>ev=rT (iI se)/\bW u w'):=λu=>by rw[<-hse];exact xO _ _ _ _ _
      have C6:Hid (jF (fr k) (tq k) (mZ tq aM k) (round-aM-1)=se):=hse
     clear hse;have hwr:w.1.size<wr.1.size:=lt_of_cell y2;have hbr:b<wr.1.size:=lt_of_cell r0;go_wp2_with fail;refine(HS.out _).mono ?_;rintro ev w2 ⟨rfl,iT⟩;have hbt:bW V1 w2:=jP eG iT
     first|let _:=m5;have s0:=aS (show(wr.alloc (.cells #[iI (nd k),iI (fr k),iI (tq k)] 163)).cell? (aA wr.1.size 0)=some (iI (nd k))from by simp) iT;have s2:=aS (show(wr.alloc (.cells #[iI (nd k),iI (fr k),iI (tq k)] 163)).cell? (aA wr.1.size 2)=some (iI (tq k))from by simp) iT;clear y2 r0 r1 r2 HS|have z2:=aS (show(wr.alloc (.cells #[iI (nd k),iI (fr k),iI (tq k)] 120)).cell? (aA w.1.size 2)=_ from by rw[World.cell?_alloc_lt _ _ _ hwr];exact y2) iT;have s0:=aS (show(wr.alloc (.cells #[iI (nd k),iI (fr k),iI (tq k)] 120)).cell? (aA wr.1.size 0)=some (iI (nd k))from by simp) iT;have s2:=aS (show(wr.alloc (.cells #[iI (nd k),iI (fr k),iI (tq k)] 120)).cell? (aA wr.1.size 2)=some (iI (tq k))from by simp) iT;clear y2 y5 r0 r1 r2 HS
     by_cases hz:se=0;rotate_left
     .have hn:(se==0)=false:=by simpa using hz
      have hn2:(se !=0)=true:=by simpa using hz
      first|(let _:=m5;have HK:Hid (lJ nd fr tq frame k=se):=by show _=_;rw[wK,C6.out,kK hz])|have HK:Hid (fW nd fr tq AA aM round k=se):=by show _=_;rw[uB,C6.out,kK hz]
      have HZ:Hid (se≠0):=hz;clear hz;go_wp2_with fail
      first|let _:=m5;refine(zQ se (2000+k) HZ.out _).mono ?_|refine(zQ se k HZ.out _).mono ?_
      exact zB1
     .subst hz
      first|let _:=m5;have uO:Btw w2 fv 0 5:=hB.below hbt;go_wp2_with fail;by_cases hn:0<=nd k/\nd k<=5|obtain⟨g1,g2,g3⟩:=aR5 C6.out;have g4:=(aBo b1 h0.out).1;have uO:Btw w2 fv 0 (AA-1):=hB.below hbt;go_wp2_with fail;by_cases hn:0<=nd k/\nd k<=AA-1
      rotate_left
      .first|(let _:=m5;have hd:decide (0<=nd k/\nd k<=5)=false:=kD hn;have HK:Hid (lJ nd fr tq frame k=7):=by show _=_;rw[wK,C6.out,kJ oe,kK od])|have hd:decide (0<=nd k/\nd k<=AA-1)=false:=kD hn;have HK:Hid (fW nd fr tq AA aM round k=7):=by show _=_;rw[uB,C6.out,kJ oe,kK od]
       clear hn;refine(fD false fv _ _ (nd k) w2.1.size _ _ (uO.alloc _) oe hd).mono ?_;rintro ev w3 ⟨rfl,sN⟩;have hbu:=jP hbt sN;go_wp2_with fail
       first|let _:=m5;refine(zQ 7 (2000+k) og _).mono ?_|refine(zQ 7 k og _).mono ?_
       exact zB6
      .first|(let _:=m5;have hd:decide (0<=nd k/\nd k<=5)=true:=kF hn;have HK:Hid (lJ nd fr tq frame k=0):=by show _=_;rw[wK,C6.out,kJ oe,kJ od])|have hd:decide (0<=nd k/\nd k<=AA-1)=true:=kF hn;have HK:Hid (fW nd fr tq AA aM round k=0):=by show _=_;rw[uB,C6.out,kJ oe,kJ od]
       clear hn;refine(fD true fv _ _ (nd k) w2.1.size _ _ (uO.alloc _) oe hd).mono ?_;rintro ev w3 ⟨rfl,sN⟩;have hbu:=jP hbt sN
       first|let _:=m5|have z2':=aS (show(w2.alloc (.cells #[iI (nd k)] 3)).cell? (aA w.1.size 2)=_ from by rw[World.cell?_alloc_lt _ _ _ (lt_of_cell z2)];exact z2) sN
       have s2':=aS (show(w2.alloc (.cells #[iI (nd k)] 3)).cell? (aA wr.1.size 2)=_ from by rw[World.cell?_alloc_lt _ _ _ (lt_of_cell s2)];exact s2) sN
       first|(let _:=m5;have HL:Hid (qA tq (k+1)=tq k):=by show _=_;unfold qA;rw[kJ od];simp)|have HL:Hid (mZ tq aM (k+1)=tq k+aM+1):=by show _=_;unfold mZ;rw[kJ od];simp
       exact zC6
    |obtain⟨r0,r1,r2,r3⟩:=wR k hlt;have bG8:=0;exact zI9
   .first|let _:=aKf;exact zCw|go_wp2;go_ret;obtain⟨rfl,rfl⟩:=HF.out.at_end (λj hj=>h0.out j od);exact⟨_,rfl,.inl ⟨rfl,rfl⟩,hV.trans (eG.mono hV.size)⟩
 |replace hl:=hl.below hV;replace hw:=hw.below hV;go_enter func99,ntmps99;go_wp2_with fail;generalize w.alloc (.cells #[iI AA,iI aG,iI aM,iI aC,iI aJ,iI round,sV sa ns sc,sV la nl lc,iI frame,sV wa nw wc] 83)=V at hc hV hs hl hw⊢;refine(aRc AA aG aM aC aJ round frame sa la wa ns sc nl lc nw wc _).mono ?_;rintro ev w1 ⟨rfl,cV⟩;obtain⟨h,hh⟩:∃h,bZ AA aG aM aC aJ round frame ns nl nw=h:=⟨_,rfl⟩;rw[hh];by_cases hz:h=0;rotate_left
  .have hn:(h==0)=false:=by simpa using hz
   have hn2:(h !=0)=true:=by simpa using hz
   obtain⟨rfl,rfl⟩:=HC.out.head hh hz;have HZ:Hid (E≠0):=hz;clear hz hh;go_wp2;go_ret;exact⟨_,rfl,.inr (.inl ⟨rfl,HZ.out,rfl⟩),hV.trans (cV.mono hV.size)⟩
  .subst hz;have H0:=aEa hh;obtain⟨a1,a2,_,_,⟨b1,b2⟩,_,_,⟨c1,c2⟩,_,d1,d2,d3⟩:=H0;obtain⟨p1,p2⟩:=aL5 AA a1 a2;rw[HPW.out]at p1 p2;have HX:Hid (∃e1 i1 e2 i2 e3 i3,bX (fW nd fr tq AA aM round) ns e1 i1/\bX (cN lf lt lb lq hit AA pw) nl e2 i2/\bX (lJ wp wf wt frame) nw e3 i3/\tK e1 i1 e2 i2 e3 i3 E I):=by
    rcases HC.out with⟨q,_⟩|⟨_,q⟩
    .exact absurd hh q
    .exact q
   clear HC hh;obtain⟨e1,i1,e2,i2,e3,i3,g1,g2,g3,g4⟩:=HX.out;have HS:Hid (∀u:WA,bW V u->Calls prog 136 #[.agg #[iI AA,iI aG,iI aM,iI aC,iI aJ,iI round,sV sa ns sc,sV la nl lc,iI frame,sV wa nw wc]] u λev w'=>∃E,ev=rT E/\Q8 w' E e1 i1/\bW u w'):=λu hu=>aR4 AA aG aM aC aJ round frame sa la wa ns sc nl lc nw wc u a1 a2 b1 b2 c1 c2 d1 nd fr tq (hs.below hu) e1 i1 g1
   have HL:Hid (∀u:WA,bW V u->Calls prog 137 #[.agg #[iI AA,iI aG,iI aM,iI aC,iI aJ,iI round,sV sa ns sc,sV la nl lc,iI frame,sV wa nw wc]] u λev w'=>∃E,ev=rT E/\Q8 w' E e2 (1000+i2)/\bW u w'):=λu hu=>aPj AA aG aM aC aJ round frame sa la wa ns sc nl lc nw wc u a1 a2 d2 lf lt lb lq (hl.below hu) hit pw HPW.out p1 p2 HH.out e2 i2 g2
   have HW:Hid (∀u:WA,bW V u->Calls prog 138 #[.agg #[iI AA,iI aG,iI aM,iI aC,iI aJ,iI round,sV sa ns sc,sV la nl lc,iI frame,sV wa nw wc]] u λev w'=>∃E,ev=rT E/\Q8 w' E e3 (2000+i3)/\bW u w'):=λu hu=>aW6 AA aG aM aC aJ round frame sa la wa ns sc nl lc nw wc u d3 wp wf wt (hw.below hu) e3 i3 g3
   have HR:Hid (tK e1 i1 e2 i2 e3 i3 E I):=g4;clear HX g1 g2 g3 g4 HPW HH hs hl hw;obtain⟨x0,x1,x2,x3,x4,x5,x6,x7,x8,x9⟩:=hc.below cV;go_wp2_with fail;refine(HS.out _ cV).mono ?_;rintro ev w2 ⟨E1,rfl,hE1,iT⟩;have uO:=gM cV iT;clear x0 x1 x2 x3 x4 x5 x6 x7 x8 x9;by_cases z1:e1=0;rotate_left
   .obtain⟨b,rfl⟩:=hE1.isSome z1;have HE:Hid (gX w2 (.iface 265 (pP b)) E I):=by obtain⟨r1,r2⟩:=HR.out.1 z1;rw[r1,r2];exact hE1.err z1
    clear z1 hE1;go_wp2;go_ret;exact⟨_,rfl,HE.out,hV.trans (uO.mono hV.size)⟩
   subst z1;obtain rfl:=hE1.isNone;obtain⟨x0,x1,x2,x3,x4,x5,x6,x7,x8,x9⟩:=hc.below uO;go_wp2_with fail;refine(HL.out _ uO).mono ?_;rintro ev w3 ⟨E2,rfl,hE2,sN⟩;have qT:=gM uO sN;clear x0 x1 x2 x3 x4 x5 x6 x7 x8 x9;by_cases z2:e2=0;rotate_left
   .obtain⟨b,rfl⟩:=hE2.isSome z2;have HE:Hid (gX w3 (.iface 265 (pP b)) E I):=by obtain⟨r1,r2⟩:=HR.out.2.1 rfl z2;rw[r1,r2];exact hE2.err z2
    clear z2 hE2;go_wp2;go_ret;exact⟨_,rfl,HE.out,hV.trans (qT.mono hV.size)⟩
   subst z2;obtain rfl:=hE2.isNone;obtain⟨x0,x1,x2,x3,x4,x5,x6,x7,x8,x9⟩:=hc.below qT;go_wp2_with fail;refine(HW.out _ qT).mono ?_;rintro ev w4 ⟨E3,rfl,hE3,hb4⟩;have hB4:=gM qT hb4;have HE:Hid (gX w4 E3 E I):=by
    by_cases z3:e3=0
    .subst z3;obtain rfl:=hE3.isNone;exact .inl ⟨rfl,HR.out.bJ4 rfl rfl rfl⟩
    .obtain⟨r1,r2⟩:=HR.out.win rfl rfl z3;rw[r1,r2];exact hE3.err z3
   clear x0 x1 x2 x3 x4 x5 x6 x7 x8 x9 hE3;go_wp2;go_ret;exact⟨_,rfl,HE.out,hV.trans (hB4.mono hV.size)⟩):p:=h
theorem zMc(h:p:=by
 refine kp hK λaF=>?_;clear hK K
 first
 |let _:=aPq
  first|let _:=aPp;refine tk 5 aF ?_;refine tk 6 aF ?_;refine tk 7 aF ?_;refine tk 8 aF ?_|skip
  refine tk 9 aF ?_;refine tk 10 aF ?_;refine tk 12 aF ?_;refine tk 13 aF ?_
  first|let _:=aPp;refine rd2 11 14 (λK hK=>?_) λK hK=>?_|refine tk 14 aF ?_;refine tk 15 aF ?_;refine rd2 11 16 (λK hK=>?_) λK hK=>?_
 |refine tk 5 aF ?_;refine tk 6 aF ?_;refine tk 8 aF ?_;refine tk 9 aF ?_;refine rd2 7 10 (λK hK=>?_) λK hK=>?_
 .go_simp
  first|let _:=aPq;(go_at_call 173;refine(cL _ _ _).mono ?_;rintro e u1 ⟨fv,rfl,hB,hu⟩;have hW:=gM hW hu;obtain⟨c0,c1,c2,c3,c4,c5,c6,c7,c8,c9⟩:=hc.below hW)|(go_at_call 173;refine(cL _ _ _).mono ?_;rintro e u1 ⟨fv,rfl,hB,hu⟩;have hW:=gM hW hu;obtain⟨c0,c1,c2,c3⟩:=hc.below hW)
  refine kp hK λaF=>?_;clear hK K
  first
  |let _:=aPq
   first|let _:=aPp;refine fJ 14 λK hK=>?_|refine fJ 16 λK hK=>?_
  |refine fJ 10 λK hK=>?_
  go_simp;refine kp hK λaF=>?_;clear hK K
  first
  |let _:=aPq
   first
   |let _:=aPp;refine fJ 15 λK hK=>?_;go_simp
    first|let _:=m18;(go_at_call 172;refine(fD true fv _ _ (aG) u1.1.size _ _ (hB.alloc _) oe G6).mono ?_;rintro e x1 ⟨rfl,dS⟩;have hW:=jP hW dS;obtain⟨c0,c1,c2,c3,c4,c5,c6,c7,c8,c9⟩:=hc.below hW);exact zFh|(go_at_call 172;refine(fD false fv _ _ (aG) u1.1.size _ _ (hB.alloc _) oe G6).mono ?_;rintro e x1 ⟨rfl,dS⟩;have hW:=jP hW dS;obtain⟨c0,c1,c2,c3,c4,c5,c6,c7,c8,c9⟩:=hc.below hW);exact zFp
   |refine fJ 17 λK hK=>?_;go_simp
    first|let _:=m17;(go_at_call 172;refine(aDg false fv _ _ (round) (frame) u1.1.size _ _ (hB.alloc _) oe oe G6).mono ?_;rintro e x1 ⟨rfl,dS⟩;have hW:=jP hW dS;obtain⟨c0,c1,c2,c3,c4,c5,c6,c7,c8,c9⟩:=hc.below hW);exact zFo|(go_at_call 172;refine(aDg true fv _ _ (round) (frame) u1.1.size _ _ (hB.alloc _) oe oe G6).mono ?_;rintro e x1 ⟨rfl,dS⟩;have hW:=jP hW dS;obtain⟨c0,c1,c2,c3,c4,c5,c6,c7,c8,c9⟩:=hc.below hW);exact zFf
  |refine fJ 11 λK hK=>?_;go_simp
   first|let _:=m23;(go_at_call 172;refine(fD true fv _ _ (lq) u1.1.size _ _ (hB.alloc _) oe G6).mono ?_;rintro e x1 ⟨rfl,dS⟩;have hW:=jP hW dS;obtain⟨c0,c1,c2,c3⟩:=hc.below hW)|(go_at_call 172;refine(fD false fv _ _ (lq) u1.1.size _ _ (hB.alloc _) oe G6).mono ?_;rintro e x1 ⟨rfl,dS⟩;have hW:=jP hW dS;obtain⟨c0,c1,c2,c3⟩:=hc.below hW)
   exact zE9
 .go_simp;refine kp hK λaF=>?_;clear hK K
  first
  |let _:=aPq;refine fJ 11 λK hK=>?_;go_simp
   first|let _:=aPp;(go_at_call 173;refine(cL _ _ _).mono ?_;rintro e u1 ⟨fv,rfl,hB,hu⟩;have C2:=aS (a:=(aA x0.1.size 0)) (v:=iI aG) oe hu;have hW:=jP hW hu;obtain⟨c0,c1,c2,c3,c4,c5,c6,c7,c8,c9⟩:=hc.below hW)|(go_at_call 173;refine(cL _ _ _).mono ?_;rintro e u1 ⟨fv,rfl,hB,hu⟩;have C2:=aS (a:=(aA x0.1.size 0)) (v:=iI round) oe hu;have hX1:=aS (a:=(aA x0.1.size 1)) (v:=iI frame) oe hu;have hW:=jP hW hu;obtain⟨c0,c1,c2,c3,c4,c5,c6,c7,c8,c9⟩:=hc.below hW)
  |refine fJ 7 λK hK=>?_;go_simp;(go_at_call 173;refine(cL _ _ _).mono ?_;rintro e u1 ⟨fv,rfl,hB,hu⟩;have C2:=aS (a:=(aA x0.1.size 0)) (v:=iI lq) oe hu;have hW:=jP hW hu;obtain⟨c0,c1,c2,c3⟩:=hc.below hW)
  refine kp hK λaF=>?_;clear hK K
  first
  |let _:=aPq
   first
   |let _:=aPp;refine fJ 15 λK hK=>?_;go_simp
    first|let _:=m18;(go_at_call 172;refine(fD true fv _ _ (aG) x0.1.size _ _ hB C2 G6).mono ?_;rintro e x1 ⟨rfl,dS⟩;have hW:=gM hW dS;obtain⟨c0,c1,c2,c3,c4,c5,c6,c7,c8,c9⟩:=hc.below hW);exact zFh|(go_at_call 172;refine(fD false fv _ _ (aG) x0.1.size _ _ hB C2 G6).mono ?_;rintro e x1 ⟨rfl,dS⟩;have hW:=gM hW dS;obtain⟨c0,c1,c2,c3,c4,c5,c6,c7,c8,c9⟩:=hc.below hW);exact zFp
   |refine fJ 17 λK hK=>?_;go_simp
    first|let _:=m17;(go_at_call 172;refine(aDg false fv _ _ (round) (frame) x0.1.size _ _ hB C2 hX1 G6).mono ?_;rintro e x1 ⟨rfl,dS⟩;have hW:=gM hW dS;obtain⟨c0,c1,c2,c3,c4,c5,c6,c7,c8,c9⟩:=hc.below hW);exact zFo|(go_at_call 172;refine(aDg true fv _ _ (round) (frame) x0.1.size _ _ hB C2 hX1 G6).mono ?_;rintro e x1 ⟨rfl,dS⟩;have hW:=gM hW dS;obtain⟨c0,c1,c2,c3,c4,c5,c6,c7,c8,c9⟩:=hc.below hW);exact zFf
  |refine fJ 11 λK hK=>?_;go_simp
   first|let _:=m23;(go_at_call 172;refine(fD true fv _ _ (lq) x0.1.size _ _ hB C2 G6).mono ?_;rintro e x1 ⟨rfl,dS⟩;have hW:=gM hW dS;obtain⟨c0,c1,c2,c3⟩:=hc.below hW)|(go_at_call 172;refine(fD false fv _ _ (lq) x0.1.size _ _ hB C2 G6).mono ?_;rintro e x1 ⟨rfl,dS⟩;have hW:=gM hW dS;obtain⟨c0,c1,c2,c3⟩:=hc.below hW)
   exact zE9):p:=h
theorem zMe(h:p:=by
 (go_at_call 172;refine(aDh true fv _ _ (aM) (aC) (aJ) u0.1.size _ _ (hB.alloc _) oe oe oe G5).mono ?_;rintro e x0 ⟨rfl,dS⟩;have hW:=jP hW dS;obtain⟨c0,c1,c2,c3,c4,c5,c6,c7,c8,c9⟩:=hc.below hW)
 first|let _:=bLj;exact zKh|exact zAg):p:=h
theorem zMg(h:p:=by
 (go_at_call 172;refine(fD true fv _ _ (AA) u0.1.size _ _ (hB.alloc _) oe G5).mono ?_;rintro e x0 ⟨rfl,dS⟩;have hW:=jP hW dS;obtain⟨c0,c1,c2,c3,c4,c5,c6,c7,c8,c9⟩:=hc.below hW)
 first|let _:=bLl;exact zAi|exact zGl):p:=h
theorem zMi(h:p:=by
 (go_at_call 172;refine(fD true fv _ _ (lt) u0.1.size _ _ (hB.alloc _) oe G5).mono ?_;rintro e x0 ⟨rfl,dS⟩;have hW:=jP hW dS;obtain⟨c0,c1,c2,c3⟩:=hc.below hW)
 first|let _:=bLn;exact zE8|exact zHp):p:=h
theorem zMj(h:p:=by
 (go_at_call 172;refine(fD true fv _ _ (lb) u0.1.size _ _ (hB.alloc _) oe G5).mono ?_;rintro e x0 ⟨rfl,dS⟩;have hW:=jP hW dS;obtain⟨c0,c1,c2,c3⟩:=hc.below hW)
 first|let _:=bLo;exact zAm|exact zMc):p:=h
theorem zMm(h:p:=by
 go_simp;refine kp hK λaF=>?_;clear hK K;refine fJ 0 λK hK=>?_;go_simp
 first
 |let _:=bH6
  first|let _:=aXs;(go_at_call 173;refine(cL _ _ _).mono ?_;rintro e u0 ⟨fv,rfl,hB,hu⟩;have C2:=aS (a:=(aA u.1.size 0)) (v:=iI lb) oe hu;have hW:=zH hW hu;obtain⟨c0,c1,c2,c3⟩:=hc.below hW)|(go_at_call 173;refine(cL _ _ _).mono ?_;rintro e u0 ⟨fv,rfl,hB,hu⟩;have C2:=aS (a:=(aA V.1.size 0)) (v:=iI AA) oe hu;have hW:=zH hW hu;obtain⟨c0,c1,c2,c3,c4,c5,c6,c7,c8,c9⟩:=hc.below hW)
 |let _:=bG9;(go_at_call 173;refine(cL _ _ _).mono ?_;rintro e u0 ⟨fv,rfl,hB,hu⟩;have C2:=aS (a:=(aA V.1.size 0)) (v:=iI AA) oe hu;have hW:=zH hW hu;obtain⟨c0,c1,c2,c3,c4,c5,c6,c7,c8,c9⟩:=hc.below hW)
 |(go_at_call 173;refine(cL _ _ _).mono ?_;rintro e u0 ⟨fv,rfl,hB,hu⟩;have C2:=aS (a:=(aA u.1.size 0)) (v:=iI lb) oe hu;have hW:=zH hW hu;obtain⟨c0,c1,c2,c3⟩:=hc.below hW)
 refine kp hK λaF=>?_;clear hK K;refine fJ 4 λK hK=>?_;go_simp
 first
 |let _:=bH6
  first
  |let _:=aXs
   first|let _:=m16;have bLb:=0;exact zL0|(go_at_call 172;refine(fD false fv _ _ (lb) u.1.size _ _ hB C2 hd).mono ?_;rintro e x0 ⟨rfl,dS⟩;have hW:=gM hW dS;obtain⟨c0,c1,c2,c3⟩:=hc.below hW);exact zE7
  |let _:=m15;have bL8:=0;exact zLw
  |(go_at_call 172;refine(fD false fv _ _ (AA) V.1.size _ _ hB C2 hd).mono ?_;rintro e x0 ⟨rfl,dS⟩;have hW:=gM hW dS;obtain⟨c0,c1,c2,c3,c4,c5,c6,c7,c8,c9⟩:=hc.below hW);exact zE3
 |let _:=bG9;exact zLw
 |exact zL0):p:=h
theorem zMq(h:p:=by
 have HV0:Hid (aR O O w V):=aR.of_below vH;have hc:=h.below vH
 first|let _:=bCb;have HX:Hid ((w.1.size∉O/\w.1.size+1∉O/\w.1.size+1+1∉O)/\V.1.size=w.1.size+3):=⟨⟨λy=>kW _ (h.lt _ y),λy=>by have:=h.lt _ y;omega,λy=>by have:=h.lt _ y;omega⟩,hsz⟩;have HBR:Hid _:=bR;have HBS:Hid _:=bS;have HBF:Hid _:=bF;have HZ:Hid _:=And.intro zR zF|let _:=bC7;have HX:Hid ((w.1.size∉O/\w.1.size+1∉O/\w.1.size+1+1∉O)/\V.1.size=w.1.size+3):=⟨⟨λy=>kW _ (h.lt _ y),λy=>by have:=h.lt _ y;omega,λy=>by have:=h.lt _ y;omega⟩,hsz⟩;have HBR:Hid _:=bR;have HBS:Hid _:=bS;have HBF:Hid _:=bF;have HZ:Hid _:=And.intro zR zF|skip
 have HI0:Hid (dC O V V C p fa cs s rd B m):=⟨O,aR.refl _ _,hc⟩
 first|let _:=bCb;have HN:Hid (p.n<=16/\AE<p.n/\p.AA=p.n/\1<=B):=⟨hn,hwn,pA,T6⟩;have c13:=hc.base.c13;have cnd:=hc.base.nd AE hwn;have hnb:=hc.base.lx _ hc.base.ndX;have hlV:=hc.base.lc;have b0:V.cell? (aA (w.1.size+1) 0)=some (iI AE):=bS 0 _ rfl;have hse:=λ(u:Nat)=>aMm (HI0.out.drawn u) AE hwn T6;have C6:Hid _:=hse|let _:=bC7;have HN:Hid (p.n<=16/\AE<p.n/\p.AA=p.n/\1<=B):=⟨hn,hwn,pA,T6⟩;have c13:=hc.base.c13;have cnd:=hc.base.nd AE hwn;have hnb:=hc.base.lx _ hc.base.ndX;have hlV:=hc.base.lc;have b0:V.cell? (aA (w.1.size+1) 0)=some (iI AE):=bS 0 _ rfl;have hse:=λ(u:Nat)=>aMm (HI0.out.drawn u) AE hwn T6;have C6:Hid _:=hse|have HX:Hid ((w.1.size∉O/\w.1.size+1∉O)/\(∀(i':Nat) (v:WB),(#[iI AE,iI i,iI mem,iI lk,iI q,sT d]:Array WB)[i']?=some v->V.cell? (aA w.1.size i')=some v)/\(∀(i':Nat) (v:WB),(#[iI l0,iI l1]:Array WB)[i']?=some v->V.cell? (aA (w.1.size+1) i')=some v)/\V.1.size=w.1.size+2):=⟨⟨λy=>kW _ (h.lt _ y),λy=>by have:=h.lt _ y;omega⟩,bx,by2,hsz⟩;have c13:=hc.base.c13;have qN:=hc.base.lc;have HN:Hid (p.n<=16/\AE<p.n/\B<=9999000):=⟨hn,aA6,hB⟩;have bJ8:=hVe.symm
 obtain⟨n,hpn⟩:∃n,p.n=n:=⟨_,rfl⟩;have C1:Hid (p.n=n):=hpn
 first
 |let _:=bCb;have bLm:=0;exact zMh
 |let _:=bC7;exact zMh
 |rw[hpn]at c13 hn aA6⊢;clear h hc vH hVe bx by2 hpn hB;go_enter func117,ntmps117;go_wp2_with fail;clear bJ8 c13 hsz qN HM;go_loopw[18] (λt wr=>∃j:Nat,j<=n/\t=iI j/\Hid (dC O V wr C p fa cs (s.bY p AE mem mk aI l0 l1 j) rd (B+5*j) m)) (λt _=>n-(intOf t).toNat);case atStart=>exact⟨0,kI _,rfl,HI0⟩
  case round=>
   obtain⟨j,hj,rfl,HI⟩:=hrel;by_cases hlt:j<n
   .have jj:(j:Int)<(n:Int):=by omega
    have cnd:=HI.out.base.nd j (by rw[C1.out];exact hlt);have hnb:=HI.out.base.lx _ HI.out.base.ndX;have T9:w.1.size<wr.1.size:=by have:=HI.out.size;have:=HX.out.2.2.2;omega
    have bMo:w.1.size+1<wr.1.size:=by have:=HI.out.size;have:=HX.out.2.2.2;omega
    have f0:wr.cell? (aA w.1.size 0)=some (iI AE):=(HI.out.box Ej HX.out.1.1 0).trans (HX.out.2.1 0 _ rfl);have a0:wr.cell? (aA (w.1.size+1) 0)=some (iI l0):=(HI.out.box Ej HX.out.1.2 0).trans (HX.out.2.2.1 0 _ rfl);have a1:wr.cell? (aA (w.1.size+1) 1)=some (iI l1):=(HI.out.box Ej HX.out.1.2 1).trans (HX.out.2.2.1 1 _ rfl);have HLT:Hid (j<n):=hlt;by_cases hwj:j=AE
    .have HI2:Hid (dC O V wr C p fa cs (s.bY p AE mem mk aI l0 l1 (j+1)) rd (B+5*(j+1)) m):=by have e:s.bY p AE mem mk aI l0 l1 (j+1)=s.bY p AE mem mk aI l0 l1 j:=kK hwj;show dC _ _ _ _ _ _ _ _ _ _ _;rw[e];exact HI.out.more od
     subst hwj;clear HI a0 a1;exact zD8
    .have kw:((j:Int)==(AE:Int))=false:=by simp;omega
     have HW:Hid (¬j=AE):=hwj;clear hwj;go_wp2_with fail;clear f0 a0 a1 cnd kw;go_loopw[10,28] (λx t v=>∃c:Nat,c<=2/\t=iI c/\x=iI (if cO aI l0 l1 j c=true then fZ p.n (s.AA j).t (tb mem) AE mem else 0)/\Hid (dC O V v C p fa cs (if cO aI l0 l1 j c=true then(s.bY p AE mem mk aI l0 l1 j).gN p mk j else s.bY p AE mem mk aI l0 l1 j) rd (B+5*j+2*c) m)) (λ_ t _=>2-(intOf t).toNat);case atStart=>
      refine⟨0,og,rfl,?_,?_⟩
      .rw[Y7];rfl
      .rw[Y7];exact HI
     case round=>
      clear HI;obtain⟨c,hc,rfl,rfl,HJ⟩:=hrel;have HJN:Hid ((if cO aI l0 l1 j c=true then(s.bY p AE mem mk aI l0 l1 j).gN p mk j else s.bY p AE mem mk aI l0 l1 j).AA j=s.AA j):=by
       show _=_;split
       .rw[wG];exact tT j j (kG _)
       .exact tT j j (kG _)
      by_cases hc2:c<2
      .have hix:=bM1 l0 l1 c hc2;have cc2:(c:Int)<2:=od;have HS:=aJf aI l0 l1 j c hc2;have HSU:Hid (cO aI l0 l1 j (c+1)=(cO aI l0 l1 j c||(aI&& !aX (if c=0 then l0 else l1) j))):=HS;clear HS;have bIk:Hid (j<=16):=by show j<=16;omega
       generalize(if c=0 then l0 else l1)=lc at *;have vK:=λv=>vC lc j bIk.out v;cases hs:aI&& !aX lc j
       .have HE:Hid (cO aI l0 l1 j (c+1)=cO aI l0 l1 j c):=by show _=_;rw[HSU.out,hs,Bool.or_false]
        have HJ2:Hid (dC O V wr C p fa cs (if cO aI l0 l1 j (c+1)=true then(s.bY p AE mem mk aI l0 l1 j).gN p mk j else s.bY p AE mem mk aI l0 l1 j) rd (B+5*j+2*(c+1)) m):=by show dC _ _ _ _ _ _ _ _ _ _ _;rw[HE.out];exact HJ.out.more od
        clear HJ HSU;generalize hWH:(if cO aI l0 l1 j c=true then fZ p.n (s.AA j).t (tb mem) AE mem else 0)=WH;have HWH:Hid (WH=(if cO aI l0 l1 j (c+1)=true then fZ p.n (s.AA j).t (tb mem) AE mem else 0)):=by show _=_;rw[HE.out];exact hWH.symm
        clear hWH HE HJN;cases aI
        .clear vK hs;exact zDo
        .have iT:aX lc j=true:=by simpa using hs
         rw[iT]at vK;clear hs iT;go_wp2_with fail;refine(vK _).mono ?_;rintro e v1 ⟨rfl,hv⟩;replace hv:=hv.symm;subst hv;exact zDo
       .have aMt:aI=true:=by cases aI<;>simp_all
        have iT:aX lc j=false:=by cases aI<;>simp_all
        have HE:Hid (cO aI l0 l1 j (c+1)=true):=by show _=_;rw[HSU.out,hs,Bool.or_true]
        rw[iT]at vK;exact zIe
      .obtain rfl:c=2:=by omega
       have m83:=0;exact zIe
   .have hjn:j=n:=by omega
    have HD:Hid (∃O',aR O O' w wr/\Cl wr O' C p fa cs (s.bY p AE mem mk aI l0 l1 n) rd (B+5*n) m):=by obtain⟨O',h1,h2⟩:=HI.out;rw[hjn]at h2;exact⟨O',HV0.out.trans h1,h2⟩
    have kk:decide (j<n)=false:=kD od;clear hjn hlt HI;go_wp2;exact bodyPost_end (v:=tU #[]) (by simp[results,results117,go_sem]) rfl ⟨rfl,HD.out⟩):p:=h
theorem zMr(h:p:=by
 refine tk 8 aF ?_;refine tk 9 aF ?_;refine tk 10 aF ?_;refine tk 11 aF ?_;refine tk 12 aF ?_;refine tk 13 aF ?_;refine tk 14 aF ?_
 first
 |let _:=bLu
  first
  |let _:=aKe
   first|let _:=m20;refine tk 15 aF ?_;refine tk 16 aF ?_;refine fJ 17 λK hK=>?_|refine fJ 15 λK hK=>?_
   go_simp;refine Calls.mono HC.out ?_;intro e u1 hd;have G6:=HP.out e u1 hd;obtain⟨pO,r,M',O',A',h1,rfl,hf,h4⟩:=hd
   first
   |let _:=m20
    cases r with
    |inl k=>exact⟨rfl,G6⟩
    |inr s=>
     have fO:u1.cell? (aA b off)=some (iI y0)/\u1.cell? (aA b (off+1))=some (iI y1)/\u1.cell? (aA b (off+2))=some (iI y2)/\u1.cell? (aA b (off+3))=some (iI y3):=⟨(hf.cell (p:=(aA b off)) xC HBO.out).trans n0,(hf.cell (p:=(aA b (off+1))) xC HBO.out).trans n1,(hf.cell (p:=(aA b (off+2))) xC HBO.out).trans n2,(hf.cell (p:=(aA b (off+3))) xC HBO.out).trans n3⟩
     clear hf h4 h1
     refine kp hK (λaF=>?_) fO
     clear hK K
     refine fJ 18 λK hK=>?_
     go_simp
     refine kp hK (λaF=>?_) fO
     clear hK K
     refine dn ?_
     go_wp2_with fail
     go_ret
     exact G6
    skip
   |cases r with
    |inl k=>exact⟨rfl,G6⟩
    |inr s=>
     have fO:u1.cell? (aA b off)=some (iI y0)/\u1.cell? (aA b (off+1))=some (iI y1)/\u1.cell? (aA b (off+2))=some (iI y2):=⟨(hf.cell (p:=(aA b off)) xC HBO.out).trans n0,(hf.cell (p:=(aA b (off+1))) xC HBO.out).trans n1,(hf.cell (p:=(aA b (off+2))) xC HBO.out).trans n2⟩
     clear hf h4 h1
     refine kp hK (λaF=>?_) fO
     clear hK K
     refine fJ 16 λK hK=>?_
     go_simp
     refine kp hK (λaF=>?_) fO
     clear hK K
     refine dn ?_
     go_wp2_with fail
     go_ret
     exact G6
    skip
  |refine tk 15 aF ?_;refine rd2 5 16 (λK hK=>?_) (λK hK=>?_)
   .go_simp;refine kp hK (λaF=>?_) ⟨n0,n1,n2⟩;clear hK K;refine fJ 16 λK hK=>?_
    first|let _:=m3;exact zE2|exact zE1
   .go_simp;refine kp hK (λaF=>?_) ⟨m0 _,m1 _,m2 _⟩;clear hK K;refine fJ 5 λK hK=>?_
    first|let _:=m3;exact zE2|exact zE1
 |refine tk 15 aF ?_;refine tk 16 aF ?_;refine tk 17 aF ?_
  first|let _:=m58;exact zAe|refine dn ?_;exact aS8 _ _ _ _ _ _ _ _ _ _ _ _ _ _ _ _ _ _ _ _ _ _ _ _ _ _ hW):p:=h
theorem zMs(h:p:=by
 refine tk 1 aF ?_;refine tk 2 aF ?_;refine tk 3 aF ?_;refine tk 4 aF ?_;refine tk 5 aF ?_;refine tk 6 aF ?_
 first
 |let _:=bLv
  first
  |let _:=bLr;refine rd2 0 7 (λK hK=>?_) λK hK=>?_
   .first|let _:=bGi;have bGy:=0;exact zLq|exact zLq
   .go_simp;refine kp hK λaF=>?_;clear hK K;refine fJ 0 λK hK=>?_;go_simp;(go_at_call 173;refine(cL _ _ _).mono ?_;rintro e u0 ⟨fv,rfl,hB,hu⟩;have C2:=aS (a:=(aA u.1.size 0)) (v:=iI aM) oe hu;have hX1:=aS (a:=(aA u.1.size 1)) (v:=iI aC) oe hu;have hX2:=aS (a:=(aA u.1.size 2)) (v:=iI aJ) oe hu;have hW:=zH hW hu;obtain⟨c0,c1,c2,c3,c4,c5,c6,c7,c8,c9⟩:=hc.below hW);refine kp hK λaF=>?_;clear hK K;refine fJ 8 λK hK=>?_;go_simp
    first
    |let _:=bGi
     first|let _:=m9;exact zLt|(go_at_call 172;refine(aDh false fv _ _ (aM) (aC) (aJ) u.1.size _ _ hB C2 hX1 hX2 hd).mono ?_;rintro e x0 ⟨rfl,dS⟩;have hW:=gM hW dS;obtain⟨c0,c1,c2,c3,c4,c5,c6,c7,c8,c9⟩:=hc.below hW);exact zE5
    |have bL6:=0;exact zLt
  |refine fJ 7 λK hK=>?_;go_simp
   first|let _:=m65;refine(hM _ _ hrV).mono ?_|refine(hM _ _ (λh=>absurd h (kW _))).mono ?_
   exact zAq
 |refine tk 7 aF ?_
  first
  |let _:=bLp
   first|let _:=bGm;refine fJ 8 λK hK=>?_;go_simp;refine hC.mono ?_;rintro ev u1 ⟨rfl,i6⟩;have b1:bW V u1:=eZ i6;refine kp hK (λaF=>?_) ⟨bc b1 hwV x0,bc b1 xC n0,bc b1 uT c0⟩;clear hK K|refine tk 8 aF ?_
   refine tk 9 aF ?_;refine tk 10 aF ?_;refine tk 11 aF ?_
   first
   |let _:=bGm;refine tk 12 aF ?_;refine tk 13 aF ?_;refine tk 14 aF ?_;refine tk 15 aF ?_;refine dn ?_;go_wp2_with fail
    first|let _:=m22;refine(nW u1).mono ?_|have hAn:=jR u1 (HD.out u1 (HB.out.trans (b1.mono HB.out.size))).told (zX u1 2) og;refine hAn.mono ?_
    rintro ev u2 ⟨rfl,dS⟩
    first|let _:=m22;have b2:bW V u2:=b1.trans (dS.mono b1.size);have hI:=oK bv HI.out u2 (HD.out u2 (HB.out.trans (b2.mono HB.out.size)));go_wp2_with fail;refine hI.mono ?_;rintro ev u3 ⟨rfl,hu3⟩;have hz:=mL HI.out;have qP:decide (9223372036854775807<(dW bv).size+7)=false:=kD od;go_wp2_with fail;go_ret;exact HE.out u3 _ (b2.trans (hu3.mono b2.size)) rfl|exact⟨rfl,HE.out u2 _ (b1.trans (dS.mono b1.size)) rfl⟩
   |refine fJ 12 λK hK=>?_;go_simp;refine Calls.mono HC.out ?_;rintro ev u1 ⟨cV,k,I,q⟩;have b0:=bc cV hwV a0;have b1:=bc cV xC a1;have bc0:=bc cV uT c0;have bc1:=bc cV uT c1;have bc2:=bc cV uT c2;have bc3:=bc cV uT c3;have bc4:=bc cV uT c4;have bc5:=bc cV uT c5;have bc6:=bc cV uT c6;have bc7:=bc cV uT c7;have bc8:=bc cV uT c8;have bc9:=bc cV uT c9;rcases q with⟨hk,E,rfl,hE,aK4⟩|⟨hk,C,rfl,aK4⟩
    .exact zLy
    .have bH0:=0;exact zLy
  |first
   |let _:=aEm;refine fJ 8 λK hK=>?_
   |refine tk 8 aF ?_;refine tk 9 aF ?_
    first|let _:=m10;refine tk 10 aF ?_;refine tk 11 aF ?_;refine fJ 12 λK hK=>?_|refine fJ 10 λK hK=>?_
   go_simp;refine Calls.mono HC.out ?_
   first
   |let _:=aEm;rintro ev u1 ⟨k,O1,rfl,hf,hk0,qU⟩;have y0:=(hf.cell (p:=(aA S 10)) uT hSO).trans c0;have y1:=(hf.cell (p:=(aA S 11)) uT hSO).trans c1;have y2:=(hf.cell (p:=(aA S 12)) uT hSO).trans c2;have y3:=(hf.cell (p:=(aA S 13)) uT hSO).trans c3;have y4:=(hf.cell (p:=(aA S 14)) uT hSO).trans c4;refine kp hK (λaF=>?_) ⟨y0,y1,y2,y3,y4⟩;clear hK K;have hA:=K5 u1 (HD.out O1 u1 hf).told (zX u1 k);refine fJ 9 λK hK=>?_;go_simp;refine hA.mono ?_;rintro ev u2 ⟨he2,dS⟩;by_cases hk:k=0
    .rw[kK hk]at he2;subst he2;have hS2:=kC uT hf.size;refine kp hK (λaF=>?_) ⟨bc dS hS2 y0,bc dS hS2 y1,bc dS hS2 y2,bc dS hS2 y3,bc dS hS2 y4⟩;clear hK K;refine dn ?_;obtain⟨hblk,aZk⟩:=hk0 hk u2 dS;have z1:=bE hblk (i:=11);have z2:=bE hblk (i:=12);have z3:=bE hblk (i:=13);have z4:=bE hblk (i:=14);have x0:u2.cell? (aA S 10)=some (pP A.C):=bc dS hS2 y0;have x1:u2.cell? (aA S 11)=some (sV ra.la q1 ra.lc):=bc dS hS2 y1;have x2:u2.cell? (aA S 12)=some (sV ra.ra q2 ra.rc):=bc dS hS2 y2;have x3:u2.cell? (aA S 13)=some (sV ra.da q3 ra.dc):=bc dS hS2 y3;have x4:u2.cell? (aA S 14)=some (sV ra.ma q4 ra.mc):=bc dS hS2 y4;have bDo:Hid _:=aZk;clear aZk hk0 qU hblk hA HC HD;go_wp2_with fail;obtain⟨d0,d1,hR,hE⟩:=bDo.out _ rfl;have HDD:Hid (∀u4,Below ((((u2.setCell (aA S 11) (sV none 0 0)).setCell (aA S 12) (sV none 0 0)).setCell (aA S 13) (sV none 0 0)).setCell (aA S 14) (sV none 0 0)).1.size ((((u2.setCell (aA S 11) (sV none 0 0)).setCell (aA S 12) (sV none 0 0)).setCell (aA S 13) (sV none 0 0)).setCell (aA S 14) (sV none 0 0)) u4->gW u4):=d1;have HEE:Hid _:=hE;clear d0 d1 hE;refine hR.mono ?_;rintro ev u4 ⟨rfl,hb4⟩;have R4:Hid (Below _ _ u4):=hb4;have hI:=oK (rd+1) HI.out u4 (HDD.out u4 hb4);clear hb4 hR;go_wp2_with fail;refine hI.mono ?_;rintro ev u5 ⟨rfl,hb5⟩;have HB5:Hid (bW u4 u5):=hb5;clear hb5 hI;go_wp2_with fail;go_ret;exact HEE.out u5 (R4.out.trans (HB5.out.mono R4.out.size))
   |first|let _:=m10;rintro ev u1 ⟨k,d,O1,rfl,hd,hf,hk0,qU⟩;have y0:=(hf.cell (p:=(aA w.1.size 0)) hwV hwO).trans x0;have y1:=(hf.cell (p:=(aA b off)) xC hbO).trans n0;have y2:=(hf.cell (p:=(aA b (off+1))) xC hbO).trans n1;have y3:=(hf.cell (p:=(aA S 10)) uT hSO).trans c0;refine kp hK (λaF=>?_) ⟨y0,y1,y2,y3⟩;clear hK K;refine tk 13 aF ?_;refine tk 14 aF ?_;refine fJ 15 λK hK=>?_;go_simp|rintro ev u1 ⟨k,O1,rfl,hf,hk0,qU⟩;refine kp hK (λaF=>?_) ⟨(hf.cell (p:=(aA w.1.size 0)) hwV hwO).trans x0,(hf.cell (p:=(aA w.1.size 1)) hwV hwO).trans x1,(hf.cell (p:=(aA b off)) xC hbO).trans n0,(hf.cell (p:=(aA S 10)) uT hSO).trans c0⟩;clear hK K;have hA:=K5 u1 (HD.out O1 u1 hf).told (zX u1 k);refine fJ 11 λK hK=>?_;go_simp;refine hA.mono ?_;rintro ev u2 ⟨he2,dS⟩;skip
    by_cases hk:k=0
    .first|let _:=m10;subst hk;rw[aE0];refine(aF5 (sT d) u1).mono ?_;rintro ev u2 ⟨rfl,dS⟩;have z0:=bc dS (kC hwV hf.size) y0;have z1:=bc dS (kC xC hf.size) y1;have z2:=bc dS (kC xC hf.size) y2;have z3:=bc dS (kC uT hf.size) y3;have qP:¬9223372036854775807<3+d.size:=od;refine kp hK (λaF=>?_) ⟨z0,z1,z2,z3⟩;clear hK K;refine tk 16 aF ?_;refine fJ 17 λK hK=>?_;go_simp;refine kp hK (λaF=>?_) ⟨z0,z1,z2,z3⟩|rw[kK hk]at he2;subst he2;refine kp hK (λaF=>?_) ⟨bc dS (kC hwV hf.size) ((hf.cell (p:=(aA w.1.size 0)) hwV hwO).trans x0),bc dS (kC hwV hf.size) ((hf.cell (p:=(aA w.1.size 1)) hwV hwO).trans x1),bc dS (kC xC hf.size) ((hf.cell (p:=(aA b off)) xC hbO).trans n0),bc dS (kC uT hf.size) ((hf.cell (p:=(aA S 10)) uT hSO).trans c0)⟩
     clear hK K;refine dn ?_;go_wp2_with fail;go_ret
     first|let _:=m10;exact hk0 trivial u2 dS|exact hk0 hk u2 dS
   .first|let _:=aEm;rw[kJ hk]at he2;subst he2|let _:=m10;refine(aI4 (sT d) u1 (HD.out O1 u1 hf).told (zX u1 k) hk).mono ?_;rintro ev u2 ⟨rfl,dS⟩;skip|rw[kJ hk]at he2;subst he2
    exact⟨rfl,qU hk u2 dS⟩):p:=h
theorem zMu(h:p:=by
 refine tk 1 aF ?_;refine tk 2 aF ?_;refine rd2 0 3 (λK hK=>?_) λK hK=>?_
 .first
  |let _:=bH8
   first
   |let _:=bH7;exact zHx
   |go_simp
    first|let _:=aXs;(go_at_call 173;refine(cL _ _ _).mono ?_;rintro e u0 ⟨fv,rfl,hB,hu⟩;have hW:=aNn hW hu;obtain⟨c0,c1,c2,c3⟩:=hc.below hW)|(go_at_call 173;refine(cL _ _ _).mono ?_;rintro e u0 ⟨fv,rfl,hB,hu⟩;have hW:=aNn hW hu;obtain⟨c0,c1,c2,c3,c4,c5,c6,c7,c8,c9⟩:=hc.below hW)
    refine kp hK λaF=>?_;clear hK K;refine fJ 3 λK hK=>?_;go_simp;refine kp hK λaF=>?_;clear hK K;refine fJ 4 λK hK=>?_;go_simp
    first
    |let _:=aXs
     first|let _:=m16;exact zMj|(go_at_call 172;refine(fD false fv _ _ (lb) u0.1.size _ _ (hB.alloc _) oe hd).mono ?_;rintro e x0 ⟨rfl,dS⟩;have hW:=jP hW dS;obtain⟨c0,c1,c2,c3⟩:=hc.below hW);exact zE7
    |let _:=m15;exact zMg
    |(go_at_call 172;refine(fD false fv _ _ (AA) u0.1.size _ _ (hB.alloc _) oe hd).mono ?_;rintro e x0 ⟨rfl,dS⟩;have hW:=jP hW dS;obtain⟨c0,c1,c2,c3,c4,c5,c6,c7,c8,c9⟩:=hc.below hW);exact zE3
  |have m62:=0;exact zLq
 .first
  |let _:=bH8
   first|let _:=bH7;exact zMm|have bH6:=0;exact zMm
  |have bG9:=0;exact zMm):p:=h
