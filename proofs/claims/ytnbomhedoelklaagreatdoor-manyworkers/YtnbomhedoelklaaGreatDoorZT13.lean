import Derived.Test.YtnbomhedoelklaaGreatDoorZMapKeyed
import Derived.Test.YtnbomhedoelklaaGreatDoorZT11
import Derived.Test.YtnbomhedoelklaaGreatDoorZT12
import Derived.Test.YtnbomhedoelklaaGreatDoorZT6
import Derived.Lib.ItoaLen
namespace Go.Proofs.YtnbomhedoelklaaGreatDoor
open Go.RowKit Go.Proofs.Tryz
set_option maxRecDepth 99999
set_option maxHeartbeats 0
section
variable{S b:Nat}
theorem Tryz.aTf:Maps.Keyed prog 9:=Maps.string_keyed underlying9
def Kd.val(k:Kd)(S:Nat):WB:=mO k.m k.more k.text k.when (.func (.func k.fn) #[pP S] #[])
def iC(w:WA)(b S:Nat):Prop:=∃f,pQ prog 9 w b f/\∀x,f (sT x)=(yP x).map λk=>k.val S
theorem iC.lt{w:WA}(h:iC w b S):b<w.1.size:=by obtain⟨f,h,_⟩:=h;exact h.lt
theorem iC.keep{w w':WA}(h:iC w b S)(e:w'.1[b]?=w.1[b]?):iC w' b S:=by obtain⟨f,h,r⟩:=h;exact⟨f,h.keep e,r⟩
def aTg:WB:=mO 0 false false 0 .nilFunc
theorem iC.look{w:WA}(h:iC w b S)(x:WG)(hx:x.size<=20000):
  (Instr.lookup 49 (.map (some b)) (sT x) true).run prog w=.ok (tU #[((yP x).map λk=>k.val S).getD aTg,.bool (yP x).isSome]) w:=by obtain⟨f,h,r⟩:=h;have:=h.look (e:=94) (t:=49) Tryz.aTf underlying49 (z:=aTg) (zeroValue94 w) (x:=sT x) (Go.WideMaps.keyOf_string_mk underlying9 (s:=x) ot) true;rw[r x]at this;exact zCk
theorem Tryz.mfD(fn:Fn)(first cap:Array WB)(w:WA):(Instr.makeFunc fn first cap).run prog w=.ok (.func fn first cap) w:=rfl
theorem iJ{a b:WG}(h:a≠b):Value.string a≠sT b:=λe=>h (by injection e)
theorem aPe(S:Nat)(w:WA):Calls prog 13 #[pP S] w λe w'=>∃b,e=rT (.map (some b))/\w.1.size<=b/\iC w' b S/\bW w w':=by
 have L8:=Tryz.mfD;have hmm:=@run_makeMap prog;have m0:=pQ.new prog 9 w;generalize hV:w.alloc (.map #[] 0)=V0 at m0;have hB:bW w V0:=hV▸(jD _ w).alloc (kG _) _;have mp:=λ {w:WA} {b:Nat} {f:_} (m:pQ prog 9 w b f) (x:WG) (hx:x.size<=maxLen) (a:Int) (p q:Bool) (d:Int) (g:Nat)=>m.put (t:=49) (e:=94) (x:=sT x) (v:=.agg #[iI a,.bool p,.bool q,iI d,.func (.func g) #[pP S] #[]]) Tryz.aTf underlying49 (Go.WideMaps.keyOf_string_mk underlying9 hx);obtain⟨V1,f1,e1,m1,p1,t1⟩:=mp m0 ⟨#[112,108,97,110]⟩ ow 6 false false 1 37;obtain⟨V2,f2,e2,m2,p2,t2⟩:=mp m1 ⟨#[115,108,111,116]⟩ ow 3 false false 1 38;obtain⟨V3,f3,e3,m3,p3,t3⟩:=mp m2 ⟨#[108,105,110,107]⟩ ow 4 false false 1 39;obtain⟨V4,f4,e4,m4,p4,t4⟩:=mp m3 ⟨#[98,121,116,101,115]⟩ ow 0 false false 0 40;obtain⟨V5,f5,e5,m5,p5,t5⟩:=mp m4 ⟨#[115,116,97,114,116]⟩ ow 1 true false 1 41;obtain⟨V6,f6,e6,m6,p6,t6⟩:=mp m5 ⟨#[112,117,116]⟩ ow 1 false true 2 42;obtain⟨V7,f7,e7,m7,p7,t7⟩:=mp m6 ⟨#[114,101,99,101,105,118,101]⟩ ow 2 false false 2 43;obtain⟨V8,f8,e8,m8,p8,t8⟩:=mp m7 ⟨#[108,111,115,101]⟩ ow 3 false false 2 44;obtain⟨V9,f9,e9,m9,p9,t9⟩:=mp m8 ⟨#[114,101,97,100]⟩ ow 3 false false 2 45;obtain⟨V10,f10,e10,m10,p10,uV⟩:=mp m9 ⟨#[100,114,105,102,116]⟩ ow 1 true false 2 46;obtain⟨V11,f11,e11,m11,p11,S8⟩:=mp m10 ⟨#[109,111,100,101]⟩ ow 1 true false 2 47;obtain⟨V12,f12,e12,m12,p12,J4⟩:=mp m11 ⟨#[114,111,117,110,100]⟩ ow 0 false false 2 48;obtain⟨V13,f13,e13,m13,p13,t13⟩:=mp m12 ⟨#[99,108,111,99,107,115]⟩ ow 0 false false 2 49;obtain⟨V14,f14,e14,m14,p14,t14⟩:=mp m13 ⟨#[115,112,114,101,97,100]⟩ ow 0 false false 2 50;obtain⟨V15,f15,e15,m15,p15,t15⟩:=mp m14 ⟨#[109,101,109,98,101,114,115]⟩ ow 1 false false 2 51;obtain⟨V16,f16,e16,m16,p16,t16⟩:=mp m15 ⟨#[109,105,100,112,111,105,110,116]⟩ ow 1 true false 0 52;obtain⟨V17,f17,e17,m17,p17,t17⟩:=mp m16 ⟨#[108,111,99,97,108]⟩ ow 5 false false 0 53;obtain⟨V18,f18,e18,m18,p18,t18⟩:=mp m17 ⟨#[114,101,97,108]⟩ ow 5 false false 0 54;obtain⟨V19,f19,e19,m19,p19,t19⟩:=mp m18 ⟨#[99,108,101,97,114]⟩ ow 0 false false 0 55;obtain⟨V20,f20,e20,m20,p20,t20⟩:=mp m19 ⟨#[104,101,108,112]⟩ ow 0 false false 0 56;have HB:Hid (bW w V20):=by have st:∀{a c:WA},aW w.1.size w.1.size a c->bW w a->bW w c:=λh k=>⟨h.os.trans k.os,h.tape.trans k.tape,h.output.trans k.output,kH k.size h.size,λi hi=>(h.block i (kC hi k.size) od od).trans (k.block i hi)⟩;exact st t20 (st t19 (st t18 (st t17 (st t16 (st t15 (st t14 (st t13 (st J4 (st S8 (st uV (st t9 (st t8 (st t7 (st t6 (st t5 (st t4 (st t3 (st t2 (st t1 hB)))))))))))))))))))
 have HK:Hid (iC V20 w.1.size S):=by
  refine⟨f20,m20,λx=>?_⟩
  cases q:yP x with
  |some k=>
   have e:=aPc q
   subst e
   clear q
   cases k using Kd.each
   all_goals try refine(p20.2 _ (iJ og)).trans ?_
   all_goals try refine(p19.2 _ (iJ og)).trans ?_
   all_goals try refine(p18.2 _ (iJ og)).trans ?_
   all_goals try refine(p17.2 _ (iJ og)).trans ?_
   all_goals try refine(p16.2 _ (iJ og)).trans ?_
   all_goals try refine(p15.2 _ (iJ og)).trans ?_
   all_goals try refine(p14.2 _ (iJ og)).trans ?_
   all_goals try refine(p13.2 _ (iJ og)).trans ?_
   all_goals try refine(p12.2 _ (iJ og)).trans ?_
   all_goals try refine(p11.2 _ (iJ og)).trans ?_
   all_goals try refine(p10.2 _ (iJ og)).trans ?_
   all_goals try refine(p9.2 _ (iJ og)).trans ?_
   all_goals try refine(p8.2 _ (iJ og)).trans ?_
   all_goals try refine(p7.2 _ (iJ og)).trans ?_
   all_goals try refine(p6.2 _ (iJ og)).trans ?_
   all_goals try refine(p5.2 _ (iJ og)).trans ?_
   all_goals try refine(p4.2 _ (iJ og)).trans ?_
   all_goals try refine(p3.2 _ (iJ og)).trans ?_
   all_goals try refine(p2.2 _ (iJ og)).trans ?_
   all_goals first|exact p1.1|exact p2.1|exact p3.1|exact p4.1|exact p5.1|exact p6.1|exact p7.1|exact p8.1|exact p9.1|exact p10.1|exact p11.1|exact p12.1|exact p13.1|exact p14.1|exact p15.1|exact p16.1|exact p17.1|exact p18.1|exact p19.1|exact p20.1
  |none=>
   have hn:=aPd q
   have eH:∀k:Kd,Value.string x≠sT k.name:=λk e=>hn k (by injection e with e;exact e.symm)
   exact(p20.2 _ (eH Kd.xQ)).trans ((p19.2 _ (eH Kd.clear_)).trans ((p18.2 _ (eH Kd.real_)).trans ((p17.2 _ (eH Kd.pB)).trans ((p16.2 _ (eH Kd.gD)).trans ((p15.2 _ (eH Kd.eN)).trans ((p14.2 _ (eH Kd.mF)).trans ((p13.2 _ (eH Kd.lZ)).trans ((p12.2 _ (eH Kd.pD)).trans ((p11.2 _ (eH Kd.qX)).trans ((p10.2 _ (eH Kd.mX)).trans ((p9.2 _ (eH Kd.qG)).trans ((p8.2 _ (eH Kd.qD)).trans ((p7.2 _ (eH Kd.gU)).trans ((p6.2 _ (eH Kd.vY)).trans ((p5.2 _ (eH Kd.iV)).trans ((p4.2 _ (eH Kd.bytes_)).trans ((p3.2 _ (eH Kd.oP)).trans ((p2.2 _ (eH Kd.oV)).trans ((p1.2 _ (eH Kd.qZ)).trans (congrFun rfl _))))))))))))))))))))
 have hz:=zeroValue94;have Hw:Hid (w.1.size=w.1.size):=rfl;clear p1 p2 p3 p4 p5 p6 p7 p8 p9 p10 p11 p12 p13 p14 p15 p16 p17 p18 p19 p20 t1 t2 t3 t4 t5 t6 t7 t8 t9 uV S8 J4 t13 t14 t15 t16 t17 t18 t19 t20 m0 m1 m2 m3 m4 m5 m6 m7 m8 m9 m10 m11 m12 m13 m14 m15 m16 m17 m18 m19 m20;go_enter func13,ntmps13;go_wp2_with fail;go_ret;exact⟨w.1.size,rfl,kG _,HK.out,HB.out⟩
end
def nV(os:List WG):List UInt8:=os.flatMap λo=>o.data.toList++[10]
theorem aLy(os:List WG)(o:WG):nV (os++[o])=(nV os++o.data.toList)++[10]:=by unfold nV;rw[List.flatMap_append];simp
theorem aD1:∀(os:List WG),(∀o∈os,o.size<=500)->(nV os).length<=501*os.length
 |[],_=>by simp[nV]
 |o::os,h=>by
  have h1:=aD1 os λx hx=>h x (kR _ hx);have h2:=h o kT;have h3:o.data.toList.length=o.size:=Array.length_toList;have e:nV (o::os)=(o.data.toList++[10])++nV os:=by simp[nV]
  rw[e,List.length_append,List.length_append,List.length_cons,List.length_cons,List.length_nil];omega
section
section
variable{w:WA}{O:List Nat}{C:Nat}{p:aP}{fa:Int}{cs:List Int}{s:cJ}{rd:Int}{B:Nat}{m:tH}
theorem aG9(h:Cl w O C p fa cs s rd B m)(hl:cs.length=p.n)(iU:1<=p.n)(hn:p.n<=16):
  Calls prog 85 #[pP C] w λe w'=>∃a cap,e=rT (sV a cs.length cap)/\bI w' a cs/\bW w w':=by have hr:bI w (some (aA m.cb 0)) cs:=λ_=>⟨m.cb,0,rfl,h.base.lx _ h.base.ckX,λj hj=>by rw[Nat.zero_add];exact h.base.ck j hj⟩;have hck:=aS3 cs (some (aA m.cb 0)) p.n m.fK hl iU od w hr;have c11:=h.base.c11;rw[hl]at c11;clear h;have HL:Hid (cs.length=p.n):=hl;rw[hl];clear hl;go_enter func85,ntmps85;go_wp2_with fail;refine hck.mono ?_;rintro e w1 ⟨g,cp,rfl,⟨hg,C3⟩,hc,hb⟩;have HR:Hid (bI w1 (some (aA g 0)) cs):=λ_=>⟨g,0,rfl,C3,λj hj=>by rw[Nat.zero_add];exact hc j hj⟩;have HB:Hid (bW w w1):=hb;clear hc hb hck;go_wp2;go_ret;exact⟨_,_,rfl,HR.out,HB.out⟩
theorem aDu(h:Cl w O C p fa cs s rd B m)(j:Int)(hj:¬(0<=j/\j<p.AA)):
  Calls prog 88 #[pP C,iI j] w λe w'=>e=rT (tU #[iI 0,.bool false,dG 2])/\bW w w':=have m90:=0;zIl
theorem aDt(h:Cl w O C p fa cs s rd B m)(j:Nat)(hj:j<p.n)(pA:p.AA=(p.n:Int)):
  Calls prog 88 #[pP C,iI j] w λe w'=>e=rT (tU #[iI (bA (s.AA j).t p.n),.bool (s.AA j).fz,.nilIface])/\bW w w':=by have hi:=oJ C p.AA j w h.base.c0;rw[kF (show 0<=(j:Int)/\(j:Int)<p.AA by omega)]at hi;have c13:=h.base.c13;have y1:=h.base.nd j hj;have hN:=(h.nod hj).1;have hm:=λu (hu:bW w u)=>aEy (hN.same (Same.of_below hu (λc hc=>by rw[List.mem_singleton.1 hc];exact hN.lp)));have hf:=λu (hu:bW w u)=>aHl (hN.same (Same.of_below hu (λc hc=>by rw[List.mem_singleton.1 hc];exact hN.lp)));have HM:Hid (∀u,bW w u->Calls prog 121 #[.pointer (some ⟨m.P j,0,none⟩)] u λe w'=>e=rT (iI (bA (s.AA j).t p.n))/\w'=u):=hm;have HF:Hid (∀u,bW w u->Calls prog 122 #[.pointer (some ⟨m.P j,0,none⟩)] u λe w'=>e=rT (.bool (s.AA j).fz)/\w'=u):=hf;have ii:(j:Int)<(p.n:Int):=od;generalize bA (s.AA j).t p.n=bv at *;generalize(s.AA j).fz=fz at *;clear h hN hm hf;go_enter func88,ntmps88;exact zIw
end
end
theorem aDq(AA aG aM aC aJ round frame:Int)(ns nl nw:Nat)(nd fr td lf lt lb lq:Nat->Int)(hit:Nat->Bool)(pw:Int)(wp wf wt:Nat->Int):∃E I,jQ AA aG aM aC aJ round frame ns nl nw nd fr td lf lt lb lq hit pw wp wf wt E I:=by
 by_cases h:bZ AA aG aM aC aJ round frame ns nl nw=0
 .obtain⟨e1,i1,g1⟩:=bX.any (fW nd fr td AA aM round) ns;obtain⟨e2,i2,g2⟩:=bX.any (cN lf lt lb lq hit AA pw) nl;obtain⟨e3,i3,g3⟩:=bX.any (lJ wp wf wt frame) nw;by_cases z1:e1=0
  .by_cases z2:e2=0
   .by_cases z3:e3=0
    .exact⟨0,-1,.inr ⟨h,e1,i1,e2,i2,e3,i3,g1,g2,g3,λq=>absurd z1 q,λ_ q=>absurd z2 q,λ_ _ q=>absurd z3 q,λ_ _ _=>⟨rfl,rfl⟩⟩⟩
    .exact⟨e3,2000+i3,.inr ⟨h,e1,i1,e2,i2,e3,i3,g1,g2,g3,λq=>absurd z1 q,λ_ q=>absurd z2 q,λ_ _ _=>⟨rfl,rfl⟩,λ_ _ q=>absurd q z3⟩⟩
   .exact⟨e2,1000+i2,.inr ⟨h,e1,i1,e2,i2,e3,i3,g1,g2,g3,λq=>absurd z1 q,λ_ _=>⟨rfl,rfl⟩,λ_ q=>absurd q z2,λ_ q=>absurd q z2⟩⟩
  .exact⟨e1,i1,.inr ⟨h,e1,i1,e2,i2,e3,i3,g1,g2,g3,λ_=>⟨rfl,rfl⟩,λq=>absurd q z1,λq=>absurd q z1,λq=>absurd q z1⟩⟩
 .exact⟨_,-1,.inl ⟨h,rfl,rfl⟩⟩
theorem bEe(p:aP)(a:mS)(w:WA)(h:p.In a w):∃E I,p.Is E I/\Calls prog 99 #[p.val a] w λe w'=>∃V,e=rT V/\gX w' V E I/\bW w w':=by obtain⟨E,I,hC⟩:=aDq p.AA p.aG p.aM p.aC p.aJ p.round p.frame p.ns p.nl p.nw p.nd p.fr p.td p.lf p.lt p.lb p.lq (λj=>aX (p.lt j) (p.lf j).toNat) (2^p.AA.toNat) p.wp p.wf p.wt;exact⟨E,I,hC,aO8 p.AA p.aG p.aM p.aC p.aJ p.round p.frame a.sa a.la a.wa p.ns a.sc p.nl a.lc p.nw a.wc p.nd p.fr p.td p.lf p.lt p.lb p.lq _ _ p.wp p.wf p.wt E I w h.mP h.aK h.bDf rfl (λj h0 h1=>(aMg (p.lt j) od).symm) hC⟩
def B7(w:WA)(O:List Nat)(C:Nat)(p:aP)(fa:Int)(cs:List Int)(s:cJ)(rd:Int)(T:Nat):Prop:=
 (∃m,Cl w O C p fa cs s rd (2600*T+1) m)/\zM p fa cs/\0<=rd/\rd<=T
theorem aDs{p:aP}{fa:Int}{cs:List Int}(h:zM p fa cs):p.AA=(p.n:Int):=by have:=h.aO.bounds.n1;show p.AA=(p.AA.toNat:Int);omega
theorem eK:bAc B7 where
 chk:=bEe
 ok:=λh=>h.2
 lt:=λh=>by obtain⟨⟨m,h⟩,_⟩:=h;exact h.lt
 keep:=λh k=>by obtain⟨⟨m,h⟩,q⟩:=h;exact⟨⟨m,h.keep k⟩,q⟩
 new:=λp a fa ca cap cs w h1 h2 _ h4 h5=>(aS5 bEe p a fa ca cap cs w h1 h2 h4 h5).mono λe w' ⟨hB,K,I,hN,h⟩=>by
  refine⟨hB,K,I,hN,?_⟩
  rcases h with h|⟨rfl,O,C,m,he,hC,hO⟩
  .exact .inl h
  .exact .inr ⟨rfl,O,C,he,⟨⟨m,hC⟩,hN.ok,Int.le_refl _,Int.le_refl _⟩,hO⟩
 bHx:=λ {w O C p fa cs s rd T} r a h hT hr hm=>by
  obtain⟨⟨m,h⟩,jM,h0,h1⟩:=h
  refine(aOe h jM h0 od od od r a hr hm).mono λe w' ⟨O',hf,hh⟩=>⟨O',hf,?_⟩
  rcases hh with⟨q,he,hC⟩|⟨q,he,m',hC⟩
  .exact .inl ⟨q,he,⟨⟨m,hC⟩,jM,h0,h1⟩⟩
  .exact .inr ⟨q,he,⟨⟨m',hC.more od⟩,jM.next r q,od,od⟩⟩
 aNg:=λk d h hk=>by obtain⟨⟨m,h⟩,_⟩:=h;exact aSb h k d hk
 put:=λ {w O C p fa cs s rd T} k d h hT hk=>by
  obtain⟨⟨m,h⟩,jM,h0,h1⟩:=h
  refine(aSa h k d hk od).mono λe w' ⟨he,O',hf,hC⟩=>⟨he,O',hf,⟨⟨m,hC.more od⟩,jM,h0,od⟩⟩
 aHy:=λj k h hb=>by obtain⟨⟨m,h⟩,jM,_⟩:=h;exact aOh h (aDs jM) j k hb
 recv:=λj k h hj hk hb=>by
  obtain⟨⟨m,h⟩,jM,h0,h1⟩:=h
  refine(aOg h j k hj (aDs jM) hk hb).mono λe w' ⟨he,O',hf,hC⟩=>⟨he,O',hf,⟨⟨m,hC⟩,jM,h0,h1⟩⟩
 spread:=λ {w O C p fa cs s rd T} h=>by
  obtain⟨⟨m,h⟩,jM,_⟩:=h
  have sS:=jM.aO.bounds.n2
  have hb:=h.base
  have hl:=jM.len
  exact L4 C fa (some (aA m.cb 0)) m.fK cs w hb.c10 hb.c11 (λ_=>⟨m.cb,0,rfl,hb.lx _ hb.ckX,λj hj=>by rw[Nat.zero_add];exact hb.ck j hj⟩) (by rw[hl];unfold aP.n;omega) jM.inn
 rounds:=λh=>by
  obtain⟨⟨m,h⟩,_⟩:=h
  exact(aGe _ _ _ h.base.c12).mono λe w' ⟨h1,h2⟩=>⟨h1,by rw[h2];exact jD _ _⟩
theorem aDr:aWe B7 where
 aS2:=λ {w O C p fa cs s rd T} h=>by
  obtain⟨⟨m,h⟩,jM,_⟩:=h
  have h1:=jM.aO.bounds.n1
  have h2:=jM.aO.bounds.n2
  exact aG9 h jM.len (by unfold aP.n;omega) (by unfold aP.n;omega)
 wT:=λ {w O C p fa cs s rd T} j h hj=>by
  obtain⟨⟨m,h⟩,jM,_⟩:=h
  exact aDt h j hj (aDs jM)
 members_bad:=λ {w O C p fa cs s rd T} j h hj=>by
  obtain⟨⟨m,h⟩,_⟩:=h
  exact aDu h j hj
section
variable{N' b base c g i n size:Nat}{cs:Array WB}{e t:WI}{w w':WA}
def cS(f g h i:Nat->Int):Nat->List WB
 |0=>[]
 |n+1=>cS f g h i n++[iI (f n),iI (g n),iI (h n),iI (i n)]
theorem tD(f g h i:Nat->Int):∀n,(cS f g h i n).length=n*4
 |0=>rfl
 |n+1=>by simp[cS,tD f g h i n];omega
theorem aEz(f g h i:Nat->Int):∀n j,j<n->(cS f g h i n)[j*4]?=some (iI (f j))/\(cS f g h i n)[j*4+1]?=some (iI (g j))/\(cS f g h i n)[j*4+2]?=some (iI (h j))/\(cS f g h i n)[j*4+3]?=some (iI (i j)):=by
 intro n
 induction n with
 |zero=>intro j hj;omega
 |succ n ih=>
  intro j hj
  have hl:=tD f g h i n
  unfold cS
  by_cases h1:j<n
  .obtain⟨a,b,c,d⟩:=ih j h1
   refine⟨?_,?_,?_,?_⟩
   .rw[List.getElem?_append_left od];exact a
   .rw[List.getElem?_append_left od];exact b
   .rw[List.getElem?_append_left od];exact c
   .rw[List.getElem?_append_left od];exact d
  .obtain rfl:j=n:=by omega
   refine⟨?_,?_,?_,?_⟩
   .rw[List.getElem?_append_right od,hl,Nat.sub_self];rfl
   .rw[List.getElem?_append_right od,hl,Nat.add_sub_cancel_left];rfl
   .rw[List.getElem?_append_right od,hl,Nat.add_sub_cancel_left];rfl
   .rw[List.getElem?_append_right od,hl,Nat.add_sub_cancel_left];rfl
theorem aCq{v:WB}{f g' h' i':Nat->Int}(h:w.ownsRow base e 4 v n (cS f g' h' i' n)):∃a cap,v=sV a n cap/\xL w a n f g' h' i':=zH4
theorem aAv(f g h:Nat->Int)(x y z:Int)(m:Nat):∀n,n<=m->bN (iW f m x) (iW g m y) (iW h m z) n=bN f g h n:=by
 intro n
 induction n with
 |zero=>intro _;rfl
 |succ n ih=>
  intro hn
  have e:∀(f:Nat->Int) x,iW f m x n=f n:=λf x=>by unfold iW;rw[kJ od]
  rw[qI,qI,ih od,e,e,e]
theorem sH(f g h:Nat->Int)(x y z:Int)(n:Nat):bN (iW f n x) (iW g n y) (iW h n z) (n+1)=bN f g h n++[iI x,iI y,iI z]:=by rw[qI,aAv f g h x y z n n (kG _)];simp[iW]
theorem aAh(f g h i:Nat->Int)(x y z u:Int)(m:Nat):∀n,n<=m->cS (iW f m x) (iW g m y) (iW h m z) (iW i m u) n=cS f g h i n:=by
 intro n
 induction n with
 |zero=>intro _;rfl
 |succ n ih=>
  intro hn
  have e:∀(f:Nat->Int) x,iW f m x n=f n:=λf x=>by unfold iW;rw[kJ od]
  unfold cS
  rw[ih od,e,e,e,e]
theorem aBv(f g h i:Nat->Int)(x y z u:Int)(n:Nat):cS (iW f n x) (iW g n y) (iW h n z) (iW i n u) (n+1)=cS f g h i n++[iI x,iI y,iI z,iI u]:=by show cS _ _ _ _ n++_=_;rw[aAh f g h i x y z u n n (kG _)];simp[iW]
theorem aN{v:WB}(h:w.1[b]?=some (.cells cs t (0,0)))(hi:cs[i]?=some v):w.cell? (aA b i)=some v:=by rw[cell_of_row w b i cs t (0,0) h];exact hi
theorem bE(h:w.1[b]?=some (.cells cs t (0,0))):w.frozen? (aA b i)=false:=by simp[World.frozen?,h]
theorem bU(h:w.1[b]?=some (.cells cs t (0,0)))(v:WB):(w.setCell (aA b i) v).1[b]?=some (.cells (cs.setIfInBounds i v) t (0,0)):=by simp[World.setCell,Array.getElem?_modify,h]
theorem cH(h:c≠b)(v:WB):(w.setCell (aA b i) v).1[c]?=w.1[c]?:=by simp[World.setCell,Array.getElem?_modify,Ne.symm h]
structure mQ where
 vS:WB
 vL:WB
 vO:WB
 vR:WB
 da:Option WT
 dc:Nat
 ma:Option WT
 mc:Nat
 C:Nat
def jN(x:Int):Prop:=-9223372036854775808<=x/\x<=9223372036854775807
structure aFz(w:WA)(base S:Nat)(M O:List Nat)(st:iY)(A:mQ)(N:Nat):Prop where
 s:S∈M
 lo:∀c,c∈M->base<=c
 hi:∀c,c∈M->c<w.1.size
 loO:∀c,c∈O->base<=c
 hiO:∀c,c∈O->c<w.1.size
 ap:Apart O M
 oS:w.ownsRow base 120 3 A.vS st.aO.ns (bN st.aO.nd st.aO.fr st.aO.td st.aO.ns)
 oL:w.ownsRow base 124 4 A.vL st.aO.nl (cS st.aO.lf st.aO.lt st.aO.lb st.aO.lq st.aO.nl)
 oO:w.ownsRow base 138 3 A.vO st.next.nL (bN st.next.ls st.next.lc st.next.lt st.next.nL)
 oR:w.ownsRow base 140 3 A.vR st.next.nR (bN st.next.rn st.next.ro st.next.ri st.next.nR)
 bS:∀g,A.vS.ownBlock=some g->g∈M
 bL:∀g,A.vL.ownBlock=some g->g∈M
 bO:∀g,A.vO.ownBlock=some g->g∈M
 bR:∀g,A.vR.ownBlock=some g->g∈M
 rD:bI w A.da st.next.bP
 rM:bI w A.ma st.next.lE
 bD:∀b off,A.da=some (aA b off)->0<st.next.bP.length->b∈M/\∃cs fr,w.1[b]?=some (.cells cs 3 fr)
 bM:∀b off,A.ma=some (aA b off)->0<st.next.lE.length->b∈M/\∃cs fr,w.1[b]?=some (.cells cs 3 fr)
 nw:st.aO.nw=0
 iL:∀k,k<st.aO.nl->jN (st.aO.lt k)
 iO:∀k,k<st.next.nL->jN (st.next.lt k)
 ns:st.aO.ns<=32
 nl:st.aO.nl<=8
 nL:st.next.nL<=N
 nR:st.next.nR<=N
 nD:st.next.bP.length<=20000
 nM:st.next.lE.length<=20000
 clu:∀fa cs c rd T,st.clu=some (fa,cs,c,rd,T)->B7 w O A.C st.aO fa cs c rd T/\T<=N
def iY.cells(st:iY)(A:mQ):Array WB:=qH st.aO.AA st.aO.aG st.aO.aM st.aO.aC st.aO.aJ st.aO.round A.vS A.vL st.aO.frame (st.clu.map λ_=>(aA A.C 0)) A.vO A.vR (sV A.da st.next.bP.length A.dc) (sV A.ma st.next.lE.length A.mc)
structure fV(w:WA)(base S:Nat)(M O:List Nat)(st:iY)(A:mQ)(N:Nat):Prop where
 r:aFz w base S M O st A N
 blk:w.1[S]?=some (.cells (st.cells A) 91 (0,0))
theorem jE{v:WB}{S:Nat}{xs:List WB}{fr:Nat×Nat}(h:w.ownsRow base e size v n xs)(hS:w.1[S]?=some (.cells cs t fr))(ht:e≠t)(hg:v.ownBlock=some g):g≠S:=by
 intro hgS;subst hgS;rcases h.2 with⟨q,_⟩|⟨g',cap,cur,q,_,hh,_⟩
 .rw[q]at hg;cases hg
 .rw[q]at hg;cases hg;rw[hS]at hh;injection hh with hh;injection hh with _ h2;exact ht h2.symm
theorem F5{cs':Array WB}{t':WI}{fr fr':Nat×Nat}(h:w.1[b]?=some (.cells cs t fr))(h':w.1[c]?=some (.cells cs' t' fr'))(eH:t≠t'):b≠c:=by intro e;subst e;rw[h]at h';injection h' with h';injection h' with _ h2;exact eH h2
theorem gF{v:WB}{xs:List WB}(h:w.ownsRow base e size v n xs)(hs:∀g,v.ownBlock=some g->w'.1[g]?=w.1[g]?):w'.ownsRow base e size v n xs:=zJb
theorem lS{v:WB}{xs:List WB}(h:w.ownsRow base e size v n xs)(hg:v.ownBlock=some g):∃cs fr,w.1[g]?=some (.cells cs e fr):=by
 rcases h.2 with⟨q,_⟩|⟨g',cap,cur,q,_,hh,_⟩
 .rw[q]at hg;cases hg
 .rw[q]at hg;cases hg;exact⟨_,_,hh⟩
theorem bI.at{a:Option WT}{l:List Int}(h:bI w a l)(hsz:w.1.size<=w'.1.size)(hs:∀b off,a=some (aA b off)->0<l.length->w'.1[b]?=w.1[b]?):bI w' a l:=λh0=>by obtain⟨b,off,e,hl,hc⟩:=h h0;exact⟨b,off,e,kC hl hsz,λj hj=>(jC (w:=w) (hs b off e h0)).trans (hc j hj)⟩
section
variable{w w':WA}{base S:Nat}{M O:List Nat}{st:iY}{A:mQ}{N:Nat}
theorem aFz.keep(h:aFz w base S M O st A N){fr:Nat×Nat}(hb:w.1[S]?=some (.cells cs 91 fr))(hsz:w.1.size<=w'.1.size)(hM:∀c,c∈M->c≠S->w'.1[c]?=w.1[c]?)(hO:Same O w w'):aFz w' base S M O st A N:=by
 have own:∀{e:WI}{size:Nat}{v:WB}{n:Nat}{xs:List WB},w.ownsRow base e size v n xs->e≠91->(∀g,v.ownBlock=some g->g∈M)->w'.ownsRow base e size v n xs:=λh1 h2 h3=>gF h1 λg hg=>hM g (h3 g hg) (jE h1 hb h2 hg);have eH:∀{b:Nat},(∃cs fr,w.1[b]?=some (.cells cs 3 fr))->b≠S:=λ⟨_,_,q⟩=>F5 q hb og;exact { h with
  hi:=λc hc=>kC (h.hi c hc) hsz
  hiO:=λc hc=>kC (h.hiO c hc) hsz
  oS:=own h.oS og h.bS
  oL:=own h.oL og h.bL
  oO:=own h.oO og h.bO
  oR:=own h.oR og h.bR
  rD:=h.rD.at hsz λb off e h0=>hM b (h.bD b off e h0).1 (eH (h.bD b off e h0).2)
  rM:=h.rM.at hsz λb off e h0=>hM b (h.bM b off e h0).1 (eH (h.bM b off e h0).2)
  bD:=λb off e h0=>⟨(h.bD b off e h0).1,by rw[hM b (h.bD b off e h0).1 (eH (h.bD b off e h0).2)];exact(h.bD b off e h0).2⟩
  bM:=λb off e h0=>⟨(h.bM b off e h0).1,by rw[hM b (h.bM b off e h0).1 (eH (h.bM b off e h0).2)];exact(h.bM b off e h0).2⟩
  clu:=λfa cs c rd T e=>⟨eK.keep (h.clu fa cs c rd T e).1 hO,(h.clu fa cs c rd T e).2⟩ }
theorem aFz.later(h:aFz w base S M O st A N)(hN:N<=N'):aFz w base S M O st A N':=
 { h with nL:=kH h.nL hN,nR:=kH h.nR hN,clu:=λfa cs c rd T e=>⟨(h.clu fa cs c rd T e).1,kH (h.clu fa cs c rd T e).2 hN⟩ }
theorem fV.later(h:fV w base S M O st A N)(hN:N<=N'):fV w base S M O st A N':=⟨h.r.later hN,h.blk⟩
theorem fV.keep(h:fV w base S M O st A N)(hM:Same M w w')(hO:Same O w w'):fV w' base S M O st A N:=
 ⟨h.r.keep h.blk hM.1 (λc hc _=>hM.2 c hc) hO,(hM.2 S h.r.s).trans h.blk⟩
theorem fV.below(h:fV w base S M O st A N)(hb:bW w w'):fV w' base S M O st A N:=h.keep (Same.of_below hb h.r.hi) (Same.of_below hb h.r.hiO)
theorem fV.rest(h:fV w base S M O st A N)(hsz:w'.1.size=w.1.size)(ho:∀c,c≠S->w'.1[c]?=w.1[c]?):aFz w' base S M O st A N:=
 h.r.keep h.blk (Nat.le_of_eq hsz.symm) (λc _ hn=>ho c hn) ⟨Nat.le_of_eq hsz.symm,λc hc=>ho c (λe=>h.r.ap c hc (e▸h.r.s))⟩
end
def bK(base S:Nat)(M O:List Nat)(st:iY)(N:Nat)(k:Kd)(n:List Int)(tx:WG)(w:WA)(e:Ending)(w':WA):Prop:=
 ∃pO r M' O' A',rQ k st n tx pO r/\e=r.ending/\aR (M++O) (M'++O') w w'/\fV w' base S M' O' pO A' (N+1)
end
section
section
variable{w:WA}{base S:Nat}{M O:List Nat}{st:iY}{A:mQ}{N:Nat}
theorem fV.alloc(h:fV w base S M O st A N)(o:Obj):fV (w.alloc o) base S M O st A N:=h.below ((jD _ w).alloc (kG _) o)
theorem aR.alloc{X:List Nat}(o:Obj):aR X X w (w.alloc o):=aR.of_below ((jD _ w).alloc (kG _) o)
theorem cD{X:List Nat}{i:Nat}(hS:S∈X)(v:WB):aR X X w (w.setCell (aA S i) v):=
 ⟨rfl,rfl,rfl,oe,λc _ hn=>cH (λe=>hn (by rw[e];exact hS)) v,λ_ h=>.inl h⟩
theorem bdN(v:WA)(q:Nat):bW v (v.drewN q):=⟨rfl,rfl,rfl,kG _,λ_ _=>rfl⟩
def tJ(w:WA)(M:List Nat)(a:Option WT)(n:List Int):Prop:=bI w a n/\∀b off,a=some (aA b off)->0<n.length->b∈M/\∃cs fr,w.1[b]?=some (.cells cs 3 fr)
theorem tJ.ne{a:Option WT}{n:List Int}{b off:Nat}(hr:tJ w M a n)(h:fV w base S M O st A N)(e:a=some (aA b off))(h0:0<n.length):b≠S:=by obtain⟨_,_,_,q⟩:=hr.2 b off e h0;exact F5 q h.blk og
theorem aJy{X Y:List Nat}{u v:WA}{q:Nat}(h:aR X Y u v):aR X Y u (v.drewN q):=⟨h.os,h.tape,h.output,h.size,h.block,h.fresh⟩
theorem aFc(h:fV w base S M O st A N)(hc0:st.clu=none)(n:List Int)(hn:n.length=6)(a:Option WT)(cap:Nat)(tx:WG)(hr:tJ w M a n):
  Calls prog 37 #[pP S,.agg #[sV a n.length cap,sT tx]] w (bK base S M O st N .qZ n tx w):=by obtain⟨b,off,rfl,oF,hc⟩:=hr.1 od;have eH:b≠S:=hr.ne h rfl od;rw[hn]at hc⊢;generalize hV:w.alloc (.cells #[sV (some (aA b off)) 6 cap,sT tx] 105)=V;have hB:bW w V:=hV▸(jD _ w).alloc (kG _) _;have x0:V.cell? (aA w.1.size 0)=some (sV (some (aA b off)) 6 cap):=om;have m41:=0;exact zLr
end
end
section
def aNl:mQ:=⟨sV none 0 0,sV none 0 0,sV none 0 0,sV none 0 0,none,0,none,0,0⟩
theorem bQ{u:WA}{b:Nat}{o:Obj}(h:u.1[b]?=some o):b<u.1.size:=(kZ h).1
section
variable{w:WA}{base S:Nat}{M O:List Nat}{st:iY}{A:mQ}{N:Nat}
theorem aJq(h:fV w base S M O st A N)(n:List Int)(hn:n.length<=20000)(a:Option WT)(cap:Nat)(tx:WG)(hr:tJ w M a n):
  Calls prog 46 #[pP S,.agg #[sV a n.length cap,sT tx]] w (bK base S M O st N .mX n tx w):=zG3
theorem aPt(h:fV w base S M O st A N)(n:List Int)(hn:n.length<=20000)(a:Option WT)(cap:Nat)(tx:WG)(hr:tJ w M a n):
  Calls prog 47 #[pP S,.agg #[sV a n.length cap,sT tx]] w (bK base S M O st N .qX n tx w):=have m36:=0;zG3
theorem aP2(h:fV w base S M O st A N)(n:List Int)(v:WB)(tx:WG):
  Calls prog 56 #[pP S,.agg #[v,sT tx]] w (bK base S M O st N .xQ n tx w):=by have HS:Hid (∀o:Obj,fV (w.alloc o) base S M O st A N):=λo=>h.alloc o;clear h;go_enter func56,ntmps56;go_wp2_with fail;go_ret;exact⟨st,.ok aT0,M,O,A,⟨rfl,rfl⟩,rfl,aR.alloc _,(HS.out _).later (kU N)⟩
theorem aJi(h:fV w base S M O st A N)(n:List Int)(v:WB)(tx:WG):
  Calls prog 55 #[pP S,.agg #[v,sT tx]] w (bK base S M O st N .clear_ n tx w):=zJ1
end
end
section
theorem aW1{u u':WA}{row:Option Nat}(h:u.drew.grownBy u' row):u.grownBy u' row:=⟨h.os,h.tape,h.output,h.size,h.block⟩
section
variable{w V w3:WA}{base S:Nat}{M O:List Nat}{st:iY}{A:mQ}{N:Nat}
theorem aTp(hs:fV V base S M O st A N)(hB:bW w V)(n:List Int)(E:Obj)(g c:Nat)(hg:(V.alloc E).grownBy w3 A.vO.ownBlock)(cP:w3.ownsRow base 138 3 (sL g (st.next.nL+1) c) (st.next.nL+1) (bN st.next.ls st.next.lc st.next.lt st.next.nL++[iI (n.getD 0 0),iI (n.getD 1 0),iI (n.getD 2 0)]))(oX:A.vO.ownBlock=some g\/g=V.1.size+1)(hlt:g<w3.1.size)(hi:jN (n.getD 2 0)):
  aR (M++O) ((g::M)++O) w (w3.setCell (aA S 11) (sL g (st.next.nL+1) c))/\fV (w3.setCell (aA S 11) (sL g (st.next.nL+1) c)) base S (g::M) O { st with next:=st.next.bG0 n } { A with vO:=sL g (st.next.nL+1) c } (N+1):=zHh
theorem aV4(hs:fV V base S M O st A N)(hB:bW w V)(n:List Int)(E:Obj)(g c:Nat)(hg:(V.alloc E).grownBy w3 A.vR.ownBlock)(cP:w3.ownsRow base 140 3 (sL g (st.next.nR+1) c) (st.next.nR+1) (bN st.next.rn st.next.ro st.next.ri st.next.nR++[iI (n.getD 0 0),iI (n.getD 1 0),iI (n.getD 2 0)]))(oX:A.vR.ownBlock=some g\/g=V.1.size+1)(hlt:g<w3.1.size):
  aR (M++O) ((g::M)++O) w (w3.setCell (aA S 12) (sL g (st.next.nR+1) c))/\fV (w3.setCell (aA S 12) (sL g (st.next.nR+1) c)) base S (g::M) O { st with next:=st.next.read n } { A with vR:=sL g (st.next.nR+1) c } (N+1):=have m50:=0;zHh
theorem aVk(hs:fV V base S M O st A N)(hB:bW w V)(n:List Int)(E:Obj)(g c:Nat)(hg:(V.alloc E).grownBy w3 A.vS.ownBlock)(cP:w3.ownsRow base 120 3 (sL g (st.aO.ns+1) c) (st.aO.ns+1) (bN st.aO.nd st.aO.fr st.aO.td st.aO.ns++[iI (n.getD 0 0),iI (n.getD 1 0),iI (n.getD 2 0)]))(oX:A.vS.ownBlock=some g\/g=V.1.size+1)(hlt:g<w3.1.size)(hc:st.clu=none)(hns:st.aO.ns<32):
  aR (M++O) ((g::M)++O) w (w3.setCell (aA S 6) (sL g (st.aO.ns+1) c))/\fV (w3.setCell (aA S 6) (sL g (st.aO.ns+1) c)) base S (g::M) O { st with aO:=st.aO.slot n } { A with vS:=sL g (st.aO.ns+1) c } (N+1):=zKk
theorem aTm(hs:fV V base S M O st A N)(hB:bW w V)(n:List Int)(E:Obj)(g c:Nat)(hg:(V.alloc E).grownBy w3 A.vL.ownBlock)(cP:w3.ownsRow base 124 4 (sL g (st.aO.nl+1) c) (st.aO.nl+1) (cS st.aO.lf st.aO.lt st.aO.lb st.aO.lq st.aO.nl++[iI (n.getD 0 0),iI (n.getD 1 0),iI (n.getD 2 0),iI (n.getD 3 0)]))(oX:A.vL.ownBlock=some g\/g=V.1.size+1)(hlt:g<w3.1.size)(hc:st.clu=none)(hns:st.aO.nl<8)(hi:jN (n.getD 1 0)):
  aR (M++O) ((g::M)++O) w (w3.setCell (aA S 7) (sL g (st.aO.nl+1) c))/\fV (w3.setCell (aA S 7) (sL g (st.aO.nl+1) c)) base S (g::M) O { st with aO:=st.aO.link n } { A with vL:=sL g (st.aO.nl+1) c } (N+1):=have m49:=0;zKk
theorem Tryz.aP7:(Tryz.prog.info? 138).map (λi=>(i.zero,i.size,i.bytes))=some (some (.agg #[iI 0,iI 0,iI 0]),3,24):=oh
theorem aPm(h:fV w base S M O st A N)(hN:N<=100000)(n:List Int)(hn:n.length=3)(hi:jN (n.getD 2 0))(a:Option WT)(cap:Nat)(tx:WG)(hr:tJ w M a n):
  Calls prog 44 #[pP S,.agg #[sV a n.length cap,sT tx]] w (bK base S M O st N .qD n tx w):=zKc
theorem Tryz.aP8:(Tryz.prog.info? 140).map (λi=>(i.zero,i.size,i.bytes))=some (some (.agg #[iI 0,iI 0,iI 0]),3,24):=oh
theorem aQc(h:fV w base S M O st A N)(hN:N<=100000)(n:List Int)(hn:n.length=3)(a:Option WT)(cap:Nat)(tx:WG)(hr:tJ w M a n):
  Calls prog 45 #[pP S,.agg #[sV a n.length cap,sT tx]] w (bK base S M O st N .qG n tx w):=have m3:=0;zKc
end
end
section
variable{N S base:Nat}
theorem bK.pre{M O:List Nat}{st:iY}{k:Kd}{n:List Int}{tx:WG}{w V w':WA}{e:Ending}(h:bK base S M O st N k n tx V e w')(hB:bW w V):bK base S M O st N k n tx w e w':=by obtain⟨pO,r,M',O',A',h1,h2,h3,h4⟩:=h;exact⟨pO,r,M',O',A',h1,h2,(aR.of_below hB).trans h3,h4⟩
theorem bK.aNo{M O:List Nat}{st:iY}{k:Kd}{n:List Int}{tx:WG}{w w':WA}{e:Ending}{q:Nat}(h:bK base S M O st N k n tx (w.drewN q) e w'):bK base S M O st N k n tx w e w':=h.pre (bdN w q)
theorem aUu(v:WA)(a b c d:WB)(t:WI):∀(j:Nat)(u:WB),[a,b,c,d][j]?=some u->(v.alloc (.cells #[a,b,c,d] t)).drew.cell? (((aA v.1.size 0):WT).add j)=some u:=λj u hu=>by rw[mJ,Nat.zero_add];have:=World.cell?_alloc_new v #[a,b,c,d] t j;refine this.trans ?_;simpa using hu
section
variable{w:WA}{base S:Nat}{M O:List Nat}{st:iY}{A:mQ}{N:Nat}
theorem Tryz.aP9:(Tryz.prog.info? 120).map (λi=>(i.zero,i.size,i.bytes))=some (some (.agg #[iI 0,iI 0,iI 0]),3,24):=oh
theorem aBa(u:WA)(h:fV u base S M O st A N)(hns:¬st.aO.ns<32)(n:List Int)(tx:WG):
  Calls prog 73 #[.pointer (some (aA S 6)),iI 32,.agg #[iI (n.getD 0 0),iI (n.getD 1 0),iI (n.getD 2 0)]] u (bK base S M O st N .oV n tx u):=zH6
theorem aBb(u:WA)(h:fV u base S M O st A N)(hc:st.clu=none)(hns:st.aO.ns<32)(n:List Int)(tx:WG):
  Calls prog 73 #[.pointer (some (aA S 6)),iI 32,.agg #[iI (n.getD 0 0),iI (n.getD 1 0),iI (n.getD 2 0)]] u (bK base S M O st N .oV n tx u):=zGb
theorem Tryz.aP6:(Tryz.prog.info? 124).map (λi=>(i.zero,i.size,i.bytes))=some (some (.agg #[iI 0,iI 0,iI 0,iI 0]),4,32):=oh
theorem aB8(u:WA)(h:fV u base S M O st A N)(hns:¬st.aO.nl<8)(n:List Int)(tx:WG):
  Calls prog 74 #[.pointer (some (aA S 7)),iI 8,.agg #[iI (n.getD 0 0),iI (n.getD 1 0),iI (n.getD 2 0),iI (n.getD 3 0)]] u (bK base S M O st N .oP n tx u):=have m75:=0;zH6
theorem aB9(u:WA)(h:fV u base S M O st A N)(hc:st.clu=none)(hns:st.aO.nl<8)(n:List Int)(hi:jN (n.getD 1 0))(tx:WG):
  Calls prog 74 #[.pointer (some (aA S 7)),iI 8,.agg #[iI (n.getD 0 0),iI (n.getD 1 0),iI (n.getD 2 0),iI (n.getD 3 0)]] u (bK base S M O st N .oP n tx u):=have m8:=0;zGb
def wO(w:WA)(M O:List Nat)(a:Option WT)(n:List Int):Prop:=bI w a n/\∀b off,a=some (aA b off)->0<n.length->b∉M++O
theorem aDf(h:fV w base S M O st A N)(hc0:st.clu=none)(n:List Int)(hn:n.length=3)(a:Option WT)(cap:Nat)(tx:WG)(hr:wO w M O a n):
  Calls prog 38 #[pP S,.agg #[sV a n.length cap,sT tx]] w (bK base S M O st N .oV n tx w):=zGn
theorem aDe(h:fV w base S M O st A N)(hc0:st.clu=none)(n:List Int)(hn:n.length=4)(hi:jN (n.getD 1 0))(a:Option WT)(cap:Nat)(tx:WG)(hr:wO w M O a n):
  Calls prog 39 #[pP S,.agg #[sV a n.length cap,sT tx]] w (bK base S M O st N .oP n tx w):=have m20:=0;zGn
end
end
section
theorem oK(x:Int)(hx:jN x)(w:WA)(hw:gW w):Calls prog 36 #[iI x] w λe w'=>e=rT (sT (dW x))/\bW w w':=
 (Tryz.strconv_Itoa x hx.1 hx.2 w hw.tab).mono λ_ _ ⟨h1,k,os,h2⟩=>⟨h1,h2▸below_grow w k os⟩
theorem zX(w:WA)(k:Int):gX w (dG k) k (-1):=by
 unfold dG;by_cases h:k=0
 .rw[kK h];exact .inl ⟨rfl,h,rfl⟩
 .rw[kJ h];exact .inr (.inl ⟨rfl,h,rfl⟩)
theorem A2(x k:Int)(w:WA)(hg:Told w):Calls prog 89 #[iI x,dG k] w λe w'=>e=(if k=0 then rT (iI x)else dM k)/\bW w w':=by
 by_cases h:k=0
 .subst h;rw[kK rfl];exact aF4 _ w
 .rw[kJ h];exact aI3 _ w hg (zX w k) h
theorem bI.rest{w:WA}{b off:Nat}{x:Int}{l:List Int}(h:bI w (some (aA b off)) (x::l)):bI w (some (aA b (off+1))) l:=λh0=>by obtain⟨b',bN3,e,hl,hc⟩:=h oe;injection e with e;injection e with e1 e2;subst e1 e2;refine⟨b,off+1,rfl,hl,λj hj=>?_⟩;have:=hc (j+1) ol;rw[show off+1+j=off+(j+1)by omega];exact zCk
section
variable{w:WA}{base S:Nat}{M O:List Nat}{st:iY}{A:mQ}{N:Nat}
theorem iK(h:fV w base S M O st A N){V w':WA}(hV:bW w V)(hw:bW V w'){k:Kd}{n:List Int}{tx:WG}{r:K0}(hd:rQ k st n tx st r){e:Ending}(he:e=r.ending):bK base S M O st N k n tx w e w':=
 ⟨st,r,M,O,A,hd,he,(aR.of_below hV).trans (aR.of_below hw),((h.below hV).below hw).later (kU N)⟩
theorem aBq(h:fV w base S M O st A N)(hD:cU w.1.size w)(x:Int)(l:List Int)(hl:l.length<=19999)(a:Option WT)(cap:Nat)(hcap:l.length+1<=cap)(tx:WG)(hr:bI w a (x::l)):
  Calls prog 52 #[pP S,.agg #[sV a (l.length+1) cap,sT tx]] w (bK base S M O st N .gD (x::l) tx w):=by obtain⟨b,off,rfl,oF,hc⟩:=hr oe;generalize hV:w.alloc (.cells #[sV (some (aA b off)) (l.length+1) cap,sT tx] 105)=V;exact zLd
end
end
section
variable{N S base:Nat}
theorem aGc(n:List Int)(hn:n.length=5)(a:Option WT)(cap:Nat)(tx:WG)(w:WA)(hr:bI w a n):
  Calls prog 91 #[.agg #[sV a 5 cap,sT tx]] w λe w'=>e=rT (tU #[.agg #[iI (n.getD 0 0),iI (n.getD 1 0),iI (n.getD 2 0),iI (n.getD 3 0)],iI (n.getD 4 0)])/\bW w w':=by
 obtain⟨b,off,rfl,oF,hc⟩:=hr od;rw[hn]at hc;generalize hV:(w.alloc (.cells #[sV (some (aA b off)) 5 cap,sT tx] 105)).alloc (.cells #[iI 0,iI 0,iI 0,iI 0] 150)=V;have hB:bW w V:=hV▸((jD _ w).alloc (kG _) _).alloc oe _;have x0:V.cell? (aA w.1.size 0)=some (sV (some (aA b off)) 5 cap):=om;have k0:V.cell? (aA (w.1.size+1) 0)=some (iI 0):=om;have k1:V.cell? (aA (w.1.size+1) 1)=some (iI 0):=om;have k2:V.cell? (aA (w.1.size+1) 2)=some (iI 0):=om;have k3:V.cell? (aA (w.1.size+1) 3)=some (iI 0):=om;have z0:∀i,V.frozen? (aA (w.1.size+1) i)=false:=λi=>by rw[<-hV];simp[go_sem]
 exact zLr
theorem aHb(f s n d r:Int)(u:WA):Calls prog 92 #[.agg #[iI f,iI s,iI n,iI d],iI r] u λe w'=>∃x,e=rT (tU #[iI x,dG (jO f s n d r)])/\(jO f s n d r=0->x=s+(r-f)*n/d/\jN x)/\bW u w':=by
 by_cases h1:eA f s n d=false
 .have e:jO f s n d r=1:=by unfold jO;rw[kK h1]
  rw[e];exact(aPk f s n d r u h1).mono λev w' h=>⟨0,h.1,λq=>Ef,h.2⟩
 .have h1':eA f s n d=true:=by simpa using h1
  by_cases h2:r<f\/1099511627776<r\/1099511627776<s+(r-f)*n/d
  .have e:jO f s n d r=2:=by unfold jO;rw[kJ h1,kK h2]
   rw[e];by_cases h3:r<f
   .exact(aHa f s n d r u h1' h3).mono λev w' h=>⟨0,h.1,λq=>Ef,h.2⟩
   .by_cases h4:1099511627776<r
    .exact(aKc f s n d r u h1' h4).mono λev w' h=>⟨0,h.1,λq=>Ef,h.2⟩
    .exact(aKb f s n d r u h1' od od (by rcases h2 with q|q|q;exact absurd q h3;exact absurd q h4;exact q)).mono λev w' h=>⟨0,h.1,λq=>Ef,h.2⟩
  .have e:jO f s n d r=0:=by unfold jO;rw[kJ h1,kJ h2]
   rw[e];simp only[not_or]at h2;obtain⟨q1,q2,q3⟩:=h2;refine(aTo f s n d r u h1' od od od).mono λev w' h=>⟨_,h.1,λ_=>⟨rfl,?_⟩,h.2⟩;exact zCl
theorem aLc(f s n d l:Int)(u:WA):Calls prog 93 #[.agg #[iI f,iI s,iI n,iI d],iI l] u λe w'=>∃x,e=rT (tU #[iI x,dG (oQ f s n d l)])/\(oQ f s n d l=0->x=oT f s n d l/\jN x)/\bW u w':=by
 by_cases h1:eA f s n d=false
 .have e:oQ f s n d l=1:=by unfold oQ;rw[kK h1]
  rw[e];exact(aVb f s n d l u h1).mono λev w' h=>⟨0,h.1,λq=>Ef,h.2⟩
 .have h1':eA f s n d=true:=by simpa using h1
  obtain⟨a1,a2,a3,a4,a5,a6,a7,a8,a9,a10⟩:=oU h1';by_cases h2:l< -1099511627776\/1099511627776<l\/1099511627776<oT f s n d l
  .have e:oQ f s n d l=2:=by unfold oQ;rw[kJ h1,kK h2]
   rw[e];by_cases h3:l< -1099511627776
   .exact(aVc f s n d l u h1' h3).mono λev w' h=>⟨0,h.1,λq=>Ef,h.2⟩
   .by_cases h4:1099511627776<l
    .exact(aQg f s n d l u h1' h4).mono λev w' h=>⟨0,h.1,λq=>Ef,h.2⟩
    .have h5:1099511627776<oT f s n d l:=by rcases h2 with q|q|q;exact absurd q h3;exact absurd q h4;exact q
     by_cases h6:l<=s
     .unfold oT at h5;rw[kK h6]at h5;omega
     .unfold oT at h5;rw[kJ h6]at h5;exact(aQf f s n d l u h1' od od h5).mono λev w' h=>⟨0,h.1,λq=>Ef,h.2⟩
  .have e:oQ f s n d l=0:=by unfold oQ;rw[kJ h1,kJ h2]
   rw[e];simp only[not_or]at h2;obtain⟨q1,q2,q3⟩:=h2;by_cases h6:l<=s
   .have e2:oT f s n d l=f:=by unfold oT;rw[kK h6]
    rw[e2];exact(aLb f s n d l u h1' od h6).mono λev w' h=>⟨f,h.1,λ_=>⟨rfl,od,od⟩,h.2⟩
   .have e2:oT f s n d l=f+((l-s)*d+n-1)/n:=by unfold oT;rw[kJ h6]
    rw[e2]at q3⊢;refine(aYo f s n d l u h1' od od od).mono λev w' h=>⟨_,h.1,λ_=>⟨rfl,?_⟩,h.2⟩;exact zDv
theorem aKa{w:WA}{M O:List Nat}{st:iY}{A:mQ}(h:fV w base S M O st A N)(hD:cU w.1.size w)(n:List Int)(hn:n.length=5)(a:Option WT)(cap:Nat)(tx:WG)(hr:bI w a n):
  Calls prog 53 #[pP S,.agg #[sV a n.length cap,sT tx]] w (bK base S M O st N .pB n tx w):=zG2
theorem aQe{w:WA}{M O:List Nat}{st:iY}{A:mQ}(h:fV w base S M O st A N)(hD:cU w.1.size w)(n:List Int)(hn:n.length=5)(a:Option WT)(cap:Nat)(tx:WG)(hr:bI w a n):
  Calls prog 54 #[pP S,.agg #[sV a n.length cap,sT tx]] w (bK base S M O st N .real_ n tx w):=have m35:=0;zG2
end
section
variable{c:cJ}{fa rd:Int}
theorem mL{x:Int}(h:jN x):(dW x).size<=21:=by have:=Lib.itoa_length_le x h.1 h.2;show(Lib.itoa x).toArray.size<=21;exact zCk
section
variable{w:WA}{base S:Nat}{M O:List Nat}{st:iY}{A:mQ}{N:Nat}
theorem aIl(h:fV w base S M O st A N)(hD:cU w.1.size w){cs:List Int}{T:Nat}(fN:st.clu=some (fa,cs,c,rd,T))(n:List Int)(v:WB)(tx:WG):
  Calls prog 50 #[pP S,.agg #[v,sT tx]] w (bK base S M O st N .mF n tx w):=have m48:=0;zHf
theorem members_bad(h:fV w base S M O st A N)(hD:cU w.1.size w){cs:List Int}{T:Nat}(fN:st.clu=some (fa,cs,c,rd,T))(x:Int)(a:Option WT)(cap:Nat)(tx:WG)(hr:bI w a [x])(hx:¬(0<=x/\x<st.aO.AA)):
  Calls prog 51 #[pP S,.agg #[sV a 1 cap,sT tx]] w (bK base S M O st N .eN [x] tx w):=zKb
theorem S0(h:fV w base S M O st A N)(hD:cU w.1.size w){cs:List Int}{T:Nat}(fN:st.clu=some (fa,cs,c,rd,T))(x:Int)(a:Option WT)(cap:Nat)(tx:WG)(hr:bI w a [x])(j:Nat)(hj:x=j)(hjn:j<st.aO.n)(hfz:(c.AA j).fz=true):
  Calls prog 51 #[pP S,.agg #[sV a 1 cap,sT tx]] w (bK base S M O st N .eN [x] tx w):=zGo
theorem G9(h:fV w base S M O st A N)(hD:cU w.1.size w){cs:List Int}{T:Nat}(fN:st.clu=some (fa,cs,c,rd,T))(x:Int)(a:Option WT)(cap:Nat)(tx:WG)(hr:bI w a [x])(j:Nat)(hj:x=j)(hjn:j<st.aO.n)(hfz:(c.AA j).fz=false):
  Calls prog 51 #[pP S,.agg #[sV a 1 cap,sT tx]] w (bK base S M O st N .eN [x] tx w):=have m21:=0;zGo
end
end
structure cJ.Small(c:cJ):Prop where
 all:∀k x,x∈(c.aK k).all->x.size<=40
 port:∀k j x,x∈c.aT k j->x.size<=40
theorem cJ.Small.start:cJ.start.Small:=⟨λ_ _ h=>Oa,λ_ _ _ h=>Oa⟩
theorem cJ.Small.recvD{c:cJ}(h:c.Small)(k j:Nat):(recvD (c.aT k j)).size<=40:=by
 unfold Go.Proofs.YtnbomhedoelklaaGreatDoor.recvD
 cases e:c.aT k j with
 |nil=>exact kI _
 |cons x l=>exact h.port k j x (by rw[e];exact kT)
theorem cJ.Small.recv{c:cJ}(h:c.Small)(k j:Nat):(c.recv k j).Small:=by
 refine⟨h.all,λk' j' x hx=>?_⟩;have i7:x∈(if k'=k/\j'=j then(c.aT k j).tail else c.aT k' j'):=hx;by_cases e:k'=k/\j'=j
 .rw[kK e]at i7;exact h.port k j x (List.mem_of_mem_tail i7)
 .rw[kJ e]at i7;exact h.port k' j' x i7
theorem cJ.Small.put{c:cJ}(h:c.Small)(p:aP)(k:Nat)(d:WG):(c.put p k d).Small:=by
 refine⟨λk' x hx=>?_,h.port⟩;have i7:x∈(if k'=k then({ all:=mN (Go.Proofs.YtnbomhedoelklaaGreatDoor.putK ((c.aK k).all.length-(c.aK k).aQ) (p.lq k) d) (c.aK k).all d,aQ:=(c.aK k).aQ,last:=(c.aK k).last,now:=(c.aK k).now }:lN)else c.aK k').all:=hx;by_cases e:k'=k
 .rw[kK e]at i7;have hx2:x∈mN (Go.Proofs.YtnbomhedoelklaaGreatDoor.putK ((c.aK k).all.length-(c.aK k).aQ) (p.lq k) d) (c.aK k).all d:=i7;unfold mN at hx2;by_cases hk:Go.Proofs.YtnbomhedoelklaaGreatDoor.putK ((c.aK k).all.length-(c.aK k).aQ) (p.lq k) d=0
  .rw[kK hk]at hx2;rcases kN hx2 with q|q
   .exact h.all k x q
   .have:x=d:=by simpa using q
    subst this;unfold Go.Proofs.YtnbomhedoelklaaGreatDoor.putK at hk;by_cases hs:40<x.size
    .rw[kK hs]at hk;cases hk
    .exact Nat.le_of_not_lt hs
  .rw[kJ hk]at hx2;exact h.all k x hx2
 .rw[kJ e]at i7;exact h.all k' x i7
theorem aBp(p:nP)(AE:Nat)(t:Int)(L:Nat->lN)(h:∀k x,x∈(L k).all->x.size<=40):∀n,(∀k x,x∈((aH p AE t L n).1 k).all->x.size<=40)/\(cW (aH p AE t L n).2).size<=40:=by
 intro n
 induction n with
 |zero=>exact⟨h,kI _⟩
 |succ n ih=>
  show(∀k x,x∈((if(aH p AE t L n).2.isSome=true\/p.lf n≠AE then aH p AE t L n else _).1 k).all->_)/\(cW (if(aH p AE t L n).2.isSome=true\/p.lf n≠AE then aH p AE t L n else _).2).size<=40
  by_cases hc:(aH p AE t L n).2.isSome=true\/p.lf n≠AE
  .rw[kK hc]
   exact ih
  .rw[kJ hc]
   refine⟨λk x hx=>?_,?_⟩
   .have i7:x∈(if k=n then((aH p AE t L n).1 n).asked t (p.lb n)else(aH p AE t L n).1 k).all:=hx
    by_cases e:k=n
    .rw[kK e]at i7
     exact ih.1 n x i7
    .rw[kJ e]at i7
     exact ih.1 k x i7
   .show(cW (if _ then some _ else none)).size<=40
    split
    .show(((aH p AE t L n).1 n).all.getD ((aH p AE t L n).1 n).aQ AU).size<=40
     rw[List.getD_eq_getElem?_getD]
     cases e:((aH p AE t L n).1 n).all[((aH p AE t L n).1 n).aQ]? with
     |none=>exact kI _
     |some y=>exact ih.1 n y (List.mem_of_getElem? e)
    .exact kI _
theorem cJ.Small.slot{c:cJ}(h:c.Small)(p:nP)(H:qL)(rd:Int)(i:Nat):(c.slot p H rd i).Small:=by
 have hg:(∀k x,x∈((c.goes p H rd i).1 k).all->x.size<=40)/\(cW (c.goes p H rd i).2).size<=40:=by
  unfold cJ.goes;by_cases e:c.sends H (p.nd i)=true
  .rw[kK e];exact aBp p _ _ c.aK h.all p.nl
  .rw[kJ e];exact⟨h.all,kI _⟩
 refine⟨hg.1,λk j x hx=>?_⟩;have i7:x∈(if c.yD p H i (c.goes p H rd i).2 k j=true/\(c.aT k j).length<16 then c.aT k j++[cW (c.goes p H rd i).2]else c.aT k j):=hx;by_cases e:c.yD p H i (c.goes p H rd i).2 k j=true/\(c.aT k j).length<16
 .rw[kK e]at i7;rcases kN i7 with q|q
  .exact h.port k j x q
  .have:x=cW (c.goes p H rd i).2:=by simpa using q
   rw[this];exact hg.2
 .rw[kJ e]at i7;exact h.port k j x i7
theorem cJ.Small.mP{c:cJ}(h:c.Small)(p:nP)(H:qL)(rd:Int):∀n,(c.mP p H rd n).Small
 |0=>h
 |n+1=>(cJ.Small.mP h p H rd n).slot p H rd n
def iY.Small(s:iY):Prop:=∀fa cs c rd T,s.clu=some (fa,cs,c,rd,T)->c.Small
theorem iY.Small.start:iY.start.Small:=λ_ _ _ _ _ h=>Oa
theorem iY.Small.some{s:iY}{fa:Int}{cs:List Int}{c:cJ}{rd:Int}{T:Nat}(h:c.Small)(e:s.clu=some (fa,cs,c,rd,T)):s.Small:=λfa' cs' c' rd' T' e'=>by rw[e]at e';cases e';exact h
theorem iY.Small.aSg{k:Kd}{s s':iY}{n:List Int}{tx:WG}{r:K0}(h:s.Small)(hd:rQ k s n tx s' r):s'.Small:=by
 cases k using Kd.each;case qZ=>obtain⟨rfl,_⟩:=hd;exact h
 case oV=>rcases hd with⟨_,rfl,_⟩|⟨_,rfl,_⟩<;>exact h
 case oP=>rcases hd with⟨_,rfl,_⟩|⟨_,rfl,_⟩<;>exact h
 case bytes_=>obtain⟨_,_,_,rfl,_⟩:=hd;exact h
 case iV=>
  obtain⟨_,_,_,q⟩:=hd;rcases q with⟨_,rfl,_⟩|⟨_,rfl,_⟩
  .exact h
  .exact .some .start rfl
 case vY=>
  obtain⟨fa,cs,c,rd,T,hc,q⟩:=hd;rcases q with⟨j,_,_,rfl,_⟩|⟨_,rfl,_⟩
  .exact .some ((h _ _ _ _ _ hc).put _ _ _) rfl
  .exact h
 case gU=>
  obtain⟨fa,cs,c,rd,T,hc,q⟩:=hd;rcases q with⟨j,i,_,_,_,rfl,_⟩|⟨_,rfl,_⟩
  .exact .some ((h _ _ _ _ _ hc).recv _ _) rfl
  .exact h
 case qD=>obtain⟨rfl,_⟩:=hd;exact h
 case qG=>obtain⟨rfl,_⟩:=hd;exact h
 case mX=>obtain⟨rfl,_⟩:=hd;exact h
 case qX=>obtain⟨rfl,_⟩:=hd;exact h
 case pD=>
  obtain⟨fa,cs,c,rd,T,hc,q⟩:=hd;rcases q with⟨_,rfl,_⟩|⟨_,rfl,_⟩
  .exact h
  .exact .some ((h _ _ _ _ _ hc).mP _ _ _ _) rfl
 case lZ=>obtain⟨_,_,_,_,_,_,rfl,_⟩:=hd;exact h
 case mF=>obtain⟨_,_,_,_,_,_,rfl,_⟩:=hd;exact h
 case eN=>obtain⟨_,_,_,_,_,_,rfl,_⟩:=hd;exact h
 case gD=>obtain⟨rfl,_⟩:=hd;exact h
 case pB=>obtain⟨rfl,_⟩:=hd;exact h
 case real_=>obtain⟨rfl,_⟩:=hd;exact h
 case clear_=>obtain⟨rfl,_⟩:=hd;exact .start
 case xQ=>obtain⟨rfl,_⟩:=hd;exact h
section
section
variable{w:WA}{base S:Nat}{M O:List Nat}{st:iY}{A:mQ}{N:Nat}
theorem Tryz.aTb:(Tryz.prog.info? 9).map (λi=>(i.zero,i.size,i.bytes))=some (some (sT ⟨#[]⟩),1,16):=oh
theorem aHj{u u':WA}{B n:Nat}{e:WI}{v:WB}{xs:List WB}(h:u.ownsRow B e 1 v n xs)(hb:bW u u'):u'.ownsRow B e 1 v n xs:=gF h λg hg=>hb.block g (h.lt g hg).2
theorem aMz:∀(l:List Int),(∀x∈l,jN x)->Lib.lens (l.map λx=>(dW x).data.toList)<=21*l.length
 |[],_=>by simp[Lib.lens]
 |x::l,h=>by
  have h1:=aMz l λy hy=>h y (kR _ hy);have h2:(dW x).data.toList.length<=21:=by have:=mL (h x kT);rw[Array.length_toList];exact this
  simp only[List.map_cons,Lib.lens,List.length_cons,List.sum_cons]at h1⊢;omega
theorem M3{l:List Int}(hl:l.length<=16)(h:∀x∈l,jN x):(aCn l).size<=500:=by
 show(Lib.join (l.map λx=>(dW x).data.toList) [32]).toArray.size<=500;rw[List.size_toArray]
 cases l with
 |nil=>simp[Lib.join]
 |cons x l=>
  rw[List.map_cons,Lib.join_length,<-List.map_cons (f:=λx=>(dW x).data.toList)]
  have:=aMz (x::l) h
  simp only[List.length_cons,List.length_nil,List.length_map]at hl this⊢
  omega
def P5(cs:List Int):List WB:=cs.map λx=>sT (dW x)
theorem aM0(cs:List Int)(k:Nat)(hk:k<cs.length):P5 (cs.take (k+1))=P5 (cs.take k)++[sT (dW (cs.getD k 0))]:=by unfold P5;rw[List.take_add_one,AT hk,List.map_append];simp[List.getD_eq_getElem?_getD,AT hk]
theorem aTc(cs:List Int)(hl:cs.length<=16)(jT:∀x∈cs,jN x)(B:Nat)(u:WA)(v:WB)(h:u.ownsRow B 9 1 v cs.length (P5 cs)):
  Calls prog 86 #[v,sT ⟨#[32]⟩] u λe w'=>e=rT (sT (aCn cs))/\bW u w':=by
 rcases h.2 with⟨rfl,h0⟩|⟨g,cap,cur,rfl,hg,hh,hnc,_⟩
 .obtain rfl:cs=[]:=List.eq_nil_of_length_eq_zero h0;refine(Tryz.strings_Join_none none 0 ⟨#[32]⟩ u).mono λe w' q=>?_;rw[q.1,q.2];exact⟨rfl,jD _ _⟩
 .have e:(cs.map dW).length=cs.length:=by simp
  have hc:∀(j:Nat) x,(cs.map dW)[j]?=some x->u.cell? (aA g (0+j))=some (sT x):=λj x hj=>by
   have:=h.cells (g:=g) rfl j (sT x) (by
    unfold P5
    rw[List.getElem?_map]at hj⊢
    cases q:cs[j]? with
    |none=>rw[q]at hj;cases hj
    |some y=>rw[q]at hj;cases hj;rfl)
   rw[mJ]at this;exact this
  have hjl:(Lib.join ((cs.map dW).map (·.data.toList)) [32]).length<=500:=by have:=M3 hl jT;unfold aCn at this;rw[List.map_map];show(Lib.join (cs.map λx=>(dW x).data.toList) [32]).length<=500;simpa[ByteArray.size]using this
  have hj:=Tryz.strings_Join g 0 cap (cs.map dW) ⟨#[32]⟩ u hc (bQ hh) (by rw[e];omega) (by rw[e];exact hnc) (by show(Lib.join _ [32]).length<=_;omega);rw[e]at hj;refine hj.mono λe w' q=>⟨?_,q.2⟩;rw[q.1];unfold aCn;rw[List.map_map];rfl
theorem aGd(h:fV w base S M O st A N)(hD:cU w.1.size w){fa:Int}{cs:List Int}{c:cJ}{rd:Int}{T:Nat}(fN:st.clu=some (fa,cs,c,rd,T))(n:List Int)(v:WB)(tx:WG):
  Calls prog 49 #[pP S,.agg #[v,sT tx]] w (bK base S M O st N .lZ n tx w):=zHf
end
end
section
variable{fa rd:Int}
section
variable{w V u:WA}{base S:Nat}{M O O':List Nat}{st:iY}{A:mQ}{N:Nat}
theorem fV.bAs(h:fV V base S M O st A N)(hf:aR O O' V u){cs:List Int}{c:cJ}{T:Nat}(eH:st.clu≠none)(hc:B7 u O' A.C st.aO fa cs c rd T)(hT:T<=N):fV u base S M O' { st with clu:=some (fa,cs,c,rd,T) } A N/\aR (M++O) (M++O') V u:=by have hM:∀x,x∈M->u.1[x]?=V.1[x]?:=λx hx=>hf.block x (h.r.hi x hx) (λy=>h.r.ap x y hx);exact zJd
theorem aUr(h:fV w base S M O st A N)(hD:cU base w){cs:List Int}{c:cJ}{T:Nat}(fN:st.clu=some (fa,cs,c,rd,T))(hN:N<=3000)(x:Int)(a:Option WT)(cap:Nat)(tx:WG)(hr:wO w M O a [x]):
  Calls prog 42 #[pP S,.agg #[sV a 1 cap,sT tx]] w (bK base S M O st N .vY [x] tx w):=zGd
theorem aF2(h:fV w base S M O st A N)(hD:cU base w){cs:List Int}{c:cJ}{T:Nat}(fN:st.clu=some (fa,cs,c,rd,T))(hsm:c.Small)(x y:Int)(a:Option WT)(cap:Nat)(tx:WG)(hr:wO w M O a [x,y]):
  Calls prog 43 #[pP S,.agg #[sV a 2 cap,sT tx]] w (bK base S M O st N .gU [x,y] tx w):=have m10:=0;zGd
end
end
section
section
variable{w V u:WA}{base S:Nat}{M O:List Nat}{st:iY}{A:mQ}{N:Nat}
theorem fV.bCr(h:fV w base S M O st A N):∃a:mS,A.vS=sV a.sa st.aO.ns a.sc/\A.vL=sV a.la st.aO.nl a.lc/\a.wa=none/\a.wc=0/\st.aO.In a w:=by obtain⟨sa,sc,e1,r1,_⟩:=w9 h.r.oS;obtain⟨la,lc,e2,r2⟩:=aCq h.r.oL;have h1:=h.r.ns;have h2:=h.r.nl;have h3:=h.r.nw;exact⟨⟨sa,sc,la,lc,none,0⟩,e1,e2,rfl,rfl,r1,r2,λq=>absurd q od,h.r.iL,od,od,od⟩
theorem aOp(p:aP)(a:mS)(w:WA)(jT:p.In a w):∃E I,p.Is E I/\(E=0->qY p<=2000)/\Calls prog 76 #[p.val a] w λe w'=>∃v X,e=rT (tU #[v,X])/\gX w' X E I/\(E=0->X=.nilIface/\∃ad cap,v=sV ad (qY p) cap)/\bW w w':=by
 obtain⟨E,I,hI,_⟩:=eK.chk p a w jT;have hc:∀v:WA,bW w v->Calls prog 99 #[p.val a] v λev w'=>∃X,ev=rT X/\gX w' X E I/\bW v w':=by intro v hv;obtain⟨E',I',hI',hC⟩:=eK.chk p a v (jT.below hv);obtain⟨rfl,rfl⟩:=hI.one hI';exact hC
 by_cases hE:E=0
 .subst hE;have hn:=hI.neg;subst hn;obtain⟨⟨d1,d2,d3⟩,pA⟩:=aN6 rfl hI;refine⟨0,-1,hI,λ_=>?_,?_⟩
  .exact kH (gE _) (by rw[y9];omega)
  .refine(aOq p.AA p.aG p.aM p.aC p.aJ p.round p.frame a.sa a.la a.wa p.ns a.sc p.nl a.lc p.nw a.wc p.nd p.fr p.td p.lf p.lt p.lb p.lq p.wp p.wf p.wt w jT.mP jT.aK jT.bDf d1 d2 d3 pA hc).mono ?_;rintro e w' ⟨v,rfl,ho,hb⟩;refine⟨v,.nilIface,rfl,.inl ⟨rfl,rfl,rfl⟩,λ_=>⟨rfl,?_⟩,hb⟩;rcases ho.2 with⟨q,q2⟩|⟨g,cap,cur,q,_⟩
   .exact⟨none,0,by rw[q];unfold qY;rw[q2]⟩
   .exact⟨_,cap,q⟩
 .refine⟨E,I,hI,λq=>absurd q hE,?_⟩;refine(aJs p.AA p.aG p.aM p.aC p.aJ p.round p.frame a.sa a.la a.wa p.ns a.sc p.nl a.lc p.nw a.wc E I w hE hc).mono ?_;rintro e w' ⟨X,rfl,hX,hb⟩;exact⟨_,X,rfl,hX,λq=>absurd q hE,hb⟩
theorem aJd(h:fV w base S M O st A N)(hD:cU w.1.size w)(n:List Int)(v:WB)(tx:WG):
  Calls prog 40 #[pP S,.agg #[v,sT tx]] w (bK base S M O st N .bytes_ n tx w):=by generalize hV:w.alloc (.cells #[v,sT tx] 105)=V;exact zGa
end
end
section
section
variable{w V u:WA}{base S:Nat}{M O O':List Nat}{st:iY}{A:mQ}{N:Nat}
theorem fV.begun(h:fV V base S M O st A N)(hb:bW V u){C:Nat}{fa:Int}{cs:List Int}(hc:B7 u O' C st.aO fa cs cJ.start 0 0)(hO:∀c,c∈O'->V.1.size<=c):
  fV (u.setCell (aA S 10) (pP C)) base S M O' { st with clu:=some (fa,cs,cJ.start,0,0) } { A with C:=C } N/\aR (M++O) (M++O') V (u.setCell (aA S 10) (pP C)):=by have hu:=h.below hb;have aXq:=0;exact zJd
theorem aLs(h:fV w base S M O st A N)(hD:cU base w)(x:Int)(hx:jN x)(l:List Int)(hl:l.length<=20000)(a:Option WT)(cap:Nat)(hcap:l.length+1<=cap)(tx:WG)(hr:wO w M O a (x::l)):
  Calls prog 41 #[pP S,.agg #[sV a (l.length+1) cap,sT tx]] w (bK base S M O st N .iV (x::l) tx w):=by obtain⟨b,off,rfl,oF,hc⟩:=hr.1 oe;generalize hV:w.alloc (.cells #[sV (some (aA b off)) (l.length+1) cap,sT tx] 105)=V;have m7:=0;exact zGa
end
end
section
section
variable{w V u:WA}{base S:Nat}{M O O':List Nat}{st:iY}{A:mQ}{N:Nat}
theorem fV.aYq(h:fV w base S M O st A N)(hN:N<=100000):∃a:tL,A.vO=sV a.la st.next.nL a.lc/\A.vR=sV a.ra st.next.nR a.rc/\a.da=A.da/\a.dc=A.dc/\a.ma=A.ma/\a.mc=A.mc/\st.next.In a w:=by obtain⟨la,lc,e1,r1,_⟩:=w9 h.r.oO;obtain⟨ra,rc,e2,r2,_⟩:=w9 h.r.oR;have h1:=h.r.nL;have h2:=h.r.nR;have h3:=h.r.nD;have h4:=h.r.nM;exact⟨⟨la,lc,ra,rc,A.da,A.dc,A.ma,A.mc⟩,e1,e2,rfl,rfl,rfl,rfl,r1,r2,h.r.rD,h.r.rM,h.r.iO,od,od,od,od⟩
def mQ.aSq(A:mQ):mQ:={ A with vO:=sV none 0 0,vR:=sV none 0 0,da:=none,dc:=0,ma:=none,mc:=0 }
theorem fV.aX9(h:fV u base S M O st A N):
  fV ((((u.setCell (aA S 11) (sV none 0 0)).setCell (aA S 12) (sV none 0 0)).setCell (aA S 13) (sV none 0 0)).setCell (aA S 14) (sV none 0 0)) base S M O { st with next:=cB.none } A.aSq N:=by
 have hr:=h.rest (w':=((((u.setCell (aA S 11) (sV none 0 0)).setCell (aA S 12) (sV none 0 0)).setCell (aA S 13) (sV none 0 0)).setCell (aA S 14) (sV none 0 0))) oe (λc hc=>by simp only[cH hc]);refine⟨?_,?_⟩
 .exact {
      s:=hr.s
      lo:=hr.lo
      hi:=hr.hi
      loO:=hr.loO
      hiO:=hr.hiO
      ap:=hr.ap
      oS:=hr.oS
      oL:=hr.oL
      oO:=World.ownsRow_nil _ _ _ _
      oR:=World.ownsRow_nil _ _ _ _
      bS:=hr.bS
      bL:=hr.bL
      bO:=λg e=>(by cases e)
      bR:=λg e=>(by cases e)
      rD:=λq=>absurd q (kW _)
      rM:=λq=>absurd q (kW _)
      bD:=λ_ _ e=>(by cases e)
      bM:=λ_ _ e=>(by cases e)
      nw:=hr.nw
      iL:=hr.iL
      iO:=λk q=>absurd q (kV _)
      ns:=hr.ns
      nl:=hr.nl
      nL:=kI _
      nR:=kI _
      nD:=kI _
      nM:=kI _
      clu:=hr.clu }
 .exact bU (bU (bU (bU h.blk _) _) _) _
theorem aE7{X:List Nat}(hS:S∈X):aR X X u ((((u.setCell (aA S 11) (sV none 0 0)).setCell (aA S 12) (sV none 0 0)).setCell (aA S 13) (sV none 0 0)).setCell (aA S 14) (sV none 0 0)):=
 (((cD hS _).trans (cD hS _)).trans (cD hS _)).trans (cD hS _)
theorem aLe(h:fV w base S M O st A N)(hD:cU base w){fa:Int}{cs:List Int}{c:cJ}{rd:Int}{T:Nat}(fN:st.clu=some (fa,cs,c,rd,T))(hN:N<=3000)(n:List Int)(v:WB)(tx:WG):
  Calls prog 48 #[pP S,.agg #[v,sT tx]] w (bK base S M O st N .pD n tx w):=have bKj:=0;zJ1
end
end
section
variable{I d f k n s x:Int}
def dU(k:Int):Prop:=0<=k/\k<=100
theorem dU.int(h:dU k):jN k:=⟨by have:=h.1;omega,by have:=h.2;omega⟩
theorem bX.small{f:Nat->Int}{n:Nat}{e i:Int}(h:bX f n e i)(hf:∀j,dU (f j)):dU e:=by
 rcases h with⟨_,rfl,_⟩|⟨k,_,_,rfl,_⟩
 .exact zFt
 .exact hf k
theorem aP.Is.small{p:aP}{E:Int}(h:p.Is E I):dU E:=by
 unfold aP.Is jQ at h;rcases h with⟨_,rfl,_⟩|⟨_,e1,i1,e2,i2,e3,i3,F1,F2,F3,R⟩
 .unfold bZ dU;exact zCb
 .have s1:dU e1:=F1.small λj=>by unfold fW dU;exact zCb
  have s2:dU e2:=F2.small λj=>by unfold cN dU;exact zCb
  have s3:dU e3:=F3.small λj=>by unfold lJ dU;exact zCb
  obtain⟨r1,r2,r3,r4⟩:=R;by_cases q1:e1=0
  .by_cases q2:e2=0
   .by_cases q3:e3=0
    .rw[(r4 q1 q2 q3).1];exact⟨od,od⟩
    .rw[(r3 q1 q2 q3).1];exact s3
   .rw[(r2 q1 q2).1];exact s2
  .rw[(r1 q1).1];exact s1
theorem xK.small{p:aP}{fa:Int}{cs:List Int}{K:Int}(h:xK p fa cs K I):dU K:=by
 rcases h with⟨E,h,_,rfl⟩|⟨_,_,h⟩
 .exact h.small
 .rcases h with⟨_,rfl⟩|⟨_,h⟩
  .exact zFt
  .rcases h with⟨_,rfl⟩|⟨_,h⟩
   .exact zFt
   .rcases h with⟨_,rfl⟩|⟨_,rfl⟩<;>exact⟨od,od⟩
def K0.short:K0->Prop
 |.inl k=>dU k
 |.inr o=>o.size<=500
theorem pJ(hk:dU k)(hx:k=0->jN x):(mM k x).short:=by
 unfold mM;by_cases q:k=0
 .rw[kK q];have:=mL (hx q);show(dW x).size<=500;omega
 .rw[kJ q];exact hk
theorem yO(h:jN x):(K0.ok (dW x)).short:=by have:=mL h;show(dW x).size<=500;omega
structure iY.bDr(s:iY):Prop where
 clu:∀fa cs c rd T,s.clu=some (fa,cs,c,rd,T)->zM s.aO fa cs/\0<=rd/\rd<=100000
 ns:s.aO.ns<=32
 nl:s.aO.nl<=8
theorem fV.bHj{w:WA}{base S:Nat}{M O:List Nat}{st:iY}{A:mQ}{N:Nat}(h:fV w base S M O st A N)(hN:N<=3000):st.bDr where
 clu:=λfa cs c rd T e=>by
  obtain⟨h1,h2⟩:=h.r.clu fa cs c rd T e
  obtain⟨h3,h4,h5⟩:=eK.ok h1
  exact⟨h3,h4,od⟩
 ns:=h.r.ns
 nl:=h.r.nl
theorem aTn{r:Int}(h:jO f s n d r=0):jN (s+(r-f)*n/d):=by unfold jO at h;exact zH1
theorem aYn{l:Int}(h:oQ f s n d l=0):jN (oT f s n d l):=by unfold oQ at h;have m70:=0;exact zH1
theorem aEj(f s n d r:Int):dU (jO f s n d r):=by unfold jO dU;exact zCb
theorem aHx(f s n d r:Int):dU (oQ f s n d r):=by unfold oQ dU;exact zCb
theorem aEp(l:List Int)(f:Int):dU (eU l f):=by unfold eU dU;exact zCb
theorem rQ.short{k:Kd}{s s':iY}{n:List Int}{tx:WG}{r:K0}(h:rQ k s n tx s' r)(hs:s.Small)(hk:s.bDr):r.short:=by
 have e1:∀x:Int,0<=x->x<=100->dU x:=λx a b=>⟨a,b⟩;cases k using Kd.each;case qZ=>rw[h.2];exact(by decide:Kd.qZ.name.size<=500)
 case oV=>have:=hk.ns;exact zDi
 case oP=>have:=hk.nl;exact zDi
 case bytes_=>obtain⟨E,I,h0,h1,h2⟩:=h;rw[h2];refine pJ h0.small λq=>?_;subst q;obtain⟨⟨d1,d2,d3⟩,pA⟩:=aN6 rfl h0;have:qY s.aO<=2000:=kH (gE _) (by rw[y9];omega);exact zFt
 case iV=>
  obtain⟨E,I,h0,h⟩:=h;rcases h with⟨a,h1,h2⟩|⟨a,h1,h2⟩
  .rw[h2];exact h0.small
  .rw[h2];exact(by decide:Kd.iV.name.size<=500)
 case vY=>
  obtain⟨fa,cs,c,rd,T,e,h⟩:=h;rcases h with⟨j,a,a2,h1,h2⟩|⟨a,h1,h2⟩
  .rw[h2];by_cases q:c.putK s.aO j tx=0
   .rw[kK q];exact(by decide:Kd.vY.name.size<=500)
   .rw[kJ q];show dU _;unfold cJ.putK putK dU;exact zCb
  .rw[h2];exact e1 2 od od
 case gU=>
  obtain⟨fa,cs,c,rd,T,e,h⟩:=h;rcases h with⟨j,i,a,a2,a3,h1,h2⟩|⟨a,h1,h2⟩
  .rw[h2];by_cases q:yA (c.aT i j)=0
   .rw[kK q];have:=(hs fa cs c rd T e).recvD i j;show(_++recvD (c.aT i j)).size<=500;rw[ByteArray.size_append];have:(⟨#[105,115,32]⟩:WG).size=3:=rfl;omega
   .rw[kJ q];show dU _;unfold yA dU;exact zCb
  .rw[h2];exact e1 2 od od
 case qD=>rw[h.2];exact(by decide:Kd.qD.name.size<=500)
 case qG=>rw[h.2];exact(by decide:Kd.qG.name.size<=500)
 case mX=>rw[h.2];exact(by decide:Kd.mX.name.size<=500)
 case qX=>rw[h.2];exact(by decide:Kd.qX.name.size<=500)
 case pD=>
  obtain⟨fa,cs,c,rd,T,e,h⟩:=h;have:=hk.clu fa cs c rd T e;rcases h with⟨a,h1,h2⟩|⟨a,h1,h2⟩
  .rw[h2];exact e1 6 od od
  .rw[h2];exact yO ⟨od,od⟩
 case lZ=>
  obtain⟨fa,cs,c,rd,T,e,h1,h2⟩:=h;obtain⟨q,_⟩:=hk.clu fa cs c rd T e;rw[h2];refine M3 ?_ λx hx=>?_
  .rw[q.len];have:=q.aO.bounds.n2;show s.aO.AA.toNat<=16;omega
  .have:=q.inn x hx;exact zFt
 case mF=>obtain⟨fa,cs,c,rd,T,e,h1,h2⟩:=h;obtain⟨q,_⟩:=hk.clu fa cs c rd T e;rw[h2];have h1:=q.bCh;have h2:=q.aO.bounds.s1;have h3:=N8 (fG fa cs);exact yO ⟨od,od⟩
 case eN=>
  obtain⟨fa,cs,c,rd,T,e,h1,h⟩:=h;obtain⟨q,_⟩:=hk.clu fa cs c rd T e;rcases h with⟨j,a,a2,h2⟩|⟨a,h2⟩
  .rw[h2];have h1:=mV (c.AA j).t s.aO.n;have h2:=q.aO.bounds.n2;have h3:s.aO.n<=16:=by show s.aO.AA.toNat<=16;omega
   have h4:(2:Int)^s.aO.n<=2^16:=by exact_mod_cast Nat.pow_le_pow_right (by decide:0<2) h3
   have h5:(2:Int)^16=65536:=og;have h6:=mL (x:=bA (c.AA j).t s.aO.n) ⟨od,od⟩;show ByteArray.size (if _ then _ else _)<=500;split
   .rw[ByteArray.size_append];have:(⟨#[32,102,114,111,122,101,110]⟩:WG).size=7:=rfl;omega
   .omega
  .rw[h2];exact e1 2 od od
 case gD=>rw[h.2];refine pJ (aEp _ _) λ_=>?_;have:=wU n.tail (n.getD 0 0);exact zFt
 case pB=>rw[h.2];exact pJ (aEj ..) aTn
 case real_=>rw[h.2];exact pJ (aHx ..) aYn
 case clear_=>rw[h.2];exact(by decide:Kd.clear_.name.size<=500)
 case xQ=>rw[h.2];exact(by decide:aT0.size<=500)
theorem wM(h:dU k):(dJ k).size<=100:=by have:=mL h.int;unfold dJ;rw[ByteArray.size_append];have:(⟨#[101,114,114,111,114,32]⟩:WG).size=6:=rfl;omega
theorem K0.short.out{r:K0}(h:r.short):r.out.size<=500:=by
 cases r with
 |inl k=>have:=wM (show dU k from h);show(dJ k).size<=500;omega
 |inr o=>exact h
end
section
variable{k:Kd}
section
variable{w:WA}{base S:Nat}{M O X:List Nat}{st:iY}{A:mQ}{N:Nat}
theorem fV.more(h:fV w base S M O st A N)(lo:∀c,c∈X->base<=c)(hi:∀c,c∈X->c<w.1.size)(ap:∀c,c∈X->c∉O):fV w base S (X++M) O st A N:=
 ⟨{ h.r with
  s:=kL (.inr h.r.s)
  lo:=λc q=>(kN q).elim (lo c) (h.r.lo c)
  hi:=λc q=>(kN q).elim (hi c) (h.r.hi c)
  ap:=λc q1 q2=>(kN q2).elim (λq=>ap c q q1) (h.r.ap c q1)
  bS:=λg e=>kL (.inr (h.r.bS g e))
  bL:=λg e=>kL (.inr (h.r.bL g e))
  bO:=λg e=>kL (.inr (h.r.bO g e))
  bR:=λg e=>kL (.inr (h.r.bR g e))
  bD:=λb off e h0=>⟨kL (.inr (h.r.bD b off e h0).1),(h.r.bD b off e h0).2⟩
  bM:=λb off e h0=>⟨kL (.inr (h.r.bM b off e h0).1),(h.r.bM b off e h0).2⟩ },h.blk⟩
theorem bK.more{n:List Int}{tx:WG}{e:Ending}{w':WA}(h:bK base S M O st N k n tx w e w'):bK base S (X++M) O st N k n tx w e w':=by
 obtain⟨pO,r,M',O',A',h1,h2,h3,h4⟩:=h;refine⟨pO,r,M',O',A',h1,h2,⟨h3.os,h3.tape,h3.output,h3.size,λc hc hn=>h3.block c hc (λq=>hn ?_),λc hc=>?_⟩,h4⟩
 .rcases kN q with q|q
  .exact kL (.inl (kL (.inr q)))
  .exact kL (.inr q)
 .rcases h3.fresh c hc with q|q
  .rcases kN q with q|q
   .exact .inl (kL (.inl (kL (.inr q))))
   .exact .inl (kL (.inr q))
  .exact .inr q
def aMb(k:Kd)(n:List Int):Prop:=n.length=k.m\/(k.m<n.length/\k.more=true)
theorem aCv{ws:List WG}{y:List Int×WG}(h:rG k.m k.more k.text ws=some y):aMb k y.1/\y.1.length<=ws.length/\∀x∈y.1,jN x:=by
 unfold rG at h;split at h
 .split at h
  .rename_i q
   cases e:gL (ws.take (ws.length-1))with
   |none=>rw[e]at h;cases h
   |some l=>
    rw[e]at h
    cases h
    have h1:=pK e
    rw[List.length_take]at h1
    have h2:l.length=ws.length-1:=od
    refine⟨?_,by show l.length<=_;omega,λx hx=>vW e x hx⟩
    show l.length=_\/(_<l.length/\_)
    rw[h2];exact q
  .cases h
 .split at h
  .rename_i q
   cases e:gL ws with
   |none=>rw[e]at h;cases h
   |some l=>
    rw[e]at h
    cases h
    have h1:=pK e
    refine⟨?_,by show l.length<=_;omega,λx hx=>vW e x hx⟩
    show l.length=_\/(_<l.length/\_)
    rw[h1];exact q
  .cases h
theorem aM9(h:fV w base S M O st A N)(hD:cU base w):cU w.1.size w:=hD.at (jD _ _) (kH (h.r.lo S h.r.s) (kX (h.r.hi S h.r.s)))
theorem yL(h:lH st k=true)(hk:k.when=1):st.clu=none:=by
 unfold lH at h;rw[hk]at h
 cases e:st.clu with
 |none=>rfl
 |some y=>rw[e]at h;cases h
theorem pR(h:lH st k=true)(hk:k.when=2):∃fa cs c rd T,st.clu=some (fa,cs,c,rd,T):=by
 unfold lH at h;rw[hk]at h
 cases e:st.clu with
 |none=>rw[e]at h;cases h
 |some y=>obtain⟨fa,cs,c,rd,T⟩:=y;exact⟨fa,cs,c,rd,T,rfl⟩
theorem aGh(k:Kd)(h:fV w base S M O st A N)(hD:cU base w)(hal:lH st k=true)(hsm:st.Small)(hN:N<=3000)(n:List Int)(tx:WG)(aA0:aMb k n)(hlen:n.length<=20000)(jT:∀x∈n,jN x)
  (a:Option WT)(cap:Nat)(hcap:n.length<=cap)(hr:bI w a n)(hX:∀b off,a=some (aA b off)->b∈X/\∃cs fr,w.1[b]?=some (.cells cs 3 fr))(lo:∀c,c∈X->base<=c)(hi:∀c,c∈X->c<w.1.size)(ap:∀c,c∈X->c∉M++O):
  Calls prog k.fn #[pP S,.agg #[sV a n.length cap,sT tx]] w (bK base S (X++M) O st N k n tx w):=by
 have hDw:=aM9 h hD;have hm:=h.more (X:=X) lo hi (λc q1 q2=>ap c q1 (kL (.inr q2)));have nIn:tJ w (X++M) a n:=⟨hr,λb off e _=>⟨kL (.inl (hX b off e).1),(hX b off e).2⟩⟩;have aU9:wO w M O a n:=⟨hr,λb off e _ q=>ap b (hX b off e).1 q⟩;have up:∀{e:Ending}{w':WA},bK base S M O st N k n tx w e w'->bK base S (X++M) O st N k n tx w e w':=λq=>q.more;have hd:∀i,i<n.length->jN (n.getD i 0):=λi q=>jT _ (by rw[List.getD_eq_getElem?_getD,AT q];exact List.getElem_mem _);cases k using Kd.each;case qZ=>have hl:n.length=6:=aA0.elim id (λq=>by cases q.2);exact aFc hm (yL hal rfl) n hl a cap tx nIn
 case oV=>have hl:n.length=3:=aA0.elim id (λq=>by cases q.2);exact(aDf h (yL hal rfl) n hl a cap tx aU9).mono λ_ _=>up
 case oP=>have hl:n.length=4:=aA0.elim id (λq=>by cases q.2);exact(aDe h (yL hal rfl) n hl (hd 1 od) a cap tx aU9).mono λ_ _=>up
 case bytes_=>exact(aJd h hDw n _ tx).mono λ_ _=>up
 case iV=>
  cases n with
  |nil=>exact absurd aA0 j9
  |cons x l=>exact(aLs h hD x (jT x kT) l (by simp at hlen;omega) a cap (by simpa using hcap) tx aU9).mono λ_ _=>up
 case vY=>exact zIh
 case gU=>
  have hl:n.length=2:=aA0.elim id (λq=>by cases q.2);obtain⟨fa,cs,c,rd,T,fN⟩:=pR hal rfl;obtain⟨x,y,rfl⟩:∃x y,n=[x,y]:=by
   match n,hl with
   |[x,y],_=>exact⟨x,y,rfl⟩
  exact(aF2 h hD fN (hsm fa cs c rd T fN) x y a cap tx aU9).mono λ_ _=>up
 case qD=>have hl:n.length=3:=aA0.elim id (λq=>by cases q.2);exact aPm hm od n hl (hd 2 od) a cap tx nIn
 case qG=>have hl:n.length=3:=aA0.elim id (λq=>by cases q.2);exact aQc hm od n hl a cap tx nIn
 case mX=>exact aJq hm n hlen a cap tx nIn
 case qX=>exact aPt hm n hlen a cap tx nIn
 case pD=>obtain⟨fa,cs,c,rd,T,fN⟩:=pR hal rfl;exact(aLe h hD fN hN n _ tx).mono λ_ _=>up
 case lZ=>obtain⟨fa,cs,c,rd,T,fN⟩:=pR hal rfl;exact(aGd h hDw fN n _ tx).mono λ_ _=>up
 case mF=>obtain⟨fa,cs,c,rd,T,fN⟩:=pR hal rfl;exact(aIl h hDw fN n _ tx).mono λ_ _=>up
 case eN=>have m86:=0;exact zIh
 case gD=>
  cases n with
  |nil=>exact absurd aA0 j9
  |cons x l=>exact(aBq h hDw x l (by simp at hlen;omega) a cap (by simpa using hcap) tx hr).mono λ_ _=>up
 case pB=>have hl:n.length=5:=aA0.elim id (λq=>by cases q.2);exact(aKa h hDw n hl a cap tx hr).mono λ_ _=>up
 case real_=>have hl:n.length=5:=aA0.elim id (λq=>by cases q.2);exact(aQe h hDw n hl a cap tx hr).mono λ_ _=>up
 case clear_=>exact(aJi h n _ tx).mono λ_ _=>up
 case xQ=>exact(aP2 h n _ tx).mono λ_ _=>up
end
theorem aCj(k:Kd)(args:Array WB)(w:WA):(callFunc k.fn args).run prog w=.ok (.enter k.fn args) w:=by
 cases k using Kd.each
 .exact enters_of func37 oh rfl args w
 .exact enters_of func38 oh rfl args w
 .exact enters_of func39 oh rfl args w
 .exact enters_of func40 oh rfl args w
 .exact enters_of func41 oh rfl args w
 .exact enters_of func42 oh rfl args w
 .exact enters_of func43 oh rfl args w
 .exact enters_of func44 oh rfl args w
 .exact enters_of func45 oh rfl args w
 .exact enters_of func46 oh rfl args w
 .exact enters_of func47 oh rfl args w
 .exact enters_of func48 oh rfl args w
 .exact enters_of func49 oh rfl args w
 .exact enters_of func50 oh rfl args w
 .exact enters_of func51 oh rfl args w
 .exact enters_of func52 oh rfl args w
 .exact enters_of func53 oh rfl args w
 .exact enters_of func54 oh rfl args w
 .exact enters_of func55 oh rfl args w
 .exact enters_of func56 oh rfl args w
end
theorem aRe(k:Int)(hk:jN k)(w:WA)(hw:gW w):Calls prog 11 #[iI k] w λe w'=>e=rT (sT (dJ k))/\bW w w':=by have hI:=oK k hk w hw;have hz:=mL hk;have qP:decide (9223372036854775807<6+(dW k).size)=false:=kD od;go_enter func11,ntmps11;go_wp2_with fail;refine hI.mono ?_;rintro e u ⟨rfl,hb⟩;go_wp2_with fail;go_ret;exact⟨rfl,hb⟩
theorem X8{w:WA}{base S:Nat}{M O:List Nat}{st:iY}{A:mQ}{N:Nat}(h:fV w base S M O st A N)(k:Kd):Calls prog 66 #[pP S,iI k.when] w λe w'=>e=rT (.bool (lH st k))/\w'=w:=by
 have c0:w.cell? (aA S 10)=some (.pointer (st.clu.map λ_=>(aA A.C 0))):=aN h.blk (i:=10) rfl;have hw:k.when=0\/k.when=1\/k.when=2:=by cases k using Kd.each<;>decide
 unfold lH;clear h;rcases hw with e|e|e<;>rw[e]<;>cases q:st.clu<;>rw[q]at c0<;>simp only[Option.map]at c0;all_goals
  go_enter func66,ntmps66
  go_wp2_with fail
  go_ret
  exact⟨rfl,rfl⟩
theorem Tryz.aXk(v:WB)(w:WA):(Instr.typeAssert (.iface 30 v) 20 30 true).run prog w=.ok (tU #[v,.bool true]) w:=oh
theorem Tryz.aYe(w:WA):(Instr.typeAssert .nilIface 20 30 true).run prog w=.ok (tU #[iI 0,.bool false]) w:=oh
theorem iD(b:Nat)(k:Int)(hk:jN k)(old:WG)(w:WA)(hb:w.1[b]?=some (.cells #[sT old] 9 (0,0)))(hw:gW w):
  CallsD prog 61 #[pP b] (.panicking [{ v:=.iface 30 (iI k),recovered:=false }]) w λe u' w'=>
   e=rT (tU #[])/\u'=.panicking [{ v:=.iface 30 (iI k),recovered:=true }]/\∃w1,bW w w1/\w'=w1.setCell (aA b 0) (sT (dJ k)):=by have hW:=aRe k hk w hw;have hlt:=bQ hb;exact zHi
theorem yN(b:Nat)(w:WA):
  CallsD prog 61 #[pP b] .returning w λe u' w'=>e=rT (tU #[])/\u'=.returning/\w'=w:=have m51:=0;zHi
