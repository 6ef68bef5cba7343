import Derived.Test.YtnbomhedoelklaaGreatDoorZT10
namespace Go.Proofs.YtnbomhedoelklaaGreatDoor
open Go.RowKit Go.Proofs.Tryz
set_option maxRecDepth 99999
set_option maxHeartbeats 0
section
section
variable{w:WA}{O:List Nat}{C:Nat}{p:aP}{fa:Int}{cs:List Int}{s:cJ}{rd:Int}{B:Nat}{m:tH}
theorem aSb(h:Cl w O C p fa cs s rd B m)(k:Int)(d:WG)(hk:¬(0<=k/\k<p.nl)):
  Calls prog 80 #[pP C,iI k,sT d] w λe w'=>e=rT (dG 2)/\bW w w':=zIj
theorem aSa(h:Cl w O C p fa cs s rd B m)(k:Nat)(d:WG)(hk:k<p.nl)(hB:B<=10000000):
  Calls prog 80 #[pP C,iI k,sT d] w λe w'=>e=rT (dG (s.putK p k d))/\∃O',aR O O' w w'/\Cl w' O' C p fa cs (s.put p k d) rd (B+1) m:=have m88:=0;zIj
theorem aJl(h:Cl w O C p fa cs s rd B m)(j k:Int)(hj:¬(0<=j/\j<p.AA)):
  Calls prog 82 #[pP C,iI j,iI k] w λe w'=>e=rT (tU #[sT AU,dG 2])/\bW w w':=zIl
theorem aJk(h:Cl w O C p fa cs s rd B m)(j k:Int)(hj:0<=j/\j<p.AA)(hk:¬(0<=k/\k<p.nl)):
  Calls prog 82 #[pP C,iI j,iI k] w λe w'=>e=rT (tU #[sT AU,dG 2])/\bW w w':=by have hi:=oJ C p.AA j w h.base.c0;rw[kF hj]at hi;have hl:=vF C m.la p.nl m.aBn k w h.base.c14;rw[kD hk]at hl;clear h hj hk;exact zBp
theorem aOi(h:Cl w O C p fa cs s rd B m)(j k:Nat)(hj:j<p.n)(pA:p.AA=p.n)(hk:k<p.nl)(hb:aX (p.lt k) j=false):
  Calls prog 82 #[pP C,iI j,iI k] w λe w'=>e=rT (tU #[sT AU,dG 2])/\bW w w':=zHc
theorem aOh(h:Cl w O C p fa cs s rd B m)(pA:p.AA=p.n)(j k:Int)(hb:¬((0<=j/\j<p.AA)/\(0<=k/\k<p.nl)/\aX (p.lt k.toNat) j.toNat=true)):
  Calls prog 82 #[pP C,iI j,iI k] w λe w'=>e=rT (tU #[sT AU,dG 2])/\bW w w':=by
 by_cases h1:0<=j/\j<p.AA
 .by_cases h2:0<=k/\k<p.nl
  .obtain⟨j,rfl⟩:∃n:Nat,j=n:=⟨j.toNat,od⟩;obtain⟨k,rfl⟩:∃n:Nat,k=n:=⟨k.toNat,od⟩;refine aOi h j k od pA od ?_;cases q:aX (p.lt k) j
   .rfl
   .exact absurd ⟨h1,h2,q⟩ hb
  .exact aJk h j k h1 h2
 .exact aJl h j k h1
theorem aOg(h:Cl w O C p fa cs s rd B m)(j k:Nat)(hj:j<p.n)(pA:p.AA=p.n)(hk:k<p.nl)(hb:aX (p.lt k) j=true):
  Calls prog 82 #[pP C,iI j,iI k] w λe w'=>e=rT (tU #[sT (recvD (s.aT k j)),dG (yA (s.aT k j))])/\∃O',aR O O' w w'/\Cl w' O' C p fa cs (s.recv k j) rd B m:=have m45:=0;zHc
end
end
section
def fI(nd i mem:Int)(lk q:Int)(d:WG):WB:=.agg #[iI nd,iI i,iI mem,iI lk,iI q,sT d]
def cJ.take1(s:cJ)(k j:Nat)(q:Int)(d:WG):cJ:=if takeB (s.aV k j) q=true then(s.uA k j q).setPort k j (if(s.aT k j).length<16 then s.aT k j++[d]else s.aT k j)else s
section
variable{w:WA}{O:List Nat}{C:Nat}{p:aP}{fa:Int}{cs:List Int}{s:cJ}{rd:Int}{B:Nat}{m:tH}
theorem aJo(C:Nat)(nd i mem q:Int)(d:WG)(j:Int)(w:WA):
  Calls prog 152 #[pP C,fI nd i mem (-1) q d,iI j] w λe w'=>e=rT (tU #[])/\bW w w':=by unfold fI;go_enter func152,ntmps152;go_wp2;exact bodyPost_ret (v:=tU #[]) o4 rfl ⟨rfl,(jD _ _).alloc (kG _) _⟩
theorem bIz(w:WA)(a b c d e:WB)(f:WB)(t:WI):(∀(i:Nat)(v:WB),(#[a,b,c,d,e,f]:Array WB)[i]?=some v->(w.alloc (.cells #[a,b,c,d,e,f] t)).cell? (aA w.1.size i)=some v)/\bW w (w.alloc (.cells #[a,b,c,d,e,f] t))/\w.1.size<(w.alloc (.cells #[a,b,c,d,e,f] t)).1.size:=by refine⟨λi v hi=>?_,(jD _ _).alloc (kG _) _,oe⟩;simp;simpa using hi
theorem aOo(h:Cl w O C p fa cs s rd B m)(nd i mem q:Int)(d:WG)(j k:Nat)(hj:j<p.n)(hk:k<p.nl)(hb:aX (p.lt k) j=false):
  Calls prog 152 #[pP C,fI nd i mem k q d,iI j] w λe w'=>e=rT (tU #[])/\bW w w':=zGt
theorem bDe{nw x:Int}(h:nw<=255):P4 (takeB nw x) x nw<=255:=by
 unfold P4;split
 .next q=>exact(aIn q).2
 .exact h
theorem bI1(l:List WG)(d:WG)(hd:d.size<=40):mN (putK l.length 16 d) l d=if l.length<16 then l++[d]else l:=by
 by_cases q:l.length<16
 .have e:putK l.length 16 d=0:=by unfold putK;rw[kJ (show ¬40<d.size by omega),kJ (show ¬(16:Int)<=(l.length:Int)by omega)]
  rw[e,kK q];rfl
 .have e:putK l.length 16 d=12:=by unfold putK;rw[kJ (show ¬40<d.size by omega),kK (show(16:Int)<=(l.length:Int)by omega)]
  rw[e,kJ q];rfl
theorem aR.box{O O':List Nat}{V v:WA}{b:Nat}(k:aR O O' V v)(hb:b<V.1.size)(hO:∀c,c∈O->c<b)(i:Nat):v.cell? (aA b i)=V.cell? (aA b i):=k.cell (p:=(aA b i)) hb (λy=>kW _ (hO b y))
theorem aOn(h:Cl w O C p fa cs s rd B m)(nd i mem q:Int)(d:WG)(j k:Nat)(hj:j<p.n)(hk:k<p.nl)(hb:aX (p.lt k) j=true)(hd:d.size<=40)(hB:B<=9999990):
  Calls prog 152 #[pP C,fI nd i mem k q d,iI j] w λe w'=>e=rT (tU #[])/\∃O',aR O O' w w'/\Cl w' O' C p fa cs (s.take1 k j q d) rd (B+2) m:=have m26:=0;zGt
theorem aOm(h:Cl w O C p fa cs s rd B m)(nd i mem q:Int)(d:WG)(j k:Nat)(hj:j<p.n)(hk:k<p.nl)(hd:d.size<=40)(hB:B<=9999990):
  Calls prog 152 #[pP C,fI nd i mem k q d,iI j] w λe w'=>e=rT (tU #[])/\∃O',aR O O' w w'/\Cl w' O' C p fa cs (if aX (p.lt k) j=true then s.take1 k j q d else s) rd (B+2) m:=by
 cases hb:aX (p.lt k) j
 .refine(aOo h nd i mem q d j k hj hk hb).mono ?_;rintro e w' ⟨he,hw⟩;exact⟨he,O,aR.of_below hw,(h.below hw).more od⟩
 .exact aOn h nd i mem q d j k hj hk hb hd hB
end
end
section
variable{V wr:WA}
def iA(mk:Option (Nat×Int×WG)):Int:=match mk with|none=>-1|some (k,_,_)=>k
def xJ(p:aP)(mk:Option (Nat×Int×WG)):Prop:=∀k q d,mk=some (k,q,d)->k<p.nl/\d.size<=40
def cJ.gN(s:cJ)(p:aP)(mk:Option (Nat×Int×WG))(j:Nat):cJ:=match mk with|none=>s|some (k,q,d)=>if aX (p.lt k) j=true then s.take1 k j q d else s
theorem aLx{q:Int}:takeB q q=false:=by
 by_cases h:0<=q/\q<=255
 .rw[P3 h h.1 h.2];unfold yJ;have:(q-q+255)%255=0:=od;rw[this];simp
 .exact J5 h
theorem aIm(s:cJ)(k j:Nat)(q:Int)(d:WG):(s.take1 k j q d).take1 k j q d=s.take1 k j q d:=by
 cases h:takeB (s.aV k j) q
 .have e:s.take1 k j q d=s:=kJ (by rw[h];decide);rw[e,e]
 .have e:s.take1 k j q d=(s.uA k j q).setPort k j (if(s.aT k j).length<16 then s.aT k j++[d]else s.aT k j):=kK h;have e2:(s.take1 k j q d).aV k j=q:=by rw[e];exact kK ⟨rfl,rfl⟩
  have e3:takeB ((s.take1 k j q d).aV k j) q=false:=by rw[e2];exact aLx
  exact kJ (by rw[e3];decide)
theorem aIo(s:cJ)(p:aP)(mk:Option (Nat×Int×WG))(j:Nat):(s.gN p mk j).gN p mk j=s.gN p mk j:=by
 match mk with
 |none=>rfl
 |some (k,q,d)=>
  show(if aX (p.lt k) j=true then cJ.take1 (if aX (p.lt k) j=true then s.take1 k j q d else s) k j q d else(if aX (p.lt k) j=true then s.take1 k j q d else s))=(if aX (p.lt k) j=true then s.take1 k j q d else s)
  split
  .exact aIm s k j q d
  .rfl
theorem wG(s:cJ)(p:aP)(mk:Option (Nat×Int×WG))(j:Nat):(s.gN p mk j).AA=s.AA:=by
 match mk with
 |none=>rfl
 |some (k,q,d)=>
  show(if aX (p.lt k) j=true then s.take1 k j q d else s).AA=s.AA
  unfold cJ.take1
  split
  .split<;>rfl
  .rfl
section
variable{w:WA}{O:List Nat}{C:Nat}{p:aP}{fa:Int}{cs:List Int}{s:cJ}{rd:Int}{B:Nat}{m:tH}
theorem bAw(h:Cl w O C p fa cs s rd B m)(nd i mem:Int)(mk:Option (Nat×Int×WG))(j:Nat)(hj:j<p.n)(hm:xJ p mk)(hB:B<=9999990):
  Calls prog 152 #[pP C,fI nd i mem (iA mk) (dT mk) (cW mk),iI j] w λe w'=>e=rT (tU #[])/\∃O',aR O O' w w'/\Cl w' O' C p fa cs (s.gN p mk j) rd (B+2) m:=by
 match mk with
 |none=>
  refine(aJo C nd i mem 0 AU j w).mono ?_
  rintro e w' ⟨he,hw⟩
  exact⟨he,O,aR.of_below hw,(h.below hw).more od⟩
 |some (k,q,d)=>
  obtain⟨h1,h2⟩:=hm k q d rfl
  exact aOm h nd i mem q d j k hj h1 h2 hB
def cO(aI:Bool)(l0 l1:Int)(j:Nat)(c:Nat):Bool:=aI&&((decide (1<=c)&& !aX l0 j)||(decide (2<=c)&& !aX l1 j))
def cJ.bY(s:cJ)(p:aP)(AE:Nat)(mem:Int)(mk:Option (Nat×Int×WG))(aI:Bool)(l0 l1:Int):Nat->cJ
 |0=>s
 |j+1=>
  if j=AE then s.bY p AE mem mk aI l0 l1 j else
   (if cO aI l0 l1 j 2=true then(s.bY p AE mem mk aI l0 l1 j).gN p mk j else s.bY p AE mem mk aI l0 l1 j).setNode j ((s.AA j).hears j p.n AE (if cO aI l0 l1 j 2=true then fZ p.n (s.AA j).t (tb mem) AE mem else 0))
theorem tT{AE:Nat}{mem:Int}{mk:Option (Nat×Int×WG)}{aI:Bool}{l0 l1:Int}:∀j x,j<=x->(s.bY p AE mem mk aI l0 l1 j).AA x=s.AA x:=by
 intro j
 induction j with
 |zero=>intro x _;rfl
 |succ j ih=>
  intro x hx
  show cJ.AA (if j=AE then s.bY p AE mem mk aI l0 l1 j else(if cO aI l0 l1 j 2=true then(s.bY p AE mem mk aI l0 l1 j).gN p mk j else s.bY p AE mem mk aI l0 l1 j).setNode j _) x=s.AA x
  split
  .exact ih x od
  .show(if x=j then _ else cJ.AA (if cO aI l0 l1 j 2=true then(s.bY p AE mem mk aI l0 l1 j).gN p mk j else s.bY p AE mem mk aI l0 l1 j) x)=s.AA x
   rw[kJ od]
   split
   .rw[wG];exact ih x od
   .exact ih x od
theorem Y7(aI:Bool)(l0 l1:Int)(j:Nat):cO aI l0 l1 j 0=false:=by unfold cO;simp
theorem aJf(aI:Bool)(l0 l1:Int)(j c:Nat)(hc:c<2):cO aI l0 l1 j (c+1)=(cO aI l0 l1 j c||(aI&& !aX (if c=0 then l0 else l1) j)):=by
 have:c=0\/c=1:=od;rcases this with rfl|rfl
 .unfold cO;simp
 .unfold cO;cases aI<;>simp
def dC(O:List Nat)(V wr:WA)(C:Nat)(p:aP)(fa:Int)(cs:List Int)(s:cJ)(rd:Int)(B:Nat)(m:tH):Prop:=∃O',aR O O' V wr/\Cl wr O' C p fa cs s rd B m
theorem dC.box(h:dC O V wr C p fa cs s rd B m){b:Nat}(hb:b<V.1.size)(hn:b∉O)(i:Nat):wr.cell? (aA b i)=V.cell? (aA b i):=by obtain⟨_,h,_⟩:=h;exact h.cell (p:=(aA b i)) hb hn
theorem dC.size(h:dC O V wr C p fa cs s rd B m):V.1.size<=wr.1.size:=by obtain⟨_,h,_⟩:=h;exact h.size
theorem dC.base(h:dC O V wr C p fa cs s rd B m):W7 wr C p fa cs rd m:=by obtain⟨_,_,h⟩:=h;exact h.base
theorem dC.below{w':WA}(h:dC O V wr C p fa cs s rd B m)(k:bW wr w'):dC O V w' C p fa cs s rd B m:=by obtain⟨O',h,c⟩:=h;exact⟨O',h.trans (aR.of_below k),c.below k⟩
theorem dC.drawn(h:dC O V wr C p fa cs s rd B m)(u:Nat):dC O V (wr.drewN u) C p fa cs s rd B m:=h.below ⟨rfl,rfl,rfl,kG _,λ_ _=>rfl⟩
theorem dC.more{B':Nat}(h:dC O V wr C p fa cs s rd B m)(hB:B<=B'):dC O V wr C p fa cs s rd B' m:=by obtain⟨O',h,c⟩:=h;exact⟨O',h,c.more hB⟩
theorem bHl(x y:Int)(w:WA):(Instr.index 196 (.agg #[iI x,iI y]) (iI 0)).run prog w=.ok (iI x) w:=rfl
theorem bHm(x y:Int)(w:WA):(Instr.index 196 (.agg #[iI x,iI y]) (iI 1)).run prog w=.ok (iI y) w:=rfl
theorem bM1(x y:Int)(c:Nat)(hc:c<2)(w:WA):(Instr.index 196 (.agg #[iI x,iI y]) (iI c)).run prog w=.ok (iI (if c=0 then x else y)) w:=by
 have:c=0\/c=1:=od;rcases this with rfl|rfl
 .exact bHl x y w
 .exact bHm x y w
theorem bAv(h:dC O V wr C p fa cs s rd B m)(nd i mem:Int)(mk:Option (Nat×Int×WG))(j:Nat)(hj:j<p.n)(hm:xJ p mk)(hB:B<=9999990):
  Calls prog 152 #[pP C,fI nd i mem (iA mk) (dT mk) (cW mk),iI j] wr λe w'=>e=rT (tU #[])/\dC O V w' C p fa cs (s.gN p mk j) rd (B+2) m:=by obtain⟨O',h,c⟩:=h;refine(bAw c nd i mem mk j hj hm hB).mono ?_;rintro e w' ⟨he,O'',h2,c2⟩;exact zEe
theorem aWt(h:dC O V wr C p fa cs s rd B m)(j:Nat)(hj:j<p.n)(hn:p.n<=16)(mD mem:Int):
  Calls prog 151 #[.pointer (some ⟨m.P j,0,none⟩),iI mD,iI mem] wr λe w'=>e=rT (iI (fZ p.n (s.AA j).t (tb mem) mD mem))/\dC O V w' C p fa cs s rd B m:=by obtain⟨O',h,c⟩:=h;refine(aHn (c.nod hj).1 mD mem hn).mono ?_;rintro e w' ⟨he,q,rfl⟩;exact⟨he,dC.drawn ⟨O',h,c⟩ q⟩
theorem bAq(h:dC O V wr C p fa cs s rd B m)(j:Nat)(hj:j<p.n)(hn:p.n<=16)(mD dR:Int)(hB:B<=9999990):
  Calls prog 153 #[.pointer (some ⟨m.P j,0,none⟩),iI mD,iI dR] wr λe w'=>e=rT (tU #[])/\dC O V w' C p fa cs (s.setNode j { t:=heT j p.n (s.AA j).fz mD dR (s.AA j).t,g:=heG j p.n (s.AA j).fz mD dR (s.AA j).g,b:=heB j p.n (s.AA j).fz mD dR (s.AA j).b,fz:=(s.AA j).fz }) rd (B+1) m:=by
 obtain⟨O',h,c⟩:=h;obtain⟨n1,⟨⟨n2,n3⟩,n4,n5⟩,n6⟩:=c.nod hj;refine(aKy n1 mD dR hn n2 od n4 od).mono ?_;rintro e w' ⟨he,q1,q2⟩;obtain⟨O'',h2,c2⟩:=n6 w' (B+1) { t:=heT j p.n (s.AA j).fz mD dR (s.AA j).t,g:=heG j p.n (s.AA j).fz mD dR (s.AA j).g,b:=heB j p.n (s.AA j).fz mD dR (s.AA j).b,fz:=(s.AA j).fz } q1 q2 (by
  unfold yG heG heB
  simp only[]
  constructor<;>split<;>omega) (kU _)
 exact zEe
theorem aRb(w:WA)(a b c d e f x y:WB)(t u:WI)(V:WA)(hV:V=(w.alloc (.cells #[a,b,c,d,e,f] t)).alloc (.cells #[x,y] u)):
  (∀(i:Nat)(v:WB),(#[a,b,c,d,e,f]:Array WB)[i]?=some v->V.cell? (aA w.1.size i)=some v)/\(∀(i:Nat)(v:WB),(#[x,y]:Array WB)[i]?=some v->V.cell? (aA (w.1.size+1) i)=some v)/\bW w V/\V.1.size=w.1.size+2:=by
 subst hV;refine⟨λi v hi=>?_,λi v hi=>?_,((jD _ _).alloc (kG _) _).alloc oe _,oe⟩
 .rw[World.cell?_alloc_lt _ _ _ oe];simp;simpa using hi
 .have e:w.1.size+1=(w.alloc (.cells #[a,b,c,d,e,f] t)).1.size:=by simp
  rw[e];simp;simpa using hi
theorem aO7(h:Cl w O C p fa cs s rd B m)(AE:Nat)(i mem:Int)(mk:Option (Nat×Int×WG))(aI:Bool)(l0 l1:Int)(aA6:AE<p.n)(hn:p.n<=16)(hm:xJ p mk)(hB:B<=9999000):
  Calls prog 117 #[pP C,fI AE i mem (iA mk) (dT mk) (cW mk),.bool aI,.agg #[iI l0,iI l1]] w λe w'=>e=rT (tU #[])/\∃O',aR O O' w w'/\Cl w' O' C p fa cs (s.bY p AE mem mk aI l0 l1 p.n) rd (B+5*p.n) m:=by have HM:Hid (xJ p mk):=hm;have HT:Hid (∀(V wr:WA)(s:cJ)(B j:Nat),dC O V wr C p fa cs s rd B m->j<p.n->B<=9999990->Calls prog 152 #[pP C,.agg #[iI AE,iI i,iI mem,iI (iA mk),iI (dT mk),sT (cW mk)],iI j] wr λe w'=>e=rT (tU #[])/\dC O V w' C p fa cs (s.gN p mk j) rd (B+2) m):=λV wr s B j h hj hB=>bAv h AE i mem mk j hj hm hB;clear hm;unfold fI;generalize iA mk=lk at *;generalize dT mk=q at *;generalize cW mk=d at *;obtain⟨V,hVe⟩:∃V,V=(w.alloc (.cells #[iI AE,iI i,iI mem,iI lk,iI q,sT d] 191)).alloc (.cells #[iI l0,iI l1] 196):=⟨_,rfl⟩;obtain⟨bx,by2,vH,hsz⟩:=aRb w _ _ _ _ _ _ _ _ _ _ V hVe;exact zMq
end
end
section
variable{T j ns:Nat}
theorem Y5(x:Int)(hj:j<=62):aX x j=(x%18446744073709551616).toNat.testBit j:=by obtain⟨X,hX⟩:∃X:Nat,(x%18446744073709551616).toNat=X:=⟨_,rfl⟩;rw[hX,Nat.testBit_eq_decide_div_mod_eq];exact zAz
theorem aYg(a b:Int)(hj:j<=62):aX (bits BinOp.or .i64 a b) j=(aX a j||aX b j):=by
 have e:bits BinOp.or .i64 a b=IntKind.i64.wrap (((a%18446744073709551616).toNat|||(b%18446744073709551616).toNat:Nat):Int):=by show IntKind.i64.wrap ((BitVec.ofInt 64 a|||BitVec.ofInt 64 b).toNat:Int)=_;rw[BitVec.toNat_or,wW,wW]
 have hlt:((a%18446744073709551616).toNat|||(b%18446744073709551616).toNat)<2^64:=Nat.or_lt_two_pow od od;rw[Y5 _ hj,Y5 _ hj,Y5 _ hj,e,<-Nat.testBit_or];generalize(a%18446744073709551616).toNat|||(b%18446744073709551616).toNat=N at *;congr 1;simp[IntKind.wrap,IntKind.bits,IntKind.signed];omega
def lA(r:cB):Nat->Nat->Nat->Int
 |0,_,_=>0
 |k+1,i,c=>if r.ls k=i/\r.lc k=c then bits BinOp.or .i64 (lA r k i c) (r.lt k)else lA r k i c
theorem aCl(r:cB)(i c:Nat)(hj:j<=62):∀k,aX (lA r k i c) j=(List.range k).any λx=>decide (r.ls x=i)&&(decide (r.lc x=c)&&aX (r.lt x) j):=by
 intro k
 induction k with
 |zero=>simp[lA,aX]
 |succ k ih=>
  rw[List.range_succ,List.any_append,<-ih]
  show aX (if r.ls k=i/\r.lc k=c then _ else _) j=_
  by_cases h:r.ls k=i/\r.lc k=c
  .rw[kK h,aYg _ _ hj]
   simp[h.1,h.2]
  .rw[kJ h]
   by_cases h1:r.ls k=i
   .have h2:r.lc k≠c:=λe=>h ⟨h1,e⟩
    simp[h2]
   .simp[h1]
structure uZ(w:WA)(T ns:Nat)(f:Nat->Nat->Int):Prop where
 c:∀i c,i<ns->c<2->w.cell? ⟨T,i*2+c,none⟩=some (iI (f i c))
 z:∀i,w.frozen? (aA T i)=false
 lt:T<w.1.size
theorem uZ.below{w w':WA}{f:Nat->Nat->Int}(h:uZ w T ns f)(k:bW w w'):uZ w' T ns f:=
 ⟨λi c hi hc=>(k.cell (p:=⟨T,i*2+c,none⟩) h.lt).trans (h.c i c hi hc),λi=>(k.frozen (p:=(aA T i)) h.lt).trans (h.z i),kC h.lt k.size⟩
theorem uZ.set{w:WA}{f g:Nat->Nat->Int}(h:uZ w T ns f){i c:Nat}{x:Int}(hi:i<ns)(hc:c<2)(hg:∀i' c',i'<ns->c'<2->g i' c'=if i'=i/\c'=c then x else f i' c'):uZ (w.setCell ⟨T,i*2+c,none⟩ (iI x)).drew T ns g:=by
 refine⟨λi' c' dN hc'=>?_,λj=>bJ.trans (h.z j),?_⟩
 .show(w.setCell ⟨T,i*2+c,none⟩ (iI x)).cell? ⟨T,i'*2+c',none⟩=_;rw[hg i' c' dN hc'];by_cases e:i'=i/\c'=c
  .obtain⟨rfl,rfl⟩:=e;rw[kK ⟨rfl,rfl⟩];exact aZ (h.c i' c' hi hc)
  .rw[kJ e];have:i'*2+c'≠i*2+c:=λy=>e od;exact(aB (.inr this)).trans (h.c i' c' dN hc')
 .have:=h.lt;show T<(w.setCell ⟨T,i*2+c,none⟩ (iI x)).1.size;exact zCk
theorem uZ.agree{w:WA}{f g:Nat->Nat->Int}(h:uZ w T ns f)(hg:∀i c,i<ns->c<2->g i c=f i c):uZ w T ns g:=⟨λi c hi hc=>by rw[hg i c hi hc];exact h.c i c hi hc,h.z,h.lt⟩
theorem Tryz.aTa:(Tryz.prog.info? 196).map (λi=>(i.zero,i.size,i.bytes))=some (some (.agg #[iI 0,iI 0]),2,16):=oh
theorem bAo(w:WA)(a b c:WB)(t:WI):(w.alloc (.cells #[a,b,c] t)).cell? (aA w.1.size 0)=some a/\(w.alloc (.cells #[a,b,c] t)).cell? (aA w.1.size 1)=some b/\(w.alloc (.cells #[a,b,c] t)).cell? (aA w.1.size 2)=some c/\bW w (w.alloc (.cells #[a,b,c] t))/\(w.alloc (.cells #[a,b,c] t)).1.size=w.1.size+1:=
 ⟨oe,oe,oe,(jD _ _).alloc (kG _) _,oe⟩
theorem aOc(C:Nat)(sa:Option WT)(ns sF:Nat)(r:cB)(a:Option WT)(cap:Nat)(w:WA)(c6:w.cell? (aA C 6)=some (sV sa ns sF))(hns:ns<=32)(hr:jH w a r.nL r.ls r.lc r.lt)(hL:r.nL<=9223372036854775807):
  Calls prog 114 #[pP C,sV a r.nL cap] w λe w'=>∃T,e=rT (sL T ns ns)/\w.1.size<=T/\uZ w' T ns (lA r r.nL)/\bW w w':=by
 have qN:=cT c6;obtain⟨i0,hi,qV,qO,qP⟩:=info_parts Tryz.aTa;have hmk:=run_makeSlice (P:=prog) w 188 196 i0 _ underlying188 hi qV .i64 .i64 (ns:Int) (ns:Int) od (Int.le_refl _) (by rw[qO];simp;omega) O8 od;rw[Int.toNat_natCast,qO]at hmk;have HT0:Hid (uZ (w.alloc (.cells (madeCells #[iI 0,iI 0] (ns*2)) 196)) w.1.size ns (lA r 0)/\bW w (w.alloc (.cells (madeCells #[iI 0,iI 0] (ns*2)) 196))):=by
  refine⟨⟨λi c hi hc=>?_,λi=>by simp,oe⟩,(jD _ _).alloc (kG _) _⟩;have hlt:i*2+c<ns*2:=od;have:c=0\/c=1:=od;rcases this with rfl|rfl
  .have hlt:i*2<ns*2:=by omega
   simp[madeCells,hlt,lA]
  .simp[madeCells,hlt,lA]
 have HR:Hid (jH w a r.nL r.ls r.lc r.lt):=hr;have HLn:Hid (r.nL<=9223372036854775807):=hL;obtain⟨nL,hnL⟩:∃nL,r.nL=nL:=⟨_,rfl⟩;have HNL:Hid (r.nL=nL):=hnL;rw[hnL]at hL⊢;clear hr hnL;go_enter func114,ntmps114;go_wp2_with fail;clear hmk c6;generalize w.alloc (.cells (madeCells #[iI 0,iI 0] (ns*2)) 196)=V at *;go_loopw[17] (λt wr=>∃k:Nat,k<=nL/\t=iI k/\Hid (uZ wr w.1.size ns (lA r k)/\bW w wr)) (λt _=>nL-(intOf t).toNat);case atStart=>exact⟨0,kI _,rfl,HT0⟩
 case round=>
  obtain⟨k,hk,rfl,HI⟩:=hrel;by_cases hlt:k<nL
  .obtain⟨b,off,rfl,hb,hc⟩:=HR.out (by rw[HNL.out];omega);obtain⟨x0,x1,x2⟩:=hc k (by rw[HNL.out];exact hlt);have y0:=(HI.out.2.cell (p:=⟨b,off+k*3,none⟩) hb).trans x0;have y1:=(HI.out.2.cell (p:=⟨b,off+k*3+1,none⟩) hb).trans x1;have y2:=(HI.out.2.cell (p:=⟨b,off+k*3+2,none⟩) hb).trans x2;have T9:b<wr.1.size:=kC hb HI.out.2.size;have kk:(k:Int)<(nL:Int):=od;obtain⟨q0,q1,q2,qB,qS⟩:=bAo wr (iI (r.ls k)) (iI (r.lc k)) (iI (r.lt k)) 138;clear x0 x1 x2 hc;by_cases jT:(0<=r.ls k/\r.ls k<ns)/\0<=r.lc k/\r.lc k<2
   .obtain⟨⟨i1,i2⟩,i3,i4⟩:=jT;obtain⟨i,hie⟩:∃i:Nat,r.ls k=i:=⟨(r.ls k).toNat,od⟩;obtain⟨c,hce⟩:∃c:Nat,r.lc k=c:=⟨(r.lc k).toNat,od⟩;have HIC:Hid (r.ls k=i/\r.lc k=c):=⟨hie,hce⟩;rw[hie]at i1 i2 q0 q1 q2 qB qS y0;rw[hce]at i3 i4 q0 q1 q2 qB qS y1;have ii:i<ns:=od;have ic:c<2:=od;have hTw:w.1.size<wr.1.size:=HI.out.1.lt;obtain⟨LT,hLT⟩:∃LT,r.lt k=LT:=⟨_,rfl⟩;rw[hLT]at q0 q1 q2 qB qS y2;have g:=(qB.cell (p:=⟨w.1.size,i*2+c,none⟩) hTw).trans (HI.out.1.c i c ii ic);have gz:=(qB.frozen (p:=⟨w.1.size,i*2+c,none⟩) hTw).trans (HI.out.1.z (i*2+c));have qK:Hid _:=qB;have hV1:wr.1.size<(wr.alloc (.cells #[iI i,iI c,iI LT] 138)).1.size:=O0;have hV2:w.1.size<(wr.alloc (.cells #[iI i,iI c,iI LT] 138)).1.size:=O0;have eH:wr.1.size≠w.1.size:=od;have bBk:w.1.size≠wr.1.size:=od;obtain⟨FV,hFV⟩:∃FV,lA r k i c=FV:=⟨_,rfl⟩;rw[hFV]at g;obtain⟨OV,hOV⟩:∃OV,bits BinOp.or .i64 FV LT=OV:=⟨_,rfl⟩;have HL2:Hid (lA r (k+1) i c=OV):=by show(if r.ls k=i/\r.lc k=c then _ else _)=_;rw[kK HIC.out,hFV,hLT,hOV]
    clear hie hce hLT hFV qB qS;go_wp2_with fail;clear y0 y1 y2;generalize(wr.alloc (.cells #[iI i,iI c,iI LT] 138))=V1 at *;have HN:Hid (uZ (V1.setCell ⟨w.1.size,i*2+c,none⟩ (iI OV)).drew w.1.size ns (lA r (k+1))/\bW w (V1.setCell ⟨w.1.size,i*2+c,none⟩ (iI OV)).drew):=by
     have hT:aW w.1.size w.1.size V1 (V1.setCell ⟨w.1.size,i*2+c,none⟩ (iI OV)).drew:=((aW.refl _ _ _).set (p:=⟨w.1.size,i*2+c,none⟩) (.inl rfl) _).trans (aW.drawn 1);have cV:bW w V1:=HI.out.2.trans (qK.out.mono HI.out.2.size);refine⟨(HI.out.1.below qK.out).set ii ic (λi' c' _ _=>?_),cV.trans (hT.below cV.size (kG _) (kG _))⟩;by_cases e:i'=i/\c'=c
     .rw[kK e,e.1,e.2];exact HL2.out
     .rw[kJ e];show(if r.ls k=i'/\r.lc k=c' then _ else _)=_;rw[kJ];rintro⟨e1,e2⟩;rw[HIC.out.1]at e1;rw[HIC.out.2]at e2;exact e ⟨od,od⟩
    clear HI qK HL2;go_region;go_wp2;go_roundw;case rel=>exact⟨k+1,od,Od,HN⟩
    case measure=>simp[intOf];omega
   .have HN:Hid (∀v,bW wr v->uZ v w.1.size ns (lA r (k+1))/\bW w v):=λv hv=>by refine⟨(HI.out.1.below hv).agree λi c h1 h2=>?_,HI.out.2.trans (hv.mono HI.out.2.size)⟩;show(if r.ls k=i/\r.lc k=c then _ else _)=_;rw[kJ];rintro⟨e1,e2⟩;exact jT ⟨⟨od,od⟩,od,od⟩
    have qK:Hid _:=HN.out _ qB;clear HI q0 q1 q2 qB qS HN;generalize r.ls k=LS at *;generalize r.lc k=LC at *;generalize r.lt k=LT at *;by_cases k1:0<=LS
    .by_cases k2:LS<(ns:Int)
     .by_cases k3:0<=LC
      .have k4:decide (LC<2)=false:=kD od;clear jT;exact zBu
      .have k4:decide (0<=LC)=false:=kD k3;clear jT k3;exact zBu
     .have k4:decide (LS<(ns:Int))=false:=kD k2;clear jT k2;exact zBu
    .have k4:decide (0<=LS)=false:=kD k1;clear jT k1;exact zBu
  .have hkn:k=nL:=by omega
   have HD:Hid (uZ wr w.1.size ns (lA r nL)/\bW w wr):=by rw[<-hkn];exact HI
   have kk:decide (k<nL)=false:=kD od;clear hkn hlt HI;go_wp2;go_ret;exact⟨_,rfl,kG _,HD.out.1,HD.out.2⟩
end
section
variable{k AE:Nat}
section
variable{w:WA}{O:List Nat}{C:Nat}{p:aP}{fa:Int}{cs:List Int}{s:cJ}{rd:Int}{B:Nat}{m:tH}
theorem aOb(h:Cl w O C p fa cs s rd B m)(F:Nat)(fr:Int)(C4:1<=p.round)(pF:p.round<=137438953472)(R6:1099511627776/p.round<rd):
  Calls prog 150 #[pP C,pP F,iI fr] w λe w'=>e=rT (tU #[])/\bW w w':=zKi
theorem aOa(h:Cl w O C p fa cs s rd B m)(F:Nat)(fr:Int)(C4:1<=p.round)(pF:p.round<=137438953472)(hnf:rd<=1099511627776/p.round)(hM0:0<=rd*p.round)(hM1:rd*p.round<=1099511627776)(hf0:0<=fr)(d9:fr<=1099511627776)(eG:1099511627776<rd*p.round+fr):
  Calls prog 150 #[pP C,pP F,iI fr] w λe w'=>e=rT (tU #[])/\bW w w':=zG0
theorem bAu{V wr:WA}(h:dC O V wr C p fa cs s rd B m)(k:Nat)(hk:k<p.nl)(t:Int)(ht0:0<=t)(ht1:t<=1099511627776)(hb0:0<=p.lb k)(cV:p.lb k<=1099511627776)(hB:B<=9999990):
  Calls prog 191 #[.pointer (some ⟨m.S k,0,none⟩),iI t] wr λe w'=>e=rT (tU #[.agg #[iI (jY (gV (s.aK k).all.length (s.aK k).aQ t (s.aK k).now (s.aK k).last (p.lb k)) (s.aK k).aQ),sT (jX (gV (s.aK k).all.length (s.aK k).aQ t (s.aK k).now (s.aK k).last (p.lb k)) (s.aK k).all (s.aK k).aQ)],dG (gV (s.aK k).all.length (s.aK k).aQ t (s.aK k).now (s.aK k).last (p.lb k))])/\dC O V w' C p fa cs (s.U6 k ((s.aK k).asked t (p.lb k))) rd B m:=by
 obtain⟨O',h,c⟩:=h;obtain⟨OS,s1,⟨s2,⟨s3,s4⟩,s5⟩,s6⟩:=c.sdr hk;refine(aYx s1 t od s3 s4 hb0 cV).mono ?_;rintro e w' ⟨he,OS',q1,q2⟩;obtain⟨O'',h2,c2⟩:=s6 w' OS' B ((s.aK k).asked t (p.lb k)) q1 q2 ⟨s2,(by
  show 0<=tE _ t (s.aK k).last/\tE _ t (s.aK k).last<=1099511627776
  unfold tE
  split<;>omega),s5⟩ (kG _)
 exact zEe
theorem pI{P:nP}{t:Int}{L:Nat->lN}(h:P.lf k≠AE):aH P AE t L (k+1)=aH P AE t L k:=by show(if _ then _ else _)=_;rw[kK (.inr h)]
theorem qW{P:nP}{t:Int}{L:Nat->lN}(h:P.lf k=AE)(hn:(aH P AE t L k).2=none):aH P AE t L (k+1)=(λj=>if j=k then((aH P AE t L k).1 k).asked t (P.lb k)else(aH P AE t L k).1 j,
   if gV ((aH P AE t L k).1 k).all.length ((aH P AE t L k).1 k).aQ t ((aH P AE t L k).1 k).now ((aH P AE t L k).1 k).last (P.lb k)=0 then some (k,mR ((aH P AE t L k).1 k).aQ,((aH P AE t L k).1 k).all.getD ((aH P AE t L k).1 k).aQ AU)else none):=by
 show(if _ then _ else _)=_;rw[kJ];rintro(q|q)
 .rw[hn]at q;cases q
 .exact q h
theorem aH7{P:nP}{t:Int}{L:Nat->lN}(h:(aH P AE t L k).2.isSome=true):∀n,k<=n->aH P AE t L n=aH P AE t L k:=by
 intro n hn
 induction n with
 |zero=>
      obtain rfl:k=0:=od
      rfl
 |succ n ih=>
  rcases jB k (n+1)with q|q
  .have e:=ih od
   show(if _ then _ else _)=_
   rw[kK (.inl (by rw[e];exact h)),e]
  .obtain rfl:k=n+1:=by omega
   rfl
def aC0(O:List Nat)(F:Nat)(V wr:WA)(C:Nat)(p:aP)(fa:Int)(cs:List Int)(s:cJ)(rd:Int)(B:Nat)(m:tH):Prop:=∃O',aR (F::O) (F::O') V wr/\F∉O'/\Cl wr O' C p fa cs s rd B m
theorem bE9(w:WA)(a b:WB)(t:WI):(w.alloc (.cells #[a,b] t)).cell? (aA w.1.size 0)=some a/\(w.alloc (.cells #[a,b] t)).cell? (aA w.1.size 1)=some b/\bW w (w.alloc (.cells #[a,b] t))/\(w.alloc (.cells #[a,b] t)).1.size=w.1.size+1:=
 ⟨oe,oe,(jD _ _).alloc (kG _) _,oe⟩
theorem dC.store3{F:Nat}{V v:WA}(h:dC O V v C p fa cs s rd B m)(hF:F<V.1.size)(hFO:F∉O)(hx:∃a b c,v.cell? (aA F 3)=some a/\v.cell? (aA F 4)=some b/\v.cell? (aA F 5)=some c)(x y z:WB):
  aC0 O F V (((v.setCell (aA F 3) x).setCell (aA F 4) y).setCell (aA F 5) z) C p fa cs s rd B m/\(∀i,i<3->(((v.setCell (aA F 3) x).setCell (aA F 4) y).setCell (aA F 5) z).cell? (aA F i)=v.cell? (aA F i))/\(((v.setCell (aA F 3) x).setCell (aA F 4) y).setCell (aA F 5) z).cell? (aA F 3)=some x/\(((v.setCell (aA F 3) x).setCell (aA F 4) y).setCell (aA F 5) z).cell? (aA F 4)=some y/\(((v.setCell (aA F 3) x).setCell (aA F 4) y).setCell (aA F 5) z).cell? (aA F 5)=some z:=by
 obtain⟨O',h1,h2⟩:=h;obtain⟨a,b,c,x3,x4,x5⟩:=hx;have hn:F∉O':=λy=>by
  rcases h1.fresh F y with q|q
  .exact hFO q
  .omega
 have hT:aW F F v (((v.setCell (aA F 3) x).setCell (aA F 4) y).setCell (aA F 5) z):=(((aW.refl F F v).set (p:=(aA F 3)) (.inl rfl) x).set (p:=(aA F 4)) (.inl rfl) y).set (p:=(aA F 5)) (.inl rfl) z;refine⟨⟨O',(h1.under F).trans (aR.qF hT kT kT),hn,h2.keep ⟨hT.size,λc hc=>hT.block c (h2.lt c hc) (λe=>hn (e▸hc)) (λe=>hn (e▸hc))⟩⟩,λi hi=>?_,?_,?_,?_⟩
 .have n3:i≠3:=by omega
  have n4:i≠4:=od;have n5:i≠5:=od;exact(aB (.inr n5)).trans ((aB (.inr n4)).trans (aB (.inr n3)))
 .exact(aB (.inr og)).trans ((aB (.inr og)).trans (aZ x3))
 .exact(aB (.inr og)).trans (aZ ((aB (.inr og)).trans x4))
 .exact aZ ((aB (.inr og)).trans ((aB (.inr og)).trans x5))
theorem aS1(h:Cl w O C p fa cs s rd B m)(F AE:Nat)(i mem fr t:Int)(hF:F<w.1.size)(hFO:F∉O)(hz:∀i,w.frozen? ⟨F,i,none⟩=false)
  (f0:w.cell? ⟨F,0,none⟩=some (.int .i64 AE))(f1:w.cell? ⟨F,1,none⟩=some (.int .i64 i))(f2:w.cell? ⟨F,2,none⟩=some (.int .i64 mem))(f3:w.cell? ⟨F,3,none⟩=some (.int .i64 (-1)))(f4:w.cell? ⟨F,4,none⟩=some (.int .i64 0))(f5:w.cell? ⟨F,5,none⟩=some (.string AU))
  (C4:1<=p.round)(pF:p.round<=137438953472)(hnf:rd<=1099511627776/p.round)(hM0:0<=rd*p.round)(hM1:rd*p.round<=1099511627776)(hf0:0<=fr)(d9:fr<=1099511627776)(ht:rd*p.round+fr=t)(eG:t<=1099511627776)(hnl:p.nl<=8)(hB:B<=9999990)
  (uU:∀k,k<p.nl->0<=p.lf k/\0<=p.lb k/\p.lb k<=1099511627776):
  Calls prog 150 #[.pointer (some ⟨C,0,none⟩),.pointer (some ⟨F,0,none⟩),.int .i64 fr] w λe w'=>e=.returned (.tuple #[])/\aC0 O F w w' C p fa cs ⟨s.AA,(aH p.S AE t s.aK p.nl).1,s.aV,s.aT⟩ rd B m/\
   (w'.cell? ⟨F,0,none⟩=some (.int .i64 AE)/\w'.cell? ⟨F,1,none⟩=some (.int .i64 i)/\w'.cell? ⟨F,2,none⟩=some (.int .i64 mem)/\w'.cell? ⟨F,3,none⟩=some (.int .i64 (iA (aH p.S AE t s.aK p.nl).2))/\w'.cell? ⟨F,4,none⟩=some (.int .i64 (dT (aH p.S AE t s.aK p.nl).2))/\w'.cell? ⟨F,5,none⟩=some (.string (cW (aH p.S AE t s.aK p.nl).2))):=have m33:=0;zG0
end
end
section
variable{R n AE:Nat}{V v v':WA}
theorem aNy{S:lN}{t bag:Int}(ht:1099511627776<t):S.asked t bag=S/\gV S.all.length S.aQ t S.now S.last bag=2:=by
 have e:gV S.all.length S.aQ t S.now S.last bag=2:=by unfold gV;rw[kK od]
 refine⟨?_,e⟩;unfold lN.asked;rw[e];rfl
theorem aH8{P:nP}{t:Int}{L:Nat->lN}(ht:1099511627776<t):∀n,aH P AE t L n=(L,none):=by
 intro n
 induction n with
 |zero=>rfl
 |succ n ih=>
  by_cases h:P.lf n=AE
  .rw[qW h (by rw[ih]),ih]
   obtain⟨e1,e2⟩:=aNy (S:=L n) (bag:=P.lb n) ht
   show(_,if gV (L n).all.length (L n).aQ t (L n).now (L n).last (P.lb n)=0 then _ else _)=_
   rw[e2,kJ og]
   congr 1
   funext j
   by_cases q:j=n
   .subst q;rw[kK rfl];exact e1
   .rw[kJ q]
  .rw[pI h,ih]
theorem aY1{rd R:Int}(h1:1<=R)(h:1099511627776/R<rd):1099511627776<rd*R:=by
 have:=Int.lt_mul_ediv_self_add (x:=1099511627776) (k:=R) od;have h3:R*(1099511627776/R)+R<=R*rd:=by have:R*(1099511627776/R+1)<=R*rd:=Int.mul_le_mul_of_nonneg_left od od;rw[Int.mul_add,Int.mul_one]at this;exact this
 rw[Int.mul_comm rd R];omega
theorem aU6{rd R:Int}(h1:1<=R)(h0:0<=rd)(h:rd<=1099511627776/R):0<=rd*R/\rd*R<=1099511627776:=by refine⟨Int.mul_nonneg h0 od,?_⟩;have h3:R*rd<=R*(1099511627776/R):=Int.mul_le_mul_of_nonneg_left h od;have:=Int.mul_ediv_self_le (x:=1099511627776) (k:=R) od;rw[Int.mul_comm rd R];omega
theorem aQ9{k:Nat}(hn:n<=16)(hk:k<n):((2:Int)^k)=bA (λj=>decide (j=k)) n:=by
 have h:=or_bit (λ_=>false) hn hk;have e:bA (λ_=>false) n=0:=by
  clear h hk hn
  induction n with
  |zero=>rfl
  |succ n ih=>simp only[bA];rw[ih];rfl
 have p2:=sY (k:=k) od;rw[e,gT,show(0:Int)=((0:Nat):Int)from rfl,aA8 0 (2^k) og od,Nat.zero_or]at h;rw[gT,h];refine jJ λj _=>?_;by_cases q:j=k
 .rw[kK q,kF q]
 .rw[kJ q,kD q]
theorem aWb(a b:Nat->Bool)(hn:n<=16):bits BinOp.xor .i64 (bA a n) (bA b n)=bA (λj=>a j !=b j) n:=by
 obtain⟨x,hx,hxl,hxb⟩:=F4 a n;obtain⟨y,hy,hyl,hyb⟩:=F4 b n;have p1:=sY hn;rw[hx,hy,aGv x y od od];refine aGy λj=>?_;rw[Nat.testBit_xor,hxb,hyb];by_cases q:j<n
 .rw[kF q];simp
 .rw[kD q];rfl
theorem aM1(t:Nat->Bool){nx:Nat}(hn:n<=16)(h1:AE<n)(h2:nx<n):bits BinOp.xor .i64 (bA t n) (bits BinOp.or .i64 (2^AE) (2^nx))=bA (λj=>if j=AE\/j=nx then !t j else t j) n:=by
 rw[aQ9 hn h1,or_bit _ hn h2,aWb _ _ hn];refine jJ λj _=>?_;by_cases q2:j=nx
 .simp[q2]
 .by_cases q1:j=AE
  .simp[q1]
  .simp[q1,q2]
section
variable{w:WA}{O:List Nat}{C:Nat}{p:aP}{fa:Int}{cs:List Int}{s:cJ}{rd:Int}{B:Nat}{m:tH}
theorem aC6(h:Cl w O C p fa cs s rd B m)(F AE:Nat)(i mem fr:Int)(hF:F<w.1.size)(hFO:F∉O)(hz:∀i,w.frozen? (aA F i)=false)
  (f0:w.cell? (aA F 0)=some (iI AE))(f1:w.cell? (aA F 1)=some (iI i))(f2:w.cell? (aA F 2)=some (iI mem))(f3:w.cell? (aA F 3)=some (iI (-1)))(f4:w.cell? (aA F 4)=some (iI 0))(f5:w.cell? (aA F 5)=some (sT AU))
  (C4:1<=p.round)(pF:p.round<=137438953472)(hrd:0<=rd)(hf0:0<=fr)(d9:fr<=1099511627776)(hnl:p.nl<=8)(hB:B<=9999990)
  (uU:∀k,k<p.nl->0<=p.lf k/\0<=p.lb k/\p.lb k<=1099511627776):
  Calls prog 150 #[pP C,pP F,iI fr] w λe w'=>e=rT (tU #[])/\aC0 O F w w' C p fa cs ⟨s.AA,(aH p.S AE (rd*p.round+fr) s.aK p.nl).1,s.aV,s.aT⟩ rd B m/\
   (w'.cell? (aA F 0)=some (iI AE)/\w'.cell? (aA F 1)=some (iI i)/\w'.cell? (aA F 2)=some (iI mem)/\w'.cell? (aA F 3)=some (iI (iA (aH p.S AE (rd*p.round+fr) s.aK p.nl).2))/\w'.cell? (aA F 4)=some (iI (dT (aH p.S AE (rd*p.round+fr) s.aK p.nl).2))/\w'.cell? (aA F 5)=some (sT (cW (aH p.S AE (rd*p.round+fr) s.aK p.nl).2))):=by
 have far:1099511627776<rd*p.round+fr->∀w',bW w w'->aC0 O F w w' C p fa cs ⟨s.AA,(aH p.S AE (rd*p.round+fr) s.aK p.nl).1,s.aV,s.aT⟩ rd B m/\
   (w'.cell? (aA F 0)=some (iI AE)/\w'.cell? (aA F 1)=some (iI i)/\w'.cell? (aA F 2)=some (iI mem)/\w'.cell? (aA F 3)=some (iI (iA (aH p.S AE (rd*p.round+fr) s.aK p.nl).2))/\w'.cell? (aA F 4)=some (iI (dT (aH p.S AE (rd*p.round+fr) s.aK p.nl).2))/\w'.cell? (aA F 5)=some (sT (cW (aH p.S AE (rd*p.round+fr) s.aK p.nl).2))):=λR6 w' hb=>by
  have cc:=λj=>hb.cell (p:=(aA F j)) hF
  rw[aH8 R6]
  exact⟨⟨O,aR.of_below hb,hFO,h.below hb⟩,(cc 0).trans f0,(cc 1).trans f1,(cc 2).trans f2,(cc 3).trans f3,(cc 4).trans f4,(cc 5).trans f5⟩
 by_cases k1:1099511627776/p.round<rd
 .refine(aOb h F fr C4 pF k1).mono ?_;rintro e w' ⟨he,hb⟩;exact⟨he,far (by have:=aY1 C4 k1;omega) w' hb⟩
 .obtain⟨m0,m1⟩:=aU6 (R:=p.round) C4 hrd od;by_cases k2:1099511627776<rd*p.round+fr
  .refine(aOa h F fr C4 pF od m0 m1 hf0 d9 k2).mono ?_;rintro e w' ⟨he,hb⟩;exact⟨he,far k2 w' hb⟩
  .exact aS1 h F AE i mem fr (rd*p.round+fr) hF hFO hz f0 f1 f2 f3 f4 f5 C4 pF od m0 m1 hf0 d9 rfl od hnl hB uU
theorem aMm{wr:WA}(h:dC O V wr C p fa cs s rd B m)(j:Nat)(hj:j<p.n)(hB:1<=B):
  Calls prog 149 #[.pointer (some ⟨m.P j,0,none⟩)] wr λe w'=>e=rT (tU #[iI (if gA (s.AA j).g (s.AA j).b (s.AA j).fz=true then bA (s.AA j).t p.n else 0),.bool (gA (s.AA j).g (s.AA j).b (s.AA j).fz)])/\dC O V w' C p fa cs (s.setNode j (s.AA j).aI) rd B m:=by
 obtain⟨O',h,c⟩:=h;obtain⟨n1,⟨⟨n2,n3⟩,n4,n5⟩,n6⟩:=c.nod hj;refine(aL1 n1).mono ?_;rintro e w' ⟨he,q1,q2⟩;obtain⟨O'',h2,c2⟩:=n6 w' B (s.AA j).aI q1 q2 (by
  unfold yG vA.aI
  simp only[]
  constructor<;>split<;>omega) (kG _)
 exact zEe
theorem T5(w:WA)(xs:Array WB)(t:WI):(∀(i:Nat)(k:WB),xs[i]?=some k->(w.alloc (.cells xs t)).cell? (aA w.1.size i)=some k)/\(∀i,(w.alloc (.cells xs t)).frozen? (aA w.1.size i)=false)/\bW w (w.alloc (.cells xs t))/\(w.alloc (.cells xs t)).1.size=w.1.size+1:=
 ⟨λi k hi=>by simpa using hi,λi=>by simp,(jD _ _).alloc (kG _) _,oe⟩
theorem zD{a0 a1 a2 a3 a4 a5:WB}(x0:v.cell? (aA R 0)=some a0)(x1:v.cell? (aA R 1)=some a1)(x2:v.cell? (aA R 2)=some a2)(x3:v.cell? (aA R 3)=some a3)(x4:v.cell? (aA R 4)=some a4)(x5:v.cell? (aA R 5)=some a5)(a b c d e f:WB):
  ((((((((v.setCell (aA R 0) a).setCell (aA R 1) b).setCell (aA R 2) c).setCell (aA R 3) d).setCell (aA R 4) e)).setCell (aA R 5) f).cell? (aA R 0)=some a/\(((((((v.setCell (aA R 0) a).setCell (aA R 1) b).setCell (aA R 2) c).setCell (aA R 3) d).setCell (aA R 4) e)).setCell (aA R 5) f).cell? (aA R 1)=some b/\(((((((v.setCell (aA R 0) a).setCell (aA R 1) b).setCell (aA R 2) c).setCell (aA R 3) d).setCell (aA R 4) e)).setCell (aA R 5) f).cell? (aA R 2)=some c/\(((((((v.setCell (aA R 0) a).setCell (aA R 1) b).setCell (aA R 2) c).setCell (aA R 3) d).setCell (aA R 4) e)).setCell (aA R 5) f).cell? (aA R 3)=some d/\(((((((v.setCell (aA R 0) a).setCell (aA R 1) b).setCell (aA R 2) c).setCell (aA R 3) d).setCell (aA R 4) e)).setCell (aA R 5) f).cell? (aA R 4)=some e/\(((((((v.setCell (aA R 0) a).setCell (aA R 1) b).setCell (aA R 2) c).setCell (aA R 3) d).setCell (aA R 4) e)).setCell (aA R 5) f).cell? (aA R 5)=some f)/\aW R R v (((((((v.setCell (aA R 0) a).setCell (aA R 1) b).setCell (aA R 2) c).setCell (aA R 3) d).setCell (aA R 4) e)).setCell (aA R 5) f):=
 ⟨⟨(aB (.inr og)).trans ((aB (.inr og)).trans ((aB (.inr og)).trans ((aB (.inr og)).trans ((aB (.inr og)).trans (aZ (x0)))))),(aB (.inr og)).trans ((aB (.inr og)).trans ((aB (.inr og)).trans ((aB (.inr og)).trans (aZ ((aB (.inr og)).trans (x1)))))),(aB (.inr og)).trans ((aB (.inr og)).trans ((aB (.inr og)).trans (aZ ((aB (.inr og)).trans ((aB (.inr og)).trans (x2)))))),(aB (.inr og)).trans ((aB (.inr og)).trans (aZ ((aB (.inr og)).trans ((aB (.inr og)).trans ((aB (.inr og)).trans (x3)))))),(aB (.inr og)).trans (aZ ((aB (.inr og)).trans ((aB (.inr og)).trans ((aB (.inr og)).trans ((aB (.inr og)).trans (x4)))))),aZ ((aB (.inr og)).trans ((aB (.inr og)).trans ((aB (.inr og)).trans ((aB (.inr og)).trans ((aB (.inr og)).trans (x5))))))⟩,((((((aW.refl R R v).set (p:=(aA R 0)) (.inl rfl) a).set (p:=(aA R 1)) (.inl rfl) b).set (p:=(aA R 2)) (.inl rfl) c).set (p:=(aA R 3)) (.inl rfl) d).set (p:=(aA R 4)) (.inl rfl) e).set (p:=(aA R 5)) (.inl rfl) f⟩
theorem dC.beside(h:dC O V v C p fa cs s rd B m)(hT:aW R R v v')(hR:R<V.1.size)(hRO:R∉O){w:WA}(h0:aR O O w V)(hw:w.1.size<=R):∃O',aR O O' w v'/\Cl v' O' C p fa cs s rd B m:=by
 obtain⟨O',h1,h2⟩:=h;have hn:R∉O':=λy=>by
  rcases h1.fresh R y with q|q
  .exact hRO q
  .omega
 have h3:=h0.trans h1;refine⟨O',⟨hT.os.trans h3.os,hT.tape.trans h3.tape,hT.output.trans h3.output,kH h3.size hT.size,λc hc hnc=>(hT.block c (kC hc h3.size) od od).trans (h3.block c hc hnc),h3.fresh⟩,h2.keep ⟨hT.size,λc hc=>hT.block c (h2.lt c hc) (λe=>hn (e▸hc)) (λe=>hn (e▸hc))⟩⟩
theorem aR.aside{O2:List Nat}(h:aR O O2 w v)(hT:aW R R v v')(hR:w.1.size<=R):aR O O2 w v':=
 ⟨hT.os.trans h.os,hT.tape.trans h.tape,hT.output.trans h.output,kH h.size hT.size,λc hc hnc=>(hT.block c (kC hc h.size) od od).trans (h.block c hc hnc),h.fresh⟩
theorem Cl.aside(h:Cl w O C p fa cs s rd B m)(hT:aW R R w v')(hR:R∉O):Cl v' O C p fa cs s rd B m:=
 h.keep ⟨hT.size,λc hc=>hT.block c (h.lt c hc) (λe=>hR (e▸hc)) (λe=>hR (e▸hc))⟩
theorem aIs(w:WA)(a b c d e f x y z a' b' c' d' e' f':WB)(t u v:WI)(V:WA)(hV:V=(((w.alloc (.cells #[a,b,c,d,e,f] t)).alloc (.cells #[x,y,z] u)).alloc (.cells #[a',b',c',d',e',f'] v))):
  (∀(i:Nat)(k:WB),(#[a,b,c,d,e,f]:Array WB)[i]?=some k->V.cell? ⟨w.1.size,i,none⟩=some k)/\(∀(i:Nat)(k:WB),(#[x,y,z]:Array WB)[i]?=some k->V.cell? ⟨w.1.size+1,i,none⟩=some k)/\(∀(i:Nat)(k:WB),(#[a',b',c',d',e',f']:Array WB)[i]?=some k->V.cell? ⟨w.1.size+1+1,i,none⟩=some k)/\(∀i,V.frozen? ⟨w.1.size,i,none⟩=false)/\(∀i,V.frozen? ⟨w.1.size+1+1,i,none⟩=false)/\Below w.1.size w V/\V.1.size=w.1.size+3:=by
 subst hV;obtain⟨p1,p2,p3,p4⟩:=T5 w #[a,b,c,d,e,f] t;generalize w.alloc (.cells #[a,b,c,d,e,f] t)=W1 at *;obtain⟨q1,q2,q3,q4⟩:=T5 W1 #[x,y,z] u;rw[p4]at q1 q2 q4;generalize W1.alloc (.cells #[x,y,z] u)=W2 at *;obtain⟨r1,r2,r3,r4⟩:=T5 W2 #[a',b',c',d',e',f'] v;rw[q4]at r1 r2 r4;generalize W2.alloc (.cells #[a',b',c',d',e',f'] v)=W3 at *;have k1:∀i,W3.cell? ⟨w.1.size,i,none⟩=W1.cell? ⟨w.1.size,i,none⟩:=λi=>(r3.cell (p:=⟨w.1.size,i,none⟩) ji).trans (q3.cell (p:=⟨w.1.size,i,none⟩) ji);have k2:∀i,W3.cell? ⟨w.1.size+1,i,none⟩=W2.cell? ⟨w.1.size+1,i,none⟩:=λi=>r3.cell (p:=⟨w.1.size+1,i,none⟩) (by show w.1.size+1<_;omega);refine⟨λi k hi=>(k1 i).trans (p1 i k hi),λi k hi=>(k2 i).trans (q1 i k hi),r1,λi=>?_,r2,?_,r4⟩
 .exact(r3.frozen (p:=⟨w.1.size,i,none⟩) ji).trans ((q3.frozen (p:=⟨w.1.size,i,none⟩) ji).trans (p2 i))
 .exact(p3.trans (q3.mono od)).trans (r3.mono od)
theorem aJm(h:Cl w O C p fa cs s rd B m)(i AE:Nat)(mode:Int)(hi:i<p.ns)(hw:p.nd i=AE)(hwn:AE<p.n)(pA:p.AA=p.n)(hn:p.n<=16)(T6:1<=B)(hs:gA (s.AA AE).g (s.AA AE).b (s.AA AE).fz=false)(hb:aX fa AE=false):
  Calls prog 115 #[pP C,iI i,iI mode] w λe w'=>e=rT (tU #[fI AE i 0 (-1) 0 AU,.bool false])/\∃O',aR O O' w w'/\Cl w' O' C p fa cs (s.setNode AE (s.AA AE).aI) rd B m:=zEx
theorem aJn(h:Cl w O C p fa cs s rd B m)(i AE:Nat)(mode:Int)(hi:i<p.ns)(hw:p.nd i=AE)(hwn:AE<p.n)(pA:p.AA=p.n)(hn:p.n<=16)(T6:1<=B)(hs:gA (s.AA AE).g (s.AA AE).b (s.AA AE).fz=false)(hb:aX fa AE=true):
  Calls prog 115 #[pP C,iI i,iI mode] w λe w'=>e=rT (tU #[fI AE i 0 (-1) 0 AU,.bool false])/\∃O',aR O O' w w'/\Cl w' O' C p fa cs (s.setNode AE (s.AA AE).aI) rd B m:=zEx
theorem aGf(h:Cl w O C p fa cs s rd B m)(i AE:Nat)(mode:Int)(hi:i<p.ns)(hw:p.nd i=AE)(hwn:AE<p.n)(pA:p.AA=p.n)(hn:p.n<=16)(T6:1<=B)(hs:gA (s.AA AE).g (s.AA AE).b (s.AA AE).fz=true)(hb:aX fa AE=true)(hm:mode=1):
  Calls prog 115 #[pP C,iI i,iI mode] w λe w'=>e=rT (tU #[fI AE i 0 (-1) 0 AU,.bool false])/\∃O',aR O O' w w'/\Cl w' O' C p fa cs (s.setNode AE (s.AA AE).aI) rd B m:=zLn
theorem aBf(h:Cl w O C p fa cs s rd B m)(i AE:Nat)(mode:Int)(hi:i<p.ns)(hw:p.nd i=AE)(hwn:AE<p.n)(pA:p.AA=p.n)(hn:p.n<=16)(T6:1<=B)(hs:gA (s.AA AE).g (s.AA AE).b (s.AA AE).fz=true)(hb:aX fa AE=false)(C4:1<=p.round)(pF:p.round<=137438953472)(hrd:0<=rd)(hf0:0<=p.fr i)(d9:p.fr i<=1099511627776)(hnl:p.nl<=8)(hB:B<=9999990)(uU:∀k,k<p.nl->0<=p.lf k/\0<=p.lb k/\p.lb k<=1099511627776):
  Calls prog 115 #[pP C,iI i,iI mode] w λe w'=>e=rT (tU #[fI AE i (bA (s.AA AE).t p.n) (iA (aH p.S AE (rd*p.round+p.fr i) s.aK p.nl).2) (dT (aH p.S AE (rd*p.round+p.fr i) s.aK p.nl).2) (cW (aH p.S AE (rd*p.round+p.fr i) s.aK p.nl).2),.bool true])/\∃O',aR O O' w w'/\Cl w' O' C p fa cs ⟨(s.setNode AE (s.AA AE).aI).AA,(aH p.S AE (rd*p.round+p.fr i) s.aK p.nl).1,s.aV,s.aT⟩ rd B m:=zF5
theorem aBg(h:Cl w O C p fa cs s rd B m)(i AE:Nat)(mode:Int)(hi:i<p.ns)(hw:p.nd i=AE)(hwn:AE<p.n)(pA:p.AA=p.n)(hn:p.n<=16)(T6:1<=B)(hs:gA (s.AA AE).g (s.AA AE).b (s.AA AE).fz=true)(hb:aX fa AE=true)(hm1:mode≠1)(hm2:mode≠2)(C4:1<=p.round)(pF:p.round<=137438953472)(hrd:0<=rd)(hf0:0<=p.fr i)(d9:p.fr i<=1099511627776)(hnl:p.nl<=8)(hB:B<=9999990)(uU:∀k,k<p.nl->0<=p.lf k/\0<=p.lb k/\p.lb k<=1099511627776):
  Calls prog 115 #[pP C,iI i,iI mode] w λe w'=>e=rT (tU #[fI AE i (bA (s.AA AE).t p.n) (iA (aH p.S AE (rd*p.round+p.fr i) s.aK p.nl).2) (dT (aH p.S AE (rd*p.round+p.fr i) s.aK p.nl).2) (cW (aH p.S AE (rd*p.round+p.fr i) s.aK p.nl).2),.bool true])/\∃O',aR O O' w w'/\Cl w' O' C p fa cs ⟨(s.setNode AE (s.AA AE).aI).AA,(aH p.S AE (rd*p.round+p.fr i) s.aK p.nl).1,s.aV,s.aT⟩ rd B m:=have m2:=0;zF5
end
end
section
section
variable{w:WA}{O:List Nat}{C:Nat}{p:aP}{fa:Int}{cs:List Int}{s:cJ}{rd:Int}{B:Nat}{m:tH}
theorem aDw(h:Cl w O C p fa cs s rd B m)(i AE:Nat)(mode:Int)(hi:i<p.ns)(hw:p.nd i=AE)(hwn:AE<p.n)(pA:p.AA=p.n)(hn:p.n<=16)(T6:1<=B)(hs:gA (s.AA AE).g (s.AA AE).b (s.AA AE).fz=true)(hb:aX fa AE=true)(hm:mode=2)(C4:1<=p.round)(pF:p.round<=137438953472)(hrd:0<=rd)(hf0:0<=p.fr i)(d9:p.fr i<=1099511627776)(hnl:p.nl<=8)(hB:B<=9999990)(uU:∀k,k<p.nl->0<=p.lf k/\0<=p.lb k/\p.lb k<=1099511627776):
  Calls prog 115 #[pP C,iI i,iI mode] w λe w'=>e=rT (tU #[fI AE i (bA (λj=>if j=AE\/j=(AE+1)%p.n then !(s.AA AE).t j else(s.AA AE).t j) p.n) (iA (aH p.S AE (rd*p.round+p.fr i) s.aK p.nl).2) (dT (aH p.S AE (rd*p.round+p.fr i) s.aK p.nl).2) (cW (aH p.S AE (rd*p.round+p.fr i) s.aK p.nl).2),.bool true])/\∃O',aR O O' w w'/\Cl w' O' C p fa cs ⟨(s.setNode AE (s.AA AE).aI).AA,(aH p.S AE (rd*p.round+p.fr i) s.aK p.nl).1,s.aV,s.aT⟩ rd B m:=zJ6
end
end
section
variable{i AE:Nat}{l0 l1 mem t:Int}
theorem aH5{P:nP}{L:Nat->lN}:∀n j,((aH P AE t L n).1 j).all=(L j).all:=by
 intro n
 induction n with
 |zero=>intro j;rfl
 |succ n ih=>
  intro j
  by_cases h:P.lf n=AE
  .cases q:(aH P AE t L n).2 with
   |none=>
    rw[qW h q]
    show(if j=n then((aH P AE t L n).1 n).asked t (P.lb n)else(aH P AE t L n).1 j).all=_
    split
    .next e=>subst e;exact ih j
    .exact ih j
   |some x=>
    have e:aH P AE t L (n+1)=aH P AE t L n:=by
     show(if _ then _ else _)=_
     rw[kK (.inl (by rw[q];rfl))]
    rw[e]
    exact ih j
  .rw[pI h]
   exact ih j
theorem aH6{P:nP}{L:Nat->lN}:∀n k q d,(aH P AE t L n).2=some (k,q,d)->∃x,d=(L k).all.getD x AU:=by
 intro n
 induction n with
 |zero=>intro k q d h;cases h
 |succ n ih=>
  intro k q d hm
  by_cases h:P.lf n=AE
  .cases y:(aH P AE t L n).2 with
   |none=>
    rw[qW h y]at hm
    by_cases hK:gV ((aH P AE t L n).1 n).all.length ((aH P AE t L n).1 n).aQ t ((aH P AE t L n).1 n).now ((aH P AE t L n).1 n).last (P.lb n)=0
    .simp only[kK hK]at hm
     injection hm with hm
     injection hm with h1 h2
     injection h2 with h2 h3
     subst h1
     exact⟨_,by rw[<-h3,aH5]⟩
    .simp only[kJ hK]at hm
     cases hm
   |some x=>
    have e:aH P AE t L (n+1)=aH P AE t L n:=by
     show(if _ then _ else _)=_
     rw[kK (.inl (by rw[y];rfl))]
    rw[e]at hm
    exact ih k q d hm
  .rw[pI h]at hm
   exact ih k q d hm
section
variable{w:WA}{O:List Nat}{C:Nat}{p:aP}{fa:Int}{cs:List Int}{s:cJ}{rd:Int}{B:Nat}{m:tH}
theorem Cl.msg(h:Cl w O C p fa cs s rd B m)(H:qL)(i:Nat):xJ p (s.goes p.S H rd i).2:=by
 intro k q d hm;unfold cJ.goes at hm;by_cases hs:s.sends H (p.S.nd i)=true
 .rw[kK hs]at hm;have h1:=((aH9 (p:=p.S) (AE:=p.S.nd i) (t:=rd*p.S.round+p.S.fr i) (L:=s.aK) p.S.nl).1 k q d hm).1;refine⟨h1,?_⟩;obtain⟨x,hx⟩:=aH6 _ _ _ _ hm;obtain⟨_,_,hB,_⟩:=h.sdr h1;rw[hx,List.getD_eq_getElem?_getD]
  cases y:(s.aK k).all[x]? with
  |none=>decide
  |some v=>exact hB.2.2 v (List.mem_of_getElem? y)
 .rw[kJ hs]at hm;cases hm
def qJ(s:cJ)(p:aP)(mk:Option (Nat×Int×WG))(k j:Nat):Bool:=match mk with|none=>false|some (k',q,_)=>decide (k'=k)&&(aX (p.lt k) j&&takeB (s.aV k j) q)
theorem aFg(s:cJ)(p:aP)(mk:Option (Nat×Int×WG))(j k x:Nat):(s.gN p mk j).aV k x=if x=j/\qJ s p mk k j=true then dT mk else s.aV k x:=by
 match mk with
 |none=>
  show s.aV k x=_
  rw[kJ (λe=>by cases e.2)]
 |some (k',q,d)=>
  show(if aX (p.lt k') j=true then s.take1 k' j q d else s).aV k x=if x=j/\(decide (k'=k)&&(aX (p.lt k) j&&takeB (s.aV k j) q))=true then q else s.aV k x
  by_cases hb:aX (p.lt k') j=true
  .rw[kK hb]
   unfold cJ.take1
   by_cases hT:takeB (s.aV k' j) q=true
   .rw[kK hT]
    show(if k=k'/\x=j then q else s.aV k x)=_
    by_cases e:k=k'/\x=j
    .obtain⟨rfl,rfl⟩:=e
     rw[kK ⟨rfl,rfl⟩,kK ⟨rfl,by rw[hb,hT];simp⟩]
    .rw[kJ e,kJ]
     rintro⟨e1,e2⟩
     rw[AK,decide_eq_true_eq]at e2
     exact e ⟨e2.1.symm,e1⟩
   .rw[kJ hT,kJ]
    rintro⟨_,e2⟩
    rw[AK,decide_eq_true_eq,AK]at e2
    obtain⟨rfl,_,e3⟩:=e2
    exact hT e3
  .rw[kJ hb,kJ]
   rintro⟨_,e2⟩
   rw[AK,decide_eq_true_eq,AK]at e2
   obtain⟨rfl,e3,_⟩:=e2
   exact hb e3
theorem aIq(s:cJ)(p:aP)(mk:Option (Nat×Int×WG))(j k x:Nat):(s.gN p mk j).aT k x=if x=j/\qJ s p mk k j=true/\(s.aT k j).length<16 then s.aT k j++[cW mk]else s.aT k x:=by
 match mk with
 |none=>
  show s.aT k x=_
  rw[kJ (λe=>by cases e.2.1)]
 |some (k',q,d)=>
  show(if aX (p.lt k') j=true then s.take1 k' j q d else s).aT k x=if x=j/\(decide (k'=k)&&(aX (p.lt k) j&&takeB (s.aV k j) q))=true/\(s.aT k j).length<16 then s.aT k j++[d]else s.aT k x
  by_cases hb:aX (p.lt k') j=true
  .rw[kK hb]
   unfold cJ.take1
   by_cases hT:takeB (s.aV k' j) q=true
   .rw[kK hT]
    show(if k=k'/\x=j then(if(s.aT k' j).length<16 then s.aT k' j++[d]else s.aT k' j)else s.aT k x)=_
    by_cases e:k=k'/\x=j
    .obtain⟨rfl,rfl⟩:=e
     rw[kK ⟨rfl,rfl⟩]
     by_cases hl:(s.aT k x).length<16
     .rw[kK hl,kK ⟨rfl,by rw[hb,hT];simp,hl⟩]
     .rw[kJ hl,kJ (λy=>hl y.2.2)]
    .rw[kJ e,kJ]
     rintro⟨e1,e2,_⟩
     rw[AK,decide_eq_true_eq]at e2
     exact e ⟨e2.1.symm,e1⟩
   .rw[kJ hT,kJ]
    rintro⟨_,e2,_⟩
    rw[AK,decide_eq_true_eq,AK]at e2
    obtain⟨rfl,_,e3⟩:=e2
    exact hT e3
  .rw[kJ hb,kJ]
   rintro⟨_,e2,_⟩
   rw[AK,decide_eq_true_eq,AK]at e2
   obtain⟨rfl,e3,_⟩:=e2
   exact hb e3
theorem aIp(s:cJ)(p:aP)(mk:Option (Nat×Int×WG))(j:Nat):(s.gN p mk j).aK=s.aK:=by
 match mk with
 |none=>rfl
 |some (k,q,d)=>
  show(if aX (p.lt k) j=true then s.take1 k j q d else s).aK=s.aK
  unfold cJ.take1
  split
  .split<;>rfl
  .rfl
theorem aB1{s s':cJ}{p:aP}{mk:Option (Nat×Int×WG)}{k j:Nat}(h:s.aV k j=s'.aV k j):qJ s p mk k j=qJ s' p mk k j:=by
 match mk with
 |none=>rfl
 |some (k',q,d)=>
  show(decide (k'=k)&&(aX (p.lt k) j&&takeB (s.aV k j) q))=(decide (k'=k)&&(aX (p.lt k) j&&takeB (s'.aV k j) q))
  rw[h]
theorem aP1(s:cJ)(p:aP)(AE:Nat)(mem:Int)(mk:Option (Nat×Int×WG))(aI:Bool)(l0 l1:Int):∀J,
  (∀x,(s.bY p AE mem mk aI l0 l1 J).AA x=if x<J/\x≠AE then(s.AA x).hears x p.n AE (if cO aI l0 l1 x 2=true then fZ p.n (s.AA x).t (tb mem) AE mem else 0)else s.AA x)/\
  (s.bY p AE mem mk aI l0 l1 J).aK=s.aK/\
  (∀k x,(s.bY p AE mem mk aI l0 l1 J).aV k x=if(x<J/\x≠AE/\cO aI l0 l1 x 2=true)/\qJ s p mk k x=true then dT mk else s.aV k x)/\
  ∀k x,(s.bY p AE mem mk aI l0 l1 J).aT k x=if(x<J/\x≠AE/\cO aI l0 l1 x 2=true)/\qJ s p mk k x=true/\(s.aT k x).length<16 then s.aT k x++[cW mk]else s.aT k x:=by
 intro J
 induction J with
 |zero=>
  refine⟨λx=>?_,rfl,λk x=>?_,λk x=>?_⟩
  .rw[kJ (λe=>kV _ e.1)];rfl
  .rw[kJ (λe=>kV _ e.1.1)];rfl
  .rw[kJ (λe=>kV _ e.1.1)];rfl
 |succ J ih=>
  obtain⟨ih1,ih2,ih3,ih4⟩:=ih
  have hn:(s.bY p AE mem mk aI l0 l1 J).AA J=s.AA J:=tT J J (kG _)
  generalize hR:s.bY p AE mem mk aI l0 l1 J=R at *
  have fM:s.bY p AE mem mk aI l0 l1 (J+1)=if J=AE then R else(if cO aI l0 l1 J 2=true then R.gN p mk J else R).setNode J ((s.AA J).hears J p.n AE (if cO aI l0 l1 J 2=true then fZ p.n (s.AA J).t (tb mem) AE mem else 0)):=by
   rw[<-hR];rfl
  by_cases hw:J=AE
  .rw[fM,kK hw]
   refine⟨λx=>?_,ih2,λk x=>?_,λk x=>?_⟩
   .rw[ih1]
    by_cases q:x<J/\x≠AE
    .rw[kK q,kK (show x<J+1/\x≠AE from⟨od,q.2⟩)]
    .rw[kJ q,kJ (show ¬(x<J+1/\x≠AE)by omega)]
   .rw[ih3]
    by_cases q:(x<J/\x≠AE/\cO aI l0 l1 x 2=true)/\qJ s p mk k x=true
    .rw[kK q,kK ⟨⟨od,q.1.2⟩,q.2⟩]
    .rw[kJ q,kJ]
     rintro⟨⟨e1,e2,e3⟩,e4⟩
     exact q ⟨⟨od,e2,e3⟩,e4⟩
   .rw[ih4]
    by_cases q:(x<J/\x≠AE/\cO aI l0 l1 x 2=true)/\qJ s p mk k x=true/\(s.aT k x).length<16
    .rw[kK q,kK ⟨⟨od,q.1.2⟩,q.2⟩]
    .rw[kJ q,kJ]
     rintro⟨⟨e1,e2,e3⟩,e4⟩
     exact q ⟨⟨od,e2,e3⟩,e4⟩
  .rw[fM,kJ hw]
   have hNJ:∀k,R.aV k J=s.aV k J:=λk=>by rw[ih3,kJ (λe=>kW _ e.1.1)]
   have hPJ:∀k,R.aT k J=s.aT k J:=λk=>by rw[ih4,kJ (λe=>kW _ e.1.1)]
   refine⟨λx=>?_,?_,λk x=>?_,λk x=>?_⟩
   .show(if x=J then _ else(if cO aI l0 l1 J 2=true then R.gN p mk J else R).AA x)=_
    by_cases e:x=J
    .subst e
     rw[kK rfl,kK (show x<x+1/\x≠AE from⟨od,hw⟩)]
    .rw[kJ e]
     have e2:(if cO aI l0 l1 J 2=true then R.gN p mk J else R).AA x=R.AA x:=by
      split
      .rw[wG]
      .rfl
     rw[e2,ih1]
     by_cases q:x<J/\x≠AE
     .rw[kK q,kK (show x<J+1/\x≠AE from⟨od,q.2⟩)]
     .rw[kJ q,kJ (show ¬(x<J+1/\x≠AE)by omega)]
   .show(if cO aI l0 l1 J 2=true then R.gN p mk J else R).aK=s.aK
    split
    .rw[aIp];exact ih2
    .exact ih2
   .show(if cO aI l0 l1 J 2=true then R.gN p mk J else R).aV k x=_
    by_cases hc:cO aI l0 l1 J 2=true
    .rw[kK hc,aFg,aB1 (hNJ k)]
     by_cases e:x=J
     .subst e
      by_cases t:qJ s p mk k x=true
      .rw[kK ⟨rfl,t⟩,kK ⟨⟨od,hw,hc⟩,t⟩]
      .rw[kJ (λy=>t y.2),kJ (λy=>t y.2)]
       exact hNJ k
     .rw[kJ (λy=>e y.1),ih3]
      by_cases q:(x<J/\x≠AE/\cO aI l0 l1 x 2=true)/\qJ s p mk k x=true
      .rw[kK q,kK ⟨⟨od,q.1.2⟩,q.2⟩]
      .rw[kJ q,kJ]
       rintro⟨⟨e1,e2,e3⟩,e4⟩
       exact q ⟨⟨od,e2,e3⟩,e4⟩
    .rw[kJ hc,ih3]
     by_cases q:(x<J/\x≠AE/\cO aI l0 l1 x 2=true)/\qJ s p mk k x=true
     .rw[kK q,kK ⟨⟨od,q.1.2⟩,q.2⟩]
     .rw[kJ q,kJ]
      rintro⟨⟨e1,e2,e3⟩,e4⟩
      by_cases e:x=J
      .subst e;exact hc e3
      .exact q ⟨⟨od,e2,e3⟩,e4⟩
   .show(if cO aI l0 l1 J 2=true then R.gN p mk J else R).aT k x=_
    by_cases hc:cO aI l0 l1 J 2=true
    .rw[kK hc,aIq,aB1 (hNJ k),hPJ k]
     by_cases e:x=J
     .subst e
      by_cases t:qJ s p mk k x=true/\(s.aT k x).length<16
      .rw[kK ⟨rfl,t⟩,kK ⟨⟨od,hw,hc⟩,t⟩]
      .rw[kJ (λy=>t y.2),kJ (λy=>t y.2)]
       exact hPJ k
     .rw[kJ (λy=>e y.1),ih4]
      by_cases q:(x<J/\x≠AE/\cO aI l0 l1 x 2=true)/\qJ s p mk k x=true/\(s.aT k x).length<16
      .rw[kK q,kK ⟨⟨od,q.1.2⟩,q.2⟩]
      .rw[kJ q,kJ]
       rintro⟨⟨e1,e2,e3⟩,e4⟩
       exact q ⟨⟨od,e2,e3⟩,e4⟩
    .rw[kJ hc,ih4]
     by_cases q:(x<J/\x≠AE/\cO aI l0 l1 x 2=true)/\qJ s p mk k x=true/\(s.aT k x).length<16
     .rw[kK q,kK ⟨⟨od,q.1.2⟩,q.2⟩]
     .rw[kJ q,kJ]
      rintro⟨⟨e1,e2,e3⟩,e4⟩
      by_cases e:x=J
      .subst e;exact hc e3
      .exact q ⟨⟨od,e2,e3⟩,e4⟩
theorem aTd{n:Nat}{t s':Nat->Bool}(hw:AE<n):fZ n t (tb (bA s' n)) AE (bA s' n)=if aEi n AE s' t=true then 1 else 2:=by
 have hb:=mV s' n;have e:aEi n AE (tb (bA s' n)) t=aEi n AE s' t:=by
  rw[Bool.eq_iff_iff,q7,q7];constructor
  .rintro⟨h1,h2⟩;refine⟨?_,λj hj eH=>?_⟩
   .rw[lY,kF hw]at h1;simpa using h1
   .have:=h2 j hj eH;rw[lY,kF hj]at this;exact zCk
  .rintro⟨h1,h2⟩;refine⟨?_,λj hj eH=>?_⟩
   .rw[lY,kF hw];simpa using h1
   .rw[lY,kF hj];simpa using h2 j hj eH
 unfold fZ;rw[Int.toNat_natCast,e];by_cases h:aEi n AE s' t=true
 .rw[kK h,kK ⟨⟨od,od⟩,hb.1,hb.2,h⟩]
 .rw[kJ h,kJ (λy=>h y.2.2.2)]
def cJ.nF(s:cJ)(p:aP)(H:qL)(rd:Int)(i:Nat):cJ:=⟨(s.setNode (p.S.nd i) (s.AA (p.S.nd i)).aI).AA,(s.goes p.S H rd i).1,s.aV,s.aT⟩
theorem aZ0{H:qL}{aI:Bool}(hw:p.S.nd i<p.n)(hs:aI=s.sends H (p.S.nd i))(uQ:aI=true->mem=bA (s.wH p.S H (p.S.nd i)) p.n)(h0:∀j,j<p.n->aX l0 j=H.lost i 0 j)(h1:∀j,j<p.n->aX l1 j=H.lost i 1 j):
  (∀x,x<p.n->(s.slot p.S H rd i).AA x=((s.nF p H rd i).bY p (p.S.nd i) mem (s.goes p.S H rd i).2 aI l0 l1 p.n).AA x)/\(∀k,(s.slot p.S H rd i).aK k=((s.nF p H rd i).bY p (p.S.nd i) mem (s.goes p.S H rd i).2 aI l0 l1 p.n).aK k)/\
  ∀k x,x<p.n->(s.slot p.S H rd i).aV k x=((s.nF p H rd i).bY p (p.S.nd i) mem (s.goes p.S H rd i).2 aI l0 l1 p.n).aV k x/\(s.slot p.S H rd i).aT k x=((s.nF p H rd i).bY p (p.S.nd i) mem (s.goes p.S H rd i).2 aI l0 l1 p.n).aT k x:=by
 obtain⟨q1,q2,q3,q4⟩:=aP1 (s.nF p H rd i) p (p.S.nd i) mem (s.goes p.S H rd i).2 aI l0 l1 p.n;have aZg:∀x,x<p.n->cO aI l0 l1 x 2=s.comes H i (p.S.nd i) x:=λx hx=>by unfold cO cJ.comes;rw[hs,h0 x hx,h1 x hx];simp
 have aMu:∀k x,x<p.n->x≠p.S.nd i->(cO aI l0 l1 x 2=true/\qJ (s.nF p H rd i) p (s.goes p.S H rd i).2 k x=true↔s.yD p.S H i (s.goes p.S H rd i).2 k x=true):=λk x hx eH=>by
  rw[aZg x hx]
  cases hg:(s.goes p.S H rd i).2 with
  |none=>exact⟨(λe=>by cases e.2),(λe=>by cases e)⟩
  |some v=>
   obtain⟨k',q,d⟩:=v
   show _/\(decide (k'=k)&&(aX (p.lt k) x&&takeB (s.aV k x) q))=true↔(decide (k'=k)&&(aX (p.lt k) x&&(s.comes H i (p.S.nd i) x&&(decide (x<p.n/\x≠p.S.nd i)&&takeB (s.aV k x) q))))=true
   rw[kF (show x<p.n/\x≠p.S.nd i from⟨hx,eH⟩)]
   simp only[AK,Bool.true_and]
   constructor
   .rintro⟨a,b,c,d⟩;exact⟨b,c,a,d⟩
   .rintro⟨b,c,a,d⟩;exact⟨a,b,c,d⟩
 have cP:∀k,s.yD p.S H i (s.goes p.S H rd i).2 k (p.S.nd i)=false:=λk=>by
  cases hg:(s.goes p.S H rd i).2 with
  |none=>rfl
  |some v=>
   obtain⟨k',q,d⟩:=v
   show(decide (k'=k)&&(aX (p.lt k) (p.S.nd i)&&(s.comes H i (p.S.nd i) (p.S.nd i)&&(decide (p.S.nd i<p.n/\p.S.nd i≠p.S.nd i)&&takeB (s.aV k (p.S.nd i)) q))))=false
   rw[kD (show ¬(p.S.nd i<p.n/\p.S.nd i≠p.S.nd i)from λy=>y.2 rfl)]
   simp
 refine⟨λx hx=>?_,λk=>?_,λk x hx=>⟨?_,?_⟩⟩
 .rw[q1 x];show(if x=p.S.nd i then(s.AA x).aI else(s.AA x).hears x p.n (p.S.nd i) (s.what p.S H i (p.S.nd i) x))=_;by_cases e:x=p.S.nd i
  .rw[kK e,kJ (λy=>y.2 e),e];show _=(if p.S.nd i=p.S.nd i then _ else _);rw[kK rfl]
  .have hsn:(s.nF p H rd i).AA x=s.AA x:=kJ e;rw[kJ e,kK ⟨hx,e⟩,hsn];congr 1;unfold cJ.what;rw[aZg x hx];by_cases hc:s.comes H i (p.S.nd i) x=true
   .rw[kK hc,kK hc];have aMt:aI=true:=by unfold cJ.comes at hc;rw[AK]at hc;rw[hs];exact hc.1
    rw[uQ aMt,aTd hw];rfl
   .rw[kJ hc,kJ hc]
 .rw[q2];rfl
 .rw[q3 k x];show(if s.yD p.S H i (s.goes p.S H rd i).2 k x=true then dT (s.goes p.S H rd i).2 else s.aV k x)=_;by_cases e:x=p.S.nd i
  .rw[e,cP k,kJ og,kJ (λy=>y.1.2.1 rfl)];rfl
  .by_cases t:s.yD p.S H i (s.goes p.S H rd i).2 k x=true
   .obtain⟨a,b⟩:=(aMu k x hx e).2 t;rw[kK t,kK ⟨⟨hx,e,a⟩,b⟩]
   .rw[kJ t,kJ (λy=>t ((aMu k x hx e).1 ⟨y.1.2.2,y.2⟩))];rfl
 .rw[q4 k x];show(if s.yD p.S H i (s.goes p.S H rd i).2 k x=true/\(s.aT k x).length<16 then s.aT k x++[cW (s.goes p.S H rd i).2]else s.aT k x)=_;by_cases e:x=p.S.nd i
  .rw[e,kJ (λy=>by rw[cP k]at y;cases y.1),kJ (λy=>y.1.2.1 rfl)];rfl
  .by_cases t:s.yD p.S H i (s.goes p.S H rd i).2 k x=true/\(s.aT k x).length<16
   .obtain⟨a,b⟩:=(aMu k x hx e).2 t.1;rw[kK t,kK ⟨⟨hx,e,a⟩,b,t.2⟩];rfl
   .rw[kJ t,kJ (λy=>t ⟨(aMu k x hx e).1 ⟨y.1.2.2,y.2.1⟩,y.2.2⟩)];rfl
theorem aWv(h:Cl w O C p fa cs s rd B m)(H:qL)(i:Nat)(mode:Int)(hi:i<p.ns)(hl:H.lies=aX fa)(hm:H.mode (p.S.nd i)=mode)(hnd:0<=p.nd i)(hwn:p.S.nd i<p.n)(pA:p.AA=p.n)(hn:p.n<=16)(T6:1<=B)
  (C4:1<=p.round)(pF:p.round<=137438953472)(hrd:0<=rd)(hf0:0<=p.fr i)(d9:p.fr i<=1099511627776)(hnl:p.nl<=8)(hB:B<=9999990)(uU:∀k,k<p.nl->0<=p.lf k/\0<=p.lb k/\p.lb k<=1099511627776):
  Calls prog 115 #[pP C,iI i,iI mode] w λe w'=>∃mem aI,e=rT (tU #[fI (p.S.nd i:Nat) i mem (iA (s.goes p.S H rd i).2) (dT (s.goes p.S H rd i).2) (cW (s.goes p.S H rd i).2),.bool aI])/\aI=s.sends H (p.S.nd i)/\(aI=true->mem=bA (s.wH p.S H (p.S.nd i)) p.n)/\∃O',aR O O' w w'/\Cl w' O' C p fa cs (s.nF p H rd i) rd B m:=by
 have hw:p.nd i=((p.S.nd i:Nat):Int):=by show p.nd i=((p.nd i).toNat:Int);omega
 generalize aA6:p.S.nd i=AE at *;have wC:s.sends H AE=false->∀e w',(e=rT (tU #[fI AE i 0 (-1) 0 AU,.bool false])/\∃O',aR O O' w w'/\Cl w' O' C p fa cs (s.setNode AE (s.AA AE).aI) rd B m)->∃mem aI,e=Ending.returned (tU #[fI AE i mem (iA (s.goes p.S H rd i).2) (dT (s.goes p.S H rd i).2) (cW (s.goes p.S H rd i).2),.bool aI])/\aI=s.sends H AE/\(aI=true->mem=bA (s.wH p.S H AE) p.n)/\∃O',aR O O' w w'/\Cl w' O' C p fa cs (s.nF p H rd i) rd B m:=by
  rintro hs e w' ⟨he,hc⟩;have hg:s.goes p.S H rd i=(s.aK,none):=by unfold cJ.goes;rw[aA6,kJ (by rw[hs];decide)]
  refine⟨0,false,?_,hs.symm,(λy=>by cases y),?_⟩
  .rw[he,hg];rfl
  .unfold cJ.nF;rw[hg,aA6];exact hc
 have aFb:s.sends H AE=true->∀e w' (mem:Int),mem=bA (s.wH p.S H AE) p.n->(e=rT (tU #[fI AE i mem (iA (aH p.S AE (rd*p.round+p.fr i) s.aK p.nl).2) (dT (aH p.S AE (rd*p.round+p.fr i) s.aK p.nl).2) (cW (aH p.S AE (rd*p.round+p.fr i) s.aK p.nl).2),.bool true])/\∃O',aR O O' w w'/\Cl w' O' C p fa cs ⟨(s.setNode AE (s.AA AE).aI).AA,(aH p.S AE (rd*p.round+p.fr i) s.aK p.nl).1,s.aV,s.aT⟩ rd B m)->∃mem aI,e=Ending.returned (tU #[fI AE i mem (iA (s.goes p.S H rd i).2) (dT (s.goes p.S H rd i).2) (cW (s.goes p.S H rd i).2),.bool aI])/\aI=s.sends H AE/\(aI=true->mem=bA (s.wH p.S H AE) p.n)/\∃O',aR O O' w w'/\Cl w' O' C p fa cs (s.nF p H rd i) rd B m:=by
  rintro hs e w' mem uQ ⟨he,hc⟩;have hg:s.goes p.S H rd i=aH p.S AE (rd*p.round+p.fr i) s.aK p.nl:=by unfold cJ.goes;rw[aA6,kK hs];rfl
  refine⟨mem,true,?_,hs.symm,λ_=>uQ,?_⟩
  .rw[he,hg]
  .unfold cJ.nF;rw[hg,aA6];exact hc
 cases q:gA (s.AA AE).g (s.AA AE).b (s.AA AE).fz
 .have hs:s.sends H AE=false:=by unfold cJ.sends;rw[q];rfl
  cases hb:aX fa AE
  .exact(aJm h i AE mode hi hw hwn pA hn T6 q hb).mono (wC hs)
  .exact(aJn h i AE mode hi hw hwn pA hn T6 q hb).mono (wC hs)
 .cases hb:aX fa AE
  .have hmo:H.tY AE=0:=by unfold qL.tY;rw[hl,hb,kJ og]
   have hs:s.sends H AE=true:=by unfold cJ.sends;rw[q,hmo];rfl
   refine(aBf h i AE mode hi hw hwn pA hn T6 q hb C4 pF hrd hf0 d9 hnl hB uU).mono λe w' hx=>aFb hs e w' _ ?_ hx;refine jJ λj _=>?_;show _=if H.tY AE=2/\_ then _ else _;rw[hmo,kJ (λy=>by cases y.1)]
  .have hmo:H.tY AE=mode:=by unfold qL.tY;rw[hl,hb,kK rfl,hm]
   by_cases k1:mode=1
   .have hs:s.sends H AE=false:=by unfold cJ.sends;rw[q,hmo,k1];rfl
    exact(aGf h i AE mode hi hw hwn pA hn T6 q hb k1).mono (wC hs)
   .have hs:s.sends H AE=true:=by unfold cJ.sends;rw[q,hmo,kF k1];rfl
    by_cases k2:mode=2
    .refine(aDw h i AE mode hi hw hwn pA hn T6 q hb k2 C4 pF hrd hf0 d9 hnl hB uU).mono λe w' hx=>aFb hs e w' _ ?_ hx;refine jJ λj _=>?_;show _=if H.tY AE=2/\(j=AE\/j=(AE+1)%p.n)then _ else _;rw[hmo,k2];by_cases e:j=AE\/j=(AE+1)%p.n
     .rw[kK e,kK ⟨rfl,e⟩]
     .rw[kJ e,kJ (λy=>e y.2)]
    .refine(aBg h i AE mode hi hw hwn pA hn T6 q hb k1 k2 C4 pF hrd hf0 d9 hnl hB uU).mono λe w' hx=>aFb hs e w' _ ?_ hx;refine jJ λj _=>?_;show _=if H.tY AE=2/\_ then _ else _;rw[hmo,kJ (λy=>k2 y.1)]
theorem aOl{H:qL}{aI:Bool}(h:Cl w O C p fa cs (s.nF p H rd i) rd B m)(hm:xJ p (s.goes p.S H rd i).2)(hw:p.S.nd i<p.n)(hn:p.n<=16)(hB:B<=9999000)(hs:aI=s.sends H (p.S.nd i))(uQ:aI=true->mem=bA (s.wH p.S H (p.S.nd i)) p.n)(h0:∀j,j<p.n->aX l0 j=H.lost i 0 j)(h1:∀j,j<p.n->aX l1 j=H.lost i 1 j):
  Calls prog 117 #[pP C,fI (p.S.nd i:Nat) i mem (iA (s.goes p.S H rd i).2) (dT (s.goes p.S H rd i).2) (cW (s.goes p.S H rd i).2),.bool aI,.agg #[iI l0,iI l1]] w λe w'=>e=rT (tU #[])/\∃O',aR O O' w w'/\Cl w' O' C p fa cs (s.slot p.S H rd i) rd (B+5*p.n) m:=by refine(aO7 h (p.S.nd i) i mem (s.goes p.S H rd i).2 aI l0 l1 hw hn hm hB).mono ?_;rintro e w' ⟨he,O',hf,hc⟩;obtain⟨e1,e2,e3⟩:=aZ0 (p:=p) (s:=s) (rd:=rd) hw hs uQ h0 h1;exact⟨he,O',hf,hc.agree e1 (λk _=>e2 k) (λk j _ hj _=>e3 k j hj)⟩
end
end
section
section
variable{w:WA}{O:List Nat}{C:Nat}{p:aP}{fa:Int}{cs:List Int}{s:cJ}{rd:Int}{B:Nat}{m:tH}
theorem Cl.closed(h:Cl w O C p fa cs s rd B m){g gc:Nat}{cs':List Int}(hg:g<w.1.size)(hgO:g∉O)(vI:∀j,j<cs'.length->w.cell? (aA g j)=some (iI (cs'.getD j 0)))(rd':Int):
  Cl ((w.setCell (aA C 12) (iI rd')).setCell (aA C 11) (sL g cs'.length gc)) (g::O) C p fa cs' s rd' B { m with X:=g::m.X,cb:=g,fK:=gc }/\aW C C w ((w.setCell (aA C 12) (iI rd')).setCell (aA C 11) (sL g cs'.length gc)):=by
 have hT:aW C C w ((w.setCell (aA C 12) (iI rd')).setCell (aA C 11) (sL g cs'.length gc)):=((aW.refl C C w).set (p:=(aA C 12)) (.inl rfl) _).set (p:=(aA C 11)) (.inl rfl) _;refine⟨?_,hT⟩;obtain⟨Of,h⟩:=h;have hCO:C∈O:=h.sub iB C o9;have hgC:g≠C:=λe=>hgO (e▸hCO);have b:=h.base;have cC:∀j,j≠11->j≠12->((w.setCell (aA C 12) (iI rd')).setCell (aA C 11) (sL g cs'.length gc)).cell? (aA C j)=w.cell? (aA C j):=λj h1 h2=>(aB (.inr h1)).trans (aB (.inr h2));have cX:∀c j,c≠C->((w.setCell (aA C 12) (iI rd')).setCell (aA C 11) (sL g cs'.length gc)).cell? (aA c j)=w.cell? (aA c j):=λc j hc=>(aB (.inl hc)).trans (aB (.inl hc));have nX:∀c,c∈m.X->c≠C:=λc hc e=>b.nC (e▸hc);have hsz:((w.setCell (aA C 12) (iI rd')).setCell (aA C 11) (sL g cs'.length gc)).1.size=w.1.size:=oe;have same:∀i,i≠iB->Same (Of i) w ((w.setCell (aA C 12) (iI rd')).setCell (aA C 11) (sL g cs'.length gc)):=λi hi=>⟨hT.size,λc hc=>by
  have:c≠C:=λe=>h.fam.ap i iB hi c hc (by rw[h.ob,e];exact kT)
  exact hT.block c (h.fam.lt i c hc) this this⟩
 refine⟨gH Of iB (C::g::m.X),⟨?_,?_,?_,?_,?_,λj hj=>?_,λk hk=>?_,λk j hk hj hb=>?_,λk j hk hj hb=>?_⟩⟩
 .refine⟨(cC 0 og og).trans b.c0,(cC 1 og og).trans b.c1,(cC 3 og og).trans b.c3,(cC 4 og og).trans b.c4,(cC 5 og og).trans b.c5,(cC 6 og og).trans b.c6,(cC 10 og og).trans b.c10,aZ ((aB (.inr og)).trans b.c11),(aB (.inr og)).trans (aZ b.c12),(cC 13 og og).trans b.c13,(cC 14 og og).trans b.c14,λi=>bJ.trans (bJ.trans (b.z i)),by rw[hsz];exact b.lc,?_,λc hc=>?_,λj hj=>(cX g j hgC).trans (vI j hj),kT,λh0=>?_,λj hj=>(cX _ _ (nX _ b.ndX)).trans (b.nd j hj),kR _ b.ndX,λh0=>⟨(b.la h0).1,kR _ (b.la h0).2⟩,λk hk=>?_,λk hk=>⟨kR _ (b.en k hk).1,λj hj=>(cX _ _ (nX _ (b.en k hk).1)).trans ((b.en k hk).2 j hj)⟩,λk j hk hj hb=>?_⟩
  .intro hc;rcases kQ hc with e|e
   .exact hgC e.symm
   .exact b.nC e
  .rw[hsz];rcases kQ hc with e|e
   .subst e;exact hg
   .exact b.lx c e
  .obtain⟨sb,off,e,hb,hc⟩:=b.sl h0;exact⟨sb,off,e,kR _ hb,λi hi=>⟨(cX _ _ (nX _ hb)).trans (hc i hi).1,(cX _ _ (nX _ hb)).trans (hc i hi).2.1,(cX _ _ (nX _ hb)).trans (hc i hi).2.2⟩⟩
  .have hl:=nX _ (b.la od).2;obtain⟨a1,a2,a3⟩:=b.lk k hk;exact⟨(cX _ _ hl).trans a1,(cX _ _ hl).trans a2,(cX _ _ hl).trans a3⟩
  .obtain⟨a1,a2,a3⟩:=b.dn k j hk hj hb;exact⟨kR _ a1,(cX _ _ (nX _ a1)).trans a2,(cX _ _ (nX _ a1)).trans a3⟩
 .rw[eE]
 .refine⟨λi c hc=>?_,λi j hij=>?_⟩
  .rw[hsz];by_cases e:i=iB
   .exact zJe
   .rw[bG _ _ e]at hc;exact h.fam.lt i c hc
  .have key:∀i,i≠iB->Apart (C::g::m.X) (Of i):=λi hi c hc hx=>by
    rcases kQ hc with y|y
    .exact h.fam.ap iB i (Ne.symm hi) c (by rw[h.ob,y];exact kT) hx
    .rcases kQ y with z|z
     .exact hgO (z▸h.sub i c hx)
     .exact h.fam.ap iB i (Ne.symm hi) c (by rw[h.ob];exact kR _ z) hx
   by_cases e:i=iB
   .rw[e,eE,bG _ _ (λy=>hij (e.trans y.symm))];exact key j (λy=>hij (e.trans y.symm))
   .rw[bG _ _ e];by_cases e':j=iB
    .rw[e',eE];exact(key i e).symm
    .rw[bG _ _ e'];exact h.fam.ap i j hij
 .intro i c hc;by_cases e:i=iB
  .have bC1:=0;exact zJe
  .rw[bG _ _ e]at hc;exact kR _ (h.sub i c hc)
 .intro c hc;rw[hsz];rcases kQ hc with y|y
  .subst y;exact hg
  .exact h.lo c y
 .obtain⟨⟨a1,a2⟩,a3⟩:=h.node j hj;rw[bG _ _ Oc];exact⟨⟨a1.same (a2▸same (iN j) Oc),a2⟩,a3⟩
 .rw[bG _ _ Oc];exact⟨(h.snd k hk).1.keep (same (iS k) Oc),(h.snd k hk).2⟩
 .rw[bG _ _ Oc];obtain⟨a,b,q,r⟩:=h.rcv k j hk hj hb;exact⟨a,b,q.keep (same (iR k j) Oc),r⟩
 .rw[bG _ _ Oc];obtain⟨l,q,r⟩:=h.que k j hk hj hb;exact⟨l,q.keep (same (iQ k j) Oc),r⟩
theorem aSd{V wr:WA}(h:dC O V wr C p fa cs s rd B m)(H:qL)(i:Nat)(mode:Int)(hi:i<p.ns)(hl:H.lies=aX fa)(hm:H.mode (p.S.nd i)=mode)(hnd:0<=p.nd i)(hwn:p.S.nd i<p.n)(pA:p.AA=p.n)(hn:p.n<=16)(T6:1<=B)
  (C4:1<=p.round)(pF:p.round<=137438953472)(hrd:0<=rd)(hf0:0<=p.fr i)(d9:p.fr i<=1099511627776)(hnl:p.nl<=8)(hB:B<=9999990)(uU:∀k,k<p.nl->0<=p.lf k/\0<=p.lb k/\p.lb k<=1099511627776):
  Calls prog 115 #[pP C,iI i,iI mode] wr λe w'=>∃mem aI LK SQ SD,e=rT (tU #[.agg #[iI (p.S.nd i:Nat),iI i,iI mem,iI LK,iI SQ,sT SD],.bool aI])/\((LK=iA (s.goes p.S H rd i).2/\SQ=dT (s.goes p.S H rd i).2/\SD=cW (s.goes p.S H rd i).2)/\xJ p (s.goes p.S H rd i).2/\aI=s.sends H (p.S.nd i)/\(aI=true->mem=bA (s.wH p.S H (p.S.nd i)) p.n))/\dC O V w' C p fa cs (s.nF p H rd i) rd B m:=by obtain⟨O',h,c⟩:=h;have aXg:=c.msg H i;refine(aWv c H i mode hi hl hm hnd hwn pA hn T6 C4 pF hrd hf0 d9 hnl hB uU).mono ?_;rintro e w' ⟨mem,aI,he,h1,h2,O'',h3,h4⟩;exact⟨mem,aI,_,_,_,he,⟨⟨rfl,rfl,rfl⟩,aXg,h1,h2⟩,O'',h.trans h3,h4⟩
theorem aWw{V wr:WA}{H:qL}{i:Nat}{mem l0 l1 LK SQ:Int}{SD:WG}{aI:Bool}(h:dC O V wr C p fa cs (s.nF p H rd i) rd B m)(hx:(LK=iA (s.goes p.S H rd i).2/\SQ=dT (s.goes p.S H rd i).2/\SD=cW (s.goes p.S H rd i).2)/\xJ p (s.goes p.S H rd i).2/\aI=s.sends H (p.S.nd i)/\(aI=true->mem=bA (s.wH p.S H (p.S.nd i)) p.n))(hw:p.S.nd i<p.n)(hn:p.n<=16)(hB:B<=9999000)(h0:∀j,j<p.n->aX l0 j=H.lost i 0 j)(h1:∀j,j<p.n->aX l1 j=H.lost i 1 j):
  Calls prog 117 #[pP C,.agg #[iI (p.S.nd i:Nat),iI i,iI mem,iI LK,iI SQ,sT SD],.bool aI,.agg #[iI l0,iI l1]] wr λe w'=>e=rT (tU #[])/\dC O V w' C p fa cs (s.slot p.S H rd i) rd (B+5*p.n) m:=by obtain⟨O',h,c⟩:=h;obtain⟨⟨rfl,rfl,rfl⟩,hm,hs,uQ⟩:=hx;refine(aOl c hm hw hn hB hs uQ h0 h1).mono ?_;rintro e w' ⟨he,O'',h3,h4⟩;exact⟨he,O'',h.trans h3,h4⟩
end
end
section
section
variable{w:WA}{O:List Nat}{C:Nat}{p:aP}{fa:Int}{cs:List Int}{s:cJ}{rd:Int}{B:Nat}{m:tH}
def X4(w w':WA)(O:List Nat)(C:Nat)(p:aP)(fa:Int)(cs:List Int)(s:cJ)(rd:Int)(B:Nat)(m:tH)(r:cB)(e:Ending):Prop:=
 ∃O',aR O O' w w'/\((pU p fa cs r=true/\e=rT (dG 6)/\Cl w' O' C p fa cs s rd B m)\/(pU p fa cs r=false/\e=rT (dG 0)/\∃m',Cl w' O' C p fa (pV p fa cs r) (aMk p fa s rd r) (rd+1) (B+2600) m'))
theorem aOe(h:Cl w O C p fa cs s rd B m)(jM:zM p fa cs)(hrd:0<=rd)(bJr:rd<=1000000)(T6:1<=B)(hB:B<=9000000)(r:cB)(a:tL)(hr:r.In a w)(hma:∀b off,a.ma=some (aA b off)->0<r.lE.length->b∉O):
  Calls prog 83 #[pP C,r.val a] w λe w'=>X4 w w' O C p fa cs s rd B m r e:=by
 have hb:=jM.aO.bounds;have pA:p.AA=(p.n:Int):=by show p.AA=(p.AA.toNat:Int);have:=hb.n1;omega
 have sS:p.n<=16:=by have:=hb.n2;omega
 have iU:1<=p.n:=by have:=hb.n1;omega
 obtain⟨f,hf⟩:∃f:Nat,p.aG=f:=⟨p.aG.toNat,by have:=hb.f0;omega⟩;have hf3:3*f+1<=p.n:=by have:=hb.f3;omega
 have HAG:Hid (∀v,bW w v->Calls prog 113 #[pP C,r.val a] v λe w'=>bW v w'/\aFp v w' p.n (pU p fa cs r) (gQ p.n f (aX fa) p.aC p.aJ (λi=>cs.getD i 0) r.reads r.bP) e):=λv hv=>by
  have hc:=h.below hv;have b:=hc.base;have c0:=b.c0;have c1:=b.c1;have c11:=b.c11;rw[pA]at c0;rw[hf]at c1;rw[jM.len]at c11;have hag:=aG6 C m.cb p.n m.fK f fa p.aC p.aJ cs jM.len v c0 c1 b.c3 b.c4 b.c10 c11 b.ck jM.inn hf3 sS hb.j0 hb.j1 hb.d0 hb.d1 r a (hr.below hv);have e:f=p.aG.toNat:=by rw[hf];rfl
  unfold pU;rw[<-e];exact hag
 have HLO:Hid (∀v,bW w v->Calls prog 114 #[pP C,sV a.la r.nL a.lc] v λe w'=>∃T,e=rT (sL T p.ns p.ns)/\v.1.size<=T/\uZ w' T p.ns (lA r r.nL)/\bW v w'):=λv hv=>aOc C m.sa p.ns m.sF r a.la a.lc v (h.below hv).base.c6 hb.ns (hr.aTq.below hv) hr.lL;have HOF:Hid (∀(V wr:WA)(s1:cJ)(B1 j:Nat),dC O V wr C p fa cs s1 rd B1 m->bW w V->Calls prog 116 #[sV a.ma r.lE.length a.mc,iI j] wr λe w'=>e=rT (iI ((r.hap fa).mode j))/\w'=wr):=λV wr s1 B1 j hI hV=>aMl a.ma a.mc r.lE j r.lE.length rfl hr.lM wr (λh0=>by
  obtain⟨b,off,e,hl,hc⟩:=hr.lE h0
  have hn:=hma b off e h0
  have hlV:b<V.1.size:=kC hl hV.size
  exact⟨b,off,e,kC hlV hI.size,λx hx=>(hI.box hlV hn (off+x)).trans (bc hV hl (hc x hx))⟩)
 have C6:Hid (∀(O1:List Nat)(V wr:WA)(s1:cJ)(B1 i:Nat),dC O1 V wr C p fa cs s1 rd B1 m->i<p.ns->1<=B1->B1<=9999000->Calls prog 115 #[pP C,iI i,iI ((r.hap fa).mode (p.S.nd i))] wr λe w'=>∃mem aI LK SQ SD,e=rT (tU #[.agg #[iI (p.S.nd i:Nat),iI i,iI mem,iI LK,iI SQ,sT SD],.bool aI])/\((LK=iA (s1.goes p.S (r.hap fa) rd i).2/\SQ=dT (s1.goes p.S (r.hap fa) rd i).2/\SD=cW (s1.goes p.S (r.hap fa) rd i).2)/\xJ p (s1.goes p.S (r.hap fa) rd i).2/\aI=s1.sends (r.hap fa) (p.S.nd i)/\(aI=true->mem=bA (s1.wH p.S (r.hap fa) (p.S.nd i)) p.n))/\dC O1 V w' C p fa cs (s1.nF p (r.hap fa) rd i) rd B1 m):=λO1 V wr s1 B1 i hI hi h1 h2=>by
  obtain⟨⟨t1,t2⟩,t3,t4⟩:=hb.slot i hi;have:=hb.r1;exact aSd hI (r.hap fa) i _ hi rfl rfl t1 (by show(p.nd i).toNat<p.n;omega) pA sS h1 hb.r0 hb.r1 hrd t3 od hb.nl od (λk hk=>by
   obtain⟨⟨l1,_⟩,_,⟨l3,l4⟩,_⟩:=hb.link k hk
   exact⟨l1,od,od⟩)
 have HHE:Hid (∀(O1:List Nat)(V wr:WA)(s1:cJ)(B1 i:Nat)(mem LK SQ:Int)(SD:WG)(aI:Bool),dC O1 V wr C p fa cs (s1.nF p (r.hap fa) rd i) rd B1 m->i<p.ns->B1<=9999000->((LK=iA (s1.goes p.S (r.hap fa) rd i).2/\SQ=dT (s1.goes p.S (r.hap fa) rd i).2/\SD=cW (s1.goes p.S (r.hap fa) rd i).2)/\xJ p (s1.goes p.S (r.hap fa) rd i).2/\aI=s1.sends (r.hap fa) (p.S.nd i)/\(aI=true->mem=bA (s1.wH p.S (r.hap fa) (p.S.nd i)) p.n))->Calls prog 117 #[pP C,.agg #[iI (p.S.nd i:Nat),iI i,iI mem,iI LK,iI SQ,sT SD],.bool aI,.agg #[iI (lA r r.nL i 0),iI (lA r r.nL i 1)]] wr λe w'=>e=rT (tU #[])/\dC O1 V w' C p fa cs (s1.slot p.S (r.hap fa) rd i) rd (B1+80) m):=λO1 V wr s1 B1 i mem LK SQ SD aI hI hi h2 hx=>by obtain⟨⟨t1,t2⟩,t3,t4⟩:=hb.slot i hi;refine(aWw hI hx (by show(p.nd i).toNat<p.n;omega) sS h2 (λj hj=>aCl r i 0 od r.nL) (λj hj=>aCl r i 1 od r.nL)).mono ?_;rintro e w' ⟨he,dN⟩;exact⟨he,dN.more od⟩
 have HDN:Hid (∀v (O1:List Nat) (m1:tH) (s1:cJ) g gc,Cl v O1 C p fa cs s1 rd (B+80*p.ns) m1->g<v.1.size->g∉O1->(∀j,j<p.n->v.cell? (aA g j)=some (iI (gQ p.n f (aX fa) p.aC p.aJ (λi=>cs.getD i 0) r.reads r.bP j)))->∃m',Cl ((v.setCell (aA C 12) (iI (rd+1))).setCell (aA C 11) (sL g p.n gc)) (g::O1) C p fa (pV p fa cs r) s1 (rd+1) (B+2600) m'/\aW C C v ((v.setCell (aA C 12) (iI (rd+1))).setCell (aA C 11) (sL g p.n gc))):=λv O1 m1 s1 g gc hc hg hgO vI=>by
  have e:f=p.aG.toNat:=by rw[hf];rfl
  have hlen:(pV p fa cs r).length=p.n:=by simp[pV]
  have:=hc.closed (g:=g) (gc:=gc) (cs':=pV p fa cs r) hg hgO (λj hj=>by
   rw[hlen]at hj
   rw[vI j hj]
   unfold pV
   rw[<-e]
   simp[hj]) (rd+1)
  rw[hlen]at this;exact⟨_,this.1.more (by have:=hb.ns;omega),this.2⟩
 have HC0:Hid (Cl w O C p fa cs s rd B m):=h;have HSL:Hid (∀i,i<p.ns->∃b off,m.sa=some (aA b off)/\b∈m.X/\p.nd i=((p.S.nd i:Nat):Int)):=λi hi=>by obtain⟨b,off,h1,h2,_⟩:=h.base.sl od;obtain⟨⟨t1,t2⟩,_⟩:=hb.slot i hi;exact⟨b,off,h1,h2,by show p.nd i=((p.nd i).toNat:Int);omega⟩
 have HRD:Hid (0<=rd/\rd<=1000000):=⟨hrd,bJr⟩;have HNS:Hid (p.ns<=32/\B<=9000000/\1<=B/\1<=p.n):=⟨hb.ns,hB,T6,iU⟩;have HON:Hid (aMk p fa s rd r=s.mP p.S (r.hap fa) rd p.ns):=rfl;generalize hFX:gQ p.n f (aX fa) p.aC p.aJ (λi=>cs.getD i 0) r.reads r.bP=CT at HAG HDN;clear hFX;unfold cB.val at HAG⊢;have m31:=0;exact zGy
end
end
