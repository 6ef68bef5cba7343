import Derived.Test.YtknimkfdnanejaaGreatDoorZT7
import Derived.Test.YtknimkfdnanejaaGreatDoorZT9
import Derived.Test.YtknimkfdnanejaaGreatDoorZW6
namespace Go.Proofs.YtknimkfdnanejaaGreatDoor
open Go.RowKit Go.Proofs.Tryz
set_option maxRecDepth 100000
set_option maxHeartbeats 16000000
theorem aXk:∀(l:List Int)(y lo hi:Int),(lo<=y/\y<=hi)->(∀x∈l,lo<=x/\x<=hi)->(lo<=l.foldl max y/\l.foldl max y<=hi)/\lo<=l.foldl min y/\l.foldl min y<=hi:=by
 intro l
 induction l with
 |nil=>intro y lo hi hy _;exact⟨hy,hy⟩
 |cons a l ih=>
  intro y lo hi hy h
  have ha:=h a kQ
  exact⟨(ih (max y a) lo hi od (fun x hx=>h x (kO _ hx))).1,(ih (min y a) lo hi od (fun x hx=>h x (kO _ hx))).2⟩
theorem aI1(a:Option Addr)(cap:Nat)(l:List Int)(w:World)(hr:bE w a l)(hn:l.length<=1000)(eE:∀x∈l,-2199023255552<=x/\x<=2199023255552):
  Calls prog 131 #[sV a l.length cap] w fun e w'=>e=rT (iI (dA l))/\w'=w:=by
 rcases Nat.eq_zero_or_pos l.length with h0|h0
 ·have:l=[]:=List.length_eq_zero_iff.1 h0;subst this;clear hr eE hn h0;go_enter func131,ntmps131;exact C6
 obtain⟨b,off,rfl,hb,hc⟩:=hr h0;have dM:l≠[]:=by rintro rfl;simp at h0
 have hm0:∃y,l.headD 0=y/\-2199023255552<=y/\y<=2199023255552:=by
  cases l with
  |nil=>exact absurd rfl dM
  |cons y l=>exact⟨y,rfl,eE y kQ⟩
 obtain⟨y0,R8,hyb⟩:=hm0;obtain⟨⟨m1,m2⟩,m3,m4⟩:=aXk l y0 (-2199023255552) 2199023255552 hyb eE;have hM:=Tryz.slices_Max_int b off l.length cap l w h0 (kF _) od hc;have hm:=Tryz.slices_Min_int b off l.length cap l w h0 (kF _) od hc;rw[List.take_length]at hM hm;have eM:Lib.maxOf l=l.foldl max y0:=by rw[<-R8];rfl
 have em:Lib.minOf l=l.foldl min y0:=by rw[<-R8];rfl
 rw[eM]at hM;rw[em]at hm;have HS:Hid (dA l=l.foldl max y0-l.foldl min y0):=by show _=_;rw[<-R8];rfl
 rw[HS.out];have k1:((l.length:Int)==0)=false:=by simp;intro e;exact dM e
 generalize l.foldl max y0=x at *;generalize l.foldl min y0=y at *;generalize l.length=n at *;clear hc eE hr dM eM em HS R8;go_enter func131,ntmps131;go_wp2_with fail;refine hM.mono ?_;rintro e w1 ⟨rfl,rfl⟩;go_wp2_with fail;refine hm.mono ?_;rintro e w1 ⟨rfl,rfl⟩;exact C6
def oK(fa:Int)(cs:List Int)(k:Nat):List Int:=((List.range k).filter fun i=>!aW fa i).map fun i=>cs.getD i 0
theorem aFk(fa:Int)(cs:List Int)(k:Nat):oK fa cs (k+1)=oK fa cs k++(if aW fa k=true then[]else[cs.getD k 0]):=by unfold oK;exact zFg
theorem T3(fa:Int)(cs:List Int)(k:Nat):(oK fa cs k).length<=k:=by unfold oK;exact zGd
theorem tM{l:List Int}{a:Nat}(h:a<l.length):l.getD a 0∈l:=by simp[List.getD,List.getElem?_eq_getElem h]
theorem aIu{fa:Int}{cs:List Int}{k:Nat}(hk:k<=cs.length){x:Int}(h:x∈oK fa cs k):x∈cs:=by obtain⟨i,hi,rfl⟩:=List.mem_map.1 h;have:=List.mem_range.1 (List.mem_filter.1 hi).1;exact tM od
theorem aEm{w:World}{base n:Nat}{v:Value}{l:List Int}(h:w.ownsRow base 3 1 v n (l.map (Value.int .i64))):∃a cap,v=sV a l.length cap/\bE w a l/\l.length=n:=zBp
theorem Q7(C:Nat)(fa:Int)(a:Option Addr)(cap:Nat)(cs:List Int)(w:World)(c10:w.cell? (aA C 10)=some (iI fa))(c11:w.cell? (aA C 11)=some (sV a cs.length cap))(hr:bE w a cs)(hn:cs.length<=16)(eE:∀x∈cs,-274877906944<=x/\x<=274877906944):
  Calls prog 77 #[pP C] w fun e w'=>e=rT (iI (dA (dW fa cs)))/\bW w w':=zI7
theorem aGm(C:Nat)(rd:Int)(w:World)(c12:w.cell? (aA C 12)=some (iI rd)):
  Calls prog 75 #[pP C] w fun e w'=>e=rT (iI rd)/\w'=w:=by have sG:C<w.heap.size:=dY c12;go_enter func75,ntmps75;exact C6
theorem rV(C:Nat)(nodes x:Int)(w:World)(c0:w.cell? (aA C 0)=some (iI nodes)):
  Calls prog 123 #[pP C,iI x] w fun e w'=>e=rT (.bool (decide (0<=x/\x<nodes)))/\w'=w:=by
 have sG:C<w.heap.size:=dY c0;by_cases k1:0<=x
 ·by_cases k2:x<nodes
  ·rw[kD (show 0<=x/\x<nodes from⟨k1,k2⟩)];exact zH4
  ·rw[kC (show ¬(0<=x/\x<nodes)by omega)];have k2':decide (x<nodes)=false:=kC k2;clear k2;exact zH4
 ·rw[kC (show ¬(0<=x/\x<nodes)by omega)];have k2':decide (0<=x)=false:=kC k1;clear k1;exact zH4
theorem yK(C:Nat)(la:Option Addr)(nl cap:Nat)(x:Int)(w:World)(c14:w.cell? (aA C 14)=some (sV la nl cap)):
  Calls prog 121 #[pP C,iI x] w fun e w'=>e=rT (.bool (decide (0<=x/\x<nl)))/\w'=w:=by
 have sG:C<w.heap.size:=dY c14;by_cases k1:0<=x
 ·by_cases k2:x<(nl:Int)
  ·rw[kD (show 0<=x/\x<(nl:Int)from⟨k1,k2⟩)];exact zH5
  ·rw[kC (show ¬(0<=x/\x<(nl:Int))by omega)];have k2':decide (x<(nl:Int))=false:=kC k2;clear k2;exact zH5
 ·rw[kC (show ¬(0<=x/\x<(nl:Int))by omega)];have k2':decide (0<=x)=false:=kC k1;clear k1;exact zH5
section
section
variable{w:World}{O:List Nat}{C:Nat}{p:aQ}{fa:Int}{cs:List Int}{s:cA}{rd:Int}{B:Nat}{m:wV}
theorem aSs(h:Cl w O C p fa cs s rd B m)(k:Int)(d:ByteArray)(hk:¬(0<=k/\k<p.nl)):
  Calls prog 71 #[pP C,iI k,sT d] w fun e w'=>e=rT (fI 2)/\bW w w':=zLw
theorem aSr(h:Cl w O C p fa cs s rd B m)(k:Nat)(d:ByteArray)(hk:k<p.nl)(hB:B<=10000000):
  Calls prog 71 #[pP C,iI k,sT d] w fun e w'=>e=rT (fI (s.putK p k d))/\∃O',aS O O' w w'/\Cl w' O' C p fa cs (s.put p k d) rd (B+1) m:=have bGb:=0;zLw
theorem aKc(h:Cl w O C p fa cs s rd B m)(j k:Int)(hj:¬(0<=j/\j<p.nodes)):
  Calls prog 73 #[pP C,iI j,iI k] w fun e w'=>e=rT (tU #[sT ByteArray.empty,fI 2])/\bW w w':=zLz
theorem aKb(h:Cl w O C p fa cs s rd B m)(j k:Int)(hj:0<=j/\j<p.nodes)(hk:¬(0<=k/\k<p.nl)):
  Calls prog 73 #[pP C,iI j,iI k] w fun e w'=>e=rT (tU #[sT ByteArray.empty,fI 2])/\bW w w':=by have hi:=rV C p.nodes j w h.base.c0;rw[kD hj]at hi;have hl:=yK C m.la p.nl m.rJ k w h.base.c14;rw[kC hk]at hl;clear h hj hk;exact zG6
theorem aOz(h:Cl w O C p fa cs s rd B m)(j k:Nat)(hj:j<p.n)(jB:p.nodes=p.n)(hk:k<p.nl)(hb:aW (p.lt k) j=false):
  Calls prog 73 #[pP C,iI j,iI k] w fun e w'=>e=rT (tU #[sT ByteArray.empty,fI 2])/\bW w w':=zKh
theorem aOy(h:Cl w O C p fa cs s rd B m)(jB:p.nodes=p.n)(j k:Int)(hb:¬((0<=j/\j<p.nodes)/\(0<=k/\k<p.nl)/\aW (p.lt k.toNat) j.toNat=true)):
  Calls prog 73 #[pP C,iI j,iI k] w fun e w'=>e=rT (tU #[sT ByteArray.empty,fI 2])/\bW w w':=by
 by_cases h1:0<=j/\j<p.nodes
 ·by_cases h2:0<=k/\k<p.nl
  ·obtain⟨j,rfl⟩:∃n:Nat,j=n:=⟨j.toNat,od⟩;obtain⟨k,rfl⟩:∃n:Nat,k=n:=⟨k.toNat,od⟩;refine aOz h j k od jB od ?_;cases q:aW (p.lt k) j
   ·rfl
   ·exact absurd ⟨h1,h2,q⟩ hb
  ·exact aKb h j k h1 h2
 ·exact aKc h j k h1
theorem aOx(h:Cl w O C p fa cs s rd B m)(j k:Nat)(hj:j<p.n)(jB:p.nodes=p.n)(hk:k<p.nl)(hb:aW (p.lt k) j=true):
  Calls prog 73 #[pP C,iI j,iI k] w fun e w'=>e=rT (tU #[sT (recvD (s.aR k j)),fI (zH (s.aR k j))])/\∃O',aS O O' w w'/\Cl w' O' C p fa cs (s.recv k j) rd B m:=have m65:=0;zKh
end
end
section
def iJ(nd i mem:Int)(lk q:Int)(d:ByteArray):Value:=.agg #[iI nd,iI i,iI mem,iI lk,iI q,sT d]
def cA.take1(s:cA)(k j:Nat)(q:Int)(d:ByteArray):cA:=if takeB (s.aV k j) q=true then(s.fW k j q).setPort k j (if(s.aR k j).length<16 then s.aR k j++[d]else s.aR k j)else s
section
variable{w:World}{O:List Nat}{C:Nat}{p:aQ}{fa:Int}{cs:List Int}{s:cA}{rd:Int}{B:Nat}{m:wV}
theorem aKf(C:Nat)(nd i mem q:Int)(d:ByteArray)(j:Int)(w:World):
  Calls prog 172 #[pP C,iJ nd i mem (-1) q d,iI j] w fun e w'=>e=rT (tU #[])/\bW w w':=by unfold iJ;go_enter func172,ntmps172;go_wp2;exact bodyPost_ret (v:=tU #[]) O8 rfl ⟨rfl,(kX _ _).alloc (kF _) _⟩
theorem bIt(w:World)(a b c d e:Value)(f:Value)(t:TypeId):(∀(i:Nat)(v:Value),(#[a,b,c,d,e,f]:Array Value)[i]?=some v->(w.alloc (.cells #[a,b,c,d,e,f] t)).cell? (aA w.heap.size i)=some v)/\bW w (w.alloc (.cells #[a,b,c,d,e,f] t))/\w.heap.size<(w.alloc (.cells #[a,b,c,d,e,f] t)).heap.size:=by refine⟨fun i v hi=>?_,(kX _ _).alloc (kF _) _,oh⟩;exact zFz
theorem aP3(h:Cl w O C p fa cs s rd B m)(nd i mem q:Int)(d:ByteArray)(j k:Nat)(hj:j<p.n)(hk:k<p.nl)(hb:aW (p.lt k) j=false):
  Calls prog 172 #[pP C,iJ nd i mem k q d,iI j] w fun e w'=>e=rT (tU #[])/\bW w w':=zJm
theorem aW8{nw x:Int}(h:nw<=255):uK (takeB nw x) x nw<=255:=by
 unfold uK;split
 ·next q=>exact(aJ9 q).2
 ·exact h
theorem bHs(l:List ByteArray)(d:ByteArray)(hd:d.size<=40):oY (putK l.length 16 d) l d=if l.length<16 then l++[d]else l:=by
 by_cases q:l.length<16
 ·have e:putK l.length 16 d=0:=by unfold putK;rw[kI (show ¬40<d.size by omega),kI (show ¬(16:Int)<=(l.length:Int)by omega)]
  rw[e,kJ q];rfl
 ·have e:putK l.length 16 d=12:=by unfold putK;rw[kI (show ¬40<d.size by omega),kJ (show(16:Int)<=(l.length:Int)by omega)]
  rw[e,kI q];rfl
theorem aS.box{O O':List Nat}{V v:World}{b:Nat}(k:aS O O' V v)(hb:b<V.heap.size)(hO:∀c,c∈O->c<b)(i:Nat):v.cell? (aA b i)=V.cell? (aA b i):=k.cell (p:=(aA b i)) hb (fun y=>kU _ (hO b y))
theorem aP2(h:Cl w O C p fa cs s rd B m)(nd i mem q:Int)(d:ByteArray)(j k:Nat)(hj:j<p.n)(hk:k<p.nl)(hb:aW (p.lt k) j=true)(hd:d.size<=40)(hB:B<=9999990):
  Calls prog 172 #[pP C,iJ nd i mem k q d,iI j] w fun e w'=>e=rT (tU #[])/\∃O',aS O O' w w'/\Cl w' O' C p fa cs (s.take1 k j q d) rd (B+2) m:=have m34:=0;zJm
theorem aP1(h:Cl w O C p fa cs s rd B m)(nd i mem q:Int)(d:ByteArray)(j k:Nat)(hj:j<p.n)(hk:k<p.nl)(hd:d.size<=40)(hB:B<=9999990):
  Calls prog 172 #[pP C,iJ nd i mem k q d,iI j] w fun e w'=>e=rT (tU #[])/\∃O',aS O O' w w'/\Cl w' O' C p fa cs (if aW (p.lt k) j=true then s.take1 k j q d else s) rd (B+2) m:=by
 cases hb:aW (p.lt k) j
 ·refine(aP3 h nd i mem q d j k hj hk hb).mono ?_;rintro e w' ⟨he,hw⟩;exact⟨he,O,aS.of_below hw,(h.below hw).more od⟩
 ·exact aP2 h nd i mem q d j k hj hk hb hd hB
end
end
section
variable{V w' wr:World}
def gS(mk:Option (Nat×Int×ByteArray)):Int:=match mk with|none=>-1|some (k,_,_)=>k
def tY(p:aQ)(mk:Option (Nat×Int×ByteArray)):Prop:=∀k q d,mk=some (k,q,d)->k<p.nl/\d.size<=40
def cA.dT(s:cA)(p:aQ)(mk:Option (Nat×Int×ByteArray))(j:Nat):cA:=match mk with|none=>s|some (k,q,d)=>if aW (p.lt k) j=true then s.take1 k j q d else s
theorem aMy{q:Int}:takeB q q=false:=by
 by_cases h:0<=q/\q<=255
 ·rw[U0 h h.1 h.2];unfold D3;have:(q-q+255)%255=0:=od;rw[this];simp
 ·exact P6 h
theorem aJ8(s:cA)(k j:Nat)(q:Int)(d:ByteArray):(s.take1 k j q d).take1 k j q d=s.take1 k j q d:=by
 cases h:takeB (s.aV k j) q
 ·have e:s.take1 k j q d=s:=kI (by rw[h];decide);rw[e,e]
 ·have e:s.take1 k j q d=(s.fW k j q).setPort k j (if(s.aR k j).length<16 then s.aR k j++[d]else s.aR k j):=kJ h;have e2:(s.take1 k j q d).aV k j=q:=by rw[e];exact kJ ⟨rfl,rfl⟩
  have e3:takeB ((s.take1 k j q d).aV k j) q=false:=by rw[e2];exact aMy
  exact kI (by rw[e3];decide)
theorem U1(s:cA)(p:aQ)(mk:Option (Nat×Int×ByteArray))(j:Nat):(s.dT p mk j).dT p mk j=s.dT p mk j:=by
 match mk with
 |none=>rfl
 |some (k,q,d)=>
  show(if aW (p.lt k) j=true then cA.take1 (if aW (p.lt k) j=true then s.take1 k j q d else s) k j q d else(if aW (p.lt k) j=true then s.take1 k j q d else s))=(if aW (p.lt k) j=true then s.take1 k j q d else s)
  split
  ·exact aJ8 s k j q d
  ·rfl
theorem sD(s:cA)(p:aQ)(mk:Option (Nat×Int×ByteArray))(j:Nat):(s.dT p mk j).nodes=s.nodes:=by
 match mk with
 |none=>rfl
 |some (k,q,d)=>
  show(if aW (p.lt k) j=true then s.take1 k j q d else s).nodes=s.nodes
  unfold cA.take1
  split
  ·split<;>rfl
  ·rfl
section
variable{w:World}{O:List Nat}{C:Nat}{p:aQ}{fa:Int}{cs:List Int}{s:cA}{rd:Int}{B:Nat}{m:wV}
theorem bB4(h:Cl w O C p fa cs s rd B m)(nd i mem:Int)(mk:Option (Nat×Int×ByteArray))(j:Nat)(hj:j<p.n)(hm:tY p mk)(hB:B<=9999990):
  Calls prog 172 #[pP C,iJ nd i mem (gS mk) (dN mk) (dE mk),iI j] w fun e w'=>e=rT (tU #[])/\∃O',aS O O' w w'/\Cl w' O' C p fa cs (s.dT p mk j) rd (B+2) m:=by
 match mk with
 |none=>
  refine(aKf C nd i mem 0 ByteArray.empty j w).mono ?_
  rintro e w' ⟨he,hw⟩
  exact⟨he,O,aS.of_below hw,(h.below hw).more od⟩
 |some (k,q,d)=>
  obtain⟨h1,h2⟩:=hm k q d rfl
  exact aP1 h nd i mem q d j k hj h1 h2 hB
def cQ(aT:Bool)(l0 l1:Int)(j:Nat)(c:Nat):Bool:=aT&&((decide (1<=c)&& !aW l0 j)||(decide (2<=c)&& !aW l1 j))
def cA.cK(s:cA)(p:aQ)(who:Nat)(mem:Int)(mk:Option (Nat×Int×ByteArray))(aT:Bool)(l0 l1:Int):Nat->cA
 |0=>s
 |j+1=>
  if j=who then s.cK p who mem mk aT l0 l1 j else
   (if cQ aT l0 l1 j 2=true then(s.cK p who mem mk aT l0 l1 j).dT p mk j else s.cK p who mem mk aT l0 l1 j).setNode j ((s.nodes j).hears j p.n who (if cQ aT l0 l1 j 2=true then eV p.n (s.nodes j).t (tb mem) who mem else 0))
theorem tD{who:Nat}{mem:Int}{mk:Option (Nat×Int×ByteArray)}{aT:Bool}{l0 l1:Int}:∀j x,j<=x->(s.cK p who mem mk aT l0 l1 j).nodes x=s.nodes x:=by
 intro j
 induction j with
 |zero=>intro x _;rfl
 |succ j ih=>
  intro x hx
  show cA.nodes (if j=who then s.cK p who mem mk aT l0 l1 j else(if cQ aT l0 l1 j 2=true then(s.cK p who mem mk aT l0 l1 j).dT p mk j else s.cK p who mem mk aT l0 l1 j).setNode j _) x=s.nodes x
  split
  ·exact ih x od
  ·show(if x=j then _ else cA.nodes (if cQ aT l0 l1 j 2=true then(s.cK p who mem mk aT l0 l1 j).dT p mk j else s.cK p who mem mk aT l0 l1 j) x)=s.nodes x
   rw[kI od]
   split
   ·rw[sD];exact ih x od
   ·exact ih x od
theorem xA(aT:Bool)(l0 l1:Int)(j:Nat):cQ aT l0 l1 j 0=false:=by unfold cQ;simp
theorem aA2(aT:Bool)(l0 l1:Int)(j c:Nat)(hc:c<2):cQ aT l0 l1 j (c+1)=(cQ aT l0 l1 j c||(aT&& !aW (if c=0 then l0 else l1) j)):=by
 have:c=0\/c=1:=od;rcases this with rfl|rfl
 ·unfold cQ;simp
 ·unfold cQ;cases aT<;>simp
def dZ(O:List Nat)(V wr:World)(C:Nat)(p:aQ)(fa:Int)(cs:List Int)(s:cA)(rd:Int)(B:Nat)(m:wV):Prop:=∃O',aS O O' V wr/\Cl wr O' C p fa cs s rd B m
theorem dZ.box(h:dZ O V wr C p fa cs s rd B m){b:Nat}(hb:b<V.heap.size)(hn:b∉O)(i:Nat):wr.cell? (aA b i)=V.cell? (aA b i):=by obtain⟨_,h,_⟩:=h;exact h.cell (p:=(aA b i)) hb hn
theorem dZ.size(h:dZ O V wr C p fa cs s rd B m):V.heap.size<=wr.heap.size:=by obtain⟨_,h,_⟩:=h;exact h.size
theorem dZ.base(h:dZ O V wr C p fa cs s rd B m):Z0 wr C p fa cs rd m:=by obtain⟨_,_,h⟩:=h;exact h.base
theorem dZ.below(h:dZ O V wr C p fa cs s rd B m)(k:bW wr w'):dZ O V w' C p fa cs s rd B m:=zF7
theorem dZ.drawn(h:dZ O V wr C p fa cs s rd B m)(u:Nat):dZ O V (wr.drewN u) C p fa cs s rd B m:=h.below ⟨rfl,rfl,rfl,kF _,fun _ _=>rfl⟩
theorem dZ.more{B':Nat}(h:dZ O V wr C p fa cs s rd B m)(hB:B<=B'):dZ O V wr C p fa cs s rd B' m:=by obtain⟨O',h,c⟩:=h;exact⟨O',h,c.more hB⟩
theorem bHo(x y:Int)(w:World):(Instr.index 178 (.agg #[iI x,iI y]) (iI 0)).run prog w=.ok (iI x) w:=rfl
theorem bHp(x y:Int)(w:World):(Instr.index 178 (.agg #[iI x,iI y]) (iI 1)).run prog w=.ok (iI y) w:=rfl
theorem bMq(x y:Int)(c:Nat)(hc:c<2)(w:World):(Instr.index 178 (.agg #[iI x,iI y]) (iI c)).run prog w=.ok (iI (if c=0 then x else y)) w:=by
 have:c=0\/c=1:=od;rcases this with rfl|rfl
 ·exact bHo x y w
 ·exact bHp x y w
theorem bB3(h:dZ O V wr C p fa cs s rd B m)(nd i mem:Int)(mk:Option (Nat×Int×ByteArray))(j:Nat)(hj:j<p.n)(hm:tY p mk)(hB:B<=9999990):
  Calls prog 172 #[pP C,iJ nd i mem (gS mk) (dN mk) (dE mk),iI j] wr fun e w'=>e=rT (tU #[])/\dZ O V w' C p fa cs (s.dT p mk j) rd (B+2) m:=by obtain⟨O',h,c⟩:=h;refine(bB4 c nd i mem mk j hj hm hB).mono ?_;rintro e w' ⟨he,O'',h2,c2⟩;exact zHf
theorem aX3(h:dZ O V wr C p fa cs s rd B m)(j:Nat)(hj:j<p.n)(hn:p.n<=16)(gH mem:Int):
  Calls prog 171 #[.pointer (some ⟨m.P j,0,none⟩),iI gH,iI mem] wr fun e w'=>e=rT (iI (eV p.n (s.nodes j).t (tb mem) gH mem))/\dZ O V w' C p fa cs s rd B m:=by obtain⟨O',h,c⟩:=h;refine(aHy (c.nod hj).1 gH mem hn).mono ?_;rintro e w' ⟨he,q,rfl⟩;exact⟨he,dZ.drawn ⟨O',h,c⟩ q⟩
theorem bB0(h:dZ O V wr C p fa cs s rd B m)(j:Nat)(hj:j<p.n)(hn:p.n<=16)(gH bU:Int)(hB:B<=9999990):
  Calls prog 173 #[.pointer (some ⟨m.P j,0,none⟩),iI gH,iI bU] wr fun e w'=>e=rT (tU #[])/\dZ O V w' C p fa cs (s.setNode j { t:=heT j p.n (s.nodes j).fz gH bU (s.nodes j).t,g:=heG j p.n (s.nodes j).fz gH bU (s.nodes j).g,b:=heB j p.n (s.nodes j).fz gH bU (s.nodes j).b,fz:=(s.nodes j).fz }) rd (B+1) m:=by
 obtain⟨O',h,c⟩:=h;obtain⟨n1,⟨⟨n2,n3⟩,n4,n5⟩,n6⟩:=c.nod hj;refine(aLp n1 gH bU hn n2 od n4 od).mono ?_;rintro e w' ⟨he,q1,q2⟩;obtain⟨O'',h2,c2⟩:=n6 w' (B+1) { t:=heT j p.n (s.nodes j).fz gH bU (s.nodes j).t,g:=heG j p.n (s.nodes j).fz gH bU (s.nodes j).g,b:=heB j p.n (s.nodes j).fz gH bU (s.nodes j).b,fz:=(s.nodes j).fz } q1 q2 (by
  unfold qZ heG heB
  simp only[]
  constructor<;>split<;>omega) (kR _)
 exact zHf
theorem aRw(w:World)(a b c d e f x y:Value)(t u:TypeId)(V:World)(hV:V=(w.alloc (.cells #[a,b,c,d,e,f] t)).alloc (.cells #[x,y] u)):
  (∀(i:Nat)(v:Value),(#[a,b,c,d,e,f]:Array Value)[i]?=some v->V.cell? (aA w.heap.size i)=some v)/\(∀(i:Nat)(v:Value),(#[x,y]:Array Value)[i]?=some v->V.cell? (aA (w.heap.size+1) i)=some v)/\bW w V/\V.heap.size=w.heap.size+2:=by
 subst hV;refine⟨fun i v hi=>?_,fun i v hi=>?_,((kX _ _).alloc (kF _) _).alloc oh _,oh⟩
 ·rw[World.cell?_alloc_lt _ _ _ oh];exact zFz
 ·have e:w.heap.size+1=(w.alloc (.cells #[a,b,c,d,e,f] t)).heap.size:=by simp
  rw[e];exact zFz
theorem aOp(h:Cl w O C p fa cs s rd B m)(who:Nat)(i mem:Int)(mk:Option (Nat×Int×ByteArray))(aT:Bool)(l0 l1:Int)(A6:who<p.n)(hn:p.n<=16)(hm:tY p mk)(hB:B<=9999000):
  Calls prog 129 #[pP C,iJ who i mem (gS mk) (dN mk) (dE mk),.bool aT,.agg #[iI l0,iI l1]] w fun e w'=>e=rT (tU #[])/\∃O',aS O O' w w'/\Cl w' O' C p fa cs (s.cK p who mem mk aT l0 l1 p.n) rd (B+5*p.n) m:=by have HM:Hid (tY p mk):=hm;have HT:Hid (∀(V wr:World)(s:cA)(B j:Nat),dZ O V wr C p fa cs s rd B m->j<p.n->B<=9999990->Calls prog 172 #[pP C,.agg #[iI who,iI i,iI mem,iI (gS mk),iI (dN mk),sT (dE mk)],iI j] wr fun e w'=>e=rT (tU #[])/\dZ O V w' C p fa cs (s.dT p mk j) rd (B+2) m):=fun V wr s B j h hj hB=>bB3 h who i mem mk j hj hm hB;clear hm;unfold iJ;generalize gS mk=lk at *;generalize dN mk=q at *;generalize dE mk=d at *;obtain⟨V,hVe⟩:∃V,V=(w.alloc (.cells #[iI who,iI i,iI mem,iI lk,iI q,sT d] 221)).alloc (.cells #[iI l0,iI l1] 178):=⟨_,rfl⟩;obtain⟨bx,by2,yM,hsz⟩:=aRw w _ _ _ _ _ _ _ _ _ _ V hVe;exact zQa
end
end
section
variable{T j ns:Nat}
theorem I4(x:Int)(hj:j<=62):aW x j=(x%18446744073709551616).toNat.testBit j:=by obtain⟨X,hX⟩:∃X:Nat,(x%18446744073709551616).toNat=X:=⟨_,rfl⟩;rw[hX,Nat.testBit_eq_decide_div_mod_eq];exact zBe
theorem aYu(a b:Int)(hj:j<=62):aW (bits BinOp.or .i64 a b) j=(aW a j||aW b j):=by
 have e:bits BinOp.or .i64 a b=IntKind.i64.wrap (((a%18446744073709551616).toNat|||(b%18446744073709551616).toNat:Nat):Int):=by show IntKind.i64.wrap ((BitVec.ofInt 64 a|||BitVec.ofInt 64 b).toNat:Int)=_;rw[BitVec.toNat_or,tS,tS]
 have hlt:((a%18446744073709551616).toNat|||(b%18446744073709551616).toNat)<2^64:=Nat.or_lt_two_pow od od;rw[I4 _ hj,I4 _ hj,I4 _ hj,e,<-Nat.testBit_or];generalize(a%18446744073709551616).toNat|||(b%18446744073709551616).toNat=N at *;congr 1;exact zD7
def oV(r:cT):Nat->Nat->Nat->Int
 |0,_,_=>0
 |k+1,i,c=>if r.ls k=i/\r.lc k=c then bits BinOp.or .i64 (oV r k i c) (r.lt k)else oV r k i c
theorem aCq(r:cT)(i c:Nat)(hj:j<=62):∀k,aW (oV r k i c) j=(List.range k).any fun x=>decide (r.ls x=i)&&(decide (r.lc x=c)&&aW (r.lt x) j):=by
 intro k
 induction k with
 |zero=>simp[oV,aW]
 |succ k ih=>
  rw[List.range_succ,List.any_append,<-ih]
  show aW (if r.ls k=i/\r.lc k=c then _ else _) j=_
  by_cases h:r.ls k=i/\r.lc k=c
  ·rw[kJ h,aYu _ _ hj]
   simp[h.1,h.2]
  ·rw[kI h]
   by_cases h1:r.ls k=i
   ·have h2:r.lc k≠c:=fun e=>h ⟨h1,e⟩
    simp[h2]
   ·simp[h1]
structure yF(w:World)(T ns:Nat)(f:Nat->Nat->Int):Prop where
 c:∀i c,i<ns->c<2->w.cell? ⟨T,i*2+c,none⟩=some (iI (f i c))
 z:∀i,w.frozen? (aA T i)=false
 lt:T<w.heap.size
theorem yF.below{w w':World}{f:Nat->Nat->Int}(h:yF w T ns f)(k:bW w w'):yF w' T ns f:=
 ⟨fun i c hi hc=>(k.cell (p:=⟨T,i*2+c,none⟩) h.lt).trans (h.c i c hi hc),fun i=>(k.frozen (p:=(aA T i)) h.lt).trans (h.z i),kB h.lt k.size⟩
theorem yF.set{w:World}{f g:Nat->Nat->Int}(h:yF w T ns f){i c:Nat}{x:Int}(hi:i<ns)(hc:c<2)(hg:∀i' c',i'<ns->c'<2->g i' c'=if i'=i/\c'=c then x else f i' c'):yF (w.setCell ⟨T,i*2+c,none⟩ (iI x)).drew T ns g:=by
 refine⟨fun i' c' qC hc'=>?_,fun j=>bI.trans (h.z j),?_⟩
 ·show(w.setCell ⟨T,i*2+c,none⟩ (iI x)).cell? ⟨T,i'*2+c',none⟩=_;rw[hg i' c' qC hc'];by_cases e:i'=i/\c'=c
  ·obtain⟨rfl,rfl⟩:=e;rw[kJ ⟨rfl,rfl⟩];exact aY (h.c i' c' hi hc)
  ·rw[kI e];have:i'*2+c'≠i*2+c:=fun y=>e od;exact(aB (.inr this)).trans (h.c i' c' qC hc')
 ·have:=h.lt;show T<(w.setCell ⟨T,i*2+c,none⟩ (iI x)).heap.size;exact zHh
theorem yF.agree{w:World}{f g:Nat->Nat->Int}(h:yF w T ns f)(hg:∀i c,i<ns->c<2->g i c=f i c):yF w T ns g:=⟨fun i c hi hc=>by rw[hg i c hi hc];exact h.c i c hi hc,h.z,h.lt⟩
theorem Tryz.aTp:(Tryz.prog.info? 178).map (fun i=>(i.zero,i.size,i.bytes))=some (some (.agg #[iI 0,iI 0]),2,16):=by kernel_rfl
theorem bAz(w:World)(a b c:Value)(t:TypeId):(w.alloc (.cells #[a,b,c] t)).cell? (aA w.heap.size 0)=some a/\(w.alloc (.cells #[a,b,c] t)).cell? (aA w.heap.size 1)=some b/\(w.alloc (.cells #[a,b,c] t)).cell? (aA w.heap.size 2)=some c/\bW w (w.alloc (.cells #[a,b,c] t))/\(w.alloc (.cells #[a,b,c] t)).heap.size=w.heap.size+1:=
 ⟨oh,oh,oh,(kX _ _).alloc (kF _) _,oh⟩
theorem aOu(C:Nat)(sa:Option Addr)(ns oD:Nat)(r:cT)(a:Option Addr)(cap:Nat)(w:World)(c6:w.cell? (aA C 6)=some (sV sa ns oD))(sW:ns<=32)(hr:dX w a r.nL r.ls r.lc r.lt)(hL:r.nL<=9223372036854775807):
  Calls prog 126 #[pP C,sV a r.nL cap] w fun e w'=>∃T,e=rT (sL T ns ns)/\w.heap.size<=T/\yF w' T ns (oV r r.nL)/\bW w w':=by
 have sG:=dY c6;obtain⟨i0,hi,lO,mX,jX⟩:=info_parts Tryz.aTp;have hmk:=run_makeSlice (P:=prog) w 218 178 i0 _ underlying218 hi lO .i64 .i64 (ns:Int) (ns:Int) od (Int.le_refl _) Jj jw od;rw[Int.toNat_natCast,mX]at hmk;have HT0:Hid (yF (w.alloc (.cells (madeCells #[iI 0,iI 0] (ns*2)) 178)) w.heap.size ns (oV r 0)/\bW w (w.alloc (.cells (madeCells #[iI 0,iI 0] (ns*2)) 178))):=by
  refine⟨⟨fun i c hi hc=>?_,fun i=>by simp,oh⟩,(kX _ _).alloc (kF _) _⟩;have hlt:i*2+c<ns*2:=od;have:c=0\/c=1:=od;rcases this with rfl|rfl
  ·have hlt:i*2<ns*2:=by omega
   simp[madeCells,hlt,oV]
  ·simp[madeCells,hlt,oV]
 have HR:Hid (dX w a r.nL r.ls r.lc r.lt):=hr;have HLn:Hid (r.nL<=9223372036854775807):=hL;obtain⟨nL,hnL⟩:∃nL,r.nL=nL:=⟨_,rfl⟩;have HNL:Hid (r.nL=nL):=hnL;rw[hnL]at hL⊢;clear hr hnL;go_enter func126,ntmps126;go_wp2_with fail;clear hmk c6;generalize w.alloc (.cells (madeCells #[iI 0,iI 0] (ns*2)) 178)=V at *;go_loopw[17] (fun t wr=>∃k:Nat,k<=nL/\t=iI k/\Hid (yF wr w.heap.size ns (oV r k)/\bW w wr)) (fun t _=>nL-(intOf t).toNat);case atStart=>exact⟨0,kH _,rfl,HT0⟩
 case round=>
  obtain⟨k,hk,rfl,HI⟩:=hrel;by_cases hlt:k<nL
  ·obtain⟨b,off,rfl,hb,hc⟩:=HR.out (by rw[HNL.out];omega);obtain⟨x0,x1,x2⟩:=hc k (by rw[HNL.out];exact hlt);have y0:=(HI.out.2.cell (p:=⟨b,off+k*3,none⟩) hb).trans x0;have y1:=(HI.out.2.cell (p:=⟨b,off+k*3+1,none⟩) hb).trans x1;have y2:=(HI.out.2.cell (p:=⟨b,off+k*3+2,none⟩) hb).trans x2;have hbw:b<wr.heap.size:=kB hb HI.out.2.size;have kk:(k:Int)<(nL:Int):=od;obtain⟨q0,q1,q2,qB,qS⟩:=bAz wr (iI (r.ls k)) (iI (r.lc k)) (iI (r.lt k)) 145;clear x0 x1 x2 hc;by_cases eE:(0<=r.ls k/\r.ls k<ns)/\0<=r.lc k/\r.lc k<2
   ·obtain⟨⟨i1,i2⟩,i3,i4⟩:=eE;obtain⟨i,hie⟩:∃i:Nat,r.ls k=i:=⟨(r.ls k).toNat,od⟩;obtain⟨c,hce⟩:∃c:Nat,r.lc k=c:=⟨(r.lc k).toNat,od⟩;have HIC:Hid (r.ls k=i/\r.lc k=c):=⟨hie,hce⟩;rw[hie]at i1 i2 q0 q1 q2 qB qS y0;rw[hce]at i3 i4 q0 q1 q2 qB qS y1;have ii:i<ns:=od;have ic:c<2:=od;have hTw:w.heap.size<wr.heap.size:=HI.out.1.lt;obtain⟨LT,hLT⟩:∃LT,r.lt k=LT:=⟨_,rfl⟩;rw[hLT]at q0 q1 q2 qB qS y2;have g:=(qB.cell (p:=⟨w.heap.size,i*2+c,none⟩) hTw).trans (HI.out.1.c i c ii ic);have gz:=(qB.frozen (p:=⟨w.heap.size,i*2+c,none⟩) hTw).trans (HI.out.1.z (i*2+c));have uO:Hid _:=qB;have hV1:wr.heap.size<(wr.alloc (.cells #[iI i,iI c,iI LT] 145)).heap.size:=jc;have hV2:w.heap.size<(wr.alloc (.cells #[iI i,iI c,iI LT] 145)).heap.size:=jc;have dM:wr.heap.size≠w.heap.size:=od;have aTf:w.heap.size≠wr.heap.size:=od;obtain⟨FV,hFV⟩:∃FV,oV r k i c=FV:=⟨_,rfl⟩;rw[hFV]at g;obtain⟨OV,hOV⟩:∃OV,bits BinOp.or .i64 FV LT=OV:=⟨_,rfl⟩;have HL2:Hid (oV r (k+1) i c=OV):=by show(if r.ls k=i/\r.lc k=c then _ else _)=_;rw[kJ HIC.out,hFV,hLT,hOV]
    clear hie hce hLT hFV qB qS;go_wp2_with fail;clear y0 y1 y2;generalize(wr.alloc (.cells #[iI i,iI c,iI LT] 145))=V1 at *;have HN:Hid (yF (V1.setCell ⟨w.heap.size,i*2+c,none⟩ (iI OV)).drew w.heap.size ns (oV r (k+1))/\bW w (V1.setCell ⟨w.heap.size,i*2+c,none⟩ (iI OV)).drew):=by
     have hT:aU w.heap.size w.heap.size V1 (V1.setCell ⟨w.heap.size,i*2+c,none⟩ (iI OV)).drew:=((aU.refl _ _ _).set (p:=⟨w.heap.size,i*2+c,none⟩) (.inl rfl) _).trans (aU.drawn 1);have dB:bW w V1:=HI.out.2.trans (uO.out.mono HI.out.2.size);refine⟨(HI.out.1.below uO.out).set ii ic (fun i' c' _ _=>?_),dB.trans (hT.below dB.size (kF _) (kF _))⟩;by_cases e:i'=i/\c'=c
     ·rw[kJ e,e.1,e.2];exact HL2.out
     ·rw[kI e];show(if r.ls k=i'/\r.lc k=c' then _ else _)=_;rw[kI];rintro⟨e1,e2⟩;rw[HIC.out.1]at e1;rw[HIC.out.2]at e2;exact e ⟨od,od⟩
    clear HI uO HL2;go_region;go_wp2;go_roundw;case rel=>exact⟨k+1,od,ow,HN⟩
    case measure=>simp[intOf];omega
   ·have HN:Hid (∀v,bW wr v->yF v w.heap.size ns (oV r (k+1))/\bW w v):=fun v hv=>by refine⟨(HI.out.1.below hv).agree fun i c h1 h2=>?_,HI.out.2.trans (hv.mono HI.out.2.size)⟩;show(if r.ls k=i/\r.lc k=c then _ else _)=_;rw[kI];rintro⟨e1,e2⟩;exact eE ⟨⟨od,od⟩,od,od⟩
    have uO:Hid _:=HN.out _ qB;clear HI q0 q1 q2 qB qS HN;generalize r.ls k=LS at *;generalize r.lc k=LC at *;generalize r.lt k=LT at *;by_cases k1:0<=LS
    ·by_cases k2:LS<(ns:Int)
     ·by_cases k3:0<=LC
      ·have k4:decide (LC<2)=false:=kC od;clear eE;exact zCr
      ·have k4:decide (0<=LC)=false:=kC k3;clear eE k3;exact zCr
     ·have k4:decide (LS<(ns:Int))=false:=kC k2;clear eE k2;exact zCr
    ·have k4:decide (0<=LS)=false:=kC k1;clear eE k1;exact zCr
  ·have M2:k=nL:=by omega
   have HD:Hid (yF wr w.heap.size ns (oV r nL)/\bW w wr):=by rw[<-M2];exact HI
   have kk:decide (k<nL)=false:=kC od;clear M2 hlt HI;go_wp2;go_ret;exact⟨_,rfl,kF _,HD.out.1,HD.out.2⟩
end
section
variable{k who:Nat}
section
variable{w:World}{O:List Nat}{C:Nat}{p:aQ}{fa:Int}{cs:List Int}{s:cA}{rd:Int}{B:Nat}{m:wV}
theorem aOt(h:Cl w O C p fa cs s rd B m)(F:Nat)(fr:Int)(xU:1<=p.round)(pE:p.round<=137438953472)(W8:1099511627776/p.round<rd):
  Calls prog 170 #[pP C,pP F,iI fr] w fun e w'=>e=rT (tU #[])/\bW w w':=zNb
theorem aOs(h:Cl w O C p fa cs s rd B m)(F:Nat)(fr:Int)(xU:1<=p.round)(pE:p.round<=137438953472)(hnf:rd<=1099511627776/p.round)(hM0:0<=rd*p.round)(hM1:rd*p.round<=1099511627776)(hf0:0<=fr)(zY:fr<=1099511627776)(bT:1099511627776<rd*p.round+fr):
  Calls prog 170 #[pP C,pP F,iI fr] w fun e w'=>e=rT (tU #[])/\bW w w':=zJ0
theorem bB2{V wr:World}(h:dZ O V wr C p fa cs s rd B m)(k:Nat)(hk:k<p.nl)(t:Int)(ht0:0<=t)(ht1:t<=1099511627776)(wT:0<=p.lb k)(dB:p.lb k<=1099511627776)(hB:B<=9999990):
  Calls prog 214 #[.pointer (some ⟨m.S k,0,none⟩),iI t] wr fun e w'=>e=rT (tU #[.agg #[iI (jZ (fU (s.aN k).all.length (s.aN k).aP t (s.aN k).now (s.aN k).last (p.lb k)) (s.aN k).aP),sT (jY (fU (s.aN k).all.length (s.aN k).aP t (s.aN k).now (s.aN k).last (p.lb k)) (s.aN k).all (s.aN k).aP)],fI (fU (s.aN k).all.length (s.aN k).aP t (s.aN k).now (s.aN k).last (p.lb k))])/\dZ O V w' C p fa cs (s.tH k ((s.aN k).asked t (p.lb k))) rd B m:=by
 obtain⟨O',h,c⟩:=h;obtain⟨OS,s1,⟨s2,⟨s3,s4⟩,s5⟩,s6⟩:=c.sdr hk;refine(aZp s1 t od s3 s4 wT dB).mono ?_;rintro e w' ⟨he,OS',q1,q2⟩;obtain⟨O'',h2,c2⟩:=s6 w' OS' B ((s.aN k).asked t (p.lb k)) q1 q2 ⟨s2,(by
  show 0<=pF _ t (s.aN k).last/\pF _ t (s.aN k).last<=1099511627776
  unfold pF
  split<;>omega),s5⟩ (kF _)
 exact zHf
theorem qK{P:oT}{t:Int}{L:Nat->jH}(h:P.lf k≠who):aK P who t L (k+1)=aK P who t L k:=by show(if _ then _ else _)=_;rw[kJ (.inr h)]
theorem rX{P:oT}{t:Int}{L:Nat->jH}(h:P.lf k=who)(hn:(aK P who t L k).2=none):aK P who t L (k+1)=(fun j=>if j=k then((aK P who t L k).1 k).asked t (P.lb k)else(aK P who t L k).1 j,
   if fU ((aK P who t L k).1 k).all.length ((aK P who t L k).1 k).aP t ((aK P who t L k).1 k).now ((aK P who t L k).1 k).last (P.lb k)=0 then some (k,mH ((aK P who t L k).1 k).aP,((aK P who t L k).1 k).all.getD ((aK P who t L k).1 k).aP ByteArray.empty)else none):=by
 show(if _ then _ else _)=_;rw[kI];rintro(q|q)
 ·rw[hn]at q;cases q
 ·exact q h
theorem S2{P:oT}{t:Int}{L:Nat->jH}(h:(aK P who t L k).2.isSome=true):∀n,k<=n->aK P who t L n=aK P who t L k:=by
 intro n hn
 induction n with
 |zero=>
      obtain rfl:k=0:=od
      rfl
 |succ n ih=>
  rcases Nat.lt_or_ge k (n+1)with q|q
  ·have e:=ih od
   show(if _ then _ else _)=_
   rw[kJ (.inl (by rw[e];exact h)),e]
  ·obtain rfl:k=n+1:=by omega
   rfl
def aC8(O:List Nat)(F:Nat)(V wr:World)(C:Nat)(p:aQ)(fa:Int)(cs:List Int)(s:cA)(rd:Int)(B:Nat)(m:wV):Prop:=∃O',aS (F::O) (F::O') V wr/\F∉O'/\Cl wr O' C p fa cs s rd B m
theorem bEm(w:World)(a b:Value)(t:TypeId):(w.alloc (.cells #[a,b] t)).cell? (aA w.heap.size 0)=some a/\(w.alloc (.cells #[a,b] t)).cell? (aA w.heap.size 1)=some b/\bW w (w.alloc (.cells #[a,b] t))/\(w.alloc (.cells #[a,b] t)).heap.size=w.heap.size+1:=
 ⟨oh,oh,(kX _ _).alloc (kF _) _,oh⟩
theorem dZ.store3{F:Nat}{V v:World}(h:dZ O V v C p fa cs s rd B m)(hF:F<V.heap.size)(hFO:F∉O)(hx:∃a b c,v.cell? (aA F 3)=some a/\v.cell? (aA F 4)=some b/\v.cell? (aA F 5)=some c)(x y z:Value):
  aC8 O F V (((v.setCell (aA F 3) x).setCell (aA F 4) y).setCell (aA F 5) z) C p fa cs s rd B m/\(∀i,i<3->(((v.setCell (aA F 3) x).setCell (aA F 4) y).setCell (aA F 5) z).cell? (aA F i)=v.cell? (aA F i))/\(((v.setCell (aA F 3) x).setCell (aA F 4) y).setCell (aA F 5) z).cell? (aA F 3)=some x/\(((v.setCell (aA F 3) x).setCell (aA F 4) y).setCell (aA F 5) z).cell? (aA F 4)=some y/\(((v.setCell (aA F 3) x).setCell (aA F 4) y).setCell (aA F 5) z).cell? (aA F 5)=some z:=by
 obtain⟨O',h1,h2⟩:=h;obtain⟨a,b,c,x3,x4,x5⟩:=hx;have hn:F∉O':=fun y=>by
  rcases h1.fresh F y with q|q
  ·exact hFO q
  ·omega
 have hT:aU F F v (((v.setCell (aA F 3) x).setCell (aA F 4) y).setCell (aA F 5) z):=(((aU.refl F F v).set (p:=(aA F 3)) (.inl rfl) x).set (p:=(aA F 4)) (.inl rfl) y).set (p:=(aA F 5)) (.inl rfl) z;refine⟨⟨O',(h1.under F).trans (aS.jD hT kQ kQ),hn,h2.keep ⟨hT.size,fun c hc=>hT.block c (h2.lt c hc) (fun e=>hn (e▸hc)) (fun e=>hn (e▸hc))⟩⟩,fun i hi=>?_,?_,?_,?_⟩
 ·have n3:i≠3:=by omega
  have n4:i≠4:=od;have n5:i≠5:=od;exact(aB (.inr n5)).trans ((aB (.inr n4)).trans (aB (.inr n3)))
 ·exact(aB (.inr oe)).trans ((aB (.inr oe)).trans (aY x3))
 ·exact(aB (.inr oe)).trans (aY ((aB (.inr oe)).trans x4))
 ·exact aY ((aB (.inr oe)).trans ((aB (.inr oe)).trans x5))
theorem aSl(h:Cl w O C p fa cs s rd B m)(F who:Nat)(i mem fr t:Int)(hF:F<w.heap.size)(hFO:F∉O)(hz:∀i,w.frozen? ⟨F,i,none⟩=false)
  (f0:w.cell? ⟨F,0,none⟩=some (.int .i64 who))(f1:w.cell? ⟨F,1,none⟩=some (.int .i64 i))(f2:w.cell? ⟨F,2,none⟩=some (.int .i64 mem))(f3:w.cell? ⟨F,3,none⟩=some (.int .i64 (-1)))(f4:w.cell? ⟨F,4,none⟩=some (.int .i64 0))(f5:w.cell? ⟨F,5,none⟩=some (.string ByteArray.empty))
  (xU:1<=p.round)(pE:p.round<=137438953472)(hnf:rd<=1099511627776/p.round)(hM0:0<=rd*p.round)(hM1:rd*p.round<=1099511627776)(hf0:0<=fr)(zY:fr<=1099511627776)(ht:rd*p.round+fr=t)(bT:t<=1099511627776)(qO:p.nl<=8)(hB:B<=9999990)
  (qF:∀k,k<p.nl->0<=p.lf k/\0<=p.lb k/\p.lb k<=1099511627776):
  Calls prog 170 #[.pointer (some ⟨C,0,none⟩),.pointer (some ⟨F,0,none⟩),.int .i64 fr] w fun e w'=>e=.returned (.tuple #[])/\aC8 O F w w' C p fa cs ⟨s.nodes,(aK p.S who t s.aN p.nl).1,s.aV,s.aR⟩ rd B m/\
   (w'.cell? ⟨F,0,none⟩=some (.int .i64 who)/\w'.cell? ⟨F,1,none⟩=some (.int .i64 i)/\w'.cell? ⟨F,2,none⟩=some (.int .i64 mem)/\w'.cell? ⟨F,3,none⟩=some (.int .i64 (gS (aK p.S who t s.aN p.nl).2))/\w'.cell? ⟨F,4,none⟩=some (.int .i64 (dN (aK p.S who t s.aN p.nl).2))/\w'.cell? ⟨F,5,none⟩=some (.string (dE (aK p.S who t s.aN p.nl).2))):=have m48:=0;zJ0
end
end
section
variable{R n who:Nat}{V v v':World}
theorem aOk{S:jH}{t bag:Int}(ht:1099511627776<t):S.asked t bag=S/\fU S.all.length S.aP t S.now S.last bag=2:=by
 have e:fU S.all.length S.aP t S.now S.last bag=2:=by unfold fU;rw[kJ od]
 refine⟨?_,e⟩;unfold jH.asked;rw[e];rfl
theorem aHi{P:oT}{t:Int}{L:Nat->jH}(ht:1099511627776<t):∀n,aK P who t L n=(L,none):=by
 intro n
 induction n with
 |zero=>rfl
 |succ n ih=>
  by_cases h:P.lf n=who
  ·rw[rX h (by rw[ih]),ih]
   obtain⟨e1,e2⟩:=aOk (S:=L n) (bag:=P.lb n) ht
   show(_,if fU (L n).all.length (L n).aP t (L n).now (L n).last (P.lb n)=0 then _ else _)=_
   rw[e2,kI oe]
   congr 1
   funext j
   by_cases q:j=n
   ·subst q;rw[kJ rfl];exact e1
   ·rw[kI q]
  ·rw[qK h,ih]
theorem aYp{rd R:Int}(h1:1<=R)(h:1099511627776/R<rd):1099511627776<rd*R:=by
 have:=Int.lt_mul_ediv_self_add (x:=1099511627776) (k:=R) od;have h3:R*(1099511627776/R)+R<=R*rd:=by have:R*(1099511627776/R+1)<=R*rd:=Int.mul_le_mul_of_nonneg_left od od;rw[Int.mul_add,Int.mul_one]at this;exact this
 rw[Int.mul_comm rd R];omega
theorem aU7{rd R:Int}(h1:1<=R)(h0:0<=rd)(h:rd<=1099511627776/R):0<=rd*R/\rd*R<=1099511627776:=by refine⟨Int.mul_nonneg h0 od,?_⟩;have h3:R*rd<=R*(1099511627776/R):=Int.mul_le_mul_of_nonneg_left h od;have:=Int.mul_ediv_self_le (x:=1099511627776) (k:=R) od;rw[Int.mul_comm rd R];omega
theorem i7{k:Nat}(hn:n<=16)(hk:k<n):((2:Int)^k)=aZ (fun j=>decide (j=k)) n:=by
 have h:=or_bit (fun _=>false) hn hk;have e:aZ (fun _=>false) n=0:=by
  clear h hk hn
  induction n with
  |zero=>rfl
  |succ n ih=>simp only[aZ];rw[ih];rfl
 have p2:=wL (k:=k) od;rw[e,jE,show(0:Int)=((0:Nat):Int)from rfl,aAd 0 (2^k) oe od,Nat.zero_or]at h;rw[jE,h];refine gF fun j _=>?_;by_cases q:j=k
 ·rw[kJ q,kD q]
 ·rw[kI q,kC q]
theorem L4(a b:Nat->Bool)(hn:n<=16):bits BinOp.xor .i64 (aZ a n) (aZ b n)=aZ (fun j=>a j !=b j) n:=by
 obtain⟨x,hx,hxl,hxb⟩:=M8 a n;obtain⟨y,hy,hyl,hyb⟩:=M8 b n;have p1:=wL hn;rw[hx,hy,aH7 x y od od];refine aHa fun j=>?_;rw[Nat.testBit_xor,hxb,hyb];by_cases q:j<n
 ·rw[kD q];simp
 ·rw[kC q];rfl
theorem aNe(t:Nat->Bool){nx:Nat}(hn:n<=16)(h1:who<n)(h2:nx<n):bits BinOp.xor .i64 (aZ t n) (bits BinOp.or .i64 (2^who) (2^nx))=aZ (fun j=>if j=who\/j=nx then !t j else t j) n:=by
 rw[i7 hn h1,or_bit _ hn h2,L4 _ _ hn];refine gF fun j _=>?_;by_cases q2:j=nx
 ·simp[q2]
 ·by_cases q1:j=who
  ·simp[q1]
  ·simp[q1,q2]
section
variable{w:World}{O:List Nat}{C:Nat}{p:aQ}{fa:Int}{cs:List Int}{s:cA}{rd:Int}{B:Nat}{m:wV}
theorem aCd(h:Cl w O C p fa cs s rd B m)(F who:Nat)(i mem fr:Int)(hF:F<w.heap.size)(hFO:F∉O)(hz:∀i,w.frozen? (aA F i)=false)
  (f0:w.cell? (aA F 0)=some (iI who))(f1:w.cell? (aA F 1)=some (iI i))(f2:w.cell? (aA F 2)=some (iI mem))(f3:w.cell? (aA F 3)=some (iI (-1)))(f4:w.cell? (aA F 4)=some (iI 0))(f5:w.cell? (aA F 5)=some (sT ByteArray.empty))
  (xU:1<=p.round)(pE:p.round<=137438953472)(sH:0<=rd)(hf0:0<=fr)(zY:fr<=1099511627776)(qO:p.nl<=8)(hB:B<=9999990)
  (qF:∀k,k<p.nl->0<=p.lf k/\0<=p.lb k/\p.lb k<=1099511627776):
  Calls prog 170 #[pP C,pP F,iI fr] w fun e w'=>e=rT (tU #[])/\aC8 O F w w' C p fa cs ⟨s.nodes,(aK p.S who (rd*p.round+fr) s.aN p.nl).1,s.aV,s.aR⟩ rd B m/\
   (w'.cell? (aA F 0)=some (iI who)/\w'.cell? (aA F 1)=some (iI i)/\w'.cell? (aA F 2)=some (iI mem)/\w'.cell? (aA F 3)=some (iI (gS (aK p.S who (rd*p.round+fr) s.aN p.nl).2))/\w'.cell? (aA F 4)=some (iI (dN (aK p.S who (rd*p.round+fr) s.aN p.nl).2))/\w'.cell? (aA F 5)=some (sT (dE (aK p.S who (rd*p.round+fr) s.aN p.nl).2))):=by
 have far:1099511627776<rd*p.round+fr->∀w',bW w w'->aC8 O F w w' C p fa cs ⟨s.nodes,(aK p.S who (rd*p.round+fr) s.aN p.nl).1,s.aV,s.aR⟩ rd B m/\
   (w'.cell? (aA F 0)=some (iI who)/\w'.cell? (aA F 1)=some (iI i)/\w'.cell? (aA F 2)=some (iI mem)/\w'.cell? (aA F 3)=some (iI (gS (aK p.S who (rd*p.round+fr) s.aN p.nl).2))/\w'.cell? (aA F 4)=some (iI (dN (aK p.S who (rd*p.round+fr) s.aN p.nl).2))/\w'.cell? (aA F 5)=some (sT (dE (aK p.S who (rd*p.round+fr) s.aN p.nl).2))):=fun W8 w' hb=>by
  have cc:=fun j=>hb.cell (p:=(aA F j)) hF
  rw[aHi W8]
  exact⟨⟨O,aS.of_below hb,hFO,h.below hb⟩,(cc 0).trans f0,(cc 1).trans f1,(cc 2).trans f2,(cc 3).trans f3,(cc 4).trans f4,(cc 5).trans f5⟩
 by_cases k1:1099511627776/p.round<rd
 ·refine(aOt h F fr xU pE k1).mono ?_;rintro e w' ⟨he,hb⟩;exact⟨he,far (by have:=aYp xU k1;omega) w' hb⟩
 ·obtain⟨m0,m1⟩:=aU7 (R:=p.round) xU sH od;by_cases k2:1099511627776<rd*p.round+fr
  ·refine(aOs h F fr xU pE od m0 m1 hf0 zY k2).mono ?_;rintro e w' ⟨he,hb⟩;exact⟨he,far k2 w' hb⟩
  ·exact aSl h F who i mem fr (rd*p.round+fr) hF hFO hz f0 f1 f2 f3 f4 f5 xU pE od m0 m1 hf0 zY rfl od qO hB qF
theorem aNm{wr:World}(h:dZ O V wr C p fa cs s rd B m)(j:Nat)(hj:j<p.n)(hB:1<=B):
  Calls prog 169 #[.pointer (some ⟨m.P j,0,none⟩)] wr fun e w'=>e=rT (tU #[iI (if eZ (s.nodes j).g (s.nodes j).b (s.nodes j).fz=true then aZ (s.nodes j).t p.n else 0),.bool (eZ (s.nodes j).g (s.nodes j).b (s.nodes j).fz)])/\dZ O V w' C p fa cs (s.setNode j (s.nodes j).aT) rd B m:=by obtain⟨O',h,c⟩:=h;obtain⟨n1,⟨⟨n2,n3⟩,n4,n5⟩,n6⟩:=c.nod hj;refine(aLs n1).mono ?_;exact zC7
theorem X8(w:World)(xs:Array Value)(t:TypeId):(∀(i:Nat)(k:Value),xs[i]?=some k->(w.alloc (.cells xs t)).cell? (aA w.heap.size i)=some k)/\(∀i,(w.alloc (.cells xs t)).frozen? (aA w.heap.size i)=false)/\bW w (w.alloc (.cells xs t))/\(w.alloc (.cells xs t)).heap.size=w.heap.size+1:=
 ⟨fun i k hi=>by simpa using hi,fun i=>by simp,(kX _ _).alloc (kF _) _,oh⟩
theorem G5{a0 a1 a2 a3 a4 a5:Value}(x0:v.cell? (aA R 0)=some a0)(x1:v.cell? (aA R 1)=some a1)(x2:v.cell? (aA R 2)=some a2)(x3:v.cell? (aA R 3)=some a3)(x4:v.cell? (aA R 4)=some a4)(x5:v.cell? (aA R 5)=some a5)(a b c d e f:Value):
  ((((((((v.setCell (aA R 0) a).setCell (aA R 1) b).setCell (aA R 2) c).setCell (aA R 3) d).setCell (aA R 4) e)).setCell (aA R 5) f).cell? (aA R 0)=some a/\(((((((v.setCell (aA R 0) a).setCell (aA R 1) b).setCell (aA R 2) c).setCell (aA R 3) d).setCell (aA R 4) e)).setCell (aA R 5) f).cell? (aA R 1)=some b/\(((((((v.setCell (aA R 0) a).setCell (aA R 1) b).setCell (aA R 2) c).setCell (aA R 3) d).setCell (aA R 4) e)).setCell (aA R 5) f).cell? (aA R 2)=some c/\(((((((v.setCell (aA R 0) a).setCell (aA R 1) b).setCell (aA R 2) c).setCell (aA R 3) d).setCell (aA R 4) e)).setCell (aA R 5) f).cell? (aA R 3)=some d/\(((((((v.setCell (aA R 0) a).setCell (aA R 1) b).setCell (aA R 2) c).setCell (aA R 3) d).setCell (aA R 4) e)).setCell (aA R 5) f).cell? (aA R 4)=some e/\(((((((v.setCell (aA R 0) a).setCell (aA R 1) b).setCell (aA R 2) c).setCell (aA R 3) d).setCell (aA R 4) e)).setCell (aA R 5) f).cell? (aA R 5)=some f)/\aU R R v (((((((v.setCell (aA R 0) a).setCell (aA R 1) b).setCell (aA R 2) c).setCell (aA R 3) d).setCell (aA R 4) e)).setCell (aA R 5) f):=
 ⟨⟨(aB (.inr oe)).trans ((aB (.inr oe)).trans ((aB (.inr oe)).trans ((aB (.inr oe)).trans ((aB (.inr oe)).trans (aY (x0)))))),(aB (.inr oe)).trans ((aB (.inr oe)).trans ((aB (.inr oe)).trans ((aB (.inr oe)).trans (aY ((aB (.inr oe)).trans (x1)))))),(aB (.inr oe)).trans ((aB (.inr oe)).trans ((aB (.inr oe)).trans (aY ((aB (.inr oe)).trans ((aB (.inr oe)).trans (x2)))))),(aB (.inr oe)).trans ((aB (.inr oe)).trans (aY ((aB (.inr oe)).trans ((aB (.inr oe)).trans ((aB (.inr oe)).trans (x3)))))),(aB (.inr oe)).trans (aY ((aB (.inr oe)).trans ((aB (.inr oe)).trans ((aB (.inr oe)).trans ((aB (.inr oe)).trans (x4)))))),aY ((aB (.inr oe)).trans ((aB (.inr oe)).trans ((aB (.inr oe)).trans ((aB (.inr oe)).trans ((aB (.inr oe)).trans (x5))))))⟩,((((((aU.refl R R v).set (p:=(aA R 0)) (.inl rfl) a).set (p:=(aA R 1)) (.inl rfl) b).set (p:=(aA R 2)) (.inl rfl) c).set (p:=(aA R 3)) (.inl rfl) d).set (p:=(aA R 4)) (.inl rfl) e).set (p:=(aA R 5)) (.inl rfl) f⟩
theorem dZ.beside(h:dZ O V v C p fa cs s rd B m)(hT:aU R R v v')(hR:R<V.heap.size)(hRO:R∉O){w:World}(h0:aS O O w V)(hw:w.heap.size<=R):∃O',aS O O' w v'/\Cl v' O' C p fa cs s rd B m:=by
 obtain⟨O',h1,h2⟩:=h;have hn:R∉O':=fun y=>by
  rcases h1.fresh R y with q|q
  ·exact hRO q
  ·omega
 have h3:=h0.trans h1;refine⟨O',⟨hT.os.trans h3.os,hT.tape.trans h3.tape,hT.output.trans h3.output,kG h3.size hT.size,fun c hc hnc=>(hT.block c (kB hc h3.size) od od).trans (h3.block c hc hnc),h3.fresh⟩,h2.keep ⟨hT.size,fun c hc=>hT.block c (h2.lt c hc) (fun e=>hn (e▸hc)) (fun e=>hn (e▸hc))⟩⟩
theorem aS.aside{O2:List Nat}(h:aS O O2 w v)(hT:aU R R v v')(hR:w.heap.size<=R):aS O O2 w v':=
 ⟨hT.os.trans h.os,hT.tape.trans h.tape,hT.output.trans h.output,kG h.size hT.size,fun c hc hnc=>(hT.block c (kB hc h.size) od od).trans (h.block c hc hnc),h.fresh⟩
theorem Cl.aside(h:Cl w O C p fa cs s rd B m)(hT:aU R R w v')(hR:R∉O):Cl v' O C p fa cs s rd B m:=
 h.keep ⟨hT.size,fun c hc=>hT.block c (h.lt c hc) (fun e=>hR (e▸hc)) (fun e=>hR (e▸hc))⟩
theorem aJe(w:World)(a b c d e f x y z a' b' c' d' e' f':Value)(t u v:TypeId)(V:World)(hV:V=(((w.alloc (.cells #[a,b,c,d,e,f] t)).alloc (.cells #[x,y,z] u)).alloc (.cells #[a',b',c',d',e',f'] v))):
  (∀(i:Nat)(k:Value),(#[a,b,c,d,e,f]:Array Value)[i]?=some k->V.cell? ⟨w.heap.size,i,none⟩=some k)/\(∀(i:Nat)(k:Value),(#[x,y,z]:Array Value)[i]?=some k->V.cell? ⟨w.heap.size+1,i,none⟩=some k)/\(∀(i:Nat)(k:Value),(#[a',b',c',d',e',f']:Array Value)[i]?=some k->V.cell? ⟨w.heap.size+1+1,i,none⟩=some k)/\(∀i,V.frozen? ⟨w.heap.size,i,none⟩=false)/\(∀i,V.frozen? ⟨w.heap.size+1+1,i,none⟩=false)/\Below w.heap.size w V/\V.heap.size=w.heap.size+3:=by
 subst hV;obtain⟨p1,p2,p3,p4⟩:=X8 w #[a,b,c,d,e,f] t;generalize w.alloc (.cells #[a,b,c,d,e,f] t)=W1 at *;obtain⟨q1,q2,q3,q4⟩:=X8 W1 #[x,y,z] u;rw[p4]at q1 q2 q4;generalize W1.alloc (.cells #[x,y,z] u)=W2 at *;obtain⟨r1,r2,r3,r4⟩:=X8 W2 #[a',b',c',d',e',f'] v;rw[q4]at r1 r2 r4;generalize W2.alloc (.cells #[a',b',c',d',e',f'] v)=W3 at *;have k1:∀i,W3.cell? ⟨w.heap.size,i,none⟩=W1.cell? ⟨w.heap.size,i,none⟩:=fun i=>(r3.cell (p:=⟨w.heap.size,i,none⟩) jy).trans (q3.cell (p:=⟨w.heap.size,i,none⟩) jy);have k2:∀i,W3.cell? ⟨w.heap.size+1,i,none⟩=W2.cell? ⟨w.heap.size+1,i,none⟩:=fun i=>r3.cell (p:=⟨w.heap.size+1,i,none⟩) (by show w.heap.size+1<_;omega);refine⟨fun i k hi=>(k1 i).trans (p1 i k hi),fun i k hi=>(k2 i).trans (q1 i k hi),r1,fun i=>?_,r2,?_,r4⟩
 ·exact(r3.frozen (p:=⟨w.heap.size,i,none⟩) jy).trans ((q3.frozen (p:=⟨w.heap.size,i,none⟩) jy).trans (p2 i))
 ·exact(p3.trans (q3.mono od)).trans (r3.mono od)
theorem aKd(h:Cl w O C p fa cs s rd B m)(i who:Nat)(mode:Int)(hi:i<p.ns)(hw:p.nd i=who)(H7:who<p.n)(jB:p.nodes=p.n)(hn:p.n<=16)(wS:1<=B)(hs:eZ (s.nodes who).g (s.nodes who).b (s.nodes who).fz=false)(hb:aW fa who=false):
  Calls prog 127 #[pP C,iI i,iI mode] w fun e w'=>e=rT (tU #[iJ who i 0 (-1) 0 ByteArray.empty,.bool false])/\∃O',aS O O' w w'/\Cl w' O' C p fa cs (s.setNode who (s.nodes who).aT) rd B m:=zGj
theorem aKe(h:Cl w O C p fa cs s rd B m)(i who:Nat)(mode:Int)(hi:i<p.ns)(hw:p.nd i=who)(H7:who<p.n)(jB:p.nodes=p.n)(hn:p.n<=16)(wS:1<=B)(hs:eZ (s.nodes who).g (s.nodes who).b (s.nodes who).fz=false)(hb:aW fa who=true):
  Calls prog 127 #[pP C,iI i,iI mode] w fun e w'=>e=rT (tU #[iJ who i 0 (-1) 0 ByteArray.empty,.bool false])/\∃O',aS O O' w w'/\Cl w' O' C p fa cs (s.setNode who (s.nodes who).aT) rd B m:=zGj
theorem aGn(h:Cl w O C p fa cs s rd B m)(i who:Nat)(mode:Int)(hi:i<p.ns)(hw:p.nd i=who)(H7:who<p.n)(jB:p.nodes=p.n)(hn:p.n<=16)(wS:1<=B)(hs:eZ (s.nodes who).g (s.nodes who).b (s.nodes who).fz=true)(hb:aW fa who=true)(hm:mode=1):
  Calls prog 127 #[pP C,iI i,iI mode] w fun e w'=>e=rT (tU #[iJ who i 0 (-1) 0 ByteArray.empty,.bool false])/\∃O',aS O O' w w'/\Cl w' O' C p fa cs (s.setNode who (s.nodes who).aT) rd B m:=zOu
theorem aBf(h:Cl w O C p fa cs s rd B m)(i who:Nat)(mode:Int)(hi:i<p.ns)(hw:p.nd i=who)(H7:who<p.n)(jB:p.nodes=p.n)(hn:p.n<=16)(wS:1<=B)(hs:eZ (s.nodes who).g (s.nodes who).b (s.nodes who).fz=true)(hb:aW fa who=false)(xU:1<=p.round)(pE:p.round<=137438953472)(sH:0<=rd)(hf0:0<=p.fr i)(zY:p.fr i<=1099511627776)(qO:p.nl<=8)(hB:B<=9999990)(qF:∀k,k<p.nl->0<=p.lf k/\0<=p.lb k/\p.lb k<=1099511627776):
  Calls prog 127 #[pP C,iI i,iI mode] w fun e w'=>e=rT (tU #[iJ who i (aZ (s.nodes who).t p.n) (gS (aK p.S who (rd*p.round+p.fr i) s.aN p.nl).2) (dN (aK p.S who (rd*p.round+p.fr i) s.aN p.nl).2) (dE (aK p.S who (rd*p.round+p.fr i) s.aN p.nl).2),.bool true])/\∃O',aS O O' w w'/\Cl w' O' C p fa cs ⟨(s.setNode who (s.nodes who).aT).nodes,(aK p.S who (rd*p.round+p.fr i) s.aN p.nl).1,s.aV,s.aR⟩ rd B m:=zIt
theorem aBg(h:Cl w O C p fa cs s rd B m)(i who:Nat)(mode:Int)(hi:i<p.ns)(hw:p.nd i=who)(H7:who<p.n)(jB:p.nodes=p.n)(hn:p.n<=16)(wS:1<=B)(hs:eZ (s.nodes who).g (s.nodes who).b (s.nodes who).fz=true)(hb:aW fa who=true)(hm1:mode≠1)(hm2:mode≠2)(xU:1<=p.round)(pE:p.round<=137438953472)(sH:0<=rd)(hf0:0<=p.fr i)(zY:p.fr i<=1099511627776)(qO:p.nl<=8)(hB:B<=9999990)(qF:∀k,k<p.nl->0<=p.lf k/\0<=p.lb k/\p.lb k<=1099511627776):
  Calls prog 127 #[pP C,iI i,iI mode] w fun e w'=>e=rT (tU #[iJ who i (aZ (s.nodes who).t p.n) (gS (aK p.S who (rd*p.round+p.fr i) s.aN p.nl).2) (dN (aK p.S who (rd*p.round+p.fr i) s.aN p.nl).2) (dE (aK p.S who (rd*p.round+p.fr i) s.aN p.nl).2),.bool true])/\∃O',aS O O' w w'/\Cl w' O' C p fa cs ⟨(s.setNode who (s.nodes who).aT).nodes,(aK p.S who (rd*p.round+p.fr i) s.aN p.nl).1,s.aV,s.aR⟩ rd B m:=have m5:=0;zIt
end
end
section
section
variable{w:World}{O:List Nat}{C:Nat}{p:aQ}{fa:Int}{cs:List Int}{s:cA}{rd:Int}{B:Nat}{m:wV}
theorem aDw(h:Cl w O C p fa cs s rd B m)(i who:Nat)(mode:Int)(hi:i<p.ns)(hw:p.nd i=who)(H7:who<p.n)(jB:p.nodes=p.n)(hn:p.n<=16)(wS:1<=B)(hs:eZ (s.nodes who).g (s.nodes who).b (s.nodes who).fz=true)(hb:aW fa who=true)(hm:mode=2)(xU:1<=p.round)(pE:p.round<=137438953472)(sH:0<=rd)(hf0:0<=p.fr i)(zY:p.fr i<=1099511627776)(qO:p.nl<=8)(hB:B<=9999990)(qF:∀k,k<p.nl->0<=p.lf k/\0<=p.lb k/\p.lb k<=1099511627776):
  Calls prog 127 #[pP C,iI i,iI mode] w fun e w'=>e=rT (tU #[iJ who i (aZ (fun j=>if j=who\/j=(who+1)%p.n then !(s.nodes who).t j else(s.nodes who).t j) p.n) (gS (aK p.S who (rd*p.round+p.fr i) s.aN p.nl).2) (dN (aK p.S who (rd*p.round+p.fr i) s.aN p.nl).2) (dE (aK p.S who (rd*p.round+p.fr i) s.aN p.nl).2),.bool true])/\∃O',aS O O' w w'/\Cl w' O' C p fa cs ⟨(s.setNode who (s.nodes who).aT).nodes,(aK p.S who (rd*p.round+p.fr i) s.aN p.nl).1,s.aV,s.aR⟩ rd B m:=zM0
end
end
section
variable{i who:Nat}{l0 l1 mem t:Int}
theorem aHg{P:oT}{L:Nat->jH}:∀n j,((aK P who t L n).1 j).all=(L j).all:=by
 intro n
 induction n with
 |zero=>intro j;rfl
 |succ n ih=>
  intro j
  by_cases h:P.lf n=who
  ·cases q:(aK P who t L n).2 with
   |none=>
    rw[rX h q]
    show(if j=n then((aK P who t L n).1 n).asked t (P.lb n)else(aK P who t L n).1 j).all=_
    split
    ·next e=>subst e;exact ih j
    ·exact ih j
   |some x=>
    have e:aK P who t L (n+1)=aK P who t L n:=by
     show(if _ then _ else _)=_
     rw[kJ (.inl (by rw[q];rfl))]
    rw[e]
    exact ih j
  ·rw[qK h]
   exact ih j
theorem aHh{P:oT}{L:Nat->jH}:∀n k q d,(aK P who t L n).2=some (k,q,d)->∃x,d=(L k).all.getD x ByteArray.empty:=by
 intro n
 induction n with
 |zero=>intro k q d h;cases h
 |succ n ih=>
  intro k q d hm
  by_cases h:P.lf n=who
  ·cases y:(aK P who t L n).2 with
   |none=>
    rw[rX h y]at hm
    by_cases hK:fU ((aK P who t L n).1 n).all.length ((aK P who t L n).1 n).aP t ((aK P who t L n).1 n).now ((aK P who t L n).1 n).last (P.lb n)=0
    ·simp only[kJ hK]at hm
     injection hm with hm
     injection hm with h1 h2
     injection h2 with h2 h3
     subst h1
     exact⟨_,by rw[<-h3,aHg]⟩
    ·simp only[kI hK]at hm
     cases hm
   |some x=>
    have e:aK P who t L (n+1)=aK P who t L n:=by
     show(if _ then _ else _)=_
     rw[kJ (.inl (by rw[y];rfl))]
    rw[e]at hm
    exact ih k q d hm
  ·rw[qK h]at hm
   exact ih k q d hm
section
variable{w:World}{O:List Nat}{C:Nat}{p:aQ}{fa:Int}{cs:List Int}{s:cA}{rd:Int}{B:Nat}{m:wV}
theorem Cl.msg(h:Cl w O C p fa cs s rd B m)(H:lJ)(i:Nat):tY p (s.goes p.S H rd i).2:=zBr
def uL(s:cA)(p:aQ)(mk:Option (Nat×Int×ByteArray))(k j:Nat):Bool:=match mk with|none=>false|some (k',q,_)=>decide (k'=k)&&(aW (p.lt k) j&&takeB (s.aV k j) q)
theorem aFt(s:cA)(p:aQ)(mk:Option (Nat×Int×ByteArray))(j k x:Nat):(s.dT p mk j).aV k x=if x=j/\uL s p mk k j=true then dN mk else s.aV k x:=by
 match mk with
 |none=>
  show s.aV k x=_
  rw[kI (fun e=>by cases e.2)]
 |some (k',q,d)=>
  show(if aW (p.lt k') j=true then s.take1 k' j q d else s).aV k x=if x=j/\(decide (k'=k)&&(aW (p.lt k) j&&takeB (s.aV k j) q))=true then q else s.aV k x
  by_cases hb:aW (p.lt k') j=true
  ·rw[kJ hb]
   unfold cA.take1
   by_cases hT:takeB (s.aV k' j) q=true
   ·rw[kJ hT]
    show(if k=k'/\x=j then q else s.aV k x)=_
    by_cases e:k=k'/\x=j
    ·obtain⟨rfl,rfl⟩:=e
     rw[kJ ⟨rfl,rfl⟩,kJ ⟨rfl,by rw[hb,hT];simp⟩]
    ·rw[kI e,kI]
     rintro⟨e1,e2⟩
     rw[Bool.and_eq_true,decide_eq_true_eq]at e2
     exact e ⟨e2.1.symm,e1⟩
   ·rw[kI hT,kI]
    rintro⟨_,e2⟩
    rw[Bool.and_eq_true,decide_eq_true_eq,Bool.and_eq_true]at e2
    obtain⟨rfl,_,e3⟩:=e2
    exact hT e3
  ·rw[kI hb,kI]
   rintro⟨_,e2⟩
   rw[Bool.and_eq_true,decide_eq_true_eq,Bool.and_eq_true]at e2
   obtain⟨rfl,e3,_⟩:=e2
   exact hb e3
theorem aJb(s:cA)(p:aQ)(mk:Option (Nat×Int×ByteArray))(j k x:Nat):(s.dT p mk j).aR k x=if x=j/\uL s p mk k j=true/\(s.aR k j).length<16 then s.aR k j++[dE mk]else s.aR k x:=by
 match mk with
 |none=>
  show s.aR k x=_
  rw[kI (fun e=>by cases e.2.1)]
 |some (k',q,d)=>
  show(if aW (p.lt k') j=true then s.take1 k' j q d else s).aR k x=if x=j/\(decide (k'=k)&&(aW (p.lt k) j&&takeB (s.aV k j) q))=true/\(s.aR k j).length<16 then s.aR k j++[d]else s.aR k x
  by_cases hb:aW (p.lt k') j=true
  ·rw[kJ hb]
   unfold cA.take1
   by_cases hT:takeB (s.aV k' j) q=true
   ·rw[kJ hT]
    show(if k=k'/\x=j then(if(s.aR k' j).length<16 then s.aR k' j++[d]else s.aR k' j)else s.aR k x)=_
    by_cases e:k=k'/\x=j
    ·obtain⟨rfl,rfl⟩:=e
     rw[kJ ⟨rfl,rfl⟩]
     by_cases hl:(s.aR k x).length<16
     ·rw[kJ hl,kJ ⟨rfl,by rw[hb,hT];simp,hl⟩]
     ·rw[kI hl,kI (fun y=>hl y.2.2)]
    ·rw[kI e,kI]
     rintro⟨e1,e2,_⟩
     rw[Bool.and_eq_true,decide_eq_true_eq]at e2
     exact e ⟨e2.1.symm,e1⟩
   ·rw[kI hT,kI]
    rintro⟨_,e2,_⟩
    rw[Bool.and_eq_true,decide_eq_true_eq,Bool.and_eq_true]at e2
    obtain⟨rfl,_,e3⟩:=e2
    exact hT e3
  ·rw[kI hb,kI]
   rintro⟨_,e2,_⟩
   rw[Bool.and_eq_true,decide_eq_true_eq,Bool.and_eq_true]at e2
   obtain⟨rfl,e3,_⟩:=e2
   exact hb e3
theorem aJa(s:cA)(p:aQ)(mk:Option (Nat×Int×ByteArray))(j:Nat):(s.dT p mk j).aN=s.aN:=by
 match mk with
 |none=>rfl
 |some (k,q,d)=>
  show(if aW (p.lt k) j=true then s.take1 k j q d else s).aN=s.aN
  unfold cA.take1
  split
  ·split<;>rfl
  ·rfl
theorem aB1{s s':cA}{p:aQ}{mk:Option (Nat×Int×ByteArray)}{k j:Nat}(h:s.aV k j=s'.aV k j):uL s p mk k j=uL s' p mk k j:=by
 match mk with
 |none=>rfl
 |some (k',q,d)=>
  show(decide (k'=k)&&(aW (p.lt k) j&&takeB (s.aV k j) q))=(decide (k'=k)&&(aW (p.lt k) j&&takeB (s'.aV k j) q))
  rw[h]
theorem aCj(s:cA)(p:aQ)(who:Nat)(mem:Int)(mk:Option (Nat×Int×ByteArray))(aT:Bool)(l0 l1:Int):∀J,
  (∀x,(s.cK p who mem mk aT l0 l1 J).nodes x=if x<J/\x≠who then(s.nodes x).hears x p.n who (if cQ aT l0 l1 x 2=true then eV p.n (s.nodes x).t (tb mem) who mem else 0)else s.nodes x)/\
  (s.cK p who mem mk aT l0 l1 J).aN=s.aN/\
  (∀k x,(s.cK p who mem mk aT l0 l1 J).aV k x=if(x<J/\x≠who/\cQ aT l0 l1 x 2=true)/\uL s p mk k x=true then dN mk else s.aV k x)/\
  ∀k x,(s.cK p who mem mk aT l0 l1 J).aR k x=if(x<J/\x≠who/\cQ aT l0 l1 x 2=true)/\uL s p mk k x=true/\(s.aR k x).length<16 then s.aR k x++[dE mk]else s.aR k x:=by
 intro J
 induction J with
 |zero=>
  refine⟨fun x=>?_,rfl,fun k x=>?_,fun k x=>?_⟩
  ·rw[kI (fun e=>kT _ e.1)];rfl
  ·rw[kI (fun e=>kT _ e.1.1)];rfl
  ·rw[kI (fun e=>kT _ e.1.1)];rfl
 |succ J ih=>
  obtain⟨ih1,ih2,ih3,ih4⟩:=ih
  have hn:(s.cK p who mem mk aT l0 l1 J).nodes J=s.nodes J:=tD J J (kF _)
  generalize hR:s.cK p who mem mk aT l0 l1 J=R at *
  have xE:s.cK p who mem mk aT l0 l1 (J+1)=if J=who then R else(if cQ aT l0 l1 J 2=true then R.dT p mk J else R).setNode J ((s.nodes J).hears J p.n who (if cQ aT l0 l1 J 2=true then eV p.n (s.nodes J).t (tb mem) who mem else 0)):=by
   rw[<-hR];rfl
  by_cases hw:J=who
  ·rw[xE,kJ hw]
   refine⟨fun x=>?_,ih2,fun k x=>?_,fun k x=>?_⟩
   ·rw[ih1]
    by_cases q:x<J/\x≠who
    ·rw[kJ q,kJ (show x<J+1/\x≠who from⟨od,q.2⟩)]
    ·rw[kI q,kI (show ¬(x<J+1/\x≠who)by omega)]
   ·rw[ih3]
    by_cases q:(x<J/\x≠who/\cQ aT l0 l1 x 2=true)/\uL s p mk k x=true
    ·rw[kJ q,kJ ⟨⟨od,q.1.2⟩,q.2⟩]
    ·rw[kI q,kI]
     rintro⟨⟨e1,e2,e3⟩,e4⟩
     exact q ⟨⟨od,e2,e3⟩,e4⟩
   ·rw[ih4]
    by_cases q:(x<J/\x≠who/\cQ aT l0 l1 x 2=true)/\uL s p mk k x=true/\(s.aR k x).length<16
    ·rw[kJ q,kJ ⟨⟨od,q.1.2⟩,q.2⟩]
    ·rw[kI q,kI]
     rintro⟨⟨e1,e2,e3⟩,e4⟩
     exact q ⟨⟨od,e2,e3⟩,e4⟩
  ·rw[xE,kI hw]
   have hNJ:∀k,R.aV k J=s.aV k J:=fun k=>by rw[ih3,kI (fun e=>kU _ e.1.1)]
   have hPJ:∀k,R.aR k J=s.aR k J:=fun k=>by rw[ih4,kI (fun e=>kU _ e.1.1)]
   refine⟨fun x=>?_,?_,fun k x=>?_,fun k x=>?_⟩
   ·show(if x=J then _ else(if cQ aT l0 l1 J 2=true then R.dT p mk J else R).nodes x)=_
    by_cases e:x=J
    ·subst e
     rw[kJ rfl,kJ (show x<x+1/\x≠who from⟨od,hw⟩)]
    ·rw[kI e]
     have e2:(if cQ aT l0 l1 J 2=true then R.dT p mk J else R).nodes x=R.nodes x:=by
      split
      ·rw[sD]
      ·rfl
     rw[e2,ih1]
     by_cases q:x<J/\x≠who
     ·rw[kJ q,kJ (show x<J+1/\x≠who from⟨od,q.2⟩)]
     ·rw[kI q,kI (show ¬(x<J+1/\x≠who)by omega)]
   ·show(if cQ aT l0 l1 J 2=true then R.dT p mk J else R).aN=s.aN
    split
    ·rw[aJa];exact ih2
    ·exact ih2
   ·show(if cQ aT l0 l1 J 2=true then R.dT p mk J else R).aV k x=_
    by_cases hc:cQ aT l0 l1 J 2=true
    ·rw[kJ hc,aFt,aB1 (hNJ k)]
     by_cases e:x=J
     ·subst e
      by_cases t:uL s p mk k x=true
      ·rw[kJ ⟨rfl,t⟩,kJ ⟨⟨od,hw,hc⟩,t⟩]
      ·rw[kI (fun y=>t y.2),kI (fun y=>t y.2)]
       exact hNJ k
     ·rw[kI (fun y=>e y.1),ih3]
      by_cases q:(x<J/\x≠who/\cQ aT l0 l1 x 2=true)/\uL s p mk k x=true
      ·rw[kJ q,kJ ⟨⟨od,q.1.2⟩,q.2⟩]
      ·rw[kI q,kI]
       rintro⟨⟨e1,e2,e3⟩,e4⟩
       exact q ⟨⟨od,e2,e3⟩,e4⟩
    ·rw[kI hc,ih3]
     by_cases q:(x<J/\x≠who/\cQ aT l0 l1 x 2=true)/\uL s p mk k x=true
     ·rw[kJ q,kJ ⟨⟨od,q.1.2⟩,q.2⟩]
     ·rw[kI q,kI]
      rintro⟨⟨e1,e2,e3⟩,e4⟩
      by_cases e:x=J
      ·subst e;exact hc e3
      ·exact q ⟨⟨od,e2,e3⟩,e4⟩
   ·show(if cQ aT l0 l1 J 2=true then R.dT p mk J else R).aR k x=_
    by_cases hc:cQ aT l0 l1 J 2=true
    ·rw[kJ hc,aJb,aB1 (hNJ k),hPJ k]
     by_cases e:x=J
     ·subst e
      by_cases t:uL s p mk k x=true/\(s.aR k x).length<16
      ·rw[kJ ⟨rfl,t⟩,kJ ⟨⟨od,hw,hc⟩,t⟩]
      ·rw[kI (fun y=>t y.2),kI (fun y=>t y.2)]
       exact hPJ k
     ·rw[kI (fun y=>e y.1),ih4]
      by_cases q:(x<J/\x≠who/\cQ aT l0 l1 x 2=true)/\uL s p mk k x=true/\(s.aR k x).length<16
      ·rw[kJ q,kJ ⟨⟨od,q.1.2⟩,q.2⟩]
      ·rw[kI q,kI]
       rintro⟨⟨e1,e2,e3⟩,e4⟩
       exact q ⟨⟨od,e2,e3⟩,e4⟩
    ·rw[kI hc,ih4]
     by_cases q:(x<J/\x≠who/\cQ aT l0 l1 x 2=true)/\uL s p mk k x=true/\(s.aR k x).length<16
     ·rw[kJ q,kJ ⟨⟨od,q.1.2⟩,q.2⟩]
     ·rw[kI q,kI]
      rintro⟨⟨e1,e2,e3⟩,e4⟩
      by_cases e:x=J
      ·subst e;exact hc e3
      ·exact q ⟨⟨od,e2,e3⟩,e4⟩
theorem aTs{n:Nat}{t s':Nat->Bool}(hw:who<n):eV n t (tb (aZ s' n)) who (aZ s' n)=if F4 n who s' t=true then 1 else 2:=by
 have hb:=mO s' n;have e:F4 n who (tb (aZ s' n)) t=F4 n who s' t:=by
  rw[Bool.eq_iff_iff,qI,qI];constructor
  ·rintro⟨h1,h2⟩;refine⟨?_,fun j hj dM=>?_⟩
   ·rw[oF,kD hw]at h1;simpa using h1
   ·have:=h2 j hj dM;rw[oF,kD hj]at this;exact zHh
  ·rintro⟨h1,h2⟩;refine⟨?_,fun j hj dM=>?_⟩
   ·rw[oF,kD hw];simpa using h1
   ·rw[oF,kD hj];simpa using h2 j hj dM
 unfold eV;rw[Int.toNat_natCast,e];by_cases h:F4 n who s' t=true
 ·rw[kJ h,kJ ⟨⟨od,od⟩,hb.1,hb.2,h⟩]
 ·rw[kI h,kI (fun y=>h y.2.2.2)]
def cA.mT(s:cA)(p:aQ)(H:lJ)(rd:Int)(i:Nat):cA:=⟨(s.setNode (p.S.nd i) (s.nodes (p.S.nd i)).aT).nodes,(s.goes p.S H rd i).1,s.aV,s.aR⟩
theorem aFr{H:lJ}{aT:Bool}(hw:p.S.nd i<p.n)(hs:aT=s.sends H (p.S.nd i))(J3:aT=true->mem=aZ (s.pH p.S H (p.S.nd i)) p.n)(h0:∀j,j<p.n->aW l0 j=H.lost i 0 j)(h1:∀j,j<p.n->aW l1 j=H.lost i 1 j):
  (∀x,x<p.n->(s.slot p.S H rd i).nodes x=((s.mT p H rd i).cK p (p.S.nd i) mem (s.goes p.S H rd i).2 aT l0 l1 p.n).nodes x)/\(∀k,(s.slot p.S H rd i).aN k=((s.mT p H rd i).cK p (p.S.nd i) mem (s.goes p.S H rd i).2 aT l0 l1 p.n).aN k)/\
  ∀k x,x<p.n->(s.slot p.S H rd i).aV k x=((s.mT p H rd i).cK p (p.S.nd i) mem (s.goes p.S H rd i).2 aT l0 l1 p.n).aV k x/\(s.slot p.S H rd i).aR k x=((s.mT p H rd i).cK p (p.S.nd i) mem (s.goes p.S H rd i).2 aT l0 l1 p.n).aR k x:=by
 obtain⟨q1,q2,q3,q4⟩:=aCj (s.mT p H rd i) p (p.S.nd i) mem (s.goes p.S H rd i).2 aT l0 l1 p.n;have bAa:∀x,x<p.n->cQ aT l0 l1 x 2=s.comes H i (p.S.nd i) x:=fun x hx=>by unfold cQ cA.comes;rw[hs,h0 x hx,h1 x hx];simp
 have aNv:∀k x,x<p.n->x≠p.S.nd i->(cQ aT l0 l1 x 2=true/\uL (s.mT p H rd i) p (s.goes p.S H rd i).2 k x=true↔s.sE p.S H i (s.goes p.S H rd i).2 k x=true):=fun k x hx dM=>by
  rw[bAa x hx]
  cases hg:(s.goes p.S H rd i).2 with
  |none=>exact⟨(fun e=>by cases e.2),(fun e=>by cases e)⟩
  |some v=>
   obtain⟨k',q,d⟩:=v
   show _/\(decide (k'=k)&&(aW (p.lt k) x&&takeB (s.aV k x) q))=true↔(decide (k'=k)&&(aW (p.lt k) x&&(s.comes H i (p.S.nd i) x&&(decide (x<p.n/\x≠p.S.nd i)&&takeB (s.aV k x) q))))=true
   rw[kD (show x<p.n/\x≠p.S.nd i from⟨hx,dM⟩)]
   simp only[Bool.and_eq_true,Bool.true_and]
   constructor
   ·rintro⟨a,b,c,d⟩;exact⟨b,c,a,d⟩
   ·rintro⟨b,c,a,d⟩;exact⟨a,b,c,d⟩
 have bK:∀k,s.sE p.S H i (s.goes p.S H rd i).2 k (p.S.nd i)=false:=fun k=>by
  cases hg:(s.goes p.S H rd i).2 with
  |none=>rfl
  |some v=>
   obtain⟨k',q,d⟩:=v
   show(decide (k'=k)&&(aW (p.lt k) (p.S.nd i)&&(s.comes H i (p.S.nd i) (p.S.nd i)&&(decide (p.S.nd i<p.n/\p.S.nd i≠p.S.nd i)&&takeB (s.aV k (p.S.nd i)) q))))=false
   rw[kC (show ¬(p.S.nd i<p.n/\p.S.nd i≠p.S.nd i)from fun y=>y.2 rfl)]
   simp
 refine⟨fun x hx=>?_,fun k=>?_,fun k x hx=>⟨?_,?_⟩⟩
 ·rw[q1 x];show(if x=p.S.nd i then(s.nodes x).aT else(s.nodes x).hears x p.n (p.S.nd i) (s.what p.S H i (p.S.nd i) x))=_;by_cases e:x=p.S.nd i
  ·rw[kJ e,kI (fun y=>y.2 e),e];show _=(if p.S.nd i=p.S.nd i then _ else _);rw[kJ rfl]
  ·have hsn:(s.mT p H rd i).nodes x=s.nodes x:=kI e;rw[kI e,kJ ⟨hx,e⟩,hsn];congr 1;unfold cA.what;rw[bAa x hx];by_cases hc:s.comes H i (p.S.nd i) x=true
   ·rw[kJ hc,kJ hc];have yQ:aT=true:=by unfold cA.comes at hc;rw[Bool.and_eq_true]at hc;rw[hs];exact hc.1
    rw[J3 yQ,aTs hw];rfl
   ·rw[kI hc,kI hc]
 ·rw[q2];rfl
 ·rw[q3 k x];show(if s.sE p.S H i (s.goes p.S H rd i).2 k x=true then dN (s.goes p.S H rd i).2 else s.aV k x)=_;by_cases e:x=p.S.nd i
  ·rw[e,bK k,kI oe,kI (fun y=>y.1.2.1 rfl)];rfl
  ·by_cases t:s.sE p.S H i (s.goes p.S H rd i).2 k x=true
   ·obtain⟨a,b⟩:=(aNv k x hx e).2 t;rw[kJ t,kJ ⟨⟨hx,e,a⟩,b⟩]
   ·rw[kI t,kI (fun y=>t ((aNv k x hx e).1 ⟨y.1.2.2,y.2⟩))];rfl
 ·rw[q4 k x];show(if s.sE p.S H i (s.goes p.S H rd i).2 k x=true/\(s.aR k x).length<16 then s.aR k x++[dE (s.goes p.S H rd i).2]else s.aR k x)=_;by_cases e:x=p.S.nd i
  ·rw[e,kI (fun y=>by rw[bK k]at y;cases y.1),kI (fun y=>y.1.2.1 rfl)];rfl
  ·by_cases t:s.sE p.S H i (s.goes p.S H rd i).2 k x=true/\(s.aR k x).length<16
   ·obtain⟨a,b⟩:=(aNv k x hx e).2 t.1;rw[kJ t,kJ ⟨⟨hx,e,a⟩,b,t.2⟩];rfl
   ·rw[kI t,kI (fun y=>t ⟨(aNv k x hx e).1 ⟨y.1.2.2,y.2.1⟩,y.2.2⟩)];rfl
theorem aX4(h:Cl w O C p fa cs s rd B m)(H:lJ)(i:Nat)(mode:Int)(hi:i<p.ns)(hl:H.lies=aW fa)(hm:H.mode (p.S.nd i)=mode)(hnd:0<=p.nd i)(H7:p.S.nd i<p.n)(jB:p.nodes=p.n)(hn:p.n<=16)(wS:1<=B)
  (xU:1<=p.round)(pE:p.round<=137438953472)(sH:0<=rd)(hf0:0<=p.fr i)(zY:p.fr i<=1099511627776)(qO:p.nl<=8)(hB:B<=9999990)(qF:∀k,k<p.nl->0<=p.lf k/\0<=p.lb k/\p.lb k<=1099511627776):
  Calls prog 127 #[pP C,iI i,iI mode] w fun e w'=>∃mem aT,e=rT (tU #[iJ (p.S.nd i:Nat) i mem (gS (s.goes p.S H rd i).2) (dN (s.goes p.S H rd i).2) (dE (s.goes p.S H rd i).2),.bool aT])/\aT=s.sends H (p.S.nd i)/\(aT=true->mem=aZ (s.pH p.S H (p.S.nd i)) p.n)/\∃O',aS O O' w w'/\Cl w' O' C p fa cs (s.mT p H rd i) rd B m:=by
 have hw:p.nd i=((p.S.nd i:Nat):Int):=by show p.nd i=((p.nd i).toNat:Int);omega
 generalize A6:p.S.nd i=who at *;have aMp:s.sends H who=false->∀e w',(e=rT (tU #[iJ who i 0 (-1) 0 ByteArray.empty,.bool false])/\∃O',aS O O' w w'/\Cl w' O' C p fa cs (s.setNode who (s.nodes who).aT) rd B m)->∃mem aT,e=Ending.returned (tU #[iJ who i mem (gS (s.goes p.S H rd i).2) (dN (s.goes p.S H rd i).2) (dE (s.goes p.S H rd i).2),.bool aT])/\aT=s.sends H who/\(aT=true->mem=aZ (s.pH p.S H who) p.n)/\∃O',aS O O' w w'/\Cl w' O' C p fa cs (s.mT p H rd i) rd B m:=by
  rintro hs e w' ⟨he,hc⟩;have hg:s.goes p.S H rd i=(s.aN,none):=by unfold cA.goes;rw[A6,kI (by rw[hs];decide)]
  refine⟨0,false,?_,hs.symm,(fun y=>by cases y),?_⟩
  ·rw[he,hg];rfl
  ·unfold cA.mT;rw[hg,A6];exact hc
 have aFn:s.sends H who=true->∀e w' (mem:Int),mem=aZ (s.pH p.S H who) p.n->(e=rT (tU #[iJ who i mem (gS (aK p.S who (rd*p.round+p.fr i) s.aN p.nl).2) (dN (aK p.S who (rd*p.round+p.fr i) s.aN p.nl).2) (dE (aK p.S who (rd*p.round+p.fr i) s.aN p.nl).2),.bool true])/\∃O',aS O O' w w'/\Cl w' O' C p fa cs ⟨(s.setNode who (s.nodes who).aT).nodes,(aK p.S who (rd*p.round+p.fr i) s.aN p.nl).1,s.aV,s.aR⟩ rd B m)->∃mem aT,e=Ending.returned (tU #[iJ who i mem (gS (s.goes p.S H rd i).2) (dN (s.goes p.S H rd i).2) (dE (s.goes p.S H rd i).2),.bool aT])/\aT=s.sends H who/\(aT=true->mem=aZ (s.pH p.S H who) p.n)/\∃O',aS O O' w w'/\Cl w' O' C p fa cs (s.mT p H rd i) rd B m:=by
  rintro hs e w' mem J3 ⟨he,hc⟩;have hg:s.goes p.S H rd i=aK p.S who (rd*p.round+p.fr i) s.aN p.nl:=by unfold cA.goes;rw[A6,kJ hs];rfl
  refine⟨mem,true,?_,hs.symm,fun _=>J3,?_⟩
  ·rw[he,hg]
  ·unfold cA.mT;rw[hg,A6];exact hc
 cases q:eZ (s.nodes who).g (s.nodes who).b (s.nodes who).fz
 ·have hs:s.sends H who=false:=by unfold cA.sends;rw[q];rfl
  cases hb:aW fa who
  ·exact(aKd h i who mode hi hw H7 jB hn wS q hb).mono (aMp hs)
  ·exact(aKe h i who mode hi hw H7 jB hn wS q hb).mono (aMp hs)
 ·cases hb:aW fa who
  ·have hmo:H.nG who=0:=by unfold lJ.nG;rw[hl,hb,kI oe]
   have hs:s.sends H who=true:=by unfold cA.sends;rw[q,hmo];rfl
   refine(aBf h i who mode hi hw H7 jB hn wS q hb xU pE sH hf0 zY qO hB qF).mono fun e w' hx=>aFn hs e w' _ ?_ hx;refine gF fun j _=>?_;show _=if H.nG who=2/\_ then _ else _;rw[hmo,kI (fun y=>by cases y.1)]
  ·have hmo:H.nG who=mode:=by unfold lJ.nG;rw[hl,hb,kJ rfl,hm]
   by_cases k1:mode=1
   ·have hs:s.sends H who=false:=by unfold cA.sends;rw[q,hmo,k1];rfl
    exact(aGn h i who mode hi hw H7 jB hn wS q hb k1).mono (aMp hs)
   ·have hs:s.sends H who=true:=by unfold cA.sends;rw[q,hmo,kD k1];rfl
    by_cases k2:mode=2
    ·refine(aDw h i who mode hi hw H7 jB hn wS q hb k2 xU pE sH hf0 zY qO hB qF).mono fun e w' hx=>aFn hs e w' _ ?_ hx;refine gF fun j _=>?_;show _=if H.nG who=2/\(j=who\/j=(who+1)%p.n)then _ else _;rw[hmo,k2];by_cases e:j=who\/j=(who+1)%p.n
     ·rw[kJ e,kJ ⟨rfl,e⟩]
     ·rw[kI e,kI (fun y=>e y.2)]
    ·refine(aBg h i who mode hi hw H7 jB hn wS q hb k1 k2 xU pE sH hf0 zY qO hB qF).mono fun e w' hx=>aFn hs e w' _ ?_ hx;refine gF fun j _=>?_;show _=if H.nG who=2/\_ then _ else _;rw[hmo,kI (fun y=>k2 y.1)]
theorem aP0{H:lJ}{aT:Bool}(h:Cl w O C p fa cs (s.mT p H rd i) rd B m)(hm:tY p (s.goes p.S H rd i).2)(hw:p.S.nd i<p.n)(hn:p.n<=16)(hB:B<=9999000)(hs:aT=s.sends H (p.S.nd i))(J3:aT=true->mem=aZ (s.pH p.S H (p.S.nd i)) p.n)(h0:∀j,j<p.n->aW l0 j=H.lost i 0 j)(h1:∀j,j<p.n->aW l1 j=H.lost i 1 j):
  Calls prog 129 #[pP C,iJ (p.S.nd i:Nat) i mem (gS (s.goes p.S H rd i).2) (dN (s.goes p.S H rd i).2) (dE (s.goes p.S H rd i).2),.bool aT,.agg #[iI l0,iI l1]] w fun e w'=>e=rT (tU #[])/\∃O',aS O O' w w'/\Cl w' O' C p fa cs (s.slot p.S H rd i) rd (B+5*p.n) m:=by refine(aOp h (p.S.nd i) i mem (s.goes p.S H rd i).2 aT l0 l1 hw hn hm hB).mono ?_;rintro e w' ⟨he,O',hf,hc⟩;obtain⟨e1,e2,e3⟩:=aFr (p:=p) (s:=s) (rd:=rd) hw hs J3 h0 h1;exact⟨he,O',hf,hc.agree e1 (fun k _=>e2 k) (fun k j _ hj _=>e3 k j hj)⟩
end
end
