import Derived.Test.YtknimkfdnanejaaGreatDoorProg
import Derived.Test.YtknimkfdnanejaaGreatDoorZW2
import Derived.BigQuiet
import Derived.DeepKeys5
import Derived.Lib.SmallJoins
import Derived.WalkLawsBesides
import Derived.WalkSpells
namespace Go.Proofs.YtknimkfdnanejaaGreatDoor
open Go.RowKit Go.Proofs.Tryz
set_option maxRecDepth 100000
set_option maxHeartbeats 16000000
section
variable{base n size:Nat}
theorem Tryz.uZ:(Tryz.prog.info? 3).map (fun i=>(i.zero,i.size,i.bytes))=some (some (iI 0),1,8):=by kernel_rfl
theorem nE(b off n:Nat):((aA b off):Addr).add n=(aA b (off+n)):=by simp[Addr.add]
theorem fF{w w':World}{e:TypeId}{v:Value}{xs:List Value}(h:w.ownsRow base e size v n xs)(hb:bW w w'):w'.ownsRow base e size v n xs:=zOe
theorem aHu(w:World)(x:Value)(e:TypeId):(w.alloc (.cells #[x] e)).ownsRow w.heap.size e 1 (sL w.heap.size 1 1) 1 [x]:=
 ⟨oh,.inr ⟨w.heap.size,1,#[x],rfl,kF _,by show(w.heap.push _)[w.heap.size]?=_;simp,kF _,by simp[maxLen],rfl,rfl⟩⟩
theorem d6{w:World}{bA7:Nat}{e:TypeId}{v:Value}{xs:List Value}(h:w.ownsRow base e size v n xs)(hb:bA7<=base):w.ownsRow bA7 e size v n xs:=by
 obtain⟨h1,h2⟩:=h;refine⟨h1,?_⟩;rcases h2 with h2|⟨g,cap,cur,hv,hg,r⟩
 ·exact .inl h2
 ·exact .inr ⟨g,cap,cur,hv,kG hb hg,r⟩
theorem pX{w:World}{e:TypeId}{v:Value}{xs:List Value}(h:w.ownsRow base e 1 v n xs)(hn:1<=n):
  ∃g cap,v=sL g n cap/\base<=g/\∀j u,xs[j]?=some u->w.cell? (((aA g 0):Addr).add j)=some u:=by
 rcases h.2 with⟨_,h0⟩|⟨g,cap,cur,hv,hg,r⟩
 ·omega
 ·exact⟨g,cap,hv,hg,fun j u hj=>h.cells (g:=g) (by rw[hv];rfl) j u hj⟩
theorem gK(l:List Int):∀u∈l.map (Value.int .i64),u.oneCell'=true:=fun u hu=>by simp at hu;obtain⟨a,_,rfl⟩:=hu;rfl
theorem zD(w:World)(cur:Array Value)(e:TypeId)(n:Nat)(hn:cur.size=n)(hm:n<=maxLen)(base:Nat)(hb:base<=w.heap.size):(w.alloc (.cells cur e)).ownsRow base e 1 (sL w.heap.size n n) n cur.toList:=
 ⟨by simp[hn],.inr ⟨w.heap.size,n,cur,rfl,hb,by show(w.heap.push _)[w.heap.size]?=_;simp,kF _,hm,od,List.take_of_length_le (by simp[hn])⟩⟩
theorem rN(w:World)(cur:Array Value)(e:TypeId):∀j u,cur.toList[j]?=some u->(w.alloc (.cells cur e)).cell? (((aA w.heap.size 0):Addr).add j)=some u:=by intro j u hj;rw[nE];simp at hj⊢;simpa using hj
end
section
variable{P Q:Nat}{a w w':World}
structure aU(P Q:Nat)(w w':World):Prop where
 os:w'.os=w.os
 tape:w'.tape=w.tape
 output:w'.output=w.output
 size:w.heap.size<=w'.heap.size
 block:∀c,c<w.heap.size->c≠P->c≠Q->w'.heap[c]?=w.heap[c]?
theorem aU.refl(P Q:Nat)(w:World):aU P Q w w:=⟨rfl,rfl,rfl,kF _,fun _ _ _ _=>rfl⟩
theorem aU.trans{b c:World}(h:aU P Q a b)(k:aU P Q b c):aU P Q a c:=
 ⟨k.os.trans h.os,k.tape.trans h.tape,k.output.trans h.output,kG h.size k.size,fun i hi h1 h2=>(k.block i (kB hi h.size) h1 h2).trans (h.block i hi h1 h2)⟩
theorem aU.of_below(h:bW w w'):aU P Q w w':=⟨h.os,h.tape,h.output,h.size,fun c hc _ _=>h.block c hc⟩
theorem aU.set(h:aU P Q a w){p:Addr}(hp:p.block=P\/p.block=Q)(u:Value):aU P Q a (w.setCell p u):=
 h.trans ⟨rfl,rfl,rfl,by simp[World.setCell],fun c _ h1 h2=>Below.heap_setCell _ _ _ _ (by rcases hp with e|e<;>rw[e]<;>omega)⟩
theorem aU.below{B:Nat}(h:aU P Q w w')(hB:B<=w.heap.size)(hP:B<=P)(hQ:B<=Q):Below B w w':=⟨h.os,h.tape,h.output,h.size,fun c hc=>h.block c od od od⟩
theorem aU.cell(h:aU P Q w w'){p:Addr}(hp:p.block<w.heap.size)(h1:p.block≠P)(h2:p.block≠Q):w'.cell? p=w.cell? p:=World.cell?_of_block (w:=w) (h.block p.block hp h1 h2)
theorem aU.frozen(h:aU P Q w w'){p:Addr}(hp:p.block<w.heap.size)(h1:p.block≠P)(h2:p.block≠Q):w'.frozen? p=w.frozen? p:=World.frozen?_of_block (w:=w) (h.block p.block hp h1 h2)
def aZ(t:Nat->Bool):Nat->Int
 |0=>0
 |k+1=>aZ t k+(if t k=true then 2^k else 0)
theorem pow_pos(k:Nat):(0:Int)<2^k:=Int.pow_pos oe
theorem mO(t:Nat->Bool):∀k,0<=aZ t k/\aZ t k<2^k
 |0=>⟨Int.le_refl _,(by show(0:Int)<1;decide)⟩
 |k+1=>by have h:=mO t k;have p:=pow_pos k;have e:(2:Int)^(k+1)=2^k*2:=Int.pow_succ 2 k;simp only[aZ];split<;>omega
theorem xH{k n:Nat}(h:k<=n):(2:Int)^k<=2^n:=by
 induction n with
 |zero=>
      obtain rfl:k=0:=od
      exact Int.le_refl _
 |succ n ih=>
  rcases Nat.lt_or_ge k (n+1)with q|q
  ·have:=ih od
   have p:=pow_pos n
   have e:(2:Int)^(n+1)=2^n*2:=Int.pow_succ 2 n
   omega
  ·obtain rfl:k=n+1:=by omega
   exact Int.le_refl _
end
section
open Go.ChangeShapes Go.WideShapes Go.ChangeAt Go.RowKit Go.Joins Go.Deep
theorem add_plain(b off n:Nat):((aA b off):Addr).add n=(aA b (off+n)):=by
 unfold Addr.add;split
 ·rename_i h;subst h;rfl
 ·rfl
def dX(w:World)(a:Option Addr)(n:Nat)(f g h:Nat->Int):Prop:=
 0<n->∃b off,a=some (aA b off)/\b<w.heap.size/\∀j,j<n->w.cell? ⟨b,off+j*3,none⟩=some (iI (f j))/\w.cell? ⟨b,off+j*3+1,none⟩=some (iI (g j))/\w.cell? ⟨b,off+j*3+2,none⟩=some (iI (h j))
theorem dX.below{w w':World}{a:Option Addr}{n:Nat}{f g h:Nat->Int}(r:dX w a n f g h)(hb:bW w w'):dX w' a n f g h:=by intro hn;obtain⟨b,off,ha,gX,hc⟩:=r hn;exact⟨b,off,ha,kB gX hb.size,fun j hj=>⟨(hb.cell gX).trans (hc j hj).1,(hb.cell gX).trans (hc j hj).2.1,(hb.cell gX).trans (hc j hj).2.2⟩⟩
def vY(w:World)(a:Option Addr)(n:Nat)(f g h i:Nat->Int):Prop:=
 0<n->∃b off,a=some (aA b off)/\b<w.heap.size/\∀j,j<n->w.cell? ⟨b,off+j*4,none⟩=some (iI (f j))/\w.cell? ⟨b,off+j*4+1,none⟩=some (iI (g j))/\w.cell? ⟨b,off+j*4+2,none⟩=some (iI (h j))/\w.cell? ⟨b,off+j*4+3,none⟩=some (iI (i j))
theorem vY.below{w w':World}{a:Option Addr}{n:Nat}{f g h i:Nat->Int}(r:vY w a n f g h i)(hb:bW w w'):vY w' a n f g h i:=by intro hn;obtain⟨b,off,ha,gX,hc⟩:=r hn;exact⟨b,off,ha,kB gX hb.size,fun j hj=>⟨(hb.cell gX).trans (hc j hj).1,(hb.cell gX).trans (hc j hj).2.1,(hb.cell gX).trans (hc j hj).2.2.1,(hb.cell gX).trans (hc j hj).2.2.2⟩⟩
end
section
variable{M d n x:Int}
def cV(f s n d:Int):Bool:=decide (0<=f/\f<=1099511627776/\-1099511627776<=s/\s<=1099511627776/\1<=n/\n<=1000000/\1<=d/\d<=1000000/\n<=2*d/\d<=2*n)
theorem iK{f s:Int}(h:cV f s n d=true):0<=f/\f<=1099511627776/\-1099511627776<=s/\s<=1099511627776/\1<=n/\n<=1000000/\1<=d/\d<=1000000/\n<=2*d/\d<=2*n:=of_decide_eq_true h
theorem vB{R:Int}(h0:0<=x)(h1:x<=M)(h2:1<=n)(h3:n<=R):0<=x*n/\x*n<=M*R:=
 ⟨Int.mul_nonneg h0 od,Int.mul_le_mul h1 h3 od od⟩
theorem aAl(h0:0<=x)(h1:x<=M)(h2:1<=n)(h4:1<=d)(h5:n<=2*d):0<=x*n/d/\x*n/d<=2*M:=by
 have hx:0<=x*n:=Int.mul_nonneg h0 od;refine⟨Int.ediv_nonneg hx od,?_⟩;have h6:x*n<=(2*M)*d:=by
  have a1:x*n<=x*(2*d):=Int.mul_le_mul_of_nonneg_left h5 h0;have a2:x*(2*d)<=M*(2*d):=Int.mul_le_mul_of_nonneg_right h1 od;have a3:M*(2*d)=(2*M)*d:=by rw[<-Int.mul_assoc,Int.mul_comm M 2]
  omega
 exact Int.ediv_le_of_le_mul od h6
theorem aD5(h0:0<=x)(h1:x<=M)(h2:1<=n)(h4:1<=d)(h5:d<=2*n):0<=(x*d+n-1)/n/\(x*d+n-1)/n<=2*M+1:=by
 have hx:0<=x*d:=Int.mul_nonneg h0 od;refine⟨Int.ediv_nonneg od od,?_⟩;have h6:x*d+n-1<=(2*M+1)*n:=by
  have a1:x*d<=x*(2*n):=Int.mul_le_mul_of_nonneg_left h5 h0;have a2:x*(2*n)<=M*(2*n):=Int.mul_le_mul_of_nonneg_right h1 od;have a3:M*(2*n)=(2*M)*n:=by rw[<-Int.mul_assoc,Int.mul_comm M 2]
  have a4:(2*M+1)*n=(2*M)*n+n:=by rw[Int.add_mul,Int.one_mul]
  omega
 exact Int.ediv_le_of_le_mul od h6
end
theorem wG(n lo hi:Int)(w:World):Calls prog 53 #[iI n,iI lo,iI hi] w fun e w'=>e=rT (.bool (decide (lo<=n/\n<=hi)))/\w'=w:=by
 by_cases h1:lo<=n
 ·by_cases h2:n<=hi
  ·rw[kD (show lo<=n/\n<=hi from⟨h1,h2⟩)];exact zG3
  ·have h3:decide (n<=hi)=false:=kC h2;exact zIn
 ·have h3:decide (lo<=n)=false:=kC h1;exact zIn
section
variable{base n:Nat}
theorem eY{w:World}{e:TypeId}{v:Value}{xs:List Value}(h:w.ownsRow base e 1 v n xs):∃a cap,v=sV a n cap:=zFa
theorem fY{w:World}{e:TypeId}{size:Nat}{v:Value}{xs:List Value}{b i:Nat}{x:Value}(h:w.ownsRow base e size v n xs)(hb:b<base):(w.setCell (aA b i) x).ownsRow base e size v n xs:=zC0
end
section
variable{O O' X:List Nat}{w w':World}
structure aS(O O':List Nat)(w w':World):Prop where
 os:w'.os=w.os
 tape:w'.tape=w.tape
 output:w'.output=w.output
 size:w.heap.size<=w'.heap.size
 block:∀c,c<w.heap.size->c∉O->w'.heap[c]?=w.heap[c]?
 fresh:∀c,c∈O'->c∈O\/w.heap.size<=c
theorem aS.refl(O:List Nat)(w:World):aS O O w w:=⟨rfl,rfl,rfl,kF _,fun _ _ _=>rfl,fun _ h=>.inl h⟩
theorem aS.trans{O'':List Nat}{a b c:World}(h:aS O O' a b)(k:aS O' O'' b c):aS O O'' a c:=
 ⟨k.os.trans h.os,k.tape.trans h.tape,k.output.trans h.output,kG h.size k.size,fun i hi hn=>(k.block i (kB hi h.size) (fun y=>(h.fresh i y).elim hn (fun z=>absurd hi od))).trans (h.block i hi hn),fun i hi=>by
  rcases k.fresh i hi with z|z
  ·exact h.fresh i z
  ·exact .inr (kG h.size z)⟩
theorem aS.of_below(h:bW w w'):aS O O w w':=⟨h.os,h.tape,h.output,h.size,fun c hc _=>h.block c hc,fun _ h=>.inl h⟩
theorem aS.jD{P Q:Nat}(h:aU P Q w w')(hp:P∈O)(hq:Q∈O):aS O O w w':=
 ⟨h.os,h.tape,h.output,h.size,fun c hc hn=>h.block c hc (fun e=>hn (e▸hp)) (fun e=>hn (e▸hq)),fun _ h=>.inl h⟩
theorem aS.drawn(O:List Nat)(w:World)(q:Nat):aS O O w (w.drewN q):=⟨rfl,rfl,rfl,kF _,fun _ _ _=>rfl,fun _ h=>.inl h⟩
theorem aS.under(h:aS O O' w w')(P:Nat):aS (P::O) (P::O') w w':=
 ⟨h.os,h.tape,h.output,h.size,fun c hc hn=>h.block c hc (fun y=>hn (kM (.inr y))),fun c hc=>by
  rcases kN hc with z|z
  ·exact .inl (kM (.inl z))
  ·rcases h.fresh c z with y|y
   ·exact .inl (kM (.inr y))
   ·exact .inr y⟩
theorem aS.below{B:Nat}(h:aS O O' w w')(hO:∀c,c∈O->B<=c)(hB:B<=w.heap.size):Below B w w':=⟨h.os,h.tape,h.output,h.size,fun c hc=>h.block c od (fun y=>by have:=hO c y;omega)⟩
theorem aS.above{B:Nat}(h:aS O O' w w')(hO:∀c,c∈O->B<=c)(hB:B<=w.heap.size):∀c,c∈O'->B<=c:=fun c hc=>by
 rcases h.fresh c hc with y|y
 ·exact hO c y
 ·omega
theorem aS.cell(h:aS O O' w w'){p:Addr}(hp:p.block<w.heap.size)(hn:p.block∉O):w'.cell? p=w.cell? p:=World.cell?_of_block (w:=w) (h.block p.block hp hn)
theorem aS.frozen(h:aS O O' w w'){p:Addr}(hp:p.block<w.heap.size)(hn:p.block∉O):w'.frozen? p=w.frozen? p:=World.frozen?_of_block (w:=w) (h.block p.block hp hn)
def Apart(O X:List Nat):Prop:=∀c,c∈O->c∉X
theorem Apart.symm(h:Apart O X):Apart X O:=fun c hc hn=>h c hn hc
theorem aS.apart(h:aS O O' w w')(ha:Apart O X)(hX:∀c,c∈X->c<w.heap.size):Apart O' X:=fun c hc hx=>by
 rcases h.fresh c hc with y|y
 ·exact ha c y hx
 ·have:=hX c hx;omega
def Same(X:List Nat)(w w':World):Prop:=w.heap.size<=w'.heap.size/\∀c,c∈X->w'.heap[c]?=w.heap[c]?
theorem aS.same(h:aS O O' w w')(ha:Apart O X)(hX:∀c,c∈X->c<w.heap.size):Same X w w':=⟨h.size,fun c hc=>h.block c (hX c hc) (fun y=>ha c y hc)⟩
theorem Same.of_below(h:bW w w')(hX:∀c,c∈X->c<w.heap.size):Same X w w':=⟨h.size,fun c hc=>h.block c (hX c hc)⟩
theorem Same.cell(h:Same X w w'){p:Addr}(hp:p.block∈X):w'.cell? p=w.cell? p:=World.cell?_of_block (w:=w) (h.2 p.block hp)
theorem Same.frozen(h:Same X w w'){p:Addr}(hp:p.block∈X):w'.frozen? p=w.frozen? p:=World.frozen?_of_block (w:=w) (h.2 p.block hp)
theorem Same.part{Y:List Nat}(h:Same X w w')(hs:∀c,c∈Y->c∈X):Same Y w w':=⟨h.1,fun c hc=>h.2 c (hs c hc)⟩
theorem lI{base:Nat}{e:TypeId}{size:Nat}{v:Value}{n:Nat}{xs:List Value}(h:w.ownsRow base e size v n xs)(hs:Same X w w')(hv:∀g,v.ownBlock=some g->g∈X):w'.ownsRow base e size v n xs:=have bKi:=0;zMg
end
section
open Go.Maps (Keyed)
def qT(P:Program)(k:TypeId)(w:World)(b:Nat)(f:Value->Option Value):Prop:=
 ∃(es:Array MapEntry)(clock:Nat),w.heap[b]?=some (.map es clock)/\(∀(i:Nat)(e:MapEntry),es[i]?=some e->∃l,keyOf P k e.key=some l)/\(∀(i j:Nat)(a c:MapEntry),es[i]?=some a->es[j]?=some c->a.key=c.key->i=j)/\∀x v,f x=some v↔∃(i:Nat)(e:MapEntry),es[i]?=some e/\e.key=x/\e.val=v
def aWy(f:Value->Option Value)(x v:Value)(f':Value->Option Value):Prop:=f' x=some v/\∀y,y≠x->f' y=f y
theorem aWy.any(f:Value->Option Value)(x v:Value):∃f',aWy f x v f':=by
 classical
 exact⟨fun y=>if y=x then some v else f y,kJ rfl,fun y h=>kI h⟩
section
variable{P:Program}{k t e:TypeId}{w:World}{b:Nat}{f:Value->Option Value}
theorem qT.new(P:Program)(k:TypeId)(w:World):qT P k (w.alloc (.map #[] 0)) w.heap.size (fun _=>none):=by refine⟨#[],0,heap_alloc_new w _,fun i e he=>(by simp at he),fun i j a c h=>(by simp at h),fun x v=>⟨fun h=>Oy,?_⟩⟩;rintro⟨i,e,he,_⟩;simp at he
theorem qT.lt(h:qT P k w b f):b<w.heap.size:=by obtain⟨es,clock,hb,_⟩:=h;exact(Array.getElem?_eq_some_iff.1 hb).1
theorem qT.keep{w':World}(h:qT P k w b f)(e:w'.heap[b]?=w.heap[b]?):qT P k w' b f:=by obtain⟨es,clock,hb,r⟩:=h;exact⟨es,clock,e.trans hb,r⟩
theorem qT.look(h:qT P k w b f)(K:Keyed P k)(ht:P.underlying t=some (.map k e)){z:Value}(hz:(zeroValue e).run P w=.ok z w){x:Value}{lx:Lit}(hx:keyOf P k x=some lx)(c:Bool):
  (Instr.lookup t (.map (some b)) x c).run P w=.ok (if c then tU #[(f x).getD z,.bool (f x).isSome]else(f x).getD z) w:=zK9
theorem qT.put(h:qT P k w b f)(K:Keyed P k)(ht:P.underlying t=some (.map k e)){x v:Value}{lx:Lit}(hx:keyOf P k x=some lx):
  ∃w' f',(Instr.mapUpdate t (.map (some b)) x v).run P w=.ok () w'/\qT P k w' b f'/\aWy f x v f'/\aU b b w w':=by have hlt:=h.lt;obtain⟨f',hpf⟩:=aWy.any f x v;have m93:=0;exact zK9
end
end
theorem parts_eq{x n d:Int}(hd:1<=d):x/d*n+x%d*n/d=x*n/d:=by
 have e:x*n=x/d*n*d+x%d*n:=by
  have h:=Int.mul_ediv_add_emod x d;have h2:x*n=(d*(x/d)+x%d)*n:=by rw[h]
  rw[h2,Int.add_mul,Int.mul_comm d,Int.mul_assoc,Int.mul_assoc,Int.mul_comm d n]
 rw[e,Int.add_comm (x/d*n*d),Int.add_mul_ediv_right _ _ od,Int.add_comm]
theorem aMc{x n d:Int}(h0:0<=x)(h1:x<=1099511627776)(h2:1<=n)(h3:n<=1000000)(h4:1<=d)(h5:d<=1000000):
  0<=x/d/\x/d<=1099511627776/\0<=x%d/\x%d<=1000000/\0<=x/d*n/\x/d*n<=1099511627776000000/\0<=x%d*n/\x%d*n<=1000000000000/\0<=x%d*n/d/\x%d*n/d<=1000000000000:=by
 have a1:0<=x/d:=Int.ediv_nonneg h0 od;have a2:x/d<=1099511627776:=by have:=Int.ediv_le_self d h0;omega
 have a3:0<=x%d:=Int.emod_nonneg x od;have a4:x%d<d:=Int.emod_lt_of_pos x od;have p:=vB (x:=x/d) (n:=n) (M:=1099511627776) (R:=1000000) a1 a2 h2 h3;have q:=vB (x:=x%d) (n:=n) (M:=1000000) (R:=1000000) a3 od h2 h3;have r1:0<=x%d*n/d:=Int.ediv_nonneg q.1 od;have r2:x%d*n/d<=x%d*n:=Int.ediv_le_self d q.1;exact⟨a1,a2,a3,od,p.1,by have:=p.2;omega,q.1,by have:=q.2;omega,r1,by have:=q.2;omega⟩
theorem aMo(f s n d t:Int)(w:World)(h:cV f s n d=true)(ht:f<=t)(ht2:t<=1099511627776):
  Calls prog 109 #[.agg #[iI f,iI s,iI n,iI d],iI t] w fun e w'=>e=rT (iI (s+(t-f)/d*n+(t-f)%d*n/d))/\bW w w':=by obtain⟨h1,h2,h3,h4,h5,h6,h7,h8,h9,h10⟩:=iK h;clear h;obtain⟨b1,b2,b3,b4,b5,b6,b7,b8,b9,b10⟩:=aMc (x:=t-f) (n:=n) (d:=d) od od h5 h6 h7 h8;go_enter func109,ntmps109;go_wp2;go_quiet(fail);go_wp2;go_quiet(fail);go_wp2;go_ret;exact⟨rfl,below_drewN (below_drewN ((kX _ _).alloc (kF _) _) _) _⟩
theorem tV(f s n d t:Int)(w:World)(h:cV f s n d=true)(ht:f<=t)(ht2:t<=1099511627776):
  Calls prog 109 #[.agg #[iI f,iI s,iI n,iI d],iI t] w fun e w'=>e=rT (iI (s+(t-f)*n/d))/\bW w w':=by
 have e:s+(t-f)/d*n+(t-f)%d*n/d=s+(t-f)*n/d:=by rw[Int.add_assoc,parts_eq (iK h).2.2.2.2.2.2.1]
 have k:=aMo f s n d t w h ht ht2;rw[e]at k;exact k
