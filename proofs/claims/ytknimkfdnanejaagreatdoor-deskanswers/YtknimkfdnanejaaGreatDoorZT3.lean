import Derived.Test.YtknimkfdnanejaaGreatDoorZT2
import Derived.Test.YtknimkfdnanejaaGreatDoorRows
import Derived.Lib.Bytealg
namespace Go.Proofs.YtknimkfdnanejaaGreatDoor
open Go.RowKit Go.Proofs.Tryz
set_option maxRecDepth 100000
set_option maxHeartbeats 16000000
section
open Go
def fM:List (String×DataW Unit):=Rows.deskAnswersRow.laid
def rL:String:=(fM.getD 2 ("",.agg [])).1
end
def U3(w:World)(E:Value)(e i:Int):Prop:=
 (E=.nilIface/\e=0)\/(∃b,E=.iface 299 (pP b)/\e≠0/\w.cell? (aA b 0)=some (iI e)/\w.cell? (aA b 1)=some (iI i))
def cU:List UInt8->List (List UInt8)
 |[]=>[[]]
 |c::r=>if c=10 then[]::cU r else(c::(cU r).headD [])::(cU r).tail
theorem tJ(c:UInt8)(r:List UInt8):cU (c::r)=if c=10 then[]::cU r else(c::(cU r).headD [])::(cU r).tail:=rfl
theorem uJ:∀l,cU l≠[]
 |[]=>by simp[cU]
 |c::r=>by unfold cU;split<;>simp
theorem vH:∀{l:List UInt8},(∀c∈l,c≠10)->cU l=[l]
 |[],_=>rfl
 |c::r,h=>by unfold cU;rw[kI (h c kQ),vH fun x hx=>h x (kO _ hx)];rfl
theorem uI:∀(a b:List UInt8),cU (a++10::b)=cU a++cU b
 |[],b=>by simp[cU]
 |c::r,b=>by
  rw[List.cons_append,tJ,tJ,uI r b];by_cases h:c=10
  ·rw[kJ h,kJ h];rfl
  ·rw[kI h,kI h]
   cases q:cU r with
   |nil=>exact absurd q (uJ r)
   |cons x xs=>rfl
theorem T5{a:List UInt8}(h:∀c∈a,c≠10)(b:List UInt8):cU (a++10::b)=a::cU b:=by rw[uI,vH h];rfl
def uM(l:List UInt8):List UInt8:=if l.getLast?=some 10 then l.dropLast else l
def iF(t:ByteArray):List ByteArray:=(cU (uM t.data.toList)).map fun l=>⟨l.toArray⟩
theorem T6:∀l,(cU l).length<=l.length+1
 |[]=>by simp[cU]
 |c::r=>by
  have:=T6 r;unfold cU;split
  ·simp;omega
  ·simp;omega
theorem T7:∀(l:List UInt8),∀x∈cU l,x.length<=l.length
 |[],x,h=>by simp[cU]at h;simp[h]
 |c::r,x,h=>by
  have ih:=T7 r;unfold cU at h;split at h
  ·rcases kN h with q|q
   ·simp[q]
   ·have:=ih x q;simp;omega
  ·cases q:cU r with
   |nil=>exact absurd q (uJ r)
   |cons y ys=>
    rw[q]at h ih
    rcases kN h with e|e
    ·have:=ih y kQ
     rw[e]
     simp at this⊢
     omega
    ·have:=ih x (kO _ e)
     simp;omega
theorem G9(l:List UInt8):(uM l).length<=l.length:=by
 unfold uM;split
 ·simp
 ·exact kF _
theorem aHd{t x:ByteArray}(h:x∈iF t):x.size<=t.size:=by obtain⟨l,hl,rfl⟩:=List.mem_map.1 h;have h1:=T7 _ l hl;have h2:=G9 t.data.toList;have h3:t.data.toList.length=t.data.size:=Array.length_toList;show l.toArray.size<=t.data.size;rw[List.size_toArray];omega
theorem aHc(t:ByteArray):(iF t).length<=t.size+1:=by unfold iF;rw[List.length_map];have h1:=T6 (uM t.data.toList);have h2:=G9 t.data.toList;have h3:t.data.toList.length=t.data.size:=Array.length_toList;show _<=t.data.size+1;omega
theorem pJ(c:UInt8):∀(l:List UInt8),(Lib.indexByte l c=-1/\∀x∈l,x≠c)\/∃(k:Nat),Lib.indexByte l c=k/\k<l.length/\l=l.take k++c::l.drop (k+1)/\∀x∈l.take k,x≠c
 |[]=>.inl ⟨rfl,fun _ h=>Oy⟩
 |b::l=>by
  by_cases h:b=c
  ·subst h;exact .inr ⟨0,by simp[Lib.indexByte],oh,oh,oh⟩
  ·rcases pJ c l with⟨h1,h2⟩|⟨k,h1,h2,h3,h4⟩
   ·refine .inl ⟨by simp[Lib.indexByte,h,h1],?_⟩;intro x hx;rcases kN hx with q|q
    ·rw[q];exact h
    ·exact h2 x q
   ·refine .inr ⟨k+1,?_,ol,?_,?_⟩
    ·have hk:¬((k:Int)=-1):=by omega
     simp[Lib.indexByte,h,h1,hk]
    ·rw[List.take_succ_cons,List.drop_succ_cons,List.cons_append,<-h3]
    ·intro x hx;rw[List.take_succ_cons]at hx;rcases kN hx with q|q
     ·rw[q];exact h
     ·exact h4 x q
section
variable{E I aJ c e1 e2 e3 i1 i2 i3 k nodes pw round:Int}{fr lb lf lq lt nd tq:Nat->Int}{j:Nat}
def dH(nd fr tq:Nat->Int)(nodes aJ round:Int)(j:Nat):Int:=
 if tq j<=fr j then 1 else if(j=0/\fr j<0)\/(0<j/\fr j<=tq (j-1)+aJ)then 10 else if round-aJ-1<tq j then 2 else if nd j<0\/nodes-1<nd j then 7 else 0
theorem aRq(h:tq j<=fr j):dH nd fr tq nodes aJ round j=1:=by simp[dH,h]
theorem aAw(h:fr j<tq j)(h2:(j=0/\fr j<0)\/(0<j/\fr j<=tq (j-1)+aJ)):dH nd fr tq nodes aJ round j=10:=by unfold dH;rw[kI od,kJ h2]
theorem aCy(h:fr j<tq j)(h2:¬((j=0/\fr j<0)\/(0<j/\fr j<=tq (j-1)+aJ)))(h3:round-aJ-1<tq j):dH nd fr tq nodes aJ round j=2:=by unfold dH;rw[kI od,kI h2,kJ h3]
theorem l9(h:fr j<tq j)(h2:¬((j=0/\fr j<0)\/(0<j/\fr j<=tq (j-1)+aJ)))(h3:tq j<=round-aJ-1)(h4:nd j<0\/nodes-1<nd j):dH nd fr tq nodes aJ round j=7:=by unfold dH;rw[kI od,kI h2,kI od,kJ h4]
theorem aCx(h:fr j<tq j)(h2:¬((j=0/\fr j<0)\/(0<j/\fr j<=tq (j-1)+aJ)))(h3:tq j<=round-aJ-1)(h4:0<=nd j)(h5:nd j<=nodes-1):dH nd fr tq nodes aJ round j=0:=by unfold dH;rw[kI od,kI h2,kI od,kI od]
theorem xN(h:dH nd fr tq nodes aJ round j=0):fr j<tq j/\tq j<=round-aJ-1/\(j=0->0<=fr j)/\(0<j->tq (j-1)+aJ<fr j)/\0<=nd j/\nd j<=nodes-1:=by
 unfold dH at h;by_cases h1:tq j<=fr j
 ·simp[h1]at h
 ·rw[kI h1]at h;by_cases h2:(j=0/\fr j<0)\/(0<j/\fr j<=tq (j-1)+aJ)
  ·simp[h2]at h
  ·rw[kI h2]at h;by_cases h3:round-aJ-1<tq j
   ·simp[h3]at h
   ·rw[kI h3]at h;by_cases h4:nd j<0\/nodes-1<nd j
    ·simp[h4]at h
    ·omega
theorem K5(hsk:0<=aJ){k:Nat}(h:∀j,j<k->dH nd fr tq nodes aJ round j=0):∀j,j<k->0<=fr j/\fr j<tq j/\tq j<=round-aJ-1:=by
 intro j
 induction j with
 |zero=>
  intro hj
  have g:=xN (h 0 hj)
  exact⟨g.2.2.1 rfl,g.1,g.2.1⟩
 |succ j ih=>
  intro hj
  have g:=xN (h (j+1) hj)
  have g2:=ih od
  have g3:=g.2.2.2.1 od
  simp at g3
  exact⟨od,g.1,g.2.1⟩
def dC(lf lt lb lq:Nat->Int)(hit:Nat->Bool)(nodes pw:Int)(j:Nat):Int:=
 if lf j<0\/nodes-1<lf j then 7 else if lt j<1\/pw-1<lt j\/hit j=true then 1 else if(lb j<1\/137438953472<lb j)\/lq j<1\/16<lq j then 2 else 0
theorem N7{hit:Nat->Bool}(h:lf j<0\/nodes-1<lf j):dC lf lt lb lq hit nodes pw j=7:=by unfold dC;rw[kJ h]
theorem N6{hit:Nat->Bool}(h:0<=lf j)(h':lf j<=nodes-1)(h2:lt j<1\/pw-1<lt j\/hit j=true):dC lf lt lb lq hit nodes pw j=1:=by unfold dC;rw[kI od,kJ h2]
theorem wJ{hit:Nat->Bool}(h:0<=lf j)(h':lf j<=nodes-1)(h2:¬(lt j<1\/pw-1<lt j\/hit j=true))(h3:(lb j<1\/137438953472<lb j)\/lq j<1\/16<lq j):dC lf lt lb lq hit nodes pw j=2:=by unfold dC;rw[kI od,kI h2,kJ h3]
theorem aCp{hit:Nat->Bool}(h:0<=lf j)(h':lf j<=nodes-1)(h2:¬(lt j<1\/pw-1<lt j\/hit j=true))(h3:1<=lb j/\lb j<=137438953472)(h4:1<=lq j/\lq j<=16):dC lf lt lb lq hit nodes pw j=0:=by unfold dC;rw[kI od,kI h2,kI od]
def oG(e1 i1 e2 i2 e3 i3 E I:Int):Prop:=
 (e1≠0->E=e1/\I=i1)/\(e1=0->e2≠0->E=e2/\I=1000+i2)/\(e1=0->e2=0->e3≠0->E=e3/\I=2000+i3)/\(e1=0->e2=0->e3=0->E=0/\I=-1)
theorem oG.slot(h:oG e1 i1 e2 i2 e3 i3 E I)(g:e1=c/\i1=k)(hc:c≠0):E=c/\I=k:=by obtain⟨rfl,rfl⟩:=g;exact h.1 hc
theorem oG.win(h:oG e1 i1 e2 i2 e3 i3 E I)(h1:e1=0)(h2:e2=0)(h3:e3≠0):E=e3/\I=2000+i3:=h.2.2.1 h1 h2 h3
theorem oG.bB8(h:oG e1 i1 e2 i2 e3 i3 E I)(h1:e1=0)(h2:e2=0)(h3:e3=0):E=0/\I=-1:=h.2.2.2 h1 h2 h3
theorem oG.link(h:oG e1 i1 e2 i2 e3 i3 E I)(h1:e1=0)(g:e2=c/\i2=k)(hc:c≠0):E=c/\I=1000+k:=by obtain⟨rfl,rfl⟩:=g;exact h.2.1 h1 hc
end
section
variable{f x:Int}
def far(x:Int):Bool:=decide (x< -1099511627776)||decide (1099511627776<x)
theorem tL:far x=false↔-1099511627776<=x/\x<=1099511627776:=by unfold far;simp
theorem vZ:far x=true↔x< -1099511627776\/1099511627776<x:=by unfold far;simp
def dR(l:List Int)(f:Int):Int:=if f<0\/(l.length:Int)<2*f+1 then 1 else if l.any far=true then 2 else 0
def fO(l:List Int)(f:Int):Int:=if dR l f=0 then yV l f.toNat else 0
theorem aAg{l:List Int}(h:f<0\/(l.length:Int)<2*f+1):dR l f=1:=by unfold dR;rw[kJ h]
theorem J6{l:List Int}(h:¬(f<0\/(l.length:Int)<2*f+1))(h2:l.any far=true):dR l f=2:=by unfold dR;rw[kI h,kJ h2]
theorem uD{l:List Int}(h:¬(f<0\/(l.length:Int)<2*f+1))(h2:l.any far=false):dR l f=0:=by unfold dR;rw[kI h,kI (by simp[h2])]
theorem uE{l:List Int}(h:dR l f≠0):fO l f=0:=by unfold fO;rw[kI h]
theorem rK{l:List Int}(h:dR l f=0):fO l f=yV l f.toNat:=by unfold fO;rw[kJ h]
theorem l7{l:List Int}(h:l.any far=false){k:Nat}(hk:k<l.length):-1099511627776<=nP l k/\nP l k<=1099511627776:=by have:=aUm l hk;rw[List.any_eq_false]at h;exact tL.1 (by simpa using h _ this)
theorem D4{w u v:World}(h:bW w u)(k:bW u v):bW w v:=h.trans (k.mono h.size)
end
section
variable{aC aF aH aJ frame nodes round:Int}{nl ns nw:Nat}
def dJ(nodes aF aJ aC aH round frame:Int)(ns nl nw:Nat):Int:=
 if nodes<1\/16<nodes\/aF<0\/nodes<aF*3+1 then 1
 else if aJ<0\/137438953472<aJ\/aC<0\/137438953472<aC\/aH<0\/137438953472<aH then 2
 else if round<1\/137438953472<round\/frame<1\/137438953472<frame then 2
 else if 32<ns\/8<nl\/32<nw then 4
 else if aJ<aJ/2+aC*2+aH*2+1 then 13 else 0
def lS(nodes aF aJ aC aH round frame:Int)(ns nl nw:Nat)(nd fr tq lf lt lb lq:Nat->Int)(hit:Nat->Bool)(pw:Int)(wp wf wt:Nat->Int)(E I:Int):Prop:=
 (dJ nodes aF aJ aC aH round frame ns nl nw≠0/\E=dJ nodes aF aJ aC aH round frame ns nl nw/\I=-1)\/
 (dJ nodes aF aJ aC aH round frame ns nl nw=0/\∃e1 i1 e2 i2 e3 i3,bY (dH nd fr tq nodes aJ round) ns e1 i1/\bY (dC lf lt lb lq hit nodes pw) nl e2 i2/\bY (fH wp wf wt frame) nw e3 i3/\oG e1 i1 e2 i2 e3 i3 E I)
theorem tP(h:nodes<1\/16<nodes\/aF<0\/nodes<aF*3+1):dJ nodes aF aJ aC aH round frame ns nl nw=1:=by unfold dJ;rw[kJ h]
theorem rI(h:¬(nodes<1\/16<nodes\/aF<0\/nodes<aF*3+1))(h2:aJ<0\/137438953472<aJ\/aC<0\/137438953472<aC\/aH<0\/137438953472<aH):dJ nodes aF aJ aC aH round frame ns nl nw=2:=by unfold dJ;rw[kI h,kJ h2]
theorem wA(h:¬(nodes<1\/16<nodes\/aF<0\/nodes<aF*3+1))(h2:¬(aJ<0\/137438953472<aJ\/aC<0\/137438953472<aC\/aH<0\/137438953472<aH))(h3:round<1\/137438953472<round\/frame<1\/137438953472<frame):dJ nodes aF aJ aC aH round frame ns nl nw=2:=by unfold dJ;rw[kI h,kI h2,kJ h3]
theorem zX(h:¬(nodes<1\/16<nodes\/aF<0\/nodes<aF*3+1))(h2:¬(aJ<0\/137438953472<aJ\/aC<0\/137438953472<aC\/aH<0\/137438953472<aH))(h3:¬(round<1\/137438953472<round\/frame<1\/137438953472<frame))(h4:32<ns\/8<nl\/32<nw):dJ nodes aF aJ aC aH round frame ns nl nw=4:=by unfold dJ;rw[kI h,kI h2,kI h3,kJ h4]
theorem aA6(h:¬(nodes<1\/16<nodes\/aF<0\/nodes<aF*3+1))(h2:¬(aJ<0\/137438953472<aJ\/aC<0\/137438953472<aC\/aH<0\/137438953472<aH))(h3:¬(round<1\/137438953472<round\/frame<1\/137438953472<frame))(h4:¬(32<ns\/8<nl\/32<nw))(h5:aJ<aJ/2+aC*2+aH*2+1):dJ nodes aF aJ aC aH round frame ns nl nw=13:=by unfold dJ;rw[kI h,kI h2,kI h3,kI h4,kJ h5]
theorem aCi(h:¬(nodes<1\/16<nodes\/aF<0\/nodes<aF*3+1))(h2:¬(aJ<0\/137438953472<aJ\/aC<0\/137438953472<aC\/aH<0\/137438953472<aH))(h3:¬(round<1\/137438953472<round\/frame<1\/137438953472<frame))(h4:¬(32<ns\/8<nl\/32<nw))(h5:¬aJ<aJ/2+aC*2+aH*2+1):dJ nodes aF aJ aC aH round frame ns nl nw=0:=by unfold dJ;rw[kI h,kI h2,kI h3,kI h4,kI h5]
theorem lS.head{nd fr tq lf lt lb lq:Nat->Int}{hit:Nat->Bool}{pw:Int}{wp wf wt:Nat->Int}{E I c:Int}(h:lS nodes aF aJ aC aH round frame ns nl nw nd fr tq lf lt lb lq hit pw wp wf wt E I)(g:dJ nodes aF aJ aC aH round frame ns nl nw=c)(hc:c≠0):E=c/\I=-1:=by
 rcases h with⟨_,h1,h2⟩|⟨h0,_⟩
 ·exact⟨h1.trans g,h2⟩
 ·exact absurd (g.symm.trans h0) hc
end
section
variable{P Q n:Nat}{b g id:Int}{fz:Bool}{t:Nat->Bool}{w:World}
structure bZ(w:World)(P Q:Nat)(id:Int)(n:Nat)(t:Nat->Bool)(g b:Int)(fz:Bool):Prop where
 c0:w.cell? (aA P 0)=some (iI id)
 c1:w.cell? (aA P 1)=some (iI n)
 c2:w.cell? (aA P 2)=some (sL Q n n)
 c3:w.cell? (aA P 3)=some (iI g)
 c4:w.cell? (aA P 4)=some (iI b)
 c5:w.cell? (aA P 5)=some (.bool fz)
 z:∀i,w.frozen? (aA P i)=false
 row:∀j,j<n->w.cell? (aA Q j)=some (.bool (t j))
 zr:∀j,w.frozen? (aA Q j)=false
 ne:P≠Q
 lp:P<w.heap.size
 lq:Q<w.heap.size
theorem T2(h:bZ w P Q id n t g b fz)(hn:n<=16):
  Calls prog 58 #[pP P] w fun e w'=>e=rT (iI (aZ t n))/\w'=w:=by
 have HR:Hid (∀j,j<n->w.cell? (aA Q j)=some (.bool (t j))):=h.row;obtain⟨_,_,c2,_,_,_,_,_,_,_,lp,lq⟩:=h;go_enter func58,ntmps58;go_wp2_with fail;go_loopw[11,3] (fun q v wr=>∃k:Nat,k<=n/\q=iI k/\v=iI (aZ t k)/\wr=w) (fun q _ _=>n-(intOf q).toNat);case atStart=>exact⟨0,kH _,rfl,rfl,rfl⟩
 case round=>
  obtain⟨k,hk,rfl,rfl,Y0⟩:=hrel;subst Y0;by_cases hlt:k<n
  ·have r0:=HR.out k hlt;have kk:(k:Int)<(n:Int):=od;have b0:=mO t k;have p0:=pow_pos k;have p1:(2:Int)^k<=2^16:=xH od;have p2:(2:Int)^16=65536:=oe;have HS:Hid (aZ t (k+1)=aZ t k+(if t k=true then 2^k else 0)):=rfl;cases ht:t k
   ·exact zFw
   ·exact zFw
  ·go_wp2;go_ret;obtain rfl:k=n:=od;exact zIf
theorem bZ.xD(h:bZ w P Q id n t g b fz)(g':Int):bZ (w.setCell (aA P 3) (iI g')) P Q id n t g' b fz:=
 ⟨(aB (.inr oe)).trans h.c0,(aB (.inr oe)).trans h.c1,(aB (.inr oe)).trans h.c2,aY h.c3,(aB (.inr oe)).trans h.c4,(aB (.inr oe)).trans h.c5,fun i=>bI.trans (h.z i),fun j hj=>(aB (.inl (Ne.symm h.ne))).trans (h.row j hj),fun j=>bI.trans (h.zr j),h.ne,Ek,by simpa using h.lq⟩
theorem bZ.bad(h:bZ w P Q id n t g b fz)(b':Int):bZ (w.setCell (aA P 4) (iI b')) P Q id n t g b' fz:=
 ⟨(aB (.inr oe)).trans h.c0,(aB (.inr oe)).trans h.c1,(aB (.inr oe)).trans h.c2,(aB (.inr oe)).trans h.c3,aY h.c4,(aB (.inr oe)).trans h.c5,fun i=>bI.trans (h.z i),fun j hj=>(aB (.inl (Ne.symm h.ne))).trans (h.row j hj),fun j=>bI.trans (h.zr j),h.ne,Ek,by simpa using h.lq⟩
theorem bZ.freeze(h:bZ w P Q id n t g b fz)(f':Bool):bZ (w.setCell (aA P 5) (.bool f')) P Q id n t g b f':=
 ⟨(aB (.inr oe)).trans h.c0,(aB (.inr oe)).trans h.c1,(aB (.inr oe)).trans h.c2,(aB (.inr oe)).trans h.c3,(aB (.inr oe)).trans h.c4,aY h.c5,fun i=>bI.trans (h.z i),fun j hj=>(aB (.inl (Ne.symm h.ne))).trans (h.row j hj),fun j=>bI.trans (h.zr j),h.ne,Ek,by simpa using h.lq⟩
theorem bZ.take(h:bZ w P Q id n t g b fz)(k:Nat)(x:Bool)(hk:k<n):bZ (w.setCell (aA Q k) (.bool x)) P Q id n (fun j=>if j=k then x else t j) g b fz:=
 ⟨(aB (.inl h.ne)).trans h.c0,(aB (.inl h.ne)).trans h.c1,(aB (.inl h.ne)).trans h.c2,(aB (.inl h.ne)).trans h.c3,(aB (.inl h.ne)).trans h.c4,(aB (.inl h.ne)).trans h.c5,fun i=>bI.trans (h.z i),fun j hj=>by
  by_cases e:j=k
  ·subst e;rw[kJ rfl];exact aY (h.row j hj)
  ·rw[kI e];exact(aB (.inr e)).trans (h.row j hj),fun j=>bI.trans (h.zr j),h.ne,Ek,by simpa using h.lq⟩
theorem bZ.drawn(h:bZ w P Q id n t g b fz)(q:Nat):bZ (w.drewN q) P Q id n t g b fz:=⟨h.c0,h.c1,h.c2,h.c3,h.c4,h.c5,h.z,h.row,h.zr,h.ne,h.lp,h.lq⟩
theorem bZ.same{t':Nat->Bool}(h:bZ w P Q id n t g b fz)(e:∀j,j<n->t' j=t j):bZ w P Q id n t' g b fz:=⟨h.c0,h.c1,h.c2,h.c3,h.c4,h.c5,h.z,fun j hj=>by rw[e j hj];exact h.row j hj,h.zr,h.ne,h.lp,h.lq⟩
end
section
variable{P Q n:Nat}{b g id:Int}{fz:Bool}
theorem aFf{w:World}{t:Nat->Bool}(h:bZ w P Q id n t g b fz)(hn:n<=16):
  Calls prog 101 #[pP P] w fun e w'=>e=rT (tU #[iI (if eZ g b fz=true then aZ t n else 0),.bool (eZ g b fz)])/\bZ w' P Q id n t (if eZ g b fz=true then 1 else g) (if eZ g b fz=true then 0 else b) (!eZ g b fz)/\aU P Q w w':=by
 have HH:Hid (bZ w P Q id n t g b fz):=h;obtain⟨c0,c1,c2,c3,c4,c5,z,row,zr,ne,lp,lq⟩:=h;have z3:=z 3;have z4:=z 4;have z5:=z 5;clear z zr row;unfold eZ;cases fz
 ·by_cases hb:b<g
  ·have bKn:=0;exact zMp
  ·have dQ:g<=b:=by omega
   rw[kC hb];clear hb;go_enter func101,ntmps101;go_wp2_with fail;go_quiet(fail);go_wp2;go_ret2;exact⟨rfl,(HH.out.freeze true).drawn _,((aU.refl _ _ _).set (p:=(aA P 5)) (.inl rfl) _).trans (aU.drawn _)⟩
 ·go_enter func101,ntmps101;go_wp2;go_ret2;exact⟨rfl,HH.out,aU.refl _ _ _⟩
theorem aEx{w:World}{t:Nat->Bool}(h:bZ w P Q id n t g b fz)(gH bU:Int)(lK:1<=n)(hn:n<=16)(hh:sK id n fz gH bU=false):
  Calls prog 105 #[pP P,iI gH,iI bU] w fun e w'=>e=rT (tU #[])/\w'=w:=by
 obtain⟨c0,c1,c2,c3,c4,c5,z,row,zr,ne,lp,lq⟩:=h;clear z zr row;cases fz
 ·have bGa:=0;exact zLu
 ·clear hh;exact zBu
theorem aAp{w:World}{t:Nat->Bool}(h:bZ w P Q id n t g b fz)(k:Nat)(bU:Int)(hn:n<=16)(hf:fz=false)(hk:k<n)(hid:(k:Int)≠id)(h0:0<=bU)(h2:bU<=2)(hg0:0<=g)(hg:g<=4611686018427387904)(wT:0<=b)(hb:b<=4611686018427387904)(G:Ending->World->Prop)(hG:∀w',bZ w' P Q id n (fun j=>if j=k then decide (bU=1)else t j) (if bU=1 then g+1 else g) (if bU=2 then b+1 else b) false->aU P Q w w'->G (rT (tU #[])) w'):
  Calls prog 105 #[pP P,iI k,iI bU] w G:=by
 subst hf;have HG:Hid _:=hG;clear hG;have HH:Hid (bZ w P Q id n t g b false):=h;obtain⟨c0,c1,c2,c3,c4,c5,z,row,zr,ne,lp,lq⟩:=h;have z3:=z 3;have z4:=z 4;have r0:=row k hk;have zk:=zr k;clear z zr row;have k0:(k:Int)<=(n:Int)-1:=od;have k1:(k:Int)<(n:Int):=od;have k3:((k:Int)==id)=false:=by simpa using hid
 have neq:Q≠P:=Ne.symm ne;have hc:bU=0\/bU=1\/bU=2:=od;clear hid;rcases hc with rfl|rfl|rfl
 ·go_enter func105,ntmps105;go_wp2;exact bodyPost_end (v:=tU #[]) Ow rfl (HG.out _ (HH.out.take k false hk) ((aU.refl _ _ _).set (p:=(aA Q k)) (.inr rfl) _))
 ·go_enter func105,ntmps105;go_wp2;exact bodyPost_end (v:=tU #[]) Ow rfl (HG.out _ ((HH.out.take k true hk).xD (g+1)) (((aU.refl _ _ _).set (p:=(aA Q k)) (.inr rfl) _).set (p:=(aA P 3)) (.inl rfl) _))
 ·go_enter func105,ntmps105;go_wp2;exact bodyPost_end (v:=tU #[]) Ow rfl (HG.out _ ((HH.out.take k false hk).bad (b+1)) (((aU.refl _ _ _).set (p:=(aA Q k)) (.inr rfl) _).set (p:=(aA P 4)) (.inl rfl) _))
theorem aBu{w:World}{t:Nat->Bool}(h:bZ w P Q id n t g b fz)(k:Nat)(bU:Int)(hn:n<=16)(hf:fz=false)(hk:k<n)(hid:(k:Int)≠id)(h0:0<=bU)(h2:bU<=2)(hg0:0<=g)(hg:g<=4611686018427387904)(wT:0<=b)(hb:b<=4611686018427387904):
  Calls prog 105 #[pP P,iI k,iI bU] w fun e w'=>e=rT (tU #[])/\bZ w' P Q id n (fun j=>if j=k then decide (bU=1)else t j) (if bU=1 then g+1 else g) (if bU=2 then b+1 else b) false/\aU P Q w w':=
 aAp h k bU hn hf hk hid h0 h2 hg0 hg wT hb _ fun _ a c=>⟨rfl,a,c⟩
end
