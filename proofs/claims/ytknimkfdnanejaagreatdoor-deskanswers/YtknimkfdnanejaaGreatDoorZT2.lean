import Derived.Test.YtknimkfdnanejaaGreatDoorZT0
import Derived.Test.YtknimkfdnanejaaGreatDoorZT1
import Derived.Test.YtknimkfdnanejaaGreatDoorZW3
import Derived.Deep.RegionHeld3
import Derived.Deep.Upon
namespace Go.Proofs.YtknimkfdnanejaaGreatDoor
open Go.RowKit Go.Proofs.Tryz
set_option maxRecDepth 100000
set_option maxHeartbeats 16000000
theorem lt_of_cell{w:World}{a:Addr}{v:Value}(h:w.cell? a=some v):a.block<w.heap.size:=by
 rcases Nat.lt_or_ge a.block w.heap.size with g|g
 ·exact g
 ·simp[World.cell?,Array.getElem?_eq_none g]at h
theorem aO{w w':World}{a:Addr}{v:Value}(h:w.cell? a=some v)(hb:bW w w'):w'.cell? a=some v:=(hb.cell (lt_of_cell h)).trans h
def jK(w:World)(E:Value)(e i:Int):Prop:=
 (E=.nilIface/\e=0/\i=-1)\/(E=.iface 25 (iI e)/\e≠0/\i=-1)\/(∃b,E=.iface 299 (pP b)/\e≠0/\w.cell? (aA b 0)=some (iI e)/\w.cell? (aA b 1)=some (iI i))
def fI(k:Int):Value:=if k=0 then .nilIface else .iface 25 (iI k)
theorem aDz:fI 0=.nilIface:=rfl
theorem aSy:fI 1=.iface 25 (iI 1):=rfl
theorem aSz:fI 2=.iface 25 (iI 2):=rfl
section
variable{a b:Act}
theorem zA{α:Type}(l:List α)(i:Nat)(a:α):l.toArray.setIfInBounds i a=(l.set i a).toArray:=by simp
theorem zB{α:Type}(x:α)(l:List α)(a:α):(x::l).set 0 a=a::l:=rfl
theorem zC{α:Type}(x:α)(l:List α)(n:Nat)(a:α):(x::l).set (n+1) a=x::l.set n a:=rfl
theorem opAt{sX:Array Oper}{i:Nat}{o:Oper}{r:List Oper}(h:sX.toList.drop i=o::r):sX[i]?=some o:=by have:=congrArg (fun l=>l[0]?) h;exact zHh
section
variable{P:Program}{sX:Array Oper}{Q:Exit->Act->World->Prop}{md:Region.Mode}{S:World->Prop}{fuel:Nat}{listed:Array Bool}
theorem tk(i:Nat){v:Value}{w:World}{oi:Oper}{r:List Oper}(hS:S w)(h:wpAnyH P md sX Q S fuel (listed.setIfInBounds i true) b w)(hi:sX.toList.drop i=oi::r:=by exact rfl)(hs:Region.noSelect sX=true:=by kernel_rfl)(hf:Region.free md sX listed i=true:=by kernel_rfl)(hr:(Region.ready md sX listed).contains i=true:=by kernel_rfl)(hQ:∀c a w,Q (.panic c) (a.put oi.dst v) w->Q (.panic c) a w:=by exact fun _ _ _ h=>h)(hy:YieldsIf P sX S oi v a:=by exact Or.inl ⟨oq,by(intro w hSw;(try dsimp only at hSw);go_simp<;>with_reducible rfl)⟩)(hb:a.put oi.dst v=b:=by(simp only[Act.put,zA,zB,zC];exact rfl)):wpAnyH P md sX Q S (fuel+1) listed a w:=wpAnyH_take (opAt hi) hs hf hr hQ hy hS (hb▸h)
theorem eA(i:Nat){o:Oper}{r:List Oper}{w:World}(h:∀K':Act->World->Prop,Shut (∀a w,S w->(S w->wpAnyH P md sX Q S fuel (listed.setIfInBounds i true) a w)->K' a w)->if Region.wanted o (yielded sX a.tmps)=true then Oper.wp P o a w K' Q else K' (a.put o.dst undef) w)(ho:sX.toList.drop i=o::r:=by exact rfl)(hr:Region.ready md sX listed=[i]:=by kernel_rfl):wpAnyH P md sX Q S (fuel+1) listed a w:=wpAnyH_ready hr oh (AllReadyH.cons (opAt ho) h AllReadyH.nil)
theorem Y5(i j:Nat){o p:Oper}{r s:List Oper}{w:World}(h:∀K':Act->World->Prop,Shut (∀a w,S w->(S w->wpAnyH P md sX Q S fuel (listed.setIfInBounds i true) a w)->K' a w)->if Region.wanted o (yielded sX a.tmps)=true then Oper.wp P o a w K' Q else K' (a.put o.dst undef) w)(k:∀K':Act->World->Prop,Shut (∀a w,S w->(S w->wpAnyH P md sX Q S fuel (listed.setIfInBounds j true) a w)->K' a w)->if Region.wanted p (yielded sX a.tmps)=true then Oper.wp P p a w K' Q else K' (a.put p.dst undef) w)(ho:sX.toList.drop i=o::r:=by exact rfl)(hp:sX.toList.drop j=p::s:=by exact rfl)(hr:Region.ready md sX listed=[i,j]:=by kernel_rfl):wpAnyH P md sX Q S (fuel+1) listed a w:=wpAnyH_ready hr oh (AllReadyH.cons (opAt ho) h (AllReadyH.cons (opAt hp) k AllReadyH.nil))
theorem kp{K:Act->World->Prop}{w:World}(hK:Shut (∀a w,S w->(S w->wpAnyH P md sX Q S fuel listed a w)->K a w))(h:S w->wpAnyH P md sX Q S fuel listed b w)(hs:S w:=by((try dsimp only);go_keep))(hb:a=b:=by((try simp only[Act.put,zA,zB,zC]);exact rfl)):K a w:=hK.out _ _ hs (hb▸h)
theorem dn{w:World}(h:Q .normal a w)(hr:Region.ready md sX listed=[]:=by kernel_rfl):wpAnyH P md sX Q S fuel listed a w:=wpAnyH_done hr h _
end
end
def bE(w:World)(a:Option Addr)(l:List Int):Prop:=
 0<l.length->∃b off,a=some (aA b off)/\b<w.heap.size/\∀j,j<l.length->w.cell? (aA b (off+j))=some (iI (l.getD j 0))
theorem bE.below{w w':World}{a:Option Addr}{l:List Int}(h:bE w a l)(hb:bW w w'):bE w' a l:=fun h0=>by obtain⟨b,off,e,hl,hc⟩:=h h0;exact⟨b,off,e,kB hl hb.size,fun j hj=>bc hb hl (hc j hj)⟩
def C4(a:Int):Int:=if a+1=256 then 1 else a+1
def pA(a:Int):Nat->Int
 |0=>a
 |k+1=>C4 (pA a k)
def xF(a seq:Int):Nat->Bool
 |0=>false
 |k+1=>xF a seq k||decide (pA a (k+1)=seq)
def takeB(nw seq:Int):Bool:=decide (0<=seq/\seq<=255)&&(decide (nw<0)||xF nw seq 127)
theorem aD2{a:Int}(h0:0<=a)(h1:a<=255):∀k,0<=pA a k/\pA a k<=255
 |0=>⟨h0,h1⟩
 |k+1=>by have:=aD2 h0 h1 k;show 0<=C4 (pA a k)/\C4 (pA a k)<=255;unfold C4;split<;>omega
def mH(k:Nat):Int:=if k=0 then 0 else(((k-1)%255+1:Nat):Int)
theorem aO2(k:Nat):0<=mH k/\mH k<=255:=by unfold mH;split<;>omega
theorem aCt(k:Nat):C4 (mH k)=mH (k+1):=by
 rcases Nat.eq_zero_or_pos k with rfl|hk
 ·decide
 ·have e1:mH k=(((k-1)%255+1:Nat):Int):=kI od;have e2:mH (k+1)=(((k+1-1)%255+1:Nat):Int):=kI od;rw[e1,e2];unfold C4;split<;>omega
theorem aAi(k:Nat):∀d,pA (mH k) d=mH (k+d)
 |0=>rfl
 |d+1=>by show C4 (pA (mH k) d)=mH (k+(d+1));rw[aAi k d,aCt];rfl
theorem aHo{a seq:Int}:∀{n:Nat},xF a seq n=true↔∃d,1<=d/\d<=n/\pA a d=seq
 |0=>⟨fun h=>Oy,fun⟨d,h1,h2,_⟩=>od⟩
 |n+1=>by
  show(xF a seq n||decide (pA a (n+1)=seq))=true↔_;rw[Bool.or_eq_true,decide_eq_true_eq,aHo];constructor
  ·rintro(⟨d,h1,h2,h3⟩|h)
   ·exact⟨d,h1,od,h3⟩
   ·exact⟨n+1,od,kF _,h⟩
  ·rintro⟨d,h1,h2,h3⟩;rcases Nat.lt_or_ge d (n+1)with q|q
   ·exact .inl ⟨d,h1,od,h3⟩
   ·obtain rfl:d=n+1:=by omega
    exact .inr h3
def uK(t:Bool)(seq nw:Int):Int:=if t=true then seq else nw
def aFu(t:Bool)(a:Int):Int:=if t=true then a+1 else a
def aO8(t:Bool)(b:Int):Int:=if t=true then b else b+1
theorem aJ9{nw seq:Int}(h:takeB nw seq=true):0<=seq/\seq<=255:=by unfold takeB at h;rw[Bool.and_eq_true,decide_eq_true_eq]at h;exact h.1
section
variable{e frame i:Int}{f fr pt tq:Nat->Int}{j k n:Nat}
def bY(f:Nat->Int)(n:Nat)(e i:Int):Prop:=
 (∀j,j<n->f j=0)/\e=0/\i=0\/∃k:Nat,k<n/\(∀j,j<k->f j=0)/\f k=e/\e≠0/\i=k
theorem bY.aSg(h:bY f n e i)(hk:k<n)(h0:∀j,j<k->f j=0)(hf:f k≠0):e=f k/\i=k:=by
 rcases h with⟨ha,_,_⟩|⟨k',hk',h0',he,dM,hi⟩
 ·exact absurd (ha k hk) hf
 ·rcases Nat.lt_trichotomy k k' with g|g|g
  ·exact absurd (h0' k g) hf
  ·subst g;exact⟨he.symm,hi⟩
  ·exact absurd ((h0 k' g).symm.trans he) (Ne.symm dM)
theorem bY.at_end(h:bY f n e i)(h0:∀j,j<n->f j=0):e=0/\i=0:=by
 rcases h with⟨_,he,hi⟩|⟨k',hk',_,he,dM,_⟩
 ·exact⟨he,hi⟩
 ·exact absurd ((h0 k' hk').symm.trans he) (Ne.symm dM)
theorem bY.is(h:bY f n e i)(hk:k<n)(h0:∀j,j<k->f j=0){c:Int}(hf:f k=c)(hc:c≠0):e=c/\i=k:=by have g:=h.aSg hk h0 (by rw[hf];exact hc);exact⟨g.1.trans hf,g.2⟩
theorem bY.bound(h:bY f n e i):0<=i/\i<=n:=by rcases h with⟨_,_,hi⟩|⟨k,hk,_,_,_,hi⟩<;>omega
theorem bY.any(f:Nat->Int):∀n:Nat,∃e i,bY f n e i:=by
 intro n
 induction n with
 |zero=>exact⟨0,0,.inl ⟨fun j hj=>absurd hj (kT _),rfl,rfl⟩⟩
 |succ n ih=>
  obtain⟨e,i,h⟩:=ih
  rcases h with⟨ha,_,_⟩|⟨k,hk,h0,he,dM,hi⟩
  ·by_cases hf:f n=0
   ·refine⟨0,0,.inl ⟨fun j hj=>?_,rfl,rfl⟩⟩
    rcases Nat.lt_succ_iff_lt_or_eq.1 hj with g|g
    ·exact ha j g
    ·rw[g];exact hf
   ·exact⟨f n,n,.inr ⟨n,Nat.lt_succ_self _,ha,rfl,hf,rfl⟩⟩
  ·exact⟨e,i,.inr ⟨k,Nat.lt_succ_of_lt hk,h0,he,dM,hi⟩⟩
theorem pW(h0:∀j,j<k->f j=0)(h:f k=0):∀j,j<k+1->f j=0:=by
 intro j hj;rcases Nat.lt_succ_iff_lt_or_eq.1 hj with g|g
 ·exact h0 j g
 ·rw[g];exact h
def fH(pt fr tq:Nat->Int)(frame:Int)(j:Nat):Int:=
 if tq j<=fr j then 1 else if(j=0/\fr j<0)\/(0<j/\fr j<tq (j-1))then 10 else if frame<tq j then 2 else if pt j<0\/5<pt j then 7 else 0
theorem aWg(h:tq j<=fr j):fH pt fr tq frame j=1:=by simp[fH,h]
theorem aD6(h:fr j<tq j)(h2:(j=0/\fr j<0)\/(0<j/\fr j<tq (j-1))):fH pt fr tq frame j=10:=by unfold fH;rw[kI od,kJ h2]
theorem aK0(h:fr j<tq j)(h2:¬((j=0/\fr j<0)\/(0<j/\fr j<tq (j-1))))(h3:frame<tq j):fH pt fr tq frame j=2:=by unfold fH;rw[kI od,kI h2,kJ h3]
theorem K9(h:fr j<tq j)(h2:¬((j=0/\fr j<0)\/(0<j/\fr j<tq (j-1))))(h3:tq j<=frame)(h4:pt j<0\/5<pt j):fH pt fr tq frame j=7:=by unfold fH;rw[kI od,kI h2,kI od,kJ h4]
theorem aJz(h:fr j<tq j)(h2:¬((j=0/\fr j<0)\/(0<j/\fr j<tq (j-1))))(h3:tq j<=frame)(h4:0<=pt j)(h5:pt j<=5):fH pt fr tq frame j=0:=by unfold fH;rw[kI od,kI h2,kI od,kI od]
end
def mV(a b c d e f:Int)(vS vL:Value)(g:Int)(cp:Option Addr)(vO vR vD vM:Value):Array Value:=#[iI a,iI b,iI c,iI d,iI e,iI f,vS,vL,iI g,sV none 0 0,.pointer cp,vO,vR,vD,vM]
theorem yW(w:World):Calls prog 7 #[] w fun e w'=>e=rT (pP w.heap.size)/\w'=w.alloc (.cells (mV 0 0 0 0 0 0 (sV none 0 0) (sV none 0 0) 1 none (sV none 0 0) (sV none 0 0) (sV none 0 0) (sV none 0 0)) 70):=by go_enter func7,ntmps7;go_wp2;go_ret;trace_state;exact zIf
theorem wR(n:Nat)(h:n<9223372036854775808):IntKind.i64.wrap (n:Int)=(n:Int):=zDd
theorem aAd(a b:Nat)(ha:a<9223372036854775808)(hb:b<9223372036854775808):bits .or .i64 (a:Int) (b:Int)=((a|||b:Nat):Int):=by show IntKind.i64.wrap ((BitVec.ofInt 64 (a:Int)|||BitVec.ofInt 64 (b:Int)).toNat:Int)=_;rw[BitVec.toNat_or,ofInt_u64 a od,ofInt_u64 b od];exact wR _ (Nat.or_lt_two_pow (n:=63) ha hb)
theorem R9(a b:Nat)(ha:a<9223372036854775808)(hb:b<9223372036854775808):bits .and .i64 (a:Int) (b:Int)=((a&&&b:Nat):Int):=by show IntKind.i64.wrap ((BitVec.ofInt 64 (a:Int)&&&BitVec.ofInt 64 (b:Int)).toNat:Int)=_;rw[BitVec.toNat_and,ofInt_u64 a od,ofInt_u64 b od];exact wR _ (Nat.and_lt_two_pow (n:=63) a hb)
theorem aH7(a b:Nat)(ha:a<9223372036854775808)(hb:b<9223372036854775808):bits .xor .i64 (a:Int) (b:Int)=((a^^^b:Nat):Int):=by show IntKind.i64.wrap ((BitVec.ofInt 64 (a:Int)^^^BitVec.ofInt 64 (b:Int)).toNat:Int)=_;rw[BitVec.toNat_xor,ofInt_u64 a od,ofInt_u64 b od];exact wR _ (Nat.xor_lt_two_pow (n:=63) ha hb)
section
variable{d n x:Int}
theorem aRx(hn:1<=n)(hd:1<=d):x<=(x*d+n-1)/n*n/d:=by
 have h1:x*d<=(x*d+n-1)/n*n:=by have e:=Int.mul_ediv_add_emod (x*d+n-1) n;have l:=Int.emod_lt_of_pos (x*d+n-1) (show 0<n by omega);rw[Int.mul_comm]at e;omega
 exact Int.le_ediv_of_mul_le od h1
theorem aWc(hn:1<=n)(hd:1<=d):((x*d+n-1)/n-1)*n/d<x:=by
 apply Int.ediv_lt_of_lt_mul od;have e:=Int.mul_ediv_add_emod (x*d+n-1) n;have g:=Int.emod_nonneg (x*d+n-1) (show n≠0 by omega);rw[Int.mul_comm]at e;have m:((x*d+n-1)/n-1)*n=(x*d+n-1)/n*n-n:=by rw[Int.sub_mul,Int.one_mul]
 omega
theorem bDy(hx:1<=x)(hn:1<=n)(hd:1<=d):1<=(x*d+n-1)/n:=by apply Int.le_ediv_of_mul_le od;have:1*1<=x*d:=Int.mul_le_mul hx hd od od;omega
theorem G4{p q:Int}(h:p<=q)(hn:1<=n)(hd:1<=d):p*n/d<=q*n/d:=
 Int.ediv_le_ediv od (Int.mul_le_mul_of_nonneg_right h od)
end
theorem lit(L:List Value)(n:Nat)(h:L.length=n):∃f:Nat->Value,L=(List.range n).map f:=by refine⟨fun i=>L.getD i undef,List.ext_getElem (by simp[h]) fun i h1 h2=>?_⟩;simp[List.getD,h1]
theorem aX{f:Nat->Value}{n i:Nat}{v:Value}(h:((List.range n).map f)[i]?=some v):f i=v:=by
 rw[List.getElem?_map]at h
 cases e:(List.range n)[i]? with
 |none=>rw[e]at h;cases h
 |some j=>
  rw[e]at h
  have hj:j=i:=by
   rw[List.getElem?_eq_some_iff]at e
   obtain⟨h1,h2⟩:=e
   simpa using h2.symm
  subst hj
  exact kW h
def Rest(W:Nat->Bool)(L L':List Value):Prop:=∀i,W i=false->L'[i]?=L[i]?
def aVf(f:Nat->Value)(W:Nat->Bool):Nat->List Value->Prop
 |_,[]=>True
 |k,x::l=>(W k=true\/x=f k)/\aVf f W (k+1) l
theorem aIp{f:Nat->Value}{W:Nat->Bool}:∀{l:List Value}{k:Nat},aVf f W k l->∀i,i<l.length->W (k+i)=false->l[i]?=some (f (k+i))
 |x::l,k,h,0,_,hn=>by
  rcases h.1 with q|q
  ·rw[Nat.add_zero,q]at hn;cases hn
  ·simp[q]
 |x::l,k,h,i+1,hi,hn=>by
  have e:k+1+i=k+(i+1):=od
  have:=aIp (l:=l) (k:=k+1) h.2 i (by simpa using hi) (by rw[e];exact hn)
  rw[e]at this
  simpa using this
theorem Rest.of{f:Nat->Value}{W:Nat->Bool}{l:List Value}{n:Nat}(hl:l.length=n)(h:aVf f W 0 l:=by repeat(first|exact trivial|refine⟨.inr rfl,?_⟩|refine⟨.inr (Eq.symm Oe),?_⟩|refine⟨.inl rfl,?_⟩)):Rest W ((List.range n).map f) l:=fun i hn=>by
 by_cases hi:i<l.length
 ·rw[aIp h i hi (by simpa using hn)];simp[<-hl,hi]
 ·rw[List.getElem?_eq_none od,List.getElem?_eq_none ol]
def ov(W:Nat->Bool)(g:Nat->Value):Nat->List Value->List Value
 |_,[]=>[]
 |k,x::l=>(if W k=true then g k else x)::ov W g (k+1) l
theorem aUb(W:Nat->Bool)(g:Nat->Value):∀(l:List Value)(k:Nat),(ov W g k l).length=l.length
 |[],_=>rfl
 |x::l,k=>by simp[ov,aUb W g l]
theorem bAk(W:Nat->Bool)(g:Nat->Value):∀(l:List Value)(k i:Nat),i<l.length->(ov W g k l)[i]?=if W (k+i)then some (g (k+i))else l[i]?
 |x::l,k,0,_=>by
  simp only[ov,List.getElem?_cons_zero,Nat.add_zero]
  cases W k<;>simp
 |x::l,k,i+1,hi=>by
  have e:k+1+i=k+(i+1):=od
  have:=bAk W g l (k+1) i (by simpa using hi)
  rw[e]at this
  simpa[ov]using this
theorem Rest.over{W:Nat->Bool}{L L':List Value}(h:Rest W L L')(hl:L'.length=L.length):∃g,L'=ov W g 0 L:=by
 refine⟨fun i=>L'.getD i undef,List.ext_getElem? fun i=>?_⟩;by_cases hi:i<L.length
 ·rw[bAk W _ L 0 i hi,Nat.zero_add]
  cases hw:W i with
  |true=>
   have h2:i<L'.length:=od
   simp[List.getD,h2]
  |false=>simpa using h i hw
 ·rw[List.getElem?_eq_none od,List.getElem?_eq_none (by rw[aUb];omega)]

def pT(w:World):Prop:=0<w.heap.size/\w.cell? (aA 0 0)=some (iI 0)/\w.cell? (aA 0 1)=some (iI (-1))
theorem pT.below{w w':World}(h:pT w)(hb:bW w w'):pT w':=
 ⟨kB h.1 hb.size,bc hb h.1 h.2.1,bc hb h.1 h.2.2⟩
section
variable{P Q i:Nat}
theorem aY{w:World}{v u:Value}(h:w.cell? (aA P i)=some u):(w.setCell (aA P i) v).cell? (aA P i)=some v:=World.cell?_setCell_same _ _ _ h
theorem aB{w:World}{j:Nat}{v:Value}(h:Q≠P\/j≠i):(w.setCell (aA P i) v).cell? (aA Q j)=w.cell? (aA Q j):=World.cell?_setCell_other _ _ _ _ (fun e=>by
 rcases h with q|q
 ·exact q (congrArg Addr.block e).symm
 ·exact q (congrArg Addr.off e).symm)
theorem bI{w:World}{p q:Addr}{v:Value}: (w.setCell p v).frozen? q=w.frozen? q:=by simp
theorem aU.drawn{w:World}(q:Nat):aU P Q w (w.drewN q):=⟨rfl,rfl,rfl,kF _,fun _ _ _ _=>rfl⟩
end
section
variable{high low:Int}
section
variable{n f:Nat}{ok:Nat->Bool}{u:Int}{now:Nat->Int}{row:Nat->Nat->Int}
theorem aYl(hc:n-f<=(List.range n).countP ok)(h3:3*f+1<=n)
  (hr:∀i k,i<n->ok i=true->k<n->ok k=true->now k-now i-u<=row i k/\row i k<=now k-now i+u)(i j:Nat)(qC:i<n)(hi:ok i=true)(D8:j<n)(hj:ok j=true):
  now i+nP ((List.range n).map (row i)) f<=now j+nP ((List.range n).map (row j)) (n-1-f)+2*u:=have m98:=0;zLe
theorem bC3(hc:n-f<=(List.range n).countP ok)(hf:f<n)
  (hr:∀i k,i<n->ok i=true->k<n->ok k=true->now k-now i-u<=row i k/\row i k<=now k-now i+u)
  (hl:∀k,k<n->ok k=true->low<=now k)(i:Nat)(qC:i<n)(hi:ok i=true):
  low-u<=now i+nP ((List.range n).map (row i)) f:=by have c2:=D7 ((List.range n).map (row i)) f ol;rw[List.countP_map]at c2;obtain⟨k,hk,b,c⟩:=Y2 _ _ (List.range n) (show(List.range n).length<_ by rw[List.length_range];exact kB (by omega:n<(f+1)+(n-f)) (Nat.add_le_add c2 hc));have hk:=List.mem_range.1 hk;simp at b;have h1:=hr i k qC hi hk c;have h2:=hl k hk c;omega
theorem aXu(hc:n-f<=(List.range n).countP ok)(hf:f<n)
  (hr:∀i k,i<n->ok i=true->k<n->ok k=true->now k-now i-u<=row i k/\row i k<=now k-now i+u)
  (hh:∀k,k<n->ok k=true->now k<=high)(i:Nat)(qC:i<n)(hi:ok i=true):
  now i+nP ((List.range n).map (row i)) (n-1-f)<=high+u:=have bC7:=0;zMe
theorem aPa(hc:n-f<=(List.range n).countP ok)(h3:3*f+1<=n)
  (hr:∀i k,i<n->ok i=true->k<n->ok k=true->now k-now i-u<=row i k/\row i k<=now k-now i+u)
  (hl:∀k,k<n->ok k=true->low<=now k)(hh:∀k,k<n->ok k=true->now k<=high)(i j:Nat)(qC:i<n)(hi:ok i=true)(D8:j<n)(hj:ok j=true):
  mW n f now row i-mW n f now row j<=(high-low)/2+2*u+1:=by have a1:=aYl hc h3 hr i j qC hi D8 hj;have a2:=bC3 hc od hr hl j D8 hj;have a3:=aXu hc od hr hh i qC hi;exact zEf
theorem aXi(now:Nat->Int)(ok:Nat->Bool):∀n:Nat,(∃k,k<n/\ok k=true)->∃a b,(a<n/\ok a=true)/\(b<n/\ok b=true)/\∀k,k<n->ok k=true->now a<=now k/\now k<=now b:=by
 intro n
 induction n with
 |zero=>rintro⟨k,hk,_⟩;omega
 |succ n ih=>
  rintro⟨k,hk,lF⟩
  by_cases he:∃k,k<n/\ok k=true
  ·obtain⟨a,b,⟨ha,oa⟩,⟨hb,ob⟩,hab⟩:=ih he
   by_cases on:ok n=true
   ·refine⟨if now n<now a then n else a,if now b<now n then n else b,?_,?_,fun k hk ok=>?_⟩
    ·split
     ·exact⟨od,on⟩
     ·exact⟨od,oa⟩
    ·split
     ·exact⟨od,on⟩
     ·exact⟨od,ob⟩
    ·have h1:=hab a ha oa
     have h2:=hab b hb ob
     rcases Nat.lt_or_ge k n with q|q
     ·have:=hab k q ok
      constructor
      ·split<;>omega
      ·split<;>omega
     ·obtain rfl:k=n:=by omega
      constructor
      ·split<;>omega
      ·split<;>omega
   ·refine⟨a,b,⟨od,oa⟩,⟨od,ob⟩,fun k hk ok=>?_⟩
    rcases Nat.lt_or_ge k n with q|q
    ·exact hab k q ok
    ·obtain rfl:k=n:=by omega
     exact absurd ok on
  ·have M2:k=n:=by
    rcases Nat.lt_or_ge k n with q|q
    ·exact absurd ⟨k,q,lF⟩ he
    ·omega
   subst M2
   refine⟨k,k,⟨od,lF⟩,⟨od,lF⟩,fun j hj oj=>?_⟩
   rcases Nat.lt_or_ge j k with q|q
   ·exact absurd ⟨j,q,oj⟩ he
   ·obtain rfl:j=k:=by omega
    exact⟨Int.le_refl _,Int.le_refl _⟩
theorem aMq{aJ D:Int}{dr:Nat->Int}(hc:n-f<=(List.range n).countP ok)(h3:3*f+1<=n)(hS:aJ/2+2*u+1+2*D<=aJ)
  (hr:∀i k,i<n->ok i=true->k<n->ok k=true->now k-now i-u<=row i k/\row i k<=now k-now i+u)
  (hs:∀i j,i<n->ok i=true->j<n->ok j=true->now i-now j<=aJ)(hd:∀i,i<n->-D<=dr i/\dr i<=D)(i j:Nat)(qC:i<n)(hi:ok i=true)(D8:j<n)(hj:ok j=true):
  (mW n f now row i+dr i)-(mW n f now row j+dr j)<=aJ:=by obtain⟨a,b,⟨ha,oa⟩,⟨hb,ob⟩,hab⟩:=aXi now ok n ⟨i,qC,hi⟩;have h1:=aPa hc h3 hr (fun k hk o=>(hab k hk o).1) (fun k hk o=>(hab k hk o).2) i j qC hi D8 hj;have h2:=hs b a hb ob ha oa;have h3:=hd i qC;have h4:=hd j D8;omega
theorem aSq(lies:Nat->Bool)(n f:Nat)(h:(List.range n).countP lies<=f):n-f<=(List.range n).countP (fun k=>!lies k):=by
 have e:=List.length_eq_countP_add_countP lies (l:=List.range n);rw[List.length_range]at e;have e2:(List.range n).countP (fun k=>!lies k)=(List.range n).countP (fun a=>decide ¬lies a=true):=by congr 1;funext k;cases lies k<;>rfl
 omega
end
end
def N1:Value:=sT ByteArray.empty
def xV(n aP:Nat)(t last bag:Int):Bool:=decide (aP=n)||(decide (0<aP)&&decide (t<last+bag))
def putK(many:Nat)(queue:Int)(d:ByteArray):Int:=if 40<d.size then 4 else if queue<=(many:Int)then 12 else 0
def fU(many aP:Nat)(t now last bag:Int):Int:=if ¬(0<=t/\t<=1099511627776)then 2 else if t<now then 10 else if xV many aP t last bag=true then 8 else 0
def oY(K:Int)(all:List ByteArray)(d:ByteArray):List ByteArray:=if K=0 then all++[d]else all
def jZ(K:Int)(aP:Nat):Int:=if K=0 then mH aP else 0
def jY(K:Int)(all:List ByteArray)(aP:Nat):ByteArray:=if K=0 then all.getD aP ByteArray.empty else ByteArray.empty
def K0(K:Int)(aP:Nat):Nat:=if K=0 then aP+1 else aP
def pF(K t last:Int):Int:=if K=0 then t else last
def Y7(K t now:Int):Int:=if K=0\/K=8 then t else now
def tb(m:Int)(j:Nat):Bool:=m.toNat.testBit j
theorem Z9(a j:Nat):((a&&&2^j) !=0)=a.testBit j:=by
 cases h:a.testBit j
 ·have:a&&&2^j=0:=Nat.eq_of_testBit_eq fun i=>by
   rw[Nat.testBit_and,Nat.testBit_two_pow,Nat.zero_testBit];by_cases e:j=i
   ·subst e;rw[h];rfl
   ·rw[kC e,Bool.and_false]
  rw[this];rfl
 ·have:a&&&2^j≠0:=fun e=>by
   have g:(a&&&2^j).testBit j=true:=by rw[Nat.testBit_and,Nat.testBit_two_pow_self,h];rfl
   rw[e,Nat.zero_testBit]at g;cases g
  exact zHh
theorem jE(j:Nat):((2:Int)^j)=((2^j:Nat):Int):=by simp
theorem aX0{m:Int}{n j:Nat}(h0:0<=m)(h1:m<2^n)(hn:n<=16)(hj:j<n):(bits BinOp.and .i64 m (2^j) !=0)=tb m j:=by
 have p1:(2:Int)^n<=2^16:=xH hn;have p2:(2:Int)^j<=2^16:=xH od;have p3:(2:Int)^16=65536:=oe;obtain⟨a,rfl⟩:=Int.eq_ofNat_of_zero_le h0;have hb:(2:Nat)^j<9223372036854775808:=by
  have:((2^j:Nat):Int)<=65536:=by rw[<-jE];omega
  omega
 rw[jE,R9 a (2^j) od hb];unfold tb;rw[Int.toNat_natCast,<-Z9];cases e:(a&&&2^j) !=0
 ·have:a&&&2^j=0:=by simpa using e
  rw[this];rfl
 ·have:a&&&2^j≠0:=by simpa using e
  simp only[bne_iff_ne,ne_eq];omega
theorem oF(s:Nat->Bool):∀n j,tb (aZ s n) j=(decide (j<n)&&s j)
 |0,j=>by unfold tb;simp[aZ]
 |n+1,j=>by
  have ih:=oF s n j;have hb:=mO s n;unfold tb at ih⊢;obtain⟨a,ha⟩:=Int.eq_ofNat_of_zero_le hb.1;have hlt:a<2^n:=by have:=hb.2;rw[ha,jE]at this;omega
  simp only[aZ];rw[ha]at ih⊢;rw[Int.toNat_natCast]at ih;cases hs:s n
  ·simp only[Bool.false_eq_true,if_false,Int.add_zero];rw[Int.toNat_natCast,ih];by_cases e:j=n
   ·subst e;rw[hs];simp
   ·congr 1;exact decide_eq_decide.2 od
  ·simp only[if_true];rw[jE,show((a:Int)+((2^n:Nat):Int)).toNat=2^n*1+a by omega,Nat.two_pow_add_eq_or_of_lt hlt,Nat.testBit_or,ih,Nat.mul_one,Nat.testBit_two_pow];by_cases e:n=j
   ·subst e;rw[hs];simp
   ·rw[kC e,Bool.false_or];congr 1;exact decide_eq_decide.2 od
theorem aSh{m:Int}{n:Nat}(h0:0<=m)(h1:m<2^n):aZ (tb m) n=m:=by
 have hb:=mO (tb m) n;have e:(aZ (tb m) n).toNat=m.toNat:=Nat.eq_of_testBit_eq fun i=>by
  have this:(aZ (tb m) n).toNat.testBit i=(decide (i<n)&&m.toNat.testBit i):=oF (tb m) n i;rw[this];by_cases hi:i<n
  ·rw[kD hi,Bool.true_and]
  ·rw[kC hi,Bool.false_and];refine(Nat.testBit_lt_two_pow ?_).symm;have h2:m.toNat<2^n:=by
    have:((m.toNat:Nat):Int)<((2^n:Nat):Int):=by rw[<-jE];omega
    omega
   exact kB h2 (Nat.pow_le_pow_right oe od)
 omega
theorem gF{s t:Nat->Bool}:∀{n:Nat},(∀j,j<n->s j=t j)->aZ s n=aZ t n
 |0,_=>rfl
 |n+1,h=>by simp only[aZ];rw[gF (n:=n) fun j hj=>h j od,h n od]

theorem aS1(k:Nat)(h0:0<k)(h:k<=1000):IntKind.i64.wrap ((k:Int)-1)=(k:Int)-1:=zD7
theorem oB{a b c d:Int}(h:c=a/\d=b):Ending.returned (tU #[iI a,iI b])=rT (tU #[iI c,iI d]):=by rw[h.1,h.2]
theorem aG2(pt fr tq:Nat->Int)(frame e i:Int)(b off n cap:Nat)(w:World)(hn:n<=1000)
  (hc:∀j,j<n->w.cell? ⟨b,off+j*3,none⟩=some (iI (pt j))/\w.cell? ⟨b,off+j*3+1,none⟩=some (iI (fr j))/\w.cell? ⟨b,off+j*3+2,none⟩=some (iI (tq j)))(hb:b<w.heap.size)
  (hF:bY (fH pt fr tq frame) n e i):
  Calls prog 152 #[sV (some (aA b off)) n cap,iI frame] w fun ev w'=>ev=rT (tU #[iI e,iI i])/\bW w w':=by
 have HF:Hid (bY (fH pt fr tq frame) n e i):=hF;have HC:Hid (∀j,j<n->w.cell? ⟨b,off+j*3,none⟩=some (iI (pt j))/\w.cell? ⟨b,off+j*3+1,none⟩=some (iI (fr j))/\w.cell? ⟨b,off+j*3+2,none⟩=some (iI (tq j))):=hc;clear hF hc;go_enter func152,ntmps152;go_wp2;go_loopw[10] (fun t wr=>∃k:Nat,k<=n/\t=iI k/\Hid (∀j,j<k->fH pt fr tq frame j=0)/\bW w wr) (fun t _=>n-(intOf t).toNat);case atStart=>exact⟨0,kH _,rfl,fun j hj=>absurd hj (kT _),kX _ _⟩
 case round=>
  obtain⟨k,hk,rfl,h0,bT⟩:=hrel;by_cases hlt:k<n
  ·have m43:=0;exact zJv
  ·go_wp2;go_ret2;exact⟨oB (HF.out.at_end (fun j hj=>h0.out j od)),bT⟩

section
variable{bU gH id:Int}
def eZ(g b:Int)(fz:Bool):Bool:=!fz&&decide (b<g)
def sK(id:Int)(n:Nat)(fz:Bool)(gH bU:Int):Bool:=!fz&&decide (0<=gH/\gH<n/\gH≠id/\0<=bU/\bU<=2)
def eV(n:Nat)(t s:Nat->Bool)(gH m:Int):Int:=if(0<=gH/\gH<n)/\0<=m/\m<2^n/\F4 n gH.toNat s t=true then 1 else 2
def heT(id:Int)(n:Nat)(fz:Bool)(gH bU:Int)(t:Nat->Bool):Nat->Bool:=fun j=>if sK id n fz gH bU=true/\(j:Int)=gH then decide (bU=1)else t j
def heG(id:Int)(n:Nat)(fz:Bool)(gH bU g:Int):Int:=if sK id n fz gH bU=true/\bU=1 then g+1 else g
def heB(id:Int)(n:Nat)(fz:Bool)(gH bU b:Int):Int:=if sK id n fz gH bU=true/\bU=2 then b+1 else b
theorem R3{n:Nat}{fz:Bool}(h:sK id n fz gH bU=true):fz=false/\∃k:Nat,gH=(k:Int)/\k<n/\(k:Int)≠id/\0<=bU/\bU<=2:=by unfold sK at h;simp only[Bool.and_eq_true,Bool.not_eq_true',decide_eq_true_eq]at h;obtain⟨h1,h2,h3,h4,h5,h6⟩:=h;exact⟨h1,gH.toNat,od,od,od,h5,h6⟩
theorem aGw{n:Nat}{fz:Bool}{k:Nat}(t:Nat->Bool)(h:sK id n fz k bU=true):heT id n fz k bU t=fun j=>if j=k then decide (bU=1)else t j:=by
 funext j;unfold heT;by_cases e:j=k
 ·rw[kJ ⟨h,od⟩,kJ e]
 ·rw[kI (fun y=>e od),kI e]
theorem aNr{n:Nat}{fz:Bool}(t:Nat->Bool)(h:sK id n fz gH bU=false):heT id n fz gH bU t=t:=by funext j;unfold heT;rw[kI (fun y=>by rw[h]at y;cases y.1)]
end
section
structure vV{I:Type}(w:World)(O:I->List Nat):Prop where
 lt:∀i c,c∈O i->c<w.heap.size
 ap:∀i j,i≠j->Apart (O i) (O j)
section
variable{I:Type}{w w':World}{O:I->List Nat}
def dV[DecidableEq I](O:I->List Nat)(i:I)(X:List Nat):I->List Nat:=fun j=>if j=i then X else O j
theorem cZ[DecidableEq I](O:I->List Nat)(i:I)(X:List Nat):dV O i X i=X:=kJ rfl
theorem bG[DecidableEq I](O:I->List Nat){i j:I}(X:List Nat)(h:j≠i):dV O i X j=O j:=kI h
theorem vV.same(h:vV w O){i:I}{X:List Nat}(k:aS (O i) X w w'){j:I}(hj:j≠i):Same (O j) w w':=k.same (h.ap i j (Ne.symm hj)) (h.lt j)
theorem vV.step[DecidableEq I](h:vV w O){i:I}{X:List Nat}(k:aS (O i) X w w')(hX:∀c,c∈X->c<w'.heap.size):vV w' (dV O i X):=by
 refine⟨fun j c hc=>?_,fun a b hab=>?_⟩
 ·by_cases e:j=i
  ·subst e;rw[cZ]at hc;exact hX c hc
  ·rw[bG _ _ e]at hc;exact kB (h.lt j c hc) k.size
 ·by_cases ea:a=i
  ·subst ea;rw[cZ,bG _ _ (Ne.symm hab)];exact k.apart (h.ap a b hab) (h.lt b)
  ·rw[bG _ _ ea];by_cases eb:b=i
   ·subst eb;rw[cZ];exact(k.apart (h.ap b a (Ne.symm hab)) (h.lt a)).symm
   ·rw[bG _ _ eb];exact h.ap a b hab
theorem vV.below(h:vV w O)(k:bW w w'):vV w' O/\∀i,Same (O i) w w':=
 ⟨⟨fun i c hc=>kB (h.lt i c hc) k.size,h.ap⟩,fun i=>Same.of_below k (h.lt i)⟩
theorem vV.add[DecidableEq I](h:vV w O){i:I}{X:List Nat}(k:bW w w')(hi:O i=[])(hX:∀c,c∈X->w.heap.size<=c/\c<w'.heap.size):vV w' (dV O i X):=by refine h.step (i:=i) ?_ (fun c hc=>(hX c hc).2);rw[hi];exact⟨k.os,k.tape,k.output,k.size,fun c hc _=>k.block c hc,fun c hc=>.inr (hX c hc).1⟩
end
end
section
variable{k n:Nat}
theorem aAc(a b:Nat)(ha:a<9223372036854775808)(hb:b<9223372036854775808):bits .andNot .i64 (a:Int) (b:Int)=((a&&&(18446744073709551615-b):Nat):Int):=by show IntKind.i64.wrap ((BitVec.ofInt 64 (a:Int)&&& ~~~BitVec.ofInt 64 (b:Int)).toNat:Int)=_;rw[BitVec.toNat_and,BitVec.toNat_not,ofInt_u64 a od,ofInt_u64 b od];have e:2^64-1-b=18446744073709551615-b:=od;rw[e];exact wR _ (Nat.lt_of_le_of_lt Nat.and_le_left ha)
theorem F9(h:k<=n):(2:Nat)^k<=2^n:=Nat.pow_le_pow_right oe h
theorem wL(h:k<=16):(2:Nat)^k<=65536:=F9 (n:=16) h
theorem aHa{a:Nat}{s:Nat->Bool}(h:∀j,a.testBit j=(decide (j<n)&&s j)):(a:Int)=aZ s n:=by
 have hb:=(mO s n).1;have e:(aZ s n).toNat=a:=Nat.eq_of_testBit_eq fun i=>by rw[h i];exact oF s n i
 omega
theorem M8(t:Nat->Bool)(n:Nat):∃a:Nat,aZ t n=(a:Int)/\a<2^n/\∀j,a.testBit j=(decide (j<n)&&t j):=by
 have hb:=mO t n;refine⟨(aZ t n).toNat,od,?_,fun j=>oF t n j⟩;have:(((aZ t n).toNat:Nat):Int)<((2^n:Nat):Int):=by rw[<-jE];omega
 omega
theorem or_bit(t:Nat->Bool)(hn:n<=16)(hk:k<n):bits BinOp.or .i64 (aZ t n) (2^k)=aZ (fun j=>if j=k then true else t j) n:=zMv
theorem aOr(t:Nat->Bool)(hn:n<=16)(hk:k<n):bits BinOp.andNot .i64 (aZ t n) (2^k)=aZ (fun j=>if j=k then false else t j) n:=have aYa:=0;zMv
theorem aG9:∀n,aZ (fun _=>true) n=2^n-1
 |0=>rfl
 |n+1=>by have h:=aG9 n;have e:(2:Int)^(n+1)=2^n*2:=Int.pow_succ 2 n;simp only[aZ];rw[h,kJ trivial];omega
theorem aRv(t:Nat->Bool)(hk:k<n)(m:Int):m=aZ (fun j=>if j=k then true else t j) n↔0<=m/\m<2^n/\F4 n k (tb m) t=true:=by
 constructor
 ·intro e;have hb:=mO (fun j=>if j=k then true else t j) n;refine⟨od,od,qI.2 ⟨?_,fun j hj dM=>?_⟩⟩
  ·rw[e,oF,kD hk];simp
  ·rw[e,oF,kD hj,kI dM];rfl
 ·rintro⟨h0,h1,h2⟩;obtain⟨g1,g2⟩:=qI.1 h2;rw[<-aSh h0 h1];refine gF fun j hj=>?_;by_cases e:j=k
  ·subst e;rw[kJ rfl];exact g1
  ·rw[kI e];exact g2 j hj e
theorem aRa{m:Int}(hn:n<=16)(h0:-9223372036854775808<=m)(h1:m<9223372036854775808):(bits BinOp.andNot .i64 m (2^n-1) !=0)= !decide (0<=m/\m<2^n):=by
 have p1:=wL hn;have p0:0<(2:Nat)^n:=Nat.pow_pos oe;obtain⟨A,hA⟩:∃A,(BitVec.ofInt 64 m).toNat=A:=⟨_,rfl⟩;have hA2:(A:Int)=m%18446744073709551616:=by rw[<-hA,BitVec.toNat_ofInt];omega
 have hAl:A<2^64:=by rw[<-hA];exact(BitVec.ofInt 64 m).isLt
 have e1:((2:Int)^n-1)=((2^n-1:Nat):Int):=by rw[jE];omega
 obtain⟨X,hX⟩:∃X,A&&&(2^64-((2^n-1)+1))=X:=⟨_,rfl⟩;have hXl:X<2^64:=by rw[<-hX];exact Nat.lt_of_le_of_lt Nat.and_le_left hAl
 have eB:bits BinOp.andNot .i64 m (2^n-1)=IntKind.i64.wrap (X:Int):=by show IntKind.i64.wrap ((BitVec.ofInt 64 m&&& ~~~BitVec.ofInt 64 (2^n-1)).toNat:Int)=_;rw[e1,BitVec.toNat_and,BitVec.toNat_not,hA,ofInt_u64 (2^n-1) od];rw[<-hX];congr 3;omega
 have hz:IntKind.i64.wrap (X:Int)=0↔X=0:=by exact zDd
 have N2:∀i,X.testBit i=(A.testBit i&&(decide (i<64)&& !decide (i<n))):=fun i=>by rw[<-hX,Nat.testBit_and,Nat.testBit_two_pow_sub_succ od,Nat.testBit_two_pow_sub_one]
 have L9:X=0↔A<2^n:=by
  constructor
  ·intro e;refine Nat.lt_pow_two_of_testBit A fun i hi=>?_;by_cases q:i<64
   ·have:=N2 i;rw[e,Nat.zero_testBit,kD q,kC od]at this;simpa using this.symm
   ·exact Nat.testBit_lt_two_pow (kB hAl (F9 od))
  ·intro hlt;refine Nat.eq_of_testBit_eq fun i=>?_;rw[N2,Nat.zero_testBit];by_cases q:i<n
   ·rw[kD q];simp
   ·rw[Nat.testBit_lt_two_pow (kB hlt (F9 od))];rfl
 have hm:A<2^n↔(0<=m/\m<2^n):=by rw[jE];constructor<;>intro q<;>omega
 rw[eB];by_cases q:0<=m/\m<2^n
 ·rw[kD q,hz.2 (L9.2 (hm.2 q))];rfl
 ·rw[kC q,Bool.not_false];simp only[bne_iff_ne,ne_eq];intro e;exact q (hm.1 (L9.1 (hz.1 e)))
end
theorem Tryz.aCr(fn:Fn)(first cap:Array Value)(w:World):(Instr.makeFunc fn first cap).run prog w=.ok (.func fn first cap) w:=rfl
theorem bIr(a b:Int)(w:World)(h1:-1099511627776<=a)(h2:a<=1099511627776)(h3:-1099511627776<=b)(h4:b<=1099511627776)(h:1099511627776<a+b):
  Calls prog 213 #[iI a,iI b] w fun e w'=>e=rT (tU #[iI 0,.iface 25 (iI 2)])/\bW w w':=by have W9:=Tryz.aCr;have hp:-1099511627776<=a+b:=od;have hn:decide (a+b<=1099511627776)=false:=kC od;exact zDv
theorem bIs(a b:Int)(w:World)(h1:-1099511627776<=a)(h2:a<=1099511627776)(h3:-1099511627776<=b)(h4:b<=1099511627776)(h5:-1099511627776<=a+b)(h6:a+b<=1099511627776):
  Calls prog 213 #[iI a,iI b] w fun e w'=>e=rT (tU #[iI (a+b),.nilIface])/\bW w w':=by have W9:=Tryz.aCr;exact zDv
section
open Go.Maps (Keyed)
variable{b i j:Nat}
theorem Tryz.aTw:laidOutB prog=true:=by kernel_rfl
theorem Tryz.keyed2:Keyed prog 178:=Keyed.of_law (deep_law_gate Tryz.aTw (of_decide_eq_true og) (of_decide_eq_true og) og og)
def aAf(i j:Nat):Value:=.agg #[iI i,iI j]
theorem Tryz.keys2:((List.range 8).all fun i=>(List.range 16).all fun j=>(keyOf prog 178 (aAf i j)).isSome)=true:=by kernel_rfl
theorem aNx(hi:i<8)(hj:j<16):∃l,keyOf prog 178 (aAf i j)=some l:=by have h:=Tryz.keys2;rw[List.all_eq_true]at h;have h1:=h i (List.mem_range.2 hi);rw[List.all_eq_true]at h1;exact Option.isSome_iff_exists.1 (h1 j (List.mem_range.2 hj))
theorem aTu{i' j':Nat}(h:aAf i j=aAf i' j'):i=i'/\j=j':=by unfold aAf at h;injection h with h;simp at h;omega
def jL(w:World)(b:Nat)(g:Nat->Nat->Option Value):Prop:=
 ∃f,qT prog 178 w b f/\∀i j,i<8->j<16->f (aAf i j)=g i j
theorem jL.new(w:World):jL (w.alloc (.map #[] 0)) w.heap.size (fun _ _=>none):=⟨_,qT.new _ _ _,fun _ _ _ _=>rfl⟩
theorem jL.lt{w:World}{g:Nat->Nat->Option Value}(h:jL w b g):b<w.heap.size:=by obtain⟨f,h,_⟩:=h;exact h.lt
theorem jL.keep{w w':World}{g:Nat->Nat->Option Value}(h:jL w b g)(e:w'.heap[b]?=w.heap[b]?):jL w' b g:=zFp
theorem jL.look{w:World}{g:Nat->Nat->Option Value}(h:jL w b g){t e:TypeId}(ht:Tryz.prog.underlying t=some (.map 178 e)){z:Value}(hz:(zeroValue e).run prog w=.ok z w)(hi:i<8)(hj:j<16):
  (Instr.lookup t (.map (some b)) (aAf i j) false).run prog w=.ok ((g i j).getD z) w:=by obtain⟨f,h,r⟩:=h;obtain⟨l,hl⟩:=aNx hi hj;have:=h.look Tryz.keyed2 ht hz hl false;rw[r i j hi hj]at this;exact this
theorem jL.put{w:World}{g:Nat->Nat->Option Value}(h:jL w b g){t e:TypeId}(ht:Tryz.prog.underlying t=some (.map 178 e))(v:Value)(hi:i<8)(hj:j<16):
  ∃w',(Instr.mapUpdate t (.map (some b)) (aAf i j) v).run prog w=.ok () w'/\jL w' b (fun i' j'=>if i'=i/\j'=j then some v else g i' j')/\aU b b w w':=by
 obtain⟨f,h,r⟩:=h;obtain⟨l,hl⟩:=aNx hi hj;obtain⟨w',f',h1,h2,hp,h3⟩:=h.put (v:=v) Tryz.keyed2 ht hl;refine⟨w',h1,⟨f',h2,fun i' j' qC D8=>?_⟩,h3⟩;show f' (aAf i' j')=if i'=i/\j'=j then some v else g i' j';by_cases q:i'=i/\j'=j
 ·rw[kJ q,q.1,q.2];exact hp.1
 ·rw[kI q,hp.2 _ (fun e=>q (aTu e))];exact r i' j' qC D8
end
theorem aK1(pt fr tq:Nat->Int)(frame e i:Int)(a:Option Addr)(n cap:Nat)(w:World)(hn:n<=1000)(hr:dX w a n pt fr tq)(hF:bY (fH pt fr tq frame) n e i):
  Calls prog 152 #[sV a n cap,iI frame] w fun ev w'=>ev=rT (tU #[iI e,iI i])/\bW w w':=by
 rcases Nat.eq_zero_or_pos n with h0|h0
 ·subst h0;have g:=hF.at_end (fun j hj=>absurd hj (kT _));have G:Hid (e=0/\i=0):=g;clear hF g hr;go_enter func152,ntmps152;go_wp2;refine wp_loop_rounds 1 ?_;rw[rounds_succ];go_wp2;go_ret2;exact⟨oB G.out,kX _ _⟩
 ·obtain⟨b,off,rfl,hb,hc⟩:=hr h0;exact aG2 pt fr tq frame e i b off n cap w hn hc hb hF
section
variable{P n:Nat}{b g id m:Int}{fz:Bool}{w:World}
structure bJ(w:World)(P:Nat)(id:Int)(n:Nat)(m:Int)(g b:Int)(fz:Bool):Prop where
 c0:w.cell? (aA P 0)=some (iI id)
 c1:w.cell? (aA P 1)=some (iI n)
 c2:w.cell? (aA P 2)=some (iI m)
 c3:w.cell? (aA P 3)=some (.bool fz)
 c4:w.cell? (aA P 4)=some (iI g)
 c5:w.cell? (aA P 5)=some (iI b)
 z:∀i,w.frozen? (aA P i)=false
 lp:P<w.heap.size
theorem bJ.drawn(h:bJ w P id n m g b fz)(q:Nat):bJ (w.drewN q) P id n m g b fz:=⟨h.c0,h.c1,h.c2,h.c3,h.c4,h.c5,h.z,h.lp⟩
theorem bJ.zZ(h:bJ w P id n m g b fz)(m':Int):bJ (w.setCell (aA P 2) (iI m')) P id n m' g b fz:=
 ⟨(aB (.inr oe)).trans h.c0,(aB (.inr oe)).trans h.c1,aY h.c2,(aB (.inr oe)).trans h.c3,(aB (.inr oe)).trans h.c4,(aB (.inr oe)).trans h.c5,fun i=>bI.trans (h.z i),Ek⟩
theorem bJ.freeze(h:bJ w P id n m g b fz)(f':Bool):bJ (w.setCell (aA P 3) (.bool f')) P id n m g b f':=
 ⟨(aB (.inr oe)).trans h.c0,(aB (.inr oe)).trans h.c1,(aB (.inr oe)).trans h.c2,aY h.c3,(aB (.inr oe)).trans h.c4,(aB (.inr oe)).trans h.c5,fun i=>bI.trans (h.z i),Ek⟩
theorem bJ.xD(h:bJ w P id n m g b fz)(g':Int):bJ (w.setCell (aA P 4) (iI g')) P id n m g' b fz:=
 ⟨(aB (.inr oe)).trans h.c0,(aB (.inr oe)).trans h.c1,(aB (.inr oe)).trans h.c2,(aB (.inr oe)).trans h.c3,aY h.c4,(aB (.inr oe)).trans h.c5,fun i=>bI.trans (h.z i),Ek⟩
theorem bJ.bad(h:bJ w P id n m g b fz)(b':Int):bJ (w.setCell (aA P 5) (iI b')) P id n m g b' fz:=
 ⟨(aB (.inr oe)).trans h.c0,(aB (.inr oe)).trans h.c1,(aB (.inr oe)).trans h.c2,(aB (.inr oe)).trans h.c3,(aB (.inr oe)).trans h.c4,aY h.c5,fun i=>bI.trans (h.z i),Ek⟩
theorem aCu(h:bJ w P id n m g b fz):
  Calls prog 203 #[pP P] w fun e w'=>e=rT (tU #[])/\bJ w' P id n m 1 0 fz/\aU P P w w':=by have HH:Hid (bJ w P id n m g b fz):=h;obtain⟨c0,c1,c2,c3,c4,c5,z,lp⟩:=h;have z4:=z 4;have z5:=z 5;clear z;go_enter func203,ntmps203;go_wp2;exact bodyPost_end (v:=tU #[]) (by simp[results,results203,go_sem]) rfl ⟨rfl,(HH.out.xD 1).bad 0,((aU.refl _ _ _).set (p:=(aA P 4)) (.inl rfl) _).set (p:=(aA P 5)) (.inl rfl) _⟩
theorem aQd(id:Int)(n:Nat)(w:World)(h1:1<=n)(h2:n<=16)(h3:0<=id)(h4:id<n):
  Calls prog 163 #[iI id,iI n] w fun e w'=>e=rT (tU #[pP w.heap.size,.nilIface])/\bJ w' w.heap.size id n (2^n-1) 1 0 false/\bW w w':=by
 have p0:=pow_pos n;have p1:(2:Int)^n<=2^16:=xH h2;have p2:(2:Int)^16=65536:=oe;have k1:decide ((n:Int)<1)=false:=kC od;have k2:decide (16<(n:Int))=false:=kC od;have HV:Hid (bJ (w.alloc (.cells #[iI id,iI n,iI (2^n-1),.bool false,iI 0,iI 0] 270)) w.heap.size id n (2^n-1) 0 0 false):=by
  have c:∀(i:Nat)(v:Value),(#[iI id,iI n,iI (2^n-1),.bool false,iI 0,iI 0]:Array Value)[i]?=some v->(w.alloc (.cells #[iI id,iI n,iI (2^n-1),.bool false,iI 0,iI 0] 270)).cell? (aA w.heap.size i)=some v:=fun i v hi=>by exact zFz
  exact⟨c 0 _ rfl,c 1 _ rfl,c 2 _ rfl,c 3 _ rfl,c 4 _ rfl,c 5 _ rfl,fun i=>by simp,oh⟩
 have HN:=aCu HV.out;have HB:Hid (bW w (w.alloc (.cells #[iI id,iI n,iI (2^n-1),.bool false,iI 0,iI 0] 270))):=(kX _ _).alloc (kF _) _;go_enter func163,ntmps163;go_wp2_with(first|(go_at_call 203;apply Hid.out)|go_in);unfold Hid;refine HN.mono ?_;rintro e w1 ⟨rfl,hN1,hT1⟩;have uY:bW w w1:=HB.out.trans (hT1.below oh (kF _) (kF _));go_wp2;go_ret2;exact⟨rfl,hN1,uY⟩
end
def aK4(v v':World)(cs:List Int)(ca:Option Addr):Prop:=
 bW v v'/\((cs=[]/\v'=v)\/(ca=some (aA v.heap.size 0)/\v'.heap.size=v.heap.size+1/\∀j,j<cs.length->v'.cell? (aA v.heap.size j)=some (iI (cs.getD j 0))))
theorem aRt{sX:Array Oper}{o:Oper}{a:Act}{K:Act->World->Prop}{Q:Exit->Act->World->Prop}{E:Prop}{v:World}(hgd:o.guard=none)(s x:Operand)
  (ho:o.op=.call { callee:=.builtin .append,args:=#[s,x],argTypes:=#[55,55] })(B:Nat)(hs:a.eval s=sL B 0 0)(ca:Option Addr)(n cap:Nat)(cs:List Int)
  (hx:a.eval x=sV ca n cap)(hn:cs.length=n)(fE:bE v ca cs)(hlen:n<=2000)
  (h:∀v' ca' cap',aK4 v v' cs ca'->K (a.put o.dst (sV ca' n cap')) v'):if Region.wanted o (yielded sX a.tmps)=true then Oper.wp prog o a v K Q else E:=by
 have hw:Region.wanted o (yielded sX a.tmps)=true:=by simp[Region.wanted,hgd]
 rw[kJ hw];subst hn;obtain⟨i0,hi,lO,mX,jX⟩:=info_parts Tryz.uZ
 cases cs with
 |nil=>
  have bBy:Src prog i0.size 55 (sV ca 0 cap) 0 [] v:=by
   cases ca with
   |none=>exact Src.ofNil v underlying55 cap
   |some c=>exact Src.ofSlice v underlying55 c 0 cap [] oh (fun j u h=>by simp at h) (fun u h=>by cases h)
  have hr:=run_append_nothing v 55 55 o.type 3 i0 underlying55 hi (some (aA B 0)) 0 0 (kF _) _ bBy
  unfold Oper.wp execOp
  simp only[ho,resolve,invoke,builtin,Sem.run_bind,Sem.run_pure,Result.andThen_ok,List.map_toArray,List.map_cons,List.map_nil,hs,hx,List.length_nil,hr]
  exact h v (some (aA B 0)) 0 ⟨kX _ _,.inl ⟨rfl,rfl⟩⟩
 |cons y ys=>
  obtain⟨b,off,rfl,gX,hc⟩:=fE oh
  have bBy:Src prog i0.size 55 (.slice (some (aA b off)) (y::ys).length cap) (y::ys).length ((y::ys).map (Value.int .i64)) v:=by
   refine Src.ofSlice v underlying55 (aA b off) _ cap _ (by rw[mX];simp) (fun j u hu=>?_) (gK _)
   rw[nE]
   rw[List.getElem?_map]at hu
   cases e:(y::ys)[j]? with
   |none=>rw[e]at hu;cases hu
   |some z=>
    rw[e]at hu
    have hj:j<(y::ys).length:=(List.getElem?_eq_some_iff.1 e).1
    have:=hc j hj
    rw[List.getD_eq_getElem?_getD,e]at this
    rw[<-kW hu]
    exact this
  have A5:Builtin.nextslicecap (0+(y::ys).length) 0*i0.bytes<=281474976710656:=growslice_fits oh jw
  have hr:=run_append_grow_src (P:=prog) v 55 55 o.type 3 i0 (iI 0) underlying55 hi lO (some (aA B 0)) 0 0 [] (run_firstCells_some v.drew i0.size 0 (aA B 0) 0 0 [] oh (fun j u h=>by simp at h)) _ _ _ bBy oh od A5
  unfold Oper.wp execOp
  simp only[ho,resolve,invoke,builtin,Sem.run_bind,Sem.run_pure,Result.andThen_ok,List.map_toArray,List.map_cons,List.map_nil,hs,hx]at hr⊢
  rw[hr]
  simp only[Nat.zero_add]
  refine h _ _ _ ⟨((kX _ _).drew).alloc (kF _) _,.inr ⟨rfl,oh,fun j hj=>?_⟩⟩
  have e1:=World.cell?_alloc_new v.drew ((([]:List Value)++iI y::ys.map (Value.int .i64)).toArray++Builtin.zeroCells (iI 0).cells (grownCap v (y::ys).length 0 3-(y::ys).length)) 3 j
  refine e1.trans ?_
  have D8:j<ys.length+1:=hj
  rw[Array.getElem?_append_left ol]
  simp only[List.nil_append,List.getElem?_toArray]
  rw[<-List.map_cons,List.getElem?_map,List.getD_eq_getElem?_getD,List.getElem?_eq_getElem hj]
  rfl
section
variable{b g id m:Int}
theorem aEq{w:World}{P:Nat}{n:Nat}{fz:Bool}(h:bJ w P id n m g b fz):Calls prog 132 #[pP P] w fun e w'=>e=rT (iI m)/\w'=w:=by obtain⟨c0,c1,c2,c3,c4,c5,z,lp⟩:=h;clear z;go_enter func132,ntmps132;exact C6
theorem aHw{w:World}{P:Nat}{n:Nat}{fz:Bool}(h:bJ w P id n m g b fz):Calls prog 133 #[pP P] w fun e w'=>e=rT (.bool fz)/\w'=w:=by obtain⟨c0,c1,c2,c3,c4,c5,z,lp⟩:=h;clear z;go_enter func133,ntmps133;exact C6
end
