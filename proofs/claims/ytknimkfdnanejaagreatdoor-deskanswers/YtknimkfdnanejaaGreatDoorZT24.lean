import Derived.Test.YtknimkfdnanejaaGreatDoorZT19
import Derived.Test.YtknimkfdnanejaaGreatDoorZT22
import Derived.Lib.ItoaLen
namespace Go.Proofs.YtknimkfdnanejaaGreatDoor
open Go.RowKit Go.Proofs.Tryz
set_option maxRecDepth 100000
set_option maxHeartbeats 16000000
section
variable{N S base:Nat}
theorem cS.pre{M O:List Nat}{st:gD}{k:Kd}{n:List Int}{tx:ByteArray}{w V w':World}{e:Ending}(h:cS base S M O st N k n tx V e w')(hB:bW w V):cS base S M O st N k n tx w e w':=by obtain⟨qQ,r,M',O',A',h1,h2,h3,h4⟩:=h;exact⟨qQ,r,M',O',A',h1,h2,(aS.of_below hB).trans h3,h4⟩
theorem cS.aO9{M O:List Nat}{st:gD}{k:Kd}{n:List Int}{tx:ByteArray}{w w':World}{e:Ending}{q:Nat}(h:cS base S M O st N k n tx (w.drewN q) e w'):cS base S M O st N k n tx w e w':=h.pre (bdN w q)
theorem aI4(v:World)(a b c d:Value)(t:TypeId):∀(j:Nat)(u:Value),[a,b,c,d][j]?=some u->(v.alloc (.cells #[a,b,c,d] t)).drew.cell? (((aA v.heap.size 0):Addr).add j)=some u:=fun j u hu=>by rw[nE,Nat.zero_add];have:=World.cell?_alloc_new v #[a,b,c,d] t j;refine this.trans ?_;simpa using hu
section
variable{w:World}{base S:Nat}{M O:List Nat}{st:gD}{A:gN}{N:Nat}
theorem Tryz.aCm:(Tryz.prog.info? 94).map (fun i=>(i.zero,i.size,i.bytes))=some (some (.agg #[iI 0,iI 0,iI 0]),3,24):=by kernel_rfl
theorem aBa(u:World)(h:jF u base S M O st A N)(sW:¬st.aI.ns<32)(n:List Int)(tx:ByteArray):
  Calls prog 64 #[.pointer (some (aA S 6)),iI 32,.agg #[iI (n.getD 0 0),iI (n.getD 1 0),iI (n.getD 2 0)]] u (cS base S M O st N .oW n tx u):=zLj
theorem aBb(u:World)(h:jF u base S M O st A N)(hc:st.clu=none)(sW:st.aI.ns<32)(n:List Int)(tx:ByteArray):
  Calls prog 64 #[.pointer (some (aA S 6)),iI 32,.agg #[iI (n.getD 0 0),iI (n.getD 1 0),iI (n.getD 2 0)]] u (cS base S M O st N .oW n tx u):=zI4
theorem Tryz.aPo:(Tryz.prog.info? 96).map (fun i=>(i.zero,i.size,i.bytes))=some (some (.agg #[iI 0,iI 0,iI 0,iI 0]),4,32):=by kernel_rfl
theorem aB8(u:World)(h:jF u base S M O st A N)(sW:¬st.aI.nl<8)(n:List Int)(tx:ByteArray):
  Calls prog 65 #[.pointer (some (aA S 7)),iI 8,.agg #[iI (n.getD 0 0),iI (n.getD 1 0),iI (n.getD 2 0),iI (n.getD 3 0)]] u (cS base S M O st N .oU n tx u):=have bC5:=0;zLj
theorem aB9(u:World)(h:jF u base S M O st A N)(hc:st.clu=none)(sW:st.aI.nl<8)(n:List Int)(hi:gW (n.getD 1 0))(tx:ByteArray):
  Calls prog 65 #[.pointer (some (aA S 7)),iI 8,.agg #[iI (n.getD 0 0),iI (n.getD 1 0),iI (n.getD 2 0),iI (n.getD 3 0)]] u (cS base S M O st N .oU n tx u):=have m16:=0;zI4
def uU(w:World)(M O:List Nat)(a:Option Addr)(n:List Int):Prop:=bE w a n/\∀b off,a=some (aA b off)->0<n.length->b∉M++O
theorem aDg(h:jF w base S M O st A N)(hc0:st.clu=none)(n:List Int)(hn:n.length=3)(a:Option Addr)(cap:Nat)(tx:ByteArray)(hr:uU w M O a n):
  Calls prog 19 #[pP S,.agg #[sV a n.length cap,sT tx]] w (cS base S M O st N .oW n tx w):=zJf
theorem aDf(h:jF w base S M O st A N)(hc0:st.clu=none)(n:List Int)(hn:n.length=4)(hi:gW (n.getD 1 0))(a:Option Addr)(cap:Nat)(tx:ByteArray)(hr:uU w M O a n):
  Calls prog 20 #[pP S,.agg #[sV a n.length cap,sT tx]] w (cS base S M O st N .oU n tx w):=have m27:=0;zJf
end
end
section
theorem qH(x:Int)(hx:gW x)(w:World)(hw:nV w):Calls prog 17 #[iI x] w fun e w'=>e=rT (sT (dG x))/\bW w w':=
 (Tryz.strconv_Itoa x hx.1 hx.2 w hw.tab).mono fun _ _ ⟨h1,k,os,h2⟩=>⟨h1,h2▸below_grow w k os⟩
theorem I6(w:World)(k:Int):jK w (fI k) k (-1):=by
 unfold fI;by_cases h:k=0
 ·rw[kJ h];exact .inl ⟨rfl,h,rfl⟩
 ·rw[kI h];exact .inr (.inl ⟨rfl,h,rfl⟩)
theorem J9(x k:Int)(w:World)(hg:Told w):Calls prog 79 #[iI x,fI k] w fun e w'=>e=(if k=0 then rT (iI x)else fX k)/\bW w w':=by
 by_cases h:k=0
 ·subst h;rw[kJ rfl];exact aFi _ w
 ·rw[kI h];exact aIs _ w hg (I6 w k) h
theorem bE.rest{w:World}{b off:Nat}{x:Int}{l:List Int}(h:bE w (some (aA b off)) (x::l)):bE w (some (aA b (off+1))) l:=fun h0=>by obtain⟨b',aLk,e,hl,hc⟩:=h oh;injection e with e;injection e with e1 e2;subst e1 e2;refine⟨b,off+1,rfl,hl,fun j hj=>?_⟩;have:=hc (j+1) ol;rw[show off+1+j=off+(j+1)by omega];exact zHh
section
variable{w:World}{base S:Nat}{M O:List Nat}{st:gD}{A:gN}{N:Nat}
theorem mN(h:jF w base S M O st A N){V w':World}(hV:bW w V)(hw:bW V w'){k:Kd}{n:List Int}{tx:ByteArray}{r:H5}(hd:sI k st n tx st r){e:Ending}(he:e=r.ending):cS base S M O st N k n tx w e w':=
 ⟨st,r,M,O,A,hd,he,(aS.of_below hV).trans (aS.of_below hw),((h.below hV).below hw).later (kR N)⟩
theorem aBp(h:jF w base S M O st A N)(hD:cB w.heap.size w)(x:Int)(l:List Int)(hl:l.length<=19999)(a:Option Addr)(cap:Nat)(hcap:l.length+1<=cap)(tx:ByteArray)(hr:bE w a (x::l)):
  Calls prog 33 #[pP S,.agg #[sV a (l.length+1) cap,sT tx]] w (cS base S M O st N .gP (x::l) tx w):=by obtain⟨b,off,rfl,gX,hc⟩:=hr oh;generalize hV:w.alloc (.cells #[sV (some (aA b off)) (l.length+1) cap,sT tx] 83)=V;exact zOq
end
end
section
variable{N S base:Nat}
theorem aGj(n:List Int)(hn:n.length=5)(a:Option Addr)(cap:Nat)(tx:ByteArray)(w:World)(hr:bE w a n):
  Calls prog 81 #[.agg #[sV a 5 cap,sT tx]] w fun e w'=>e=rT (tU #[.agg #[iI (n.getD 0 0),iI (n.getD 1 0),iI (n.getD 2 0),iI (n.getD 3 0)],iI (n.getD 4 0)])/\bW w w':=by
 obtain⟨b,off,rfl,gX,hc⟩:=hr od;rw[hn]at hc;generalize hV:(w.alloc (.cells #[sV (some (aA b off)) 5 cap,sT tx] 83)).alloc (.cells #[iI 0,iI 0,iI 0,iI 0] 153)=V;have hB:bW w V:=hV▸((kX _ w).alloc (kF _) _).alloc oh _;have x0:V.cell? (aA w.heap.size 0)=some (sV (some (aA b off)) 5 cap):=ou;have k0:V.cell? (aA (w.heap.size+1) 0)=some (iI 0):=ou;have k1:V.cell? (aA (w.heap.size+1) 1)=some (iI 0):=ou;have k2:V.cell? (aA (w.heap.size+1) 2)=some (iI 0):=ou;have k3:V.cell? (aA (w.heap.size+1) 3)=some (iI 0):=ou;have z0:∀i,V.frozen? (aA (w.heap.size+1) i)=false:=fun i=>by rw[<-hV];simp[go_sem]
 exact zKf
theorem aHl(f s n d r:Int)(u:World):Calls prog 82 #[.agg #[iI f,iI s,iI n,iI d],iI r] u fun e w'=>∃x,e=rT (tU #[iI x,fI (jC f s n d r)])/\(jC f s n d r=0->x=s+(r-f)*n/d/\gW x)/\bW u w':=zKb
theorem aM4(f s n d l:Int)(u:World):Calls prog 83 #[.agg #[iI f,iI s,iI n,iI d],iI l] u fun e w'=>∃x,e=rT (tU #[iI x,fI (oA f s n d l)])/\(oA f s n d l=0->x=lQ f s n d l/\gW x)/\bW u w':=zJw
theorem aL2{w:World}{M O:List Nat}{st:gD}{A:gN}(h:jF w base S M O st A N)(hD:cB w.heap.size w)(n:List Int)(hn:n.length=5)(a:Option Addr)(cap:Nat)(tx:ByteArray)(hr:bE w a n):
  Calls prog 34 #[pP S,.agg #[sV a n.length cap,sT tx]] w (cS base S M O st N .pM n tx w):=zJ3
theorem aQs{w:World}{M O:List Nat}{st:gD}{A:gN}(h:jF w base S M O st A N)(hD:cB w.heap.size w)(n:List Int)(hn:n.length=5)(a:Option Addr)(cap:Nat)(tx:ByteArray)(hr:bE w a n):
  Calls prog 35 #[pP S,.agg #[sV a n.length cap,sT tx]] w (cS base S M O st N .real_ n tx w):=have m51:=0;zJ3
end
section
variable{c:cA}{fa rd:Int}
theorem jQ{x:Int}(h:gW x):(dG x).size<=21:=by have:=Lib.itoa_length_le x h.1 h.2;show(Lib.itoa x).toArray.size<=21;exact zHh
section
variable{w:World}{base S:Nat}{M O:List Nat}{st:gD}{A:gN}{N:Nat}
theorem aJ7(h:jF w base S M O st A N)(hD:cB w.heap.size w){cs:List Int}{T:Nat}(dI:st.clu=some (fa,cs,c,rd,T))(n:List Int)(v:Value)(tx:ByteArray):
  Calls prog 31 #[pP S,.agg #[v,sT tx]] w (cS base S M O st N .kY n tx w):=have bCd:=0;zNe
theorem members_bad(h:jF w base S M O st A N)(hD:cB w.heap.size w){cs:List Int}{T:Nat}(dI:st.clu=some (fa,cs,c,rd,T))(x:Int)(a:Option Addr)(cap:Nat)(tx:ByteArray)(hr:bE w a [x])(hx:¬(0<=x/\x<st.aI.nodes)):
  Calls prog 32 #[pP S,.agg #[sV a 1 cap,sT tx]] w (cS base S M O st N .eD [x] tx w):=zM6
theorem X3(h:jF w base S M O st A N)(hD:cB w.heap.size w){cs:List Int}{T:Nat}(dI:st.clu=some (fa,cs,c,rd,T))(x:Int)(a:Option Addr)(cap:Nat)(tx:ByteArray)(hr:bE w a [x])(j:Nat)(hj:x=j)(hjn:j<st.aI.n)(hfz:(c.nodes j).fz=true):
  Calls prog 32 #[pP S,.agg #[sV a 1 cap,sT tx]] w (cS base S M O st N .eD [x] tx w):=zJi
theorem N8(h:jF w base S M O st A N)(hD:cB w.heap.size w){cs:List Int}{T:Nat}(dI:st.clu=some (fa,cs,c,rd,T))(x:Int)(a:Option Addr)(cap:Nat)(tx:ByteArray)(hr:bE w a [x])(j:Nat)(hj:x=j)(hjn:j<st.aI.n)(hfz:(c.nodes j).fz=false):
  Calls prog 32 #[pP S,.agg #[sV a 1 cap,sT tx]] w (cS base S M O st N .eD [x] tx w):=have m30:=0;zJi
end
end
structure cA.Small(c:cA):Prop where
 all:∀k x,x∈(c.aN k).all->x.size<=40
 port:∀k j x,x∈c.aR k j->x.size<=40
theorem cA.Small.start:cA.start.Small:=⟨fun _ _ h=>Oy,fun _ _ _ h=>Oy⟩
theorem cA.Small.recvD{c:cA}(h:c.Small)(k j:Nat):(recvD (c.aR k j)).size<=40:=by
 unfold Go.Proofs.YtknimkfdnanejaaGreatDoor.recvD
 cases e:c.aR k j with
 |nil=>exact kH _
 |cons x l=>exact h.port k j x jh
theorem cA.Small.recv{c:cA}(h:c.Small)(k j:Nat):(c.recv k j).Small:=by
 refine⟨h.all,fun k' j' x hx=>?_⟩;have hx':x∈(if k'=k/\j'=j then(c.aR k j).tail else c.aR k' j'):=hx;by_cases e:k'=k/\j'=j
 ·rw[kJ e]at hx';exact h.port k j x (List.mem_of_mem_tail hx')
 ·rw[kI e]at hx';exact h.port k' j' x hx'
theorem cA.Small.put{c:cA}(h:c.Small)(p:aQ)(k:Nat)(d:ByteArray):(c.put p k d).Small:=by
 refine⟨fun k' x hx=>?_,h.port⟩;have hx':x∈(if k'=k then({ all:=oY (Go.Proofs.YtknimkfdnanejaaGreatDoor.putK ((c.aN k).all.length-(c.aN k).aP) (p.lq k) d) (c.aN k).all d,aP:=(c.aN k).aP,last:=(c.aN k).last,now:=(c.aN k).now }:jH)else c.aN k').all:=hx;by_cases e:k'=k
 ·rw[kJ e]at hx';have hx2:x∈oY (Go.Proofs.YtknimkfdnanejaaGreatDoor.putK ((c.aN k).all.length-(c.aN k).aP) (p.lq k) d) (c.aN k).all d:=hx';unfold oY at hx2;by_cases hk:Go.Proofs.YtknimkfdnanejaaGreatDoor.putK ((c.aN k).all.length-(c.aN k).aP) (p.lq k) d=0
  ·rw[kJ hk]at hx2;rcases kL hx2 with q|q
   ·exact h.all k x q
   ·have:x=d:=by simpa using q
    subst this;unfold Go.Proofs.YtknimkfdnanejaaGreatDoor.putK at hk;by_cases hs:40<x.size
    ·rw[kJ hs]at hk;cases hk
    ·exact Nat.le_of_not_lt hs
  ·rw[kI hk]at hx2;exact h.all k x hx2
 ·rw[kI e]at hx';exact h.all k' x hx'
theorem aBn(p:oT)(who:Nat)(t:Int)(L:Nat->jH)(h:∀k x,x∈(L k).all->x.size<=40):∀n,(∀k x,x∈((aK p who t L n).1 k).all->x.size<=40)/\(dE (aK p who t L n).2).size<=40:=by
 intro n
 induction n with
 |zero=>exact⟨h,kH _⟩
 |succ n ih=>
  show(∀k x,x∈((if(aK p who t L n).2.isSome=true\/p.lf n≠who then aK p who t L n else _).1 k).all->_)/\(dE (if(aK p who t L n).2.isSome=true\/p.lf n≠who then aK p who t L n else _).2).size<=40
  by_cases hc:(aK p who t L n).2.isSome=true\/p.lf n≠who
  ·rw[kJ hc]
   exact ih
  ·rw[kI hc]
   refine⟨fun k x hx=>?_,?_⟩
   ·have hx':x∈(if k=n then((aK p who t L n).1 n).asked t (p.lb n)else(aK p who t L n).1 k).all:=hx
    by_cases e:k=n
    ·rw[kJ e]at hx'
     exact ih.1 n x hx'
    ·rw[kI e]at hx'
     exact ih.1 k x hx'
   ·show(dE (if _ then some _ else none)).size<=40
    split
    ·show(((aK p who t L n).1 n).all.getD ((aK p who t L n).1 n).aP ByteArray.empty).size<=40
     rw[List.getD_eq_getElem?_getD]
     cases e:((aK p who t L n).1 n).all[((aK p who t L n).1 n).aP]? with
     |none=>exact kH _
     |some y=>exact ih.1 n y (List.mem_of_getElem? e)
    ·exact kH _
theorem cA.Small.slot{c:cA}(h:c.Small)(p:oT)(H:lJ)(rd:Int)(i:Nat):(c.slot p H rd i).Small:=by
 have hg:(∀k x,x∈((c.goes p H rd i).1 k).all->x.size<=40)/\(dE (c.goes p H rd i).2).size<=40:=by
  unfold cA.goes;by_cases e:c.sends H (p.nd i)=true
  ·rw[kJ e];exact aBn p _ _ c.aN h.all p.nl
  ·rw[kI e];exact⟨h.all,kH _⟩
 refine⟨hg.1,fun k j x hx=>?_⟩;have hx':x∈(if c.sE p H i (c.goes p H rd i).2 k j=true/\(c.aR k j).length<16 then c.aR k j++[dE (c.goes p H rd i).2]else c.aR k j):=hx;by_cases e:c.sE p H i (c.goes p H rd i).2 k j=true/\(c.aR k j).length<16
 ·rw[kJ e]at hx';rcases kL hx' with q|q
  ·exact h.port k j x q
  ·have:x=dE (c.goes p H rd i).2:=by simpa using q
   rw[this];exact hg.2
 ·rw[kI e]at hx';exact h.port k j x hx'
theorem cA.Small.iM{c:cA}(h:c.Small)(p:oT)(H:lJ)(rd:Int):∀n,(c.iM p H rd n).Small
 |0=>h
 |n+1=>(cA.Small.iM h p H rd n).slot p H rd n
def gD.Small(s:gD):Prop:=∀fa cs c rd T,s.clu=some (fa,cs,c,rd,T)->c.Small
theorem gD.Small.start:gD.start.Small:=fun _ _ _ _ _ h=>Oy
theorem gD.Small.some{s:gD}{fa:Int}{cs:List Int}{c:cA}{rd:Int}{T:Nat}(h:c.Small)(e:s.clu=some (fa,cs,c,rd,T)):s.Small:=fun fa' cs' c' Y4 T' e'=>by rw[e]at e';cases e';exact h
theorem gD.Small.aKg{k:Kd}{s s':gD}{n:List Int}{tx:ByteArray}{r:H5}(h:s.Small)(hd:sI k s n tx s' r):s'.Small:=by
 cases k using Kd.each;case qX=>obtain⟨rfl,_⟩:=hd;exact h
 case oW=>rcases hd with⟨_,rfl,_⟩|⟨_,rfl,_⟩<;>exact h
 case oU=>rcases hd with⟨_,rfl,_⟩|⟨_,rfl,_⟩<;>exact h
 case bytes_=>obtain⟨_,_,_,rfl,_⟩:=hd;exact h
 case iV=>
  obtain⟨_,_,_,q⟩:=hd;rcases q with⟨_,rfl,_⟩|⟨_,rfl,_⟩
  ·exact h
  ·exact .some .start rfl
 case oZ=>
  obtain⟨fa,cs,c,rd,T,hc,q⟩:=hd;rcases q with⟨j,_,_,rfl,_⟩|⟨_,rfl,_⟩
  ·exact .some ((h _ _ _ _ _ hc).put _ _ _) rfl
  ·exact h
 case iC=>
  obtain⟨fa,cs,c,rd,T,hc,q⟩:=hd;rcases q with⟨j,i,_,_,_,rfl,_⟩|⟨_,rfl,_⟩
  ·exact .some ((h _ _ _ _ _ hc).recv _ _) rfl
  ·exact h
 case pV=>obtain⟨rfl,_⟩:=hd;exact h
 case pY=>obtain⟨rfl,_⟩:=hd;exact h
 case mF=>obtain⟨rfl,_⟩:=hd;exact h
 case qL=>obtain⟨rfl,_⟩:=hd;exact h
 case oC=>
  obtain⟨fa,cs,c,rd,T,hc,q⟩:=hd;rcases q with⟨_,rfl,_⟩|⟨_,rfl,_⟩
  ·exact h
  ·exact .some ((h _ _ _ _ _ hc).iM _ _ _ _) rfl
 case jV=>obtain⟨_,_,_,_,_,_,rfl,_⟩:=hd;exact h
 case kY=>obtain⟨_,_,_,_,_,_,rfl,_⟩:=hd;exact h
 case eD=>obtain⟨_,_,_,_,_,_,rfl,_⟩:=hd;exact h
 case gP=>obtain⟨rfl,_⟩:=hd;exact h
 case pM=>obtain⟨rfl,_⟩:=hd;exact h
 case real_=>obtain⟨rfl,_⟩:=hd;exact h
 case clear_=>obtain⟨rfl,_⟩:=hd;exact .start
 case wB=>obtain⟨rfl,_⟩:=hd;exact h
section
variable{fa rd:Int}
section
variable{w V u:World}{base S:Nat}{M O O':List Nat}{st:gD}{A:gN}{N:Nat}
theorem jF.aGl(h:jF V base S M O st A N)(hf:aS O O' V u){cs:List Int}{c:cA}{T:Nat}(dM:st.clu≠none)(hc:L5 u O' A.C st.aI fa cs c rd T)(hT:T<=N):jF u base S M O' { st with clu:=some (fa,cs,c,rd,T) } A N/\aS (M++O) (M++O') V u:=zKv
theorem aUj(h:jF w base S M O st A N)(hD:cB base w){cs:List Int}{c:cA}{T:Nat}(dI:st.clu=some (fa,cs,c,rd,T))(hN:N<=3000)(x:Int)(a:Option Addr)(cap:Nat)(tx:ByteArray)(hr:uU w M O a [x]):
  Calls prog 23 #[pP S,.agg #[sV a 1 cap,sT tx]] w (cS base S M O st N .oZ [x] tx w):=zI6
theorem aEt(h:jF w base S M O st A N)(hD:cB base w){cs:List Int}{c:cA}{T:Nat}(dI:st.clu=some (fa,cs,c,rd,T))(wF:c.Small)(x y:Int)(a:Option Addr)(cap:Nat)(tx:ByteArray)(hr:uU w M O a [x,y]):
  Calls prog 24 #[pP S,.agg #[sV a 2 cap,sT tx]] w (cS base S M O st N .iC [x,y] tx w):=have m18:=0;zI6
end
end
