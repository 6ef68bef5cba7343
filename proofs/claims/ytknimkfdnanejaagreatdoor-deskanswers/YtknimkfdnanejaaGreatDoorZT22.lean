import Derived.Test.YtknimkfdnanejaaGreatDoorZT18
import Derived.Test.YtknimkfdnanejaaGreatDoorZT20
import Derived.Test.YtknimkfdnanejaaGreatDoorZT21
namespace Go.Proofs.YtknimkfdnanejaaGreatDoor
open Go.RowKit Go.Proofs.Tryz
set_option maxRecDepth 100000
set_option maxHeartbeats 16000000
section
section
variable{w:World}{O Z:List Nat}{C:Nat}{p:aQ}{fa:Int}{cs:List Int}{s:cA}{rd:Int}{B:Nat}{m:iD}
theorem aVn(h:jJ w O Z C p fa cs s rd B m)(k:Nat)(d:ByteArray)(hk:k<p.nl)(hB:B<=10000000):
  Calls prog 54 #[.pointer (some ⟨m.S k,0,none⟩),sT d] w fun e w'=>e=rT (iI (s.putK p k d))/\∃O',aS O O' w w'/\jJ w' O' Z C p fa cs (s.put p k d) rd (B+1) m:=by
 obtain⟨OS,hS,⟨hS1,hS2,hS3⟩,qD⟩:=h.sdr hk;refine(aM7 hS d od).mono ?_;rintro e w' ⟨rfl,OS',q1,q2⟩;refine⟨rfl,qD w' OS' (B+1) ⟨_,_,_,_⟩ q1 q2 ⟨?_,hS2,?_⟩ od⟩
 ·exact zD4
 ·exact zBv
theorem aRn(h:jJ w O Z C p fa cs s rd B m)(lF:vX p fa cs)(j k:Int)(hb:¬((0<=j/\j<p.nodes)/\(0<=k/\k<p.nl)/\aW (p.lt k.toNat) j.toNat=true)):
  Calls prog 55 #[pP C,iI j,iI k] w fun e w'=>e=rT (tU #[sT ByteArray.empty,iI 2])/\bW w w':=by
 have hB:=lF.aI.bounds;have lK:=hB.n1;have wC:=hB.n2;have qO:=hB.nl;by_cases hj:0<=j/\j<p.nodes
 ·by_cases hk:0<=k/\k<p.nl
  ·have jB:p.nodes=(p.n:Int):=by unfold aQ.n;omega
   obtain⟨J,rfl⟩:∃J:Nat,j=J:=⟨j.toNat,od⟩;obtain⟨K,rfl⟩:∃K:Nat,k=K:=⟨k.toNat,od⟩;refine aMj h J K jB od od qO od ?_
   cases e:aW (p.lt K) J with
   |false=>rfl
   |true=>exact absurd ⟨hj,hk,e⟩ hb
  ·exact aMi h j k lK wC hj qO hk
 ·exact aMh h j k lK wC hj
end
end
section
variable{C pb tb:Nat}
def of0(C tb pb:Nat)(fT Z:List Nat):vW->List Nat:=fun x=>if x=iB then C::tb::(fT++([]++[]))else if x=iP then[pb]else if x=iZ then Z else[]
theorem aEl{fT Z:List Nat}{x:vW}{c:Nat}(h:c∈of0 C tb pb fT Z x):(x=iB/\c∈C::tb::fT)\/(x=iP/\c=pb)\/(x=iZ/\c∈Z):=by
 unfold of0 at h;by_cases e1:x=iB
 ·rw[kJ e1]at h;left;exact⟨e1,by simpa using h⟩
 ·rw[kI e1]at h;by_cases e2:x=iP
  ·rw[kJ e2]at h;right;left;exact⟨e2,by simpa using h⟩
  ·rw[kI e2]at h;by_cases e3:x=iZ
   ·rw[kJ e3]at h;right;right;exact⟨e3,h⟩
   ·rw[kI e3]at h;cases h
def aEh(sa:Option Addr)(sc:Nat)(la:Option Addr)(lc:Nat)(ca:Option Addr)(cI tb pb:Nat):iD where
 X:=[]
 sa:=sa
 oD:=sc
 la:=la
 rJ:=lc
 ca:=ca
 cI:=cI
 nb:=0
 vQ:=0
 ka:=none
 kb:=0
 aKw:=0
 tb:=tb
 pb:=pb
 P:=fun _=>0
 Q:=fun _=>0
 S:=fun _=>0
 R:=fun _ _=>0
theorem Made.nm{v v4:World}{p:aQ}{nodes aF aJ aC aH round frame:Int}{sa:Option Addr}{ns sc:Nat}{la:Option Addr}{nl lc:Nat}{wa:Option Addr}{nw wc:Nat}{fa:Int}{cs:List Int}{ca:Option Addr}{n cI:Nat}{fT:List Nat}{Z:List Nat}
  (h:Made v v4 C (aNz nodes aF aJ aC aH round frame sa ns sc la nl lc wa nw wc fa ca n cI tb pb) cs ca cI fT tb pb)(hZ:∀c,c∈Z->c<v.heap.size):
  NMy v4 v4 v.heap.size Z C p (fun q=>v4.cell? (aA C q)) fT (aEh sa sc la lc ca cI tb pb) 0:=by
 have hs:=h.bel.size;have h1:=h.lC;have h2:=h.lt;have lt1:=h.mt.lt;have lt2:=h.mp.lt;refine⟨sV none 0 0,⟨of0 C tb pb fT Z,aEh sa sc la lc ca cI tb pb,⟨⟨rfl,rfl⟩,⟨rfl,rfl⟩,⟨rfl,rfl⟩,rfl,rfl⟩,?_⟩,fun g hg=>by cases hg⟩;refine⟨fun q _ _=>rfl,h.cel 12 _ rfl,h.cel 13 _ rfl,h.z,World.ownsRow_nil _ _ _ _,World.ownsRow_nil _ _ _ _,rfl,.inl rfl,?_,?_,fun g hg=>(by cases hg),fun g hg=>(by cases hg),fun j hj=>absurd hj (kT _),fun j hj=>absurd hj (kT _),fun a b hT=>(by cases hT),⟨_,h.mt,fun a b hT=>(by cases hT)⟩,⟨rfl,⟨_,h.mp,fun i j _ _=>.inl ⟨rfl,rfl⟩⟩⟩,fun j _=>rfl,fun j _=>rfl,fun a b _=>rfl,rfl,⟨fun x c hc=>?_,fun x y hxy c hc hd=>?_⟩,fun x c hx hc=>?_,hs⟩
 ·show C∉tb::(fT++([]++[]));simp only[List.append_nil,List.mem_cons,not_or];exact⟨od,fun y=>(h.lk C y).2.2.2.2 rfl⟩
 ·show tb∉fT++([]++[]);simp only[List.append_nil];exact fun y=>(h.lk tb y).2.2.1 rfl
 ·rcases aEl hc with⟨_,y⟩|⟨_,y⟩|⟨_,y⟩
  ·simp only[List.mem_cons]at y;rcases y with rfl|rfl|y
   ·omega
   ·exact lt1
   ·exact(h.lk c y).2.1
  ·rw[y];exact lt2
  ·have:=hZ c y;omega
 ·rcases aEl hc with⟨q1,y⟩|⟨q1,y⟩|⟨q1,y⟩<;>rcases aEl hd with⟨q2,z⟩|⟨q2,z⟩|⟨q2,z⟩
  ·exact hxy (q1.trans q2.symm)
  ·simp only[List.mem_cons]at y;rcases y with y|y|y
   ·omega
   ·omega
   ·exact(h.lk c y).2.2.2.1 z
  ·have:=hZ c z;simp only[List.mem_cons]at y;rcases y with y|y|y
   ·omega
   ·omega
   ·have:=(h.lk c y).1;omega
  ·simp only[List.mem_cons]at z;rcases z with z|z|z
   ·omega
   ·omega
   ·exact(h.lk c z).2.2.2.1 y
  ·exact hxy (q1.trans q2.symm)
  ·have:=hZ c z;omega
  ·have:=hZ c y;simp only[List.mem_cons]at z;rcases z with z|z|z
   ·omega
   ·omega
   ·have:=(h.lk c z).1;omega
  ·have:=hZ c y;omega
  ·exact hxy (q1.trans q2.symm)
 ·rcases aEl hc with⟨_,y⟩|⟨_,y⟩|⟨q,y⟩
  ·simp only[List.mem_cons]at y;rcases y with rfl|rfl|y
   ·omega
   ·omega
   ·exact(h.lk c y).1
  ·omega
  ·exact absurd q hx
theorem Z3.links0{w:World}{base:Nat}{Z:List Nat}{p:aQ}{cc:Nat->Option Value}{fT:List Nat}{m0:iD}{i:Nat}{iT iU:Value}(h:Z3 w base Z C p cc fT m0 i 0 (fun _ _=>false) iT iU):Z3 w base Z C p cc fT m0 i 0 (X6 p.n 0 0) iT iU:=by
 have e:X6 p.n 0 0=fun _ _=>false:=by funext a b;unfold X6;simp
 rw[e];exact h
end
theorem aDr(nodes aF aJ aC aH round frame:Int)(ns nl nw:Nat)(nd fr td lf lt lb lq:Nat->Int)(hit:Nat->Bool)(pw:Int)(wp wf wt:Nat->Int):∃E I,lS nodes aF aJ aC aH round frame ns nl nw nd fr td lf lt lb lq hit pw wp wf wt E I:=by
 by_cases h:dJ nodes aF aJ aC aH round frame ns nl nw=0
 ·obtain⟨e1,i1,g1⟩:=bY.any (dH nd fr td nodes aJ round) ns;obtain⟨e2,i2,g2⟩:=bY.any (dC lf lt lb lq hit nodes pw) nl;obtain⟨e3,i3,g3⟩:=bY.any (fH wp wf wt frame) nw;exact zBf
 ·exact⟨_,-1,.inl ⟨h,rfl,rfl⟩⟩
theorem bEo(p:aQ)(a:iH)(w:World)(h:p.In a w):∃E I,p.Is E I/\Calls prog 111 #[p.val a] w fun e w'=>∃V,e=rT V/\jK w' V E I/\bW w w':=by obtain⟨E,I,hC⟩:=aDr p.nodes p.aF p.aJ p.aC p.aH p.round p.frame p.ns p.nl p.nw p.nd p.fr p.td p.lf p.lt p.lb p.lq (fun j=>aW (p.lt j) (p.lf j).toNat) (2^p.nodes.toNat) p.wp p.wf p.wt;exact⟨E,I,hC,aOq p.nodes p.aF p.aJ p.aC p.aH p.round p.frame a.sa a.la a.wa p.ns a.sc p.nl a.lc p.nw a.wc p.nd p.fr p.td p.lf p.lt p.lb p.lq _ _ p.wp p.wf p.wt E I w h.iM h.aN h.aWh rfl (fun j h0 h1=>(zT (p.lt j) od).symm) hC⟩
def L5(w:World)(O:List Nat)(C:Nat)(p:aQ)(fa:Int)(cs:List Int)(s:cA)(rd:Int)(T:Nat):Prop:=
 (∃m,Cl w O C p fa cs s rd (2600*T+1) m)/\vX p fa cs/\0<=rd/\rd<=T
theorem M9{p:aQ}{fa:Int}{cs:List Int}(h:vX p fa cs):p.nodes=(p.n:Int):=by have:=h.aI.bounds.n1;show p.nodes=(p.nodes.toNat:Int);omega
theorem gG:bAo L5 where
 chk:=bEo
 ok:=fun h=>h.2
 lt:=fun h=>by obtain⟨⟨m,h⟩,_⟩:=h;exact h.lt
 keep:=fun h k=>by obtain⟨⟨m,h⟩,q⟩:=h;exact⟨⟨m,h.keep k⟩,q⟩
 new:=fun p a fa ca cap cs w h1 h2 _ h4 h5=>(aSn bEo p a fa ca cap cs w h1 h2 h4 h5).mono fun e w' ⟨hB,K,I,hN,h⟩=>by
  refine⟨hB,K,I,hN,?_⟩
  rcases h with h|⟨rfl,O,C,m,he,hC,hO⟩
  ·exact .inl h
  ·exact .inr ⟨rfl,O,C,he,⟨⟨m,hC⟩,hN.ok,Int.le_refl _,Int.le_refl _⟩,hO⟩
 bHr:=fun {w O C p fa cs s rd T} r a h hT hr hm=>by
  obtain⟨⟨m,h⟩,lF,h0,h1⟩:=h
  refine(aOv h lF h0 od od od r a hr hm).mono fun e w' ⟨O',hf,hh⟩=>⟨O',hf,?_⟩
  rcases hh with⟨q,he,hC⟩|⟨q,he,m',hC⟩
  ·exact .inl ⟨q,he,⟨⟨m,hC⟩,lF,h0,h1⟩⟩
  ·exact .inr ⟨q,he,⟨⟨m',hC.more od⟩,lF.next r q,od,od⟩⟩
 aO3:=fun k d h hk=>by obtain⟨⟨m,h⟩,_⟩:=h;exact aSs h k d hk
 put:=fun {w O C p fa cs s rd T} k d h hT hk=>by
  obtain⟨⟨m,h⟩,lF,h0,h1⟩:=h
  refine(aSr h k d hk od).mono fun e w' ⟨he,O',hf,hC⟩=>⟨he,O',hf,⟨⟨m,hC.more od⟩,lF,h0,od⟩⟩
 aIc:=fun j k h hb=>by obtain⟨⟨m,h⟩,lF,_⟩:=h;exact aOy h (M9 lF) j k hb
 recv:=fun j k h hj hk hb=>by
  obtain⟨⟨m,h⟩,lF,h0,h1⟩:=h
  refine(aOx h j k hj (M9 lF) hk hb).mono fun e w' ⟨he,O',hf,hC⟩=>⟨he,O',hf,⟨⟨m,hC⟩,lF,h0,h1⟩⟩
 spread:=fun {w O C p fa cs s rd T} h=>by
  obtain⟨⟨m,h⟩,lF,_⟩:=h
  have mR:=lF.aI.bounds.n2
  have hb:=h.base
  have hl:=lF.len
  exact Q7 C fa (some (aA m.cb 0)) m.cI cs w hb.c10 hb.c11 (fun _=>⟨m.cb,0,rfl,hb.lx _ hb.ckX,fun j hj=>by rw[Nat.zero_add];exact hb.ck j hj⟩) (by rw[hl];unfold aQ.n;omega) lF.inn
 rounds:=fun h=>by
  obtain⟨⟨m,h⟩,_⟩:=h
  exact(aGm _ _ _ h.base.c12).mono fun e w' ⟨h1,h2⟩=>⟨h1,by rw[h2];exact kX _ _⟩
theorem aDt:aWo L5 where
 aDs:=fun {w O C p fa cs s rd T} h=>by
  obtain⟨⟨m,h⟩,lF,_⟩:=h
  have h1:=lF.aI.bounds.n1
  have h2:=lF.aI.bounds.n2
  exact aGg h lF.len (by unfold aQ.n;omega) (by unfold aQ.n;omega)
 zZ:=fun {w O C p fa cs s rd T} j h hj=>by
  obtain⟨⟨m,h⟩,lF,_⟩:=h
  exact aDu h j hj (M9 lF)
 members_bad:=fun {w O C p fa cs s rd T} j h hj=>by
  obtain⟨⟨m,h⟩,_⟩:=h
  exact aDv h j hj
section
variable{N' b base c g i n size:Nat}{cs:Array Value}{e t:TypeId}{w w':World}
def dD(f g h i:Nat->Int):Nat->List Value
 |0=>[]
 |n+1=>dD f g h i n++[iI (f n),iI (g n),iI (h n),iI (i n)]
theorem wN(f g h i:Nat->Int):∀n,(dD f g h i n).length=n*4
 |0=>rfl
 |n+1=>by simp[dD,wN f g h i n];omega
theorem aEr(f g h i:Nat->Int):∀n j,j<n->(dD f g h i n)[j*4]?=some (iI (f j))/\(dD f g h i n)[j*4+1]?=some (iI (g j))/\(dD f g h i n)[j*4+2]?=some (iI (h j))/\(dD f g h i n)[j*4+3]?=some (iI (i j)):=by
 intro n
 induction n with
 |zero=>intro j hj;omega
 |succ n ih=>
  intro j hj
  have hl:=wN f g h i n
  unfold dD
  by_cases h1:j<n
  ·obtain⟨a,b,c,d⟩:=ih j h1
   refine⟨?_,?_,?_,?_⟩
   ·rw[List.getElem?_append_left od];exact a
   ·rw[List.getElem?_append_left od];exact b
   ·rw[List.getElem?_append_left od];exact c
   ·rw[List.getElem?_append_left od];exact d
  ·obtain rfl:j=n:=by omega
   refine⟨?_,?_,?_,?_⟩
   ·rw[List.getElem?_append_right od,hl,Nat.sub_self];rfl
   ·rw[List.getElem?_append_right od,hl,Nat.add_sub_cancel_left];rfl
   ·rw[List.getElem?_append_right od,hl,Nat.add_sub_cancel_left];rfl
   ·rw[List.getElem?_append_right od,hl,Nat.add_sub_cancel_left];rfl
theorem d8{v:Value}{f g' h' i':Nat->Int}(h:w.ownsRow base e 4 v n (dD f g' h' i' n)):∃a cap,v=sV a n cap/\vY w a n f g' h' i':=zLg
theorem aAv(f g h:Nat->Int)(x y z:Int)(m:Nat):∀n,n<=m->bN (mM f m x) (mM g m y) (mM h m z) n=bN f g h n:=by
 intro n
 induction n with
 |zero=>intro _;rfl
 |succ n ih=>
  intro hn
  have e:∀(f:Nat->Int) x,mM f m x n=f n:=fun f x=>by unfold mM;rw[kI od]
  rw[uH,uH,ih od,e,e,e]
theorem pG(f g h:Nat->Int)(x y z:Int)(n:Nat):bN (mM f n x) (mM g n y) (mM h n z) (n+1)=bN f g h n++[iI x,iI y,iI z]:=by rw[uH,aAv f g h x y z n n (kF _)];simp[mM]
theorem aAk(f g h i:Nat->Int)(x y z u:Int)(m:Nat):∀n,n<=m->dD (mM f m x) (mM g m y) (mM h m z) (mM i m u) n=dD f g h i n:=by
 intro n
 induction n with
 |zero=>intro _;rfl
 |succ n ih=>
  intro hn
  have e:∀(f:Nat->Int) x,mM f m x n=f n:=fun f x=>by unfold mM;rw[kI od]
  unfold dD
  rw[ih od,e,e,e,e]
theorem aBr(f g h i:Nat->Int)(x y z u:Int)(n:Nat):dD (mM f n x) (mM g n y) (mM h n z) (mM i n u) (n+1)=dD f g h i n++[iI x,iI y,iI z,iI u]:=by show dD _ _ _ _ n++_=_;rw[aAk f g h i x y z u n n (kF _)];simp[mM]
theorem aM{v:Value}(h:w.heap[b]?=some (.cells cs t (0,0)))(hi:cs[i]?=some v):w.cell? (aA b i)=some v:=by rw[cell_of_row w b i cs t (0,0) h];exact hi
theorem bC(h:w.heap[b]?=some (.cells cs t (0,0))):w.frozen? (aA b i)=false:=by simp[World.frozen?,h]
theorem cH(h:w.heap[b]?=some (.cells cs t (0,0)))(v:Value):(w.setCell (aA b i) v).heap[b]?=some (.cells (cs.setIfInBounds i v) t (0,0)):=by simp[World.setCell,Array.getElem?_modify,h]
theorem cJ(h:c≠b)(v:Value):(w.setCell (aA b i) v).heap[c]?=w.heap[c]?:=by simp[World.setCell,Array.getElem?_modify,Ne.symm h]
structure gN where
 vS:Value
 vL:Value
 vO:Value
 vR:Value
 da:Option Addr
 dc:Nat
 ma:Option Addr
 mc:Nat
 C:Nat
def gW(x:Int):Prop:=-9223372036854775808<=x/\x<=9223372036854775807
structure aG8(w:World)(base S:Nat)(M O:List Nat)(st:gD)(A:gN)(N:Nat):Prop where
 s:S∈M
 lo:∀c,c∈M->base<=c
 hi:∀c,c∈M->c<w.heap.size
 loO:∀c,c∈O->base<=c
 hiO:∀c,c∈O->c<w.heap.size
 ap:Apart O M
 oS:w.ownsRow base 94 3 A.vS st.aI.ns (bN st.aI.nd st.aI.fr st.aI.td st.aI.ns)
 oL:w.ownsRow base 96 4 A.vL st.aI.nl (dD st.aI.lf st.aI.lt st.aI.lb st.aI.lq st.aI.nl)
 oO:w.ownsRow base 145 3 A.vO st.next.nL (bN st.next.ls st.next.lc st.next.lt st.next.nL)
 oR:w.ownsRow base 146 3 A.vR st.next.nR (bN st.next.rn st.next.ro st.next.ri st.next.nR)
 bS:∀g,A.vS.ownBlock=some g->g∈M
 bL:∀g,A.vL.ownBlock=some g->g∈M
 bO:∀g,A.vO.ownBlock=some g->g∈M
 bR:∀g,A.vR.ownBlock=some g->g∈M
 rD:bE w A.da st.next.bA
 rM:bE w A.ma st.next.bH
 bD:∀b off,A.da=some (aA b off)->0<st.next.bA.length->b∈M/\∃cs fr,w.heap[b]?=some (.cells cs 3 fr)
 bM:∀b off,A.ma=some (aA b off)->0<st.next.bH.length->b∈M/\∃cs fr,w.heap[b]?=some (.cells cs 3 fr)
 nw:st.aI.nw=0
 iL:∀k,k<st.aI.nl->gW (st.aI.lt k)
 iO:∀k,k<st.next.nL->gW (st.next.lt k)
 ns:st.aI.ns<=32
 nl:st.aI.nl<=8
 nL:st.next.nL<=N
 nR:st.next.nR<=N
 nD:st.next.bA.length<=20000
 nM:st.next.bH.length<=20000
 clu:∀fa cs c rd T,st.clu=some (fa,cs,c,rd,T)->L5 w O A.C st.aI fa cs c rd T/\T<=N
def gD.cells(st:gD)(A:gN):Array Value:=mV st.aI.nodes st.aI.aF st.aI.aJ st.aI.aC st.aI.aH st.aI.round A.vS A.vL st.aI.frame (st.clu.map fun _=>(aA A.C 0)) A.vO A.vR (sV A.da st.next.bA.length A.dc) (sV A.ma st.next.bH.length A.mc)
structure jF(w:World)(base S:Nat)(M O:List Nat)(st:gD)(A:gN)(N:Nat):Prop where
 r:aG8 w base S M O st A N
 blk:w.heap[S]?=some (.cells (st.cells A) 70 (0,0))
theorem gE{v:Value}{S:Nat}{xs:List Value}{fr:Nat×Nat}(h:w.ownsRow base e size v n xs)(hS:w.heap[S]?=some (.cells cs t fr))(ht:e≠t)(hg:v.ownBlock=some g):g≠S:=by
 intro hgS;subst hgS;rcases h.2 with⟨q,_⟩|⟨g',cap,cur,q,_,hh,_⟩
 ·rw[q]at hg;cases hg
 ·rw[q]at hg;cases hg;rw[hS]at hh;injection hh with hh;injection hh with _ h2;exact ht h2.symm
theorem sJ{cs':Array Value}{t':TypeId}{fr fr':Nat×Nat}(h:w.heap[b]?=some (.cells cs t fr))(h':w.heap[c]?=some (.cells cs' t' fr'))(dM:t≠t'):b≠c:=by intro e;subst e;rw[h]at h';injection h' with h';injection h' with _ h2;exact dM h2
theorem eQ{v:Value}{xs:List Value}(h:w.ownsRow base e size v n xs)(hs:∀g,v.ownBlock=some g->w'.heap[g]?=w.heap[g]?):w'.ownsRow base e size v n xs:=zMg
theorem fD{v:Value}{xs:List Value}(h:w.ownsRow base e size v n xs)(hg:v.ownBlock=some g):∃cs fr,w.heap[g]?=some (.cells cs e fr):=by
 rcases h.2 with⟨q,_⟩|⟨g',cap,cur,q,_,hh,_⟩
 ·rw[q]at hg;cases hg
 ·rw[q]at hg;cases hg;exact⟨_,_,hh⟩
theorem bE.at{a:Option Addr}{l:List Int}(h:bE w a l)(hsz:w.heap.size<=w'.heap.size)(hs:∀b off,a=some (aA b off)->0<l.length->w'.heap[b]?=w.heap[b]?):bE w' a l:=fun h0=>by obtain⟨b,off,e,hl,hc⟩:=h h0;exact⟨b,off,e,kB hl hsz,fun j hj=>(World.cell?_of_block (w:=w) (hs b off e h0)).trans (hc j hj)⟩
section
variable{w w':World}{base S:Nat}{M O:List Nat}{st:gD}{A:gN}{N:Nat}
theorem aG8.keep(h:aG8 w base S M O st A N){fr:Nat×Nat}(hb:w.heap[S]?=some (.cells cs 70 fr))(hsz:w.heap.size<=w'.heap.size)(hM:∀c,c∈M->c≠S->w'.heap[c]?=w.heap[c]?)(hO:Same O w w'):aG8 w' base S M O st A N:=by
 have own:∀{e:TypeId}{size:Nat}{v:Value}{n:Nat}{xs:List Value},w.ownsRow base e size v n xs->e≠70->(∀g,v.ownBlock=some g->g∈M)->w'.ownsRow base e size v n xs:=fun h1 h2 h3=>eQ h1 fun g hg=>hM g (h3 g hg) (gE h1 hb h2 hg);have dM:∀{b:Nat},(∃cs fr,w.heap[b]?=some (.cells cs 3 fr))->b≠S:=fun⟨_,_,q⟩=>sJ q hb oe;exact { h with
  hi:=fun c hc=>kB (h.hi c hc) hsz
  hiO:=fun c hc=>kB (h.hiO c hc) hsz
  oS:=own h.oS oe h.bS
  oL:=own h.oL oe h.bL
  oO:=own h.oO oe h.bO
  oR:=own h.oR oe h.bR
  rD:=h.rD.at hsz fun b off e h0=>hM b (h.bD b off e h0).1 (dM (h.bD b off e h0).2)
  rM:=h.rM.at hsz fun b off e h0=>hM b (h.bM b off e h0).1 (dM (h.bM b off e h0).2)
  bD:=fun b off e h0=>⟨(h.bD b off e h0).1,j6⟩
  bM:=fun b off e h0=>⟨(h.bM b off e h0).1,j5⟩
  clu:=fun fa cs c rd T e=>⟨gG.keep (h.clu fa cs c rd T e).1 hO,(h.clu fa cs c rd T e).2⟩ }
theorem aG8.later(h:aG8 w base S M O st A N)(hN:N<=N'):aG8 w base S M O st A N':=
 { h with nL:=kG h.nL hN,nR:=kG h.nR hN,clu:=fun fa cs c rd T e=>⟨(h.clu fa cs c rd T e).1,kG (h.clu fa cs c rd T e).2 hN⟩ }
theorem jF.later(h:jF w base S M O st A N)(hN:N<=N'):jF w base S M O st A N':=⟨h.r.later hN,h.blk⟩
theorem jF.keep(h:jF w base S M O st A N)(hM:Same M w w')(hO:Same O w w'):jF w' base S M O st A N:=
 ⟨h.r.keep h.blk hM.1 (fun c hc _=>hM.2 c hc) hO,(hM.2 S h.r.s).trans h.blk⟩
theorem jF.below(h:jF w base S M O st A N)(hb:bW w w'):jF w' base S M O st A N:=h.keep (Same.of_below hb h.r.hi) (Same.of_below hb h.r.hiO)
theorem jF.rest(h:jF w base S M O st A N)(hsz:w'.heap.size=w.heap.size)(ho:∀c,c≠S->w'.heap[c]?=w.heap[c]?):aG8 w' base S M O st A N:=
 h.r.keep h.blk (Nat.le_of_eq hsz.symm) (fun c _ hn=>ho c hn) ⟨Nat.le_of_eq hsz.symm,fun c hc=>ho c (fun e=>h.r.ap c hc (e▸h.r.s))⟩
end
def cS(base S:Nat)(M O:List Nat)(st:gD)(N:Nat)(k:Kd)(n:List Int)(tx:ByteArray)(w:World)(e:Ending)(w':World):Prop:=
 ∃qQ r M' O' A',sI k st n tx qQ r/\e=r.ending/\aS (M++O) (M'++O') w w'/\jF w' base S M' O' qQ A' (N+1)
end
section
section
variable{w:World}{base S:Nat}{M O:List Nat}{st:gD}{A:gN}{N:Nat}
theorem jF.alloc(h:jF w base S M O st A N)(o:Obj):jF (w.alloc o) base S M O st A N:=h.below ((kX _ w).alloc (kF _) o)
theorem aS.alloc{X:List Nat}(o:Obj):aS X X w (w.alloc o):=aS.of_below ((kX _ w).alloc (kF _) o)
theorem bQ{X:List Nat}{i:Nat}(hS:S∈X)(v:Value):aS X X w (w.setCell (aA S i) v):=
 ⟨rfl,rfl,rfl,oh,fun c _ hn=>cJ (fun e=>hn (by rw[e];exact hS)) v,fun _ h=>.inl h⟩
theorem bdN(v:World)(q:Nat):bW v (v.drewN q):=⟨rfl,rfl,rfl,kF _,fun _ _=>rfl⟩
def mY(w:World)(M:List Nat)(a:Option Addr)(n:List Int):Prop:=bE w a n/\∀b off,a=some (aA b off)->0<n.length->b∈M/\∃cs fr,w.heap[b]?=some (.cells cs 3 fr)
theorem mY.ne{a:Option Addr}{n:List Int}{b off:Nat}(hr:mY w M a n)(h:jF w base S M O st A N)(e:a=some (aA b off))(h0:0<n.length):b≠S:=by obtain⟨_,_,_,q⟩:=hr.2 b off e h0;exact sJ q h.blk oe
theorem aKl{X Y:List Nat}{u v:World}{q:Nat}(h:aS X Y u v):aS X Y u (v.drewN q):=⟨h.os,h.tape,h.output,h.size,h.block,h.fresh⟩
theorem aFp(h:jF w base S M O st A N)(hc0:st.clu=none)(n:List Int)(hn:n.length=6)(a:Option Addr)(cap:Nat)(tx:ByteArray)(hr:mY w M a n):
  Calls prog 18 #[pP S,.agg #[sV a n.length cap,sT tx]] w (cS base S M O st N .qX n tx w):=by obtain⟨b,off,rfl,gX,hc⟩:=hr.1 od;have dM:b≠S:=hr.ne h rfl od;rw[hn]at hc⊢;generalize hV:w.alloc (.cells #[sV (some (aA b off)) 6 cap,sT tx] 83)=V;have hB:bW w V:=hV▸(kX _ w).alloc (kF _) _;have x0:V.cell? (aA w.heap.size 0)=some (sV (some (aA b off)) 6 cap):=ou;have m63:=0;exact zKf
end
end
section
def aJ3:gN:=⟨sV none 0 0,sV none 0 0,sV none 0 0,sV none 0 0,none,0,none,0,0⟩
theorem cW{u:World}{b:Nat}{o:Obj}(h:u.heap[b]?=some o):b<u.heap.size:=(Array.getElem?_eq_some_iff.1 h).1
section
variable{w:World}{base S:Nat}{M O:List Nat}{st:gD}{A:gN}{N:Nat}
theorem aKh(h:jF w base S M O st A N)(n:List Int)(hn:n.length<=20000)(a:Option Addr)(cap:Nat)(tx:ByteArray)(hr:mY w M a n):
  Calls prog 27 #[pP S,.agg #[sV a n.length cap,sT tx]] w (cS base S M O st N .mF n tx w):=zJ6
theorem aQ3(h:jF w base S M O st A N)(n:List Int)(hn:n.length<=20000)(a:Option Addr)(cap:Nat)(tx:ByteArray)(hr:mY w M a n):
  Calls prog 28 #[pP S,.agg #[sV a n.length cap,sT tx]] w (cS base S M O st N .qL n tx w):=have m54:=0;zJ6
theorem aPf(h:jF w base S M O st A N)(n:List Int)(v:Value)(tx:ByteArray):
  Calls prog 37 #[pP S,.agg #[v,sT tx]] w (cS base S M O st N .wB n tx w):=by have HS:Hid (∀o:Obj,jF (w.alloc o) base S M O st A N):=fun o=>h.alloc o;clear h;go_enter func37,ntmps37;go_wp2_with fail;go_ret;exact⟨st,.ok aNs,M,O,A,⟨rfl,rfl⟩,rfl,aS.alloc _,(HS.out _).later (kR N)⟩
theorem aKa(h:jF w base S M O st A N)(n:List Int)(v:Value)(tx:ByteArray):
  Calls prog 36 #[pP S,.agg #[v,sT tx]] w (cS base S M O st N .clear_ n tx w):=by
 generalize hV:w.alloc (.cells #[v,sT tx] 83)=V;have hB:bW w V:=hV▸(kX _ w).alloc (kF _) _;have bFl:=yW V;generalize hU:V.alloc (.cells (mV 0 0 0 0 0 0 (sV none 0 0) (sV none 0 0) 1 none (sV none 0 0) (sV none 0 0) (sV none 0 0) (sV none 0 0)) 70)=U at bFl;have hBU:bW V U:=hU▸(kX _ V).alloc (kF _) _;have hbn:U.heap[V.heap.size]?=some (.cells (mV 0 0 0 0 0 0 (sV none 0 0) (sV none 0 0) 1 none (sV none 0 0) (sV none 0 0) (sV none 0 0) (sV none 0 0)) 70 (0,0)):=by rw[<-hU];exact heap_alloc_new V _
 have hs:=(h.below hB).below hBU;have c0:=aM hs.blk (i:=0) rfl;have z0:=bC hs.blk (i:=0);have c1:=aM hs.blk (i:=1) rfl;have z1:=bC hs.blk (i:=1);have c2:=aM hs.blk (i:=2) rfl;have z2:=bC hs.blk (i:=2);have c3:=aM hs.blk (i:=3) rfl;have z3:=bC hs.blk (i:=3);have c4:=aM hs.blk (i:=4) rfl;have z4:=bC hs.blk (i:=4);have c5:=aM hs.blk (i:=5) rfl;have z5:=bC hs.blk (i:=5);have c6:=aM hs.blk (i:=6) rfl;have z6:=bC hs.blk (i:=6);have c7:=aM hs.blk (i:=7) rfl;have z7:=bC hs.blk (i:=7);have c8:=aM hs.blk (i:=8) rfl;have z8:=bC hs.blk (i:=8);have c9:=aM hs.blk (i:=9) rfl;have z9:=bC hs.blk (i:=9);have c10:=aM hs.blk (i:=10) rfl;have z10:=bC hs.blk (i:=10);have c11:=aM hs.blk (i:=11) rfl;have z11:=bC hs.blk (i:=11);have c12:=aM hs.blk (i:=12) rfl;have z12:=bC hs.blk (i:=12);have c13:=aM hs.blk (i:=13) rfl;have z13:=bC hs.blk (i:=13);have c14:=aM hs.blk (i:=14) rfl;have z14:=bC hs.blk (i:=14);have x0:U.cell? (aA V.heap.size 0)=some (iI 0):=aM hbn (i:=0) rfl;have x1:U.cell? (aA V.heap.size 1)=some (iI 0):=aM hbn (i:=1) rfl;have x2:U.cell? (aA V.heap.size 2)=some (iI 0):=aM hbn (i:=2) rfl;have x3:U.cell? (aA V.heap.size 3)=some (iI 0):=aM hbn (i:=3) rfl;have x4:U.cell? (aA V.heap.size 4)=some (iI 0):=aM hbn (i:=4) rfl;have x5:U.cell? (aA V.heap.size 5)=some (iI 0):=aM hbn (i:=5) rfl;have x6:U.cell? (aA V.heap.size 6)=some (sV none 0 0):=aM hbn (i:=6) rfl;have x7:U.cell? (aA V.heap.size 7)=some (sV none 0 0):=aM hbn (i:=7) rfl;have x8:U.cell? (aA V.heap.size 8)=some (iI 1):=aM hbn (i:=8) rfl;have x9:U.cell? (aA V.heap.size 9)=some (sV none 0 0):=aM hbn (i:=9) rfl;have x10:U.cell? (aA V.heap.size 10)=some (.pointer none):=aM hbn (i:=10) rfl;have x11:U.cell? (aA V.heap.size 11)=some (sV none 0 0):=aM hbn (i:=11) rfl;have x12:U.cell? (aA V.heap.size 12)=some (sV none 0 0):=aM hbn (i:=12) rfl;have x13:U.cell? (aA V.heap.size 13)=some (sV none 0 0):=aM hbn (i:=13) rfl;have x14:U.cell? (aA V.heap.size 14)=some (sV none 0 0):=aM hbn (i:=14) rfl;have dM:V.heap.size≠S:=by have:=(h.below hB).r.hi S h.r.s;omega
 have HS:Hid (jF U base S M O st A N):=hs;have HB:Hid (aS (M++O) (M++O) w U):=(aS.of_below hB).trans (aS.of_below hBU);clear hs h hB hBU hbn hU;go_enter func36,ntmps36;go_wp2_with fail;refine bFl.mono ?_;rintro e u1 ⟨rfl,rfl⟩;go_wp2_with fail;go_ret;have hd:=HS.out;have hS:S∈M++O:=kK (.inl hd.r.s);obtain⟨U,hU⟩:∃U,U=(((((((((((((((u1.setCell (aA S 0) (iI 0)).setCell (aA S 1) (iI 0)).setCell (aA S 2) (iI 0)).setCell (aA S 3) (iI 0)).setCell (aA S 4) (iI 0)).setCell (aA S 5) (iI 0)).setCell (aA S 6) (sV none 0 0)).setCell (aA S 7) (sV none 0 0)).setCell (aA S 8) (iI 1)).setCell (aA S 9) (sV none 0 0)).setCell (aA S 10) (.pointer none)).setCell (aA S 11) (sV none 0 0)).setCell (aA S 12) (sV none 0 0)).setCell (aA S 13) (sV none 0 0)).setCell (aA S 14) (sV none 0 0)):=⟨_,rfl⟩;rw[<-hU];have hfo:aS (M++O) (M++O) w U:=by rw[hU];exact(((((((((((((((HB.out.trans (bQ hS _)).trans (bQ hS _)).trans (bQ hS _)).trans (bQ hS _)).trans (bQ hS _)).trans (bQ hS _)).trans (bQ hS _)).trans (bQ hS _)).trans (bQ hS _)).trans (bQ hS _)).trans (bQ hS _)).trans (bQ hS _)).trans (bQ hS _)).trans (bQ hS _)).trans (bQ hS _))
 have hb:U.heap[S]?=some (.cells (gD.start.cells aJ3) 70 (0,0)):=by exact zBi
 have hsz:U.heap.size=u1.heap.size:=by rw[hU];simp
 have R6:∀c,c≠S->U.heap[c]?=u1.heap[c]?:=fun c hc=>by rw[hU];simp only[cJ hc]
 exact zBd
end
end
def jU(n:Nat):Code->Option Code
 |.block i c=>if i=n then some (.block i c)else jU n c
 |.loop c=>jU n c
 |.seq a b=>(jU n a).orElse fun _=>jU n b
 |.scope c=>jU n c
 |.cond _ a b=>(jU n a).orElse fun _=>jU n b
 |_=>none
section
theorem aFx{u u':World}{row:Option Nat}(h:u.drew.grownBy u' row):u.grownBy u' row:=⟨h.os,h.tape,h.output,h.size,h.block⟩
section
variable{w V w3:World}{base S:Nat}{M O:List Nat}{st:gD}{A:gN}{N:Nat}
theorem aU1(hs:jF V base S M O st A N)(hB:bW w V)(n:List Int)(E:Obj)(g c:Nat)(hg:(V.alloc E).grownBy w3 A.vO.ownBlock)(bK:w3.ownsRow base 145 3 (sL g (st.next.nL+1) c) (st.next.nL+1) (bN st.next.ls st.next.lc st.next.lt st.next.nL++[iI (n.getD 0 0),iI (n.getD 1 0),iI (n.getD 2 0)]))(jW:A.vO.ownBlock=some g\/g=V.heap.size+1)(hlt:g<w3.heap.size)(hi:gW (n.getD 2 0)):
  aS (M++O) ((g::M)++O) w (w3.setCell (aA S 11) (sL g (st.next.nL+1) c))/\jF (w3.setCell (aA S 11) (sL g (st.next.nL+1) c)) base S (g::M) O { st with next:=st.next.bC2 n } { A with vO:=sL g (st.next.nL+1) c } (N+1):=zI0
theorem aUw(hs:jF V base S M O st A N)(hB:bW w V)(n:List Int)(E:Obj)(g c:Nat)(hg:(V.alloc E).grownBy w3 A.vR.ownBlock)(bK:w3.ownsRow base 146 3 (sL g (st.next.nR+1) c) (st.next.nR+1) (bN st.next.rn st.next.ro st.next.ri st.next.nR++[iI (n.getD 0 0),iI (n.getD 1 0),iI (n.getD 2 0)]))(jW:A.vR.ownBlock=some g\/g=V.heap.size+1)(hlt:g<w3.heap.size):
  aS (M++O) ((g::M)++O) w (w3.setCell (aA S 12) (sL g (st.next.nR+1) c))/\jF (w3.setCell (aA S 12) (sL g (st.next.nR+1) c)) base S (g::M) O { st with next:=st.next.read n } { A with vR:=sL g (st.next.nR+1) c } (N+1):=zP5
theorem aVs(hs:jF V base S M O st A N)(hB:bW w V)(n:List Int)(E:Obj)(g c:Nat)(hg:(V.alloc E).grownBy w3 A.vS.ownBlock)(bK:w3.ownsRow base 94 3 (sL g (st.aI.ns+1) c) (st.aI.ns+1) (bN st.aI.nd st.aI.fr st.aI.td st.aI.ns++[iI (n.getD 0 0),iI (n.getD 1 0),iI (n.getD 2 0)]))(jW:A.vS.ownBlock=some g\/g=V.heap.size+1)(hlt:g<w3.heap.size)(hc:st.clu=none)(sW:st.aI.ns<32):
  aS (M++O) ((g::M)++O) w (w3.setCell (aA S 6) (sL g (st.aI.ns+1) c))/\jF (w3.setCell (aA S 6) (sL g (st.aI.ns+1) c)) base S (g::M) O { st with aI:=st.aI.slot n } { A with vS:=sL g (st.aI.ns+1) c } (N+1):=zJh
theorem aTz(hs:jF V base S M O st A N)(hB:bW w V)(n:List Int)(E:Obj)(g c:Nat)(hg:(V.alloc E).grownBy w3 A.vL.ownBlock)(bK:w3.ownsRow base 96 4 (sL g (st.aI.nl+1) c) (st.aI.nl+1) (dD st.aI.lf st.aI.lt st.aI.lb st.aI.lq st.aI.nl++[iI (n.getD 0 0),iI (n.getD 1 0),iI (n.getD 2 0),iI (n.getD 3 0)]))(jW:A.vL.ownBlock=some g\/g=V.heap.size+1)(hlt:g<w3.heap.size)(hc:st.clu=none)(sW:st.aI.nl<8)(hi:gW (n.getD 1 0)):
  aS (M++O) ((g::M)++O) w (w3.setCell (aA S 7) (sL g (st.aI.nl+1) c))/\jF (w3.setCell (aA S 7) (sL g (st.aI.nl+1) c)) base S (g::M) O { st with aI:=st.aI.link n } { A with vL:=sL g (st.aI.nl+1) c } (N+1):=zOo
theorem Tryz.aPp:(Tryz.prog.info? 145).map (fun i=>(i.zero,i.size,i.bytes))=some (some (.agg #[iI 0,iI 0,iI 0]),3,24):=by kernel_rfl
theorem aPw(h:jF w base S M O st A N)(hN:N<=100000)(n:List Int)(hn:n.length=3)(hi:gW (n.getD 2 0))(a:Option Addr)(cap:Nat)(tx:ByteArray)(hr:mY w M a n):
  Calls prog 25 #[pP S,.agg #[sV a n.length cap,sT tx]] w (cS base S M O st N .pV n tx w):=zM4
theorem Tryz.aPq:(Tryz.prog.info? 146).map (fun i=>(i.zero,i.size,i.bytes))=some (some (.agg #[iI 0,iI 0,iI 0]),3,24):=by kernel_rfl
theorem aQq(h:jF w base S M O st A N)(hN:N<=100000)(n:List Int)(hn:n.length=3)(a:Option Addr)(cap:Nat)(tx:ByteArray)(hr:mY w M a n):
  Calls prog 26 #[pP S,.agg #[sV a n.length cap,sT tx]] w (cS base S M O st N .pY n tx w):=have m6:=0;zM4
end
end
