import Derived.Test.YtknimkfdnanejaaGreatDoorZT23
import Derived.Test.YtknimkfdnanejaaGreatDoorZT24
namespace Go.Proofs.YtknimkfdnanejaaGreatDoor
open Go.RowKit Go.Proofs.Tryz
set_option maxRecDepth 100000
set_option maxHeartbeats 16000000
theorem aZt{w u w3:World}{n g FB:Nat}{ST:Nat->Int}(hg:u.heap.size<=g/\g<w3.heap.size)(hc:∀j,j<n->w3.cell? (aA g j)=some (iI (ST j)))(hz:∀j,w3.frozen? (aA g j)=false)(hu:bW w u)(hb:bW u w3)(hF:FB≠g)(hF0:w.heap.size<=FB)(x0:w3.cell? (aA FB 0)=some (iI 0)):
  ((w.heap.size<=g/\g<((w3.setCell (aA FB 0) (iI 0)).setCell (aA FB 1) (iI (-1))).heap.size)/\(∀j,j<n->((w3.setCell (aA FB 0) (iI 0)).setCell (aA FB 1) (iI (-1))).cell? (aA g j)=some (iI (ST j)))/\∀j,((w3.setCell (aA FB 0) (iI 0)).setCell (aA FB 1) (iI (-1))).frozen? (aA g j)=false)/\((w3.setCell (aA FB 0) (iI 0)).setCell (aA FB 1) (iI (-1))).cell? (aA FB 0)=some (iI 0)/\bW w ((w3.setCell (aA FB 0) (iI 0)).setCell (aA FB 1) (iI (-1))):=by have hs:=hu.size;refine⟨⟨⟨od,by simpa using hg.2⟩,fun j hj=>(aB (.inl (Ne.symm hF))).trans ((aB (.inl (Ne.symm hF))).trans (hc j hj)),fun j=>bI.trans (bI.trans (hz j))⟩,(aB (.inr oe)).trans (aY x0),((hu.trans (hb.mono hs)).setCell (p:=(aA FB 0)) hF0 _).setCell (p:=(aA FB 1)) hF0 _⟩
def aNa(k:Nat):Bool:=(decide (18<=k)&&decide (k<=19))||(decide (156<=k)&&decide (k<=169))
theorem bDb(code:Code)(lN:Tryz.f56.body.bind (dU 22)=some code)(Q:Exit->Act->World->Prop)(C n ca off cI uX c12 f:Nat)(ST:Nat->Int)(w:World)(y11:w.cell? (aA C 11)=some (sV (some (aA ca off)) n cI))(y1:w.cell? (aA C 1)=some (iI f))
  (aKr:∀u,bW w u->Calls prog 100 #[sV (some (aA ca off)) n cI,sL uX n c12,iI f] u fun ev w'=>∃g gc,ev=rT (tU #[sL g n gc,.agg #[iI 0,iI (-1)]])/\(u.heap.size<=g/\g<w'.heap.size/\(∀j,j<n->w'.cell? (aA g j)=some (iI (ST j)))/\∀j,w'.frozen? (aA g j)=false)/\bW u w'){L:List Value}(tC:L.length=452)(s0:L[0]?=some (pP C))(s12:L[12]?=some (sL uX n c12))
  (cN:∀(L':List Value) (g gc FB:Nat) (w3:World),((w.heap.size<=g/\g<w3.heap.size)/\(∀j,j<n->w3.cell? (aA g j)=some (iI (ST j)))/\∀j,w3.frozen? (aA g j)=false)->w3.cell? (aA FB 0)=some (iI 0)->bW w w3->L'.length=452->Rest aNa L L'->L'[18]?=some (sL g n gc)->L'[19]?=some (pP FB)->Q .normal ⟨L'.toArray,[]⟩ w3):
  Code.wp prog code Q ⟨L.toArray,[]⟩ w:=by have uR:(Tryz.f56.body.bind (dU 22)).getD Code.skip=code:=Ee;have bKl:=0;exact zMn
section
section
variable{w:World}{base S:Nat}{M O:List Nat}{st:gD}{A:gN}{N:Nat}
theorem Tryz.aAe:(Tryz.prog.info? 9).map (fun i=>(i.zero,i.size,i.bytes))=some (some (sT ⟨#[]⟩),1,16):=by kernel_rfl
theorem yZ{u u':World}{B n:Nat}{e:TypeId}{v:Value}{xs:List Value}(h:u.ownsRow B e 1 v n xs)(hb:bW u u'):u'.ownsRow B e 1 v n xs:=eQ h fun g hg=>hb.block g (h.lt g hg).2
theorem aNy:∀(l:List Int),(∀x∈l,gW x)->Lib.lens (l.map fun x=>(dG x).data.toList)<=21*l.length
 |[],_=>by simp[Lib.lens]
 |x::l,h=>by
  have h1:=aNy l fun y hy=>h y (kO _ hy);have h2:(dG x).data.toList.length<=21:=by have:=jQ (h x kQ);rw[Array.length_toList];exact this
  simp only[List.map_cons,Lib.lens,List.length_cons,List.sum_cons]at h1⊢;omega
theorem S6{l:List Int}(hl:l.length<=16)(h:∀x∈l,gW x):(yX l).size<=500:=by
 show(Lib.join (l.map fun x=>(dG x).data.toList) [32]).toArray.size<=500;rw[List.size_toArray]
 cases l with
 |nil=>simp[Lib.join]
 |cons x l=>
  rw[List.map_cons,Lib.join_length,<-List.map_cons (f:=fun x=>(dG x).data.toList)]
  have:=aNy (x::l) h
  simp only[List.length_cons,List.length_nil,List.length_map]at hl this⊢
  omega
def K7(cs:List Int):List Value:=cs.map fun x=>sT (dG x)
theorem aN2(cs:List Int)(k:Nat)(hk:k<cs.length):K7 (cs.take (k+1))=K7 (cs.take k)++[sT (dG (cs.getD k 0))]:=by unfold K7;rw[List.take_add_one,List.getElem?_eq_getElem hk,List.map_append];simp[List.getD_eq_getElem?_getD,List.getElem?_eq_getElem hk]
theorem aTr(cs:List Int)(hl:cs.length<=16)(eE:∀x∈cs,gW x)(B:Nat)(u:World)(v:Value)(h:u.ownsRow B 9 1 v cs.length (K7 cs)):
  Calls prog 62 #[v,sT ⟨#[32]⟩] u fun e w'=>e=rT (sT (yX cs))/\bW u w':=by
 rcases h.2 with⟨rfl,h0⟩|⟨g,cap,cur,rfl,hg,hh,hnc,_⟩
 ·obtain rfl:cs=[]:=List.eq_nil_of_length_eq_zero h0;refine(Tryz.strings_Join_none none 0 ⟨#[32]⟩ u).mono fun e w' q=>?_;rw[q.1,q.2];exact zB1
 ·have e:(cs.map dG).length=cs.length:=by simp
  have hc:∀(j:Nat) x,(cs.map dG)[j]?=some x->u.cell? (aA g (0+j))=some (sT x):=fun j x hj=>by
   have:=h.cells (g:=g) rfl j (sT x) (by
    unfold K7
    rw[List.getElem?_map]at hj⊢
    cases q:cs[j]? with
    |none=>rw[q]at hj;cases hj
    |some y=>rw[q]at hj;cases hj;rfl)
   exact zIe
  have hjl:(Lib.join ((cs.map dG).map (·.data.toList)) [32]).length<=500:=by have:=S6 hl eE;unfold yX at this;rw[List.map_map];show(Lib.join (cs.map fun x=>(dG x).data.toList) [32]).length<=500;simpa[ByteArray.size]using this
  have hj:=Tryz.strings_Join g 0 cap (cs.map dG) ⟨#[32]⟩ u hc (cW hh) (by rw[e];omega) (by rw[e];exact hnc) (by show(Lib.join _ [32]).length<=_;omega);rw[e]at hj;refine hj.mono fun e w' q=>⟨?_,q.2⟩;rw[q.1];unfold yX;rw[List.map_map];rfl
theorem aGk(h:jF w base S M O st A N)(hD:cB w.heap.size w){fa:Int}{cs:List Int}{c:cA}{rd:Int}{T:Nat}(dI:st.clu=some (fa,cs,c,rd,T))(n:List Int)(v:Value)(tx:ByteArray):
  Calls prog 30 #[pP S,.agg #[v,sT tx]] w (cS base S M O st N .jV n tx w):=zNe
end
end
theorem aQ6(x:Int):yX [x]=dG x:=by unfold yX;simp[Lib.join]
theorem aJg(cs:List Int)(aXw:cs.length<=16)(eE:∀x∈cs,gW x)(a:Option Addr)(cap:Nat)(u1:World)(hr:bE u1 a cs)(hD:cB u1.heap.size u1):
  Calls prog 16 #[sV a cs.length cap] u1 fun e w'=>e=rT (sT (yX cs))/\bW u1 w':=by have HR:Hid (bE u1 a cs):=hr;have HI:Hid (∀x∈cs,gW x):=eE;have HD:Hid (∀u,bW u1 u->nV u):=fun u hu=>hD u hu;have m36:=0;exact zJo
theorem pI(x:Int)(hx:gW x)(u:World)(hD:cB u.heap.size u):
  Calls prog 16 #[sL u.heap.size 1 1] (u.alloc (.cells #[iI x] 3)) fun e w'=>e=rT (sT (dG x))/\bW u w':=by
 have hb:bW u (u.alloc (.cells #[iI x] 3)):=(kX _ u).alloc (kF _) _;have fE:bE (u.alloc (.cells #[iI x] 3)) (some (aA u.heap.size 0)) [x]:=fun _=>⟨u.heap.size,0,rfl,oh,fun j hj=>by
  have:j=0:=by simp at hj;exact hj
  subst this
  simp⟩
 have h:=aJg [x] oh (by intro y hy;rcases List.mem_singleton.1 hy with rfl;exact hx) (some (aA u.heap.size 0)) 1 _ fE ((hD.below hb).at (kX _ _) hb.size);rw[aQ6]at h;exact h.mono fun e w' q=>⟨q.1,hb.trans (q.2.mono hb.size)⟩
theorem aMf(word:ByteArray)(hs:word.size<=20000)(w:World)(hw:cB w.heap.size w)(v:Int)(h0:-9223372036854775808<=v)(h1:v<=9223372036854775807)(hp:Lib.parseIntB 64 word.data.toList=.ok v)(he:(⟨(Lib.itoa v).toArray⟩:ByteArray)=word):Calls prog 14 #[sT word] w fun e w'=>e=rT (tU #[iI v,.bool true])/\bW w w':=zNd
theorem aIx(word:ByteArray)(hs:word.size<=20000)(w:World)(hw:cB w.heap.size w)(v:Int)(h0:-9223372036854775808<=v)(h1:v<=9223372036854775807)(hp:Lib.parseIntB 64 word.data.toList=.ok v)(he:(⟨(Lib.itoa v).toArray⟩:ByteArray)≠word):Calls prog 14 #[sT word] w fun e w'=>e=rT (tU #[iI 0,.bool false])/\bW w w':=have m56:=0;zNd
theorem aIy(word:ByteArray)(hs:word.size<=20000)(w:World)(hw:cB w.heap.size w)(hp:Lib.parseIntB 64 word.data.toList=Lib.parseIntB 64 []):Calls prog 14 #[sT word] w fun e w'=>e=rT (tU #[iI 0,.bool false])/\bW w w':=have m99:=0;zLf
theorem aIz(word:ByteArray)(hs:word.size<=20000)(w:World)(hw:cB w.heap.size w)(hp:Lib.parseIntB 64 word.data.toList=.range):Calls prog 14 #[sT word] w fun e w'=>e=rT (tU #[iI 0,.bool false])/\bW w w':=have bK4:=0;zLh
theorem aIw(word:ByteArray)(hs:word.size<=20000)(w:World)(hw:cB w.heap.size w):
  Calls prog 14 #[sT word] w fun e w'=>e=rT (tU #[iI ((qA word).getD 0),.bool (qA word).isSome])/\bW w w':=have m84:=0;zK0
section
section
variable{w V u:World}{base S:Nat}{M O:List Nat}{st:gD}{A:gN}{N:Nat}
theorem jF.aLt(h:jF w base S M O st A N):∃a:iH,A.vS=sV a.sa st.aI.ns a.sc/\A.vL=sV a.la st.aI.nl a.lc/\a.wa=none/\a.wc=0/\st.aI.In a w:=zCy
theorem aP4(p:aQ)(a:iH)(w:World)(eE:p.In a w):∃E I,p.Is E I/\(E=0->mJ p<=2000)/\Calls prog 67 #[p.val a] w fun e w'=>∃v X,e=rT (tU #[v,X])/\jK w' X E I/\(E=0->X=.nilIface/\∃ad cap,v=sV ad (mJ p) cap)/\bW w w':=by
 obtain⟨E,I,hI,_⟩:=gG.chk p a w eE;have hc:∀v:World,bW w v->Calls prog 111 #[p.val a] v fun ev w'=>∃X,ev=rT X/\jK w' X E I/\bW v w':=by intro v hv;obtain⟨E',I',hI',hC⟩:=gG.chk p a v (eE.below hv);obtain⟨rfl,rfl⟩:=hI.one hI';exact hC
 by_cases hE:E=0
 ·subst hE;have hn:=hI.neg;subst hn;obtain⟨⟨d1,d2,d3⟩,jB⟩:=aEk rfl hI;refine⟨0,-1,hI,fun _=>?_,?_⟩
  ·exact kG (iY _) (by rw[qM];omega)
  ·refine(aP5 p.nodes p.aF p.aJ p.aC p.aH p.round p.frame a.sa a.la a.wa p.ns a.sc p.nl a.lc p.nw a.wc p.nd p.fr p.td p.lf p.lt p.lb p.lq p.wp p.wf p.wt w eE.iM eE.aN eE.aWh d1 d2 d3 jB hc).mono ?_;rintro e w' ⟨v,rfl,ho,hb⟩;refine⟨v,.nilIface,rfl,.inl ⟨rfl,rfl,rfl⟩,fun _=>⟨rfl,?_⟩,hb⟩;rcases ho.2 with⟨q,q2⟩|⟨g,cap,cur,q,_⟩
   ·exact⟨none,0,by rw[q];unfold mJ;rw[q2]⟩
   ·exact⟨_,cap,q⟩
 ·refine⟨E,I,hI,fun q=>absurd q hE,?_⟩;refine(aKi p.nodes p.aF p.aJ p.aC p.aH p.round p.frame a.sa a.la a.wa p.ns a.sc p.nl a.lc p.nw a.wc E I w hE hc).mono ?_;rintro e w' ⟨X,rfl,hX,hb⟩;exact⟨_,X,rfl,hX,fun q=>absurd q hE,hb⟩
theorem aK7(h:jF w base S M O st A N)(hD:cB w.heap.size w)(n:List Int)(v:Value)(tx:ByteArray):
  Calls prog 21 #[pP S,.agg #[v,sT tx]] w (cS base S M O st N .bytes_ n tx w):=by generalize hV:w.alloc (.cells #[v,sT tx] 83)=V;exact zI3
end
end
section
section
variable{w V u:World}{base S:Nat}{M O O':List Nat}{st:gD}{A:gN}{N:Nat}
theorem jF.begun(h:jF V base S M O st A N)(hb:bW V u){C:Nat}{fa:Int}{cs:List Int}(hc:L5 u O' C st.aI fa cs cA.start 0 0)(hO:∀c,c∈O'->V.heap.size<=c):
  jF (u.setCell (aA S 10) (pP C)) base S M O' { st with clu:=some (fa,cs,cA.start,0,0) } { A with C:=C } N/\aS (M++O) (M++O') V (u.setCell (aA S 10) (pP C)):=zKp
theorem aMu(h:jF w base S M O st A N)(hD:cB base w)(x:Int)(hx:gW x)(l:List Int)(hl:l.length<=20000)(a:Option Addr)(cap:Nat)(hcap:l.length+1<=cap)(tx:ByteArray)(hr:uU w M O a (x::l)):
  Calls prog 22 #[pP S,.agg #[sV a (l.length+1) cap,sT tx]] w (cS base S M O st N .iV (x::l) tx w):=by obtain⟨b,off,rfl,gX,hc⟩:=hr.1 oh;generalize hV:w.alloc (.cells #[sV (some (aA b off)) (l.length+1) cap,sT tx] 83)=V;have m15:=0;exact zI3
end
end
section
section
variable{w V u:World}{base S:Nat}{M O O':List Nat}{st:gD}{A:gN}{N:Nat}
theorem jF.aFl(h:jF w base S M O st A N)(hN:N<=100000):∃a:nJ,A.vO=sV a.la st.next.nL a.lc/\A.vR=sV a.ra st.next.nR a.rc/\a.da=A.da/\a.dc=A.dc/\a.ma=A.ma/\a.mc=A.mc/\st.next.In a w:=zCh
def gN.aE6(A:gN):gN:={ A with vO:=sV none 0 0,vR:=sV none 0 0,da:=none,dc:=0,ma:=none,mc:=0 }
theorem jF.aE5(h:jF u base S M O st A N):
  jF ((((u.setCell (aA S 11) (sV none 0 0)).setCell (aA S 12) (sV none 0 0)).setCell (aA S 13) (sV none 0 0)).setCell (aA S 14) (sV none 0 0)) base S M O { st with next:=cT.none } A.aE6 N:=zA7
theorem I7{X:List Nat}(hS:S∈X):aS X X u ((((u.setCell (aA S 11) (sV none 0 0)).setCell (aA S 12) (sV none 0 0)).setCell (aA S 13) (sV none 0 0)).setCell (aA S 14) (sV none 0 0)):=
 (((bQ hS _).trans (bQ hS _)).trans (bQ hS _)).trans (bQ hS _)
theorem aMg(h:jF w base S M O st A N)(hD:cB base w){fa:Int}{cs:List Int}{c:cA}{rd:Int}{T:Nat}(dI:st.clu=some (fa,cs,c,rd,T))(hN:N<=3000)(n:List Int)(v:Value)(tx:ByteArray):
  Calls prog 29 #[pP S,.agg #[v,sT tx]] w (cS base S M O st N .oC n tx w):=by generalize hV:w.alloc (.cells #[v,sT tx] 83)=V;exact zQg
end
end
section
variable{C N' T:Nat}{fa rd:Int}
def rQ(w:World)(c:Nat):Prop:=∃t cs fr,w.heap[c]?=some (.cells cs t fr)/\(t=94\/t=96)
def A3(w:World)(M O:List Nat)(C:Nat)(p:aQ)(fa:Int)(cs:List Int)(s:cA)(rd:Int)(T:Nat):Prop:=
 ∃Z m,(∀c,c∈Z->c∈M/\rQ w c)/\jJ w O Z C p fa cs s rd (2600*T+1) m/\vX p fa cs/\0<=rd/\rd<=T
theorem A3.keep{w w':World}{M M' O:List Nat}{p:aQ}{cs:List Int}{s:cA}(h:A3 w M O C p fa cs s rd T)(hO:Same O w w')(hM:∀c,c∈M->rQ w c->c∈M'/\w'.heap[c]?=w.heap[c]?):A3 w' M' O C p fa cs s rd T:=by obtain⟨Z,m,hZ,h1,h2⟩:=h;exact⟨Z,m,fun c hc=>⟨(hM c (hZ c hc).1 (hZ c hc).2).1,by have:=(hZ c hc).2;unfold rQ at this⊢;rw[(hM c (hZ c hc).1 (hZ c hc).2).2];exact this⟩,h1.keep hO ⟨hO.1,fun c hc=>(hM c (hZ c hc).1 (hZ c hc).2).2⟩,h2⟩
theorem A3.lt{w:World}{M O:List Nat}{p:aQ}{cs:List Int}{s:cA}(h:A3 w M O C p fa cs s rd T):∀c,c∈O->c<w.heap.size:=by obtain⟨Z,m,hZ,h1,h2⟩:=h;exact h1.lt
theorem i6{w:World}{c d:Nat}{cs:Array Value}{t:TypeId}{fr:Nat×Nat}(h:rQ w c)(hd:w.heap[d]?=some (.cells cs t fr))(h1:t≠94)(h2:t≠96):c≠d:=by
 obtain⟨t',cs',fr',q,e⟩:=h;refine sJ q hd (fun e'=>?_);subst e';rcases e with e|e
 ·exact h1 e
 ·exact h2 e
structure aG7(w:World)(base S:Nat)(M O:List Nat)(st:gD)(A:gN)(N:Nat):Prop where
 s:S∈M
 lo:∀c,c∈M->base<=c
 hi:∀c,c∈M->c<w.heap.size
 loO:∀c,c∈O->base<=c
 hiO:∀c,c∈O->c<w.heap.size
 ap:Apart O M
 oS:w.ownsRow base 94 3 A.vS st.aI.ns (bN st.aI.nd st.aI.fr st.aI.td st.aI.ns)
 oL:w.ownsRow base 96 4 A.vL st.aI.nl (dD st.aI.lf st.aI.lt st.aI.lb st.aI.lq st.aI.nl)
 oO:w.ownsRow base 114 3 A.vO st.next.nL (bN st.next.ls st.next.lc st.next.lt st.next.nL)
 oR:w.ownsRow base 116 3 A.vR st.next.nR (bN st.next.rn st.next.ro st.next.ri st.next.nR)
 bS:∀g,A.vS.ownBlock=some g->g∈M
 bL:∀g,A.vL.ownBlock=some g->g∈M
 bO:∀g,A.vO.ownBlock=some g->g∈M
 bR:∀g,A.vR.ownBlock=some g->g∈M
 rD:bE w A.da st.next.bA
 rM:bE w A.ma st.next.bH
 bD:∀b off,A.da=some (aA b off)->0<st.next.bA.length->b∈M/\∃cs fr,w.heap[b]?=some (.cells cs 3 fr)
 bM:∀b off,A.ma=some (aA b off)->0<st.next.bH.length->b∈M/\∃cs fr,w.heap[b]?=some (.cells cs 3 fr)
 nw:st.aI.nw=0
 iL:∀k,k<st.aI.nl->gW (st.aI.lt k)
 iO:∀k,k<st.next.nL->gW (st.next.lt k)
 ns:st.aI.ns<=32
 nl:st.aI.nl<=8
 nL:st.next.nL<=N
 nR:st.next.nR<=N
 nD:st.next.bA.length<=20000
 nM:st.next.bH.length<=20000
 clu:∀fa cs c rd T,st.clu=some (fa,cs,c,rd,T)->A3 w M O A.C st.aI fa cs c rd T/\T<=N
structure iG(w:World)(base S:Nat)(M O:List Nat)(st:gD)(A:gN)(N:Nat):Prop where
 r:aG7 w base S M O st A N
 blk:w.heap[S]?=some (.cells (st.cells A) 57 (0,0))
section
variable{w w' V u w3:World}{base S:Nat}{M O O':List Nat}{st:gD}{A:gN}{N:Nat}
theorem aG7.keep(h:aG7 w base S M O st A N){cs:Array Value}{fr:Nat×Nat}(hb:w.heap[S]?=some (.cells cs 57 fr))(hsz:w.heap.size<=w'.heap.size)(hM:∀c,c∈M->c≠S->w'.heap[c]?=w.heap[c]?)(hO:Same O w w'):aG7 w' base S M O st A N:=by
 have own:∀{e:TypeId}{size:Nat}{v:Value}{n:Nat}{xs:List Value},w.ownsRow base e size v n xs->e≠57->(∀g,v.ownBlock=some g->g∈M)->w'.ownsRow base e size v n xs:=fun h1 h2 h3=>eQ h1 fun g hg=>hM g (h3 g hg) (gE h1 hb h2 hg);have dM:∀{b:Nat},(∃cs fr,w.heap[b]?=some (.cells cs 3 fr))->b≠S:=fun⟨_,_,q⟩=>sJ q hb oe;exact { h with
  hi:=fun c hc=>kB (h.hi c hc) hsz
  hiO:=fun c hc=>kB (h.hiO c hc) hsz
  oS:=own h.oS oe h.bS
  oL:=own h.oL oe h.bL
  oO:=own h.oO oe h.bO
  oR:=own h.oR oe h.bR
  rD:=h.rD.at hsz fun b off e h0=>hM b (h.bD b off e h0).1 (dM (h.bD b off e h0).2)
  rM:=h.rM.at hsz fun b off e h0=>hM b (h.bM b off e h0).1 (dM (h.bM b off e h0).2)
  bD:=fun b off e h0=>⟨(h.bD b off e h0).1,j6⟩
  bM:=fun b off e h0=>⟨(h.bM b off e h0).1,j5⟩
  clu:=fun fa cs c rd T e=>⟨(h.clu fa cs c rd T e).1.keep hO (fun x hx hp=>⟨hx,hM x hx (i6 hp hb oe oe)⟩),(h.clu fa cs c rd T e).2⟩ }
theorem aG7.later(h:aG7 w base S M O st A N)(hN:N<=N'):aG7 w base S M O st A N':=
 { h with nL:=kG h.nL hN,nR:=kG h.nR hN,clu:=fun fa cs c rd T e=>⟨(h.clu fa cs c rd T e).1,kG (h.clu fa cs c rd T e).2 hN⟩ }
theorem iG.later(h:iG w base S M O st A N)(hN:N<=N'):iG w base S M O st A N':=⟨h.r.later hN,h.blk⟩
theorem iG.keep(h:iG w base S M O st A N)(hM:Same M w w')(hO:Same O w w'):iG w' base S M O st A N:=
 ⟨h.r.keep h.blk hM.1 (fun c hc _=>hM.2 c hc) hO,(hM.2 S h.r.s).trans h.blk⟩
theorem iG.below(h:iG w base S M O st A N)(hb:bW w w'):iG w' base S M O st A N:=h.keep (Same.of_below hb h.r.hi) (Same.of_below hb h.r.hiO)
theorem iG.rest(h:iG w base S M O st A N)(hsz:w'.heap.size=w.heap.size)(ho:∀c,c≠S->w'.heap[c]?=w.heap[c]?):aG7 w' base S M O st A N:=
 h.r.keep h.blk (Nat.le_of_eq hsz.symm) (fun c _ hn=>ho c hn) ⟨Nat.le_of_eq hsz.symm,fun c hc=>ho c (fun e=>h.r.ap c hc (e▸h.r.s))⟩
theorem aPh(hs:iG V base S M O st A N)(hB:bW w V)(n:List Int)(E:Obj)(g c:Nat)(hg:(V.alloc E).grownBy w3 A.vO.ownBlock)(bK:w3.ownsRow base 114 3 (sL g (st.next.nL+1) c) (st.next.nL+1) (bN st.next.ls st.next.lc st.next.lt st.next.nL++[iI (n.getD 0 0),iI (n.getD 1 0),iI (n.getD 2 0)]))(jW:A.vO.ownBlock=some g\/g=V.heap.size+1)(hlt:g<w3.heap.size)(hi:gW (n.getD 2 0)):
  aS (M++O) ((g::M)++O) w (w3.setCell (aA S 11) (sL g (st.next.nL+1) c))/\iG (w3.setCell (aA S 11) (sL g (st.next.nL+1) c)) base S (g::M) O { st with next:=st.next.bC2 n } { A with vO:=sL g (st.next.nL+1) c } (N+1):=have m12:=0;zI0
theorem aPk(hs:iG V base S M O st A N)(hB:bW w V)(n:List Int)(E:Obj)(g c:Nat)(hg:(V.alloc E).grownBy w3 A.vR.ownBlock)(bK:w3.ownsRow base 116 3 (sL g (st.next.nR+1) c) (st.next.nR+1) (bN st.next.rn st.next.ro st.next.ri st.next.nR++[iI (n.getD 0 0),iI (n.getD 1 0),iI (n.getD 2 0)]))(jW:A.vR.ownBlock=some g\/g=V.heap.size+1)(hlt:g<w3.heap.size):
  aS (M++O) ((g::M)++O) w (w3.setCell (aA S 12) (sL g (st.next.nR+1) c))/\iG (w3.setCell (aA S 12) (sL g (st.next.nR+1) c)) base S (g::M) O { st with next:=st.next.read n } { A with vR:=sL g (st.next.nR+1) c } (N+1):=have m11:=0;zP5
theorem aPl(hs:iG V base S M O st A N)(hB:bW w V)(n:List Int)(E:Obj)(g c:Nat)(hg:(V.alloc E).grownBy w3 A.vS.ownBlock)(bK:w3.ownsRow base 94 3 (sL g (st.aI.ns+1) c) (st.aI.ns+1) (bN st.aI.nd st.aI.fr st.aI.td st.aI.ns++[iI (n.getD 0 0),iI (n.getD 1 0),iI (n.getD 2 0)]))(jW:A.vS.ownBlock=some g\/g=V.heap.size+1)(hlt:g<w3.heap.size)(hc:st.clu=none)(sW:st.aI.ns<32):
  aS (M++O) ((g::M)++O) w (w3.setCell (aA S 6) (sL g (st.aI.ns+1) c))/\iG (w3.setCell (aA S 6) (sL g (st.aI.ns+1) c)) base S (g::M) O { st with aI:=st.aI.slot n } { A with vS:=sL g (st.aI.ns+1) c } (N+1):=have m29:=0;zJh
theorem aPg(hs:iG V base S M O st A N)(hB:bW w V)(n:List Int)(E:Obj)(g c:Nat)(hg:(V.alloc E).grownBy w3 A.vL.ownBlock)(bK:w3.ownsRow base 96 4 (sL g (st.aI.nl+1) c) (st.aI.nl+1) (dD st.aI.lf st.aI.lt st.aI.lb st.aI.lq st.aI.nl++[iI (n.getD 0 0),iI (n.getD 1 0),iI (n.getD 2 0),iI (n.getD 3 0)]))(jW:A.vL.ownBlock=some g\/g=V.heap.size+1)(hlt:g<w3.heap.size)(hc:st.clu=none)(sW:st.aI.nl<8)(hi:gW (n.getD 1 0)):
  aS (M++O) ((g::M)++O) w (w3.setCell (aA S 7) (sL g (st.aI.nl+1) c))/\iG (w3.setCell (aA S 7) (sL g (st.aI.nl+1) c)) base S (g::M) O { st with aI:=st.aI.link n } { A with vL:=sL g (st.aI.nl+1) c } (N+1):=have m28:=0;zOo
theorem iG.begun(h:iG V base S M O st A N)(hb:bW V u){cs:List Int}(hc:A3 u M O' C st.aI fa cs cA.start 0 0)(hO:∀c,c∈O'->V.heap.size<=c):
  iG (u.setCell (aA S 10) (pP C)) base S M O' { st with clu:=some (fa,cs,cA.start,0,0) } { A with C:=C } N/\aS (M++O) (M++O') V (u.setCell (aA S 10) (pP C)):=have m73:=0;zKp
theorem iG.aGl(h:iG V base S M O st A N)(hf:aS O O' V u){cs:List Int}{c:cA}(dM:st.clu≠none)(hc:A3 u M O' A.C st.aI fa cs c rd T)(hT:T<=N):iG u base S M O' { st with clu:=some (fa,cs,c,rd,T) } A N/\aS (M++O) (M++O') V u:=have m79:=0;zKv
theorem iG.aFl(h:iG w base S M O st A N)(hN:N<=100000):∃a:nJ,A.vO=sV a.la st.next.nL a.lc/\A.vR=sV a.ra st.next.nR a.rc/\a.da=A.da/\a.dc=A.dc/\a.ma=A.ma/\a.mc=A.mc/\st.next.In a w:=zCh
theorem iG.aE5(h:iG u base S M O st A N):
  iG ((((u.setCell (aA S 11) (sV none 0 0)).setCell (aA S 12) (sV none 0 0)).setCell (aA S 13) (sV none 0 0)).setCell (aA S 14) (sV none 0 0)) base S M O { st with next:=cT.none } A.aE6 N:=zA7
theorem iG.aLt(h:iG w base S M O st A N):∃a:iH,A.vS=sV a.sa st.aI.ns a.sc/\A.vL=sV a.la st.aI.nl a.lc/\a.wa=none/\a.wc=0/\st.aI.In a w:=zCy
end
end
