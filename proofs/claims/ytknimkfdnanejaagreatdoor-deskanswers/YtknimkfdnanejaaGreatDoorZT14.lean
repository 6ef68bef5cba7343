import Derived.Test.YtknimkfdnanejaaGreatDoorZT7
import Derived.Test.YtknimkfdnanejaaGreatDoorZT9
import Derived.Test.YtknimkfdnanejaaGreatDoorZW5
import Derived.Test.YtknimkfdnanejaaGreatDoorZW6
import Derived.Test.YtknimkfdnanejaaGreatDoorZW7
namespace Go.Proofs.YtknimkfdnanejaaGreatDoor
open Go.RowKit Go.Proofs.Tryz
set_option maxRecDepth 100000
set_option maxHeartbeats 16000000
section
variable{B' b j k:Nat}{w w':World}
abbrev iP:vW:=(5,0,0)
abbrev iZ:vW:=(6,0,0)
structure iD where
 X:List Nat
 sa:Option Addr
 oD:Nat
 la:Option Addr
 rJ:Nat
 ca:Option Addr
 cI:Nat
 nb:Nat
 vQ:Nat
 ka:Option Addr
 kb:Nat
 aKw:Nat
 tb:Nat
 pb:Nat
 P:Nat->Nat
 Q:Nat->Nat
 S:Nat->Nat
 R:Nat->Nat->Nat
structure H9(w:World)(C:Nat)(p:aQ)(fa:Int)(cs:List Int)(rd:Int)(m:iD):Prop where
 c0:w.cell? (aA C 0)=some (iI p.nodes)
 c1:w.cell? (aA C 1)=some (iI p.aF)
 c3:w.cell? (aA C 3)=some (iI p.aC)
 c4:w.cell? (aA C 4)=some (iI p.aH)
 c5:w.cell? (aA C 5)=some (iI p.round)
 c6:w.cell? (aA C 6)=some (sV m.sa p.ns m.oD)
 c7:w.cell? (aA C 7)=some (sV m.la p.nl m.rJ)
 c10:w.cell? (aA C 10)=some (iI fa)
 c11:w.cell? (aA C 11)=some (sV m.ca cs.length m.cI)
 c12:w.cell? (aA C 12)=some (sL m.nb p.n m.vQ)
 c13:w.cell? (aA C 13)=some (sV m.ka p.nl m.aKw)
 c14:w.cell? (aA C 14)=some (.map (some m.tb))
 c15:w.cell? (aA C 15)=some (.map (some m.pb))
 c16:w.cell? (aA C 16)=some (iI rd)
 z:∀i,w.frozen? (aA C i)=false
 lc:C<w.heap.size
 nC:C∉m.X
 lx:∀c,c∈m.X->c<w.heap.size
 ck:0<cs.length->∃b off,m.ca=some (aA b off)/\b∈m.X/\∀j,j<cs.length->w.cell? (aA b (off+j))=some (iI (cs.getD j 0))
 nd:∀j,j<p.n->w.cell? (aA m.nb j)=some (.pointer (some ⟨m.P j,0,none⟩))
 ndX:m.nb∈m.X
 ka:0<p.nl->m.ka=some (aA m.kb 0)/\m.kb∈m.X
 kk:∀k,k<p.nl->w.cell? (aA m.kb k)=some (.pointer (some ⟨m.S k,0,none⟩))
 tk:∃g,jL w m.tb g/\∀k j,k<p.nl->j<p.n->g k j=some (.pointer (some ⟨m.R k j,0,none⟩))
 tbX:m.tb∈m.X
structure I0(w:World)(Z:List Nat)(p:aQ)(m:iD):Prop where
 sl:0<p.ns->∃b off,m.sa=some (aA b off)/\b∈Z/\∀i,i<p.ns->w.cell? ⟨b,off+i*3,none⟩=some (iI (p.nd i))/\w.cell? ⟨b,off+i*3+1,none⟩=some (iI (p.fr i))/\w.cell? ⟨b,off+i*3+2,none⟩=some (iI (p.td i))
 lk:0<p.nl->∃b off,m.la=some (aA b off)/\b∈Z/\∀i,i<p.nl->w.cell? ⟨b,off+i*4,none⟩=some (iI (p.lf i))/\w.cell? ⟨b,off+i*4+1,none⟩=some (iI (p.lt i))/\w.cell? ⟨b,off+i*4+2,none⟩=some (iI (p.lb i))/\w.cell? ⟨b,off+i*4+3,none⟩=some (iI (p.lq i))
 zl:∀c,c∈Z->c<w.heap.size
theorem H9.keep{C:Nat}{p:aQ}{fa:Int}{cs:List Int}{rd:Int}{m:iD}(h:H9 w C p fa cs rd m)(k:Same (C::m.X) w w'):H9 w' C p fa cs rd m:=have m86:=0;zK2
theorem I0.keep{Z:List Nat}{p:aQ}{m:iD}(h:I0 w Z p m)(k:Same Z w w'):I0 w' Z p m:=by
 have cx:∀b i,b∈Z->w'.cell? (aA b i)=w.cell? (aA b i):=fun b i hb=>k.cell (p:=(aA b i)) hb;refine⟨fun h0=>?_,fun h0=>?_,fun c hc=>kB (h.zl c hc) k.1⟩
 ·exact zDs
 ·obtain⟨b,off,e,hb,hc⟩:=h.lk h0;exact⟨b,off,e,hb,fun i hi=>⟨(cx _ _ hb).trans (hc i hi).1,(cx _ _ hb).trans (hc i hi).2.1,(cx _ _ hb).trans (hc i hi).2.2.1,(cx _ _ hb).trans (hc i hi).2.2.2⟩⟩
theorem jT.keep{X:List Nat}{aR:Nat->Nat->List ByteArray}(h:jT w X b aR)(k:Same (b::X) w w'):jT w' X b aR:=by
 obtain⟨g,hg,hr⟩:=h;refine⟨g,hg.keep (k.2 b kQ),fun i j hi hj=>?_⟩;rcases hr i j hi hj with q|⟨v,q1,q2⟩
 ·exact .inl q
 ·exact .inr ⟨v,q1,q2.keep (k.part (fun c hc=>kO _ hc)) (fun c hc=>hc)⟩
theorem bZ.J5{P Q:Nat}{id:Int}{n:Nat}{t:Nat->Bool}{g b:Int}{fz:Bool}(h:bZ w P Q id n t g b fz)(k:Same [P,Q] w w'):bZ w' P Q id n t g b fz:=
 have hp:P∈[P,Q]:=kQ
 have hq:Q∈[P,Q]:=kO _ kQ
 ⟨(k.cell (p:=(aA P 0)) hp).trans h.c0,(k.cell (p:=(aA P 1)) hp).trans h.c1,(k.cell (p:=(aA P 2)) hp).trans h.c2,(k.cell (p:=(aA P 3)) hp).trans h.c3,(k.cell (p:=(aA P 4)) hp).trans h.c4,(k.cell (p:=(aA P 5)) hp).trans h.c5,fun i=>(k.frozen (p:=(aA P i)) hp).trans (h.z i),fun j hj=>(k.cell (p:=(aA Q j)) hq).trans (h.row j hj),fun j=>(k.frozen (p:=(aA Q j)) hq).trans (h.zr j),h.ne,kB h.lp k.1,kB h.lq k.1⟩
structure RM(w:World)(O:List Nat)(Z:List Nat)(Of:vW->List Nat)(C:Nat)(p:aQ)(fa:Int)(cs:List Int)(s:cA)(rd:Int)(B:Nat)(m:iD):Prop where
 base:H9 w C p fa cs rd m
 rows:I0 w Z p m
 ob:Of iB=C::m.X
 oz:Of iZ=Z
 fam:vV w Of
 sub:∀i c,i≠iZ->c∈Of i->c∈O
 az:Apart O Z
 lo:∀c,c∈O->c<w.heap.size
 node:∀j,j<p.n->(bZ w (m.P j) (m.Q j) j p.n (s.nodes j).t (s.nodes j).g (s.nodes j).b (s.nodes j).fz/\Of (iN j)=[m.P j,m.Q j])/\qZ B (s.nodes j)
 snd:∀k,k<p.nl->jA w (Of (iS k)) (m.S k) (p.lb k) (p.lq k) (s.aN k).all (s.aN k).aP (s.aN k).last (s.aN k).now/\vN B (s.aN k)
 rcv:∀k j,k<p.nl->j<p.n->∃a b,(eH w (m.R k j) (s.aV k j) a b/\Of (iR k j)=[m.R k j])/\((0<=a/\a<=B)/\0<=b/\b<=B)/\s.aV k j<=255
 prt:∃PX,Of iP=m.pb::PX/\m.pb∉PX/\jT w PX m.pb s.aR
 pln:∀k j,(s.aR k j).length<=16
def jJ(w:World)(O:List Nat)(Z:List Nat)(C:Nat)(p:aQ)(fa:Int)(cs:List Int)(s:cA)(rd:Int)(B:Nat)(m:iD):Prop:=∃Of,RM w O Z Of C p fa cs s rd B m
section
variable{w w':World}{O Z:List Nat}{Of:vW->List Nat}{C:Nat}{p:aQ}{fa:Int}{cs:List Int}{s:cA}{rd:Int}{B:Nat}{m:iD}
theorem jJ.base(h:jJ w O Z C p fa cs s rd B m):H9 w C p fa cs rd m:=by obtain⟨_,h⟩:=h;exact h.base
theorem jJ.rows(h:jJ w O Z C p fa cs s rd B m):I0 w Z p m:=by obtain⟨_,h⟩:=h;exact h.rows
theorem jJ.lt(h:jJ w O Z C p fa cs s rd B m):∀c,c∈O->c<w.heap.size:=by obtain⟨_,h⟩:=h;exact h.lo
theorem jJ.az(h:jJ w O Z C p fa cs s rd B m):Apart O Z:=by obtain⟨_,h⟩:=h;exact h.az
theorem jJ.mem(h:jJ w O Z C p fa cs s rd B m):C∈O:=by obtain⟨_,h⟩:=h;exact h.sub iB C oe Oz
theorem jJ.keep(h:jJ w O Z C p fa cs s rd B m)(k:Same O w w')(kz:Same Z w w'):jJ w' O Z C p fa cs s rd B m:=by
 obtain⟨Of,h⟩:=h;have hs:∀i,i≠iZ->Same (Of i) w w':=fun i hi=>k.part (fun c hc=>h.sub i c hi hc);refine⟨Of,h.base.keep (h.ob▸hs iB oe),h.rows.keep kz,h.ob,h.oz,⟨fun i c hc=>kB (h.fam.lt i c hc) k.1,h.fam.ap⟩,h.sub,h.az,fun c hc=>kB (h.lo c hc) k.1,fun j hj=>?_,fun i hi=>⟨(h.snd i hi).1.keep (hs _ Ou),(h.snd i hi).2⟩,fun i j hi hj=>?_,?_,h.pln⟩
 ·obtain⟨⟨a,b⟩,c⟩:=h.node j hj;exact⟨⟨a.J5 (b▸hs (iN j) Ou),b⟩,c⟩
 ·obtain⟨a,b,⟨q,e⟩,r⟩:=h.rcv i j hi hj;exact⟨a,b,⟨q.keep (e▸hs (iR i j) Ou),e⟩,r⟩
 ·obtain⟨PX,e,hn,q⟩:=h.prt;exact⟨PX,e,hn,q.keep (e▸hs iP oe)⟩
theorem jJ.below(h:jJ w O Z C p fa cs s rd B m)(k:bW w w'):jJ w' O Z C p fa cs s rd B m:=h.keep (Same.of_below k h.lt) (Same.of_below k h.rows.zl)
theorem jJ.more(h:jJ w O Z C p fa cs s rd B m)(hB:B<=B'):jJ w O Z C p fa cs s rd B' m:=by
 obtain⟨Of,h⟩:=h;refine⟨Of,h.base,h.rows,h.ob,h.oz,h.fam,h.sub,h.az,h.lo,fun j hj=>⟨(h.node j hj).1,?_⟩,fun i hi=>⟨(h.snd i hi).1,?_⟩,fun i j hi hj=>?_,h.prt,h.pln⟩
 ·exact zF9
 ·obtain⟨a,b⟩:=(h.snd i hi).2;exact⟨od,b⟩
 ·obtain⟨a,b,q,⟨⟨r1,r2⟩,r3,r4⟩,t⟩:=h.rcv i j hi hj;exact⟨a,b,q,⟨⟨r1,od⟩,r3,od⟩,t⟩
theorem jJ.agree{s':cA}(h:jJ w O Z C p fa cs s rd B m)(h1:∀j,j<p.n->s'.nodes j=s.nodes j)(h2:∀k,k<p.nl->s'.aN k=s.aN k)(h3:∀k j,k<p.nl->j<p.n->s'.aV k j=s.aV k j)(h4:∀k j,s'.aR k j=s.aR k j):jJ w O Z C p fa cs s' rd B m:=by
 obtain⟨Of,h⟩:=h;have e:s'.aR=s.aR:=by funext k j;exact h4 k j
 refine⟨Of,h.base,h.rows,h.ob,h.oz,h.fam,h.sub,h.az,h.lo,fun j hj=>?_,fun i hi=>?_,fun i j hi hj=>?_,by rw[e];exact h.prt,by rw[e];exact h.pln⟩
 ·rw[h1 j hj];exact h.node j hj
 ·rw[h2 i hi];exact h.snd i hi
 ·rw[h3 i j hi hj];exact h.rcv i j hi hj
theorem RM.aN0(h:RM w O Z Of C p fa cs s rd B m){i:vW}{Y:List Nat}(hi:i≠iB)(hiz:i≠iZ)(k:aS (Of i) Y w w')(hY:∀c,c∈Y->c<w'.heap.size):
  ((aS O (O++Y) w w'/\H9 w' C p fa cs rd m/\I0 w' Z p m)/\dV Of i Y iB=C::m.X/\dV Of i Y iZ=Z)/\vV w' (dV Of i Y)/\(∀i' c,i'≠iZ->c∈dV Of i Y i'->c∈O++Y)/\Apart (O++Y) Z/\(∀c,c∈O++Y->c<w'.heap.size)/\∀i',i'≠i->Same (Of i') w w'/\dV Of i Y i'=Of i':=have bG8:=0;zLr
theorem jJ.nod(h:jJ w O Z C p fa cs s rd B m)(hj:j<p.n):bZ w (m.P j) (m.Q j) j p.n (s.nodes j).t (s.nodes j).g (s.nodes j).b (s.nodes j).fz/\qZ B (s.nodes j)/\
  ∀(w':World)(B':Nat)(N:xQ),bZ w' (m.P j) (m.Q j) j p.n N.t N.g N.b N.fz->aU (m.P j) (m.Q j) w w'->qZ B' N->B<=B'->∃O',aS O O' w w'/\jJ w' O' Z C p fa cs (s.setNode j N) rd B' m:=have m80:=0;zKw
theorem jJ.sdr(h:jJ w O Z C p fa cs s rd B m)(hk:k<p.nl):∃OS,jA w OS (m.S k) (p.lb k) (p.lq k) (s.aN k).all (s.aN k).aP (s.aN k).last (s.aN k).now/\vN B (s.aN k)/\
  ∀(w':World)(OS':List Nat)(B':Nat)(S:jH),jA w' OS' (m.S k) (p.lb k) (p.lq k) S.all S.aP S.last S.now->aS OS OS' w w'->vN B' S->B<=B'->∃O',aS O O' w w'/\jJ w' O' Z C p fa cs (s.tH k S) rd B' m:=by have h0:=h;obtain⟨Of,h⟩:=h;refine⟨Of (iS k),(h.snd k hk).1,(h.snd k hk).2,fun w' OS' B' S hS hF hB U9=>?_⟩;obtain⟨⟨⟨t1,t2,tr⟩,t3,tz⟩,t4,t5,ta,t6,t7⟩:=h.aN0 Ou Ou hF hS.lt;exact zL4
theorem jJ.rcv(h:jJ w O Z C p fa cs s rd B m)(hk:k<p.nl)(hj:j<p.n):∃a b,eH w (m.R k j) (s.aV k j) a b/\((0<=a/\a<=B)/\0<=b/\b<=B)/\s.aV k j<=255/\
  ∀(w':World)(B':Nat)(v a' b':Int),eH w' (m.R k j) v a' b'->aS [m.R k j] [m.R k j] w w'->((0<=a'/\a'<=B')/\0<=b'/\b'<=B')->v<=255->B<=B'->∃O',aS O O' w w'/\jJ w' O' Z C p fa cs (s.fW k j v) rd B' m:=by obtain⟨Of,h⟩:=h;obtain⟨a,b,⟨q,e0⟩,r,t⟩:=h.rcv k j hk hj;refine⟨a,b,q,r,t,fun w' B' v a' b' hS hF hB hv U9=>?_⟩;rw[<-e0]at hF;obtain⟨⟨⟨t1,t2,tr⟩,t3,tz⟩,t4,t5,ta,t6,t7⟩:=h.aN0 Ou Ou hF (e0▸hS.lt);have bGf:=0;exact zL4
theorem jJ.prt(h:jJ w O Z C p fa cs s rd B m):∃PX,jT w PX m.pb s.aR/\m.pb∉PX/\(∀c,c∈PX->c<w.heap.size)/\(∀k j,(s.aR k j).length<=16)/\
  ∀(w':World)(PX':List Nat)(k j:Nat)(v:List ByteArray),jT w' PX' m.pb (s.setPort k j v).aR->m.pb∉PX'->aS (m.pb::PX) (m.pb::PX') w w'->(∀c,c∈PX'->c<w'.heap.size)->v.length<=16->∃O',aS O O' w w'/\jJ w' O' Z C p fa cs (s.setPort k j v) rd B m:=by
 obtain⟨Of,h⟩:=h;obtain⟨PX,e0,hn,q⟩:=h.prt;refine⟨PX,q,hn,fun c hc=>h.fam.lt iP c (by rw[e0];exact kO _ hc),h.pln,fun w' PX' k j v hS hn' hF hl hv=>?_⟩;rw[<-e0]at hF;have hpb:m.pb<w'.heap.size:=kB (h.fam.lt iP m.pb (by rw[e0];exact kQ)) hF.size;obtain⟨⟨⟨t1,t2,tr⟩,t3,tz⟩,t4,t5,ta,t6,t7⟩:=h.aN0 oe oe hF (fun c hc=>by
  rcases kN hc with rfl|y
  ·exact hpb
  ·exact hl c y)
 refine⟨_,t1,_,t2,tr,t3,tz,t4,t5,ta,t6,fun x hx=>?_,fun i hi=>?_,fun i x hi hx=>?_,⟨PX',cZ _ _ _,hn',hS⟩,fun i x=>?_⟩
 ·obtain⟨u1,u2⟩:=t7 (iN x) om;rw[u2];exact zFs
 ·exact zDq
 ·exact zEh
 ·show(if i=k/\x=j then v else s.aR i x).length<=16;split
  ·exact hv
  ·exact h.pln i x
end
def cP(O:List Nat)(V wr:World)(Z:List Nat)(C:Nat)(p:aQ)(fa:Int)(cs:List Int)(s:cA)(rd:Int)(B:Nat)(m:iD):Prop:=∃O',aS O O' V wr/\jJ wr O' Z C p fa cs s rd B m
section
variable{V wr:World}{O Z:List Nat}{C:Nat}{p:aQ}{fa:Int}{cs:List Int}{s:cA}{rd:Int}{B:Nat}{m:iD}
theorem cP.box(h:cP O V wr Z C p fa cs s rd B m)(hb:b<V.heap.size)(hn:b∉O)(i:Nat):wr.cell? (aA b i)=V.cell? (aA b i):=by obtain⟨_,h,_⟩:=h;exact h.cell (p:=(aA b i)) hb hn
theorem cP.size(h:cP O V wr Z C p fa cs s rd B m):V.heap.size<=wr.heap.size:=by obtain⟨_,h,_⟩:=h;exact h.size
theorem cP.base(h:cP O V wr Z C p fa cs s rd B m):H9 wr C p fa cs rd m:=by obtain⟨_,_,h⟩:=h;exact h.base
theorem cP.rows(h:cP O V wr Z C p fa cs s rd B m):I0 wr Z p m:=by obtain⟨_,_,h⟩:=h;exact h.rows
theorem cP.below(h:cP O V wr Z C p fa cs s rd B m)(k:bW wr w'):cP O V w' Z C p fa cs s rd B m:=zF7
theorem cP.drawn(h:cP O V wr Z C p fa cs s rd B m)(u:Nat):cP O V (wr.drewN u) Z C p fa cs s rd B m:=h.below ⟨rfl,rfl,rfl,kF _,fun _ _=>rfl⟩
theorem cP.more(h:cP O V wr Z C p fa cs s rd B m)(hB:B<=B'):cP O V wr Z C p fa cs s rd B' m:=by obtain⟨O',h,c⟩:=h;exact⟨O',h,c.more hB⟩
end
end
section
structure NM(w:World)(base:Nat)(Z:List Nat)(Of:vW->List Nat)(C:Nat)(p:aQ)(cc:Nat->Option Value)(fT:List Nat)(m:iD)(i k:Nat)(T:Nat->Nat->Bool)(iT iU:Value):Prop where
 cel:∀q,q≠12->q≠13->w.cell? (aA C q)=cc q
 c12:w.cell? (aA C 12)=some iT
 c13:w.cell? (aA C 13)=some iU
 z:∀q,w.frozen? (aA C q)=false
 own12:w.ownsRow base 119 1 iT i ((List.range i).map fun j=>.pointer (some ⟨m.P j,0,none⟩))
 own13:w.ownsRow base 110 1 iU k ((List.range k).map fun j=>.pointer (some ⟨m.S j,0,none⟩))
 ob:Of iB=C::m.tb::(fT++(iT.ownBlock.toList++iU.ownBlock.toList))
 ap:iT.ownBlock=none\/iT.ownBlock≠iU.ownBlock
 nC:C∉m.tb::(fT++(iT.ownBlock.toList++iU.ownBlock.toList))
 nT:m.tb∉fT++(iT.ownBlock.toList++iU.ownBlock.toList)
 n12:∀g,iT.ownBlock=some g->g∉fT
 n13:∀g,iU.ownBlock=some g->g∉fT
 node:∀j,j<i->bZ w (m.P j) (m.Q j) j p.n (fun _=>true) 1 0 false/\Of (iN j)=[m.P j,m.Q j]
 snd:∀j,j<k->jA w (Of (iS j)) (m.S j) (p.lb j) (p.lq j) [] 0 0 0
 rcv:∀a b,T a b=true->eH w (m.R a b) (-1) 0 0/\Of (iR a b)=[m.R a b]
 tk:∃g,jL w m.tb g/\∀a b,T a b=true->g a b=some (.pointer (some ⟨m.R a b,0,none⟩))
 prt:Of iP=[m.pb]/\jT w [] m.pb (fun _ _=>[])
 eN:∀j,i<=j->Of (iN j)=[]
 eS:∀j,k<=j->Of (iS j)=[]
 eR:∀a b,T a b=false->Of (iR a b)=[]
 oz:Of iZ=Z
 fam:vV w Of
 lo:∀x c,x≠iZ->c∈Of x->base<=c
 sz:base<=w.heap.size
section
variable{w w':World}{base:Nat}{Z:List Nat}{Of:vW->List Nat}{C:Nat}{p:aQ}{cc:Nat->Option Value}{fT:List Nat}{m:iD}{i k:Nat}{T:Nat->Nat->Bool}{iT iU:Value}
theorem NM.below(h:NM w base Z Of C p cc fT m i k T iT iU)(b:Below w.heap.size w w'):NM w' base Z Of C p cc fT m i k T iT iU:=by
 have lC:C<w.heap.size:=h.fam.lt iB C Oz;have hs:∀x,Same (Of x) w w':=fun x=>Same.of_below b (h.fam.lt x);refine⟨fun q h1 h2=>(b.cell (p:=⟨C,q,none⟩) lC).trans (h.cel q h1 h2),(b.cell (p:=⟨C,12,none⟩) lC).trans h.c12,(b.cell (p:=⟨C,13,none⟩) lC).trans h.c13,fun q=>(b.frozen (p:=⟨C,q,none⟩) lC).trans (h.z q),fF h.own12 b,fF h.own13 b,h.ob,h.ap,h.nC,h.nT,h.n12,h.n13,fun j hj=>⟨(h.node j hj).1.J5 ((h.node j hj).2▸hs (iN j)),(h.node j hj).2⟩,fun j hj=>(h.snd j hj).keep (hs _),fun a c hT=>⟨(h.rcv a c hT).1.keep ((h.rcv a c hT).2▸hs (iR a c)),(h.rcv a c hT).2⟩,?_,⟨h.prt.1,?_⟩,h.eN,h.eS,h.eR,h.oz,(h.fam.below b).1,h.lo,kG h.sz b.size⟩
 ·obtain⟨g,hg,hr⟩:=h.tk;exact⟨g,hg.keep (b.block _ hg.lt),hr⟩
 ·exact h.prt.2.keep (by have:=hs iP;rw[h.prt.1]at this;exact this)
theorem NM.lC(h:NM w base Z Of C p cc fT m i k T iT iU):C<w.heap.size:=h.fam.lt iB C Oz
theorem NM.aYq{P Q:Nat}(h:NM w base Z Of C p cc fT m i k T iT iU)(b:bW w w')(hN:bZ w' P Q i p.n (fun _=>true) 1 0 false)(hP:w.heap.size<=P)(hQ:w.heap.size<=Q):
  vV w' (dV Of (iN i) [P,Q])/\∀x c,x≠iZ->c∈dV Of (iN i) [P,Q] x->base<=c:=by
 refine⟨h.fam.add b (h.eN i (kF _)) (fun c hc=>?_),fun x c hx hc=>?_⟩
 ·simp only[List.mem_cons,List.not_mem_nil,or_false]at hc;rcases hc with rfl|rfl
  ·exact⟨hP,hN.lp⟩
  ·exact⟨hQ,hN.lq⟩
 ·by_cases e:x=iN i
  ·subst e;rw[cZ]at hc;simp only[List.mem_cons,List.not_mem_nil,or_false]at hc;have:=h.sz;rcases hc with rfl|rfl<;>omega
  ·exact zFt
end
end
section
section
variable{w:World}{O Z:List Nat}{C:Nat}{p:aQ}{fa:Int}{cs:List Int}{s:cA}{rd:Int}{B:Nat}{m:iD}
theorem S1(x hi:Int)(b:Bool)(h:decide (0<=x/\x<=hi)=b):Hid (∀(y h:Int)(u:World),y=x/\h=hi->Calls prog 53 #[iI y,iI 0,iI h] u fun e w'=>e=rT (.bool b)/\w'=u):=fun y q u hx=>by obtain⟨rfl,rfl⟩:=hx;have:=wG y 0 q u;rw[h]at this;exact this
theorem aY3(x hi:Int)(b:Bool)(h:decide (0<=x/\x<=hi)=b):Hid (∀u:World,Calls prog 53 #[iI x,iI 0,iI hi] u fun e w'=>e=rT (.bool b)/\w'=u):=fun u=>by have:=wG x 0 hi u;rw[h]at this;exact this
theorem jJ.bCw(h:jJ w O Z C p fa cs s rd B m):C≠m.pb:=by obtain⟨Of,h⟩:=h;obtain⟨PX,e,_,_⟩:=h.prt;intro q;exact h.fam.ap iB iP oe C Oz (by rw[e,q];exact kQ)
theorem aMh(h:jJ w O Z C p fa cs s rd B m)(j k:Int)(lK:1<=p.nodes)(wC:p.nodes<=16)(hj:¬(0<=j/\j<p.nodes)):
  Calls prog 55 #[pP C,iI j,iI k] w fun e w'=>e=rT (tU #[sT ByteArray.empty,iI 2])/\bW w w':=by have H1:=aY3 j (p.nodes-1) false (kC od);have c0:=h.base.c0;have lc:=h.base.lc;clear h hj;generalize p.nodes=N at *;go_enter func55,ntmps55;go_wp2_with fail;go_quiet((go_at_call 53;refine Calls.quiet_of_same (H1.out _)));exact zIc
theorem aMi(h:jJ w O Z C p fa cs s rd B m)(j k:Int)(lK:1<=p.nodes)(wC:p.nodes<=16)(hj:0<=j/\j<p.nodes)(qO:p.nl<=8)(hk:¬(0<=k/\k<p.nl)):
  Calls prog 55 #[pP C,iI j,iI k] w fun e w'=>e=rT (tU #[sT ByteArray.empty,iI 2])/\bW w w':=by have H1:=S1 j (p.nodes-1) true (kD od);have H2:=S1 k ((p.nl:Int)-1) false (kC od);have c0:=h.base.c0;have c13:=h.base.c13;have lc:=h.base.lc;clear h hk;generalize p.nodes=N at *;exact zBz
theorem aMj(h:jJ w O Z C p fa cs s rd B m)(j k:Nat)(jB:p.nodes=p.n)(wC:p.n<=16)(hj:j<p.n)(qO:p.nl<=8)(hk:k<p.nl)(hb:aW (p.lt k) j=false):
  Calls prog 55 #[pP C,iI j,iI k] w fun e w'=>e=rT (tU #[sT ByteArray.empty,iI 2])/\bW w w':=zJ9
theorem aRm(h:jJ w O Z C p fa cs s rd B m)(j k:Nat)(jB:p.nodes=p.n)(wC:p.n<=16)(hj:j<p.n)(qO:p.nl<=8)(hk:k<p.nl)(hb:aW (p.lt k) j=true):
  Calls prog 55 #[pP C,iI j,iI k] w fun e w'=>e=rT (tU #[sT (recvD (s.aR k j)),iI (zH (s.aR k j))])/\∃O',aS O O' w w'/\jJ w' O' Z C p fa cs (s.recv k j) rd B m:=have m57:=0;zJ9
end
end
section
section
variable{w w1 w3:World}{base:Nat}{Z:List Nat}{Of:vW->List Nat}{C:Nat}{p:aQ}{cc:Nat->Option Value}{fT:List Nat}{m:iD}{i k:Nat}{T:Nat->Nat->Bool}{iT iU V':Value}
theorem NM.addNode{P Q:Nat}(h:NM w base Z Of C p cc fT m i k T iT iU)(b:bW w w1)(hN:bZ w1 P Q i p.n (fun _=>true) 1 0 false)(hP:w.heap.size<=P)(hQ:w.heap.size<=Q)
  (bK:w3.ownsRow base 119 1 V' (i+1) (((List.range i).map fun j=>.pointer (some ⟨m.P j,0,none⟩))++[pP P]))(hgr:(w1.alloc (.cells #[pP P] 119)).grownBy w3 iT.ownBlock)(jW:V'.ownBlock=iT.ownBlock\/V'.ownBlock=some (w1.heap.size+1)):
  ∃Of',NM (w3.setCell (aA C 12) V') base Z Of' C p cc fT { m with P:=fun j=>if j=i then P else m.P j,Q:=fun j=>if j=i then Q else m.Q j } (i+1) k T V' iU:=by have h1:=h.below b;obtain⟨aGz,X9⟩:=h.aYq b hN hP hQ;have F7:=0;exact zI2
end
end
section
section
variable{w w1 w3:World}{base:Nat}{Z:List Nat}{Of:vW->List Nat}{C:Nat}{p:aQ}{cc:Nat->Option Value}{fT:List Nat}{m:iD}{i k:Nat}{T:Nat->Nat->Bool}{iT iU V':Value}
theorem NM.aWz{S:Nat}(h:NM w base Z Of C p cc fT m i k T iT iU)(b:bW w w1)(hN:jA w1 [S] S (p.lb k) (p.lq k) [] 0 0 0)(hP:w.heap.size<=S)
  (bK:w3.ownsRow base 110 1 V' (k+1) (((List.range k).map fun j=>.pointer (some ⟨m.S j,0,none⟩))++[pP S]))(hgr:(w1.alloc (.cells #[pP S] 110)).grownBy w3 iU.ownBlock)(jW:V'.ownBlock=iU.ownBlock\/V'.ownBlock=some (w1.heap.size+1)):
  ∃Of',NM (w3.setCell (aA C 13) V') base Z Of' C p cc fT { m with S:=fun j=>if j=k then S else m.S j } i (k+1) T iT V':=by
 have h1:=h.below b;have aGz:vV w1 (dV Of (iS k) [S]):=h.fam.add b (h.eS k (kF _)) (fun c hc=>by
  rw[List.mem_singleton.1 hc]
  exact⟨hP,hN.lt S kQ⟩)
 have X9:∀x c,x≠iZ->c∈dV Of (iS k) [S] x->base<=c:=fun x c hx hc=>by
  by_cases e:x=iS k
  ·subst e;rw[cZ]at hc;have:=h.sz;rw[List.mem_singleton.1 hc];omega
  ·exact zFt
 exact zI2
end
end
section
variable{base:Nat}
theorem bAn(w:World)(x:Value)(t:TypeId):(w.alloc (.cells #[x] t)).cell? (aA w.heap.size 0)=some x:=by simp
theorem bHw(w:World)(x:Value)(t t':TypeId):((w.alloc (.cells #[x] t)).alloc (.cells #[] t')).cell? (aA w.heap.size 0)=some x:=by rw[World.cell?_alloc_lt _ _ _ oh];exact bAn ..
theorem aLm{w:World}{e:TypeId}{size:Nat}{v:Value}{n:Nat}{xs:List Value}(h:w.ownsRow base e size v n xs):w.drew.ownsRow base e size v n xs:=h
theorem aRu(l:List ByteArray):∀u∈l.map Value.string,u.oneCell'=true:=fun u hu=>by obtain⟨x,_,rfl⟩:=List.mem_map.1 hu;rfl
theorem aJ0{w:World}{v xv:Value}{l x:List ByteArray}{X:List Nat}(ty:TypeId)(bK:w.ownsRow base 9 1 v l.length (l.map Value.string))(hx:mZ w X xv x)(hlen:l.length+x.length<=2000)(qV:base<=w.heap.size):
  ∃v' w',(Builtin.append_ #[43,43] ty #[v,xv]).run prog w=.ok v' w'/\w'.ownsRow base 9 1 v' (l++x).length ((l++x).map Value.string)/\w.grownBy w' v.ownBlock:=by
 obtain⟨i0,hi,lO,mX,jX⟩:=info_parts Tryz.aNw;obtain⟨a,cap,rfl,_,_,hc⟩:=hx
 cases x with
 |nil=>
  obtain⟨va,vc,rfl⟩:=eY bK
  have hcap:l.length<=vc:=by
   rcases bK.2 with⟨e,h0⟩|⟨g,cap',cur,e,_,_,h4,h5,_⟩
   ·injection e;omega
   ·injection e;omega
  have hs:Src prog i0.size 43 (sV a 0 cap) 0 [] w:=by
   cases a with
   |none=>exact Src.ofNil w underlying43 cap
   |some a=>exact Src.ofSlice w underlying43 a 0 cap [] oh (fun j u h=>by simp at h) (fun u h=>by cases h)
  refine⟨_,w,run_append_nothing w _ _ _ _ i0 underlying43 hi va l.length vc hcap _ hs,?_,?_⟩
  ·simp only[List.append_nil];exact bK
  ·exact World.grownBy.refl _ _
 |cons y ys=>
  obtain⟨b,off,rfl,hbX,gX,tN⟩:=hc oh
  obtain⟨v',w',hr,h2,h3,_,h5⟩:=run_append_own_at (P:=prog) w base 43 ty 9 i0 (sT ByteArray.empty) 1 16 underlying43 hi lO mX jX rfl oe v l.length (l.map Value.string) bK (aA b off) (y::ys).length cap ((y::ys).map Value.string) oh (fun j u hu=>by
   rw[nE]
   rw[List.getElem?_map]at hu
   cases e:(y::ys)[j]? with
   |none=>rw[e]at hu;cases hu
   |some z=>
    rw[e]at hu
    have hj:j<(y::ys).length:=(List.getElem?_eq_some_iff.1 e).1
    have:=tN j hj
    rw[List.getD_eq_getElem?_getD,e]at this
    rw[<-kW hu]
    exact this) (aRu _) (by unfold maxLen;simp at hlen;simp;omega) (by simp at hlen;simp;omega) qV
  refine⟨v',w',hr,?_,h3⟩
  rw[List.length_append,List.map_append]
  exact h2
theorem aVp{w:World}{g:Nat}{v:Value}{l:List ByteArray}{d:ByteArray}(ty:TypeId)(bK:w.ownsRow base 9 1 v l.length (l.map Value.string))(hd:w.cell? (aA g 0)=some (sT d))(hlen:l.length<=1000)(qV:base<=w.heap.size):
  ∃v' w',(Builtin.append_ #[43,43] ty #[v,sL g 1 1]).run prog w=.ok v' w'/\w'.ownsRow base 9 1 v' (l++[d]).length ((l++[d]).map Value.string)/\w.grownBy w' v.ownBlock:=by
 have hl:g<w.heap.size:=lt_of_cell hd;exact aJ0 (X:=[g]) ty bK (x:=[d]) ⟨_,1,rfl,oh,oe,fun _=>⟨g,0,rfl,List.mem_singleton.2 rfl,hl,fun j hj=>by
  have:j=0:=by simp at hj;omega
  subst this
  exact hd⟩⟩ ol qV
theorem zM{sX:Array Oper}{o:Oper}{a:Act}{K:Act->World->Prop}{Q:Exit->Act->World->Prop}{E:Prop}{w:World}(hgd:o.guard=none)(s x:Operand)(t:TypeId)(ho:o.op=.call { callee:=.builtin .append,args:=#[s,x],argTypes:=#[t,t] })(v xv:Value)(hs:a.eval s=v)(hx:a.eval x=xv){P:Value->World->Prop}
  (hrun:∃v' w',(Builtin.append_ #[t,t] o.type #[v,xv]).run prog w=.ok v' w'/\P v' w')(h:∀v' w',P v' w'->K (a.put o.dst v') w'):if Region.wanted o (yielded sX a.tmps)=true then Oper.wp prog o a w K Q else E:=by
 have hw:Region.wanted o (yielded sX a.tmps)=true:=by simp[Region.wanted,hgd]
 rw[kJ hw];obtain⟨v',w',hr,hp⟩:=hrun;have bKd:=0;exact zL1
section
variable{w:World}{O Z:List Nat}{C:Nat}{p:aQ}{fa:Int}{cs:List Int}{s:cA}{rd:Int}{B:Nat}{m:iD}
theorem aQf{k j:Nat}(hk:k<8)(hj:j<16){PX:List Nat}{u:World}{v:Value}{d:ByteArray}(hP:jT w PX m.pb s.aR)(hpb:m.pb∉PX)(hpl:∀c,c∈PX->c<w.heap.size)(hlen:(s.aR k j).length<16)
  (qD:∀(w':World) (PX':List Nat) (k j:Nat) (v:List ByteArray),jT w' PX' m.pb (s.setPort k j v).aR->m.pb∉PX'->aS (m.pb::PX) (m.pb::PX') w w'->(∀c,c∈PX'->c<w'.heap.size)->v.length<=16->∃O',aS O O' w w'/\jJ w' O' Z C p fa cs (s.setPort k j v) rd B m)
  (hb:bW w u)(bK:u.ownsRow w.heap.size 9 1 v (s.aR k j++[d]).length ((s.aR k j++[d]).map Value.string)):
  ∃w3,(Instr.mapUpdate 107 (.map (some m.pb)) (.agg #[iI k,iI j]) v).run prog u=.ok () w3/\aU m.pb m.pb u w3/\∃O',aS O O' w w3/\jJ w3 O' Z C p fa cs (s.setPort k j (s.aR k j++[d])) rd B m:=by
 have hmb:m.pb<w.heap.size:=by obtain⟨g,hg,_⟩:=hP;exact hg.lt
 have bFr:0<(s.aR k j++[d]).length:=oh;obtain⟨g,cap,rfl,hg,tE⟩:=bK.form bFr;have hP2:jT u (g::PX) m.pb s.aR:=by
  obtain⟨f,hf,hr⟩:=hP;refine⟨f,hf.keep (hb.block _ hmb),fun i' j' hi hj=>?_⟩;rcases hr i' j' hi hj with q|⟨v,q1,q2⟩
  ·exact .inl q
  ·exact .inr ⟨v,q1,q2.keep (Same.of_below hb hpl) (fun c hc=>kO _ hc)⟩
 have bFq:m.pb∉g::PX:=fun e=>by
  rcases kN e with q|q
  ·omega
  ·exact hpb q
 have hcm:cap<=maxLen/\(s.aR k j++[d]).length<=cap:=by
  rcases bK.2 with⟨e,h0⟩|⟨g',cap',cur,e,_,_,h4,h5,h6⟩
  ·cases e
  ·cases e;exact⟨od,od⟩
 have fE:mZ u (g::PX) (sL g (s.aR k j++[d]).length cap) (s.aR k j++[d]):=by refine⟨_,cap,rfl,hcm.2,hcm.1,fun _=>⟨g,0,rfl,kQ,tE,fun i hi=>?_⟩⟩;have:=bK.cells (g:=g) rfl i (sT ((s.aR k j++[d]).getD i ByteArray.empty)) (by rw[List.getElem?_map,List.getD_eq_getElem?_getD,List.getElem?_eq_getElem hi];rfl);exact zIe
 obtain⟨w3,hrun,hP3,hT3⟩:=hP2.put bFq hk hj fE;refine⟨w3,hrun,hT3,?_⟩;refine qD w3 (g::PX) k j _ hP3 bFq ⟨hT3.os.trans hb.os,hT3.tape.trans hb.tape,hT3.output.trans hb.output,kG hb.size hT3.size,fun c hc hn=>?_,fun c hc=>?_⟩ (fun c hc=>?_) ol
 ·have h1:c≠m.pb:=fun e=>hn (e▸kQ);exact(hT3.block c (kB hc hb.size) h1 h1).trans (hb.block c hc)
 ·rcases kN hc with rfl|q
  ·exact .inl kQ
  ·rcases kN q with rfl|q
   ·exact .inr hg
   ·exact .inl (kO _ q)
 ·rcases kN hc with rfl|q
  ·exact kB tE hT3.size
  ·exact kB (hpl c q) (kG hb.size hT3.size)
def aG1(k:Nat):Bool:=(decide (414<=k)&&decide (k<=426))
theorem aVm(code:Code)(lN:Tryz.f56.body.bind (dU 76)=some code)(Q:Exit->Act->World->Prop)(h:jJ w O Z C p fa cs s rd B m)(k j:Nat)(d:ByteArray)(la:Option Addr)(ll rJ:Nat)(hk:k<p.nl)(hj:j<p.n)(qO:p.nl<=8)(hn:p.n<=16)(hv:(Instr.lookup 107 (.map (some m.pb)) (.agg #[iI k,iI j]) false).run prog w=.ok (sV la ll rJ) w)(hlen:(s.aR k j).length<16){L:List Value}(tC:L.length=452)(s0:L[0]?=some (pP C))(s27:L[27]?=some (iI k))(s29:L[29]?=some (sT d))(s35:L[35]?=some (iI j))(s41:L[41]?=some (sV la ll rJ))
  (cN:∀(L':List Value) (w3:World),(∃O',aS O O' w w3/\jJ w3 O' Z C p fa cs (s.setPort k j (s.aR k j++[d])) rd B m)->L'.length=452->Rest aG1 L L'->Q .normal ⟨L'.toArray,[]⟩ w3):
  Code.wp prog code Q ⟨L.toArray,[]⟩ w:=by have dQ:(Tryz.f56.body.bind (dU 76)).getD Code.skip=code:=Ee;exact zL3
end
end
section
variable{g n:Nat}{w wr:World}
structure DR(w wr:World)(g n:Nat)(f:Nat->Int):Prop where
 c:∀j,j<n->wr.cell? (aA g j)=some (iI (f j))
 z:∀j,wr.frozen? (aA g j)=false
 t:aU g g w wr
theorem DR.set{f f':Nat->Int}(h:DR w wr g n f){i:Nat}{x:Int}(hf:∀j,j<n->f' j=if j=i then x else f j):DR w (wr.setCell (aA g i) (iI x)) g n f':=
 ⟨fun j hj=>by
  rw[hf j hj]
  by_cases e:j=i
  ·subst e;rw[kJ rfl];exact aY (h.c j hj)
  ·rw[kI e];exact(aB (.inr e)).trans (h.c j hj),fun j=>bI.trans (h.z j),h.t.set (p:=(aA g i)) (.inl rfl) _⟩
theorem DR.same{f f':Nat->Int}(h:DR w wr g n f)(hf:∀j,j<n->f' j=f j):DR w wr g n f':=⟨fun j hj=>by rw[hf j hj];exact h.c j hj,h.z,h.t⟩
theorem DR.drawn{f:Nat->Int}(h:DR w wr g n f)(q:Nat):DR w (wr.drewN q) g n f:=⟨h.c,h.z,h.t.trans (aU.drawn q)⟩
theorem aDo(c:Nat->Int)(n:Nat):gV (n+1) c=(gV n c||decide (c n< -274877906944\/274877906944<c n)):=by unfold gV;rw[List.range_succ,List.any_append];simp
theorem aDn{c:Nat->Int}{k:Nat}(h:gV k c=true):∀n,k<=n->gV n c=true:=fun n hn=>by unfold gV at h⊢;rw[List.any_eq_true]at h⊢;obtain⟨x,hx,hp⟩:=h;exact⟨x,List.mem_range.2 (by have:=List.mem_range.1 hx;omega),hp⟩
def aN6(k:Nat):Bool:=(decide (184<=k)&&decide (k<=199))
theorem bD7(code:Code)(lN:Tryz.f56.body.bind (dU 29)=some code)(Q:Exit->Act->World->Prop)(C g n gc b off nD dc i:Nat)(aH FI DI DV:Int)(w:World)(hi:(i:Int)<(n:Int))(hd:(i:Int)<(nD:Int))(yg:w.cell? (aA g i)=some (iI FI))(zg:w.frozen? (aA g i)=false)(y4:w.cell? (aA C 4)=some (iI aH))(yd:w.cell? (aA b (off+i))=some (iI DI))(dB:-4398046511104<=FI)(dQ:FI<=4398046511104)(hv1:-137438953472<=DV)(hv2:DV<=137438953472)
  (hcut:∀v:World,Calls prog 99 #[iI DI,iI aH] v fun e w'=>e=rT (iI DV)/\w'=v){L:List Value}(tC:L.length=452)(s0:L[0]?=some (pP C))(s3:L[3]?=some (sV (some (aA b off)) nD dc))(s18:L[18]?=some (sL g n gc))(s20:L[20]?=some (iI i))
  (cN:∀(L':List Value),L'.length=452->Rest aN6 L L'->Q .normal ⟨L'.toArray,[]⟩ (w.setCell (aA g i) (iI (FI+DV))).drew):
  Code.wp prog code Q ⟨L.toArray,[]⟩ w:=by have uR:(Tryz.f56.body.bind (dU 29)).getD Code.skip=code:=Ee;exact zPl
def aG0(k:Nat):Bool:=decide (k=20)||(decide (177<=k)&&decide (k<=206))
def aFz(k:Nat):Bool:=decide (k=10)||decide (k=20)||(decide (177<=k)&&decide (k<=206))
theorem aVl(body:Code)(mP:(Tryz.f56.body.map cY).bind (fun l=>l[3]?)=some body)(Q:Exit->Act->World->Prop)(C g n gc:Nat)(aH:Int)(da:Option Addr)(dc:Nat)(bA:List Int)(f:Nat->Int)(w:World)(hn:n<=16)(hD:DR w w g n f)(tE:g<w.heap.size)(hgC:C≠g)(hcd:w.cell? (aA C 4)=some (iI aH))(hd0:0<=aH)(hd1:aH<=137438953472)(hr:bE w da bA)(hrg:∀b off,da=some (aA b off)->0<bA.length->b≠g)(hlen:bA.length<=9223372036854775807)
  (hf:∀j,j<n->-4398046511104<=f j/\f j<=4398046511104){L:List Value}(tC:L.length=452)(s0:L[0]?=some (pP C))(s3:L[3]?=some (sV da bA.length dc))(s10:L[10]?=some (iI 0))(s18:L[18]?=some (sL g n gc))(bDk:L[176]?=some (iI n))(bDl:L[177]?=some (iI 0))
  (cN:∀(L':List Value) (wr:World),gV n (fun j=>f j+eU bA aH j)=false->DR w wr g n (fun j=>f j+eU bA aH j)->L'.length=452->Rest aG0 L L'->L'[177]?=some (iI n)->Q (.exit 6) ⟨L'.toArray,[]⟩ wr)
  (aY1:∀(L':List Value) (wr:World),gV n (fun j=>f j+eU bA aH j)=true->aU g g w wr->L'.length=452->Rest aFz L L'->L'[10]?=some (iI 6)->Q .ret ⟨L'.toArray,[]⟩ wr):
  Code.wp prog (Code.loop body) Q ⟨L.toArray,[]⟩ w:=by have dQ:((Tryz.f56.body.map cY).bind (fun l=>l[3]?)).getD Code.skip=body:=ey;have aQ0:=0;exact zN9
end
def aJk(k:Nat):Bool:=decide (k=14)||(decide (55<=k)&&decide (k<=72))
theorem aZa(code:Code)(lN:Tryz.f56.body.bind (dU 10)=some code)(Q:Exit->Act->World->Prop)(C i k n ca off cI base:Nat)(a0 a1:Int)(l:List Value)(V:Value)(w:World)(hi:(i:Int)<(n:Int))(hk:(k:Int)<(n:Int))(hn:n<=16)(y11:w.cell? (aA C 11)=some (sV (some (aA ca off)) n cI))(yk:w.cell? (aA ca (off+k))=some (iI a1))(yi:w.cell? (aA ca (off+i))=some (iI a0))(wT:-274877906944<=a0/\a0<=274877906944)(dB:-274877906944<=a1/\a1<=274877906944)
  (bK:w.ownsRow base 3 1 V k l)(qV:base<=w.heap.size)(hCb:C<base)(hcb:ca<base){L:List Value}(tC:L.length=452)(s0:L[0]?=some (pP C))(s13:L[13]?=some (iI i))(s14:L[14]?=some (V))(s15:L[15]?=some (iI k))
  (cN:∀(L':List Value) (gq cq:Nat) (w3:World),w3.ownsRow base 3 1 (sL gq (k+1) cq) (k+1) (l++[iI (a1-a0)])->Below base w w3->L'.length=452->Rest aJk L L'->L'[14]?=some (sL gq (k+1) cq)->Q .normal ⟨L'.toArray,[]⟩ w3):
  Code.wp prog code Q ⟨L.toArray,[]⟩ w:=by have uR:(Tryz.f56.body.bind (dU 10)).getD Code.skip=code:=Ee;exact zMn
def aN9(k:Nat):Bool:=(decide (14<=k)&&decide (k<=15))||(decide (52<=k)&&decide (k<=73))
theorem bDa(body:Code)(mP:(Tryz.f56.body.map cY).bind (fun l=>l[1]?)=some body)(Q:Exit->Act->World->Prop)(C i n ca off cI:Nat)(cs:List Int)(w:World)(hlen:cs.length=n)(hi:i<n)(hn:n<=16)(y11:w.cell? (aA C 11)=some (sV (some (aA ca off)) n cI))(M1:∀j,j<n->w.cell? (aA ca (off+j))=some (iI (cs.getD j 0)))(eE:∀x∈cs,-274877906944<=x/\x<=274877906944){L:List Value}(tC:L.length=452)(s0:L[0]?=some (pP C))(s13:L[13]?=some (iI i))(s14:L[14]?=some (sV none 0 0))(s51:L[51]?=some (iI n))(s52:L[52]?=some (iI 0))
  (cN:∀(L':List Value) (V:Value) (wr:World),wr.ownsRow w.heap.size 3 1 V n ((List.range n).map fun j=>iI (cs.getD j 0-cs.getD i 0))->bW w wr->L'.length=452->Rest aN9 L L'->L'[14]?=some (V)->L'[52]?=some (iI n)->Q (.exit 2) ⟨L'.toArray,[]⟩ wr):
  Code.wp prog (Code.loop body) Q ⟨L.toArray,[]⟩ w:=by have dQ:((Tryz.f56.body.map cY).bind (fun l=>l[1]?)).getD Code.skip=body:=ey;have m76:=0;exact zKs
section
theorem Tryz.aTq:(Tryz.prog.info? 55).map (fun i=>(i.zero,i.size,i.bytes))=some (some (sV none 0 0),1,24):=by kernel_rfl
structure RT(w:World)(base:Nat)(V:Value)(I n:Nat)(f:Nat->Nat->Int)(G cap:Nat->Nat):Prop where
 own:w.ownsRow base 55 1 V I ((List.range I).map fun i=>Value.slice (some ⟨G i,0,none⟩) n (cap i))
 cel:∀i j,i<I->j<n->w.cell? ⟨G i,j,none⟩=some (iI (f i j))
 zG:∀i j,i<I->w.frozen? ⟨G i,j,none⟩=false
 lt:∀i,i<I->base<=G i/\G i<w.heap.size
 ne:∀i i',i<I->i'<I->i≠i'->G i≠G i'
 no:∀i,i<I->V.ownBlock≠some (G i)
section
variable{w w' w3:World}{base I n:Nat}{V V':Value}{f f':Nat->Nat->Int}{G cap:Nat->Nat}
theorem RT.below(h:RT w base V I n f G cap)(k:bW w w'):RT w' base V I n f G cap:=
 ⟨fF h.own k,fun i j hi hj=>(k.cell (p:=⟨G i,j,none⟩) (h.lt i hi).2).trans (h.cel i j hi hj),fun i j hi=>(k.frozen (p:=⟨G i,j,none⟩) (h.lt i hi).2).trans (h.zG i j hi),fun i hi=>⟨(h.lt i hi).1,kB (h.lt i hi).2 k.size⟩,h.ne,h.no⟩
theorem RT.drawn(h:RT w base V I n f G cap)(q:Nat):RT (w.drewN q) base V I n f G cap:=⟨h.own,h.cel,h.zG,h.lt,h.ne,h.no⟩
theorem RT.next{g c:Nat}(h:RT w base V I n f G cap)(ho:w.ownsRow base 3 1 (sL g n c) n ((List.range n).map fun j=>iI (f I j)))(hn:0<n)(hg:∀i,i<I->g≠G i)(hgV:V.ownBlock≠some g)
  (bK:w3.ownsRow base 55 1 V' (I+1) (((List.range I).map fun i=>Value.slice (some ⟨G i,0,none⟩) n (cap i))++[sL g n c]))(hgr:(w.alloc (.cells #[sL g n c] 55)).grownBy w3 V.ownBlock)(jW:V'.ownBlock=V.ownBlock\/V'.ownBlock=some (w.heap.size+1)):
  RT w3 base V' (I+1) n f (fun i=>if i=I then g else G i) (fun i=>if i=I then c else cap i):=by
 have tE:g<w.heap.size/\base<=g:=by obtain⟨g',c',e,h1,h2⟩:=ho.form hn;injection e with e;injection e with e;injection e with e;rw[e];exact⟨h2,h1⟩
 have kb:∀b,b<w.heap.size->V.ownBlock≠some b->w3.heap[b]?=w.heap[b]?:=fun b hb hv=>(hgr.block b ol (fun e=>hv e.symm)).trans (by
  show(w.alloc _).heap[b]?=_
  exact((kX w.heap.size w).alloc (kF _) _).block b hb)
 have lO:∀j,w.frozen? (aA g j)=false:=fun j=>by
  rcases ho.2 with⟨e,_⟩|⟨g',c',cur,hv,_,hh,_⟩
  ·cases e
  ·injection hv with e;injection e with e;injection e with e;subst e;simp[World.frozen?,hh]
 have hc0:∀j,j<n->w.cell? (aA g j)=some (iI (f I j)):=fun j hj=>by have:=ho.cells (g:=g) rfl j (iI (f I j)) (by simp[hj]);exact zCx
 have dM:∀i,i<I->i≠I:=fun i hi=>by omega
 refine⟨?_,fun i j hi hj=>?_,fun i j hi=>?_,fun i hi=>?_,fun i i' hi qC q=>?_,fun i hi=>?_⟩
 ·have e:(List.range (I+1)).map (fun i=>Value.slice (some ⟨if i=I then g else G i,0,none⟩) n (if i=I then c else cap i))=((List.range I).map fun i=>Value.slice (some ⟨G i,0,none⟩) n (cap i))++[sL g n c]:=by
   rw[List.range_succ,List.map_append];congr 1
   ·refine List.map_congr_left fun i hi=>?_;have:=List.mem_range.1 hi;rw[kI od,kI od]
   ·simp
  rw[e];exact bK
 ·by_cases e:i=I
  ·subst e;simp only[kJ];exact(World.cell?_of_block (w:=w) (a:=(aA g j)) (kb g tE.1 hgV)).trans (hc0 j hj)
  ·simp only[kI e];exact(World.cell?_of_block (w:=w) (a:=⟨G i,j,none⟩) (kb _ (h.lt i od).2 (h.no i od))).trans (h.cel i j od hj)
 ·by_cases e:i=I
  ·subst e;simp only[kJ];exact(World.frozen?_of_block (w:=w) (a:=(aA g j)) (kb g tE.1 hgV)).trans (lO j)
  ·simp only[kI e];exact(World.frozen?_of_block (w:=w) (a:=⟨G i,j,none⟩) (kb _ (h.lt i od).2 (h.no i od))).trans (h.zG i j od)
 ·have hs:=hgr.size;have hs2:(w.alloc (.cells #[sL g n c] 55)).heap.size=w.heap.size+1:=oh;rw[hs2]at hs;by_cases e:i=I
  ·simp only[kJ e];exact⟨tE.2,od⟩
  ·simp only[kI e];have:=h.lt i od;exact⟨this.1,od⟩
 ·by_cases e:i=I
  ·rw[kJ e,kI (show ¬i'=I by omega)];exact hg i' od
  ·rw[kI e];by_cases e':i'=I
   ·rw[kJ e'];exact fun y=>hg i od y.symm
   ·rw[kI e'];exact h.ne i i' od od q
 ·by_cases e:i=I
  ·simp only[kJ e];rcases jW with y|y
   ·rw[y];exact hgV
   ·rw[y];intro z;have:=kW z;omega
  ·simp only[kI e];rcases jW with y|y
   ·rw[y];exact h.no i od
   ·rw[y];intro z;have:=kW z;have:=(h.lt i od).2;omega
theorem RT.set(h:RT w base V I n f G cap){i j:Nat}{x:Int}(hi:i<I)(hj:j<n)(hf:∀i' j',i'<I->j'<n->f' i' j'=if i'=i/\j'=j then x else f i' j'):RT (w.setCell ⟨G i,j,none⟩ (iI x)) base V I n f' G cap:=by
 have hs:(w.setCell ⟨G i,j,none⟩ (iI x)).heap.size=w.heap.size:=oh;refine⟨?_,fun i' j' qC D8=>?_,fun i' j' qC=>bI.trans (h.zG i' j' qC),fun i' qC=>by rw[hs];exact h.lt i' qC,h.ne,h.no⟩
 ·have hV:=h.no i hi;have hb:∀b,V.ownBlock=some b->(w.setCell ⟨G i,j,none⟩ (iI x)).heap[b]?=w.heap[b]?:=fun b e=>Below.heap_setCell _ _ _ b (fun y=>hV (by rw[e,y]));exact lI (X:=V.ownBlock.toList) h.own ⟨by rw[hs];exact kF _,fun c hc=>hb c jA1⟩ (fun g hg=>by simpa using hg)
 ·rw[hf i' j' qC D8];by_cases e:i'=i
  ·subst e;by_cases e2:j'=j
   ·subst e2;rw[kJ ⟨rfl,rfl⟩];exact aY (h.cel i' j' qC D8)
   ·rw[kI (fun y=>e2 y.2)];exact(aB (.inr e2)).trans (h.cel i' j' qC D8)
  ·rw[kI (fun y=>e y.1)];exact(aB (.inl (h.ne i' i qC hi e))).trans (h.cel i' j' qC D8)
end
end
def aJw(k:Nat):Bool:=(decide (12<=k)&&decide (k<=15))||(decide (48<=k)&&decide (k<=78))
theorem aZk(body:Code)(mP:(Tryz.f56.body.map cY).bind (fun l=>l[0]?)=some body)(Q:Exit->Act->World->Prop)(C n ca off cI:Nat)(cs:List Int)(w:World)(hlen:cs.length=n)(hn0:0<n)(hn:n<=16)(y11:w.cell? (aA C 11)=some (sV (some (aA ca off)) n cI))(M1:∀j,j<n->w.cell? (aA ca (off+j))=some (iI (cs.getD j 0)))(eE:∀x∈cs,-274877906944<=x/\x<=274877906944){L:List Value}(tC:L.length=452)(s0:L[0]?=some (pP C))(P4:L[11]?=some (iI n))(s12:L[12]?=some (sV none 0 0))(s47:L[47]?=some (iI n))(s48:L[48]?=some (iI 0))
  (cN:∀(L':List Value) (V:Value) (wr:World) (G cap:Nat->Nat),RT wr w.heap.size V n n (fun i k=>cs.getD k 0-cs.getD i 0) G cap->bW w wr->L'.length=452->Rest aJw L L'->L'[12]?=some (V)->L'[48]?=some (iI n)->Q (.exit 0) ⟨L'.toArray,[]⟩ wr):
  Code.wp prog (Code.loop body) Q ⟨L.toArray,[]⟩ w:=by have dQ:((Tryz.f56.body.map cY).bind (fun l=>l[0]?)).getD Code.skip=body:=ey;exact zO5
