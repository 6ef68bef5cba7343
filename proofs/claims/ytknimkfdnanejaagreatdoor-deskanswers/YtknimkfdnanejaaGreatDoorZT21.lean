import Derived.Test.YtknimkfdnanejaaGreatDoorZT15
namespace Go.Proofs.YtknimkfdnanejaaGreatDoor
open Go.RowKit Go.Proofs.Tryz
set_option maxRecDepth 100000
set_option maxHeartbeats 16000000
section
variable{B' j k:Nat}
section
variable{w:World}{O Z:List Nat}{C:Nat}{p:aQ}{fa:Int}{cs:List Int}{s:cA}{rd:Int}{B:Nat}{m:iD}
theorem cP.rows3{V wr:World}{s':cA}(h:cP O V wr Z C p fa cs s' rd B' m){la:Option Addr}{n:Nat}{f g k:Nat->Int}(hr:dX V la n f g k)(hO:∀b off,la=some (aA b off)->b∉O):dX wr la n f g k:=fun h0=>by obtain⟨b,off,e,hb,hc⟩:=hr h0;have hn:=hO b off e;exact⟨b,off,e,kB hb h.size,fun j hj=>⟨(h.box hb hn _).trans (hc j hj).1,(h.box hb hn _).trans (hc j hj).2.1,(h.box hb hn _).trans (hc j hj).2.2⟩⟩
theorem cP.part{V wr:World}{s':cA}(h:cP O V wr Z C p fa cs s' rd B' m):∃O1,jJ wr O1 Z C p fa cs s' rd B' m/\∀(w':World)(s2:cA)(B2:Nat),(∃O2,aS O1 O2 wr w'/\jJ w' O2 Z C p fa cs s2 rd B2 m)->cP O V w' Z C p fa cs s2 rd B2 m:=by obtain⟨O1,hF,hc⟩:=h;exact⟨O1,hc,fun w' s2 B2 ⟨O2,h2,c2⟩=>⟨O2,hF.trans h2,c2⟩⟩
theorem aJ5(s:cA)(k j:Nat):s.fW k j (s.aV k j)=s:=by
 unfold cA.fW;have:(fun x y=>if x=k/\y=j then s.aV k j else s.aV x y)=s.aV:=by
  funext x y;split
  ·next e=>rw[e.1,e.2]
  ·rfl
 rw[this]
theorem aFq(s:cA)(k j:Nat):s.setPort k j (s.aR k j)=s:=by
 unfold cA.setPort;have:(fun x y=>if x=k/\y=j then s.aR k j else s.aR x y)=s.aR:=by
  funext x y;split
  ·next e=>rw[e.1,e.2]
  ·rfl
 rw[this]
theorem aMz{s:cA}{q:Int}{d:ByteArray}(h:aW (p.lt k) j=true):s.dT p (some (k,q,d)) j=s.take1 k j q d:=kJ h
theorem aW5{s:cA}{q:Int}{d:ByteArray}(h:aW (p.lt k) j=false):s.dT p (some (k,q,d)) j=s:=kI (by rw[h];decide)
def aJl(k:Nat):Bool:=(decide (36<=k)&&decide (k<=38))||(decide (40<=k)&&decide (k<=41))||(decide (332<=k)&&decide (k<=427))
theorem aZb(body:Code)(mP:(Tryz.f56.body.map cY).bind (fun l=>l[7]?)=some body)(Q:Exit->Act->World->Prop)(h:jJ w O Z C p fa cs s rd B m)(i j who:Nat)(mem:Int)(mk:Option (Nat×Int×ByteArray))(LK SQ:Int)(SD:ByteArray)(hLK:LK=gS mk/\SQ=dN mk/\SD=dE mk)(aT:Bool)(l0 l1:Int)(SB:Nat)(la:Option Addr)(nL lc:Nat)(ls oJ lt:Nat->Int)
  (hj:j<p.n)(lK:1<=p.n)(hn:p.n<=16)(qO:p.nl<=8)(hB:B<=9999900)(hmk:tY p mk)(hSB:SB<w.heap.size)(hSO:SB∉O)(sb0:w.cell? (aA SB 0)=some (iI who))(hr:dX w la nL ls oJ lt)(hrO:∀b off,la=some (aA b off)->b∉O)(hL:nL<=9223372036854775807)
  (X9:∀c,c<2->mS ls oJ lt nL i c j=aW (if c=0 then l0 else l1) j){L:List Value}(tC:L.length=452)(s0:L[0]?=some (pP C))(s1:L[1]?=some (sV la nL lc))(s21:L[21]?=some (iI i))(s22:L[22]?=some (pP SB))(s24:L[24]?=some (iI mem))(s25:L[25]?=some (.bool aT))(s27:L[27]?=some (iI LK))(s28:L[28]?=some (iI SQ))(s29:L[29]?=some (sT SD))(s35:L[35]?=some (iI j))(s36:L[36]?=some (iI 0))(bDr:L[332]?=some (iI 0))
  (cN:∀(L':List Value) (wr:World),cP O w wr Z C p fa cs (if cQ aT l0 l1 j 2=true then s.dT p mk j else s) rd (B+2) m->L'.length=452->Rest aJl L L'->L'[36]?=some (iI (if cQ aT l0 l1 j 2=true then eV p.n (s.nodes j).t (tb mem) who mem else 0))->L'[332]?=some (iI 2)->Q (.exit 14) ⟨L'.toArray,[]⟩ wr):
  Code.wp prog (Code.loop body) Q ⟨L.toArray,[]⟩ w:=by have dQ:((Tryz.f56.body.map cY).bind (fun l=>l[7]?)).getD Code.skip=body:=ey;exact zP2
end
end
section
variable{l0 l1 mem:Int}
section
variable{w:World}{O Z:List Nat}{C:Nat}{p:aQ}{fa:Int}{cs:List Int}{s:cA}{rd:Int}{B:Nat}{m:iD}
theorem cP.part2{V wr:World}{s':cA}{B':Nat}(h:cP O V wr Z C p fa cs s' rd B' m):∃O1,jJ wr O1 Z C p fa cs s' rd B' m/\(∀b,b<V.heap.size->b∉O->b∉O1)/\∀(w':World)(s2:cA)(B2:Nat),cP O1 wr w' Z C p fa cs s2 rd B2 m->cP O V w' Z C p fa cs s2 rd B2 m:=by
 obtain⟨O1,hF,hc⟩:=h;refine⟨O1,hc,fun b hb hn y=>?_,fun w' s2 B2 ⟨O2,h2,c2⟩=>⟨O2,hF.trans h2,c2⟩⟩;rcases hF.fresh b y with q|q
 ·exact hn q
 ·omega
theorem aGx{who:Nat}{mk:Option (Nat×Int×ByteArray)}{aT:Bool}{j:Nat}(h:j=who):s.cK p who mem mk aT l0 l1 (j+1)=s.cK p who mem mk aT l0 l1 j:=kJ h
theorem aGy{who:Nat}{mk:Option (Nat×Int×ByteArray)}{aT:Bool}{j:Nat}(h:j≠who):s.cK p who mem mk aT l0 l1 (j+1)=(if cQ aT l0 l1 j 2=true then(s.cK p who mem mk aT l0 l1 j).dT p mk j else s.cK p who mem mk aT l0 l1 j).setNode j ((s.nodes j).hears j p.n who (if cQ aT l0 l1 j 2=true then eV p.n (s.nodes j).t (tb mem) who mem else 0)):=kI h
def aJo(k:Nat):Bool:=(decide (35<=k)&&decide (k<=38))||(decide (40<=k)&&decide (k<=41))||(decide (325<=k)&&decide (k<=439))
theorem Y6(body:Code)(mP:(Tryz.f56.body.map cY).bind (fun l=>l[6]?)=some body)(Q:Exit->Act->World->Prop)(h:jJ w O Z C p fa cs s rd B m)(i who:Nat)(mem:Int)(mk:Option (Nat×Int×ByteArray))(LK SQ:Int)(SD:ByteArray)(hLK:LK=gS mk/\SQ=dN mk/\SD=dE mk)(aT:Bool)(l0 l1:Int)(SB:Nat)(la:Option Addr)(nL lc:Nat)(ls oJ lt:Nat->Int)
  (lK:1<=p.n)(hn:p.n<=16)(qO:p.nl<=8)(hB:B<=9999800)(hmk:tY p mk)(hSB:SB<w.heap.size)(hSO:SB∉O)(sb0:w.cell? (aA SB 0)=some (iI who))(hr:dX w la nL ls oJ lt)(hrO:∀b off,la=some (aA b off)->b∉O)(hrL:∀b off,la=some (aA b off)->b<w.heap.size)(hL:nL<=9223372036854775807)
  (X9:∀j,j<p.n->∀c,c<2->mS ls oJ lt nL i c j=aW (if c=0 then l0 else l1) j){L:List Value}(tC:L.length=452)(s0:L[0]?=some (pP C))(s1:L[1]?=some (sV la nL lc))(s21:L[21]?=some (iI i))(s22:L[22]?=some (pP SB))(s24:L[24]?=some (iI mem))(s25:L[25]?=some (.bool aT))(s27:L[27]?=some (iI LK))(s28:L[28]?=some (iI SQ))(s29:L[29]?=some (sT SD))(bDp:L[324]?=some (iI p.n))(bDq:L[325]?=some (iI 0))
  (cN:∀(L':List Value) (wr:World),cP O w wr Z C p fa cs (s.cK p who mem mk aT l0 l1 p.n) rd (B+4*p.n) m->L'.length=452->Rest aJo L L'->L'[325]?=some (iI p.n)->Q (.exit 12) ⟨L'.toArray,[]⟩ wr):
  Code.wp prog (Code.loop body) Q ⟨L.toArray,[]⟩ w:=by have dQ:((Tryz.f56.body.map cY).bind (fun l=>l[6]?)).getD Code.skip=body:=ey;have m47:=0;exact zP2
end
end
section
variable{k who:Nat}{p:aQ}{s:cA}
def uP(p:aQ)(s:cA)(aT:Bool)(who:Nat)(t:Int)(k:Nat):(Nat->jH)×Option (Nat×Int×ByteArray):=if aT=true then aK p.S who t s.aN k else(s.aN,none)
def goS(p:aQ)(s:cA)(aT:Bool)(who:Nat)(t:Int)(k:Nat):cA:=⟨s.nodes,(uP p s aT who t k).1,s.aV,s.aR⟩
theorem aT1{t:Int}:uP p s false who t (k+1)=uP p s false who t k:=rfl
theorem aXn{t:Int}{x:Nat×Int×ByteArray}(h:(uP p s true who t k).2=some x):uP p s true who t (k+1)=uP p s true who t k:=by unfold uP at h⊢;rw[kJ rfl]at h⊢;rw[kJ rfl];exact S2 (by rw[h];rfl) (k+1) (kR _)
theorem aT2{t:Int}(h:p.S.lf k≠who):uP p s true who t (k+1)=uP p s true who t k:=by unfold uP;rw[kJ rfl,kJ rfl];exact qK h
theorem aXm{t:Int}(h:p.S.lf k=who)(hn:(uP p s true who t k).2=none):uP p s true who t (k+1)=(fun j=>if j=k then((uP p s true who t k).1 k).asked t (p.lb k)else(uP p s true who t k).1 j,
   if fU ((uP p s true who t k).1 k).all.length ((uP p s true who t k).1 k).aP t ((uP p s true who t k).1 k).now ((uP p s true who t k).1 k).last (p.lb k)=0 then some (k,mH ((uP p s true who t k).1 k).aP,((uP p s true who t k).1 k).all.getD ((uP p s true who t k).1 k).aP ByteArray.empty)else none):=by unfold uP at hn⊢;rw[kJ rfl]at hn;rw[kJ rfl,kJ rfl];exact rX h hn
theorem bG5(w:World)(a b c d:Value)(t:TypeId):(w.alloc (.cells #[a,b,c,d] t)).cell? (aA w.heap.size 0)=some a/\bW w (w.alloc (.cells #[a,b,c,d] t))/\(w.alloc (.cells #[a,b,c,d] t)).heap.size=w.heap.size+1:=⟨oh,(kX _ _).alloc (kF _) _,oh⟩
section
variable{w:World}{O Z:List Nat}{C:Nat}{p:aQ}{fa:Int}{cs:List Int}{s:cA}{rd:Int}{B:Nat}{m:iD}
def aJm(k:Nat):Bool:=(decide (27<=k)&&decide (k<=34))||(decide (274<=k)&&decide (k<=323))
theorem aO5(body:Code)(mP:(Tryz.f56.body.map cY).bind (fun l=>l[5]?)=some body)(Q:Exit->Act->World->Prop)(h:jJ w O Z C p fa cs s rd B m)(who:Nat)(fr t:Int)(aT:Bool)(SB:Nat)(LA:Option Addr)(hLA:LA=m.la)
  (qO:p.nl<=8)(hB:B<=9999900)(hSB:SB<w.heap.size)(hSO:SB∉O)(sb0:w.cell? (aA SB 0)=some (iI who))(sb1:w.cell? (aA SB 1)=some (iI fr))(sH:0<=rd)(uT:rd<=1000000)(xU:1<=p.round)(pE:p.round<=137438953472)(hf0:0<=fr)(zY:fr<=1099511627776)(ht:t=rd*p.round+fr)
  (qF:∀k,k<p.nl->0<=p.lf k/\0<=p.lb k/\p.lb k<=1099511627776){L:List Value}(tC:L.length=452)(s0:L[0]?=some (pP C))(s22:L[22]?=some (pP SB))(s25:L[25]?=some (.bool aT))(s27:L[27]?=some (iI (-1)))(s28:L[28]?=some (iI 0))(s29:L[29]?=some (sT ByteArray.empty))(bDm:L[272]?=some (sV LA p.nl m.rJ))(bDn:L[273]?=some (iI p.nl))(bDo:L[274]?=some (iI 0))
  (cN:∀(L':List Value) (wr:World),cP O w wr Z C p fa cs (goS p s aT who t p.nl) rd B m->L'.length=452->Rest aJm L L'->L'[27]?=some (iI (gS (uP p s aT who t p.nl).2))->L'[28]?=some (iI (dN (uP p s aT who t p.nl).2))->L'[29]?=some (sT (dE (uP p s aT who t p.nl).2))->L'[274]?=some (iI p.nl)->Q (.exit 10) ⟨L'.toArray,[]⟩ wr):
  Code.wp prog (Code.loop body) Q ⟨L.toArray,[]⟩ w:=by have dQ:((Tryz.f56.body.map cY).bind (fun l=>l[5]?)).getD Code.skip=body:=ey;exact zL2
end
end
section
variable{H:lJ}{aT:Bool}{i n who:Nat}{l0 l1 mem:Int}
section
variable{w:World}{O Z:List Nat}{C:Nat}{p:aQ}{fa:Int}{cs:List Int}{s:cA}{rd:Int}{B:Nat}{m:iD}
theorem cP.agree{V wr:World}{s':cA}(h:cP O V wr Z C p fa cs s rd B m)(h1:∀j,j<p.n->s'.nodes j=s.nodes j)(h2:∀k,k<p.nl->s'.aN k=s.aN k)(h3:∀k j,k<p.nl->j<p.n->s'.aV k j=s.aV k j)(h4:∀k j,s'.aR k j=s.aR k j):cP O V wr Z C p fa cs s' rd B m:=by obtain⟨O',h,c⟩:=h;exact⟨O',h,c.agree h1 h2 h3 h4⟩
theorem jJ.msg(h:jJ w O Z C p fa cs s rd B m)(H:lJ)(i:Nat):tY p (s.goes p.S H rd i).2:=zBr
theorem jP(f:Nat->Bool){j:Nat}(hn:n<=16)(hj:j<n):aW (aZ f n) j=f j:=by
 have hb:=mO f n;have hp:(2:Int)^n<=2^16:=xH od;have h16:(2:Int)^16=65536:=oe;rw[I4 _ od];have e:(aZ f n%18446744073709551616).toNat=(aZ f n).toNat:=by generalize aZ f n=X at *;generalize(2:Int)^n=Y at *;omega
 rw[e];have:=oF f n j;rw[kD hj,Bool.true_and]at this;exact this
theorem aMs(hw:p.S.nd i<p.n)(hs:aT=s.sends H (p.S.nd i))(J3:aT=true->mem=aZ (s.pH p.S H (p.S.nd i)) p.n)(h0:∀j,j<p.n->aW l0 j=H.lost i 0 j)(h1:∀j,j<p.n->aW l1 j=H.lost i 1 j)(k x:Nat):
  (s.slot p.S H rd i).aR k x=((s.mT p H rd i).cK p (p.S.nd i) mem (s.goes p.S H rd i).2 aT l0 l1 p.n).aR k x:=by
 by_cases hx:x<p.n
 ·exact((aFr (s:=s) (rd:=rd) hw hs J3 h0 h1).2.2 k x hx).2
 ·obtain⟨_,_,_,q4⟩:=aCj (s.mT p H rd i) p (p.S.nd i) mem (s.goes p.S H rd i).2 aT l0 l1 p.n;rw[q4 k x,kI (fun y=>hx y.1.1)];show(if s.sE p.S H i (s.goes p.S H rd i).2 k x=true/\(s.aR k x).length<16 then _ else s.aR k x)=s.aR k x;rw[kI];rintro⟨y,_⟩;unfold cA.sE at y
  cases hg:(s.goes p.S H rd i).2 with
  |none=>rw[hg]at y;cases y
  |some v=>
   obtain⟨k',q,d⟩:=v
   rw[hg]at y
   simp only[Bool.and_eq_true,decide_eq_true_eq]at y
   exact hx y.2.2.2.1.1
theorem aKm(hs:aT=s.sends H (p.S.nd i)):uP p (s.setNode (p.S.nd i) (s.nodes (p.S.nd i)).aT) aT (p.S.nd i) (rd*p.round+p.fr i) p.nl=s.goes p.S H rd i:=by unfold uP cA.goes;rw[hs];rfl
theorem aGs(hs:aT=s.sends H (p.S.nd i)):goS p (s.setNode (p.S.nd i) (s.nodes (p.S.nd i)).aT) aT (p.S.nd i) (rd*p.round+p.fr i) p.nl=s.mT p H rd i:=by unfold goS cA.mT;rw[aKm hs];rfl
theorem cP.slot{V wr:World}(h:cP O V wr Z C p fa cs ((s.mT p H rd i).cK p (p.S.nd i) mem (s.goes p.S H rd i).2 aT l0 l1 p.n) rd B m)(hw:p.S.nd i<p.n)(hs:aT=s.sends H (p.S.nd i))(J3:aT=true->mem=aZ (s.pH p.S H (p.S.nd i)) p.n)(h0:∀j,j<p.n->aW l0 j=H.lost i 0 j)(h1:∀j,j<p.n->aW l1 j=H.lost i 1 j):cP O V wr Z C p fa cs (s.slot p.S H rd i) rd B m:=by obtain⟨q1,q2,q3⟩:=aFr (s:=s) (rd:=rd) hw hs J3 h0 h1;exact h.agree q1 (fun k _=>q2 k) (fun k j _ hj=>(q3 k j hj).1) (fun k j=>aMs hw hs J3 h0 h1 k j)
theorem bE1(t:Nat->Bool)(hn:n<=16)(h1:who<n)(dM:(who+1)%n≠who):bits BinOp.xor .i64 (bits BinOp.xor .i64 (aZ t n) (2^who)) (2^((who+1)%n))=aZ (fun j=>if j=who\/j=(who+1)%n then !t j else t j) n:=by
 have hx:(who+1)%n<n:=Nat.mod_lt _ od;rw[i7 hn h1,L4 t _ hn,i7 hn hx,L4 _ _ hn];refine gF fun j _=>?_;by_cases e1:j=who
 ·have e2:j≠(who+1)%n:=fun e=>dM (e▸e1);rw[kJ (.inl e1),kD e1,kC e2];cases t j<;>rfl
 ·by_cases e2:j=(who+1)%n
  ·rw[kJ (.inr e2),kC e1,kD e2];cases t j<;>rfl
  ·rw[kI (fun y=>y.elim e1 e2),kC e1,kC e2];cases t j<;>rfl
theorem bE0(t:Nat->Bool)(hn:n<=16)(h1:who<n)(he:(who+1)%n=who):bits BinOp.xor .i64 (aZ t n) (2^who)=aZ (fun j=>if j=who\/j=(who+1)%n then !t j else t j) n:=by
 rw[i7 hn h1,L4 t _ hn];refine gF fun j _=>?_;rw[he];by_cases e1:j=who
 ·rw[kJ (.inl e1),kD e1];cases t j<;>rfl
 ·rw[kI (fun y=>y.elim e1 e1),kC e1];cases t j<;>rfl
end
end
