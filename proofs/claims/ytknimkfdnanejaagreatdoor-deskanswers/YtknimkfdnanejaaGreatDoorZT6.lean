import Derived.Test.YtknimkfdnanejaaGreatDoorZT4
namespace Go.Proofs.YtknimkfdnanejaaGreatDoor
open Go.RowKit Go.Proofs.Tryz
set_option maxRecDepth 100000
set_option maxHeartbeats 16000000
theorem Tryz.mfp(fn:Fn)(first cap:Array Value)(w:World):(Instr.makeFunc fn first cap).run prog w=.ok (.func fn first cap) w:=rfl
def btw(b c:Nat):Value:=.func (.func 232) #[] #[pP b,pP c]
def Btw(w:World)(fv:Value)(lo hi:Int):Prop:=
 ∃b c:Nat,fv=btw b c/\w.cell? (aA b 0)=some (iI lo)/\w.cell? (aA c 0)=some (iI hi)
theorem Btw.below{w w':World}{fv:Value}{lo hi:Int}(h:Btw w fv lo hi)(hb:bW w w'):Btw w' fv lo hi:=by obtain⟨b,c,e,h1,h2⟩:=h;exact⟨b,c,e,aO h1 hb,aO h2 hb⟩
theorem dO(lo hi:Int)(w:World):Calls prog 196 #[iI lo,iI hi] w fun e w'=>∃fv,e=rT fv/\Btw w' fv lo hi/\bW w w':=by have W9:=Tryz.mfp;go_enter func196,ntmps196;go_wp2;go_ret;refine⟨_,rfl,⟨w.heap.size,w.heap.size+1,rfl,oh,oh⟩,?_⟩;exact zHp
theorem aDj(fv:Value)(lo hi:Int)(b n cap:Nat)(f:Nat->Int)(R:Bool)(w:World)(hn:n<=1000)(hB:Btw w fv lo hi)(hc:∀j,j<n->w.cell? (aA b j)=some (iI (f j)))(hb:b<w.heap.size)
  (hR:R=true↔∀j,j<n->lo<=f j/\f j<=hi):
  Calls prog 195 #[fv,sL b n cap] w fun e w'=>e=rT (.bool R)/\bW w w':=by
 obtain⟨c1,c2,rfl,h1,h2⟩:=hB;unfold btw;have l1:c1<w.heap.size:=lt_of_cell h1;have l2:c2<w.heap.size:=lt_of_cell h2;have HC:Hid (∀j,j<n->w.cell? (aA b j)=some (iI (f j))):=hc;have HR:Hid (R=true↔∀j,j<n->lo<=f j/\f j<=hi):=hR;clear hc hR;go_enter func195,ntmps195;go_wp2;go_loopw[9] (fun t wr=>∃k:Nat,k<=n/\t=iI k/\Hid (∀j,j<k->lo<=f j/\f j<=hi)/\bW w wr) (fun t _=>n-(intOf t).toNat);case atStart=>exact⟨0,kH _,rfl,fun j hj=>absurd hj (kT _),kX _ _⟩
 case round=>
  obtain⟨k,hk,rfl,h0,bT⟩:=hrel;by_cases hlt:k<n
  ·have y0:=bc bT hb (HC.out k hlt);have y1:=bc bT l1 h1;have y2:=bc bT l2 h2;have hz:b<wr.heap.size:=kB hb bT.size;by_cases g1:lo<=f k
   ·by_cases g2:f k<=hi
    ·go_wp2;refine⟨⟨k+1,od,ow,fun j hj=>?_,bT⟩,?_⟩
     ·rcases Nat.lt_succ_iff_lt_or_eq.1 hj with q|q
      ·exact h0.out j q
      ·subst q;exact⟨g1,g2⟩
     ·exact zHv
    ·have g2':decide (f k<=hi)=false:=kC g2;have hRf:R=false:=by
      cases R with
      |false=>rfl
      |true=>exact absurd ((HR.out.1 rfl) k hlt).2 g2
     go_wp2;go_ret;exact⟨rfl,bT⟩
   ·have g1':decide (lo<=f k)=false:=kC g1;have hRf:R=false:=by
     cases R with
     |false=>rfl
     |true=>exact absurd ((HR.out.1 rfl) k hlt).1 g1
    go_wp2;go_ret;exact⟨rfl,bT⟩
  ·have hRt:R=true:=HR.out.2 (fun j hj=>h0.out j od);go_wp2;go_ret;exact⟨by rw[hRt];rfl,bT⟩
theorem bEi(fv:Value)(lo hi x:Int)(b cap:Nat)(w:World)(hB:Btw w fv lo hi)(h0:w.cell? (aA b 0)=some (iI x)):
  Calls prog 195 #[fv,sL b 1 cap] w fun e w'=>e=rT (.bool (decide (lo<=x/\x<=hi)))/\bW w w':=
 aDj fv lo hi b 1 cap (fun _=>x) _ w od hB (fun j hj=>by
  have:j=0:=od
  rw[this];exact h0) (lt_of_cell h0) (by
  rw[decide_eq_true_iff]
  exact⟨fun h _ _=>h,fun h=>h 0 od⟩)
theorem bEj(fv:Value)(lo hi x y:Int)(b cap:Nat)(w:World)(hB:Btw w fv lo hi)(h0:w.cell? (aA b 0)=some (iI x))(h1:w.cell? (aA b 1)=some (iI y)):
  Calls prog 195 #[fv,sL b 2 cap] w fun e w'=>e=rT (.bool (decide ((lo<=x/\x<=hi)/\lo<=y/\y<=hi)))/\bW w w':=
 aDj fv lo hi b 2 cap (fun j=>if j=0 then x else y) _ w od hB (fun j hj=>by
  have:j=0\/j=1:=od
  rcases this with rfl|rfl
  ·exact h0
  ·exact h1) (lt_of_cell h0) (by
  rw[decide_eq_true_iff]
  constructor
  ·intro h j hj
   have:j=0\/j=1:=od
   rcases this with rfl|rfl
   ·exact h.1
   ·exact h.2
  ·intro h
   exact⟨h 0 od,h 1 od⟩)
theorem bEk(fv:Value)(lo hi x y z:Int)(b cap:Nat)(w:World)(hB:Btw w fv lo hi)(h0:w.cell? (aA b 0)=some (iI x))(h1:w.cell? (aA b 1)=some (iI y))(h2:w.cell? (aA b 2)=some (iI z)):
  Calls prog 195 #[fv,sL b 3 cap] w fun e w'=>e=rT (.bool (decide ((lo<=x/\x<=hi)/\(lo<=y/\y<=hi)/\lo<=z/\z<=hi)))/\bW w w':=
 aDj fv lo hi b 3 cap (fun j=>if j=0 then x else if j=1 then y else z) _ w od hB (fun j hj=>by
  have:j=0\/j=1\/j=2:=od
  rcases this with rfl|rfl|rfl
  ·exact h0
  ·exact h1
  ·exact h2) (lt_of_cell h0) (by
  rw[decide_eq_true_iff]
  constructor
  ·intro h j hj
   have:j=0\/j=1\/j=2:=od
   rcases this with rfl|rfl|rfl
   ·exact h.1
   ·exact h.2.1
   ·exact h.2.2
  ·intro h
   exact⟨h 0 od,h 1 od,h 2 od⟩)
theorem aX1(p:Int)(w:World):Calls prog 198 #[iI 0,iI p] w fun ev w'=>ev=rT .nilIface/\bW w w':=by go_enter func198,ntmps198;go_wp2;go_ret;exact zB1
theorem I3(e p:Int)(he:e≠0)(w:World):Calls prog 198 #[iI e,iI p] w fun ev w'=>∃b,ev=rT (.iface 299 (pP b))/\w'.cell? (aA b 0)=some (iI e)/\w'.cell? (aA b 1)=some (iI p)/\bW w w':=by
 have h1:(e==0)=false:=by simpa using he
 clear he;go_enter func198,ntmps198;go_wp2;go_ret;refine⟨_,rfl,oh,oh,?_⟩;exact zGm
def nK(fr tq least most:Int):Int:=if tq<=fr then 1 else if fr<least then 10 else if most<tq then 2 else 0
theorem A9(fr tq least most:Int)(w:World):Calls prog 197 #[.agg #[iI fr,iI tq],iI least,iI most] w fun ev w'=>ev=rT (iI (nK fr tq least most))/\bW w w':=by
 unfold nK;by_cases g1:tq<=fr
 ·rw[kJ g1];exact zB7
 ·rw[kI g1];have g1':decide (tq<=fr)=false:=kC g1;by_cases g2:fr<least
  ·rw[kJ g2];exact zB7
  ·rw[kI g2];have g2':decide (fr<least)=false:=kC g2;by_cases g3:most<tq
   ·rw[kJ g3];exact zB7
   ·rw[kI g3];have g3':decide (most<tq)=false:=kC g3;exact zB7
section
variable{a b nw seq:Int}
def nwV(nw:Int):Int:=if nw<0 then 0 else nw
structure Rcv(w:World)(O:List Nat)(P:Nat)(nw a b:Int):Prop where
 c0:w.cell? (aA P 0)=some (.bool (decide (0<=nw)))
 c1:w.cell? (aA P 1)=some (iI (nwV nw))
 c2:w.cell? (aA P 2)=some (iI a)
 c3:w.cell? (aA P 3)=some (iI b)
 z:∀i,w.frozen? (aA P i)=false
 lp:P<w.heap.size
 own:O=[P]
theorem Rcv.lt{w:World}{O:List Nat}{P:Nat}(h:Rcv w O P nw a b):∀c,c∈O->c<w.heap.size:=by intro c tN;rw[h.own]at tN;have:=h.lp;simp only[List.mem_cons,List.not_mem_nil,or_false]at tN;omega
theorem Rcv.keep{w w':World}{O:List Nat}{P:Nat}(h:Rcv w O P nw a b)(k:Same O w w'):Rcv w' O P nw a b:=by
 have hp:P∈O:=by rw[h.own];exact kM (.inl rfl)
 exact⟨(k.cell (p:=(aA P 0)) hp).trans h.c0,(k.cell (p:=(aA P 1)) hp).trans h.c1,(k.cell (p:=(aA P 2)) hp).trans h.c2,(k.cell (p:=(aA P 3)) hp).trans h.c3,fun i=>(k.frozen (p:=(aA P i)) hp).trans (h.z i),kB h.lp k.1,h.own⟩
theorem bD3(w:World):Calls prog 206 #[] w fun e w'=>∃O P,e=rT (pP P)/\Rcv w' O P (-1) 0 0/\bW w w'/\∀c,c∈O->w.heap.size<=c:=by
 have fin:Rcv (w.alloc (.cells #[.bool false,iI 0,iI 0,iI 0] 324)) [w.heap.size] w.heap.size (-1) 0 0:=
  ⟨oh,by simp[nwV],oh,oh,fun i=>by simp,oh,rfl⟩
 have HF:Hid _:=fin;have HB:Hid (bW w (w.alloc (.cells #[.bool false,iI 0,iI 0,iI 0] 324))):=(kX _ _).alloc (kF _) _;clear fin;go_enter func206,ntmps206;go_wp2;go_ret;exact⟨_,_,rfl,HF.out,HB.out,fun c hc=>by
  simp only[List.mem_cons,List.not_mem_nil,or_false]at hc
  omega⟩
def D3(nw seq:Int):Bool:=decide (seq≠0)&&(decide (1<=(seq-nw+255)%255)&&decide ((seq-nw+255)%255<=127))
theorem aCs{k:Nat}(h:k<=255):mH k=(k:Int):=by unfold mH;split<;>omega
theorem aOi(h0:0<=nw)(h1:nw<=255)(h2:0<=seq)(h3:seq<=255):xF nw seq 127=D3 nw seq:=by
 obtain⟨k,rfl⟩:∃k:Nat,nw=k:=⟨nw.toNat,od⟩;have hk:k<=255:=od;rw[Bool.eq_iff_iff,aHo];unfold D3;rw[<-aCs hk];simp only[aAi,Bool.and_eq_true,decide_eq_true_eq];rw[aCs hk];constructor
 ·rintro⟨d,q1,q2,q3⟩;unfold mH at q3;rw[kI od]at q3;omega
 ·rintro⟨q1,q2,q3⟩;refine⟨((seq-k+255)%255).toNat,od,od,?_⟩;unfold mH;rw[kI od];omega
theorem aOh(h0:0<=nw)(h1:nw<=255)(h2:0<=seq)(h3:seq<=255)(w:World):Calls prog 244 #[iI nw,iI seq] w fun e w'=>e=rT (.bool (D3 nw seq))/\w'=w:=by
 unfold D3;by_cases k0:seq=0
 ·subst k0;go_enter func244,ntmps244;go_wp2;go_ret;exact⟨oh,rfl⟩
 ·have k1:(seq==0)=false:=by simpa using k0
  have hm:Int.tmod (seq-nw+255) 255=(seq-nw+255)%255:=Int.tmod_eq_emod_of_nonneg od;have hx:0<=(seq-nw+255)%255/\(seq-nw+255)%255<255:=od;rw[kD k0,Bool.true_and];generalize(seq-nw+255)%255=x at *;by_cases q1:1<=x
  ·by_cases q2:x<=127
   ·rw[kD q1,kD q2];exact zH6
   ·have q2':=kC q2;rw[kD q1,q2'];clear q2;exact zH6
  ·have q1':=kC q1;rw[q1',Bool.false_and];clear q1;exact zH6
theorem P6(h:¬(0<=seq/\seq<=255)):takeB nw seq=false:=by unfold takeB;rw[kC h,Bool.false_and]
theorem aMx(h:0<=seq/\seq<=255)(hn:nw<0):takeB nw seq=true:=by unfold takeB;rw[kD h,kD hn];rfl
theorem U0(h:0<=seq/\seq<=255)(hn:0<=nw)(h1:nw<=255):takeB nw seq=D3 nw seq:=by unfold takeB;rw[kD h,kC od,aOi hn h1 h.1 h.2];rfl
theorem aPr{w:World}{O:List Nat}{P:Nat}(h:Rcv w O P nw a b)(seq:Int)(wC:nw<=255):
  Calls prog 237 #[pP P,iI seq] w fun e w'=>e=rT (.bool (takeB nw seq))/\w'=w:=by
 obtain⟨c0,c1,c2,c3,z,lp,own⟩:=h;clear z own;by_cases k0:seq<0
 ·rw[P6 od];exact zH7
 ·by_cases k1:255<seq
  ·have k0':=kC k0;rw[P6 od];clear k0;exact zH7
  ·have hs:0<=seq/\seq<=255:=by omega
   have k0':=kC k0;have k1':=kC k1;clear k0 k1;by_cases hn:nw<0
   ·rw[aMx hs hn];rw[kC od]at c0;clear hs;exact zH7
   ·rw[U0 hs od wC];rw[kD od]at c0;have e1:nwV nw=nw:=kI hn;rw[e1]at c1;have hA:=aOh (nw:=nw) (seq:=seq) od wC hs.1 hs.2;clear hn hs e1;generalize D3 nw seq=T at *;go_enter func237,ntmps237;go_wp2_with fail;refine(hA _).mono ?_;rintro e w1 ⟨rfl,q⟩;replace q:=q.symm;subst q;cases T
    ·exact C6
    ·exact C6
theorem aYy{w:World}{O:List Nat}{P:Nat}(h:Rcv w O P nw a b)(seq:Int)(d:ByteArray)(wC:nw<=255)(ha0:0<=a)(ha:a<=4611686018427387904)(wT:0<=b)(hb:b<=4611686018427387904):
  Calls prog 216 #[pP P,.agg #[iI seq,sT d]] w fun e w'=>e=rT (.bool (takeB nw seq))/\∃O',Rcv w' O' P (uK (takeB nw seq) seq nw) (aFu (takeB nw seq) a) (aO8 (takeB nw seq) b)/\aS O O' w w':=by
 have hI:=fun(w':World)(k:Same O w w')=>aPr (h.keep k) seq wC;have eE:=@aJ9 nw seq;obtain⟨T,hT⟩:∃T,takeB nw seq=T:=⟨_,rfl⟩;rw[hT]at hI eE⊢;clear hT;obtain⟨c0,c1,c2,c3,z,lp,rfl⟩:=h;obtain⟨V,hV⟩:∃V,w.alloc (.cells #[iI seq,sT d] 303)=V:=⟨_,rfl⟩;have hB:bW w V:=Jh;have hIw:=hI V (Same.of_below hB (fun c hc=>by simp at hc;omega));have cc:∀i,V.cell? (aA P i)=w.cell? (aA P i):=fun i=>hB.cell (p:=(aA P i)) lp;have HZ:Hid (∀i,V.frozen? (aA P i)=false):=fun i=>(hB.frozen (p:=(aA P i)) lp).trans (z i);have y0:=(cc 0).trans c0;have y1:=(cc 1).trans c1;have y2:=(cc 2).trans c2;have y3:=(cc 3).trans c3;have zz0:=HZ.out 0;have zz1:=HZ.out 1;have zz2:=HZ.out 2;have zz3:=HZ.out 3;have x0:V.cell? (aA w.heap.size 0)=some (iI seq):=eo;have hVs:V.heap.size=w.heap.size+1:=eo;have lV:P<V.heap.size:=od;have HB:Hid (bW w V):=hB;clear hI c0 c1 c2 c3 cc z hB;cases T
 ·clear eE;have HF:Hid (Rcv (V.setCell (aA P 3) (iI (b+1))) [P] P nw a (b+1)):=⟨(aB (.inr oe)).trans y0,(aB (.inr oe)).trans y1,(aB (.inr oe)).trans y2,aY y3,fun i=>bI.trans (HZ.out i),by simpa using lV,rfl⟩;have HT:Hid (aS [P] [P] w (V.setCell (aA P 3) (iI (b+1)))):=(aS.of_below HB.out).trans (aS.jD ((aU.refl P P V).set (p:=(aA P 3)) (.inl rfl) _) (kM (.inl rfl)) (kM (.inl rfl)));exact zL0
 ·have hs:=eE rfl;clear eE;have HF:Hid (Rcv (((V.setCell (aA P 2) (iI (a+1))).setCell (aA P 0) (.bool true)).setCell (aA P 1) (iI seq)) [P] P seq (a+1) b):=by
   refine⟨?_,?_,?_,?_,fun i=>bI.trans (bI.trans (bI.trans (HZ.out i))),by simpa using lV,rfl⟩
   ·rw[kD hs.1];exact(aB (.inr oe)).trans (aY ((aB (.inr oe)).trans y0))
   ·rw[show nwV seq=seq from kI od];exact aY ((aB (.inr oe)).trans ((aB (.inr oe)).trans y1))
   ·exact(aB (.inr oe)).trans ((aB (.inr oe)).trans (aY y2))
   ·exact(aB (.inr oe)).trans ((aB (.inr oe)).trans ((aB (.inr oe)).trans y3))
  have HT:Hid (aS [P] [P] w (((V.setCell (aA P 2) (iI (a+1))).setCell (aA P 0) (.bool true)).setCell (aA P 1) (iI seq))):=(aS.of_below HB.out).trans (aS.jD ((((aU.refl P P V).set (p:=(aA P 2)) (.inl rfl) _).set (p:=(aA P 0)) (.inl rfl) _).set (p:=(aA P 1)) (.inl rfl) _) (kM (.inl rfl)) (kM (.inl rfl)));have bKc:=0;exact zL0
end
section
variable{B P aP:Nat}{all:List ByteArray}{bag last now queue:Int}{v:Value}{w:World}
theorem dF.aVq(h:dF w B P bag queue all v aP last now)(x:Int):dF (w.setCell (aA P 5) (iI x)) B P bag queue all v aP last x:=
 ⟨(aB (.inr oe)).trans h.c0,(aB (.inr oe)).trans h.c1,(aB (.inr oe)).trans h.c2,(aB (.inr oe)).trans h.c3,(aB (.inr oe)).trans h.c4,aY h.c5,fun i=>bI.trans (h.z i),fY h.own h.lp,h.lp,by simpa using h.lb,h.we⟩
theorem dF.setLast(h:dF w B P bag queue all v aP last now)(x:Int):dF (w.setCell (aA P 4) (iI x)) B P bag queue all v aP x now:=
 ⟨(aB (.inr oe)).trans h.c0,(aB (.inr oe)).trans h.c1,(aB (.inr oe)).trans h.c2,(aB (.inr oe)).trans h.c3,aY h.c4,(aB (.inr oe)).trans h.c5,fun i=>bI.trans (h.z i),fY h.own h.lp,h.lp,by simpa using h.lb,h.we⟩
theorem dF.aZr(h:dF w B P bag queue all v aP last now)(x:Nat)(hx:x<=all.length):dF (w.setCell (aA P 3) (iI x)) B P bag queue all v x last now:=
 ⟨(aB (.inr oe)).trans h.c0,(aB (.inr oe)).trans h.c1,(aB (.inr oe)).trans h.c2,aY h.c3,(aB (.inr oe)).trans h.c4,(aB (.inr oe)).trans h.c5,fun i=>bI.trans (h.z i),fY h.own h.lp,h.lp,by simpa using h.lb,hx⟩
theorem aC1(h:dF w B P bag queue all v aP last now)(t:Int)(ht:¬(0<=t/\t<=1099511627776)):
  Calls prog 102 #[pP P,iI t] w fun e w'=>e=rT (tU #[iI 0,N1,iI 2])/\w'=w:=by have _:=h;have hI:=wG t 0 1099511627776 w;rw[kC ht]at hI;clear ht;exact zOg
theorem aC0(h:dF w B P bag queue all v aP last now)(t:Int)(ht:0<=t/\t<=1099511627776)(hn:t<now):
  Calls prog 102 #[pP P,iI t] w fun e w'=>e=rT (tU #[iI 0,N1,iI 10])/\w'=w:=by have hI:=wG t 0 1099511627776 w;rw[kD ht]at hI;obtain⟨c0,c1,c2,c3,c4,c5,z,own,lp,lb,we⟩:=h;have hlp:P<w.heap.size:=od;clear ht own z;exact zOg
theorem aFe(h:dF w B P bag queue all v aP last now)(t:Int)(ht:0<=t/\t<=1099511627776)(hn:now<=t)(J4:xV all.length aP t last bag=true)(tQ:0<=last)(hl:last<=1099511627776)(wT:0<=bag)(hb:bag<=1099511627776):
  Calls prog 102 #[pP P,iI t] w fun e w'=>e=rT (tU #[iI 0,N1,iI 8])/\dF w' B P bag queue all v aP last t/\aU P P w w':=zKz
theorem aZ9(h:dF w B P bag queue all v aP last now)(k:Nat)(hk:k<all.length):∃g cap,v=sL g all.length cap/\B<=g/\w.cell? (aA g k)=some (sT (all.getD k ByteArray.empty)):=by obtain⟨g,cap,hv,hg,hc⟩:=pX h.own od;refine⟨g,cap,hv,hg,?_⟩;have:=hc k (sT (all.getD k ByteArray.empty)) (by simp[List.getD,hk]);exact zCx
theorem aMb(h:dF w B P bag queue all v aP last now)(t:Int)(ht:0<=t/\t<=1099511627776)(hn:now<=t)(J4:xV all.length aP t last bag=false)(ha:all.length<=10000000)(tQ:0<=last)(hl:last<=1099511627776)(wT:0<=bag)(hb:bag<=1099511627776):
  Calls prog 102 #[pP P,iI t] w fun e w'=>e=rT (tU #[iI (mH aP),sT (all.getD aP ByteArray.empty),iI 0])/\dF w' B P bag queue all v (aP+1) t t/\aU P P w w':=have m83:=0;zKz
end
section
variable{P n:Nat}{b g id m:Int}
theorem aLs{w:World}{fz:Bool}(h:bJ w P id n m g b fz):
  Calls prog 169 #[pP P] w fun e w'=>e=rT (tU #[iI (if eZ g b fz=true then m else 0),.bool (eZ g b fz)])/\bJ w' P id n m (if eZ g b fz=true then 1 else g) (if eZ g b fz=true then 0 else b) (!eZ g b fz)/\aU P P w w':=by
 have HH:Hid (bJ w P id n m g b fz):=h;obtain⟨c0,c1,c2,c3,c4,c5,z,lp⟩:=h;have z3:=z 3;have z4:=z 4;have z5:=z 5;clear z;unfold eZ;cases fz
 ·by_cases hb:b<g
  ·exact zMp
  ·have dQ:g<=b:=by omega
   rw[kC hb];clear hb;exact zB0
 ·exact zB0
theorem aLr{w:World}{fz:Bool}(h:bJ w P id n m g b fz)(x:Int):Calls prog 201 #[pP P,iI x] w fun e w'=>e=rT (.bool (decide (0<=x/\x<n)))/\w'=w:=by
 obtain⟨c0,c1,c2,c3,c4,c5,z,lp⟩:=h;clear z;by_cases k1:0<=x
 ·by_cases k2:x<(n:Int)
  ·rw[kD (show 0<=x/\x<(n:Int)from⟨k1,k2⟩)];exact zH8
  ·rw[kC (show ¬(0<=x/\x<(n:Int))by omega)];have k2':decide (x<(n:Int))=false:=kC k2;clear k2;exact zH8
 ·rw[kC (show ¬(0<=x/\x<(n:Int))by omega)];have k2':decide (0<=x)=false:=kC k1;clear k1;exact zH8
theorem aUd(k:Nat)(hk:k<=16)(w:World):Calls prog 215 #[iI k] w fun e w'=>e=rT (iI (2^k))/\w'=w:=by have p0:=pow_pos k;have p1:(2:Int)^k<=2^16:=xH od;have p2:(2:Int)^16=65536:=oe;go_enter func215,ntmps215;exact C6
theorem aHy{w:World}{t:Nat->Bool}{fz:Bool}(h:bJ w P id n (aZ t n) g b fz)(gH m:Int)(hn:n<=16):
  Calls prog 171 #[pP P,iI gH,iI m] w fun e w'=>e=rT (iI (eV n t (tb m) gH m))/\∃q,w'=w.drewN q:=by
 have HK:Hid (∀(x:Int)(q:Nat),Calls prog 201 #[pP P,iI x] (w.drewN q) fun e w'=>e=rT (.bool (decide (0<=x/\x<n)))/\w'=w.drewN q):=fun x q=>aLr (h.drawn q) x;obtain⟨c0,c1,c2,c3,c4,c5,z,lp⟩:=h;clear z;by_cases k12:0<=gH/\gH<(n:Int)
 ·obtain⟨k1,k2⟩:=k12;obtain⟨k,rfl⟩:=Int.eq_ofNat_of_zero_le k1;have hk:k<n:=od;have HBt:=aUd k od;have hK:=HK.out k;rw[kD (show(0:Int)<=(k:Int)/\(k:Int)<(n:Int)from⟨k1,k2⟩)]at hK;have bG9:=0;exact zLt
 ·have eJ:eV n t (tb m) gH m=2:=by unfold eV;rw[kI (fun y=>k12 y.1)]
  rw[eJ];have hK:=HK.out gH;rw[kC k12]at hK;clear eJ k12;go_enter func171,ntmps171;go_wp2_with fail;go_quiet(first|(go_at_call 201;refine Calls.quiet_of_same (hK _)));go_wp2;go_ret;exact⟨rfl,_,rfl⟩
end
section
variable{O:List Nat}{P aP:Nat}{all:List ByteArray}{bag last now queue:Int}{w:World}
def jA(w:World)(O:List Nat)(P:Nat)(bag queue:Int)(all:List ByteArray)(aP:Nat)(last now:Int):Prop:=
 ∃v,dF w (P+1) P bag queue all v aP last now/\O=P::v.ownBlock.toList
theorem jA.lt(h:jA w O P bag queue all aP last now):∀c,c∈O->c<w.heap.size:=zCo
theorem jA.keep{w':World}(h:jA w O P bag queue all aP last now)(k:Same O w w'):jA w' O P bag queue all aP last now:=zBq
theorem jA.bA2(h:jA w O P bag queue all aP last now):aP<=all.length:=by obtain⟨v,h,_⟩:=h;exact h.we
theorem aM7(h:jA w O P bag queue all aP last now)(d:ByteArray)(ha:all.length<=10000000):
  Calls prog 54 #[pP P,sT d] w fun e w'=>e=rT (iI (putK (all.length-aP) queue d))/\∃O',jA w' O' P bag queue (oY (putK (all.length-aP) queue d) all d) aP last now/\aS O O' w w':=by have hw:=h.bA2;have m95:=0;exact zLb
theorem aIk(h:jA w O P bag queue all aP last now)(t:Int)(ha:all.length<=10000000)(tQ:0<=last)(hl:last<=1099511627776)(wT:0<=bag)(hb:bag<=1099511627776):
  Calls prog 102 #[pP P,iI t] w fun e w'=>e=rT (tU #[iI (jZ (fU all.length aP t now last bag) aP),sT (jY (fU all.length aP t now last bag) all aP),iI (fU all.length aP t now last bag)])/\
   jA w' O P bag queue all (K0 (fU all.length aP t now last bag) aP) (pF (fU all.length aP t now last bag) t last) (Y7 (fU all.length aP t now last bag) t now)/\aS O O w w':=have m61:=0;zKd
theorem aMa:jA (w.alloc (.cells #[iI bag,iI queue,sV none 0 0,iI 0,iI 0,iI 0] 174)) [w.heap.size] w.heap.size bag queue [] 0 0 0:=by
 have c:∀(i:Nat)(u:Value),(#[iI bag,iI queue,sV none 0 0,iI 0,iI 0,iI 0]:Array Value)[i]?=some u->(w.alloc (.cells #[iI bag,iI queue,sV none 0 0,iI 0,iI 0,iI 0] 174)).cell? (aA w.heap.size i)=some u:=fun i u hi=>by exact zFz
 exact zDy
end
section
variable{cI pb tb:Nat}{ca:Option Addr}{cs:List Int}{fT:List Nat}
def aNz(nodes aF aJ aC aH round frame:Int)(sa:Option Addr)(ns sc:Nat)(la:Option Addr)(nl lc:Nat)(wa:Option Addr)(nw wc:Nat)(fa:Int)(ca:Option Addr)(n cI tb pb:Nat):List Value:=
 [iI nodes,iI aF,iI aJ,iI aC,iI aH,iI round,sV sa ns sc,sV la nl lc,iI frame,sV wa nw wc,iI fa,sV ca n cI,sV none 0 0,sV none 0 0,.map (some tb),.map (some pb),iI 0]
structure Made(w w2:World)(C:Nat)(l:List Value)(cs:List Int)(ca2:Option Addr)(cI:Nat)(fT:List Nat)(tb pb:Nat):Prop where
 bel:bW w w2
 cel:∀i u,l[i]?=some u->w2.cell? (aA C i)=some u
 z:∀i,w2.frozen? (aA C i)=false
 lC:w.heap.size<=C/\C<w2.heap.size
 mt:jL w2 tb (fun _ _=>none)
 mp:jL w2 pb (fun _ _=>none)
 lt:w.heap.size<=tb/\w.heap.size<=pb/\tb≠pb/\tb≠C/\pb≠C
 row:0<cs.length->∃b,ca2=some (aA b 0)/\b∈fT/\∀j,j<cs.length->w2.cell? (aA b j)=some (iI (cs.getD j 0))
 lk:∀c,c∈fT->w.heap.size<=c/\c<w2.heap.size/\c≠tb/\c≠pb/\c≠C
section
variable{w v v':World}{b:Nat}{g:Nat->Nat->Option Value}
theorem bal(h:bW w v)(o:Obj):bW w (v.alloc o):=h.alloc h.size o
theorem btr(h:bW w v)(k:bW v v'):bW w v':=h.trans (k.mono h.size)
theorem mtr(h:jL v b g)(k:bW v v'):jL v' b g:=h.keep (k.block _ h.lt)
theorem mal(h:jL v b g)(o:Obj):jL (v.alloc o) b g:=mtr h ((kX _ _).alloc (kF _) o)
theorem mdr(h:jL v b g):jL v.drew b g:=h.keep rfl
theorem mnw(e:b=v.heap.size):jL (v.alloc (.map #[] 0)) b (fun _ _=>none):=by subst e;exact jL.new v
theorem bAj(t:TypeId)(v:World):Sem.run prog (Instr.makeMap t none) v=.ok (.map (some v.heap.size)) (v.alloc (.map #[] 0)):=by simp[Instr.makeMap,go_sem]
def I2(v:World)(cs:List Int)(ca:Option Addr)(fT:List Nat):Prop:=((0<cs.length->∃b,ca=some (aA b 0)/\b∈fT/\∀j,j<cs.length->v.cell? (aA b j)=some (iI (cs.getD j 0)))/\∀c,c∈fT->c<v.heap.size)
theorem rtr(h:I2 v cs ca fT)(k:bW v v'):I2 v' cs ca fT:=
 ⟨fun h0=>by
  obtain⟨c,e,hm,hc⟩:=h.1 h0
  exact⟨c,e,hm,fun j hj=>bc k (h.2 c hm) (hc j hj)⟩,fun c hc=>kB (h.2 c hc) k.size⟩
theorem ral(h:I2 v cs ca fT)(o:Obj):I2 (v.alloc o) cs ca fT:=rtr h ((kX _ _).alloc (kF _) o)
theorem rdr(h:I2 v cs ca fT):I2 v.drew cs ca fT:=h
theorem aK4.at0(h:aK4 v v' cs ca):∃fT,I2 v' cs ca fT/\(∀c,c∈fT->c=v.heap.size)/\(v'.heap.size=v.heap.size\/v'.heap.size=v.heap.size+1):=by
 rcases h.2 with⟨e,rfl⟩|⟨e,hs,hc⟩
 ·subst e;exact⟨[],⟨fun h0=>absurd h0 (kU _),fun c (hc:c∈([]:List Nat))=>absurd hc List.not_mem_nil⟩,fun c (hc:c∈([]:List Nat))=>absurd hc List.not_mem_nil,.inl rfl⟩
 ·refine⟨[v.heap.size],⟨fun _=>⟨_,e,List.mem_singleton.2 rfl,hc⟩,fun c hc=>?_⟩,fun c hc=>List.mem_singleton.1 hc,.inr hs⟩;rw[List.mem_singleton.1 hc];omega
theorem Made.of{l:List Value}{t:TypeId}(hb:bW w v)(ht:jL v tb (fun _ _=>none))(hp:jL v pb (fun _ _=>none))(hr:I2 v cs ca fT)(hn:w.heap.size<=tb/\w.heap.size<=pb/\tb≠pb)(hk:∀c,c∈fT->w.heap.size<=c/\c≠tb/\c≠pb):
  Made w (v.alloc (.cells l.toArray t)) v.heap.size l cs ca cI fT tb pb:=by
 have k:bW v (v.alloc (.cells l.toArray t)):=(kX _ _).alloc (kF _) _;have h1:=ht.lt;have h2:=hp.lt;have hs:=hb.size;have hs2:(v.alloc (.cells l.toArray t)).heap.size=v.heap.size+1:=oh;have pE:=rtr hr k;refine⟨bal hb _,fun i u hi=>?_,fun i=>by simp,⟨hs,od⟩,mtr ht k,mtr hp k,⟨hn.1,hn.2.1,hn.2.2,od,od⟩,pE.1,fun c hc=>?_⟩
 ·have:=World.cell?_alloc_new v l.toArray t i;rw[this];simpa using hi
 ·have q1:=hr.2 c hc;have q2:=hk c hc;exact⟨q2.1,od,q2.2.1,q2.2.2,od⟩
theorem Made.ofe{l:List Value}{A:Array Value}{C:Nat}{t:TypeId}(hb:bW w v)(hA:A=l.toArray)(ht:jL v tb (fun _ _=>none))(hp:jL v pb (fun _ _=>none))(hr:I2 v cs ca fT)(hn:w.heap.size<=tb/\w.heap.size<=pb/\tb≠pb)(hk:∀c,c∈fT->w.heap.size<=c/\c≠tb/\c≠pb)(hC:C=v.heap.size):
  Made w (v.alloc (.cells A t)) C l cs ca cI fT tb pb:=by subst hA hC;exact Made.of hb ht hp hr hn hk
end
def aJi(k:Nat):Bool:=decide (k=9)||(decide (33<=k)&&decide (k<=41))
theorem aZ7(code:Code)(lN:Tryz.f52.body.bind (dU 6)=some code)(Q:Exit->Act->World->Prop)(PB n cap:Nat)(fa:Int)(ca:Option Addr)(cs:List Int)(nodes aF aJ aC aH round frame:Int)(sa:Option Addr)(ns sc:Nat)(la:Option Addr)(nl lc:Nat)(wa:Option Addr)(nw wc:Nat)(w:World)(hlen:cs.length=n)(hn:n<=2000)(hr:bE w ca cs)
  (y0:w.cell? (aA PB 0)=some (iI nodes))(y1:w.cell? (aA PB 1)=some (iI aF))(y2:w.cell? (aA PB 2)=some (iI aJ))(y3:w.cell? (aA PB 3)=some (iI aC))(y4:w.cell? (aA PB 4)=some (iI aH))(y5:w.cell? (aA PB 5)=some (iI round))(y6:w.cell? (aA PB 6)=some (sV sa ns sc))(y7:w.cell? (aA PB 7)=some (sV la nl lc))(y8:w.cell? (aA PB 8)=some (iI frame))(y9:w.cell? (aA PB 9)=some (sV wa nw wc)){L:List Value}(tC:L.length=139)(s1:L[1]?=some (iI fa))(s2:L[2]?=some (sV ca n cap))(s3:L[3]?=some (pP PB))
  (cN:∀(L':List Value) (C cI tb pb:Nat) (ca2:Option Addr) (fT:List Nat) (w2:World),Made w w2 C (aNz nodes aF aJ aC aH round frame sa ns sc la nl lc wa nw wc fa ca2 n cI tb pb) cs ca2 cI fT tb pb->L'.length=139->Rest aJi L L'->L'[9]?=some (pP C)->Q .normal ⟨L'.toArray,[]⟩ w2):
  Code.wp prog code Q ⟨L.toArray,[]⟩ w:=by
 have uR:(Tryz.f52.body.bind (dU 6)).getD Code.skip=code:=Ee;obtain rfl:=uR;clear lN;conv=>arg 2;whnf
 have wW:Hid _:=cN;obtain⟨fL,rfl⟩:=lit L 139 tC;replace s1:=aX s1;replace s2:=aX s2;replace s3:=aX s3;simp only[List.range,List.range.loop,List.map_cons,List.map_nil,s1,s2,s3];have lP:PB<w.heap.size:=lt_of_cell y0;have HPL:Hid (∀u,bW w u->(u.cell? (aA PB 0)=some (iI nodes)/\u.cell? (aA PB 1)=some (iI aF)/\u.cell? (aA PB 2)=some (iI aJ)/\u.cell? (aA PB 3)=some (iI aC)/\u.cell? (aA PB 4)=some (iI aH))/\u.cell? (aA PB 5)=some (iI round)/\u.cell? (aA PB 6)=some (sV sa ns sc)/\u.cell? (aA PB 7)=some (sV la nl lc)/\u.cell? (aA PB 8)=some (iI frame)/\u.cell? (aA PB 9)=some (sV wa nw wc)):=fun u hu=>by have k:∀i,u.cell? (aA PB i)=w.cell? (aA PB i):=fun i=>hu.cell (p:=(aA PB i)) lP;exact⟨⟨(k 0).trans y0,(k 1).trans y1,(k 2).trans y2,(k 3).trans y3,(k 4).trans y4⟩,(k 5).trans y5,(k 6).trans y6,(k 7).trans y7,(k 8).trans y8,(k 9).trans y9⟩
 have aS9:Hid (∀u,bW w u->bE u ca cs):=fun u hu=>hr.below hu;have C8:Hid (cs.length=n):=hlen;have hm1:∀v:World,Sem.run prog (Instr.makeMap 106 none) v=.ok (.map (some v.heap.size)) (v.alloc (.map #[] 0)):=bAj _;have hm2:∀v:World,Sem.run prog (Instr.makeMap 107 none) v=.ok (.map (some v.heap.size)) (v.alloc (.map #[] 0)):=bAj _;clear cN hr hlen;refine wp_region_noPanic ?_;go_region_held3(fun u=>(u.cell? (aA PB 0)=some (iI nodes)/\u.cell? (aA PB 1)=some (iI aF)/\u.cell? (aA PB 2)=some (iI aJ)/\u.cell? (aA PB 3)=some (iI aC)/\u.cell? (aA PB 4)=some (iI aH))/\u.cell? (aA PB 5)=some (iI round)/\u.cell? (aA PB 6)=some (sV sa ns sc)/\u.cell? (aA PB 7)=some (sV la nl lc)/\u.cell? (aA PB 8)=some (iI frame)/\u.cell? (aA PB 9)=some (sV wa nw wc)) (exact HPL.out _ (by repeat(first|exact kX _ _|refine Below.drew ?_|refine bal ?_ _|refine btr ?_ hnw.1))) (first
  |(refine aRt oq _ _ oq _ oq ca n cap cs oq C8.out (aS9.out _ jz) hn ?_;intro vq cb cI hnw;obtain⟨⟨q0,q1,q2,q3,q4⟩,q5,q6,q7,q8,q9⟩:=HPL.out vq (btr jz hnw.1)))
 all_goals(
  refine NoPanic.normal ?_
  obtain⟨fT,hra,hce,hsz⟩:=hnw.at0
  have hbq:=hnw.1
  simp at hsz hce
  refine wW.out _ _ cI _ _ cb fT _ (Made.ofe ?_ rfl ?_ ?_ ?_ ?_ ?_ ?_) rfl (Rest.of rfl) rfl
  ·repeat(first|exact kX _ _|refine Below.drew ?_|refine bal ?_ _|refine btr ?_ hbq)
  ·repeat(first|refine mtr ?_ hbq|(refine mnw ?_;simp;done)|refine mdr ?_|refine mal ?_ _)
  ·repeat(first|refine mtr ?_ hbq|(refine mnw ?_;simp;done)|refine mdr ?_|refine mal ?_ _)
  ·repeat(first|exact hra|refine rdr ?_|refine ral ?_ _)
  ·refine⟨?_,?_,?_⟩<;>omega
  ·intro c hc
   have:=hce c hc
   have:=hra.2 c hc
   refine⟨?_,?_,?_⟩<;>omega
  ·simp)
end
