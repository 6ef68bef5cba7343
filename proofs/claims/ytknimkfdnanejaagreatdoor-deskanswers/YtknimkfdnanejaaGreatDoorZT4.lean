import Derived.Test.YtknimkfdnanejaaGreatDoorZT2
import Derived.Deep.AppendLies
namespace Go.Proofs.YtknimkfdnanejaaGreatDoor
open Go.RowKit Go.Proofs.Tryz
set_option maxRecDepth 100000
set_option maxHeartbeats 16000000
def cY:Code->List Code
 |.loop c=>c::cY c
 |.seq a b=>cY a++cY b
 |.block _ c=>cY c
 |.scope c=>cY c
 |.cond _ a b=>cY a++cY b
 |_=>[]
def dU(n:Nat):Code->Option Code
 |.region i o d=>if i=n then some (.region i o d)else none
 |.loop c=>dU n c
 |.seq a b=>(dU n a).orElse fun _=>dU n b
 |.block _ c=>dU n c
 |.scope c=>dU n c
 |.cond _ a b=>(dU n a).orElse fun _=>dU n b
 |_=>none
theorem rY(k:Int)(w:World):Calls prog 96 #[iI k] w fun e w'=>e=rT (.agg #[iI k,iI (-1)])/\bW w w':=by go_enter func96,ntmps96;go_wp2;refine bodyPost_ret (v:=.agg #[iI k,iI (-1)]) (by simp[results,results96,go_sem]) rfl ⟨rfl,?_⟩;exact zHp
section
open Go.RowKit Go.Extern.Stop Go.Stop Go.Extern
def Told(w:World):Prop:=w.cell? (aA 5 0)=some (.iface 326 (.agg #[.pointer (some (aA 10 38))]))
theorem Told.lt{w:World}(h:Told w):5<w.heap.size:=by
 rcases Nat.lt_or_ge 5 w.heap.size with k|k
 ·exact k
 ·simp[Told,World.cell?,Array.getElem?_eq_none k]at h
theorem Told.below{w w':World}(h:Told w)(hb:bW w w'):Told w':=by have:=hb.cell (p:=(aA 5 0)) h.lt;unfold Told at *;rw[this];exact h
theorem Told.alloc{w:World}(h:Told w)(o:Obj):Told (w.alloc o):=h.below ((kX _ _).alloc (kF _) _)
theorem aJd(w:World):Calls prog 120 #[.nilIface] w fun e w'=>e=rT (iI 0)/\bW w w':=by go_enter func120,ntmps120;go_wp2;go_ret;exact zB1
theorem bDx(k:Int)(w:World)(hg:Told w):Calls prog 120 #[.iface 25 (iI k)] w fun e w'=>e=rT (iI k)/\bW w w':=by have hh:=bAw k (aA w.heap.size 0) (iI 0) (w.alloc (.cells #[iI 0] 25)) (hg.alloc _) oh oh;exact zHl
theorem aZu(k:Int)(a:Addr)(w:World)(hg:Told w)(hk:w.cell? a=some (iI k)):Calls prog 120 #[.iface 299 (.pointer (some a))] w fun e w'=>e=rT (iI k)/\bW w w':=by
 have xZ:a.block<w.heap.size:=by exact zEv
 have hh:=bEl k a (aA w.heap.size 0) (iI 0) (w.alloc (.cells #[iI 0] 25)) (by rw[World.cell?_alloc_lt _ _ a xZ];exact hk) (hg.alloc _) oh oh;clear hk;exact zHl
end
theorem Tryz.mf(fn:Fn)(first cap:Array Value)(w:World):(Instr.makeFunc fn first cap).run prog w=.ok (.func fn first cap) w:=rfl
theorem aRb(f s n d:Int)(w:World)(k1:f<0):
  Calls prog 136 #[.agg #[iI f,iI s,iI n,iI d]] w fun e w'=>e=rT (.bool false)/\bW w w':=by have W9:=Tryz.mf;have hn:decide (0<=f)=false:=kC od;exact zGr
theorem aRc(f s n d:Int)(w:World)(h1:0<=f)(k2:1099511627776<f):
  Calls prog 136 #[.agg #[iI f,iI s,iI n,iI d]] w fun e w'=>e=rT (.bool false)/\bW w w':=by have W9:=Tryz.mf;have hn:decide (f<=1099511627776)=false:=kC od;exact zGr
theorem aRd(f s n d:Int)(w:World)(h1:0<=f)(h2:f<=1099511627776)(k3:s< -1099511627776):
  Calls prog 136 #[.agg #[iI f,iI s,iI n,iI d]] w fun e w'=>e=rT (.bool false)/\bW w w':=by have W9:=Tryz.mf;have hn:decide (-1099511627776<=s)=false:=kC od;exact zGr
theorem aRe(f s n d:Int)(w:World)(h1:0<=f)(h2:f<=1099511627776)(h3:-1099511627776<=s)(k4:1099511627776<s):
  Calls prog 136 #[.agg #[iI f,iI s,iI n,iI d]] w fun e w'=>e=rT (.bool false)/\bW w w':=by have W9:=Tryz.mf;have hn:decide (s<=1099511627776)=false:=kC od;exact zGr
theorem aRf(f s n d:Int)(w:World)(h1:0<=f)(h2:f<=1099511627776)(h3:-1099511627776<=s)(h4:s<=1099511627776)(k5:n<1):
  Calls prog 136 #[.agg #[iI f,iI s,iI n,iI d]] w fun e w'=>e=rT (.bool false)/\bW w w':=by have W9:=Tryz.mf;have hn:decide (1<=n)=false:=kC od;exact zGr
theorem aRg(f s n d:Int)(w:World)(h1:0<=f)(h2:f<=1099511627776)(h3:-1099511627776<=s)(h4:s<=1099511627776)(h5:1<=n)(k6:1000000<n):
  Calls prog 136 #[.agg #[iI f,iI s,iI n,iI d]] w fun e w'=>e=rT (.bool false)/\bW w w':=by have W9:=Tryz.mf;have hn:decide (n<=1000000)=false:=kC od;exact zGr
theorem aRh(f s n d:Int)(w:World)(h1:0<=f)(h2:f<=1099511627776)(h3:-1099511627776<=s)(h4:s<=1099511627776)(h5:1<=n)(h6:n<=1000000)(k7:d<1):
  Calls prog 136 #[.agg #[iI f,iI s,iI n,iI d]] w fun e w'=>e=rT (.bool false)/\bW w w':=by have W9:=Tryz.mf;have hn:decide (1<=d)=false:=kC od;exact zGr
theorem aRi(f s n d:Int)(w:World)(h1:0<=f)(h2:f<=1099511627776)(h3:-1099511627776<=s)(h4:s<=1099511627776)(h5:1<=n)(h6:n<=1000000)(h7:1<=d)(k8:1000000<d):
  Calls prog 136 #[.agg #[iI f,iI s,iI n,iI d]] w fun e w'=>e=rT (.bool false)/\bW w w':=by have W9:=Tryz.mf;have hn:decide (d<=1000000)=false:=kC od;exact zGr
theorem aRj(f s n d:Int)(w:World)(h1:0<=f)(h2:f<=1099511627776)(h3:-1099511627776<=s)(h4:s<=1099511627776)(h5:1<=n)(h6:n<=1000000)(h7:1<=d)(h8:d<=1000000)(k9:2*d<n):
  Calls prog 136 #[.agg #[iI f,iI s,iI n,iI d]] w fun e w'=>e=rT (.bool false)/\bW w w':=by have W9:=Tryz.mf;have hn:decide (n<=2*d)=false:=kC od;exact zGr
theorem aMd(f s n d:Int)(w:World)(h1:0<=f)(h2:f<=1099511627776)(h3:-1099511627776<=s)(h4:s<=1099511627776)(h5:1<=n)(h6:n<=1000000)(h7:1<=d)(h8:d<=1000000)(h9:n<=2*d)(k10:2*n<d):
  Calls prog 136 #[.agg #[iI f,iI s,iI n,iI d]] w fun e w'=>e=rT (.bool false)/\bW w w':=by have W9:=Tryz.mf;have hn:decide (d<=2*n)=false:=kC od;exact zGr
theorem aRk(f s n d:Int)(w:World)(h:cV f s n d=true):
  Calls prog 136 #[.agg #[iI f,iI s,iI n,iI d]] w fun e w'=>e=rT (.bool true)/\bW w w':=by obtain⟨h1,h2,h3,h4,h5,h6,h7,h8,h9,h10⟩:=iK h;clear h;have W9:=Tryz.mf;exact zGr
theorem aVg(f s n d:Int)(w:World)(h:cV f s n d=false):
  Calls prog 136 #[.agg #[iI f,iI s,iI n,iI d]] w fun e w'=>e=rT (.bool false)/\bW w w':=have m53:=0;zJ5
def aU3(K lost:Int):Int:=if K=12 then lost+1 else lost
def zH(all:List ByteArray):Int:=if all=[]then 8 else 0
def recvD(all:List ByteArray):ByteArray:=all.headD ByteArray.empty
section
variable{B P aP:Nat}{all:List ByteArray}{bag last now queue:Int}{w:World}
theorem Tryz.infoStr7:(Tryz.prog.info? 9).map (fun i=>(i.zero,i.size,i.bytes))=some (some (sT ByteArray.empty),1,16):=by kernel_rfl
def I8(aP:Nat)(last bag:Int):Int:=if aP=0 then 0 else last+bag
structure gM(w:World)(B P:Nat)(bag queue:Int)(all:List ByteArray)(v:Value)(aP:Nat)(last now:Int):Prop where
 c0:w.cell? (aA P 0)=some (iI bag)
 c1:w.cell? (aA P 1)=some (iI queue)
 c2:w.cell? (aA P 2)=some v
 c3:w.cell? (aA P 3)=some (iI now)
 c4:w.cell? (aA P 4)=some (iI (I8 aP last bag))
 c5:w.cell? (aA P 5)=some (iI (mH aP))
 z:∀i,w.frozen? (aA P i)=false
 own:w.ownsRow B 9 1 v (all.length-aP) ((all.drop aP).map Value.string)
 lp:P<B
 lb:B<=w.heap.size
 we:aP<=all.length
def Sdr(w:World)(O:List Nat)(P:Nat)(bag queue:Int)(all:List ByteArray)(aP:Nat)(last now:Int):Prop:=
 ∃v,gM w (P+1) P bag queue all v aP last now/\O=P::v.ownBlock.toList
theorem Sdr.lt{O:List Nat}(h:Sdr w O P bag queue all aP last now):∀c,c∈O->c<w.heap.size:=zCo
theorem Sdr.keep{w':World}{O:List Nat}(h:Sdr w O P bag queue all aP last now)(k:Same O w w'):Sdr w' O P bag queue all aP last now:=zBq
theorem gM.drawn{v:Value}(h:gM w B P bag queue all v aP last now)(q:Nat):gM (w.drewN q) B P bag queue all v aP last now:=⟨h.c0,h.c1,h.c2,h.c3,h.c4,h.c5,h.z,h.own,h.lp,h.lb,h.we⟩
theorem aUi:Sdr (w.alloc (.cells #[iI bag,iI queue,sV none 0 0,iI 0,iI 0,iI 0] 260)) [w.heap.size] w.heap.size bag queue [] 0 0 0:=by
 have c:∀(i:Nat)(u:Value),(#[iI bag,iI queue,sV none 0 0,iI 0,iI 0,iI 0]:Array Value)[i]?=some u->(w.alloc (.cells #[iI bag,iI queue,sV none 0 0,iI 0,iI 0,iI 0] 260)).cell? (aA w.heap.size i)=some u:=fun i u hi=>by exact zFz
 exact zDy
theorem aQg{v:Value}(h:gM w B P bag queue all v aP last now)(d:ByteArray)(hd:40<d.size):
  Calls prog 122 #[pP P,sT d] w fun e w'=>e=rT (fI 4)/\w'=w:=by have _:=h;have k:(40:Int)<(d.size:Int):=od;go_enter func122,ntmps122;exact C6
theorem aUk{v:Value}(h:gM w B P bag queue all v aP last now)(d:ByteArray)(hd:d.size<=40)(hq:queue<=((all.length-aP:Nat):Int))(ha:all.length<=10000000):
  Calls prog 122 #[pP P,sT d] w fun e w'=>e=rT (fI 12)/\∃q,w'=w.drewN q:=zLi
theorem bD1{v:Value}(h:gM w B P bag queue all v aP last now)(d:ByteArray)(hd:d.size<=40)(hq:((all.length-aP:Nat):Int)<queue)(ha:all.length<=10000000):
  Calls prog 122 #[pP P,.string d] w fun e w'=>e=.returned (fI 0)/\∃v',gM w' B P bag queue (all++[d]) v' aP last now/\aU P (v.ownBlock.getD P) w w'/\(v'.ownBlock=v.ownBlock\/∃g,w.heap.size<=g/\v'.ownBlock=some g):=by obtain⟨c0,c1,c2,c3,c4,c5,z,own,lp,lb,we⟩:=h;obtain⟨i0,hi,lO,mX,jX⟩:=info_parts Tryz.infoStr7;have bC9:=0;exact zMw
theorem bDv{O:List Nat}(h:Sdr w O P bag queue all aP last now)(d:ByteArray)(ha:all.length<=10000000):
  Calls prog 122 #[pP P,sT d] w fun e w'=>e=rT (fI (putK (all.length-aP) queue d))/\∃O',Sdr w' O' P bag queue (oY (putK (all.length-aP) queue d) all d) aP last now/\aS O O' w w':=zLb
end
section
variable{B P aP:Nat}{bag last now queue:Int}
theorem Tryz.aNw:(Tryz.prog.info? 9).map (fun i=>(i.zero,i.size,i.bytes))=some (some (sT ByteArray.empty),1,16):=by kernel_rfl
structure dF(w:World)(B P:Nat)(bag queue:Int)(all:List ByteArray)(v:Value)(aP:Nat)(last now:Int):Prop where
 c0:w.cell? (aA P 0)=some (iI bag)
 c1:w.cell? (aA P 1)=some (iI queue)
 c2:w.cell? (aA P 2)=some v
 c3:w.cell? (aA P 3)=some (iI aP)
 c4:w.cell? (aA P 4)=some (iI last)
 c5:w.cell? (aA P 5)=some (iI now)
 z:∀i,w.frozen? (aA P i)=false
 own:w.ownsRow B 9 1 v all.length (all.map Value.string)
 lp:P<B
 lb:B<=w.heap.size
 we:aP<=all.length
theorem aF0(k:Nat)(hk:k<=4611686018427387904)(w:World):Calls prog 153 #[iI k] w fun e w'=>e=rT (iI (mH k))/\w'=w:=by
 by_cases h0:k=0
 ·subst h0;go_enter func153,ntmps153;exact C6
 ·have k1:((k:Int)==0)=false:=by simp;omega
  have e:mH k=Int.tmod ((k:Int)-1) 255+1:=by unfold mH;rw[kI h0,Int.tmod_eq_emod_of_nonneg od];omega
  have hm:0<=Int.tmod ((k:Int)-1) 255/\Int.tmod ((k:Int)-1) 255<255:=by rw[Int.tmod_eq_emod_of_nonneg od];omega
  rw[e];clear e h0;generalize hx:Int.tmod ((k:Int)-1) 255=x at *;go_enter func153,ntmps153;exact C6
theorem dF.drawn{w:World}{all:List ByteArray}{v:Value}(h:dF w B P bag queue all v aP last now)(q:Nat):dF (w.drewN q) B P bag queue all v aP last now:=⟨h.c0,h.c1,h.c2,h.c3,h.c4,h.c5,h.z,h.own,h.lp,h.lb,h.we⟩
theorem aF1{w:World}{all:List ByteArray}{v:Value}(h:dF w B P bag queue all v aP last now)(d:ByteArray)(hd:40<d.size):
  Calls prog 54 #[pP P,sT d] w fun e w'=>e=rT (iI 4)/\w'=w:=by have _:=h;have k:(40:Int)<(d.size:Int):=od;go_enter func54,ntmps54;exact C6
theorem aIg{w:World}{all:List ByteArray}{v:Value}(h:dF w B P bag queue all v aP last now)(d:ByteArray)(hd:d.size<=40)(hq:queue<=(all.length:Int)-(aP:Int))(ha:all.length<=10000000):
  Calls prog 54 #[pP P,sT d] w fun e w'=>e=rT (iI 12)/\∃q,w'=w.drewN q:=have bK5:=0;zLi
theorem aR7{w:World}{all:List ByteArray}{v:Value}(h:dF w B P bag queue all v aP last now)(d:ByteArray)(hd:d.size<=40)(hq:(all.length:Int)-(aP:Int)<queue)(ha:all.length<=10000000):
  Calls prog 54 #[pP P,.string d] w fun e w'=>e=.returned (iI 0)/\∃v',dF w' B P bag queue (all++[d]) v' aP last now/\aU P (v.ownBlock.getD P) w w'/\(v'.ownBlock=v.ownBlock\/∃g,w.heap.size<=g/\v'.ownBlock=some g):=by have HH:Hid (dF w B P bag queue all v aP last now):=h;obtain⟨c0,c1,c2,c3,c4,c5,z,own,lp,lb,we⟩:=h;obtain⟨i0,hi,lO,mX,jX⟩:=info_parts Tryz.aNw;have m10:=0;exact zIy
end
section
variable{P:Nat}{a b nw:Int}
structure eH(w:World)(P:Nat)(nw:Int)(a b:Int):Prop where
 c0:w.cell? (aA P 0)=some (iI nw)
 c1:w.cell? (aA P 1)=some (iI a)
 c2:w.cell? (aA P 2)=some (iI b)
 z:∀i,w.frozen? (aA P i)=false
 lp:P<w.heap.size
theorem eH.set{w:World}(h:eH w P nw a b):(∀x,eH (w.setCell (aA P 0) (iI x)) P x a b)/\(∀x,eH (w.setCell (aA P 1) (iI x)) P nw x b)/\(∀x,eH (w.setCell (aA P 2) (iI x)) P nw a x):=
 ⟨fun _=>⟨aY h.c0,(aB (.inr oe)).trans h.c1,(aB (.inr oe)).trans h.c2,fun i=>bI.trans (h.z i),Ek⟩,
  fun _=>⟨(aB (.inr oe)).trans h.c0,aY h.c1,(aB (.inr oe)).trans h.c2,fun i=>bI.trans (h.z i),Ek⟩,
  fun _=>⟨(aB (.inr oe)).trans h.c0,(aB (.inr oe)).trans h.c1,aY h.c2,fun i=>bI.trans (h.z i),Ek⟩⟩
theorem aIn{w:World}(h:eH w P nw a b)(seq:Int)(hs:¬(0<=seq/\seq<=255))(wT:0<=b)(hb:b<=4611686018427387904):
  Calls prog 104 #[pP P,iI seq] w fun e w'=>e=rT (.bool false)/\eH w' P nw a (b+1)/\aU P P w w':=zNz
theorem aC3{w:World}(h:eH w P nw a b)(seq:Int)(hs:0<=seq/\seq<=255)(hn:nw<0)(ha0:0<=a)(ha:a<=4611686018427387904):
  Calls prog 104 #[pP P,iI seq] w fun e w'=>e=rT (.bool true)/\eH w' P seq (a+1) b/\aU P P w w':=zK5
theorem aFg{w:World}(h:eH w P nw a b)(seq:Int)(hs:0<=seq/\seq<=255)(hn:0<=nw)(wC:nw<=255)(ha0:0<=a)(ha:a<=4611686018427387904)(wT:0<=b)(hb:b<=4611686018427387904):
  Calls prog 104 #[pP P,iI seq] w fun e w'=>e=rT (.bool (xF nw seq 127))/\eH w' P (if xF nw seq 127=true then seq else nw) (if xF nw seq 127=true then a+1 else a) (if xF nw seq 127=true then b else b+1)/\aU P P w w':=have m89:=0;zK5
theorem aIm{w:World}(h:eH w P nw a b)(seq:Int)(wC:nw<=255)(ha0:0<=a)(ha:a<=4611686018427387904)(wT:0<=b)(hb:b<=4611686018427387904):
  Calls prog 104 #[pP P,iI seq] w fun e w'=>e=rT (.bool (takeB nw seq))/\eH w' P (if takeB nw seq=true then seq else nw) (if takeB nw seq=true then a+1 else a) (if takeB nw seq=true then b else b+1)/\aU P P w w':=by
 unfold takeB;by_cases hs:0<=seq/\seq<=255
 ·rw[kD hs,Bool.true_and];by_cases hn:nw<0
  ·rw[kD hn];exact aC3 h seq hs hn ha0 ha
  ·rw[kC hn,Bool.false_or];exact aFg h seq hs od wC ha0 ha wT hb
 ·rw[kC hs];exact aIn h seq hs wT hb
end
section
variable{a b nw:Int}
theorem eH.keep{w w':World}{P:Nat}(h:eH w P nw a b)(k:Same [P] w w'):eH w' P nw a b:=
 have hp:P∈[P]:=List.mem_singleton.2 rfl
 ⟨(k.cell (p:=(aA P 0)) hp).trans h.c0,(k.cell (p:=(aA P 1)) hp).trans h.c1,(k.cell (p:=(aA P 2)) hp).trans h.c2,fun i=>(k.frozen (p:=(aA P i)) hp).trans (h.z i),kB h.lp k.1⟩
theorem eH.lt{w:World}{P:Nat}(h:eH w P nw a b):∀c,c∈[P]->c<w.heap.size:=fun c hc=>by rw[List.mem_singleton.1 hc];exact h.lp
theorem aIl{w:World}{P:Nat}(h:eH w P nw a b)(seq:Int)(wC:nw<=255)(ha0:0<=a)(ha:a<=4611686018427387904)(wT:0<=b)(hb:b<=4611686018427387904):
  Calls prog 104 #[pP P,iI seq] w fun e w'=>e=rT (.bool (takeB nw seq))/\eH w' P (uK (takeB nw seq) seq nw) (aFu (takeB nw seq) a) (aO8 (takeB nw seq) b)/\aS [P] [P] w w':=
 (aIm h seq wC ha0 ha wT hb).mono fun _ _ ⟨he,hr,ht⟩=>⟨he,hr,aS.jD ht (List.mem_singleton.2 rfl) (List.mem_singleton.2 rfl)⟩
theorem aM8{w:World}(x:Int):eH (w.alloc (.cells #[iI x,iI 0,iI 0] 177)) w.heap.size x 0 0:=by
 have c:∀(i:Nat)(u:Value),(#[iI x,iI 0,iI 0]:Array Value)[i]?=some u->(w.alloc (.cells #[iI x,iI 0,iI 0] 177)).cell? (aA w.heap.size i)=some u:=fun i u hi=>by exact zFz
 exact⟨c 0 _ rfl,c 1 _ rfl,c 2 _ rfl,fun i=>by simp,oh⟩
end
section
variable{P n:Nat}{b g id:Int}{fz:Bool}
theorem aLq{w:World}{m:Int}(h:bJ w P id n m g b fz)(gH bU:Int)(hh:sK id n fz gH bU=false):
  Calls prog 173 #[pP P,iI gH,iI bU] w fun e w'=>e=rT (tU #[])/\w'=w:=by
 obtain⟨c0,c1,c2,c3,c4,c5,z,lp⟩:=h;clear z;cases fz
 ·exact zLu
 ·clear hh;exact zCg
theorem aEn{w:World}{t:Nat->Bool}(h:bJ w P id n (aZ t n) g b fz)(k:Nat)(hn:n<=16)(hf:fz=false)(hk:k<n)(hid:(k:Int)≠id):
  Calls prog 173 #[pP P,iI k,iI 0] w fun e w'=>e=rT (tU #[])/\bJ w' P id n (aZ (fun j=>if j=k then false else t j) n) g b false/\aU P P w w':=zJp
theorem aEo{w:World}{t:Nat->Bool}(h:bJ w P id n (aZ t n) g b fz)(k:Nat)(hn:n<=16)(hf:fz=false)(hk:k<n)(hid:(k:Int)≠id)(hg0:0<=g)(hg:g<=4611686018427387904):
  Calls prog 173 #[pP P,iI k,iI 1] w fun e w'=>e=rT (tU #[])/\bJ w' P id n (aZ (fun j=>if j=k then true else t j) n) (g+1) b false/\aU P P w w':=zNj
theorem aEp{w:World}{t:Nat->Bool}(h:bJ w P id n (aZ t n) g b fz)(k:Nat)(hn:n<=16)(hf:fz=false)(hk:k<n)(hid:(k:Int)≠id)(wT:0<=b)(hb:b<=4611686018427387904):
  Calls prog 173 #[pP P,iI k,iI 2] w fun e w'=>e=rT (tU #[])/\bJ w' P id n (aZ (fun j=>if j=k then false else t j) n) g (b+1) false/\aU P P w w':=have m37:=0;zJp
theorem aHx{w:World}{t:Nat->Bool}(h:bJ w P id n (aZ t n) g b fz)(k:Nat)(bU:Int)(hn:n<=16)(hf:fz=false)(hk:k<n)(hid:(k:Int)≠id)(h0:0<=bU)(h2:bU<=2)(hg0:0<=g)(hg:g<=4611686018427387904)(wT:0<=b)(hb:b<=4611686018427387904):
  Calls prog 173 #[pP P,iI k,iI bU] w fun e w'=>e=rT (tU #[])/\bJ w' P id n (aZ (fun j=>if j=k then decide (bU=1)else t j) n) (if bU=1 then g+1 else g) (if bU=2 then b+1 else b) false/\aU P P w w':=by
 have hc:bU=0\/bU=1\/bU=2:=od;rcases hc with rfl|rfl|rfl
 ·exact aEn h k hn hf hk hid
 ·exact aEo h k hn hf hk hid hg0 hg
 ·exact aEp h k hn hf hk hid wT hb
end
