import Derived.Test.YtknimkfdnanejaaGreatDoorZRefHead
import Derived.Test.YtknimkfdnanejaaGreatDoorZT3
namespace Go.Proofs.YtknimkfdnanejaaGreatDoor
open Go.RowKit Go.Proofs.Tryz
set_option maxRecDepth 100000
set_option maxHeartbeats 16000000
variable{V w wr:World}{o1 o2 o3:Obj}
def inB(n lo hi:Int):Bool:=decide (lo<=n/\n<=hi)
theorem aTm(n lo hi:Int)(w:World):Calls prog 53 #[iI n,iI lo,iI hi] w fun e w'=>e=rT (.bool (inB n lo hi))/\w'=w:=by
 by_cases h1:lo<=n
 ·by_cases h2:n<=hi
  ·have hb:inB n lo hi=true:=by simp[inB,h1,h2]
   rw[hb];exact zG3
  ·have hb:inB n lo hi=false:=by simp[inB,h2]
   have h3:decide (n<=hi)=false:=kC h2;rw[hb];exact zG3
 ·have hb:inB n lo hi=false:=by simp[inB,h1]
  have h3:decide (lo<=n)=false:=kC h1;rw[hb];exact zG3
theorem aI0(n:Nat)(h:n<=15):1<=(2:Int)^n/\(2:Int)^n<=32768:=zG0
theorem wrap_small(n:Int)(h0:0<=n)(h:n<=1000000):IntKind.i64.wrap n=n:=zD7
theorem fJ{a b c d:Int}(h:c=a/\d=b):Ending.returned (.agg #[iI a,iI b])=rT (.agg #[iI c,iI d]):=by rw[h.1,h.2]
theorem zS(hB:bW w V)(bT:bW V wr)(x y:Value)(o:Obj):bW w (((wr.setCell (aA (w.heap.size+1) 0) x).setCell (aA (w.heap.size+1) 1) y).alloc o):=by have h:bW w wr:=hB.trans (bT.mono hB.size);have h2:bW w ((wr.setCell (aA (w.heap.size+1) 0) x).setCell (aA (w.heap.size+1) 1) y):=(h.setCell (p:=(aA (w.heap.size+1) 0)) (kR _) x).setCell (p:=(aA (w.heap.size+1) 1)) (kR _) y;exact h2.alloc h2.size o
theorem rE(hB:bW w V)(bT:bW V wr)(x y:Value)(o:Obj)(n:Nat):bW w ((((wr.alloc o).drewN n).setCell (aA (w.heap.size+1) 0) x).setCell (aA (w.heap.size+1) 1) y):=by have h:bW w wr:=hB.trans (bT.mono hB.size);exact((below_drewN (h.alloc h.size o) n).setCell (p:=(aA (w.heap.size+1) 0)) (kR _) x).setCell (p:=(aA (w.heap.size+1) 1)) (kR _) y
theorem aP6(i:Nat):(((w.alloc o1).alloc o2).alloc o3).cell? (aA w.heap.size i)=(w.alloc o1).cell? (aA w.heap.size i):=by rw[World.cell?_alloc_lt _ _ _ ol,World.cell?_alloc_lt _ _ _ oh]
theorem aAu(i:Nat):(((w.alloc o1).alloc o2).alloc o3).cell? (aA (w.heap.size+1) i)=((w.alloc o1).alloc o2).cell? (aA (w.heap.size+1) i):=by rw[World.cell?_alloc_lt _ _ _ oh]
theorem C3(i:Nat):(((w.alloc o1).alloc o2).alloc o3).frozen? (aA (w.heap.size+1) i)=((w.alloc o1).alloc o2).frozen? (aA (w.heap.size+1) i):=by rw[World.frozen?_alloc_old _ _ _ oh]
theorem aZ2(nodes aF aJ aC aH round frame:Int)(sa la wa:Option Addr)(ns sc nl lc nw wc:Nat)(w:World)
  (a1:1<=nodes)(a2:nodes<=16)(a3:0<=aF)(a4:aF<=100)(a5:aF*3+1<=nodes)
  (b1:0<=aJ)(b2:aJ<=137438953472)(b3:0<=aC)(b4:aC<=137438953472)(b5:0<=aH)(b6:aH<=137438953472)
  (c1:1<=round)(c2:round<=137438953472)(c3:1<=frame)(c4:frame<=137438953472)(d1:ns<=32)(d2:nl<=8)(d3:nw<=32)(f1:aJ/2+aC*2+aH*2+1<=aJ)
  (nd fr tq:Nat->Int)(hs:dX w sa ns nd fr tq)(lf lt lb lq:Nat->Int)(hl:vY w la nl lf lt lb lq)(hit:Nat->Bool)(pw:Int)(hpw:(2:Int)^nodes.toNat=pw)(hp1:2<=pw)(hp2:pw<=65536)(N4:∀j,0<=lf j->lf j<=15->hit j=(bits BinOp.and .i64 (lt j) (2^(lf j).toNat) !=0))(e1 i1 e2 i2 e3 i3 E I:Int)(hF1:bY (dH nd fr tq nodes aJ round) ns e1 i1)(wp wf wt:Nat->Int)(hw:dX w wa nw wp wf wt)(mQ:pT w)(hF3:bY (fH wp wf wt frame) nw e3 i3)(hF2:bY (dC lf lt lb lq hit nodes pw) nl e2 i2)(hR:oG e1 i1 e2 i2 e3 i3 E I):
  Calls prog 94 #[.agg #[.int .i64 nodes,.int .i64 aF,.int .i64 aJ,.int .i64 aC,.int .i64 aH,.int .i64 round,.slice sa ns sc,.slice la nl lc,.int .i64 frame,.slice wa nw wc]] w fun ev w'=>ev=.returned (.agg #[.int .i64 E,.int .i64 I])/\Below w.heap.size w w':=by have HF1:Hid (bY (dH nd fr tq nodes aJ round) ns e1 i1):=hF1;have Z2:Hid (bY (dC lf lt lb lq hit nodes pw) nl e2 i2):=hF2;have HH:Hid (∀j,0<=lf j->lf j<=15->hit j=(bits BinOp.and .i64 (lt j) (2^(lf j).toNat) !=0)):=N4;have HPW:Hid ((2:Int)^nodes.toNat=pw):=hpw;clear hF2 N4 hpw;have HF3:Hid (bY (fH wp wf wt frame) nw e3 i3):=hF3;clear hF3;have HR:Hid (oG e1 i1 e2 i2 e3 i3 E I):=hR;clear hF1 hR;have n1:decide (aF<0)=false:=kC od;have n2:decide (100<aF)=false:=kC od;have n3:decide (nodes<aF*3+1)=false:=kC od;have n4:decide (aJ<aJ/2+aC*2+aH*2+1)=false:=kC od;have n5:decide (32<ns)=false:=kC od;have n6:decide (8<nl)=false:=kC od;have n7:decide (32<nw)=false:=kC od;have n8:decide ((32:Int)<(ns:Int))=false:=kC od;have n9:decide ((8:Int)<(nl:Int))=false:=kC od;have n10:decide ((32:Int)<(nw:Int))=false:=kC od;exact zPd
