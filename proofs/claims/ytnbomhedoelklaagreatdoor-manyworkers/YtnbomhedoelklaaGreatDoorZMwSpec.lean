import Derived.Test.YtnbomhedoelklaaGreatDoorZMnSes
import Derived.Test.YtnbomhedoelklaaGreatDoorZMwTrace
namespace Go.Proofs.YtnbomhedoelklaaGreatDoor
open Go.Proofs.Tryz
set_option maxRecDepth 99999
set_option maxHeartbeats 0
open Go.Conc Go.ConcN
open Go.ConcR (KK wgBlock WgAt stA smA rd wr mk Payload Aside2 DC0)
structure Pm where
 Y:Sy
 w0:WA
 ba:Nat
 bt:Nat
 Wg:Nat
 row:Nat
 ch:Nat
 n:Nat
 tb:Nat
 tx:Obj
structure Cm(p:Pm)(w:WA):Prop where
 ba:w.1[p.ba]?=some (.cells #[sL p.row p.n p.n] 22)
 bt:w.1[p.bt]?=some (.cells #[.chan (some p.ch)] 31)
 wg:WgLive 41 p.Wg w
 row:∃cs,w.1[p.row]?=some (.cells cs 9)/\cs.size=p.n
 ch:∃cl s r,w.1[p.ch]?=some (.chan 0 #[] cl s r false)
 held:aRm p.Y p.w0 w
 size:p.Y.G<=w.1.size
 os:w.os=p.w0.os
 tx:w.1[p.tb]?=some p.tx
 out:w.output=p.w0.output
 tp:w.tape=p.w0.tape
structure Rx(p:Pm)(M:Nat->Prop)(w w1:WA):Prop where
 cm:Cm p w1
 size:w.1.size<=w1.1.size
 own:∀b,M b->w1.1[b]?=w.1[b]?
 bt:w1.1[p.bt]?=w.1[p.bt]?
theorem Rx.trans{p:Pm}{M:Nat->Prop}(a b c:WA)(h:Rx p M a b)(k:Rx p M b c):Rx p M a c:=⟨k.cm,kH h.size k.size,λx hx=>(k.own x hx).trans (h.own x hx),k.bt.trans h.bt⟩
def Er(p:Pm)(M:Nat->Prop)(e:Event):Prop:=∃a,e=⟨.cell a,false,false⟩/\(a.block=p.ba\/a.block=p.bt\/M a.block\/a.block=p.tb)
def Dx(p:Pm)(M:Nat->Prop)(w w':WA)(es:Array Event):Prop:=(∃d,w'=w.at d)/\∀e∈es,Er p M e
theorem Dx.ev{p:Pm}{M:Nat->Prop}{w:WA}{es:Array Event}(h:∀e∈es,Er p M e):Dx p M w w es:=⟨⟨w.drawn,rfl⟩,h⟩
theorem Dx.idle{p:Pm}{M:Nat->Prop}{w:WA}:Dx p M w w #[]:=.ev oe
theorem Dx.draw{p:Pm}{M:Nat->Prop}{w:WA}:Dx p M w { w with drawn:=w.drawn+1 } #[]:=⟨⟨w.drawn+1,rfl⟩,oe⟩
section
variable{p:Pm}{M:Nat->Prop}{w w1:WA}
theorem Cm.rx(_:Cm p w)(h:Rx p M w w1):Cm p w1:=h.cm
theorem Cm.cba(h:Cm p w):w.cell? (aA p.ba 0)=some (sL p.row p.n p.n):=by simp[World.cell?,h.ba]
theorem Cm.cbt(h:Cm p w):w.cell? (aA p.bt 0)=some (.chan (some p.ch)):=by simp[World.cell?,h.bt]
end
def aC4(p:Pm):Deferred:={ target:=.fn (.func 8) #[pP p.Wg,pP p.bt,pP p.ba],args:=#[] }
def b8:WK:=baseD 8
def bot(P:WJ):WK:={ (default:WK)with fn:=P.funcs.size,defers:=[],mode:=.panicking [goexitEntry] }
def pT(f:Func):Code:=f.body.getD .skip
def T8(p:Pm)(l:List WB):Array WB:=(Value.pointer (some (aA p.Wg 0))::Value.pointer (some (aA p.bt 0))::Value.pointer (some (aA p.ba 0))::l).toArray
theorem aNz(p:Pm)(w:WA):stepG prog false (born prog (aC4 p)) w=.go (G (b8.at ⟨T8 p (List.replicate 12 undef),[]⟩ [.code (pT f8)]) [(bot prog)]) w #[]:=by simp[born,aC4,stepG,unwind,callDeferred,invoke,callFunc,func8,f8,seen,GStep.after,G,Frame.enter,Frame.at,b8,baseD,bot,pT,T8]
