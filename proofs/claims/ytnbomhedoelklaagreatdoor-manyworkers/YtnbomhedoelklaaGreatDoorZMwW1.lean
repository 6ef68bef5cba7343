import Derived.Test.YtnbomhedoelklaaGreatDoorZMwSpec
import Derived.Test.YtnbomhedoelklaaGreatDoorZW3
import Derived.Test.YtnbomhedoelklaaGreatDoorZW4
import Derived.Test.YtnbomhedoelklaaGreatDoorZW7
namespace Go.Proofs.YtnbomhedoelklaaGreatDoor
open Go.RowKit Go.Proofs.Tryz
set_option maxRecDepth 99999
set_option maxHeartbeats 0
open Go.Conc Go.ConcN Go.Conc.Lib Go.ConcR.Gen
def qC(f:Func):Code:=match (pT f)with|.seq _ (.seq _ (.block _ (.loop b)))=>b|_=>.skip
def aBt(f:Func):Array WQ:=match (qC f)with|.seq (.region _ o _) _=>o|_=>#[]
def uI(f:Func):Code:=match (qC f)with|.seq _ r=>r|_=>.skip
def k2(f:Func):List Item:=[.code (uI f),.inLoop (qC f),.inBlock 0]
def rU:Nat->Prop:=λ_=>False
def qR(p:Pm):Deferred:=dcall 9 #[pP p.Wg]
def J9(p:Pm)(g:WC):Prop:=∃v3 v5 v6 v7 v8 v9 P6 P7 P8 P9 Q5:WB,g=G (b8.at ⟨T8 p [v3,.chan (some p.ch),v5,v6,v7,v8,v9,P6,P7,P8,P9,Q5],[qR p]⟩ (.inRegion (aBt f8) [0,1]::(k2 f8))) [(bot prog)]
theorem bDc(p:Pm)(w:WA)(hF:Cm p w):Goes prog false (Rx p rU) (Dx p rU) (λg w=>J9 p g/\Cm p w) 14 (born prog (aC4 p)) w:=have m55:=0;zHm
