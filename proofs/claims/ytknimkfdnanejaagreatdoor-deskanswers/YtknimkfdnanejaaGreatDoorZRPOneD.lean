import Derived.Test.YtknimkfdnanejaaGreatDoorZT22
namespace Go.Proofs.YtknimkfdnanejaaGreatDoor
open Go.RowKit Go.Proofs.Tryz
set_option maxRecDepth 100000
set_option maxHeartbeats 16000000
section
variable{wr:World}{Oi Z:List Nat}{C:Nat}{p:aQ}{fa:Int}{cs:List Int}{si:cA}{rd:Int}{B:Nat}{m:iD}
def aJs(k:Nat):Bool:=(decide (21<=k)&&decide (k<=38))||(decide (40<=k)&&decide (k<=41))||(decide (215<=k)&&decide (k<=439))
theorem aZg(code:Code)(lN:Tryz.f56.body.bind (jU 9)=some code)(Q:Exit->Act->World->Prop)(h:jJ wr Oi Z C p fa cs si rd B m)(H:lJ)(i:Nat)(la:Option Addr)(nL lc:Nat)(ls oJ lt:Nat->Int)(ma:Option Addr)(mc:Nat)(bH:List Int)(SA:Option Addr)(hSA:SA=m.sa)
  (hlt:i<p.ns)(jB:p.nodes=p.n)(lK:1<=p.n)(hn:p.n<=16)(qO:p.nl<=8)(sW:p.ns<=32)(wS:1<=B)(hB:B<=9999000)(hr:dX wr la nL ls oJ lt)(hrO:∀b off,la=some (aA b off)->b∉Oi)(hrL:∀b off,la=some (aA b off)->b<wr.heap.size)(hL:nL<=9223372036854775807)
  (hm:bE wr ma bH)(hmO:∀b off,ma=some (aA b off)->0<bH.length->b∉Oi)(hmL:bH.length<=9223372036854775807)(sS:H.lies=aW fa)(sU:∀j,H.mode j=if j<bH.length then bH.getD j 0 else 0)(qW:∀i c j,H.lost i c j=mS ls oJ lt nL i c j)
  (sH:0<=rd)(uT:rd<=1000000)(xU:1<=p.round)(pE:p.round<=137438953472)(rW:∀i,i<p.ns->(0<=p.nd i/\p.nd i<p.nodes)/\0<=p.fr i/\p.fr i<=1099511627776)(qF:∀k,k<p.nl->0<=p.lf k/\0<=p.lb k/\p.lb k<=1099511627776)(qE:(aW fa (p.S.nd i)=true/\p.S.nd i<bH.length/\bH.getD (p.S.nd i) 0=2)/\(p.S.nd i+1)%p.n≠p.S.nd i){L:List Value}(tC:L.length=452)(s0:L[0]?=some (pP C))(s1:L[1]?=some (sV la nL lc))(s4:L[4]?=some (sV ma bH.length mc))(P4:L[11]?=some (iI p.n))(xJ:L[211]?=some (sV SA p.ns m.oD))(xK:L[212]?=some (iI p.ns))(xL:L[213]?=some (iI i))
  (cN:∀(L':List Value) (w':World),cP Oi wr w' Z C p fa cs (si.slot p.S H rd i) rd (B+70) m->L'.length=452->Rest aJs L L'->Q .normal ⟨L'.toArray,[]⟩ w'):
  Code.wp prog code Q ⟨L.toArray,[]⟩ wr:=have m0:=0;zMz
end
