import Derived.Test.YtnbomhedoelklaaGreatDoorProg
import Derived.Test.YtnbomhedoelklaaGreatDoorZW2
import Derived.Lib.SmallJoins
namespace Go.Proofs.YtnbomhedoelklaaGreatDoor
open Go.RowKit Go.Proofs.Tryz
set_option maxRecDepth 99999
set_option maxHeartbeats 0
open Go.ChangeShapes Go.WideShapes Go.ChangeAt Go.Joins
theorem aPa{n:Int}(h:(Lit.int .i64 n).wf=true):-9223372036854775808<=n/\n<=9223372036854775807:=by simp only[Lit.wf,AK,decide_eq_true_eq]at h;exact⟨Int.le_trans og h.1,Int.le_trans h.2 og⟩
section
variable{H:Type}{enc:WI×WB->H}{w:WA}{A5:Nat->Bool}{held:Bool}{r:Reach}{b0:Nat}{v:WB}{d:DataW H}{p:List MemPlace}
theorem M5(hv:Value.okWide prog w r b0 3 v)(h:DataW.Trod enc prog w 0 A5 held 3 v d p):
  ∃a:Int,v=iI a/\-9223372036854775808<=a/\a<=9223372036854775807:=by obtain⟨a,rfl,_,_,wa⟩:=open_int underlying3 hv h;exact⟨a,rfl,aPa wa⟩
end
