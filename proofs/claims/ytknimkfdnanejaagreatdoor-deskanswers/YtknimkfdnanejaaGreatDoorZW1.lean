import Derived.Test.YtknimkfdnanejaaGreatDoorZW0
import Derived.KernelRfl
set_option maxRecDepth 100000
namespace Go.Proofs.YtknimkfdnanejaaGreatDoor
variable {p:Prop}
theorem og(h:p:=by kernel_rfl):p:=h
