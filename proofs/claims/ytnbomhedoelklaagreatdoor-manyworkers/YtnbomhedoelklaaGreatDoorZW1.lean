import Derived.Test.YtnbomhedoelklaaGreatDoorZW0
import Derived.KernelRfl
set_option maxRecDepth 100000
namespace Go.Proofs.YtnbomhedoelklaaGreatDoor
variable {p:Prop}
theorem oh(h:p:=by kernel_rfl):p:=h
theorem zzL(h:p:=by first|kernel_rfl|decide|(intros;kernel_rfl)):p:=h
