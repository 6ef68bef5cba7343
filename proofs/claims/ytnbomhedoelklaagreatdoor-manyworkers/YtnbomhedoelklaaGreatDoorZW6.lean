import Derived.Test.YtnbomhedoelklaaGreatDoorZW2
import Derived.Deep.RegionHeld
set_option maxRecDepth 100000
namespace Go.Proofs.YtnbomhedoelklaaGreatDoor
variable {p:Prop}
theorem oz(h:p:=by(try dsimp only);go_keep):p:=h
