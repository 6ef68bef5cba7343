import Derived.Test.YtknimkfdnanejaaGreatDoorZW2
import Derived.Deep.RegionHeld
set_option maxRecDepth 100000
namespace Go.Proofs.YtknimkfdnanejaaGreatDoor
variable {p:Prop}
theorem On(h:p:=by(try dsimp only);go_keep):p:=h
