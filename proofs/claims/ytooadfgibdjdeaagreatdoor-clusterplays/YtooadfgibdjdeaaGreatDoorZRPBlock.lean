import Derived.Test.YtooadfgibdjdeaaGreatDoorZRPSlot0
namespace Go.Proofs.YtooadfgibdjdeaaGreatDoor
set_option maxRecDepth 100000
set_option maxHeartbeats 16000000
section
def blockIn (n:Nat):Code→Option Code
 | .block i c=>if i=n then some (.block i c) else blockIn n c
 | .loop c=>blockIn n c
 | .seq a b=>(blockIn n a).orElse fun _=>blockIn n b
 | .scope c=>blockIn n c
 | .cond _ a b=>(blockIn n a).orElse fun _=>blockIn n b
 | _=>none
end
end Go.Proofs.YtooadfgibdjdeaaGreatDoor
