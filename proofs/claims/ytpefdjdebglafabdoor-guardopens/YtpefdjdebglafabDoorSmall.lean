/- The statements' word 'small'. -/
import Derived.Test.YtpefdjdebglafabDoorProg
import Derived.WalkKit
import Derived.WalkSpells
import Derived.WalkLawsBesides
import Derived.Below
namespace Go.Proofs.YtpefdjdebglafabDoor
open Go.RowKit

/-- What the word 'small' reckons (lengths so great that their sum wraps round count as they come out). -/
def smallB (ns nl nw : Nat) : Bool := decide (wrap64 (wrap64 ((ns : Int) + (nl : Int)) + (nw : Int)) ≤ 120)
set_option maxRecDepth 100000 in
set_option maxHeartbeats 1000000 in
theorem small_any (nodes faulty skew jitter drift round frame : Int) (sa la wa : Option Addr) (ns sc nl lc nw wc : Nat) (w : World) :
    Calls Tryd.prog 18 #[.agg #[.int .i64 nodes, .int .i64 faulty, .int .i64 skew, .int .i64 jitter, .int .i64 drift, .int .i64 round, .slice sa ns sc, .slice la nl lc, .int .i64 frame, .slice wa nw wc]] w fun ev w' => ev = .returned (.bool (smallB ns nl nw)) ∧ Below w.heap.size w w' := by
  go_enter Tryd.func18, Tryd.ntmps18
  go_wp2
  go_ret
  exact ⟨rfl, (Below.refl _ _).alloc (Nat.le_refl _) _⟩
end Go.Proofs.YtpefdjdebglafabDoor
