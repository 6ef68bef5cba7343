/- TicksBack's ways: the law's walk, a way a theorem (Real answers an error, or a time; what Local shows there, and one ahead; what it shows at two times). -/
import Derived.Test.YthinkdcekdgdcaaTold
namespace Go.Proofs.Ythinkdcekdgdcaa
open Go.RowKit

set_option maxHeartbeats 1000000 in
theorem back_200 (f s n d l a b t k : Int) (w : World) (hR : RealSays f s n d l t .nilIface) (h1 : LocalSays f s n d t 0 (.iface 30 (.int .i64 k))) :
    Calls Try.prog 3 #[.agg #[.int .i64 f, .int .i64 s, .int .i64 n, .int .i64 d], .int .i64 l, .int .i64 a, .int .i64 b] w fun e w' => e = .returned (.bool true) ∧ Below w.heap.size w w' := by
  go_enter Try.func3, Try.ntmps3
  go_wp2_with fail
  refine (told_any _).mono ?_
  rintro e w1 ⟨rfl, hb⟩
  obtain ⟨c0, c1, c2, c3, hz⟩ := box4 hb
  go_wp2_with fail
  refine (hR _).mono ?_
  rintro e u2 ⟨rfl, hb2⟩
  obtain ⟨c0_2, c1_2, c2_2, c3_2, hz_2⟩ := step4 hz hb2 c0 c1 c2 c3
  clear c0 c1 c2 c3
  go_wp2_with fail
  refine (h1 _).mono ?_
  rintro e u3 ⟨rfl, hb3⟩
  obtain ⟨c0_3, c1_3, c2_3, c3_3, hz_3⟩ := step4 hz_2 hb3 c0_2 c1_2 c2_2 c3_2
  clear c0_2 c1_2 c2_2 c3_2
  go_wp2
  go_ret
  exact ⟨rfl, ((below_box hb).trans (hb2.mono (Nat.le_of_lt hz))).trans (hb3.mono (Nat.le_of_lt hz_2))⟩

end Go.Proofs.Ythinkdcekdgdcaa
