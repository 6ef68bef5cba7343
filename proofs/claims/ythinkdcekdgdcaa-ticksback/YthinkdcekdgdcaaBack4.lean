/- TicksBack's ways: the law's walk, a way a theorem (Real answers an error, or a time; what Local shows there, and one ahead; what it shows at two times). -/
import Derived.Test.YthinkdcekdgdcaaTold
namespace Go.Proofs.Ythinkdcekdgdcaa
open Go.RowKit

set_option maxHeartbeats 1000000 in
theorem back_401 (f s n d l a b t v m k3 y : Int) (w : World) (hR : RealSays f s n d l t .nilIface) (ht : 0 ≤ t) (ht2 : t ≤ 1099511627776) (h1 : LocalSays f s n d t v .nilIface) (hv : l ≤ v) (h2 : LocalSays f s n d (t - 1) m .nilIface) (hm : m < l) (hab : a < b) (E4 : Value) (h3 : LocalSays f s n d a 0 (.iface 30 (.int .i64 k3))) (h4 : LocalSays f s n d b y E4) :
    Calls Try.prog 3 #[.agg #[.int .i64 f, .int .i64 s, .int .i64 n, .int .i64 d], .int .i64 l, .int .i64 a, .int .i64 b] w fun e w' => e = .returned (.bool true) ∧ Below w.heap.size w w' := by
  go_enter Try.func3, Try.ntmps3
  go_wp2_with fail
  refine (told_any _).mono ?_
  rintro e w1 ⟨rfl, hb⟩
  obtain ⟨c0, c1, c2, c3, hz⟩ := box4 hb
  go_wp2_with fail
  refine (hR _).mono ?_
  rintro e u2 ⟨rfl, hb2⟩
  obtain ⟨c0_2, c1_2, c2_2, c3_2, hz_2⟩ := step4 hz hb2 c0 c1 c2 c3
  clear c0 c1 c2 c3
  go_wp2_with fail
  refine (h1 _).mono ?_
  rintro e u3 ⟨rfl, hb3⟩
  obtain ⟨c0_3, c1_3, c2_3, c3_3, hz_3⟩ := step4 hz_2 hb3 c0_2 c1_2 c2_2 c3_2
  clear c0_2 c1_2 c2_2 c3_2
  go_wp2_with fail
  refine (h2 _).mono ?_
  rintro e u4 ⟨rfl, hb4⟩
  obtain ⟨c0_4, c1_4, c2_4, c3_4, hz_4⟩ := step4 hz_3 hb4 c0_3 c1_3 c2_3 c3_3
  clear c0_3 c1_3 c2_3 c3_3
  go_wp2_with fail
  refine (h3 _).mono ?_
  rintro e u5 ⟨rfl, hb5⟩
  obtain ⟨c0_5, c1_5, c2_5, c3_5, hz_5⟩ := step4 hz_4 hb5 c0_4 c1_4 c2_4 c3_4
  clear c0_4 c1_4 c2_4 c3_4
  go_wp2_with fail
  refine (h4 _).mono ?_
  rintro e u6 ⟨rfl, hb6⟩
  obtain ⟨c0_6, c1_6, c2_6, c3_6, hz_6⟩ := step4 hz_5 hb6 c0_5 c1_5 c2_5 c3_5
  clear c0_5 c1_5 c2_5 c3_5
  go_wp2
  go_ret
  exact ⟨rfl, (((((below_box hb).trans (hb2.mono (Nat.le_of_lt hz))).trans (hb3.mono (Nat.le_of_lt hz_2))).trans (hb4.mono (Nat.le_of_lt hz_3))).trans (hb5.mono (Nat.le_of_lt hz_4))).trans (hb6.mono (Nat.le_of_lt hz_5))⟩

set_option maxHeartbeats 1000000 in
theorem back_402 (f s n d l a b t v m x k4 : Int) (w : World) (hR : RealSays f s n d l t .nilIface) (ht : 0 ≤ t) (ht2 : t ≤ 1099511627776) (h1 : LocalSays f s n d t v .nilIface) (hv : l ≤ v) (h2 : LocalSays f s n d (t - 1) m .nilIface) (hm : m < l) (hab : a < b) (h3 : LocalSays f s n d a x .nilIface) (h4 : LocalSays f s n d b 0 (.iface 30 (.int .i64 k4))) :
    Calls Try.prog 3 #[.agg #[.int .i64 f, .int .i64 s, .int .i64 n, .int .i64 d], .int .i64 l, .int .i64 a, .int .i64 b] w fun e w' => e = .returned (.bool true) ∧ Below w.heap.size w w' := by
  go_enter Try.func3, Try.ntmps3
  go_wp2_with fail
  refine (told_any _).mono ?_
  rintro e w1 ⟨rfl, hb⟩
  obtain ⟨c0, c1, c2, c3, hz⟩ := box4 hb
  go_wp2_with fail
  refine (hR _).mono ?_
  rintro e u2 ⟨rfl, hb2⟩
  obtain ⟨c0_2, c1_2, c2_2, c3_2, hz_2⟩ := step4 hz hb2 c0 c1 c2 c3
  clear c0 c1 c2 c3
  go_wp2_with fail
  refine (h1 _).mono ?_
  rintro e u3 ⟨rfl, hb3⟩
  obtain ⟨c0_3, c1_3, c2_3, c3_3, hz_3⟩ := step4 hz_2 hb3 c0_2 c1_2 c2_2 c3_2
  clear c0_2 c1_2 c2_2 c3_2
  go_wp2_with fail
  refine (h2 _).mono ?_
  rintro e u4 ⟨rfl, hb4⟩
  obtain ⟨c0_4, c1_4, c2_4, c3_4, hz_4⟩ := step4 hz_3 hb4 c0_3 c1_3 c2_3 c3_3
  clear c0_3 c1_3 c2_3 c3_3
  go_wp2_with fail
  refine (h3 _).mono ?_
  rintro e u5 ⟨rfl, hb5⟩
  obtain ⟨c0_5, c1_5, c2_5, c3_5, hz_5⟩ := step4 hz_4 hb5 c0_4 c1_4 c2_4 c3_4
  clear c0_4 c1_4 c2_4 c3_4
  go_wp2_with fail
  refine (h4 _).mono ?_
  rintro e u6 ⟨rfl, hb6⟩
  obtain ⟨c0_6, c1_6, c2_6, c3_6, hz_6⟩ := step4 hz_5 hb6 c0_5 c1_5 c2_5 c3_5
  clear c0_5 c1_5 c2_5 c3_5
  go_wp2
  go_ret
  exact ⟨rfl, (((((below_box hb).trans (hb2.mono (Nat.le_of_lt hz))).trans (hb3.mono (Nat.le_of_lt hz_2))).trans (hb4.mono (Nat.le_of_lt hz_3))).trans (hb5.mono (Nat.le_of_lt hz_4))).trans (hb6.mono (Nat.le_of_lt hz_5))⟩

set_option maxHeartbeats 1000000 in
theorem back_403 (f s n d l a b t v m x y : Int) (w : World) (hR : RealSays f s n d l t .nilIface) (ht : 0 ≤ t) (ht2 : t ≤ 1099511627776) (h1 : LocalSays f s n d t v .nilIface) (hv : l ≤ v) (h2 : LocalSays f s n d (t - 1) m .nilIface) (hm : m < l) (hab : a < b) (h3 : LocalSays f s n d a x .nilIface) (h4 : LocalSays f s n d b y .nilIface) (hxy : x ≤ y) :
    Calls Try.prog 3 #[.agg #[.int .i64 f, .int .i64 s, .int .i64 n, .int .i64 d], .int .i64 l, .int .i64 a, .int .i64 b] w fun e w' => e = .returned (.bool true) ∧ Below w.heap.size w w' := by
  go_enter Try.func3, Try.ntmps3
  go_wp2_with fail
  refine (told_any _).mono ?_
  rintro e w1 ⟨rfl, hb⟩
  obtain ⟨c0, c1, c2, c3, hz⟩ := box4 hb
  go_wp2_with fail
  refine (hR _).mono ?_
  rintro e u2 ⟨rfl, hb2⟩
  obtain ⟨c0_2, c1_2, c2_2, c3_2, hz_2⟩ := step4 hz hb2 c0 c1 c2 c3
  clear c0 c1 c2 c3
  go_wp2_with fail
  refine (h1 _).mono ?_
  rintro e u3 ⟨rfl, hb3⟩
  obtain ⟨c0_3, c1_3, c2_3, c3_3, hz_3⟩ := step4 hz_2 hb3 c0_2 c1_2 c2_2 c3_2
  clear c0_2 c1_2 c2_2 c3_2
  go_wp2_with fail
  refine (h2 _).mono ?_
  rintro e u4 ⟨rfl, hb4⟩
  obtain ⟨c0_4, c1_4, c2_4, c3_4, hz_4⟩ := step4 hz_3 hb4 c0_3 c1_3 c2_3 c3_3
  clear c0_3 c1_3 c2_3 c3_3
  go_wp2_with fail
  refine (h3 _).mono ?_
  rintro e u5 ⟨rfl, hb5⟩
  obtain ⟨c0_5, c1_5, c2_5, c3_5, hz_5⟩ := step4 hz_4 hb5 c0_4 c1_4 c2_4 c3_4
  clear c0_4 c1_4 c2_4 c3_4
  go_wp2_with fail
  refine (h4 _).mono ?_
  rintro e u6 ⟨rfl, hb6⟩
  obtain ⟨c0_6, c1_6, c2_6, c3_6, hz_6⟩ := step4 hz_5 hb6 c0_5 c1_5 c2_5 c3_5
  clear c0_5 c1_5 c2_5 c3_5
  go_wp2
  go_ret
  exact ⟨rfl, (((((below_box hb).trans (hb2.mono (Nat.le_of_lt hz))).trans (hb3.mono (Nat.le_of_lt hz_2))).trans (hb4.mono (Nat.le_of_lt hz_3))).trans (hb5.mono (Nat.le_of_lt hz_4))).trans (hb6.mono (Nat.le_of_lt hz_5))⟩

set_option maxHeartbeats 1000000 in
theorem back_411 (f s n d l a b t v m k3 y : Int) (w : World) (hR : RealSays f s n d l t .nilIface) (ht : 0 ≤ t) (ht2 : t ≤ 1099511627776) (h1 : LocalSays f s n d t v .nilIface) (hv : l ≤ v) (h2 : LocalSays f s n d (t - 1) m .nilIface) (hm : m < l) (hab : b < a) (E4 : Value) (h3 : LocalSays f s n d b 0 (.iface 30 (.int .i64 k3))) (h4 : LocalSays f s n d a y E4) :
    Calls Try.prog 3 #[.agg #[.int .i64 f, .int .i64 s, .int .i64 n, .int .i64 d], .int .i64 l, .int .i64 a, .int .i64 b] w fun e w' => e = .returned (.bool true) ∧ Below w.heap.size w w' := by
  go_enter Try.func3, Try.ntmps3
  go_wp2_with fail
  refine (told_any _).mono ?_
  rintro e w1 ⟨rfl, hb⟩
  obtain ⟨c0, c1, c2, c3, hz⟩ := box4 hb
  go_wp2_with fail
  refine (hR _).mono ?_
  rintro e u2 ⟨rfl, hb2⟩
  obtain ⟨c0_2, c1_2, c2_2, c3_2, hz_2⟩ := step4 hz hb2 c0 c1 c2 c3
  clear c0 c1 c2 c3
  go_wp2_with fail
  refine (h1 _).mono ?_
  rintro e u3 ⟨rfl, hb3⟩
  obtain ⟨c0_3, c1_3, c2_3, c3_3, hz_3⟩ := step4 hz_2 hb3 c0_2 c1_2 c2_2 c3_2
  clear c0_2 c1_2 c2_2 c3_2
  go_wp2_with fail
  refine (h2 _).mono ?_
  rintro e u4 ⟨rfl, hb4⟩
  obtain ⟨c0_4, c1_4, c2_4, c3_4, hz_4⟩ := step4 hz_3 hb4 c0_3 c1_3 c2_3 c3_3
  clear c0_3 c1_3 c2_3 c3_3
  go_wp2_with fail
  refine (h3 _).mono ?_
  rintro e u5 ⟨rfl, hb5⟩
  obtain ⟨c0_5, c1_5, c2_5, c3_5, hz_5⟩ := step4 hz_4 hb5 c0_4 c1_4 c2_4 c3_4
  clear c0_4 c1_4 c2_4 c3_4
  go_wp2_with fail
  refine (h4 _).mono ?_
  rintro e u6 ⟨rfl, hb6⟩
  obtain ⟨c0_6, c1_6, c2_6, c3_6, hz_6⟩ := step4 hz_5 hb6 c0_5 c1_5 c2_5 c3_5
  clear c0_5 c1_5 c2_5 c3_5
  go_wp2
  go_ret
  exact ⟨rfl, (((((below_box hb).trans (hb2.mono (Nat.le_of_lt hz))).trans (hb3.mono (Nat.le_of_lt hz_2))).trans (hb4.mono (Nat.le_of_lt hz_3))).trans (hb5.mono (Nat.le_of_lt hz_4))).trans (hb6.mono (Nat.le_of_lt hz_5))⟩

set_option maxHeartbeats 1000000 in
theorem back_412 (f s n d l a b t v m x k4 : Int) (w : World) (hR : RealSays f s n d l t .nilIface) (ht : 0 ≤ t) (ht2 : t ≤ 1099511627776) (h1 : LocalSays f s n d t v .nilIface) (hv : l ≤ v) (h2 : LocalSays f s n d (t - 1) m .nilIface) (hm : m < l) (hab : b < a) (h3 : LocalSays f s n d b x .nilIface) (h4 : LocalSays f s n d a 0 (.iface 30 (.int .i64 k4))) :
    Calls Try.prog 3 #[.agg #[.int .i64 f, .int .i64 s, .int .i64 n, .int .i64 d], .int .i64 l, .int .i64 a, .int .i64 b] w fun e w' => e = .returned (.bool true) ∧ Below w.heap.size w w' := by
  go_enter Try.func3, Try.ntmps3
  go_wp2_with fail
  refine (told_any _).mono ?_
  rintro e w1 ⟨rfl, hb⟩
  obtain ⟨c0, c1, c2, c3, hz⟩ := box4 hb
  go_wp2_with fail
  refine (hR _).mono ?_
  rintro e u2 ⟨rfl, hb2⟩
  obtain ⟨c0_2, c1_2, c2_2, c3_2, hz_2⟩ := step4 hz hb2 c0 c1 c2 c3
  clear c0 c1 c2 c3
  go_wp2_with fail
  refine (h1 _).mono ?_
  rintro e u3 ⟨rfl, hb3⟩
  obtain ⟨c0_3, c1_3, c2_3, c3_3, hz_3⟩ := step4 hz_2 hb3 c0_2 c1_2 c2_2 c3_2
  clear c0_2 c1_2 c2_2 c3_2
  go_wp2_with fail
  refine (h2 _).mono ?_
  rintro e u4 ⟨rfl, hb4⟩
  obtain ⟨c0_4, c1_4, c2_4, c3_4, hz_4⟩ := step4 hz_3 hb4 c0_3 c1_3 c2_3 c3_3
  clear c0_3 c1_3 c2_3 c3_3
  go_wp2_with fail
  refine (h3 _).mono ?_
  rintro e u5 ⟨rfl, hb5⟩
  obtain ⟨c0_5, c1_5, c2_5, c3_5, hz_5⟩ := step4 hz_4 hb5 c0_4 c1_4 c2_4 c3_4
  clear c0_4 c1_4 c2_4 c3_4
  go_wp2_with fail
  refine (h4 _).mono ?_
  rintro e u6 ⟨rfl, hb6⟩
  obtain ⟨c0_6, c1_6, c2_6, c3_6, hz_6⟩ := step4 hz_5 hb6 c0_5 c1_5 c2_5 c3_5
  clear c0_5 c1_5 c2_5 c3_5
  go_wp2
  go_ret
  exact ⟨rfl, (((((below_box hb).trans (hb2.mono (Nat.le_of_lt hz))).trans (hb3.mono (Nat.le_of_lt hz_2))).trans (hb4.mono (Nat.le_of_lt hz_3))).trans (hb5.mono (Nat.le_of_lt hz_4))).trans (hb6.mono (Nat.le_of_lt hz_5))⟩

set_option maxHeartbeats 1000000 in
theorem back_413 (f s n d l a b t v m x y : Int) (w : World) (hR : RealSays f s n d l t .nilIface) (ht : 0 ≤ t) (ht2 : t ≤ 1099511627776) (h1 : LocalSays f s n d t v .nilIface) (hv : l ≤ v) (h2 : LocalSays f s n d (t - 1) m .nilIface) (hm : m < l) (hab : b < a) (h3 : LocalSays f s n d b x .nilIface) (h4 : LocalSays f s n d a y .nilIface) (hxy : x ≤ y) :
    Calls Try.prog 3 #[.agg #[.int .i64 f, .int .i64 s, .int .i64 n, .int .i64 d], .int .i64 l, .int .i64 a, .int .i64 b] w fun e w' => e = .returned (.bool true) ∧ Below w.heap.size w w' := by
  go_enter Try.func3, Try.ntmps3
  go_wp2_with fail
  refine (told_any _).mono ?_
  rintro e w1 ⟨rfl, hb⟩
  obtain ⟨c0, c1, c2, c3, hz⟩ := box4 hb
  go_wp2_with fail
  refine (hR _).mono ?_
  rintro e u2 ⟨rfl, hb2⟩
  obtain ⟨c0_2, c1_2, c2_2, c3_2, hz_2⟩ := step4 hz hb2 c0 c1 c2 c3
  clear c0 c1 c2 c3
  go_wp2_with fail
  refine (h1 _).mono ?_
  rintro e u3 ⟨rfl, hb3⟩
  obtain ⟨c0_3, c1_3, c2_3, c3_3, hz_3⟩ := step4 hz_2 hb3 c0_2 c1_2 c2_2 c3_2
  clear c0_2 c1_2 c2_2 c3_2
  go_wp2_with fail
  refine (h2 _).mono ?_
  rintro e u4 ⟨rfl, hb4⟩
  obtain ⟨c0_4, c1_4, c2_4, c3_4, hz_4⟩ := step4 hz_3 hb4 c0_3 c1_3 c2_3 c3_3
  clear c0_3 c1_3 c2_3 c3_3
  go_wp2_with fail
  refine (h3 _).mono ?_
  rintro e u5 ⟨rfl, hb5⟩
  obtain ⟨c0_5, c1_5, c2_5, c3_5, hz_5⟩ := step4 hz_4 hb5 c0_4 c1_4 c2_4 c3_4
  clear c0_4 c1_4 c2_4 c3_4
  go_wp2_with fail
  refine (h4 _).mono ?_
  rintro e u6 ⟨rfl, hb6⟩
  obtain ⟨c0_6, c1_6, c2_6, c3_6, hz_6⟩ := step4 hz_5 hb6 c0_5 c1_5 c2_5 c3_5
  clear c0_5 c1_5 c2_5 c3_5
  go_wp2
  go_ret
  exact ⟨rfl, (((((below_box hb).trans (hb2.mono (Nat.le_of_lt hz))).trans (hb3.mono (Nat.le_of_lt hz_2))).trans (hb4.mono (Nat.le_of_lt hz_3))).trans (hb5.mono (Nat.le_of_lt hz_4))).trans (hb6.mono (Nat.le_of_lt hz_5))⟩

set_option maxHeartbeats 1000000 in
theorem back_421 (f s n d l a t v m k3 y : Int) (w : World) (hR : RealSays f s n d l t .nilIface) (ht : 0 ≤ t) (ht2 : t ≤ 1099511627776) (h1 : LocalSays f s n d t v .nilIface) (hv : l ≤ v) (h2 : LocalSays f s n d (t - 1) m .nilIface) (hm : m < l)  (E4 : Value) (h3 : LocalSays f s n d a 0 (.iface 30 (.int .i64 k3))) (h4 : LocalSays f s n d a y E4) :
    Calls Try.prog 3 #[.agg #[.int .i64 f, .int .i64 s, .int .i64 n, .int .i64 d], .int .i64 l, .int .i64 a, .int .i64 a] w fun e w' => e = .returned (.bool true) ∧ Below w.heap.size w w' := by
  go_enter Try.func3, Try.ntmps3
  go_wp2_with fail
  refine (told_any _).mono ?_
  rintro e w1 ⟨rfl, hb⟩
  obtain ⟨c0, c1, c2, c3, hz⟩ := box4 hb
  go_wp2_with fail
  refine (hR _).mono ?_
  rintro e u2 ⟨rfl, hb2⟩
  obtain ⟨c0_2, c1_2, c2_2, c3_2, hz_2⟩ := step4 hz hb2 c0 c1 c2 c3
  clear c0 c1 c2 c3
  go_wp2_with fail
  refine (h1 _).mono ?_
  rintro e u3 ⟨rfl, hb3⟩
  obtain ⟨c0_3, c1_3, c2_3, c3_3, hz_3⟩ := step4 hz_2 hb3 c0_2 c1_2 c2_2 c3_2
  clear c0_2 c1_2 c2_2 c3_2
  go_wp2_with fail
  refine (h2 _).mono ?_
  rintro e u4 ⟨rfl, hb4⟩
  obtain ⟨c0_4, c1_4, c2_4, c3_4, hz_4⟩ := step4 hz_3 hb4 c0_3 c1_3 c2_3 c3_3
  clear c0_3 c1_3 c2_3 c3_3
  go_wp2_with fail
  refine (h3 _).mono ?_
  rintro e u5 ⟨rfl, hb5⟩
  obtain ⟨c0_5, c1_5, c2_5, c3_5, hz_5⟩ := step4 hz_4 hb5 c0_4 c1_4 c2_4 c3_4
  clear c0_4 c1_4 c2_4 c3_4
  go_wp2_with fail
  refine (h4 _).mono ?_
  rintro e u6 ⟨rfl, hb6⟩
  obtain ⟨c0_6, c1_6, c2_6, c3_6, hz_6⟩ := step4 hz_5 hb6 c0_5 c1_5 c2_5 c3_5
  clear c0_5 c1_5 c2_5 c3_5
  go_wp2
  go_ret
  exact ⟨rfl, (((((below_box hb).trans (hb2.mono (Nat.le_of_lt hz))).trans (hb3.mono (Nat.le_of_lt hz_2))).trans (hb4.mono (Nat.le_of_lt hz_3))).trans (hb5.mono (Nat.le_of_lt hz_4))).trans (hb6.mono (Nat.le_of_lt hz_5))⟩

set_option maxHeartbeats 1000000 in
theorem back_422 (f s n d l a t v m x k4 : Int) (w : World) (hR : RealSays f s n d l t .nilIface) (ht : 0 ≤ t) (ht2 : t ≤ 1099511627776) (h1 : LocalSays f s n d t v .nilIface) (hv : l ≤ v) (h2 : LocalSays f s n d (t - 1) m .nilIface) (hm : m < l)  (h3 : LocalSays f s n d a x .nilIface) (h4 : LocalSays f s n d a 0 (.iface 30 (.int .i64 k4))) :
    Calls Try.prog 3 #[.agg #[.int .i64 f, .int .i64 s, .int .i64 n, .int .i64 d], .int .i64 l, .int .i64 a, .int .i64 a] w fun e w' => e = .returned (.bool true) ∧ Below w.heap.size w w' := by
  go_enter Try.func3, Try.ntmps3
  go_wp2_with fail
  refine (told_any _).mono ?_
  rintro e w1 ⟨rfl, hb⟩
  obtain ⟨c0, c1, c2, c3, hz⟩ := box4 hb
  go_wp2_with fail
  refine (hR _).mono ?_
  rintro e u2 ⟨rfl, hb2⟩
  obtain ⟨c0_2, c1_2, c2_2, c3_2, hz_2⟩ := step4 hz hb2 c0 c1 c2 c3
  clear c0 c1 c2 c3
  go_wp2_with fail
  refine (h1 _).mono ?_
  rintro e u3 ⟨rfl, hb3⟩
  obtain ⟨c0_3, c1_3, c2_3, c3_3, hz_3⟩ := step4 hz_2 hb3 c0_2 c1_2 c2_2 c3_2
  clear c0_2 c1_2 c2_2 c3_2
  go_wp2_with fail
  refine (h2 _).mono ?_
  rintro e u4 ⟨rfl, hb4⟩
  obtain ⟨c0_4, c1_4, c2_4, c3_4, hz_4⟩ := step4 hz_3 hb4 c0_3 c1_3 c2_3 c3_3
  clear c0_3 c1_3 c2_3 c3_3
  go_wp2_with fail
  refine (h3 _).mono ?_
  rintro e u5 ⟨rfl, hb5⟩
  obtain ⟨c0_5, c1_5, c2_5, c3_5, hz_5⟩ := step4 hz_4 hb5 c0_4 c1_4 c2_4 c3_4
  clear c0_4 c1_4 c2_4 c3_4
  go_wp2_with fail
  refine (h4 _).mono ?_
  rintro e u6 ⟨rfl, hb6⟩
  obtain ⟨c0_6, c1_6, c2_6, c3_6, hz_6⟩ := step4 hz_5 hb6 c0_5 c1_5 c2_5 c3_5
  clear c0_5 c1_5 c2_5 c3_5
  go_wp2
  go_ret
  exact ⟨rfl, (((((below_box hb).trans (hb2.mono (Nat.le_of_lt hz))).trans (hb3.mono (Nat.le_of_lt hz_2))).trans (hb4.mono (Nat.le_of_lt hz_3))).trans (hb5.mono (Nat.le_of_lt hz_4))).trans (hb6.mono (Nat.le_of_lt hz_5))⟩

set_option maxHeartbeats 1000000 in
theorem back_423 (f s n d l a t v m x y : Int) (w : World) (hR : RealSays f s n d l t .nilIface) (ht : 0 ≤ t) (ht2 : t ≤ 1099511627776) (h1 : LocalSays f s n d t v .nilIface) (hv : l ≤ v) (h2 : LocalSays f s n d (t - 1) m .nilIface) (hm : m < l)  (h3 : LocalSays f s n d a x .nilIface) (h4 : LocalSays f s n d a y .nilIface) (hxy : x ≤ y) :
    Calls Try.prog 3 #[.agg #[.int .i64 f, .int .i64 s, .int .i64 n, .int .i64 d], .int .i64 l, .int .i64 a, .int .i64 a] w fun e w' => e = .returned (.bool true) ∧ Below w.heap.size w w' := by
  go_enter Try.func3, Try.ntmps3
  go_wp2_with fail
  refine (told_any _).mono ?_
  rintro e w1 ⟨rfl, hb⟩
  obtain ⟨c0, c1, c2, c3, hz⟩ := box4 hb
  go_wp2_with fail
  refine (hR _).mono ?_
  rintro e u2 ⟨rfl, hb2⟩
  obtain ⟨c0_2, c1_2, c2_2, c3_2, hz_2⟩ := step4 hz hb2 c0 c1 c2 c3
  clear c0 c1 c2 c3
  go_wp2_with fail
  refine (h1 _).mono ?_
  rintro e u3 ⟨rfl, hb3⟩
  obtain ⟨c0_3, c1_3, c2_3, c3_3, hz_3⟩ := step4 hz_2 hb3 c0_2 c1_2 c2_2 c3_2
  clear c0_2 c1_2 c2_2 c3_2
  go_wp2_with fail
  refine (h2 _).mono ?_
  rintro e u4 ⟨rfl, hb4⟩
  obtain ⟨c0_4, c1_4, c2_4, c3_4, hz_4⟩ := step4 hz_3 hb4 c0_3 c1_3 c2_3 c3_3
  clear c0_3 c1_3 c2_3 c3_3
  go_wp2_with fail
  refine (h3 _).mono ?_
  rintro e u5 ⟨rfl, hb5⟩
  obtain ⟨c0_5, c1_5, c2_5, c3_5, hz_5⟩ := step4 hz_4 hb5 c0_4 c1_4 c2_4 c3_4
  clear c0_4 c1_4 c2_4 c3_4
  go_wp2_with fail
  refine (h4 _).mono ?_
  rintro e u6 ⟨rfl, hb6⟩
  obtain ⟨c0_6, c1_6, c2_6, c3_6, hz_6⟩ := step4 hz_5 hb6 c0_5 c1_5 c2_5 c3_5
  clear c0_5 c1_5 c2_5 c3_5
  go_wp2
  go_ret
  exact ⟨rfl, (((((below_box hb).trans (hb2.mono (Nat.le_of_lt hz))).trans (hb3.mono (Nat.le_of_lt hz_2))).trans (hb4.mono (Nat.le_of_lt hz_3))).trans (hb5.mono (Nat.le_of_lt hz_4))).trans (hb6.mono (Nat.le_of_lt hz_5))⟩

end Go.Proofs.Ythinkdcekdgdcaa
