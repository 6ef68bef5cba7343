/- AgreeMidpoint, walked: of every readings and every f it answers true. Condition: package errors' own variable holds what its text says. -/
import Derived.Test.YtfofaaagenclmabDoorRefMid
import Derived.Test.YtfofaaagenclmabDoorBareAt
namespace Go.Proofs.YtfofaaagenclmabDoor
open Go.RowKit

theorem bare_err (k : Int) : BareSays (errV k) k := by
  unfold errV
  by_cases h : k = 0
  · subst h; rw [if_pos rfl]; exact bare_nil
  · rw [if_neg h]; exact bare_e k

set_option maxRecDepth 100000 in
set_option maxHeartbeats 1000000 in
theorem amid_any (a : Option Addr) (cap : Nat) (l : List Int) (f : Int) (w : World) (hT : Told w) (hr : IntRow w a l) :
    Calls Tryd.prog 3 #[.slice a l.length cap, .int .i64 f] w fun e w' => e = .returned (.bool true) ∧ Below w.heap.size w w' := by
  by_cases h1 : 60 < l.length
  · generalize l.length = n at h1
    have h2 : (60 : Int) < (n : Int) := by omega
    go_enter Tryd.func3, Tryd.ntmps3
    go_wp2_with fail
    go_ret
    exact ⟨rfl, Below.refl _ _⟩
  · obtain ⟨n, hn⟩ : ∃ n, l.length = n := ⟨_, rfl⟩
    have H1 : Hid (∀ u : World, Below w.heap.size w u → Calls Tryd.prog 6 #[.slice a n cap, .int .i64 f] u fun e w' => e = .returned (.tuple #[.int .i64 (midVal l f), .int .i64 (midErr l f)]) ∧ Below u.heap.size u w') := fun u hu => hn ▸ refMid_any a cap l f u (hr.below hu) (by omega)
    have H2 : Hid (∀ u : World, Below w.heap.size w u → Calls Tryd.prog 7 #[.slice a n cap, .int .i64 f] u fun e w' => e = .returned (.tuple #[.int .i64 (midVal l f), errV (midErr l f)]) ∧ Below u.heap.size u w') := fun u hu => hn ▸ mid_any a cap l f u (hr.below hu) (by omega)
    have hB := bare_err (midErr l f)
    rw [hn] at h1 ⊢
    have k1 : decide ((60 : Int) < (n : Int)) = false := decide_eq_false (by omega)
    clear hr hn
    generalize midVal l f = x at *
    generalize errV (midErr l f) = E at *
    generalize midErr l f = k at *
    go_enter Tryd.func3, Tryd.ntmps3
    go_wp2_with fail
    refine (H1.out _ (Below.refl _ _)).mono ?_
    rintro e w1 ⟨rfl, hb1⟩
    go_wp2_with fail
    refine (H2.out _ hb1).mono ?_
    rintro e w2 ⟨rfl, hb2⟩
    have hV := below_then hb1 hb2
    go_wp2_with fail
    refine (hB _ (hT.below hV)).mono ?_
    rintro e w3 ⟨rfl, hb3⟩
    go_wp2
    go_ret
    exact ⟨rfl, below_then hV hb3⟩
end Go.Proofs.YtfofaaagenclmabDoor
