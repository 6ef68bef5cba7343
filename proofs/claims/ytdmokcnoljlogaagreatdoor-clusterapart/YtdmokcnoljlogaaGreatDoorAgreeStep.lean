/- How far a clock is set on by its row of readings: the program's step. -/
import Derived.Test.YtdmokcnoljlogaaGreatDoorWordsD
import Derived.Test.YtdmokcnoljlogaaGreatDoorAgreeMid
namespace Go.Proofs.YtdmokcnoljlogaaGreatDoor
open Go.RowKit Go.Shelf Go.Sort

set_option maxHeartbeats 1000000 in
theorem step_any (a : Option Addr) (cap : Nat) (row : List Int) (m : Nat) (c f : Int) (w : World) (hr : IntRow w a row) (hn : row.length ≤ 1000) :
    Calls Tryz.prog 65 #[.int .i64 c, .slice a row.length cap, .int .i64 m, .int .i64 f] w fun e w' => e = .returned (.tuple #[.int .i64 (stepVal m c row f), errV (stepErr m c row f)]) ∧ Below w.heap.size w w' := by
  by_cases h1 : row.length = m
  rotate_left
  · rw [stepVal_bad (by rw [stepErr_1 h1]; decide), stepErr_1 h1, errV_1]
    have k1 : ((row.length : Int) != (m : Int)) = true := by simp; omega
    generalize row.length = n at *
    go_enter Tryz.func65, Tryz.ntmps65
    go_wp2
    go_ret2
    exact ⟨rfl, Below.refl _ _⟩
  · have k1 : ((row.length : Int) != (m : Int)) = false := by simp; omega
    have hp := beyond_pred w.heap.size (w.alloc (.cells #[.int .i64 1099511627776] 3)) (by simp) (by simp) _ c (Below.refl _ _)
    have hp : Calls Tryz.prog 88 #[.int .i64 c, .pointer (some ⟨w.heap.size, 0, none⟩)] (w.alloc (.cells #[.int .i64 1099511627776] 3)) fun e w' => e = .returned (.bool (far c)) ∧ ∃ q, w' = (w.alloc (.cells #[.int .i64 1099511627776] 3)).drewN q := hp
    have hbe := beyond_any w
    have HM : Hid (∀ u : World, Below w.heap.size w u → Calls Tryz.prog 84 #[.slice a row.length cap, .int .i64 f] u fun e w' => e = .returned (.tuple #[.int .i64 (midVal row f), errV (midErr row f)]) ∧ Below u.heap.size u w') := fun u hu => mid_any a cap row f u (hr.below hu) (by omega)
    have hV : ∀ q, Below w.heap.size w ((w.alloc (.cells #[.int .i64 1099511627776] 3)).drewN q) := fun q => below_drewN' ((Below.refl _ w).alloc (Nat.le_refl _) _) q
    cases h2 : far c
    · rw [h2] at hp
      have e1 := stepErr_mid (f := f) h1 h2
      have e2 : stepVal m c row f = midVal row f := by
        unfold stepVal
        rw [e1]
        by_cases h : midErr row f = 0
        · rw [if_pos h]
        · rw [if_neg h, midVal_bad h]
      rw [e1, e2]
      generalize midVal row f = x at *
      generalize errV (midErr row f) = E at *
      generalize row.length = n at *
      clear e1 e2 h2 h1 hr hn
      go_enter Tryz.func65, Tryz.ntmps65
      go_wp2_with fail
      refine hbe.mono ?_
      rintro e w1 ⟨rfl, rfl⟩
      go_wp2_with fail
      refine hp.mono ?_
      rintro e w2 ⟨rfl, q, rfl⟩
      go_wp2_with fail
      refine (HM.out _ (hV q)).mono ?_
      rintro e w3 ⟨rfl, hb3⟩
      go_wp2
      go_ret2
      exact ⟨rfl, below_then (hV q) hb3⟩
    · rw [h2] at hp
      rw [stepVal_bad (by rw [stepErr_2 h1 h2]; decide), stepErr_2 h1 h2, errV_2]
      generalize row.length = n at *
      clear h2 h1 hr hn HM
      go_enter Tryz.func65, Tryz.ntmps65
      go_wp2_with fail
      refine hbe.mono ?_
      rintro e w1 ⟨rfl, rfl⟩
      go_wp2_with fail
      refine hp.mono ?_
      rintro e w2 ⟨rfl, q, rfl⟩
      go_wp2
      go_ret2
      exact ⟨rfl, hV q⟩

end Go.Proofs.YtdmokcnoljlogaaGreatDoor
