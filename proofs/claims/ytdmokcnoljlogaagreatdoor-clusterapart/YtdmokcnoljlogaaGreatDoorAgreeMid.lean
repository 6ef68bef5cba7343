/-
  The program's Midpoint: of every readings and every f: its error, or the middle; new memory alone is made.
-/
import Derived.Test.YtdmokcnoljlogaaGreatDoorWordsD
import Derived.Test.YtdmokcnoljlogaaGreatDoorShelf
import Derived.Lib.OwnBridge
import Derived.Sort.Grow
import Derived.Sort.OwnSortedInts
import Derived.WalkSpells
import Derived.BigQuiet
namespace Go.Proofs.YtdmokcnoljlogaaGreatDoor
open Go.RowKit Go.Shelf Go.Sort

/-- The closure that tells what is beyond. -/
theorem beyond_pred (B : Nat) (w : World) (hB : B < w.heap.size) (hcell : w.cell? ⟨B, 0, none⟩ = some (.int .i64 1099511627776)) :
    PredAt Tryz.prog 88 #[.pointer (some ⟨B, 0, none⟩)] (Value.int .i64) far w := fun W x hb => by
  have hc : W.cell? ⟨B, 0, none⟩ = some (.int .i64 1099511627776) := (hb.cell (p := ⟨B, 0, none⟩) hB).trans hcell
  show Calls Tryz.prog 88 #[.int .i64 x, .pointer (some ⟨B, 0, none⟩)] W _
  unfold far
  go_enter Tryz.func88, Tryz.ntmps88
  go_wp2
  all_goals (go_ret; exact ⟨by simp_all, 0, rfl⟩)

theorem beyond_any (w : World) : Calls Tryz.prog 83 #[.int .i64 1099511627776] w fun e w' => e = .returned (.func (.func 88) #[] #[.pointer (some ⟨w.heap.size, 0, none⟩)]) ∧ w' = w.alloc (.cells #[.int .i64 1099511627776] 3) := by
  go_enter Tryz.func83, Tryz.ntmps83
  go_wp2
  go_ret
  exact ⟨rfl, rfl⟩

set_option maxHeartbeats 1000000 in
theorem mid_arg (a : Option Addr) (n cap : Nat) (f : Int) (w : World) (hn : n ≤ 20000) (h : f < 0 ∨ (n : Int) < 2 * f + 1) :
    Calls Tryz.prog 84 #[.slice a n cap, .int .i64 f] w fun e w' => e = .returned (.tuple #[.int .i64 0, errV 1]) ∧ Below w.heap.size w w' := by
  rw [errV_1]
  by_cases hf : f < 0
  · clear h
    go_enter Tryz.func84, Tryz.ntmps84
    go_wp2
    go_ret2
    exact ⟨rfl, Below.refl _ _⟩
  · have k1 : decide (f < 0) = false := decide_eq_false hf
    by_cases h0 : n = 0
    · subst h0
      clear h hf
      go_enter Tryz.func84, Tryz.ntmps84
      go_wp2
      go_ret2
      exact ⟨rfl, Below.refl _ _⟩
    · have k2 : ((n : Int) == 0) = false := by simp; omega
      have k3 : ((n : Int) - 1) / 2 < f := by omega
      clear h hf
      go_enter Tryz.func84, Tryz.ntmps84
      go_wp2
      go_ret2
      exact ⟨rfl, Below.refl _ _⟩

theorem far_enters : ∀ args w, (callFunc 88 args).run Tryz.prog w = .ok (.enter 88 args) w := enters_of Tryz.func88 (by kernel_rfl) rfl

/-- Which readings are beyond. -/
theorem far_any (b off cap n : Nat) (l : List Int) (hl : l.length = n) (hn : n ≤ 20000) (w : World) (hb : b < w.heap.size) (hc : ∀ j, j < l.length → w.cell? ⟨b, off + j, none⟩ = some (.int .i64 (l.getD j 0))) :
    Calls Tryz.prog 33 #[.slice (some ⟨b, off, none⟩) n cap, .func (.func 88) #[] #[.pointer (some ⟨w.heap.size, 0, none⟩)]] (w.alloc (.cells #[.int .i64 1099511627776] 3)) fun e w' => e = .returned (.bool (l.any far)) ∧ Below w.heap.size w w' := by
  have h := Tryz.slices_ContainsFunc (Value.int .i64) far 88 #[.pointer (some ⟨w.heap.size, 0, none⟩)] far_enters b off n cap l (w.alloc (.cells #[.int .i64 1099511627776] 3)) (beyond_pred w.heap.size _ (by simp) (by simp)) (by omega) (by omega) (fun j hj => by
    rw [World.cell?_alloc_lt _ _ _ hb, hc j hj, getElem!_pos l j hj, getD_at hj])
  rw [List.take_of_length_le (by omega)] at h
  exact h.mono fun e w' ⟨he, q, hq⟩ => ⟨he, hq ▸ below_drewN' ((Below.refl _ w).alloc (Nat.le_refl _) _) q⟩

set_option maxHeartbeats 1000000 in
theorem mid_range (a : Option Addr) (cap : Nat) (l : List Int) (f : Nat) (w : World) (hr : IntRow w a l) (hn : l.length ≤ 20000) (h : 2 * f + 1 ≤ l.length) (hin : l.any far = true) :
    Calls Tryz.prog 84 #[.slice a l.length cap, .int .i64 f] w fun e w' => e = .returned (.tuple #[.int .i64 0, errV 2]) ∧ Below w.heap.size w w' := by
  rw [errV_2]
  obtain ⟨b, off, rfl, hb, hc⟩ := hr (by omega)
  have hfa := far_any b off cap l.length l rfl hn w hb hc
  rw [hin] at hfa
  generalize l.length = n at *
  have k1 : decide ((f : Int) < 0) = false := decide_eq_false (by omega)
  have k2 : ((n : Int) == 0) = false := by simp; omega
  have k3 : decide (((n : Int) - 1) / 2 < (f : Int)) = false := decide_eq_false (by omega)
  clear hc hin hr
  go_enter Tryz.func84, Tryz.ntmps84
  go_wp2_with fail
  refine (beyond_any _).mono ?_
  rintro e w1 ⟨rfl, rfl⟩
  go_wp2_with fail
  refine hfa.mono ?_
  rintro e w2 ⟨rfl, hb2⟩
  go_wp2
  go_ret2
  exact ⟨rfl, hb2⟩

set_option maxRecDepth 100000 in
set_option maxHeartbeats 1000000 in
theorem mid_ok (a : Option Addr) (cap : Nat) (l : List Int) (f : Nat) (w : World) (hr : IntRow w a l) (hn : l.length ≤ 20000) (h : 2 * f + 1 ≤ l.length) (hin : l.any far = false) :
    Calls Tryz.prog 84 #[.slice a l.length cap, .int .i64 f] w fun e w' => e = .returned (.tuple #[.int .i64 (midOf l f), .nilIface]) ∧ Below w.heap.size w w' := by
  obtain ⟨b, off, rfl, hb, hc⟩ := hr (by omega)
  have hfa := far_any b off cap l.length l rfl hn w hb hc
  rw [hin] at hfa
  obtain ⟨n, hl⟩ : ∃ n, l.length = n := ⟨_, rfl⟩
  have hA := rank_in hin (k := f) (by omega)
  have hZ := rank_in hin (k := n - 1 - f) (by omega)
  have HM : Hid (midOf l f = (rank l f + rank l (n - 1 - f)) / 2) := by
    show _ = _
    rw [midOf, hl]
  rw [hl] at hfa hn h ⊢
  have HC : Hid (∀ W : World, Below w.heap.size w W → Calls Tryz.prog 31 #[.slice (some ⟨b, off, none⟩) n cap] W fun e w' => ∃ g cp, e = .returned (.slice (some ⟨g, 0, none⟩) n cp) ∧ W.heap.size ≤ g ∧ g < w'.heap.size ∧ Holds (Value.int .i64) w' g 0 l.toArray ∧ Below W.heap.size W w') := fun W hW => by
    refine (Tryz.slices_Clone_int b off n cap l W (by omega) (by omega) (fun j hj => (hW.cell (p := ⟨b, off + j, none⟩) hb).trans (hc j hj))).mono ?_
    rintro e w1 ⟨v1, rfl, hown, hnn, hbel⟩
    rw [List.take_of_length_le (by omega)] at hown
    obtain ⟨g, cp, rfl, hbg, hgl, _, _, _, hH⟩ := Lib.holds_of_ownsRow hown hnn
    exact ⟨g, cp, rfl, hbg, hgl, hH, hbel⟩
  have k1 : decide ((f : Int) < 0) = false := decide_eq_false (by omega)
  have k2 : ((n : Int) == 0) = false := by simp; omega
  have k3 : decide (((n : Int) - 1) / 2 < (f : Int)) = false := decide_eq_false (by omega)
  obtain ⟨k, hk⟩ : ∃ k, n - 1 - f = k := ⟨_, rfl⟩
  rw [hk] at hZ HM
  have k4 : (n : Int) - 1 - (f : Int) = (k : Int) := by omega
  have hkn : k < n := by omega
  have hfn : f < n := by omega
  have HL : Hid (l.length = n) := hl
  clear hc hin hr hl hk
  obtain ⟨p, hp⟩ : ∃ p, rank l f = p := ⟨_, rfl⟩
  obtain ⟨q, hq⟩ : ∃ q, rank l k = q := ⟨_, rfl⟩
  rw [hp] at hA HM
  rw [hq] at hZ HM
  have HP : Hid (rank l f = p) := hp
  have HQ : Hid (rank l k = q) := hq
  clear hp hq
  rw [HM.out]
  go_enter Tryz.func84, Tryz.ntmps84
  go_wp2_with fail
  refine (beyond_any _).mono ?_
  rintro e w1 ⟨rfl, rfl⟩
  go_wp2_with fail
  refine hfa.mono ?_
  rintro e w2 ⟨rfl, hb2⟩
  go_wp2_with fail
  refine (HC.out _ hb2).mono ?_
  rintro e w3 ⟨g, cp, rfl, hg, hgl, hH, hb3⟩
  have hb3' : Below w.heap.size w w3 := below_then hb2 hb3
  have hS := Tryz.slices_Sort_int g 0 cp l w3 hH hgl (by rw [HL.out]; omega)
  rw [HL.out] at hS
  have HX : Hid (w.heap.size ≤ g ∧ Holds (Value.int .i64) w3 g 0 l.toArray) := ⟨Nat.le_trans hb2.size hg, hH⟩
  clear hH hb2 hb3 hfa HC
  go_wp2_with fail
  refine hS.mono ?_
  rintro e w4 ⟨rfl, nn, os, hw4⟩
  obtain ⟨hcs, hb4⟩ := sorted_row hb3' HX.out.1 hgl HX.out.2 hw4
  have c1 : w4.cell? ⟨g, f, none⟩ = some (.int .i64 p) := by rw [hcs f (by rw [HL.out]; exact hfn), HP.out]
  have c2 : w4.cell? ⟨g, k, none⟩ = some (.int .i64 q) := by rw [hcs k (by rw [HL.out]; exact hkn), HQ.out]
  clear hcs hw4 HX hS
  have k5 : (f : Int) < (n : Int) := by omega
  have k6 : (k : Int) < (n : Int) := by omega
  go_wp2_with fail
  go_quiet (fail)
  all_goals go_wp2
  all_goals go_ret2
  all_goals exact ⟨rfl, below_drewN' hb4 _⟩

/-- Midpoint, whatever it is asked. -/
theorem mid_any (a : Option Addr) (cap : Nat) (l : List Int) (f : Int) (w : World) (hr : IntRow w a l) (hn : l.length ≤ 20000) :
    Calls Tryz.prog 84 #[.slice a l.length cap, .int .i64 f] w fun e w' => e = .returned (.tuple #[.int .i64 (midVal l f), errV (midErr l f)]) ∧ Below w.heap.size w w' := by
  by_cases h : f < 0 ∨ (l.length : Int) < 2 * f + 1
  · rw [midVal_bad (by rw [midErr_1 h]; decide), midErr_1 h]
    exact mid_arg a l.length cap f w hn h
  · obtain ⟨k, rfl⟩ : ∃ k : Nat, f = (k : Int) := ⟨f.toNat, by omega⟩
    cases h2 : l.any far
    · rw [midVal_ok (midErr_0 h h2), midErr_0 h h2, errV_0]
      exact mid_ok a cap l k w hr hn (by omega) h2
    · rw [midVal_bad (by rw [midErr_2 h h2]; decide), midErr_2 h h2]
      exact mid_range a cap l k w hr hn (by omega) h2
end Go.Proofs.YtdmokcnoljlogaaGreatDoor
