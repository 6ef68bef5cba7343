/- The document's answer's Send, whatever it is asked (ahead of stage 7). (Made by tools/gen_refsend.py.) -/
import Derived.Test.YthcnhfjhppmmdabDoorRefSendr
import Derived.Test.YthcnhfjhppmmdabDoorSdrWords
import Derived.Deep.RegionHeld3
import Derived.BigQuiet
namespace Go.Proofs.YthcnhfjhppmmdabDoor
open Go.RowKit

/-- Its number field i is set. -/
theorem RefSendr.setNow {w : World} {B P : Nat} {bag queue : Int} {all : List ByteArray} {v : Value} {went : Nat} {last now : Int} (h : RefSendr w B P bag queue all v went last now) (x : Int) : RefSendr (w.setCell ⟨P, 5, none⟩ (.int .i64 x)) B P bag queue all v went last x :=
  ⟨(cell_other (.inr (by decide))).trans h.c0, (cell_other (.inr (by decide))).trans h.c1, (cell_other (.inr (by decide))).trans h.c2, (cell_other (.inr (by decide))).trans h.c3, (cell_other (.inr (by decide))).trans h.c4, cell_set h.c5, fun i => soft_set.trans (h.z i), owns_put h.own h.lp, h.lp, by simpa using h.lb, h.we⟩
theorem RefSendr.setLast {w : World} {B P : Nat} {bag queue : Int} {all : List ByteArray} {v : Value} {went : Nat} {last now : Int} (h : RefSendr w B P bag queue all v went last now) (x : Int) : RefSendr (w.setCell ⟨P, 4, none⟩ (.int .i64 x)) B P bag queue all v went x now :=
  ⟨(cell_other (.inr (by decide))).trans h.c0, (cell_other (.inr (by decide))).trans h.c1, (cell_other (.inr (by decide))).trans h.c2, (cell_other (.inr (by decide))).trans h.c3, cell_set h.c4, (cell_other (.inr (by decide))).trans h.c5, fun i => soft_set.trans (h.z i), owns_put h.own h.lp, h.lp, by simpa using h.lb, h.we⟩
theorem RefSendr.setWent {w : World} {B P : Nat} {bag queue : Int} {all : List ByteArray} {v : Value} {went : Nat} {last now : Int} (h : RefSendr w B P bag queue all v went last now) (x : Nat) (hx : x ≤ all.length) : RefSendr (w.setCell ⟨P, 3, none⟩ (.int .i64 x)) B P bag queue all v x last now :=
  ⟨(cell_other (.inr (by decide))).trans h.c0, (cell_other (.inr (by decide))).trans h.c1, (cell_other (.inr (by decide))).trans h.c2, cell_set h.c3, (cell_other (.inr (by decide))).trans h.c4, (cell_other (.inr (by decide))).trans h.c5, fun i => soft_set.trans (h.z i), owns_put h.own h.lp, h.lp, by simpa using h.lb, hx⟩

set_option maxHeartbeats 1000000 in
theorem refSend_range {w : World} {B P : Nat} {bag queue : Int} {all : List ByteArray} {v : Value} {went : Nat} {last now : Int} (h : RefSendr w B P bag queue all v went last now) (t : Int) (ht : ¬ (0 ≤ t ∧ t ≤ 1099511627776)) :
    Calls Tryd.prog 41 #[.pointer (some ⟨P, 0, none⟩), .int .i64 t] w fun e w' => e = .returned (.tuple #[.int .i64 0, emptyS, .int .i64 2]) ∧ w' = w := by
  have _ := h
  have hI := in_is t 0 1099511627776 w
  rw [decide_eq_false ht] at hI
  clear ht
  go_enter Tryd.func41, Tryd.ntmps41
  go_wp2_with fail
  refine hI.mono ?_
  rintro e w1 ⟨rfl, hw1⟩
  replace hw1 := hw1.symm
  subst hw1
  go_wp2
  go_ret3
  exact ⟨rfl, rfl⟩

set_option maxHeartbeats 1000000 in
theorem refSend_order {w : World} {B P : Nat} {bag queue : Int} {all : List ByteArray} {v : Value} {went : Nat} {last now : Int} (h : RefSendr w B P bag queue all v went last now) (t : Int) (ht : 0 ≤ t ∧ t ≤ 1099511627776) (hn : t < now) :
    Calls Tryd.prog 41 #[.pointer (some ⟨P, 0, none⟩), .int .i64 t] w fun e w' => e = .returned (.tuple #[.int .i64 0, emptyS, .int .i64 10]) ∧ w' = w := by
  have hI := in_is t 0 1099511627776 w
  rw [decide_eq_true ht] at hI
  obtain ⟨c0, c1, c2, c3, c4, c5, z, own, lp, lb, we⟩ := h
  have hlp : P < w.heap.size := by omega
  clear ht own z
  go_enter Tryd.func41, Tryd.ntmps41
  go_wp2_with fail
  refine hI.mono ?_
  rintro e w1 ⟨rfl, hw1⟩
  replace hw1 := hw1.symm
  subst hw1
  go_wp2
  go_ret3
  exact ⟨rfl, rfl⟩

set_option maxRecDepth 100000 in
set_option maxHeartbeats 2000000 in
theorem refSend_none {w : World} {B P : Nat} {bag queue : Int} {all : List ByteArray} {v : Value} {went : Nat} {last now : Int} (h : RefSendr w B P bag queue all v went last now) (t : Int) (ht : 0 ≤ t ∧ t ≤ 1099511627776) (hn : now ≤ t) (hno : noneB all.length went t last bag = true) (hl0 : 0 ≤ last) (hl : last ≤ 1099511627776) (hb0 : 0 ≤ bag) (hb : bag ≤ 1099511627776) :
    Calls Tryd.prog 41 #[.pointer (some ⟨P, 0, none⟩), .int .i64 t] w fun e w' => e = .returned (.tuple #[.int .i64 0, emptyS, .int .i64 8]) ∧ RefSendr w' B P bag queue all v went last t ∧ Turns P P w w' := by
  have HH : Hid (RefSendr w B P bag queue all v went last now) := h
  have hI := in_is t 0 1099511627776 w
  rw [decide_eq_true ht] at hI
  obtain ⟨c0, c1, c2, c3, c4, c5, z, own, lp, lb, we⟩ := h
  obtain ⟨a, cap, rfl⟩ := owns_form own
  have hlp : P < w.heap.size := by omega
  have z5 := z 5
  have hn2 : decide (t < now) = false := decide_eq_false (by omega)
  clear own z
  obtain ⟨n, hN⟩ : ∃ n, all.length = n := ⟨_, rfl⟩
  rw [hN] at hno c2 we HH
  rw [hN]
  have HX : Hid (RefSendr (w.setCell ⟨P, 5, none⟩ (.int .i64 t)) B P bag queue all (.slice a n cap) went last t) := HH.out.setNow t
  have HT : Hid (Turns P P w (w.setCell ⟨P, 5, none⟩ (.int .i64 t))) := (Turns.refl _ _ _).set (p := ⟨P, 5, none⟩) (.inl rfl) _
  clear hN HH
  by_cases e1 : went = n
  · have k1 : ((went : Int) == (n : Int)) = true := by simp; omega
    clear hno e1
    go_enter Tryd.func41, Tryd.ntmps41
    go_wp2_with fail
    refine hI.mono ?_
    rintro e w1 ⟨rfl, hw1⟩
    replace hw1 := hw1.symm
    subst hw1
    go_wp2_with fail
    go_quiet (fail)
    go_wp2
    go_ret3
    exact ⟨rfl, HX.out.drawn _, HT.out.trans (Turns.drawn _)⟩
  · have k1 : ((went : Int) == (n : Int)) = false := by simp; omega
    unfold noneB at hno
    rw [decide_eq_false e1, Bool.false_or, Bool.and_eq_true, decide_eq_true_eq, decide_eq_true_eq] at hno
    obtain ⟨k2, k3⟩ := hno
    have k4 : (0 : Int) < (went : Int) := by omega
    clear e1
    go_enter Tryd.func41, Tryd.ntmps41
    go_wp2_with fail
    refine hI.mono ?_
    rintro e w1 ⟨rfl, hw1⟩
    replace hw1 := hw1.symm
    subst hw1
    go_wp2_with fail
    go_quiet (fail)
    go_wp2
    go_ret3
    exact ⟨rfl, HX.out.drawn _, HT.out.trans (Turns.drawn _)⟩

theorem row_str {w : World} {B P : Nat} {bag queue : Int} {all : List ByteArray} {v : Value} {went : Nat} {last now : Int} (h : RefSendr w B P bag queue all v went last now) (k : Nat) (hk : k < all.length) : ∃ g cap, v = .slice (some ⟨g, 0, none⟩) all.length cap ∧ B ≤ g ∧ w.cell? ⟨g, k, none⟩ = some (.string (all.getD k ByteArray.empty)) := by
  obtain ⟨g, cap, hv, hg, hc⟩ := owns_some h.own (by omega)
  refine ⟨g, cap, hv, hg, ?_⟩
  have := hc k (.string (all.getD k ByteArray.empty)) (by simp [List.getD, hk])
  rwa [add_at, Nat.zero_add] at this

set_option maxRecDepth 100000 in
set_option maxHeartbeats 2000000 in
theorem refSend_ok {w : World} {B P : Nat} {bag queue : Int} {all : List ByteArray} {v : Value} {went : Nat} {last now : Int} (h : RefSendr w B P bag queue all v went last now) (t : Int) (ht : 0 ≤ t ∧ t ≤ 1099511627776) (hn : now ≤ t) (hno : noneB all.length went t last bag = false) (ha : all.length ≤ 1000000) (hl0 : 0 ≤ last) (hl : last ≤ 1099511627776) (hb0 : 0 ≤ bag) (hb : bag ≤ 1099511627776) :
    Calls Tryd.prog 41 #[.pointer (some ⟨P, 0, none⟩), .int .i64 t] w fun e w' => e = .returned (.tuple #[.int .i64 (ordN went), .string (all.getD went ByteArray.empty), .int .i64 0]) ∧ RefSendr w' B P bag queue all v (went + 1) t t ∧ Turns P P w w' := by
  have HH : Hid (RefSendr w B P bag queue all v went last now) := h
  have hI := in_is t 0 1099511627776 w
  rw [decide_eq_true ht] at hI
  have hwl : went < all.length := by
    have := h.we
    unfold noneB at hno
    simp only [Bool.or_eq_false_iff, decide_eq_false_iff_not] at hno
    omega
  obtain ⟨g, cap, hv, hgB, hcell⟩ := row_str h went hwl
  obtain ⟨c0, c1, c2, c3, c4, c5, z, own, lp, lb, we⟩ := h
  subst hv
  have hlp : P < w.heap.size := by omega
  have hgl : g < w.heap.size := (own.lt g rfl).2
  have hne : g ≠ P := by omega
  have hne2 : P ≠ g := by omega
  have z5 := z 5
  have z4 := z 4
  have z3 := z 3
  have hn2 : decide (t < now) = false := decide_eq_false (by omega)
  clear own z
  obtain ⟨n, hN⟩ : ∃ n, all.length = n := ⟨_, rfl⟩
  rw [hN] at hno c2 ha we HH hwl
  rw [hN]
  have HNN : Hid (all.length = n) := hN
  have hO := refOrder_any went (by omega)
  generalize all.getD went ByteArray.empty = D at *
  clear hN
  have hwr1 : (went : Int) + 1 - 1 = (went : Int) := by omega
  have k1 : ((went : Int) == (n : Int)) = false := by simp; omega
  have kk : (went : Int) < (n : Int) := by omega
  by_cases e0 : went = 0
  · have k4 : decide (0 < went) = false := decide_eq_false (by omega)
    clear hno e0
    go_enter Tryd.func41, Tryd.ntmps41
    go_wp2_with fail
    refine hI.mono ?_
    rintro e w1 ⟨rfl, hw1⟩
    replace hw1 := hw1.symm
    subst hw1
    go_wp2_with fail
    go_quiet (fail)
    have hX : RefSendr ((((w.setCell ⟨P, 5, none⟩ (.int .i64 t)).drewN nq).setCell ⟨P, 4, none⟩ (.int .i64 t)).setCell ⟨P, 3, none⟩ (.int .i64 ((went : Int) + 1))) B P bag queue all (.slice (some ⟨g, 0, none⟩) n cap) (went + 1) t t := by
      have := (((HH.out.setNow t).drawn nq).setLast t).setWent (went + 1) (by rw [HNN.out]; omega)
      simpa using this
    have HX : Hid _ := hX
    have HT : Hid (Turns P P w ((((w.setCell ⟨P, 5, none⟩ (.int .i64 t)).drewN nq).setCell ⟨P, 4, none⟩ (.int .i64 t)).setCell ⟨P, 3, none⟩ (.int .i64 ((went : Int) + 1)))) := ((((Turns.refl _ _ _).set (p := ⟨P, 5, none⟩) (.inl rfl) _).trans (Turns.drawn nq)).set (p := ⟨P, 4, none⟩) (.inl rfl) _).set (p := ⟨P, 3, none⟩) (.inl rfl) _
    clear hX
    rename Nat => nq1
    go_wp2_with fail
    go_quiet ((go_at_call 63; refine Calls.quiet_of_same (hO _)))
    go_wp2
    go_ret3
    exact ⟨rfl, HX.out.drawn _, HT.out.trans (Turns.drawn _)⟩
  · have k4 : 0 < went := by omega
    have k5 : decide (t < last + bag) = false := by
      unfold noneB at hno
      rw [decide_eq_true (show 0 < went by omega)] at hno
      simp only [Bool.true_and, Bool.or_eq_false_iff] at hno
      exact hno.2
    clear hno e0
    go_enter Tryd.func41, Tryd.ntmps41
    go_wp2_with fail
    refine hI.mono ?_
    rintro e w1 ⟨rfl, hw1⟩
    replace hw1 := hw1.symm
    subst hw1
    go_wp2_with fail
    go_quiet (fail)
    have hX : RefSendr ((((w.setCell ⟨P, 5, none⟩ (.int .i64 t)).drewN nq).setCell ⟨P, 4, none⟩ (.int .i64 t)).setCell ⟨P, 3, none⟩ (.int .i64 ((went : Int) + 1))) B P bag queue all (.slice (some ⟨g, 0, none⟩) n cap) (went + 1) t t := by
      have := (((HH.out.setNow t).drawn nq).setLast t).setWent (went + 1) (by rw [HNN.out]; omega)
      simpa using this
    have HX : Hid _ := hX
    have HT : Hid (Turns P P w ((((w.setCell ⟨P, 5, none⟩ (.int .i64 t)).drewN nq).setCell ⟨P, 4, none⟩ (.int .i64 t)).setCell ⟨P, 3, none⟩ (.int .i64 ((went : Int) + 1)))) := ((((Turns.refl _ _ _).set (p := ⟨P, 5, none⟩) (.inl rfl) _).trans (Turns.drawn nq)).set (p := ⟨P, 4, none⟩) (.inl rfl) _).set (p := ⟨P, 3, none⟩) (.inl rfl) _
    clear hX
    rename Nat => nq1
    go_wp2_with fail
    go_quiet ((go_at_call 63; refine Calls.quiet_of_same (hO _)))
    go_wp2
    go_ret3
    exact ⟨rfl, HX.out.drawn _, HT.out.trans (Turns.drawn _)⟩
end Go.Proofs.YthcnhfjhppmmdabDoor
