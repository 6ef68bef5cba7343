/- TicksLocal's and TicksReal's walks: out of what Local, Real, Right and 'bare' answer. -/
import Derived.Test.YthinkdcekdgdcaaDoorRefReal
import Derived.Test.YthinkdcekdgdcaaDoorReal
import Derived.Test.YthinkdcekdgdcaaDoorMath
import Derived.Test.YthinkdcekdgdcaaDoorBare
import Derived.Deep.RegionHeld3
namespace Go.Proofs.YthinkdcekdgdcaaDoor
open Go.RowKit

def RealSays (f s n d l v : Int) (E : Value) : Prop := ∀ w, Calls Tryd.prog 13 #[.agg #[.int .i64 f, .int .i64 s, .int .i64 n, .int .i64 d], .int .i64 l] w fun e w' => e = .returned (.tuple #[.int .i64 v, E]) ∧ Below w.heap.size w w'
def LocalSays (f s n d l v : Int) (E : Value) : Prop := ∀ w, Calls Tryd.prog 8 #[.agg #[.int .i64 f, .int .i64 s, .int .i64 n, .int .i64 d], .int .i64 l] w fun e w' => e = .returned (.tuple #[.int .i64 v, E]) ∧ Below w.heap.size w w'
def RefRealSays (f s n d l v k : Int) : Prop := ∀ w, Calls Tryd.prog 12 #[.agg #[.int .i64 f, .int .i64 s, .int .i64 n, .int .i64 d], .int .i64 l] w fun e w' => e = .returned (.tuple #[.int .i64 v, .int .i64 k]) ∧ Below w.heap.size w w'
def RefLocalSays (f s n d l v k : Int) : Prop := ∀ w, Calls Tryd.prog 7 #[.agg #[.int .i64 f, .int .i64 s, .int .i64 n, .int .i64 d], .int .i64 l] w fun e w' => e = .returned (.tuple #[.int .i64 v, .int .i64 k]) ∧ Below w.heap.size w w'

theorem Told.drew {w : World} (h : Told w) : Told w.drew := h
theorem undrew {V u : World} (h : Below V.drew.heap.size V.drew u) : Below V.heap.size V u := ⟨h.os, h.tape, h.output, h.size, h.block⟩
theorem next4 {w1 w2 : World} {B : Nat} {a b c d : Value} (hb : Below w1.heap.size w1 w2) (hz : B < w1.heap.size) (c0 : w1.cell? ⟨B, 0, none⟩ = some a) (c1 : w1.cell? ⟨B, 1, none⟩ = some b) (c2 : w1.cell? ⟨B, 2, none⟩ = some c) (c3 : w1.cell? ⟨B, 3, none⟩ = some d) :
    w2.cell? ⟨B, 0, none⟩ = some a ∧ w2.cell? ⟨B, 1, none⟩ = some b ∧ w2.cell? ⟨B, 2, none⟩ = some c ∧ w2.cell? ⟨B, 3, none⟩ = some d ∧ B < w2.heap.size :=
  ⟨(hb.cell hz).trans c0, (hb.cell hz).trans c1, (hb.cell hz).trans c2, (hb.cell hz).trans c3, Nat.lt_of_lt_of_le hz hb.size⟩

set_option maxHeartbeats 1000000 in
theorem real_walk (f s n d l v k : Int) (E : Value) (w : World) (hg : Told w) (h1 : RefRealSays f s n d l v k) (h2 : RealSays f s n d l v E) (h6 : BareSays E k) :
    Calls Tryd.prog 4 #[.agg #[.int .i64 f, .int .i64 s, .int .i64 n, .int .i64 d], .int .i64 l] w fun e w' => e = .returned (.bool true) ∧ Below w.heap.size w w' := by
  go_enter Tryd.func4, Tryd.ntmps4
  go_wp2_with fail
  refine (clock_any _ _ _ _ _).mono ?_
  rintro e w1 ⟨rfl, hb1⟩
  obtain ⟨c0, c1, c2, c3, hz1⟩ := box4 hb1
  go_wp2_with fail
  refine (h1 _).mono ?_
  rintro e w2 ⟨rfl, hb2⟩
  obtain ⟨d0, d1, d2, d3, hz2⟩ := next4 hb2 hz1 c0 c1 c2 c3
  clear c0 c1 c2 c3
  go_wp2_with fail
  refine (h2 _).mono ?_
  rintro e w3 ⟨rfl, hb3⟩
  have hz3 := Nat.lt_of_lt_of_le hz2 hb3.size
  have hT : Told w3 := (((hg.alloc _).below hb1).below hb2).below hb3
  clear d0 d1 d2 d3
  go_wp2_with fail
  refine (h6 _ hT).mono ?_
  rintro e w4 ⟨rfl, hb4⟩
  go_wp2
  go_ret
  exact ⟨rfl, (((below_box hb1).trans (hb2.mono (Nat.le_of_lt hz1))).trans (hb3.mono (Nat.le_of_lt hz2))).trans (hb4.mono (Nat.le_of_lt hz3))⟩

set_option maxHeartbeats 1000000 in
theorem local_walk (f s n d r v k : Int) (E : Value) (w : World) (hg : Told w) (h1 : RefLocalSays f s n d r v k) (h2 : LocalSays f s n d r v E) (h6 : BareSays E k) :
    Calls Tryd.prog 3 #[.agg #[.int .i64 f, .int .i64 s, .int .i64 n, .int .i64 d], .int .i64 r] w fun e w' => e = .returned (.bool true) ∧ Below w.heap.size w w' := by
  go_enter Tryd.func3, Tryd.ntmps3
  go_wp2_with fail
  refine (clock_any _ _ _ _ _).mono ?_
  rintro e w1 ⟨rfl, hb1⟩
  obtain ⟨c0, c1, c2, c3, hz1⟩ := box4 hb1
  go_wp2_with fail
  refine (h1 _).mono ?_
  rintro e w2 ⟨rfl, hb2⟩
  obtain ⟨d0, d1, d2, d3, hz2⟩ := next4 hb2 hz1 c0 c1 c2 c3
  clear c0 c1 c2 c3
  go_wp2_with fail
  refine (h2 _).mono ?_
  rintro e w3 ⟨rfl, hb3⟩
  obtain ⟨a0, a1, a2, a3, hz3⟩ := next4 hb3 hz2 d0 d1 d2 d3
  have hT : Told w3.drew := ((((hg.alloc _).below hb1).below hb2).below hb3).drew
  have hB : Below w.heap.size w w3 := ((below_box hb1).trans (hb2.mono (Nat.le_of_lt hz1))).trans (hb3.mono (Nat.le_of_lt hz2))
  clear d0 d1 d2 d3 h1 h2 hb1 hb2 hb3 hg
  generalize hR : rightB f s n d = ok
  have hRt : ∀ w : World, Calls Tryd.prog 10 #[.agg #[.int .i64 f, .int .i64 s, .int .i64 n, .int .i64 d]] w fun e w' => e = .returned (.bool ok) ∧ Below w.heap.size w w' := fun w => by have := right_any f s n d w; rw [hR] at this; exact this
  have hRr : ∀ w : World, Calls Tryd.prog 11 #[.agg #[.int .i64 f, .int .i64 s, .int .i64 n, .int .i64 d]] w fun e w' => e = .returned (.bool ok) ∧ Below w.heap.size w w' := fun w => by have := refRight_any f s n d w; rw [hR] at this; exact this
  have HRt : Hid (∀ w : World, Calls Tryd.prog 10 #[.agg #[.int .i64 f, .int .i64 s, .int .i64 n, .int .i64 d]] w fun e w' => e = .returned (.bool ok) ∧ Below w.heap.size w w') := hRt
  have HRr : Hid (∀ w : World, Calls Tryd.prog 11 #[.agg #[.int .i64 f, .int .i64 s, .int .i64 n, .int .i64 d]] w fun e w' => e = .returned (.bool ok) ∧ Below w.heap.size w w') := hRr
  clear hRt hRr hR
  go_wp2_with fail
  go_region_held3 (fun u => u.cell? ⟨w.heap.size, 0, none⟩ = some (.int .i64 f) ∧ u.cell? ⟨w.heap.size, 1, none⟩ = some (.int .i64 s) ∧ u.cell? ⟨w.heap.size, 2, none⟩ = some (.int .i64 n) ∧ u.cell? ⟨w.heap.size, 3, none⟩ = some (.int .i64 d)) (go_keep) (first
    | (go_at_call 9; refine (h6 _ ?_).mono ?_; exact hT; rintro e u1 ⟨rfl, hu1⟩; obtain ⟨b0, b1, b2, b3, hz4⟩ := next4 (undrew hu1) hz3 a0 a1 a2 a3)
    | (go_at_call 10; refine (HRt.out _).mono ?_; rintro e u2 ⟨rfl, hu2⟩; obtain ⟨d0, d1, d2, d3, hz5⟩ := next4 hu2 hz4 b0 b1 b2 b3)
    | (go_at_call 6; refine (clock_any _ _ _ _ _).mono ?_; rintro e u3 ⟨rfl, hu3⟩; obtain ⟨e0, e1, e2, e3, hz6⟩ := next4 hu3 hz5 d0 d1 d2 d3)
    | (go_at_call 11; refine (HRr.out _).mono ?_; rintro e u4 ⟨rfl, hu4⟩; obtain ⟨f0, f1, f2, f3, hz7⟩ := next4 hu4 hz6 e0 e1 e2 e3))
  go_wp2
  go_ret
  exact ⟨rfl, hB.trans (((undrew hu1).mono (Nat.le_of_lt hz3)).trans ((hu2.mono (Nat.le_of_lt hz4)).trans ((hu3.mono (Nat.le_of_lt hz5)).trans (hu4.mono (Nat.le_of_lt hz6)))))⟩
end Go.Proofs.YthinkdcekdgdcaaDoor
