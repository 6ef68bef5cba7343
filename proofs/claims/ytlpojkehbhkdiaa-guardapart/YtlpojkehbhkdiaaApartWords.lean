/- GuardApart's arguments in boxes of their own; and what Check lets through. (Made by tools/gen_guardapart.py.) -/
import Derived.Test.YtlpojkehbhkdiaaApartParts
import Derived.Test.YtlpojkehbhkdiaaPlanCheck
import Derived.Test.YtlpojkehbhkdiaaGuardEnd
import Derived.Test.YtlpojkehbhkdiaaTicksLocalG
namespace Go.Proofs.Ytlpojkehbhkdiaa
open Go.RowKit

/-- What lies in the boxes of its arguments. -/
def ABox (b : Nat) (nodes faulty skew jitter drift R frame : Int) (sa la wa : Option Addr) (ns sc nl lc nw wc : Nat) (fa sA na da fb sB nb db : Int) (x0 x1 y0 y1 : Int) (u : World) : Prop :=
  u.cell? ⟨b, 0, none⟩ = some (.int .i64 nodes) ∧ u.cell? ⟨b, 1, none⟩ = some (.int .i64 faulty) ∧ u.cell? ⟨b, 2, none⟩ = some (.int .i64 skew) ∧ u.cell? ⟨b, 3, none⟩ = some (.int .i64 jitter) ∧ u.cell? ⟨b, 4, none⟩ = some (.int .i64 drift) ∧ u.cell? ⟨b, 5, none⟩ = some (.int .i64 R) ∧ u.cell? ⟨b, 6, none⟩ = some (.slice sa ns sc) ∧ u.cell? ⟨b, 7, none⟩ = some (.slice la nl lc) ∧ u.cell? ⟨b, 8, none⟩ = some (.int .i64 frame) ∧ u.cell? ⟨b, 9, none⟩ = some (.slice wa nw wc) ∧ u.cell? ⟨b + 1, 0, none⟩ = some (.int .i64 fa) ∧ u.cell? ⟨b + 1, 1, none⟩ = some (.int .i64 sA) ∧ u.cell? ⟨b + 1, 2, none⟩ = some (.int .i64 na) ∧ u.cell? ⟨b + 1, 3, none⟩ = some (.int .i64 da) ∧ u.cell? ⟨b + 1 + 1, 0, none⟩ = some (.int .i64 fb) ∧ u.cell? ⟨b + 1 + 1, 1, none⟩ = some (.int .i64 sB) ∧ u.cell? ⟨b + 1 + 1, 2, none⟩ = some (.int .i64 nb) ∧ u.cell? ⟨b + 1 + 1, 3, none⟩ = some (.int .i64 db) ∧ u.cell? ⟨b + 1 + 1 + 1, 0, none⟩ = some (.int .i64 x0) ∧ u.cell? ⟨b + 1 + 1 + 1, 1, none⟩ = some (.int .i64 x1) ∧ u.cell? ⟨b + 1 + 1 + 1 + 1, 0, none⟩ = some (.int .i64 y0) ∧ u.cell? ⟨b + 1 + 1 + 1 + 1, 1, none⟩ = some (.int .i64 y1)
theorem ABox.below {b : Nat} {nodes faulty skew jitter drift R frame : Int} {sa la wa : Option Addr} {ns sc nl lc nw wc : Nat} {fa sA na da fb sB nb db x0 x1 y0 y1 : Int} {u v : World} (h : ABox b nodes faulty skew jitter drift R frame sa la wa ns sc nl lc nw wc fa sA na da fb sB nb db x0 x1 y0 y1 u) (hb : Below u.heap.size u v) (hz : b + 4 < u.heap.size) : ABox b nodes faulty skew jitter drift R frame sa la wa ns sc nl lc nw wc fa sA na da fb sB nb db x0 x1 y0 y1 v := by
  obtain ⟨h0, h1, h2, h3, h4, h5, h6, h7, h8, h9, h10, h11, h12, h13, h14, h15, h16, h17, h18, h19, h20, h21⟩ := h
  exact ⟨(hb.cell (p := ⟨b, 0, none⟩) (by show b < u.heap.size; omega)).trans h0, (hb.cell (p := ⟨b, 1, none⟩) (by show b < u.heap.size; omega)).trans h1, (hb.cell (p := ⟨b, 2, none⟩) (by show b < u.heap.size; omega)).trans h2, (hb.cell (p := ⟨b, 3, none⟩) (by show b < u.heap.size; omega)).trans h3, (hb.cell (p := ⟨b, 4, none⟩) (by show b < u.heap.size; omega)).trans h4, (hb.cell (p := ⟨b, 5, none⟩) (by show b < u.heap.size; omega)).trans h5, (hb.cell (p := ⟨b, 6, none⟩) (by show b < u.heap.size; omega)).trans h6, (hb.cell (p := ⟨b, 7, none⟩) (by show b < u.heap.size; omega)).trans h7, (hb.cell (p := ⟨b, 8, none⟩) (by show b < u.heap.size; omega)).trans h8, (hb.cell (p := ⟨b, 9, none⟩) (by show b < u.heap.size; omega)).trans h9, (hb.cell (p := ⟨b + 1, 0, none⟩) (by show b + 1 < u.heap.size; omega)).trans h10, (hb.cell (p := ⟨b + 1, 1, none⟩) (by show b + 1 < u.heap.size; omega)).trans h11, (hb.cell (p := ⟨b + 1, 2, none⟩) (by show b + 1 < u.heap.size; omega)).trans h12, (hb.cell (p := ⟨b + 1, 3, none⟩) (by show b + 1 < u.heap.size; omega)).trans h13, (hb.cell (p := ⟨b + 1 + 1, 0, none⟩) (by show b + 1 + 1 < u.heap.size; omega)).trans h14, (hb.cell (p := ⟨b + 1 + 1, 1, none⟩) (by show b + 1 + 1 < u.heap.size; omega)).trans h15, (hb.cell (p := ⟨b + 1 + 1, 2, none⟩) (by show b + 1 + 1 < u.heap.size; omega)).trans h16, (hb.cell (p := ⟨b + 1 + 1, 3, none⟩) (by show b + 1 + 1 < u.heap.size; omega)).trans h17, (hb.cell (p := ⟨b + 1 + 1 + 1, 0, none⟩) (by show b + 1 + 1 + 1 < u.heap.size; omega)).trans h18, (hb.cell (p := ⟨b + 1 + 1 + 1, 1, none⟩) (by show b + 1 + 1 + 1 < u.heap.size; omega)).trans h19, (hb.cell (p := ⟨b + 1 + 1 + 1 + 1, 0, none⟩) (by show b + 1 + 1 + 1 + 1 < u.heap.size; omega)).trans h20, (hb.cell (p := ⟨b + 1 + 1 + 1 + 1, 1, none⟩) (by show b + 1 + 1 + 1 + 1 < u.heap.size; omega)).trans h21⟩
theorem five_new {w : World} {a b c d e : Obj} : Below w.heap.size w (((((w.alloc a).alloc b).alloc c).alloc d).alloc e) := (three_box.alloc (by simp; omega) _).alloc (by simp; omega) _
set_option maxHeartbeats 1000000 in
theorem aBox_new (nodes faulty skew jitter drift R frame : Int) (sa la wa : Option Addr) (ns sc nl lc nw wc : Nat) (fa sA na da fb sB nb db : Int) (x0 x1 y0 y1 : Int) (w : World) : ABox w.heap.size nodes faulty skew jitter drift R frame sa la wa ns sc nl lc nw wc fa sA na da fb sB nb db x0 x1 y0 y1 (((((w.alloc (.cells #[.int .i64 nodes, .int .i64 faulty, .int .i64 skew, .int .i64 jitter, .int .i64 drift, .int .i64 R, .slice sa ns sc, .slice la nl lc, .int .i64 frame, .slice wa nw wc] 26)).alloc (.cells #[.int .i64 fa, .int .i64 sA, .int .i64 na, .int .i64 da] 39)).alloc (.cells #[.int .i64 fb, .int .i64 sB, .int .i64 nb, .int .i64 db] 39)).alloc (.cells #[.int .i64 x0, .int .i64 x1] 41)).alloc (.cells #[.int .i64 y0, .int .i64 y1] 41)) :=
  ⟨by
    rw [World.cell?_alloc_lt _ _ _ (by simp <;> omega), World.cell?_alloc_lt _ _ _ (by simp <;> omega), World.cell?_alloc_lt _ _ _ (by simp <;> omega), World.cell?_alloc_lt _ _ _ (by simp <;> omega)]
    have := gnew_cell (w := w) (t := 26) (cs := #[.int .i64 nodes, .int .i64 faulty, .int .i64 skew, .int .i64 jitter, .int .i64 drift, .int .i64 R, .slice sa ns sc, .slice la nl lc, .int .i64 frame, .slice wa nw wc]) (i := 0) rfl
    exact this, by
    rw [World.cell?_alloc_lt _ _ _ (by simp <;> omega), World.cell?_alloc_lt _ _ _ (by simp <;> omega), World.cell?_alloc_lt _ _ _ (by simp <;> omega), World.cell?_alloc_lt _ _ _ (by simp <;> omega)]
    have := gnew_cell (w := w) (t := 26) (cs := #[.int .i64 nodes, .int .i64 faulty, .int .i64 skew, .int .i64 jitter, .int .i64 drift, .int .i64 R, .slice sa ns sc, .slice la nl lc, .int .i64 frame, .slice wa nw wc]) (i := 1) rfl
    exact this, by
    rw [World.cell?_alloc_lt _ _ _ (by simp <;> omega), World.cell?_alloc_lt _ _ _ (by simp <;> omega), World.cell?_alloc_lt _ _ _ (by simp <;> omega), World.cell?_alloc_lt _ _ _ (by simp <;> omega)]
    have := gnew_cell (w := w) (t := 26) (cs := #[.int .i64 nodes, .int .i64 faulty, .int .i64 skew, .int .i64 jitter, .int .i64 drift, .int .i64 R, .slice sa ns sc, .slice la nl lc, .int .i64 frame, .slice wa nw wc]) (i := 2) rfl
    exact this, by
    rw [World.cell?_alloc_lt _ _ _ (by simp <;> omega), World.cell?_alloc_lt _ _ _ (by simp <;> omega), World.cell?_alloc_lt _ _ _ (by simp <;> omega), World.cell?_alloc_lt _ _ _ (by simp <;> omega)]
    have := gnew_cell (w := w) (t := 26) (cs := #[.int .i64 nodes, .int .i64 faulty, .int .i64 skew, .int .i64 jitter, .int .i64 drift, .int .i64 R, .slice sa ns sc, .slice la nl lc, .int .i64 frame, .slice wa nw wc]) (i := 3) rfl
    exact this, by
    rw [World.cell?_alloc_lt _ _ _ (by simp <;> omega), World.cell?_alloc_lt _ _ _ (by simp <;> omega), World.cell?_alloc_lt _ _ _ (by simp <;> omega), World.cell?_alloc_lt _ _ _ (by simp <;> omega)]
    have := gnew_cell (w := w) (t := 26) (cs := #[.int .i64 nodes, .int .i64 faulty, .int .i64 skew, .int .i64 jitter, .int .i64 drift, .int .i64 R, .slice sa ns sc, .slice la nl lc, .int .i64 frame, .slice wa nw wc]) (i := 4) rfl
    exact this, by
    rw [World.cell?_alloc_lt _ _ _ (by simp <;> omega), World.cell?_alloc_lt _ _ _ (by simp <;> omega), World.cell?_alloc_lt _ _ _ (by simp <;> omega), World.cell?_alloc_lt _ _ _ (by simp <;> omega)]
    have := gnew_cell (w := w) (t := 26) (cs := #[.int .i64 nodes, .int .i64 faulty, .int .i64 skew, .int .i64 jitter, .int .i64 drift, .int .i64 R, .slice sa ns sc, .slice la nl lc, .int .i64 frame, .slice wa nw wc]) (i := 5) rfl
    exact this, by
    rw [World.cell?_alloc_lt _ _ _ (by simp <;> omega), World.cell?_alloc_lt _ _ _ (by simp <;> omega), World.cell?_alloc_lt _ _ _ (by simp <;> omega), World.cell?_alloc_lt _ _ _ (by simp <;> omega)]
    have := gnew_cell (w := w) (t := 26) (cs := #[.int .i64 nodes, .int .i64 faulty, .int .i64 skew, .int .i64 jitter, .int .i64 drift, .int .i64 R, .slice sa ns sc, .slice la nl lc, .int .i64 frame, .slice wa nw wc]) (i := 6) rfl
    exact this, by
    rw [World.cell?_alloc_lt _ _ _ (by simp <;> omega), World.cell?_alloc_lt _ _ _ (by simp <;> omega), World.cell?_alloc_lt _ _ _ (by simp <;> omega), World.cell?_alloc_lt _ _ _ (by simp <;> omega)]
    have := gnew_cell (w := w) (t := 26) (cs := #[.int .i64 nodes, .int .i64 faulty, .int .i64 skew, .int .i64 jitter, .int .i64 drift, .int .i64 R, .slice sa ns sc, .slice la nl lc, .int .i64 frame, .slice wa nw wc]) (i := 7) rfl
    exact this, by
    rw [World.cell?_alloc_lt _ _ _ (by simp <;> omega), World.cell?_alloc_lt _ _ _ (by simp <;> omega), World.cell?_alloc_lt _ _ _ (by simp <;> omega), World.cell?_alloc_lt _ _ _ (by simp <;> omega)]
    have := gnew_cell (w := w) (t := 26) (cs := #[.int .i64 nodes, .int .i64 faulty, .int .i64 skew, .int .i64 jitter, .int .i64 drift, .int .i64 R, .slice sa ns sc, .slice la nl lc, .int .i64 frame, .slice wa nw wc]) (i := 8) rfl
    exact this, by
    rw [World.cell?_alloc_lt _ _ _ (by simp <;> omega), World.cell?_alloc_lt _ _ _ (by simp <;> omega), World.cell?_alloc_lt _ _ _ (by simp <;> omega), World.cell?_alloc_lt _ _ _ (by simp <;> omega)]
    have := gnew_cell (w := w) (t := 26) (cs := #[.int .i64 nodes, .int .i64 faulty, .int .i64 skew, .int .i64 jitter, .int .i64 drift, .int .i64 R, .slice sa ns sc, .slice la nl lc, .int .i64 frame, .slice wa nw wc]) (i := 9) rfl
    exact this, by
    rw [World.cell?_alloc_lt _ _ _ (by simp <;> omega), World.cell?_alloc_lt _ _ _ (by simp <;> omega), World.cell?_alloc_lt _ _ _ (by simp <;> omega)]
    have := gnew_cell (w := w.alloc (.cells #[.int .i64 nodes, .int .i64 faulty, .int .i64 skew, .int .i64 jitter, .int .i64 drift, .int .i64 R, .slice sa ns sc, .slice la nl lc, .int .i64 frame, .slice wa nw wc] 26)) (t := 39) (cs := #[.int .i64 fa, .int .i64 sA, .int .i64 na, .int .i64 da]) (i := 0) rfl
    rwa [World.size_alloc] at this, by
    rw [World.cell?_alloc_lt _ _ _ (by simp <;> omega), World.cell?_alloc_lt _ _ _ (by simp <;> omega), World.cell?_alloc_lt _ _ _ (by simp <;> omega)]
    have := gnew_cell (w := w.alloc (.cells #[.int .i64 nodes, .int .i64 faulty, .int .i64 skew, .int .i64 jitter, .int .i64 drift, .int .i64 R, .slice sa ns sc, .slice la nl lc, .int .i64 frame, .slice wa nw wc] 26)) (t := 39) (cs := #[.int .i64 fa, .int .i64 sA, .int .i64 na, .int .i64 da]) (i := 1) rfl
    rwa [World.size_alloc] at this, by
    rw [World.cell?_alloc_lt _ _ _ (by simp <;> omega), World.cell?_alloc_lt _ _ _ (by simp <;> omega), World.cell?_alloc_lt _ _ _ (by simp <;> omega)]
    have := gnew_cell (w := w.alloc (.cells #[.int .i64 nodes, .int .i64 faulty, .int .i64 skew, .int .i64 jitter, .int .i64 drift, .int .i64 R, .slice sa ns sc, .slice la nl lc, .int .i64 frame, .slice wa nw wc] 26)) (t := 39) (cs := #[.int .i64 fa, .int .i64 sA, .int .i64 na, .int .i64 da]) (i := 2) rfl
    rwa [World.size_alloc] at this, by
    rw [World.cell?_alloc_lt _ _ _ (by simp <;> omega), World.cell?_alloc_lt _ _ _ (by simp <;> omega), World.cell?_alloc_lt _ _ _ (by simp <;> omega)]
    have := gnew_cell (w := w.alloc (.cells #[.int .i64 nodes, .int .i64 faulty, .int .i64 skew, .int .i64 jitter, .int .i64 drift, .int .i64 R, .slice sa ns sc, .slice la nl lc, .int .i64 frame, .slice wa nw wc] 26)) (t := 39) (cs := #[.int .i64 fa, .int .i64 sA, .int .i64 na, .int .i64 da]) (i := 3) rfl
    rwa [World.size_alloc] at this, by
    rw [World.cell?_alloc_lt _ _ _ (by simp <;> omega), World.cell?_alloc_lt _ _ _ (by simp <;> omega)]
    have := gnew_cell (w := (w.alloc (.cells #[.int .i64 nodes, .int .i64 faulty, .int .i64 skew, .int .i64 jitter, .int .i64 drift, .int .i64 R, .slice sa ns sc, .slice la nl lc, .int .i64 frame, .slice wa nw wc] 26)).alloc (.cells #[.int .i64 fa, .int .i64 sA, .int .i64 na, .int .i64 da] 39)) (t := 39) (cs := #[.int .i64 fb, .int .i64 sB, .int .i64 nb, .int .i64 db]) (i := 0) rfl
    rwa [World.size_alloc, World.size_alloc] at this, by
    rw [World.cell?_alloc_lt _ _ _ (by simp <;> omega), World.cell?_alloc_lt _ _ _ (by simp <;> omega)]
    have := gnew_cell (w := (w.alloc (.cells #[.int .i64 nodes, .int .i64 faulty, .int .i64 skew, .int .i64 jitter, .int .i64 drift, .int .i64 R, .slice sa ns sc, .slice la nl lc, .int .i64 frame, .slice wa nw wc] 26)).alloc (.cells #[.int .i64 fa, .int .i64 sA, .int .i64 na, .int .i64 da] 39)) (t := 39) (cs := #[.int .i64 fb, .int .i64 sB, .int .i64 nb, .int .i64 db]) (i := 1) rfl
    rwa [World.size_alloc, World.size_alloc] at this, by
    rw [World.cell?_alloc_lt _ _ _ (by simp <;> omega), World.cell?_alloc_lt _ _ _ (by simp <;> omega)]
    have := gnew_cell (w := (w.alloc (.cells #[.int .i64 nodes, .int .i64 faulty, .int .i64 skew, .int .i64 jitter, .int .i64 drift, .int .i64 R, .slice sa ns sc, .slice la nl lc, .int .i64 frame, .slice wa nw wc] 26)).alloc (.cells #[.int .i64 fa, .int .i64 sA, .int .i64 na, .int .i64 da] 39)) (t := 39) (cs := #[.int .i64 fb, .int .i64 sB, .int .i64 nb, .int .i64 db]) (i := 2) rfl
    rwa [World.size_alloc, World.size_alloc] at this, by
    rw [World.cell?_alloc_lt _ _ _ (by simp <;> omega), World.cell?_alloc_lt _ _ _ (by simp <;> omega)]
    have := gnew_cell (w := (w.alloc (.cells #[.int .i64 nodes, .int .i64 faulty, .int .i64 skew, .int .i64 jitter, .int .i64 drift, .int .i64 R, .slice sa ns sc, .slice la nl lc, .int .i64 frame, .slice wa nw wc] 26)).alloc (.cells #[.int .i64 fa, .int .i64 sA, .int .i64 na, .int .i64 da] 39)) (t := 39) (cs := #[.int .i64 fb, .int .i64 sB, .int .i64 nb, .int .i64 db]) (i := 3) rfl
    rwa [World.size_alloc, World.size_alloc] at this, by
    rw [World.cell?_alloc_lt _ _ _ (by simp <;> omega)]
    have := gnew_cell (w := ((w.alloc (.cells #[.int .i64 nodes, .int .i64 faulty, .int .i64 skew, .int .i64 jitter, .int .i64 drift, .int .i64 R, .slice sa ns sc, .slice la nl lc, .int .i64 frame, .slice wa nw wc] 26)).alloc (.cells #[.int .i64 fa, .int .i64 sA, .int .i64 na, .int .i64 da] 39)).alloc (.cells #[.int .i64 fb, .int .i64 sB, .int .i64 nb, .int .i64 db] 39)) (t := 41) (cs := #[.int .i64 x0, .int .i64 x1]) (i := 0) rfl
    rwa [World.size_alloc, World.size_alloc, World.size_alloc] at this, by
    rw [World.cell?_alloc_lt _ _ _ (by simp <;> omega)]
    have := gnew_cell (w := ((w.alloc (.cells #[.int .i64 nodes, .int .i64 faulty, .int .i64 skew, .int .i64 jitter, .int .i64 drift, .int .i64 R, .slice sa ns sc, .slice la nl lc, .int .i64 frame, .slice wa nw wc] 26)).alloc (.cells #[.int .i64 fa, .int .i64 sA, .int .i64 na, .int .i64 da] 39)).alloc (.cells #[.int .i64 fb, .int .i64 sB, .int .i64 nb, .int .i64 db] 39)) (t := 41) (cs := #[.int .i64 x0, .int .i64 x1]) (i := 1) rfl
    rwa [World.size_alloc, World.size_alloc, World.size_alloc] at this, by
    have := gnew_cell (w := (((w.alloc (.cells #[.int .i64 nodes, .int .i64 faulty, .int .i64 skew, .int .i64 jitter, .int .i64 drift, .int .i64 R, .slice sa ns sc, .slice la nl lc, .int .i64 frame, .slice wa nw wc] 26)).alloc (.cells #[.int .i64 fa, .int .i64 sA, .int .i64 na, .int .i64 da] 39)).alloc (.cells #[.int .i64 fb, .int .i64 sB, .int .i64 nb, .int .i64 db] 39)).alloc (.cells #[.int .i64 x0, .int .i64 x1] 41)) (t := 41) (cs := #[.int .i64 y0, .int .i64 y1]) (i := 0) rfl
    rwa [World.size_alloc, World.size_alloc, World.size_alloc, World.size_alloc] at this, by
    have := gnew_cell (w := (((w.alloc (.cells #[.int .i64 nodes, .int .i64 faulty, .int .i64 skew, .int .i64 jitter, .int .i64 drift, .int .i64 R, .slice sa ns sc, .slice la nl lc, .int .i64 frame, .slice wa nw wc] 26)).alloc (.cells #[.int .i64 fa, .int .i64 sA, .int .i64 na, .int .i64 da] 39)).alloc (.cells #[.int .i64 fb, .int .i64 sB, .int .i64 nb, .int .i64 db] 39)).alloc (.cells #[.int .i64 x0, .int .i64 x1] 41)) (t := 41) (cs := #[.int .i64 y0, .int .i64 y1]) (i := 1) rfl
    rwa [World.size_alloc, World.size_alloc, World.size_alloc, World.size_alloc] at this⟩

/-- What Check says of a plan, whatever it is: there is always such an answer. -/
theorem check_is (nodes faulty skew jitter drift round frame : Int) (ns nl nw : Nat) (nd fr to lf lt lb lq : Nat → Int) (hit : Nat → Bool) (pw : Int) (wp wf wt : Nat → Int) : ∃ E I, CheckIs nodes faulty skew jitter drift round frame ns nl nw nd fr to lf lt lb lq hit pw wp wf wt E I := by
  by_cases h : headErr nodes faulty skew jitter drift round frame ns nl nw = 0
  · obtain ⟨e1, i1, g1⟩ := FirstBad.any (slotErr nd fr to nodes skew round) ns
    obtain ⟨e2, i2, g2⟩ := FirstBad.any (linkErr lf lt lb lq hit nodes pw) nl
    obtain ⟨e3, i3, g3⟩ := FirstBad.any (winErr wp wf wt frame) nw
    by_cases z1 : e1 = 0
    · by_cases z2 : e2 = 0
      · by_cases z3 : e3 = 0
        · exact ⟨0, -1, .inr ⟨h, e1, i1, e2, i2, e3, i3, g1, g2, g3, fun q => absurd z1 q, fun _ q => absurd z2 q, fun _ _ q => absurd z3 q, fun _ _ _ => ⟨rfl, rfl⟩⟩⟩
        · exact ⟨e3, 2000 + i3, .inr ⟨h, e1, i1, e2, i2, e3, i3, g1, g2, g3, fun q => absurd z1 q, fun _ q => absurd z2 q, fun _ _ _ => ⟨rfl, rfl⟩, fun _ _ q => absurd q z3⟩⟩
      · exact ⟨e2, 1000 + i2, .inr ⟨h, e1, i1, e2, i2, e3, i3, g1, g2, g3, fun q => absurd z1 q, fun _ _ => ⟨rfl, rfl⟩, fun _ q => absurd q z2, fun _ q => absurd q z2⟩⟩
    · exact ⟨e1, i1, .inr ⟨h, e1, i1, e2, i2, e3, i3, g1, g2, g3, fun _ => ⟨rfl, rfl⟩, fun q => absurd q z1, fun q => absurd q z1, fun q => absurd q z1⟩⟩
  · exact ⟨_, -1, .inl ⟨h, rfl, rfl⟩⟩
/-- A plan that may be: its numbers, and its slots. -/
theorem check_ok {nodes faulty skew jitter drift round frame : Int} {ns nl nw : Nat} {nd fr to lf lt lb lq : Nat → Int} {hit : Nat → Bool} {pw : Int} {wp wf wt : Nat → Int} {I : Int} (h : CheckIs nodes faulty skew jitter drift round frame ns nl nw nd fr to lf lt lb lq hit pw wp wf wt 0 I) :
    (1 ≤ nodes ∧ nodes ≤ 16) ∧ (0 ≤ skew ∧ skew ≤ 137438953472) ∧ ∀ j, j < ns → slotErr nd fr to nodes skew round j = 0 := by
  rcases h with ⟨h1, h2, _⟩ | ⟨h0, e1, i1, e2, i2, e3, i3, g1, _, _, g4⟩
  · exact absurd h2.symm h1
  · have z := headErr_zero h0
    refine ⟨⟨z.1, z.2.1⟩, z.2.2.2.2.1, ?_⟩
    rcases g1 with ⟨g, _, _⟩ | ⟨_, _, _, _, hne, _⟩
    · exact g
    · exact absurd (g4.1 hne).1.symm hne
theorem errIs_nil {w : World} {V : Value} {I : Int} (h : ErrIs w V 0 I) : V = .nilIface := by
  rcases h with ⟨h, _⟩ | ⟨_, h, _⟩ | ⟨_, _, h, _⟩
  · exact h
  · exact absurd rfl h
  · exact absurd rfl h
theorem errIs_some {w : World} {V : Value} {E I : Int} (h : ErrIs w V E I) (hE : E ≠ 0) : ∃ t x, V = .iface t x := by
  rcases h with ⟨_, h, _⟩ | ⟨h, _⟩ | ⟨_, h, _⟩
  · exact absurd h hE
  · exact ⟨_, _, h⟩
  · exact ⟨_, _, h⟩
/-- Two clocks show something at a time, and are no further apart there than Skew less 2. -/
def Near (fa sA na da fb sB nb db skew r : Int) : Prop := localE fa sA na da r = 0 ∧ localE fb sB nb db r = 0 ∧ localV fa sA na da r - localV fb sB nb db r ≤ skew - 2 ∧ localV fb sB nb db r - localV fa sA na da r ≤ skew - 2
/-- What a clock shows lies within times. -/
theorem local_in {f s n d r : Int} (h : localE f s n d r = 0) : localV f s n d r = s + (r - f) * n / d ∧ -1099511627776 ≤ localV f s n d r ∧ localV f s n d r ≤ 1099511627776 := by
  obtain ⟨h1, h2, h3, h4⟩ := localE_zero h
  obtain ⟨g1, g2, g3, g4, g5, g6, g7, g8, g9, g10⟩ := right_of h1
  have e : localV f s n d r = s + (r - f) * n / d := by unfold localV; rw [if_pos h]
  rw [e]
  have := quo_bounds (x := r - f) (n := n) (d := d) (M := r - f) (by omega) (Int.le_refl _) g5 g7 g9
  exact ⟨rfl, by omega, h4⟩
end Go.Proofs.Ytlpojkehbhkdiaa
