/- TicksSpans' walk: out of what Add, Meet, Common and 'bare' answer. -/
import Derived.Test.YthinkdcekdgdcaaDoorSpansLaw
import Derived.Deep.RegionHeld3
namespace Go.Proofs.YthinkdcekdgdcaaDoor
open Go.RowKit

theorem Told.drew {w : World} (h : Told w) : Told w.drew := h
theorem undrew {V u : World} (h : Below V.drew.heap.size V.drew u) : Below V.heap.size V u := ⟨h.os, h.tape, h.output, h.size, h.block⟩

/-- The cells that the law reads, carried over a call that makes new memory alone. -/
theorem sixCells {V u : World} (hb : Below V.heap.size V u) {B C : Nat} {a0 a1 a2 a3 a4 a5 : Value} (hBC : B + 1 < C) (hC : C < V.heap.size)
    (c0 : V.cell? ⟨B, 0, none⟩ = some a0) (c1 : V.cell? ⟨B, 1, none⟩ = some a1) (c2 : V.cell? ⟨B + 1, 0, none⟩ = some a2) (c3 : V.cell? ⟨B + 1, 1, none⟩ = some a3) (c4 : V.cell? ⟨C, 0, none⟩ = some a4) (c5 : V.cell? ⟨C, 1, none⟩ = some a5) :
    u.cell? ⟨B, 0, none⟩ = some a0 ∧ u.cell? ⟨B, 1, none⟩ = some a1 ∧ u.cell? ⟨B + 1, 0, none⟩ = some a2 ∧ u.cell? ⟨B + 1, 1, none⟩ = some a3 ∧ u.cell? ⟨C, 0, none⟩ = some a4 ∧ u.cell? ⟨C, 1, none⟩ = some a5 ∧ C < u.heap.size := by
  refine ⟨?_, ?_, ?_, ?_, ?_, ?_, Nat.lt_of_lt_of_le hC hb.size⟩
  · rw [hb.cell (by simp; omega)]; exact c0
  · rw [hb.cell (by simp; omega)]; exact c1
  · rw [hb.cell (by simp; omega)]; exact c2
  · rw [hb.cell (by simp; omega)]; exact c3
  · rw [hb.cell (by simp; omega)]; exact c4
  · rw [hb.cell (by simp; omega)]; exact c5

set_option maxHeartbeats 400000 in
theorem spans_walk (p q r s v k x y : Int) (E : Value) (ok : Bool) (w : World) (hg : Told w)
    (h1 : RefAddSays p s v k) (h2 : AddSays p s v E) (h3 : RefCommonSays p q r s x y ok) (h4 : MeetSays p q r s ok) (h5 : CommonSays p q r s x y) (h6 : BareSays E k) :
    Calls Tryd.prog 5 #[.agg #[.int .i64 p, .int .i64 q], .agg #[.int .i64 r, .int .i64 s]] w fun e w' => e = .returned (.bool true) ∧ Below w.heap.size w w' := by
  go_enter Tryd.func5, Tryd.ntmps5
  go_wp2_with fail
  refine (h1 _).mono ?_
  rintro e w1 ⟨rfl, hb1⟩
  have hz1 : w.heap.size + 1 < w1.heap.size := by have := hb1.size; simp at this; omega
  have a0 : w1.cell? ⟨w.heap.size, 0, none⟩ = some (.int .i64 p) := by rw [hb1.cell (by simp; omega)]; simp
  have a1 : w1.cell? ⟨w.heap.size, 1, none⟩ = some (.int .i64 q) := by rw [hb1.cell (by simp; omega)]; simp
  have a2 : w1.cell? ⟨w.heap.size + 1, 0, none⟩ = some (.int .i64 r) := by rw [hb1.cell (by simp)]; simp
  have a3 : w1.cell? ⟨w.heap.size + 1, 1, none⟩ = some (.int .i64 s) := by rw [hb1.cell (by simp)]; simp
  go_wp2_with fail
  refine (h2 _).mono ?_
  rintro e w2 ⟨rfl, hb2⟩
  have hz2 : w.heap.size + 1 < w2.heap.size := by have := hb2.size; omega
  replace a0 : w2.cell? ⟨w.heap.size, 0, none⟩ = some (.int .i64 p) := by rw [hb2.cell (by simp; omega)]; exact a0
  replace a1 : w2.cell? ⟨w.heap.size, 1, none⟩ = some (.int .i64 q) := by rw [hb2.cell (by simp; omega)]; exact a1
  replace a2 : w2.cell? ⟨w.heap.size + 1, 0, none⟩ = some (.int .i64 r) := by rw [hb2.cell (by simp; omega)]; exact a2
  replace a3 : w2.cell? ⟨w.heap.size + 1, 1, none⟩ = some (.int .i64 s) := by rw [hb2.cell (by simp; omega)]; exact a3
  go_wp2_with fail
  refine (h3 _).mono ?_
  rintro e w3 ⟨rfl, hb3⟩
  have hz3 : w.heap.size + 1 < w3.heap.size := by have := hb3.size; omega
  replace a0 : w3.cell? ⟨w.heap.size, 0, none⟩ = some (.int .i64 p) := by rw [hb3.cell (by simp; omega)]; exact a0
  replace a1 : w3.cell? ⟨w.heap.size, 1, none⟩ = some (.int .i64 q) := by rw [hb3.cell (by simp; omega)]; exact a1
  replace a2 : w3.cell? ⟨w.heap.size + 1, 0, none⟩ = some (.int .i64 r) := by rw [hb3.cell (by simp; omega)]; exact a2
  replace a3 : w3.cell? ⟨w.heap.size + 1, 1, none⟩ = some (.int .i64 s) := by rw [hb3.cell (by simp; omega)]; exact a3
  go_wp2_with fail
  have hT3 : Told w3 := (((hg.alloc _).alloc _).below hb1 |>.below hb2).below hb3
  obtain ⟨V, hV⟩ : ∃ V, V = w3.alloc (Obj.cells #[Value.int IntKind.i64 x, Value.int IntKind.i64 y] 37) := ⟨_, rfl⟩
  rw [← hV]
  have hT : Told V := by rw [hV]; exact hT3.alloc _
  have hC : w3.heap.size < V.heap.size := by rw [hV]; simp
  have hB : Below w.heap.size w V := by
    rw [hV]
    refine Below.alloc ?_ (by omega) _
    exact ((((Below.refl _ _).alloc (Nat.le_refl _) _).alloc (by simp) _).trans ((hb1.mono (by simp; omega)).trans ((hb2.mono (by omega)).trans (hb3.mono (by omega)))))
  replace a0 : V.cell? ⟨w.heap.size, 0, none⟩ = some (.int .i64 p) := by rw [hV, World.cell?_alloc_lt _ _ _ (by simp; omega)]; exact a0
  replace a1 : V.cell? ⟨w.heap.size, 1, none⟩ = some (.int .i64 q) := by rw [hV, World.cell?_alloc_lt _ _ _ (by simp; omega)]; exact a1
  replace a2 : V.cell? ⟨w.heap.size + 1, 0, none⟩ = some (.int .i64 r) := by rw [hV, World.cell?_alloc_lt _ _ _ (by simp; omega)]; exact a2
  replace a3 : V.cell? ⟨w.heap.size + 1, 1, none⟩ = some (.int .i64 s) := by rw [hV, World.cell?_alloc_lt _ _ _ (by simp; omega)]; exact a3
  have a4 : V.cell? ⟨w3.heap.size, 0, none⟩ = some (.int .i64 x) := by rw [hV]; simp
  have a5 : V.cell? ⟨w3.heap.size, 1, none⟩ = some (.int .i64 y) := by rw [hV]; simp
  clear hV hT3 hb1 hb2 hb3 hg h1 h2 h3
  have hTd := hT.drew
  go_region_held3 (fun u => u.cell? ⟨w.heap.size, 0, none⟩ = some (.int .i64 p) ∧ u.cell? ⟨w.heap.size, 1, none⟩ = some (.int .i64 q) ∧ u.cell? ⟨w.heap.size + 1, 0, none⟩ = some (.int .i64 r) ∧ u.cell? ⟨w.heap.size + 1, 1, none⟩ = some (.int .i64 s) ∧ u.cell? ⟨w3.heap.size, 0, none⟩ = some (.int .i64 x) ∧ u.cell? ⟨w3.heap.size, 1, none⟩ = some (.int .i64 y)) (go_keep) (first
    | (go_at_call 9; refine (h6 _ ?_).mono ?_; exact hTd; rintro e u1 ⟨rfl, hu1⟩; obtain ⟨b0, b1, b2, b3, b4, b5, hC1⟩ := sixCells (undrew hu1) hz3 hC a0 a1 a2 a3 a4 a5)
    | (go_at_call 17; refine (h4 _).mono ?_; rintro e u2 ⟨rfl, hu2⟩; obtain ⟨d0, d1, d2, d3, d4, d5, hC2⟩ := sixCells hu2 hz3 hC1 b0 b1 b2 b3 b4 b5)
    | (go_at_call 18; refine (h5 _).mono ?_; rintro e u3 ⟨rfl, hu3⟩; obtain ⟨e0, e1, e2, e3, e4, e5, hC3⟩ := sixCells hu3 hz3 hC2 d0 d1 d2 d3 d4 d5))
  go_wp2
  go_ret
  exact ⟨rfl, hB.trans (((undrew hu1).mono (by omega)).trans ((hu2.mono (by omega)).trans (hu3.mono (by omega))))⟩

theorem spans_any (p q r s : Int) (w : World) (hg : Told w) :
    Calls Tryd.prog 5 #[.agg #[.int .i64 p, .int .i64 q], .agg #[.int .i64 r, .int .i64 s]] w fun e w' => e = .returned (.bool true) ∧ Below w.heap.size w w' := by
  obtain ⟨x, y, ok, h3, h4, h5⟩ := common_cases p q r s
  rcases add_cases p s with ⟨v, h1, h2⟩ | ⟨v, h1, h2⟩
  · exact spans_walk p q r s v 2 x y _ ok w hg h1 h2 h3 h4 h5 (bare_e 2)
  · exact spans_walk p q r s v 0 x y _ ok w hg h1 h2 h3 h4 h5 bare_nil
end Go.Proofs.YthinkdcekdgdcaaDoor
