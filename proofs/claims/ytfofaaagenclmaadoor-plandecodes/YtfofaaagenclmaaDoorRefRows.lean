/- Rows that were made, as they lie. -/
import Derived.Test.YtfofaaagenclmaaDoorRefLoops0
namespace Go.Proofs.YtfofaaagenclmaaDoor
open Go.RowKit

/-- A row of n things of so many cells, in memory of one's own from a block on. -/
def RowsOf (size lo : Nat) (w : World) (v : Value) (n : Nat) (l : List Value) : Prop :=
  l.length = n * size ∧ ((v = .slice none 0 0 ∧ n = 0) ∨ ∃ g cap, v = .slice (some ⟨g, 0, none⟩) n cap ∧ lo ≤ g ∧ g < w.heap.size ∧ n ≤ cap ∧ ∀ i x, l[i]? = some x → w.cell? ⟨g, i, none⟩ = some x)
theorem rows_of {w : World} {base : Nat} {e : TypeId} {size : Nat} {v : Value} {n : Nat} {l : List Value} (h : w.ownsRow base e size v n l) : RowsOf size base w v n l := by
  refine ⟨h.1, ?_⟩
  rcases h.2 with h2 | ⟨g, cap, cur, rfl, hg, hh, hle, _⟩
  · exact .inl h2
  · refine .inr ⟨g, cap, rfl, hg, ?_, hle, fun i x hi => ?_⟩
    · rcases Nat.lt_or_ge g w.heap.size with q | q
      · exact q
      · rw [Array.getElem?_eq_none q] at hh; cases hh
    · have := h.cells (g := g) rfl i x hi
      rwa [add_plain, Nat.zero_add] at this
theorem RowsOf.but2 {size lo : Nat} {w w' : World} {v : Value} {n : Nat} {l : List Value} {A B : Nat} (h : RowsOf size lo w v n l) (hb : But2 A B w w') (hA : A < lo) (hB : B < lo) : RowsOf size lo w' v n l := by
  refine ⟨h.1, ?_⟩
  rcases h.2 with h2 | ⟨g, cap, hv, hg, hz, hle, hc⟩
  · exact .inl h2
  · exact .inr ⟨g, cap, hv, hg, Nat.lt_of_lt_of_le hz hb.size, hle, fun i x hi => hb.cell (hc i x hi) (by omega) (by omega)⟩
theorem RowsOf.frm {size lo : Nat} {w w' : World} {v : Value} {n : Nat} {l : List Value} {A B P : Nat} (h : RowsOf size lo w v n l) (hb : Frm A B P w.heap.size w w') (hA : A < lo) (hB : B < lo) (hP : P < lo) : RowsOf size lo w' v n l := by
  refine ⟨h.1, ?_⟩
  rcases h.2 with h2 | ⟨g, cap, hv, hg, hz, hle, hc⟩
  · exact .inl h2
  · exact .inr ⟨g, cap, hv, hg, Nat.lt_of_lt_of_le hz hb.size, hle, fun i x hi => (World.cell?_of_block (w := w) (hb.block g hz (by omega) (by omega) (by omega))).trans (hc i x hi)⟩
theorem RowsOf.set {size lo : Nat} {w : World} {v : Value} {n : Nat} {l : List Value} {X i : Nat} (h : RowsOf size lo w v n l) (hX : X < lo) (x : Value) : RowsOf size lo (w.setCell ⟨X, i, none⟩ x) v n l := by
  refine ⟨h.1, ?_⟩
  rcases h.2 with h2 | ⟨g, cap, hv, hg, hz, hle, hc⟩
  · exact .inl h2
  · exact .inr ⟨g, cap, hv, hg, by simpa [World.setCell] using hz, hle, fun i x hi => set_far (by omega) (hc i x hi)⟩
/-- The blocks of the two results, as they were laid. -/
def RR (r : Nat) (z f : List Value) (u : World) : Prop := PCells r z u ∧ PCells (r + 1) f u
theorem RR.below {r : Nat} {z f : List Value} {u u' : World} (h : RR r z f u) (hb : Below u.heap.size u u') : RR r z f u' := ⟨h.1.below hb, h.2.below hb⟩
theorem RR.but2 {r A B : Nat} {z f : List Value} {u u' : World} (h : RR r z f u) (hb : But2 A B u u') (h1 : r + 1 < A) (h2 : r + 1 < B) : RR r z f u' := ⟨h.1.but2 hb (by omega) (by omega), h.2.but2 hb (by omega) (by omega)⟩
theorem RR.set {r X i : Nat} {z f : List Value} {u : World} (h : RR r z f u) (hX : r + 1 < X) (x : Value) : RR r z f (u.setCell ⟨X, i, none⟩ x) := ⟨h.1.far (by omega) x, h.2.far (by omega) x⟩
theorem PCells.frm {P A B X Bz : Nat} {l : List Value} {u u' : World} (h : PCells P l u) (hb : Frm A B X Bz u u') (hz : P < Bz) (h1 : P ≠ A) (h2 : P ≠ B) (h3 : P ≠ X) : PCells P l u' := fun i v hi =>
  ⟨(World.cell?_of_block (w := u) (hb.block P hz h1 h2 h3)).trans (h i v hi).1, (World.frozen?_of_block (w := u) (hb.block P hz h1 h2 h3)).trans (h i v hi).2⟩
theorem RR.frm {r A B X Bz : Nat} {z f : List Value} {u u' : World} (h : RR r z f u) (hb : Frm A B X Bz u u') (hz : r + 1 < Bz) (h1 : r + 1 < A) (h2 : r + 1 < B) (h3 : r + 1 < X) : RR r z f u' := ⟨h.1.frm hb (by omega) (by omega) (by omega) (by omega), h.2.frm hb (by omega) (by omega) (by omega) (by omega)⟩
/-- The state behind a row's numbers. -/
theorem many_rows (wd : Nat) (most : Int) (s : St) (m : Int) (h : manySt most s ≠ none → m = (nx s).1) : stAt (manySt most s) (wd * m.toNat) = rowsSt wd most s := by
  unfold rowsSt
  by_cases g : most < (nx s).1
  · have e : manySt most s = none := by unfold manySt; rw [if_pos g]
    rw [if_pos g, e, stAt_none]
  · have e : manySt most s = (nx s).2 := by unfold manySt; rw [if_neg g]
    rw [if_neg g, e]
    by_cases q : (nx s).2 = none
    · rw [q, stAt_none, stAt_none]
    · rw [h (by rw [e]; exact q)]
set_option maxHeartbeats 1000000 in
theorem bareR_any (k : Int) (w : World) : Calls Tryd.prog 43 #[.int .i64 k] w fun e w' => e = .returned (.agg #[.int .i64 k, .int .i64 (-1)]) ∧ Below w.heap.size w w' := by
  go_enter Tryd.func43, Tryd.ntmps43
  go_wp2
  refine bodyPost_ret (v := .agg #[.int .i64 k, .int .i64 (-1)]) (by simp [results, Tryd.results43, go_sem]) rfl ⟨rfl, ?_⟩
  repeat (refine Below.alloc ?_ (by simp; try omega) _)
  exact Below.refl _ _
end Go.Proofs.YtfofaaagenclmaaDoor
