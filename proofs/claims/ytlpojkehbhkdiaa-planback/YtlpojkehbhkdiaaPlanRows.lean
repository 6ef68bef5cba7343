/- The program's rows: how many, and row by row (package plan's generic function, at its three types). (Made by tools/gen_planrows.py.) -/
import Derived.Test.YtlpojkehbhkdiaaPlanNumber
import Derived.Test.YtlpojkehbhkdiaaOpenRows
namespace Go.Proofs.Ytlpojkehbhkdiaa
open Go.RowKit

/-- The state behind i numbers, and the i-th number. -/
def stAt : St → Nat → St
  | st, 0 => st
  | st, i + 1 => (nx (stAt st i)).2
def nth (st : St) (i : Nat) : Int := (nx (stAt st i)).1
theorem stAt_add (st : St) (i j : Nat) : stAt (stAt st i) j = stAt st (i + j) := by
  induction j with
  | zero => rfl
  | succ j ih => show (nx (stAt (stAt st i) j)).2 = (nx (stAt st (i + j))).2; rw [ih]
theorem nth_add (st : St) (i j : Nat) : nth (stAt st i) j = nth st (i + j) := by unfold nth; rw [stAt_add]

theorem but_new {w w' : World} {R : Nat} (h : w.grownBy w' (some R)) {X i : Nat} {v : Value} (hc : w.cell? ⟨X, i, none⟩ = some v) (hX : X ≠ R) : w'.cell? ⟨X, i, none⟩ = some v := grown_cell h hc (by simpa using Ne.symm hX)
theorem but_frozen {w w' : World} {R : Nat} (h : w.grownBy w' (some R)) {X i : Nat} {v : Value} (hc : w.cell? ⟨X, i, none⟩ = some v) (hf : w.frozen? ⟨X, i, none⟩ = false) (hX : X ≠ R) : w'.frozen? ⟨X, i, none⟩ = false :=
  (World.frozen?_of_block (w := w) (h.block X (lt_of_cell hc) (by simpa using hX))).trans hf
theorem undrewG {V u : World} {row : Option Nat} (h : V.drew.grownBy u row) : V.grownBy u row := ⟨h.os, h.tape, h.output, h.size, h.block⟩
theorem RS.lt {w : World} {R : Nat} {st : St} (h : RS w R st) : R < w.heap.size := by
  obtain ⟨_, h⟩ := h
  cases st with
  | none => exact lt_of_cell h.1
  | some r => exact lt_of_cell h.2.1
/-- What a reader holds hangs on blocks up to its own. -/
theorem RS.kept {w w' : World} {R : Nat} {st : St} (h : RS w R st) (hk : ∀ k, k ≤ R → w'.heap[k]? = w.heap[k]?) : RS w' R st := by
  have hc : ∀ {a : Addr} {v : Value}, a.block ≤ R → w.cell? a = some v → w'.cell? a = some v := fun {a v} q e => (World.cell?_of_block (w := w) (hk a.block q)).trans e
  have hf : ∀ i, w'.frozen? ⟨R, i, none⟩ = w.frozen? ⟨R, i, none⟩ := fun i => World.frozen?_of_block (w := w) (hk R (Nat.le_refl _))
  obtain ⟨⟨f0, f1⟩, h⟩ := h
  refine ⟨⟨(hf 0).trans f0, (hf 1).trans f1⟩, ?_⟩
  cases st with
  | none => exact ⟨hc (Nat.le_refl _) h.1, hc (Nat.le_refl _) h.2⟩
  | some r =>
    obtain ⟨⟨a, cap, c0, hcap, hrow⟩, c1, hby, hl⟩ := h
    refine ⟨⟨a, cap, hc (Nat.le_refl _) c0, hcap, fun h0 => ?_⟩, hc (Nat.le_refl _) c1, hby, hl⟩
    obtain ⟨b, off, e, hb, hcc⟩ := hrow h0
    exact ⟨b, off, e, hb, fun j hj => hc (Nat.le_of_lt hb) (hcc j hj)⟩
theorem RS.alloc {w : World} {R : Nat} {st : St} (h : RS w R st) (o : Obj) : RS (w.alloc o) R st := by
  have hR := h.lt
  exact h.kept (fun k hk => by show (w.heap.push o)[k]? = _; rw [Array.getElem?_push_lt (by omega)]; simp)
theorem RS.setX {w : World} {R : Nat} {st : St} (h : RS w R st) {X i : Nat} (hX : R < X) (v : Value) : RS (w.setCell ⟨X, i, none⟩ v) R st := h.kept (fun k hk => Below.heap_setCell _ _ _ k (by show k ≠ X; omega))
theorem set_same {w : World} {b i : Nat} {v u : Value} (h : w.cell? ⟨b, i, none⟩ = some u) : (w.setCell ⟨b, i, none⟩ v).cell? ⟨b, i, none⟩ = some v := World.cell?_setCell_same _ _ _ h
theorem set_other {w : World} {b i j : Nat} {v x : Value} (hij : i ≠ j) (h : w.cell? ⟨b, j, none⟩ = some x) : (w.setCell ⟨b, i, none⟩ v).cell? ⟨b, j, none⟩ = some x := (World.cell?_setCell_other _ _ _ _ (by intro e; cases e; exact hij rfl)).trans h
theorem set_far {w : World} {b c i j : Nat} {v x : Value} (hbc : b ≠ c) (h : w.cell? ⟨c, j, none⟩ = some x) : (w.setCell ⟨b, i, none⟩ v).cell? ⟨c, j, none⟩ = some x := (World.cell?_setCell_other _ _ _ _ (by intro e; cases e; exact hbc rfl)).trans h
theorem but_setX {w u : World} {R : Nat} (h : w.grownBy u (some R)) {X i : Nat} (hX : w.heap.size ≤ X) (v : Value) : w.grownBy (u.setCell ⟨X, i, none⟩ v) (some R) :=
  ⟨h.os, h.tape, h.output, by simpa [World.setCell] using h.size, fun k hk hne => (Below.heap_setCell _ _ _ k (by show k ≠ X; omega)).trans (h.block k hk hne)⟩

set_option maxRecDepth 100000 in
set_option maxHeartbeats 4000000 in
theorem row_slot (B R : Nat) (st : St) (w : World) (hR : RS w R st) (hB : w.cell? ⟨B, 0, none⟩ = some (.pointer (some ⟨R, 0, none⟩))) (hne : B ≠ R) :
    Calls Try.prog 26 #[.pointer (some ⟨B, 0, none⟩)] w fun ev w' => ev = .returned (.agg #[.int .i64 (nth st 0), .int .i64 (nth st 1), .int .i64 (nth st 2)]) ∧ RS w' R (stAt st 3) ∧ w.grownBy w' (some R) := by
  have hRl := hR.lt
  have hBl : B < w.heap.size := lt_of_cell hB
  have hX : w.heap.size ≠ R := by omega
  have hnB := World.new_ne w ⟨B, 0, none⟩ hB
  obtain ⟨V, hVe⟩ : ∃ V, V = w.alloc (.cells #[.int .i64 0, .int .i64 0, .int .i64 0] 53) := ⟨_, rfl⟩
  have hRV : RS V R st := by rw [hVe]; exact hR.alloc _
  have hBV : V.cell? ⟨B, 0, none⟩ = some (.pointer (some ⟨R, 0, none⟩)) := by rw [hVe, World.cell?_alloc_lt _ _ _ hBl]; exact hB
  have v0 : V.cell? ⟨w.heap.size, 0, none⟩ = some (.int .i64 0) := by rw [hVe]; simp
  have z0 : V.frozen? ⟨w.heap.size, 0, none⟩ = false := by rw [hVe]; simp
  have v1 : V.cell? ⟨w.heap.size, 1, none⟩ = some (.int .i64 0) := by rw [hVe]; simp
  have z1 : V.frozen? ⟨w.heap.size, 1, none⟩ = false := by rw [hVe]; simp
  have v2 : V.cell? ⟨w.heap.size, 2, none⟩ = some (.int .i64 0) := by rw [hVe]; simp
  have z2 : V.frozen? ⟨w.heap.size, 2, none⟩ = false := by rw [hVe]; simp
  have hV0 : w.grownBy V (some R) := by rw [hVe]; exact World.grownBy_alloc w _ (some R)
  go_enter Try.func26, Try.ntmps26
  go_wp2_with fail
  rw [← hVe]
  clear hVe
  have hRD : RS V.drew R _ := hRV
  go_region_held3 (fun u => u.cell? ⟨B, 0, none⟩ = some (.pointer (some ⟨R, 0, none⟩))) (go_keep) (first
    | (go_at_call 24; (first | refine (number_st R _ _ hRV).mono ?_ | refine (number_st R _ _ hRD).mono ?_); rintro e u ⟨rfl, hRV, hg⟩; (first | replace hg := undrewG hg | skip); replace hV0 := but_trans hV0 hg; replace z0 := but_frozen hg v0 z0 hX; replace v0 := but_new hg v0 hX; replace z1 := but_frozen hg v1 z1 hX; replace v1 := but_new hg v1 hX; replace z2 := but_frozen hg v2 z2 hX; replace v2 := but_new hg v2 hX; replace hBV := but_new hg hBV hne))
  go_wp2
  replace v1 := set_other (i := 0) (v := (.int .i64 (nx st).1)) (by decide) v1
  replace v2 := set_other (i := 0) (v := (.int .i64 (nx st).1)) (by decide) v2
  replace v0 := set_same (v := (.int .i64 (nx st).1)) v0
  replace hRV := hRV.setX (i := 0) (show R < w.heap.size by omega) (.int .i64 (nx st).1)
  replace hV0 := but_setX (X := w.heap.size) (i := 0) hV0 (Nat.le_refl _) (.int .i64 (nx st).1)
  replace hBV := set_far (b := w.heap.size) (i := 0) (v := (.int .i64 (nx st).1)) hnB hBV
  replace v0 := set_other (i := 1) (v := (.int .i64 (nx (nx st).2).1)) (by decide) v0
  replace v2 := set_other (i := 1) (v := (.int .i64 (nx (nx st).2).1)) (by decide) v2
  replace v1 := set_same (v := (.int .i64 (nx (nx st).2).1)) v1
  replace hRV := hRV.setX (i := 1) (show R < w.heap.size by omega) (.int .i64 (nx (nx st).2).1)
  replace hV0 := but_setX (X := w.heap.size) (i := 1) hV0 (Nat.le_refl _) (.int .i64 (nx (nx st).2).1)
  replace hBV := set_far (b := w.heap.size) (i := 1) (v := (.int .i64 (nx (nx st).2).1)) hnB hBV
  replace v0 := set_other (i := 2) (v := (.int .i64 (nx (nx (nx st).2).2).1)) (by decide) v0
  replace v1 := set_other (i := 2) (v := (.int .i64 (nx (nx (nx st).2).2).1)) (by decide) v1
  replace v2 := set_same (v := (.int .i64 (nx (nx (nx st).2).2).1)) v2
  replace hRV := hRV.setX (i := 2) (show R < w.heap.size by omega) (.int .i64 (nx (nx (nx st).2).2).1)
  replace hV0 := but_setX (X := w.heap.size) (i := 2) hV0 (Nat.le_refl _) (.int .i64 (nx (nx (nx st).2).2).1)
  replace hBV := set_far (b := w.heap.size) (i := 2) (v := (.int .i64 (nx (nx (nx st).2).2).1)) hnB hBV
  replace v1 := set_other (i := 0) (v := (.int .i64 (nx st).1)) (by decide) v1
  replace v2 := set_other (i := 0) (v := (.int .i64 (nx st).1)) (by decide) v2
  replace v0 := set_same (v := (.int .i64 (nx st).1)) v0
  replace hRV := hRV.setX (i := 0) (show R < w.heap.size by omega) (.int .i64 (nx st).1)
  replace hV0 := but_setX (X := w.heap.size) (i := 0) hV0 (Nat.le_refl _) (.int .i64 (nx st).1)
  replace hBV := set_far (b := w.heap.size) (i := 0) (v := (.int .i64 (nx st).1)) hnB hBV
  replace v0 := set_other (i := 1) (v := (.int .i64 (nx (nx st).2).1)) (by decide) v0
  replace v2 := set_other (i := 1) (v := (.int .i64 (nx (nx st).2).1)) (by decide) v2
  replace v1 := set_same (v := (.int .i64 (nx (nx st).2).1)) v1
  replace hRV := hRV.setX (i := 1) (show R < w.heap.size by omega) (.int .i64 (nx (nx st).2).1)
  replace hV0 := but_setX (X := w.heap.size) (i := 1) hV0 (Nat.le_refl _) (.int .i64 (nx (nx st).2).1)
  replace hBV := set_far (b := w.heap.size) (i := 1) (v := (.int .i64 (nx (nx st).2).1)) hnB hBV
  replace v0 := set_other (i := 2) (v := (.int .i64 (nx (nx (nx st).2).2).1)) (by decide) v0
  replace v1 := set_other (i := 2) (v := (.int .i64 (nx (nx (nx st).2).2).1)) (by decide) v1
  replace v2 := set_same (v := (.int .i64 (nx (nx (nx st).2).2).1)) v2
  replace hRV := hRV.setX (i := 2) (show R < w.heap.size by omega) (.int .i64 (nx (nx (nx st).2).2).1)
  replace hV0 := but_setX (X := w.heap.size) (i := 2) hV0 (Nat.le_refl _) (.int .i64 (nx (nx (nx st).2).2).1)
  replace hBV := set_far (b := w.heap.size) (i := 2) (v := (.int .i64 (nx (nx (nx st).2).2).1)) hnB hBV
  refine bodyPost_ret (v := .agg #[.int .i64 (nth st 0), .int .i64 (nth st 1), .int .i64 (nth st 2)]) (by simp [results, Try.results26, go_sem, v0, v1, v2, nth, stAt]) rfl ⟨rfl, hRV, hV0⟩

set_option maxRecDepth 100000 in
set_option maxHeartbeats 4000000 in
theorem row_link (B R : Nat) (st : St) (w : World) (hR : RS w R st) (hB : w.cell? ⟨B, 0, none⟩ = some (.pointer (some ⟨R, 0, none⟩))) (hne : B ≠ R) :
    Calls Try.prog 28 #[.pointer (some ⟨B, 0, none⟩)] w fun ev w' => ev = .returned (.agg #[.int .i64 (nth st 0), .int .i64 (nth st 1), .int .i64 (nth st 2), .int .i64 (nth st 3)]) ∧ RS w' R (stAt st 4) ∧ w.grownBy w' (some R) := by
  have hRl := hR.lt
  have hBl : B < w.heap.size := lt_of_cell hB
  have hX : w.heap.size ≠ R := by omega
  have hnB := World.new_ne w ⟨B, 0, none⟩ hB
  obtain ⟨V, hVe⟩ : ∃ V, V = w.alloc (.cells #[.int .i64 0, .int .i64 0, .int .i64 0, .int .i64 0] 56) := ⟨_, rfl⟩
  have hRV : RS V R st := by rw [hVe]; exact hR.alloc _
  have hBV : V.cell? ⟨B, 0, none⟩ = some (.pointer (some ⟨R, 0, none⟩)) := by rw [hVe, World.cell?_alloc_lt _ _ _ hBl]; exact hB
  have v0 : V.cell? ⟨w.heap.size, 0, none⟩ = some (.int .i64 0) := by rw [hVe]; simp
  have z0 : V.frozen? ⟨w.heap.size, 0, none⟩ = false := by rw [hVe]; simp
  have v1 : V.cell? ⟨w.heap.size, 1, none⟩ = some (.int .i64 0) := by rw [hVe]; simp
  have z1 : V.frozen? ⟨w.heap.size, 1, none⟩ = false := by rw [hVe]; simp
  have v2 : V.cell? ⟨w.heap.size, 2, none⟩ = some (.int .i64 0) := by rw [hVe]; simp
  have z2 : V.frozen? ⟨w.heap.size, 2, none⟩ = false := by rw [hVe]; simp
  have v3 : V.cell? ⟨w.heap.size, 3, none⟩ = some (.int .i64 0) := by rw [hVe]; simp
  have z3 : V.frozen? ⟨w.heap.size, 3, none⟩ = false := by rw [hVe]; simp
  have hV0 : w.grownBy V (some R) := by rw [hVe]; exact World.grownBy_alloc w _ (some R)
  go_enter Try.func28, Try.ntmps28
  go_wp2_with fail
  rw [← hVe]
  clear hVe
  have hRD : RS V.drew R _ := hRV
  go_region_held3 (fun u => u.cell? ⟨B, 0, none⟩ = some (.pointer (some ⟨R, 0, none⟩))) (go_keep) (first
    | (go_at_call 24; (first | refine (number_st R _ _ hRV).mono ?_ | refine (number_st R _ _ hRD).mono ?_); rintro e u ⟨rfl, hRV, hg⟩; (first | replace hg := undrewG hg | skip); replace hV0 := but_trans hV0 hg; replace z0 := but_frozen hg v0 z0 hX; replace v0 := but_new hg v0 hX; replace z1 := but_frozen hg v1 z1 hX; replace v1 := but_new hg v1 hX; replace z2 := but_frozen hg v2 z2 hX; replace v2 := but_new hg v2 hX; replace z3 := but_frozen hg v3 z3 hX; replace v3 := but_new hg v3 hX; replace hBV := but_new hg hBV hne))
  go_wp2_with fail
  replace v1 := set_other (i := 0) (v := (.int .i64 (nx st).1)) (by decide) v1
  replace v2 := set_other (i := 0) (v := (.int .i64 (nx st).1)) (by decide) v2
  replace v3 := set_other (i := 0) (v := (.int .i64 (nx st).1)) (by decide) v3
  replace v0 := set_same (v := (.int .i64 (nx st).1)) v0
  replace hRV := hRV.setX (i := 0) (show R < w.heap.size by omega) (.int .i64 (nx st).1)
  replace hV0 := but_setX (X := w.heap.size) (i := 0) hV0 (Nat.le_refl _) (.int .i64 (nx st).1)
  replace hBV := set_far (b := w.heap.size) (i := 0) (v := (.int .i64 (nx st).1)) hnB hBV
  replace v0 := set_other (i := 1) (v := (.int .i64 (nx (nx st).2).1)) (by decide) v0
  replace v2 := set_other (i := 1) (v := (.int .i64 (nx (nx st).2).1)) (by decide) v2
  replace v3 := set_other (i := 1) (v := (.int .i64 (nx (nx st).2).1)) (by decide) v3
  replace v1 := set_same (v := (.int .i64 (nx (nx st).2).1)) v1
  replace hRV := hRV.setX (i := 1) (show R < w.heap.size by omega) (.int .i64 (nx (nx st).2).1)
  replace hV0 := but_setX (X := w.heap.size) (i := 1) hV0 (Nat.le_refl _) (.int .i64 (nx (nx st).2).1)
  replace hBV := set_far (b := w.heap.size) (i := 1) (v := (.int .i64 (nx (nx st).2).1)) hnB hBV
  replace z0 : World.frozen? ((u.setCell ⟨w.heap.size, 0, none⟩ (.int .i64 (nx st).1)).setCell ⟨w.heap.size, 1, none⟩ (.int .i64 (nx (nx st).2).1)) ⟨w.heap.size, 0, none⟩ = false := by simp [z0]
  replace z1 : World.frozen? ((u.setCell ⟨w.heap.size, 0, none⟩ (.int .i64 (nx st).1)).setCell ⟨w.heap.size, 1, none⟩ (.int .i64 (nx (nx st).2).1)) ⟨w.heap.size, 1, none⟩ = false := by simp [z1]
  replace z2 : World.frozen? ((u.setCell ⟨w.heap.size, 0, none⟩ (.int .i64 (nx st).1)).setCell ⟨w.heap.size, 1, none⟩ (.int .i64 (nx (nx st).2).1)) ⟨w.heap.size, 2, none⟩ = false := by simp [z2]
  replace z3 : World.frozen? ((u.setCell ⟨w.heap.size, 0, none⟩ (.int .i64 (nx st).1)).setCell ⟨w.heap.size, 1, none⟩ (.int .i64 (nx (nx st).2).1)) ⟨w.heap.size, 3, none⟩ = false := by simp [z3]
  clear hRD
  generalize ((u.setCell ⟨w.heap.size, 0, none⟩ (.int .i64 (nx st).1)).setCell ⟨w.heap.size, 1, none⟩ (.int .i64 (nx (nx st).2).1)) = V1 at hRV hV0 hBV v0 z0 v1 z1 v2 z2 v3 z3 ⊢
  have hRD : RS V1.drew R _ := hRV
  go_region_held3 (fun u => u.cell? ⟨B, 0, none⟩ = some (.pointer (some ⟨R, 0, none⟩))) (go_keep) (first
    | (go_at_call 24; (first | refine (number_st R _ _ hRV).mono ?_ | refine (number_st R _ _ hRD).mono ?_); rintro e u ⟨rfl, hRV, hg⟩; (first | replace hg := undrewG hg | skip); replace hV0 := but_trans hV0 hg; replace z0 := but_frozen hg v0 z0 hX; replace v0 := but_new hg v0 hX; replace z1 := but_frozen hg v1 z1 hX; replace v1 := but_new hg v1 hX; replace z2 := but_frozen hg v2 z2 hX; replace v2 := but_new hg v2 hX; replace z3 := but_frozen hg v3 z3 hX; replace v3 := but_new hg v3 hX; replace hBV := but_new hg hBV hne))
  go_wp2
  replace v0 := set_other (i := 2) (v := (.int .i64 (nx (nx (nx st).2).2).1)) (by decide) v0
  replace v1 := set_other (i := 2) (v := (.int .i64 (nx (nx (nx st).2).2).1)) (by decide) v1
  replace v3 := set_other (i := 2) (v := (.int .i64 (nx (nx (nx st).2).2).1)) (by decide) v3
  replace v2 := set_same (v := (.int .i64 (nx (nx (nx st).2).2).1)) v2
  replace hRV := hRV.setX (i := 2) (show R < w.heap.size by omega) (.int .i64 (nx (nx (nx st).2).2).1)
  replace hV0 := but_setX (X := w.heap.size) (i := 2) hV0 (Nat.le_refl _) (.int .i64 (nx (nx (nx st).2).2).1)
  replace hBV := set_far (b := w.heap.size) (i := 2) (v := (.int .i64 (nx (nx (nx st).2).2).1)) hnB hBV
  replace v0 := set_other (i := 3) (v := (.int .i64 (nx (nx (nx (nx st).2).2).2).1)) (by decide) v0
  replace v1 := set_other (i := 3) (v := (.int .i64 (nx (nx (nx (nx st).2).2).2).1)) (by decide) v1
  replace v2 := set_other (i := 3) (v := (.int .i64 (nx (nx (nx (nx st).2).2).2).1)) (by decide) v2
  replace v3 := set_same (v := (.int .i64 (nx (nx (nx (nx st).2).2).2).1)) v3
  replace hRV := hRV.setX (i := 3) (show R < w.heap.size by omega) (.int .i64 (nx (nx (nx (nx st).2).2).2).1)
  replace hV0 := but_setX (X := w.heap.size) (i := 3) hV0 (Nat.le_refl _) (.int .i64 (nx (nx (nx (nx st).2).2).2).1)
  replace hBV := set_far (b := w.heap.size) (i := 3) (v := (.int .i64 (nx (nx (nx (nx st).2).2).2).1)) hnB hBV
  replace v1 := set_other (i := 0) (v := (.int .i64 (nx st).1)) (by decide) v1
  replace v2 := set_other (i := 0) (v := (.int .i64 (nx st).1)) (by decide) v2
  replace v3 := set_other (i := 0) (v := (.int .i64 (nx st).1)) (by decide) v3
  replace v0 := set_same (v := (.int .i64 (nx st).1)) v0
  replace hRV := hRV.setX (i := 0) (show R < w.heap.size by omega) (.int .i64 (nx st).1)
  replace hV0 := but_setX (X := w.heap.size) (i := 0) hV0 (Nat.le_refl _) (.int .i64 (nx st).1)
  replace hBV := set_far (b := w.heap.size) (i := 0) (v := (.int .i64 (nx st).1)) hnB hBV
  replace v0 := set_other (i := 1) (v := (.int .i64 (nx (nx st).2).1)) (by decide) v0
  replace v2 := set_other (i := 1) (v := (.int .i64 (nx (nx st).2).1)) (by decide) v2
  replace v3 := set_other (i := 1) (v := (.int .i64 (nx (nx st).2).1)) (by decide) v3
  replace v1 := set_same (v := (.int .i64 (nx (nx st).2).1)) v1
  replace hRV := hRV.setX (i := 1) (show R < w.heap.size by omega) (.int .i64 (nx (nx st).2).1)
  replace hV0 := but_setX (X := w.heap.size) (i := 1) hV0 (Nat.le_refl _) (.int .i64 (nx (nx st).2).1)
  replace hBV := set_far (b := w.heap.size) (i := 1) (v := (.int .i64 (nx (nx st).2).1)) hnB hBV
  replace v0 := set_other (i := 2) (v := (.int .i64 (nx (nx (nx st).2).2).1)) (by decide) v0
  replace v1 := set_other (i := 2) (v := (.int .i64 (nx (nx (nx st).2).2).1)) (by decide) v1
  replace v3 := set_other (i := 2) (v := (.int .i64 (nx (nx (nx st).2).2).1)) (by decide) v3
  replace v2 := set_same (v := (.int .i64 (nx (nx (nx st).2).2).1)) v2
  replace hRV := hRV.setX (i := 2) (show R < w.heap.size by omega) (.int .i64 (nx (nx (nx st).2).2).1)
  replace hV0 := but_setX (X := w.heap.size) (i := 2) hV0 (Nat.le_refl _) (.int .i64 (nx (nx (nx st).2).2).1)
  replace hBV := set_far (b := w.heap.size) (i := 2) (v := (.int .i64 (nx (nx (nx st).2).2).1)) hnB hBV
  replace v0 := set_other (i := 3) (v := (.int .i64 (nx (nx (nx (nx st).2).2).2).1)) (by decide) v0
  replace v1 := set_other (i := 3) (v := (.int .i64 (nx (nx (nx (nx st).2).2).2).1)) (by decide) v1
  replace v2 := set_other (i := 3) (v := (.int .i64 (nx (nx (nx (nx st).2).2).2).1)) (by decide) v2
  replace v3 := set_same (v := (.int .i64 (nx (nx (nx (nx st).2).2).2).1)) v3
  replace hRV := hRV.setX (i := 3) (show R < w.heap.size by omega) (.int .i64 (nx (nx (nx (nx st).2).2).2).1)
  replace hV0 := but_setX (X := w.heap.size) (i := 3) hV0 (Nat.le_refl _) (.int .i64 (nx (nx (nx (nx st).2).2).2).1)
  replace hBV := set_far (b := w.heap.size) (i := 3) (v := (.int .i64 (nx (nx (nx (nx st).2).2).2).1)) hnB hBV
  refine bodyPost_ret (v := .agg #[.int .i64 (nth st 0), .int .i64 (nth st 1), .int .i64 (nth st 2), .int .i64 (nth st 3)]) (by simp [results, Try.results28, go_sem, v0, v1, v2, v3, nth, stAt]) rfl ⟨rfl, hRV, hV0⟩

set_option maxRecDepth 100000 in
set_option maxHeartbeats 4000000 in
theorem row_win (B R : Nat) (st : St) (w : World) (hR : RS w R st) (hB : w.cell? ⟨B, 0, none⟩ = some (.pointer (some ⟨R, 0, none⟩))) (hne : B ≠ R) :
    Calls Try.prog 30 #[.pointer (some ⟨B, 0, none⟩)] w fun ev w' => ev = .returned (.agg #[.int .i64 (nth st 0), .int .i64 (nth st 1), .int .i64 (nth st 2)]) ∧ RS w' R (stAt st 3) ∧ w.grownBy w' (some R) := by
  have hRl := hR.lt
  have hBl : B < w.heap.size := lt_of_cell hB
  have hX : w.heap.size ≠ R := by omega
  have hnB := World.new_ne w ⟨B, 0, none⟩ hB
  obtain ⟨V, hVe⟩ : ∃ V, V = w.alloc (.cells #[.int .i64 0, .int .i64 0, .int .i64 0] 58) := ⟨_, rfl⟩
  have hRV : RS V R st := by rw [hVe]; exact hR.alloc _
  have hBV : V.cell? ⟨B, 0, none⟩ = some (.pointer (some ⟨R, 0, none⟩)) := by rw [hVe, World.cell?_alloc_lt _ _ _ hBl]; exact hB
  have v0 : V.cell? ⟨w.heap.size, 0, none⟩ = some (.int .i64 0) := by rw [hVe]; simp
  have z0 : V.frozen? ⟨w.heap.size, 0, none⟩ = false := by rw [hVe]; simp
  have v1 : V.cell? ⟨w.heap.size, 1, none⟩ = some (.int .i64 0) := by rw [hVe]; simp
  have z1 : V.frozen? ⟨w.heap.size, 1, none⟩ = false := by rw [hVe]; simp
  have v2 : V.cell? ⟨w.heap.size, 2, none⟩ = some (.int .i64 0) := by rw [hVe]; simp
  have z2 : V.frozen? ⟨w.heap.size, 2, none⟩ = false := by rw [hVe]; simp
  have hV0 : w.grownBy V (some R) := by rw [hVe]; exact World.grownBy_alloc w _ (some R)
  go_enter Try.func30, Try.ntmps30
  go_wp2_with fail
  rw [← hVe]
  clear hVe
  have hRD : RS V.drew R _ := hRV
  go_region_held3 (fun u => u.cell? ⟨B, 0, none⟩ = some (.pointer (some ⟨R, 0, none⟩))) (go_keep) (first
    | (go_at_call 24; (first | refine (number_st R _ _ hRV).mono ?_ | refine (number_st R _ _ hRD).mono ?_); rintro e u ⟨rfl, hRV, hg⟩; (first | replace hg := undrewG hg | skip); replace hV0 := but_trans hV0 hg; replace z0 := but_frozen hg v0 z0 hX; replace v0 := but_new hg v0 hX; replace z1 := but_frozen hg v1 z1 hX; replace v1 := but_new hg v1 hX; replace z2 := but_frozen hg v2 z2 hX; replace v2 := but_new hg v2 hX; replace hBV := but_new hg hBV hne))
  go_wp2
  replace v1 := set_other (i := 0) (v := (.int .i64 (nx st).1)) (by decide) v1
  replace v2 := set_other (i := 0) (v := (.int .i64 (nx st).1)) (by decide) v2
  replace v0 := set_same (v := (.int .i64 (nx st).1)) v0
  replace hRV := hRV.setX (i := 0) (show R < w.heap.size by omega) (.int .i64 (nx st).1)
  replace hV0 := but_setX (X := w.heap.size) (i := 0) hV0 (Nat.le_refl _) (.int .i64 (nx st).1)
  replace hBV := set_far (b := w.heap.size) (i := 0) (v := (.int .i64 (nx st).1)) hnB hBV
  replace v0 := set_other (i := 1) (v := (.int .i64 (nx (nx st).2).1)) (by decide) v0
  replace v2 := set_other (i := 1) (v := (.int .i64 (nx (nx st).2).1)) (by decide) v2
  replace v1 := set_same (v := (.int .i64 (nx (nx st).2).1)) v1
  replace hRV := hRV.setX (i := 1) (show R < w.heap.size by omega) (.int .i64 (nx (nx st).2).1)
  replace hV0 := but_setX (X := w.heap.size) (i := 1) hV0 (Nat.le_refl _) (.int .i64 (nx (nx st).2).1)
  replace hBV := set_far (b := w.heap.size) (i := 1) (v := (.int .i64 (nx (nx st).2).1)) hnB hBV
  replace v0 := set_other (i := 2) (v := (.int .i64 (nx (nx (nx st).2).2).1)) (by decide) v0
  replace v1 := set_other (i := 2) (v := (.int .i64 (nx (nx (nx st).2).2).1)) (by decide) v1
  replace v2 := set_same (v := (.int .i64 (nx (nx (nx st).2).2).1)) v2
  replace hRV := hRV.setX (i := 2) (show R < w.heap.size by omega) (.int .i64 (nx (nx (nx st).2).2).1)
  replace hV0 := but_setX (X := w.heap.size) (i := 2) hV0 (Nat.le_refl _) (.int .i64 (nx (nx (nx st).2).2).1)
  replace hBV := set_far (b := w.heap.size) (i := 2) (v := (.int .i64 (nx (nx (nx st).2).2).1)) hnB hBV
  replace v1 := set_other (i := 0) (v := (.int .i64 (nx st).1)) (by decide) v1
  replace v2 := set_other (i := 0) (v := (.int .i64 (nx st).1)) (by decide) v2
  replace v0 := set_same (v := (.int .i64 (nx st).1)) v0
  replace hRV := hRV.setX (i := 0) (show R < w.heap.size by omega) (.int .i64 (nx st).1)
  replace hV0 := but_setX (X := w.heap.size) (i := 0) hV0 (Nat.le_refl _) (.int .i64 (nx st).1)
  replace hBV := set_far (b := w.heap.size) (i := 0) (v := (.int .i64 (nx st).1)) hnB hBV
  replace v0 := set_other (i := 1) (v := (.int .i64 (nx (nx st).2).1)) (by decide) v0
  replace v2 := set_other (i := 1) (v := (.int .i64 (nx (nx st).2).1)) (by decide) v2
  replace v1 := set_same (v := (.int .i64 (nx (nx st).2).1)) v1
  replace hRV := hRV.setX (i := 1) (show R < w.heap.size by omega) (.int .i64 (nx (nx st).2).1)
  replace hV0 := but_setX (X := w.heap.size) (i := 1) hV0 (Nat.le_refl _) (.int .i64 (nx (nx st).2).1)
  replace hBV := set_far (b := w.heap.size) (i := 1) (v := (.int .i64 (nx (nx st).2).1)) hnB hBV
  replace v0 := set_other (i := 2) (v := (.int .i64 (nx (nx (nx st).2).2).1)) (by decide) v0
  replace v1 := set_other (i := 2) (v := (.int .i64 (nx (nx (nx st).2).2).1)) (by decide) v1
  replace v2 := set_same (v := (.int .i64 (nx (nx (nx st).2).2).1)) v2
  replace hRV := hRV.setX (i := 2) (show R < w.heap.size by omega) (.int .i64 (nx (nx (nx st).2).2).1)
  replace hV0 := but_setX (X := w.heap.size) (i := 2) hV0 (Nat.le_refl _) (.int .i64 (nx (nx (nx st).2).2).1)
  replace hBV := set_far (b := w.heap.size) (i := 2) (v := (.int .i64 (nx (nx (nx st).2).2).1)) hnB hBV
  refine bodyPost_ret (v := .agg #[.int .i64 (nth st 0), .int .i64 (nth st 1), .int .i64 (nth st 2)]) (by simp [results, Try.results30, go_sem, v0, v1, v2, nth, stAt]) rfl ⟨rfl, hRV, hV0⟩
end Go.Proofs.Ytlpojkehbhkdiaa
