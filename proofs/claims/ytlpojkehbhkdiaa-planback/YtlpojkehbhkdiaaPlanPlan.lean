/- The program's reader reads a whole plan, whether it may be or not. (Made by tools/gen_planplan.py.) -/
import Derived.Test.YtlpojkehbhkdiaaPlanLists
namespace Go.Proofs.Ytlpojkehbhkdiaa
open Go.RowKit

/-- How many rows there are, and the state behind them. -/
def rowsN (most : Int) (st : St) : Nat := if most < (nx st).1 then 0 else (nx st).1.toNat
def rowsSt (wd : Nat) (most : Int) (st : St) : St := if most < (nx st).1 then none else stAt (nx st).2 (wd * (nx st).1.toNat)
theorem RS.range {w : World} {R : Nat} {st : St} (h : RS w R st) : 0 ≤ (nx st).1 ∧ (nx st).1 ≤ 1099511627776 := nx_range st (fun r hr => by subst hr; exact h.2.2.2.1)

section
variable (B R : Nat) (st : St) (w : World)
theorem slots_st (hR : RS w R st) (hB : w.cell? ⟨B, 0, none⟩ = some (.pointer (some ⟨R, 0, none⟩))) (hne : B ≠ R) :
    Calls Try.prog 25 #[.pointer (some ⟨R, 0, none⟩), .int .i64 32, .func (.func 26) #[] #[.pointer (some ⟨B, 0, none⟩)]] w fun ev w' => ∃ a cap, ev = .returned (.slice a (rowsN 32 st) cap) ∧ (∀ b off, a = some ⟨b, off, none⟩ → w.heap.size ≤ b) ∧ Rows3 w' a (rowsN 32 st) (fun j => nth (nx st).2 (3 * j)) (fun j => nth (nx st).2 (3 * j + 1)) (fun j => nth (nx st).2 (3 * j + 2)) ∧ RS w' R (rowsSt 3 32 st) ∧ w.grownBy w' (some R) := by
  have h0 := hR.range
  by_cases hm : 32 < (nx st).1
  · unfold rowsN rowsSt
    rw [if_pos hm, if_pos hm]
    refine (slots_many B R 32 st w hR hm).mono ?_
    rintro ev w' ⟨rfl, h1, h2⟩
    exact ⟨none, 0, rfl, (fun b off e => by cases e), (fun h => absurd h (Nat.lt_irrefl _)), h1, h2⟩
  · unfold rowsN rowsSt
    rw [if_neg hm, if_neg hm]
    exact slots_some B R 32 st w hR hB hne (nx st).1.toNat (by omega) (by omega) (by omega)
theorem wins_st (hR : RS w R st) (hB : w.cell? ⟨B, 0, none⟩ = some (.pointer (some ⟨R, 0, none⟩))) (hne : B ≠ R) :
    Calls Try.prog 29 #[.pointer (some ⟨R, 0, none⟩), .int .i64 32, .func (.func 30) #[] #[.pointer (some ⟨B, 0, none⟩)]] w fun ev w' => ∃ a cap, ev = .returned (.slice a (rowsN 32 st) cap) ∧ (∀ b off, a = some ⟨b, off, none⟩ → w.heap.size ≤ b) ∧ Rows3 w' a (rowsN 32 st) (fun j => nth (nx st).2 (3 * j)) (fun j => nth (nx st).2 (3 * j + 1)) (fun j => nth (nx st).2 (3 * j + 2)) ∧ RS w' R (rowsSt 3 32 st) ∧ w.grownBy w' (some R) := by
  have h0 := hR.range
  by_cases hm : 32 < (nx st).1
  · unfold rowsN rowsSt
    rw [if_pos hm, if_pos hm]
    refine (wins_many B R 32 st w hR hm).mono ?_
    rintro ev w' ⟨rfl, h1, h2⟩
    exact ⟨none, 0, rfl, (fun b off e => by cases e), (fun h => absurd h (Nat.lt_irrefl _)), h1, h2⟩
  · unfold rowsN rowsSt
    rw [if_neg hm, if_neg hm]
    exact wins_some B R 32 st w hR hB hne (nx st).1.toNat (by omega) (by omega) (by omega)
theorem links_st (hR : RS w R st) (hB : w.cell? ⟨B, 0, none⟩ = some (.pointer (some ⟨R, 0, none⟩))) (hne : B ≠ R) :
    Calls Try.prog 27 #[.pointer (some ⟨R, 0, none⟩), .int .i64 8, .func (.func 28) #[] #[.pointer (some ⟨B, 0, none⟩)]] w fun ev w' => ∃ a cap, ev = .returned (.slice a (rowsN 8 st) cap) ∧ (∀ b off, a = some ⟨b, off, none⟩ → w.heap.size ≤ b) ∧ Rows4 w' a (rowsN 8 st) (fun j => nth (nx st).2 (4 * j)) (fun j => nth (nx st).2 (4 * j + 1)) (fun j => nth (nx st).2 (4 * j + 2)) (fun j => nth (nx st).2 (4 * j + 3)) ∧ RS w' R (rowsSt 4 8 st) ∧ w.grownBy w' (some R) := by
  have h0 := hR.range
  by_cases hm : 8 < (nx st).1
  · unfold rowsN rowsSt
    rw [if_pos hm, if_pos hm]
    refine (links_many B R 8 st w hR hm).mono ?_
    rintro ev w' ⟨rfl, h1, h2⟩
    exact ⟨none, 0, rfl, (fun b off e => by cases e), (fun h => absurd h (Nat.lt_irrefl _)), h1, h2⟩
  · unfold rowsN rowsSt
    rw [if_neg hm, if_neg hm]
    exact links_some B R 8 st w hR hB hne (nx st).1.toNat (by omega) (by omega) (by omega)
end

/-- A block's cells, and that they may be written. -/
def PCells (P : Nat) (l : List Value) (u : World) : Prop := ∀ i v, l[i]? = some v → u.cell? ⟨P, i, none⟩ = some v ∧ u.frozen? ⟨P, i, none⟩ = false
theorem PCells.set {P : Nat} {l : List Value} {u : World} (h : PCells P l u) {i : Nat} (hi : i < l.length) (x : Value) : PCells P (l.set i x) (u.setCell ⟨P, i, none⟩ x) := by
  intro j v hj
  by_cases e : i = j
  · subst e
    simp [hi] at hj
    subst hj
    have hc := (h i (l[i]) (by simp [hi])).1
    exact ⟨set_same hc, by simpa using (h i (l[i]) (by simp [hi])).2⟩
  · rw [List.getElem?_set_ne e] at hj
    exact ⟨set_other e (h j v hj).1, by simpa using (h j v hj).2⟩
theorem PCells.but {P R : Nat} {l : List Value} {u u' : World} (h : PCells P l u) (hg : u.grownBy u' (some R)) (hne : P ≠ R) : PCells P l u' := fun i v hi => ⟨but_new hg (h i v hi).1 hne, but_frozen hg (h i v hi).1 (h i v hi).2 hne⟩
theorem PCells.far {P X i : Nat} {l : List Value} {u : World} (h : PCells P l u) (hne : X ≠ P) (x : Value) : PCells P l (u.setCell ⟨X, i, none⟩ x) := fun j v hj => ⟨set_far hne (h j v hj).1, by simpa using (h j v hj).2⟩
theorem pcells_new (u : World) (cur : Array Value) (t : TypeId) : PCells u.heap.size cur.toList (u.alloc (.cells cur t)) := by
  intro i v hi
  refine ⟨?_, by simp⟩
  simp at hi ⊢
  simpa using hi
theorem PCells.alloc {P : Nat} {l : List Value} {u : World} (h : PCells P l u) (o : Obj) (hl : P < u.heap.size) : PCells P l (u.alloc o) := fun i v hi => by
  refine ⟨?_, ?_⟩
  · rw [World.cell?_alloc_lt _ _ _ hl]; exact (h i v hi).1
  · rw [World.frozen?_alloc_old _ _ _ (by show P ≠ u.heap.size; omega)]; exact (h i v hi).2
section
variable {w w' : World} {a : Option Addr} {n R X i : Nat} {f g h k : Nat → Int}
theorem Rows3.but (r : Rows3 w a n f g h) (hg : w.grownBy w' (some R)) (hR : ∀ b off, a = some ⟨b, off, none⟩ → b ≠ R) : Rows3 w' a n f g h := by
  intro hn
  obtain ⟨b, off, ha, hbl, hc⟩ := r hn
  have hb := hR b off ha
  exact ⟨b, off, ha, Nat.lt_of_lt_of_le hbl hg.size, fun j hj => ⟨but_new hg (hc j hj).1 hb, but_new hg (hc j hj).2.1 hb, but_new hg (hc j hj).2.2 hb⟩⟩
theorem Rows4.but (r : Rows4 w a n f g h k) (hg : w.grownBy w' (some R)) (hR : ∀ b off, a = some ⟨b, off, none⟩ → b ≠ R) : Rows4 w' a n f g h k := by
  intro hn
  obtain ⟨b, off, ha, hbl, hc⟩ := r hn
  have hb := hR b off ha
  exact ⟨b, off, ha, Nat.lt_of_lt_of_le hbl hg.size, fun j hj => ⟨but_new hg (hc j hj).1 hb, but_new hg (hc j hj).2.1 hb, but_new hg (hc j hj).2.2.1 hb, but_new hg (hc j hj).2.2.2 hb⟩⟩
theorem Rows3.setX (r : Rows3 w a n f g h) (hX : ∀ b off, a = some ⟨b, off, none⟩ → X ≠ b) (x : Value) : Rows3 (w.setCell ⟨X, i, none⟩ x) a n f g h := by
  intro hn
  obtain ⟨b, off, ha, hbl, hc⟩ := r hn
  have hb := hX b off ha
  exact ⟨b, off, ha, by simpa [World.setCell] using hbl, fun j hj => ⟨set_far hb (hc j hj).1, set_far hb (hc j hj).2.1, set_far hb (hc j hj).2.2⟩⟩
theorem Rows4.setX (r : Rows4 w a n f g h k) (hX : ∀ b off, a = some ⟨b, off, none⟩ → X ≠ b) (x : Value) : Rows4 (w.setCell ⟨X, i, none⟩ x) a n f g h k := by
  intro hn
  obtain ⟨b, off, ha, hbl, hc⟩ := r hn
  have hb := hX b off ha
  exact ⟨b, off, ha, by simpa [World.setCell] using hbl, fun j hj => ⟨set_far hb (hc j hj).1, set_far hb (hc j hj).2.1, set_far hb (hc j hj).2.2.1, set_far hb (hc j hj).2.2.2⟩⟩
end

set_option maxRecDepth 100000 in
set_option maxHeartbeats 4000000 in
theorem plan_st (R : Nat) (st : St) (w : World) (hR : RS w R st) :
    Calls Try.prog 16 #[.pointer (some ⟨R, 0, none⟩)] w fun ev w' => ∃ sa sc la lc wa wc, ev = .returned (.agg #[.int .i64 (nth st 0), .int .i64 (nth st 1), .int .i64 (nth st 2), .int .i64 (nth st 3), .int .i64 (nth st 4), .int .i64 (nth st 5), .slice sa (rowsN 32 (stAt st 6)) sc, .slice la (rowsN 8 (rowsSt 3 32 (stAt st 6))) lc, .int .i64 (nx (rowsSt 4 8 (rowsSt 3 32 (stAt st 6)))).1, .slice wa (rowsN 32 ((nx (rowsSt 4 8 (rowsSt 3 32 (stAt st 6)))).2)) wc]) ∧ ((∀ b off, sa = some ⟨b, off, none⟩ → w.heap.size ≤ b) ∧ (∀ b off, la = some ⟨b, off, none⟩ → w.heap.size ≤ b) ∧ ∀ b off, wa = some ⟨b, off, none⟩ → w.heap.size ≤ b) ∧ Rows3 w' sa (rowsN 32 (stAt st 6)) (fun j => nth (nx (stAt st 6)).2 (3 * j)) (fun j => nth (nx (stAt st 6)).2 (3 * j + 1)) (fun j => nth (nx (stAt st 6)).2 (3 * j + 2)) ∧ Rows4 w' la (rowsN 8 (rowsSt 3 32 (stAt st 6))) (fun j => nth (nx (rowsSt 3 32 (stAt st 6))).2 (4 * j)) (fun j => nth (nx (rowsSt 3 32 (stAt st 6))).2 (4 * j + 1)) (fun j => nth (nx (rowsSt 3 32 (stAt st 6))).2 (4 * j + 2)) (fun j => nth (nx (rowsSt 3 32 (stAt st 6))).2 (4 * j + 3)) ∧ Rows3 w' wa (rowsN 32 ((nx (rowsSt 4 8 (rowsSt 3 32 (stAt st 6)))).2)) (fun j => nth (nx ((nx (rowsSt 4 8 (rowsSt 3 32 (stAt st 6)))).2)).2 (3 * j)) (fun j => nth (nx ((nx (rowsSt 4 8 (rowsSt 3 32 (stAt st 6)))).2)).2 (3 * j + 1)) (fun j => nth (nx ((nx (rowsSt 4 8 (rowsSt 3 32 (stAt st 6)))).2)).2 (3 * j + 2)) ∧ RS w' R (rowsSt 3 32 ((nx (rowsSt 4 8 (rowsSt 3 32 (stAt st 6)))).2)) ∧ w.grownBy w' (some R) := by
  have hRl := hR.lt
  obtain ⟨V, hVe⟩ : ∃ V, V = ((w.alloc (.cells #[.pointer (some ⟨R, 0, none⟩)] 60)).alloc (.cells #[.int .i64 0, .int .i64 0, .int .i64 0, .int .i64 0, .int .i64 0, .int .i64 0, .slice none 0 0, .slice none 0 0, .int .i64 0, .slice none 0 0] 26)).alloc (.cells #[.int .i64 0, .int .i64 0, .int .i64 0, .int .i64 0, .int .i64 0, .int .i64 0, .slice none 0 0, .slice none 0 0, .int .i64 0, .slice none 0 0] 26) := ⟨_, rfl⟩
  have hRV : RS V R st := by rw [hVe]; exact ((hR.alloc _).alloc _).alloc _
  have hV0 : w.grownBy V (some R) := by rw [hVe]; exact but_trans (but_trans (World.grownBy_alloc w _ (some R)) (World.grownBy_alloc _ _ (some R))) (World.grownBy_alloc _ _ (some R))
  have hBV : V.cell? ⟨w.heap.size, 0, none⟩ = some (.pointer (some ⟨R, 0, none⟩)) := by rw [hVe, World.cell?_alloc_lt _ _ _ (by simp; omega), World.cell?_alloc_lt _ _ _ (by simp)]; simp
  have hp : PCells (w.heap.size + 2) [.int .i64 0, .int .i64 0, .int .i64 0, .int .i64 0, .int .i64 0, .int .i64 0, .slice none 0 0, .slice none 0 0, .int .i64 0, .slice none 0 0] V := by
    rw [hVe]
    have := pcells_new ((w.alloc (.cells #[.pointer (some ⟨R, 0, none⟩)] 60)).alloc (.cells #[.int .i64 0, .int .i64 0, .int .i64 0, .int .i64 0, .int .i64 0, .int .i64 0, .slice none 0 0, .slice none 0 0, .int .i64 0, .slice none 0 0] 26)) #[.int .i64 0, .int .i64 0, .int .i64 0, .int .i64 0, .int .i64 0, .int .i64 0, .slice none 0 0, .slice none 0 0, .int .i64 0, .slice none 0 0] 26
    simpa using this
  have hq : PCells (w.heap.size + 1) [.int .i64 0, .int .i64 0, .int .i64 0, .int .i64 0, .int .i64 0, .int .i64 0, .slice none 0 0, .slice none 0 0, .int .i64 0, .slice none 0 0] V := by
    rw [hVe]
    have := (pcells_new (w.alloc (.cells #[.pointer (some ⟨R, 0, none⟩)] 60)) #[.int .i64 0, .int .i64 0, .int .i64 0, .int .i64 0, .int .i64 0, .int .i64 0, .slice none 0 0, .slice none 0 0, .int .i64 0, .slice none 0 0] 26).alloc (.cells #[.int .i64 0, .int .i64 0, .int .i64 0, .int .i64 0, .int .i64 0, .int .i64 0, .slice none 0 0, .slice none 0 0, .int .i64 0, .slice none 0 0] 26) (by simp)
    simpa using this
  have hmf := Try.mfr
  have hBR : w.heap.size ≠ R := by omega
  have hPR : (w.heap.size + 2) ≠ R := by omega
  have hQR : (w.heap.size + 1) ≠ R := by omega
  have hPB : (w.heap.size + 2) ≠ w.heap.size := by omega
  have hPQ : (w.heap.size + 2) ≠ (w.heap.size + 1) := by omega
  have hnB : w.heap.size + 2 ≠ w.heap.size := by omega
  go_enter Try.func16, Try.ntmps16
  go_wp2_with fail
  rw [← hVe]
  clear hVe
  have hRD : RS V.drew R _ := hRV
  obtain ⟨v0, z0⟩ := hp 0 _ rfl
  obtain ⟨v1, z1⟩ := hp 1 _ rfl
  go_region_held3 (fun u => u.cell? ⟨w.heap.size, 0, none⟩ = some (.pointer (some ⟨R, 0, none⟩))) (go_keep) (first
    | (go_at_call 24; (first | refine (number_st R _ _ hRV).mono ?_ | refine (number_st R _ _ hRD).mono ?_); rintro e u ⟨rfl, hRV, hg⟩; (first | replace hg := undrewG hg | skip); replace hV0 := but_trans hV0 hg; replace hp := hp.but hg hPR; replace hq := hq.but hg hQR; replace hBV := but_new hg hBV hBR; obtain ⟨v0, z0⟩ := hp 0 _ rfl; obtain ⟨v1, z1⟩ := hp 1 _ rfl))
  go_wp2_with fail
  replace hp := hp.set (i := 0) (by simp) (.int .i64 (nx st).1)
  simp only [List.set_cons_zero] at hp
  replace hq := hq.far (X := (w.heap.size + 2)) (i := 0) hPQ (.int .i64 (nx st).1)
  replace hRV := hRV.setX (X := (w.heap.size + 2)) (i := 0) (by omega) (.int .i64 (nx st).1)
  replace hV0 := but_setX (X := (w.heap.size + 2)) (i := 0) hV0 (by omega) (.int .i64 (nx st).1)
  replace hBV := set_far (b := (w.heap.size + 2)) (i := 0) (v := (.int .i64 (nx st).1)) hPB hBV
  replace hp := hp.set (i := 1) (by simp) (.int .i64 (nx (nx st).2).1)
  simp only [List.set_cons_zero, List.set_cons_succ] at hp
  replace hq := hq.far (X := (w.heap.size + 2)) (i := 1) hPQ (.int .i64 (nx (nx st).2).1)
  replace hRV := hRV.setX (X := (w.heap.size + 2)) (i := 1) (by omega) (.int .i64 (nx (nx st).2).1)
  replace hV0 := but_setX (X := (w.heap.size + 2)) (i := 1) hV0 (by omega) (.int .i64 (nx (nx st).2).1)
  replace hBV := set_far (b := (w.heap.size + 2)) (i := 1) (v := (.int .i64 (nx (nx st).2).1)) hPB hBV
  clear hRD v0 z0 v1 z1
  generalize ((u.setCell ⟨(w.heap.size + 2), 0, none⟩ (.int .i64 (nx st).1)).setCell ⟨(w.heap.size + 2), 1, none⟩ (.int .i64 (nx (nx st).2).1)) = V1 at hp hq hRV hV0 hBV ⊢
  have hRD : RS V1.drew R _ := hRV
  obtain ⟨v2, z2⟩ := hp 2 _ rfl
  obtain ⟨v3, z3⟩ := hp 3 _ rfl
  obtain ⟨v4, z4⟩ := hp 4 _ rfl
  go_region_held3 (fun u => u.cell? ⟨w.heap.size, 0, none⟩ = some (.pointer (some ⟨R, 0, none⟩))) (go_keep) (first
    | (go_at_call 24; (first | refine (number_st R _ _ hRV).mono ?_ | refine (number_st R _ _ hRD).mono ?_); rintro e u ⟨rfl, hRV, hg⟩; (first | replace hg := undrewG hg | skip); replace hV0 := but_trans hV0 hg; replace hp := hp.but hg hPR; replace hq := hq.but hg hQR; replace hBV := but_new hg hBV hBR; obtain ⟨v2, z2⟩ := hp 2 _ rfl; obtain ⟨v3, z3⟩ := hp 3 _ rfl; obtain ⟨v4, z4⟩ := hp 4 _ rfl))
  go_wp2_with fail
  replace hp := hp.set (i := 2) (by simp) (.int .i64 (nx (nx (nx st).2).2).1)
  simp only [List.set_cons_zero, List.set_cons_succ] at hp
  replace hq := hq.far (X := (w.heap.size + 2)) (i := 2) hPQ (.int .i64 (nx (nx (nx st).2).2).1)
  replace hRV := hRV.setX (X := (w.heap.size + 2)) (i := 2) (by omega) (.int .i64 (nx (nx (nx st).2).2).1)
  replace hV0 := but_setX (X := (w.heap.size + 2)) (i := 2) hV0 (by omega) (.int .i64 (nx (nx (nx st).2).2).1)
  replace hBV := set_far (b := (w.heap.size + 2)) (i := 2) (v := (.int .i64 (nx (nx (nx st).2).2).1)) hPB hBV
  replace hp := hp.set (i := 3) (by simp) (.int .i64 (nx (nx (nx (nx st).2).2).2).1)
  simp only [List.set_cons_zero, List.set_cons_succ] at hp
  replace hq := hq.far (X := (w.heap.size + 2)) (i := 3) hPQ (.int .i64 (nx (nx (nx (nx st).2).2).2).1)
  replace hRV := hRV.setX (X := (w.heap.size + 2)) (i := 3) (by omega) (.int .i64 (nx (nx (nx (nx st).2).2).2).1)
  replace hV0 := but_setX (X := (w.heap.size + 2)) (i := 3) hV0 (by omega) (.int .i64 (nx (nx (nx (nx st).2).2).2).1)
  replace hBV := set_far (b := (w.heap.size + 2)) (i := 3) (v := (.int .i64 (nx (nx (nx (nx st).2).2).2).1)) hPB hBV
  replace hp := hp.set (i := 4) (by simp) (.int .i64 (nx (nx (nx (nx (nx st).2).2).2).2).1)
  simp only [List.set_cons_zero, List.set_cons_succ] at hp
  replace hq := hq.far (X := (w.heap.size + 2)) (i := 4) hPQ (.int .i64 (nx (nx (nx (nx (nx st).2).2).2).2).1)
  replace hRV := hRV.setX (X := (w.heap.size + 2)) (i := 4) (by omega) (.int .i64 (nx (nx (nx (nx (nx st).2).2).2).2).1)
  replace hV0 := but_setX (X := (w.heap.size + 2)) (i := 4) hV0 (by omega) (.int .i64 (nx (nx (nx (nx (nx st).2).2).2).2).1)
  replace hBV := set_far (b := (w.heap.size + 2)) (i := 4) (v := (.int .i64 (nx (nx (nx (nx (nx st).2).2).2).2).1)) hPB hBV
  clear hRD v2 z2 v3 z3 v4 z4
  generalize (((u.setCell ⟨(w.heap.size + 2), 2, none⟩ (.int .i64 (nx (nx (nx st).2).2).1)).setCell ⟨(w.heap.size + 2), 3, none⟩ (.int .i64 (nx (nx (nx (nx st).2).2).2).1)).setCell ⟨(w.heap.size + 2), 4, none⟩ (.int .i64 (nx (nx (nx (nx (nx st).2).2).2).2).1)) = V2 at hp hq hRV hV0 hBV ⊢
  have hsz : w.heap.size + 3 ≤ V2.heap.size := by have := lt_of_cell (hp 0 _ rfl).1; simp at this; omega
  obtain ⟨v, z⟩ := hp 5 _ rfl
  refine (number_st R _ _ hRV).mono ?_
  rintro e u ⟨rfl, hRV, hg⟩
  replace hV0 := but_trans hV0 hg
  replace hp := hp.but hg hPR
  replace hq := hq.but hg hQR
  replace hBV := but_new hg hBV hBR
  clear v z
  obtain ⟨v, z⟩ := hp 5 _ rfl
  go_wp2_with fail
  replace hp := hp.set (i := 5) (by simp) (.int .i64 (nx (nx (nx (nx (nx (nx st).2).2).2).2).2).1)
  simp only [List.set_cons_zero, List.set_cons_succ] at hp
  replace hq := hq.far (X := (w.heap.size + 2)) (i := 5) hPQ (.int .i64 (nx (nx (nx (nx (nx (nx st).2).2).2).2).2).1)
  replace hRV := hRV.setX (X := (w.heap.size + 2)) (i := 5) (by omega) (.int .i64 (nx (nx (nx (nx (nx (nx st).2).2).2).2).2).1)
  replace hV0 := but_setX (X := (w.heap.size + 2)) (i := 5) hV0 (by omega) (.int .i64 (nx (nx (nx (nx (nx (nx st).2).2).2).2).2).1)
  replace hBV := set_far (b := (w.heap.size + 2)) (i := 5) (v := (.int .i64 (nx (nx (nx (nx (nx (nx st).2).2).2).2).2).1)) hPB hBV
  clear v z hsz
  generalize (u.setCell ⟨(w.heap.size + 2), 5, none⟩ (.int .i64 (nx (nx (nx (nx (nx (nx st).2).2).2).2).2).1)) = V3 at hp hq hRV hV0 hBV ⊢
  have hsz : w.heap.size + 3 ≤ V3.heap.size := by have := lt_of_cell (hp 0 _ rfl).1; simp at this; omega
  obtain ⟨v, z⟩ := hp 6 _ rfl
  refine (slots_st w.heap.size R _ _ hRV hBV hBR).mono ?_
  rintro e u ⟨sa, sc, rfl, fs, rs, hRV, hg⟩
  replace hV0 := but_trans hV0 hg
  replace hp := hp.but hg hPR
  replace hq := hq.but hg hQR
  replace hBV := but_new hg hBV hBR
  clear v z
  obtain ⟨v, z⟩ := hp 6 _ rfl
  replace fs : ∀ b off, sa = some ⟨b, off, none⟩ → w.heap.size + 3 ≤ b := fun b off e => by have := fs b off e; have := hsz; omega
  go_wp2_with fail
  replace hp := hp.set (i := 6) (by simp) (.slice sa (rowsN 32 (nx (nx (nx (nx (nx (nx st).2).2).2).2).2).2) sc)
  simp only [List.set_cons_zero, List.set_cons_succ] at hp
  replace hq := hq.far (X := (w.heap.size + 2)) (i := 6) hPQ (.slice sa (rowsN 32 (nx (nx (nx (nx (nx (nx st).2).2).2).2).2).2) sc)
  replace hRV := hRV.setX (X := (w.heap.size + 2)) (i := 6) (by omega) (.slice sa (rowsN 32 (nx (nx (nx (nx (nx (nx st).2).2).2).2).2).2) sc)
  replace hV0 := but_setX (X := (w.heap.size + 2)) (i := 6) hV0 (by omega) (.slice sa (rowsN 32 (nx (nx (nx (nx (nx (nx st).2).2).2).2).2).2) sc)
  replace hBV := set_far (b := (w.heap.size + 2)) (i := 6) (v := (.slice sa (rowsN 32 (nx (nx (nx (nx (nx (nx st).2).2).2).2).2).2) sc)) hPB hBV
  replace rs := rs.setX (X := (w.heap.size + 2)) (i := 6) (fun b off e => by have := fs b off e; omega) (.slice sa (rowsN 32 (nx (nx (nx (nx (nx (nx st).2).2).2).2).2).2) sc)
  clear v z hsz
  generalize (u.setCell ⟨(w.heap.size + 2), 6, none⟩ (.slice sa (rowsN 32 (nx (nx (nx (nx (nx (nx st).2).2).2).2).2).2) sc)) = V4 at hp hq hRV hV0 hBV rs ⊢
  have hsz : w.heap.size + 3 ≤ V4.heap.size := by have := lt_of_cell (hp 0 _ rfl).1; simp at this; omega
  obtain ⟨v, z⟩ := hp 7 _ rfl
  refine (links_st w.heap.size R _ _ hRV hBV hBR).mono ?_
  rintro e u ⟨la, lc, rfl, fl, rl, hRV, hg⟩
  replace hV0 := but_trans hV0 hg
  replace hp := hp.but hg hPR
  replace hq := hq.but hg hQR
  replace hBV := but_new hg hBV hBR
  replace rs := rs.but hg (fun b off e => by have := fs b off e; omega)
  clear v z
  obtain ⟨v, z⟩ := hp 7 _ rfl
  replace fl : ∀ b off, la = some ⟨b, off, none⟩ → w.heap.size + 3 ≤ b := fun b off e => by have := fl b off e; have := hsz; omega
  go_wp2_with fail
  replace hp := hp.set (i := 7) (by simp) (.slice la (rowsN 8 (rowsSt 3 32 (nx (nx (nx (nx (nx (nx st).2).2).2).2).2).2)) lc)
  simp only [List.set_cons_zero, List.set_cons_succ] at hp
  replace hq := hq.far (X := (w.heap.size + 2)) (i := 7) hPQ (.slice la (rowsN 8 (rowsSt 3 32 (nx (nx (nx (nx (nx (nx st).2).2).2).2).2).2)) lc)
  replace hRV := hRV.setX (X := (w.heap.size + 2)) (i := 7) (by omega) (.slice la (rowsN 8 (rowsSt 3 32 (nx (nx (nx (nx (nx (nx st).2).2).2).2).2).2)) lc)
  replace hV0 := but_setX (X := (w.heap.size + 2)) (i := 7) hV0 (by omega) (.slice la (rowsN 8 (rowsSt 3 32 (nx (nx (nx (nx (nx (nx st).2).2).2).2).2).2)) lc)
  replace hBV := set_far (b := (w.heap.size + 2)) (i := 7) (v := (.slice la (rowsN 8 (rowsSt 3 32 (nx (nx (nx (nx (nx (nx st).2).2).2).2).2).2)) lc)) hPB hBV
  replace rs := rs.setX (X := (w.heap.size + 2)) (i := 7) (fun b off e => by have := fs b off e; omega) (.slice la (rowsN 8 (rowsSt 3 32 (nx (nx (nx (nx (nx (nx st).2).2).2).2).2).2)) lc)
  replace rl := rl.setX (X := (w.heap.size + 2)) (i := 7) (fun b off e => by have := fl b off e; omega) (.slice la (rowsN 8 (rowsSt 3 32 (nx (nx (nx (nx (nx (nx st).2).2).2).2).2).2)) lc)
  clear v z hsz
  generalize (u.setCell ⟨(w.heap.size + 2), 7, none⟩ (.slice la (rowsN 8 (rowsSt 3 32 (nx (nx (nx (nx (nx (nx st).2).2).2).2).2).2)) lc)) = V5 at hp hq hRV hV0 hBV rs rl ⊢
  have hsz : w.heap.size + 3 ≤ V5.heap.size := by have := lt_of_cell (hp 0 _ rfl).1; simp at this; omega
  obtain ⟨v, z⟩ := hp 8 _ rfl
  refine (number_st R _ _ hRV).mono ?_
  rintro e u ⟨rfl, hRV, hg⟩
  replace hV0 := but_trans hV0 hg
  replace hp := hp.but hg hPR
  replace hq := hq.but hg hQR
  replace hBV := but_new hg hBV hBR
  replace rs := rs.but hg (fun b off e => by have := fs b off e; omega)
  replace rl := rl.but hg (fun b off e => by have := fl b off e; omega)
  clear v z
  obtain ⟨v, z⟩ := hp 8 _ rfl
  go_wp2_with fail
  replace hp := hp.set (i := 8) (by simp) (.int .i64 (nx (rowsSt 4 8 (rowsSt 3 32 (nx (nx (nx (nx (nx (nx st).2).2).2).2).2).2))).1)
  simp only [List.set_cons_zero, List.set_cons_succ] at hp
  replace hq := hq.far (X := (w.heap.size + 2)) (i := 8) hPQ (.int .i64 (nx (rowsSt 4 8 (rowsSt 3 32 (nx (nx (nx (nx (nx (nx st).2).2).2).2).2).2))).1)
  replace hRV := hRV.setX (X := (w.heap.size + 2)) (i := 8) (by omega) (.int .i64 (nx (rowsSt 4 8 (rowsSt 3 32 (nx (nx (nx (nx (nx (nx st).2).2).2).2).2).2))).1)
  replace hV0 := but_setX (X := (w.heap.size + 2)) (i := 8) hV0 (by omega) (.int .i64 (nx (rowsSt 4 8 (rowsSt 3 32 (nx (nx (nx (nx (nx (nx st).2).2).2).2).2).2))).1)
  replace hBV := set_far (b := (w.heap.size + 2)) (i := 8) (v := (.int .i64 (nx (rowsSt 4 8 (rowsSt 3 32 (nx (nx (nx (nx (nx (nx st).2).2).2).2).2).2))).1)) hPB hBV
  replace rs := rs.setX (X := (w.heap.size + 2)) (i := 8) (fun b off e => by have := fs b off e; omega) (.int .i64 (nx (rowsSt 4 8 (rowsSt 3 32 (nx (nx (nx (nx (nx (nx st).2).2).2).2).2).2))).1)
  replace rl := rl.setX (X := (w.heap.size + 2)) (i := 8) (fun b off e => by have := fl b off e; omega) (.int .i64 (nx (rowsSt 4 8 (rowsSt 3 32 (nx (nx (nx (nx (nx (nx st).2).2).2).2).2).2))).1)
  clear v z hsz
  generalize (u.setCell ⟨(w.heap.size + 2), 8, none⟩ (.int .i64 (nx (rowsSt 4 8 (rowsSt 3 32 (nx (nx (nx (nx (nx (nx st).2).2).2).2).2).2))).1)) = V6 at hp hq hRV hV0 hBV rs rl ⊢
  have hsz : w.heap.size + 3 ≤ V6.heap.size := by have := lt_of_cell (hp 0 _ rfl).1; simp at this; omega
  obtain ⟨v, z⟩ := hp 9 _ rfl
  refine (wins_st w.heap.size R _ _ hRV hBV hBR).mono ?_
  rintro e u ⟨wa, wc, rfl, fw, rw, hRV, hg⟩
  replace hV0 := but_trans hV0 hg
  replace hp := hp.but hg hPR
  replace hq := hq.but hg hQR
  replace hBV := but_new hg hBV hBR
  replace rs := rs.but hg (fun b off e => by have := fs b off e; omega)
  replace rl := rl.but hg (fun b off e => by have := fl b off e; omega)
  clear v z
  obtain ⟨v, z⟩ := hp 9 _ rfl
  replace fw : ∀ b off, wa = some ⟨b, off, none⟩ → w.heap.size + 3 ≤ b := fun b off e => by have := fw b off e; have := hsz; omega
  clear v z
  obtain ⟨p0, g0⟩ := hp 0 _ rfl
  obtain ⟨p1, g1⟩ := hp 1 _ rfl
  obtain ⟨p2, g2⟩ := hp 2 _ rfl
  obtain ⟨p3, g3⟩ := hp 3 _ rfl
  obtain ⟨p4, g4⟩ := hp 4 _ rfl
  obtain ⟨p5, g5⟩ := hp 5 _ rfl
  obtain ⟨p6, g6⟩ := hp 6 _ rfl
  obtain ⟨p7, g7⟩ := hp 7 _ rfl
  obtain ⟨p8, g8⟩ := hp 8 _ rfl
  obtain ⟨p9, g9⟩ := hp 9 _ rfl
  obtain ⟨q0, k0⟩ := hq 0 _ rfl
  obtain ⟨q1, k1⟩ := hq 1 _ rfl
  obtain ⟨q2, k2⟩ := hq 2 _ rfl
  obtain ⟨q3, k3⟩ := hq 3 _ rfl
  obtain ⟨q4, k4⟩ := hq 4 _ rfl
  obtain ⟨q5, k5⟩ := hq 5 _ rfl
  obtain ⟨q6, k6⟩ := hq 6 _ rfl
  obtain ⟨q7, k7⟩ := hq 7 _ rfl
  obtain ⟨q8, k8⟩ := hq 8 _ rfl
  obtain ⟨q9, k9⟩ := hq 9 _ rfl
  clear g0 g1 g2 g3 g4 g5 g6 g7 g8
  go_wp2
  replace hp := hp.set (i := 9) (by simp) (.slice wa (rowsN 32 (nx (rowsSt 4 8 (rowsSt 3 32 (nx (nx (nx (nx (nx (nx st).2).2).2).2).2).2))).2) wc)
  simp only [List.set_cons_zero, List.set_cons_succ] at hp
  replace hq := hq.far (X := (w.heap.size + 2)) (i := 9) hPQ (.slice wa (rowsN 32 (nx (rowsSt 4 8 (rowsSt 3 32 (nx (nx (nx (nx (nx (nx st).2).2).2).2).2).2))).2) wc)
  replace hRV := hRV.setX (X := (w.heap.size + 2)) (i := 9) (by omega) (.slice wa (rowsN 32 (nx (rowsSt 4 8 (rowsSt 3 32 (nx (nx (nx (nx (nx (nx st).2).2).2).2).2).2))).2) wc)
  replace hV0 := but_setX (X := (w.heap.size + 2)) (i := 9) hV0 (by omega) (.slice wa (rowsN 32 (nx (rowsSt 4 8 (rowsSt 3 32 (nx (nx (nx (nx (nx (nx st).2).2).2).2).2).2))).2) wc)
  replace hBV := set_far (b := (w.heap.size + 2)) (i := 9) (v := (.slice wa (rowsN 32 (nx (rowsSt 4 8 (rowsSt 3 32 (nx (nx (nx (nx (nx (nx st).2).2).2).2).2).2))).2) wc)) hPB hBV
  replace rs := rs.setX (X := (w.heap.size + 2)) (i := 9) (fun b off e => by have := fs b off e; omega) (.slice wa (rowsN 32 (nx (rowsSt 4 8 (rowsSt 3 32 (nx (nx (nx (nx (nx (nx st).2).2).2).2).2).2))).2) wc)
  replace rl := rl.setX (X := (w.heap.size + 2)) (i := 9) (fun b off e => by have := fl b off e; omega) (.slice wa (rowsN 32 (nx (rowsSt 4 8 (rowsSt 3 32 (nx (nx (nx (nx (nx (nx st).2).2).2).2).2).2))).2) wc)
  replace rw := rw.setX (X := (w.heap.size + 2)) (i := 9) (fun b off e => by have := fw b off e; omega) (.slice wa (rowsN 32 (nx (rowsSt 4 8 (rowsSt 3 32 (nx (nx (nx (nx (nx (nx st).2).2).2).2).2).2))).2) wc)
  replace hq := hq.set (i := 0) (by simp) (.int .i64 (nx st).1)
  simp only [List.set_cons_zero] at hq
  replace hRV := hRV.setX (X := (w.heap.size + 1)) (i := 0) (by omega) (.int .i64 (nx st).1)
  replace hV0 := but_setX (X := (w.heap.size + 1)) (i := 0) hV0 (by omega) (.int .i64 (nx st).1)
  replace rs := rs.setX (X := (w.heap.size + 1)) (i := 0) (fun b off e => by have := fs b off e; omega) (.int .i64 (nx st).1)
  replace rl := rl.setX (X := (w.heap.size + 1)) (i := 0) (fun b off e => by have := fl b off e; omega) (.int .i64 (nx st).1)
  replace rw := rw.setX (X := (w.heap.size + 1)) (i := 0) (fun b off e => by have := fw b off e; omega) (.int .i64 (nx st).1)
  replace hq := hq.set (i := 1) (by simp) (.int .i64 (nx (nx st).2).1)
  simp only [List.set_cons_zero, List.set_cons_succ] at hq
  replace hRV := hRV.setX (X := (w.heap.size + 1)) (i := 1) (by omega) (.int .i64 (nx (nx st).2).1)
  replace hV0 := but_setX (X := (w.heap.size + 1)) (i := 1) hV0 (by omega) (.int .i64 (nx (nx st).2).1)
  replace rs := rs.setX (X := (w.heap.size + 1)) (i := 1) (fun b off e => by have := fs b off e; omega) (.int .i64 (nx (nx st).2).1)
  replace rl := rl.setX (X := (w.heap.size + 1)) (i := 1) (fun b off e => by have := fl b off e; omega) (.int .i64 (nx (nx st).2).1)
  replace rw := rw.setX (X := (w.heap.size + 1)) (i := 1) (fun b off e => by have := fw b off e; omega) (.int .i64 (nx (nx st).2).1)
  replace hq := hq.set (i := 2) (by simp) (.int .i64 (nx (nx (nx st).2).2).1)
  simp only [List.set_cons_zero, List.set_cons_succ] at hq
  replace hRV := hRV.setX (X := (w.heap.size + 1)) (i := 2) (by omega) (.int .i64 (nx (nx (nx st).2).2).1)
  replace hV0 := but_setX (X := (w.heap.size + 1)) (i := 2) hV0 (by omega) (.int .i64 (nx (nx (nx st).2).2).1)
  replace rs := rs.setX (X := (w.heap.size + 1)) (i := 2) (fun b off e => by have := fs b off e; omega) (.int .i64 (nx (nx (nx st).2).2).1)
  replace rl := rl.setX (X := (w.heap.size + 1)) (i := 2) (fun b off e => by have := fl b off e; omega) (.int .i64 (nx (nx (nx st).2).2).1)
  replace rw := rw.setX (X := (w.heap.size + 1)) (i := 2) (fun b off e => by have := fw b off e; omega) (.int .i64 (nx (nx (nx st).2).2).1)
  replace hq := hq.set (i := 3) (by simp) (.int .i64 (nx (nx (nx (nx st).2).2).2).1)
  simp only [List.set_cons_zero, List.set_cons_succ] at hq
  replace hRV := hRV.setX (X := (w.heap.size + 1)) (i := 3) (by omega) (.int .i64 (nx (nx (nx (nx st).2).2).2).1)
  replace hV0 := but_setX (X := (w.heap.size + 1)) (i := 3) hV0 (by omega) (.int .i64 (nx (nx (nx (nx st).2).2).2).1)
  replace rs := rs.setX (X := (w.heap.size + 1)) (i := 3) (fun b off e => by have := fs b off e; omega) (.int .i64 (nx (nx (nx (nx st).2).2).2).1)
  replace rl := rl.setX (X := (w.heap.size + 1)) (i := 3) (fun b off e => by have := fl b off e; omega) (.int .i64 (nx (nx (nx (nx st).2).2).2).1)
  replace rw := rw.setX (X := (w.heap.size + 1)) (i := 3) (fun b off e => by have := fw b off e; omega) (.int .i64 (nx (nx (nx (nx st).2).2).2).1)
  replace hq := hq.set (i := 4) (by simp) (.int .i64 (nx (nx (nx (nx (nx st).2).2).2).2).1)
  simp only [List.set_cons_zero, List.set_cons_succ] at hq
  replace hRV := hRV.setX (X := (w.heap.size + 1)) (i := 4) (by omega) (.int .i64 (nx (nx (nx (nx (nx st).2).2).2).2).1)
  replace hV0 := but_setX (X := (w.heap.size + 1)) (i := 4) hV0 (by omega) (.int .i64 (nx (nx (nx (nx (nx st).2).2).2).2).1)
  replace rs := rs.setX (X := (w.heap.size + 1)) (i := 4) (fun b off e => by have := fs b off e; omega) (.int .i64 (nx (nx (nx (nx (nx st).2).2).2).2).1)
  replace rl := rl.setX (X := (w.heap.size + 1)) (i := 4) (fun b off e => by have := fl b off e; omega) (.int .i64 (nx (nx (nx (nx (nx st).2).2).2).2).1)
  replace rw := rw.setX (X := (w.heap.size + 1)) (i := 4) (fun b off e => by have := fw b off e; omega) (.int .i64 (nx (nx (nx (nx (nx st).2).2).2).2).1)
  replace hq := hq.set (i := 5) (by simp) (.int .i64 (nx (nx (nx (nx (nx (nx st).2).2).2).2).2).1)
  simp only [List.set_cons_zero, List.set_cons_succ] at hq
  replace hRV := hRV.setX (X := (w.heap.size + 1)) (i := 5) (by omega) (.int .i64 (nx (nx (nx (nx (nx (nx st).2).2).2).2).2).1)
  replace hV0 := but_setX (X := (w.heap.size + 1)) (i := 5) hV0 (by omega) (.int .i64 (nx (nx (nx (nx (nx (nx st).2).2).2).2).2).1)
  replace rs := rs.setX (X := (w.heap.size + 1)) (i := 5) (fun b off e => by have := fs b off e; omega) (.int .i64 (nx (nx (nx (nx (nx (nx st).2).2).2).2).2).1)
  replace rl := rl.setX (X := (w.heap.size + 1)) (i := 5) (fun b off e => by have := fl b off e; omega) (.int .i64 (nx (nx (nx (nx (nx (nx st).2).2).2).2).2).1)
  replace rw := rw.setX (X := (w.heap.size + 1)) (i := 5) (fun b off e => by have := fw b off e; omega) (.int .i64 (nx (nx (nx (nx (nx (nx st).2).2).2).2).2).1)
  replace hq := hq.set (i := 6) (by simp) (.slice sa (rowsN 32 (nx (nx (nx (nx (nx (nx st).2).2).2).2).2).2) sc)
  simp only [List.set_cons_zero, List.set_cons_succ] at hq
  replace hRV := hRV.setX (X := (w.heap.size + 1)) (i := 6) (by omega) (.slice sa (rowsN 32 (nx (nx (nx (nx (nx (nx st).2).2).2).2).2).2) sc)
  replace hV0 := but_setX (X := (w.heap.size + 1)) (i := 6) hV0 (by omega) (.slice sa (rowsN 32 (nx (nx (nx (nx (nx (nx st).2).2).2).2).2).2) sc)
  replace rs := rs.setX (X := (w.heap.size + 1)) (i := 6) (fun b off e => by have := fs b off e; omega) (.slice sa (rowsN 32 (nx (nx (nx (nx (nx (nx st).2).2).2).2).2).2) sc)
  replace rl := rl.setX (X := (w.heap.size + 1)) (i := 6) (fun b off e => by have := fl b off e; omega) (.slice sa (rowsN 32 (nx (nx (nx (nx (nx (nx st).2).2).2).2).2).2) sc)
  replace rw := rw.setX (X := (w.heap.size + 1)) (i := 6) (fun b off e => by have := fw b off e; omega) (.slice sa (rowsN 32 (nx (nx (nx (nx (nx (nx st).2).2).2).2).2).2) sc)
  replace hq := hq.set (i := 7) (by simp) (.slice la (rowsN 8 (rowsSt 3 32 (nx (nx (nx (nx (nx (nx st).2).2).2).2).2).2)) lc)
  simp only [List.set_cons_zero, List.set_cons_succ] at hq
  replace hRV := hRV.setX (X := (w.heap.size + 1)) (i := 7) (by omega) (.slice la (rowsN 8 (rowsSt 3 32 (nx (nx (nx (nx (nx (nx st).2).2).2).2).2).2)) lc)
  replace hV0 := but_setX (X := (w.heap.size + 1)) (i := 7) hV0 (by omega) (.slice la (rowsN 8 (rowsSt 3 32 (nx (nx (nx (nx (nx (nx st).2).2).2).2).2).2)) lc)
  replace rs := rs.setX (X := (w.heap.size + 1)) (i := 7) (fun b off e => by have := fs b off e; omega) (.slice la (rowsN 8 (rowsSt 3 32 (nx (nx (nx (nx (nx (nx st).2).2).2).2).2).2)) lc)
  replace rl := rl.setX (X := (w.heap.size + 1)) (i := 7) (fun b off e => by have := fl b off e; omega) (.slice la (rowsN 8 (rowsSt 3 32 (nx (nx (nx (nx (nx (nx st).2).2).2).2).2).2)) lc)
  replace rw := rw.setX (X := (w.heap.size + 1)) (i := 7) (fun b off e => by have := fw b off e; omega) (.slice la (rowsN 8 (rowsSt 3 32 (nx (nx (nx (nx (nx (nx st).2).2).2).2).2).2)) lc)
  replace hq := hq.set (i := 8) (by simp) (.int .i64 (nx (rowsSt 4 8 (rowsSt 3 32 (nx (nx (nx (nx (nx (nx st).2).2).2).2).2).2))).1)
  simp only [List.set_cons_zero, List.set_cons_succ] at hq
  replace hRV := hRV.setX (X := (w.heap.size + 1)) (i := 8) (by omega) (.int .i64 (nx (rowsSt 4 8 (rowsSt 3 32 (nx (nx (nx (nx (nx (nx st).2).2).2).2).2).2))).1)
  replace hV0 := but_setX (X := (w.heap.size + 1)) (i := 8) hV0 (by omega) (.int .i64 (nx (rowsSt 4 8 (rowsSt 3 32 (nx (nx (nx (nx (nx (nx st).2).2).2).2).2).2))).1)
  replace rs := rs.setX (X := (w.heap.size + 1)) (i := 8) (fun b off e => by have := fs b off e; omega) (.int .i64 (nx (rowsSt 4 8 (rowsSt 3 32 (nx (nx (nx (nx (nx (nx st).2).2).2).2).2).2))).1)
  replace rl := rl.setX (X := (w.heap.size + 1)) (i := 8) (fun b off e => by have := fl b off e; omega) (.int .i64 (nx (rowsSt 4 8 (rowsSt 3 32 (nx (nx (nx (nx (nx (nx st).2).2).2).2).2).2))).1)
  replace rw := rw.setX (X := (w.heap.size + 1)) (i := 8) (fun b off e => by have := fw b off e; omega) (.int .i64 (nx (rowsSt 4 8 (rowsSt 3 32 (nx (nx (nx (nx (nx (nx st).2).2).2).2).2).2))).1)
  replace hq := hq.set (i := 9) (by simp) (.slice wa (rowsN 32 (nx (rowsSt 4 8 (rowsSt 3 32 (nx (nx (nx (nx (nx (nx st).2).2).2).2).2).2))).2) wc)
  simp only [List.set_cons_zero, List.set_cons_succ] at hq
  replace hRV := hRV.setX (X := (w.heap.size + 1)) (i := 9) (by omega) (.slice wa (rowsN 32 (nx (rowsSt 4 8 (rowsSt 3 32 (nx (nx (nx (nx (nx (nx st).2).2).2).2).2).2))).2) wc)
  replace hV0 := but_setX (X := (w.heap.size + 1)) (i := 9) hV0 (by omega) (.slice wa (rowsN 32 (nx (rowsSt 4 8 (rowsSt 3 32 (nx (nx (nx (nx (nx (nx st).2).2).2).2).2).2))).2) wc)
  replace rs := rs.setX (X := (w.heap.size + 1)) (i := 9) (fun b off e => by have := fs b off e; omega) (.slice wa (rowsN 32 (nx (rowsSt 4 8 (rowsSt 3 32 (nx (nx (nx (nx (nx (nx st).2).2).2).2).2).2))).2) wc)
  replace rl := rl.setX (X := (w.heap.size + 1)) (i := 9) (fun b off e => by have := fl b off e; omega) (.slice wa (rowsN 32 (nx (rowsSt 4 8 (rowsSt 3 32 (nx (nx (nx (nx (nx (nx st).2).2).2).2).2).2))).2) wc)
  replace rw := rw.setX (X := (w.heap.size + 1)) (i := 9) (fun b off e => by have := fw b off e; omega) (.slice wa (rowsN 32 (nx (rowsSt 4 8 (rowsSt 3 32 (nx (nx (nx (nx (nx (nx st).2).2).2).2).2).2))).2) wc)
  clear p0 q0 k0 p1 q1 k1 p2 q2 k2 p3 q3 k3 p4 q4 k4 p5 q5 k5 p6 q6 k6 p7 q7 k7 p8 q8 k8 p9 q9 k9
  obtain ⟨y0, _⟩ := hq 0 _ rfl
  obtain ⟨y1, _⟩ := hq 1 _ rfl
  obtain ⟨y2, _⟩ := hq 2 _ rfl
  obtain ⟨y3, _⟩ := hq 3 _ rfl
  obtain ⟨y4, _⟩ := hq 4 _ rfl
  obtain ⟨y5, _⟩ := hq 5 _ rfl
  obtain ⟨y6, _⟩ := hq 6 _ rfl
  obtain ⟨y7, _⟩ := hq 7 _ rfl
  obtain ⟨y8, _⟩ := hq 8 _ rfl
  obtain ⟨y9, _⟩ := hq 9 _ rfl
  refine bodyPost_ret (v := .agg #[(.int .i64 (nx st).1), (.int .i64 (nx (nx st).2).1), (.int .i64 (nx (nx (nx st).2).2).1), (.int .i64 (nx (nx (nx (nx st).2).2).2).1), (.int .i64 (nx (nx (nx (nx (nx st).2).2).2).2).1), (.int .i64 (nx (nx (nx (nx (nx (nx st).2).2).2).2).2).1), (.slice sa (rowsN 32 (nx (nx (nx (nx (nx (nx st).2).2).2).2).2).2) sc), (.slice la (rowsN 8 (rowsSt 3 32 (nx (nx (nx (nx (nx (nx st).2).2).2).2).2).2)) lc), (.int .i64 (nx (rowsSt 4 8 (rowsSt 3 32 (nx (nx (nx (nx (nx (nx st).2).2).2).2).2).2))).1), (.slice wa (rowsN 32 (nx (rowsSt 4 8 (rowsSt 3 32 (nx (nx (nx (nx (nx (nx st).2).2).2).2).2).2))).2) wc)]) (by simp [results, Try.results16, go_sem, y0, y1, y2, y3, y4, y5, y6, y7, y8, y9]) rfl ⟨sa, sc, la, lc, wa, wc, rfl, ⟨fun b off e => by have := fs b off e; omega, fun b off e => by have := fl b off e; omega, fun b off e => by have := fw b off e; omega⟩, rs, rl, rw, hRV, hV0⟩
end Go.Proofs.Ytlpojkehbhkdiaa
