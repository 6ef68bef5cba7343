/- Rows that grow one behind the other in one table: what stays. -/
import Derived.Test.YtfofaaagenclmabDoorHalvesParts
import Derived.Deep.AppendLies
namespace Go.Proofs.YtfofaaagenclmabDoor
open Go.RowKit Go.Shelf Go.Sort

theorem cell_in {w : World} {b off : Nat} {v : Value} (h : w.cell? ⟨b, off, none⟩ = some v) : b < w.heap.size := by
  rcases Nat.lt_or_ge b w.heap.size with q | q
  · exact q
  · simp [World.cell?, Array.getElem?_eq_none q] at h

theorem owns_set' {w : World} {base : Nat} {e : TypeId} {size : Nat} {v : Value} {n : Nat} {xs : List Value} {b i : Nat} {x : Value} (h : w.ownsRow base e size v n xs) (hb : b < base) : (w.setCell ⟨b, i, none⟩ x).ownsRow base e size v n xs := by
  obtain ⟨h1, h2⟩ := h
  refine ⟨h1, ?_⟩
  rcases h2 with h2 | ⟨g, cap, cur, rfl, hg, hh, r⟩
  · exact .inl h2
  · refine .inr ⟨g, cap, cur, rfl, hg, ?_, r⟩
    rw [← hh]
    have : b ≠ g := by omega
    simp [World.setCell, Array.getElem?_modify, this]

/-- Below a bound nothing is turned but one cell. -/
structure But1 (R i Bi : Nat) (w w' : World) : Prop where
  os : w'.os = w.os
  tape : w'.tape = w.tape
  output : w'.output = w.output
  size : w.heap.size ≤ w'.heap.size
  block : ∀ k, k < Bi → k ≠ R → w'.heap[k]? = w.heap[k]?
  cell : ∀ j, j ≠ i → w'.cell? ⟨R, j, none⟩ = w.cell? ⟨R, j, none⟩
  frozen : ∀ j, w'.frozen? ⟨R, j, none⟩ = w.frozen? ⟨R, j, none⟩

theorem But1.refl (R i Bi : Nat) (w : World) : But1 R i Bi w w := ⟨rfl, rfl, rfl, Nat.le_refl _, fun _ _ _ => rfl, fun _ _ => rfl, fun _ => rfl⟩
theorem But1.drewN {R i Bi : Nat} {w u : World} (h : But1 R i Bi w u) (q : Nat) : But1 R i Bi w (u.drewN q) := ⟨h.os, h.tape, h.output, h.size, h.block, h.cell, h.frozen⟩
theorem But1.alloc {R i Bi : Nat} {w u : World} (h : But1 R i Bi w u) (hB : Bi ≤ u.heap.size) (hR : R < Bi) (o : Obj) : But1 R i Bi w (u.alloc o) :=
  have hA : Below u.heap.size u (u.alloc o) := (Below.refl _ _).alloc (Nat.le_refl _) _
  ⟨h.os, h.tape, h.output, Nat.le_trans h.size hA.size, fun k hk hn => (hA.block k (by omega)).trans (h.block k hk hn), fun j hj => (hA.cell (p := ⟨R, j, none⟩) (by show R < _; omega)).trans (h.cell j hj), fun j => (hA.frozen (p := ⟨R, j, none⟩) (by show R < _; omega)).trans (h.frozen j)⟩
theorem But1.grown {R i Bi : Nat} {w u u' : World} {row : Option Nat} (h : But1 R i Bi w u) (hg : u.grownBy u' row) (hB : Bi ≤ u.heap.size) (hR : R < Bi) (hr : ∀ k, row = some k → Bi ≤ k) : But1 R i Bi w u' :=
  have hA : Below Bi u u' := (Below.refl _ _).grown hg hB hr
  ⟨hg.os.trans h.os, hg.tape.trans h.tape, hg.output.trans h.output, Nat.le_trans h.size hg.size, fun k hk hn => (hA.block k hk).trans (h.block k hk hn), fun j hj => (hA.cell (p := ⟨R, j, none⟩) hR).trans (h.cell j hj), fun j => (hA.frozen (p := ⟨R, j, none⟩) hR).trans (h.frozen j)⟩
theorem But1.set {R i Bi : Nat} {w u : World} (h : But1 R i Bi w u) (x : Value) : But1 R i Bi w (u.setCell ⟨R, i, none⟩ x) :=
  ⟨h.os, h.tape, h.output, by simpa [World.setCell] using h.size, fun k hk hn => (Below.heap_setCell _ _ _ k (by show k ≠ R; omega)).trans (h.block k hk hn), fun j hj => by
    rw [← h.cell j hj]
    exact World.cell?_setCell_other _ _ _ _ (by intro e; injection e with _ e2; exact hj e2.symm), fun j => by rw [World.frozen?_setCell]; exact h.frozen j⟩
theorem But1.below {R i Bi : Nat} {w u : World} (h : But1 R i Bi w u) (hR : R < Bi) : Below R w u := ⟨h.os, h.tape, h.output, h.size, fun k hk => h.block k (by omega) (by omega)⟩

/-- The first rows of a table, whole, none of them where another row grows. -/
def Kept (w : World) (R i : Nat) (rb : Option Nat) (L : Nat → List Int) : Prop :=
  ∀ j, j < i → ∃ g cap, w.cell? ⟨R, j, none⟩ = some (.slice (some ⟨g, 0, none⟩) (L j).length cap) ∧ g < w.heap.size ∧ g ≠ R ∧ rb ≠ some g ∧ ∀ k, k < (L j).length → w.cell? ⟨g, k, none⟩ = some (.int .i64 ((L j).getD k 0))

theorem Kept.but1 {w w' : World} {R i : Nat} {rb : Option Nat} {L : Nat → List Int} (h : Kept w R i rb L) (hb : But1 R i w.heap.size w w') : Kept w' R i rb L := fun j hj => by
  obtain ⟨g, cap, h1, h2, h3, h4, h5⟩ := h j hj
  exact ⟨g, cap, (hb.cell j (by omega)).trans h1, Nat.lt_of_lt_of_le h2 hb.size, h3, h4, fun k hk => (World.cell?_of_block (a := ⟨g, k, none⟩) (hb.block g h2 h3)).trans (h5 k hk)⟩
theorem Kept.below {w w' : World} {R i : Nat} {rb : Option Nat} {L : Nat → List Int} (h : Kept w R i rb L) (hb : Below w.heap.size w w') : Kept w' R i rb L := fun j hj => by
  obtain ⟨g, cap, h1, h2, h3, h4, h5⟩ := h j hj
  exact ⟨g, cap, (hb.cell (p := ⟨R, j, none⟩) (cell_in h1)).trans h1, Nat.lt_of_lt_of_le h2 hb.size, h3, h4, fun k hk => (hb.cell (p := ⟨g, k, none⟩) h2).trans (h5 k hk)⟩
theorem Kept.right {w w' : World} {R i : Nat} {rb rb' : Option Nat} {L : Nat → List Int} (h : Kept w R i rb L) (hg : w.grownBy w' rb) (hR : rb ≠ some R) (hn : rb' = rb ∨ rb' = some w.heap.size) : Kept w' R i rb' L := fun j hj => by
  obtain ⟨g, cap, h1, h2, h3, h4, h5⟩ := h j hj
  refine ⟨g, cap, (World.cell?_of_block (a := ⟨R, j, none⟩) (hg.block R (cell_in h1) (Ne.symm hR))).trans h1, Nat.lt_of_lt_of_le h2 hg.size, h3, ?_, fun k hk => (World.cell?_of_block (a := ⟨g, k, none⟩) (hg.block g h2 (Ne.symm h4))).trans (h5 k hk)⟩
  rcases hn with rfl | rfl
  · exact h4
  · intro e; injection e with e; omega
theorem Kept.snoc {w : World} {R i Bi n : Nat} {rb : Option Nat} {L : Nat → List Int} {v : Value} (h : Kept w R i rb L) (hc : w.cell? ⟨R, i, none⟩ = some v) (ho : w.ownsRow Bi 3 1 v n ((L i).map (Value.int .i64))) (hn : 0 < n) (hR : R < Bi) (hb : ∀ k, rb = some k → k < Bi) : Kept w R (i + 1) rb L := fun j hj => by
  rcases Nat.lt_succ_iff_lt_or_eq.1 hj with q | q
  · exact h j q
  · subst q
    have hl : (L j).length = n := by simpa using ho.1
    obtain ⟨g, cap, rfl, hg, hlt, _, _, _, hH⟩ := Lib.holds_of_ownsRow ho (fun e => by
      rcases ho.2 with ⟨_, e1⟩ | ⟨g, cap, cur, hv, _⟩
      · omega
      · rw [hv] at e; cases e)
    exact ⟨g, cap, by rw [hc, hl], hlt, by omega, fun e => by have := hb g e; omega, fun k hk => cell_of_holds hH k hk⟩
theorem Kept.tab {w : World} {R n : Nat} {rb : Option Nat} {L : Nat → List Int} (h : Kept w R n rb L) (hR : R < w.heap.size) : TabRow w (some ⟨R, 0, none⟩) ((List.range n).map L) := fun _ => by
  refine ⟨R, 0, rfl, hR, fun j hj => ?_⟩
  have hj : j < n := by simpa using hj
  obtain ⟨g, cap, h1, h2, h3, h4, h5⟩ := h j hj
  have e : ((List.range n).map L).getD j [] = L j := by simp [List.getD, hj]
  rw [e, Nat.zero_add]
  exact ⟨some ⟨g, 0, none⟩, cap, h1, fun _ => ⟨g, 0, rfl, h2, fun k hk => by rw [Nat.zero_add]; exact h5 k hk⟩⟩

/-- Behind so many rounds. -/
structure Outer (w2 : World) (R B3 n : Nat) (L : Nat → List Int) (right : Nat → List Int) (m : Nat) (rv : Value) (i : Nat) (w : World) : Prop where
  own : w.ownsRow B3 3 1 rv m ((right m).map (Value.int .i64))
  kept : Kept w R i rv.ownBlock L
  free : ∀ j, i ≤ j → j < n → w.cell? ⟨R, j, none⟩ = some (.slice none 0 0)
  soft : ∀ j, j < n → w.frozen? ⟨R, j, none⟩ = false
  old : Below R w2 w
  size : B3 ≤ w.heap.size

/-- While a row grows. -/
structure Inner (w2 wi : World) (R i : Nat) (L : Nat → List Int) (k : Nat) (v : Value) (w : World) : Prop where
  own : w.ownsRow wi.heap.size 3 1 v k ((L k).map (Value.int .i64))
  cell : w.cell? ⟨R, i, none⟩ = some v
  soft : w.frozen? ⟨R, i, none⟩ = false
  but : But1 R i wi.heap.size wi w
  old : Below R w2 w
  size : wi.heap.size ≤ w.heap.size

theorem Inner.drewN {w2 wi : World} {R i : Nat} {L : Nat → List Int} {k : Nat} {v : Value} {w : World} (h : Inner w2 wi R i L k v w) (q : Nat) : Inner w2 wi R i L k v (w.drewN q) :=
  ⟨h.own, h.cell, h.soft, h.but.drewN q, below_drewN' h.old q, h.size⟩

/-- One reading more. -/
theorem Inner.next {w2 wi : World} {R i : Nat} {L : Nat → List Int} {k : Nat} {v v' : Value} {w w' : World} {o : Obj} {x : Int} (h : Inner w2 wi R i L k v w) (hL : L (k + 1) = L k ++ [x]) (hR : R < wi.heap.size) (hR2 : R = w2.heap.size)
    (ho : w'.ownsRow wi.heap.size 3 1 v' (k + 1) ((L k).map (Value.int .i64) ++ [.int .i64 x])) (hg : (w.alloc o).grownBy w' v.ownBlock) : Inner w2 wi R i L (k + 1) v' (w'.setCell ⟨R, i, none⟩ v') ∧ w'.cell? ⟨R, i, none⟩ = some v ∧ w'.frozen? ⟨R, i, none⟩ = false := by
  have hrow : ∀ k, v.ownBlock = some k → wi.heap.size ≤ k := fun k hk => (h.own.lt k hk).1
  have hB : But1 R i wi.heap.size wi w' := (h.but.alloc h.size hR o).grown hg (by simp; have := h.size; omega) hR hrow
  have hA : Below w.heap.size w (w.alloc o) := (Below.refl _ _).alloc (Nat.le_refl _) _
  have hG : Below wi.heap.size (w.alloc o) w' := (Below.refl _ _).grown hg (by simp; have := h.size; omega) hrow
  have hRw : R < w.heap.size := Nat.lt_of_lt_of_le hR h.size
  have hc : w'.cell? ⟨R, i, none⟩ = some v := ((hG.cell (p := ⟨R, i, none⟩) hR).trans (hA.cell (p := ⟨R, i, none⟩) hRw)).trans h.cell
  have hf : w'.frozen? ⟨R, i, none⟩ = false := ((hG.frozen (p := ⟨R, i, none⟩) hR).trans (hA.frozen (p := ⟨R, i, none⟩) hRw)).trans h.soft
  refine ⟨⟨?_, ?_, ?_, hB.set v', ?_, ?_⟩, hc, hf⟩
  · rw [hL, List.map_append]
    exact owns_set' ho hR
  · exact World.cell?_setCell_same _ _ _ hc
  · rw [World.frozen?_setCell]; exact hf
  · have := (h.old.alloc (by omega) o).grown hg (by simp; omega) (fun k hk => by have := hrow k hk; omega)
    exact this.setCell (p := ⟨R, i, none⟩) (Nat.le_refl _) _
  · have := hB.size
    simpa [World.setCell] using this

theorem own_ints {w : World} {base n : Nat} {v : Value} {l : List Int} (h : w.ownsRow base 3 1 v n (l.map (Value.int .i64))) : ∃ a cap, v = .slice a n cap ∧ n ≤ cap ∧ l.length = n ∧ IntRow w a l := by
  have hl : l.length = n := by simpa using h.1
  by_cases h0 : n = 0
  · subst h0
    rcases h.2 with ⟨e0, _⟩ | ⟨g, cap, cur, hv, _⟩
    · exact ⟨none, 0, e0, Nat.le_refl _, hl, fun q => by omega⟩
    · exact ⟨some ⟨g, 0, none⟩, cap, hv, Nat.zero_le _, hl, fun q => by omega⟩
  · obtain ⟨g, cap, hv, _, hlt, hc, _, _, hH⟩ := Lib.holds_of_ownsRow h (fun e => by
      rcases h.2 with ⟨_, e1⟩ | ⟨g, cap, cur, hv, _⟩
      · omega
      · rw [hv] at e; cases e)
    exact ⟨some ⟨g, 0, none⟩, cap, hv, hc, hl, fun _ => ⟨g, 0, rfl, hlt, fun j hj => by rw [Nat.zero_add]; exact cell_of_holds hH j hj⟩⟩

theorem own_one {w : World} {base n : Nat} {v : Value} {l : List Value} (h : w.ownsRow base 3 1 v (n + 1) l) : ∃ g cap, v = .slice (some ⟨g, 0, none⟩) (n + 1) cap := by
  rcases h.2 with ⟨_, q⟩ | ⟨g, cap, cur, hv, _⟩
  · omega
  · exact ⟨g, cap, hv⟩

/-- A row is whole: one more of the table. -/
theorem Outer.row {w2 wi w : World} {R B3 n m i : Nat} {L : Nat → List Int} {right : Nat → List Int} {rv v : Value} {M : Nat → List Int} (h : Outer w2 R B3 n L right m rv i wi) (hI : Inner w2 wi R i M n v w) (hM : M n = L i) (hR : R < B3) (hn : 0 < n) : Outer w2 R B3 n L right m rv (i + 1) w := by
  have hRi : R < wi.heap.size := Nat.lt_of_lt_of_le hR h.size
  have hlt : ∀ k, rv.ownBlock = some k → B3 ≤ k ∧ k < wi.heap.size := fun k hk => h.own.lt k hk
  refine ⟨?_, ?_, fun j h1 h2 => (hI.but.cell j (by omega)).trans (h.free j (by omega) h2), fun j hj => (hI.but.frozen j).trans (h.soft j hj), hI.old, Nat.le_trans h.size hI.size⟩
  · obtain ⟨h1, h2⟩ := h.own
    refine ⟨h1, ?_⟩
    rcases h2 with h2 | ⟨g, cap, cur, hv, hg, hh, r⟩
    · exact .inl h2
    · refine .inr ⟨g, cap, cur, hv, hg, ?_, r⟩
      have := hlt g (by rw [hv]; rfl)
      rw [hI.but.block g this.2 (by omega)]
      exact hh
  · exact (h.kept.but1 hI.but).snoc hI.cell (hM ▸ hI.own) hn hRi (fun k hk => (hlt k hk).2)

/-- One more of those that are right. -/
theorem Outer.push {w2 w w' : World} {R B3 n m i : Nat} {L : Nat → List Int} {right : Nat → List Int} {rv rv' : Value} {o : Obj} {x : Int} (h : Outer w2 R B3 n L right m rv i w) (hL : right (m + 1) = right m ++ [x]) (hR : R < B3) (hR2 : R = w2.heap.size)
    (ho : w'.ownsRow B3 3 1 rv' (m + 1) ((right m).map (Value.int .i64) ++ [.int .i64 x])) (hg : (w.alloc o).grownBy w' rv.ownBlock) (hat : rv'.ownBlock = rv.ownBlock ∨ rv'.ownBlock = some (w.alloc o).heap.size) : Outer w2 R B3 n L right (m + 1) rv' i w' := by
  have hlt : ∀ k, rv.ownBlock = some k → B3 ≤ k ∧ k < w.heap.size := fun k hk => h.own.lt k hk
  have hA : Below w.heap.size w (w.alloc o) := (Below.refl _ _).alloc (Nat.le_refl _) _
  have hRw : R < w.heap.size := Nat.lt_of_lt_of_le hR h.size
  have hs : w.heap.size ≤ (w.alloc o).heap.size := hA.size
  have hG : Below B3 (w.alloc o) w' := (Below.refl _ _).grown hg (Nat.le_trans h.size hs) (fun k hk => (hlt k hk).1)
  refine ⟨?_, ?_, fun j h1 h2 => ((hG.cell (p := ⟨R, j, none⟩) hR).trans (hA.cell (p := ⟨R, j, none⟩) hRw)).trans (h.free j h1 h2), fun j hj => ((hG.frozen (p := ⟨R, j, none⟩) hR).trans (hA.frozen (p := ⟨R, j, none⟩) hRw)).trans (h.soft j hj), ?_, Nat.le_trans h.size (Nat.le_trans hs hg.size)⟩
  · rw [hL, List.map_append]; exact ho
  · exact (h.kept.below hA).right hg (fun e => by have := hlt R e; omega) hat
  · exact (h.old.alloc (by omega) o).grown hg (by omega) (fun k hk => by have := hlt k hk; omega)
end Go.Proofs.YtfofaaagenclmabDoor
