/- Small words for the loops of the document's answer's Decode. -/
import Derived.Test.YtlpojkehbhkdiaaDoorRefDecode1
import Derived.Laws.EntriesVeiled
namespace Go.Proofs.YtlpojkehbhkdiaaDoor
open Go.RowKit

theorem PCells.but2 {P A B : Nat} {l : List Value} {u u' : World} (h : PCells P l u) (hb : But2 A B u u') (h1 : P ≠ A) (h2 : P ≠ B) : PCells P l u' := fun i v hi => ⟨hb.cell (h i v hi).1 h1 h2, hb.frozen (h i v hi).1 (h i v hi).2 h1 h2⟩
theorem But2.below {A B k : Nat} {u u' : World} (h : But2 A B u u') (hA : k ≤ A) (hB : k ≤ B) (hk : k ≤ u.heap.size) : Below k u u' := ⟨h.os, h.tape, h.output, h.size, fun i hi => h.block i (by omega) (by omega) (by omega)⟩
theorem undrew2 {A B : Nat} {V u : World} (h : But2 A B V.drew u) : But2 A B V u := ⟨h.os, h.tape, h.output, h.size, h.block⟩

/-- What is owned above both blocks stays owned. -/
theorem owns_but2 {A B : Nat} {w w' : World} {base : Nat} {e : TypeId} {size : Nat} {v : Value} {n : Nat} {xs : List Value} (h : w.ownsRow base e size v n xs) (hb : But2 A B w w') (hA : A < base) (hB : B < base) : w'.ownsRow base e size v n xs := by
  obtain ⟨h1, h2⟩ := h
  refine ⟨h1, ?_⟩
  rcases h2 with h2 | ⟨g, cap, cur, rfl, hg, hh, r⟩
  · exact .inl h2
  · refine .inr ⟨g, cap, cur, rfl, hg, ?_, r⟩
    have hlt : g < w.heap.size := by
      rcases Nat.lt_or_ge g w.heap.size with q | q
      · exact q
      · rw [Array.getElem?_eq_none q] at hh; cases hh
    rw [hb.block g hlt (by omega) (by omega)]; exact hh
/-- A store into another block leaves what is owned. -/
theorem owns_set {w : World} {base : Nat} {e : TypeId} {size : Nat} {v : Value} {n : Nat} {xs : List Value} (h : w.ownsRow base e size v n xs) {X i : Nat} (hX : v.ownBlock ≠ some X) (x : Value) : (w.setCell ⟨X, i, none⟩ x).ownsRow base e size v n xs := by
  obtain ⟨h1, h2⟩ := h
  refine ⟨h1, ?_⟩
  rcases h2 with h2 | ⟨g, cap, cur, rfl, hg, hh, r⟩
  · exact .inl h2
  · refine .inr ⟨g, cap, cur, rfl, hg, ?_, r⟩
    rw [Below.heap_setCell _ _ _ g (by intro e; exact hX (by rw [e]; rfl))]
    exact hh
theorem PCells.grown {P : Nat} {l : List Value} {u u' : World} {row : Option Nat} (h : PCells P l u) (hg : u.grownBy u' row) (hr : row ≠ some P) : PCells P l u' := fun i v hi =>
  have hb := hg.block P (lt_of_cell (h i v hi).1) (fun e => hr e.symm)
  ⟨(World.cell?_of_block (w := u) hb).trans (h i v hi).1, (World.frozen?_of_block (w := u) hb).trans (h i v hi).2⟩
theorem cell_grown {u u' : World} {row : Option Nat} {X i : Nat} {v : Value} (h : u.cell? ⟨X, i, none⟩ = some v) (hg : u.grownBy u' row) (hr : row ≠ some X) : u'.cell? ⟨X, i, none⟩ = some v :=
  (World.cell?_of_block (w := u) (hg.block X (lt_of_cell h) (fun e => hr e.symm))).trans h
theorem NSt.grown {K : Nat} {w w' : World} {A B : Nat} {st : St} {row : Option Nat} (h : NSt K w A B st) (hg : w.grownBy w' row) (hr : ∀ k, k ≤ max A B → row ≠ some k) (hA : A < w.heap.size) (hB : B < w.heap.size) : NSt K w' A B st := h.kept (fun k hk => hg.block k (by omega) (fun e => hr k hk e.symm))
theorem own_far {w : World} {base : Nat} {e : TypeId} {size : Nat} {v : Value} {n : Nat} {xs : List Value} (h : w.ownsRow base e size v n xs) {k : Nat} (hk : k < base) : v.ownBlock ≠ some k := fun q => by have := (h.lt k q).1; omega
theorem own_new_far {w : World} {base : Nat} {e : TypeId} {size : Nat} {v : Value} {n : Nat} {xs : List Value} (h : w.ownsRow base e size v n xs) {k : Nat} (hk : w.heap.size ≤ k) : v.ownBlock ≠ some k := fun q => by have := (h.lt k q).2; omega
theorem st_three (s : St) (j : Nat) : stAt s (3 * (j + 1)) = (nx (nx (nx (stAt s (3 * j))).2).2).2 := rfl
theorem st_two {q : St} (h : (nx (nx (nx q).2).2).2 ≠ none) : q ≠ none ∧ (nx q).2 ≠ none ∧ (nx (nx q).2).2 ≠ none := by
  refine ⟨?_, ?_, ?_⟩
  · rintro rfl; exact h rfl
  · intro e; rw [e] at h; exact h rfl
  · intro e; rw [e] at h; exact h rfl
theorem owns_slice {w : World} {base : Nat} {e : TypeId} {size : Nat} {v : Value} {n : Nat} {xs : List Value} (h : w.ownsRow base e size v (n + 1) xs) : ∃ g cap, v = .slice (some ⟨g, 0, none⟩) (n + 1) cap := by
  rcases h.2 with ⟨_, q⟩ | ⟨g, cap, cur, hv, _⟩
  · omega
  · exact ⟨g, cap, hv⟩
/-- Below a bound nothing but three blocks is turned. -/
structure Frm (A B P Bz : Nat) (w w' : World) : Prop where
  os : w'.os = w.os
  tape : w'.tape = w.tape
  output : w'.output = w.output
  size : w.heap.size ≤ w'.heap.size
  block : ∀ k, k < Bz → k ≠ A → k ≠ B → k ≠ P → w'.heap[k]? = w.heap[k]?
theorem Frm.refl (A B P Bz : Nat) (w : World) : Frm A B P Bz w w := ⟨rfl, rfl, rfl, Nat.le_refl _, fun _ _ _ _ _ => rfl⟩
theorem Frm.alloc {A B P Bz : Nat} {w u : World} (h : Frm A B P Bz w u) (hz : Bz ≤ u.heap.size) (o : Obj) : Frm A B P Bz w (u.alloc o) :=
  ⟨h.os, h.tape, h.output, Nat.le_trans h.size (by simp), fun k hk h1 h2 h3 => (Below.heap_alloc u o k (by omega)).trans (h.block k hk h1 h2 h3)⟩
theorem Frm.but2 {A B P Bz : Nat} {w u u' : World} (h : Frm A B P Bz w u) (hb : But2 A B u u') (hz : Bz ≤ u.heap.size) : Frm A B P Bz w u' :=
  ⟨hb.os.trans h.os, hb.tape.trans h.tape, hb.output.trans h.output, Nat.le_trans h.size hb.size, fun k hk h1 h2 h3 => (hb.block k (by omega) h1 h2).trans (h.block k hk h1 h2 h3)⟩
theorem Frm.set {A B P Bz : Nat} {w u : World} (h : Frm A B P Bz w u) {X i : Nat} (hX : X = P ∨ Bz ≤ X) (x : Value) : Frm A B P Bz w (u.setCell ⟨X, i, none⟩ x) :=
  ⟨h.os, h.tape, h.output, by simpa [World.setCell] using h.size, fun k hk h1 h2 h3 => (Below.heap_setCell _ _ _ k (by show k ≠ X; omega)).trans (h.block k hk h1 h2 h3)⟩
theorem Frm.grown {A B P Bz : Nat} {w u u' : World} {row : Option Nat} (h : Frm A B P Bz w u) (hg : u.grownBy u' row) (hz : Bz ≤ u.heap.size) (hr : ∀ k, row = some k → Bz ≤ k) : Frm A B P Bz w u' :=
  ⟨hg.os.trans h.os, hg.tape.trans h.tape, hg.output.trans h.output, Nat.le_trans h.size hg.size, fun k hk h1 h2 h3 => (hg.block k (by omega) (fun e => by have := hr k e.symm; omega)).trans (h.block k hk h1 h2 h3)⟩
theorem Frm.below {A B P Bz k0 : Nat} {w u : World} (h : Frm A B P Bz w u) (hz : k0 ≤ Bz) (hA : k0 ≤ A) (hB : k0 ≤ B) (hP : k0 ≤ P) : Below k0 w u :=
  ⟨h.os, h.tape, h.output, h.size, fun k hk => h.block k (by omega) (by omega) (by omega) (by omega)⟩
/-- The loops of a function, one behind the other (none inside another). -/
def codeLoops : Code → List Code
  | .loop c => [c]
  | .seq a b => codeLoops a ++ codeLoops b
  | .block _ c => codeLoops c
  | .scope c => codeLoops c
  | .cond _ a b => codeLoops a ++ codeLoops b
  | _ => []
theorem set_id {l : List Value} {i : Nat} {v : Value} (h : l[i]? = some v) : l.set i v = l := by
  apply List.ext_getElem?
  intro j
  rw [List.getElem?_set]
  split
  · rename_i e; subst e
    split
    · exact h.symm
    · rename_i hn; rw [List.getElem?_eq_none (Nat.le_of_not_lt hn)] at h; cases h
  · rfl
theorem Tryd.infoSlot : (Tryd.prog.info? 56).map (fun i => (i.zero, i.size, i.bytes)) = some (some (.agg #[.int .i64 0, .int .i64 0, .int .i64 0]), 3, 24) := by kernel_rfl
theorem Tryd.infoWindow : (Tryd.prog.info? 61).map (fun i => (i.zero, i.size, i.bytes)) = some (some (.agg #[.int .i64 0, .int .i64 0, .int .i64 0]), 3, 24) := by kernel_rfl
theorem Tryd.infoLink : (Tryd.prog.info? 58).map (fun i => (i.zero, i.size, i.bytes)) = some (some (.agg #[.int .i64 0, .int .i64 0, .int .i64 0, .int .i64 0]), 4, 32) := by kernel_rfl
end Go.Proofs.YtlpojkehbhkdiaaDoor
