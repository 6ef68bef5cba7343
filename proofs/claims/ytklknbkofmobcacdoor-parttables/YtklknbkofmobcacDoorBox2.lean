/- A box of two cells that a call made for its answer. -/
import Derived.Test.YtklknbkofmobcacDoorFoot
import Derived.Test.YtklknbkofmobcacDoorCellSet
namespace Go.Proofs.YtklknbkofmobcacDoor
open Go.RowKit

/-- The box R holds these two; it may be written. -/
structure Box2 (u : World) (R : Nat) (x y : Value) : Prop where
  c0 : u.cell? ⟨R, 0, none⟩ = some x
  c1 : u.cell? ⟨R, 1, none⟩ = some y
  z : ∀ i, u.frozen? ⟨R, i, none⟩ = false
  l : R < u.heap.size
theorem box2_new (w : World) (t : TypeId) (x y : Value) : Box2 (w.alloc (.cells #[x, y] t)) w.heap.size x y := ⟨by simp, by simp, fun i => by simp, by simp⟩
theorem Box2.below {u u' : World} {R : Nat} {x y : Value} (h : Box2 u R x y) (k : Below u.heap.size u u') : Box2 u' R x y :=
  ⟨(k.cell (p := ⟨R, 0, none⟩) h.l).trans h.c0, (k.cell (p := ⟨R, 1, none⟩) h.l).trans h.c1, fun i => (k.frozen (p := ⟨R, i, none⟩) h.l).trans (h.z i), Nat.lt_of_lt_of_le h.l k.size⟩
theorem Box2.drawn {u : World} {R : Nat} {x y : Value} (h : Box2 u R x y) (q : Nat) : Box2 (u.drewN q) R x y := ⟨h.c0, h.c1, h.z, h.l⟩
/-- It is written: what it holds then, and that nothing else is turned. -/
theorem Box2.put {w u : World} {x y : Value} (h : Box2 u w.heap.size x y) (hb : Below w.heap.size w u) (x' y' : Value) :
    ((u.setCell ⟨w.heap.size, 0, none⟩ x').setCell ⟨w.heap.size, 1, none⟩ y').cell? ⟨w.heap.size, 0, none⟩ = some x' ∧ ((u.setCell ⟨w.heap.size, 0, none⟩ x').setCell ⟨w.heap.size, 1, none⟩ y').cell? ⟨w.heap.size, 1, none⟩ = some y' ∧ Below w.heap.size w ((u.setCell ⟨w.heap.size, 0, none⟩ x').setCell ⟨w.heap.size, 1, none⟩ y') := by
  have ht : Turns w.heap.size w.heap.size u ((u.setCell ⟨w.heap.size, 0, none⟩ x').setCell ⟨w.heap.size, 1, none⟩ y') := ((Turns.refl _ _ _).set (p := ⟨w.heap.size, 0, none⟩) (.inl rfl) _).set (p := ⟨w.heap.size, 1, none⟩) (.inl rfl) _
  exact ⟨(cell_other (.inr (by decide))).trans (cell_set h.c0), cell_set ((cell_other (.inr (by decide))).trans h.c1), hb.trans (ht.below (by have := h.l; omega) (Nat.le_refl _) (Nat.le_refl _))⟩
end Go.Proofs.YtklknbkofmobcacDoor
