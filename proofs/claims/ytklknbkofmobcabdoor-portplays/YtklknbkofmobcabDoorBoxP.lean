/- A box of two numbers and a text: what lies in a round's box. -/
import Derived.Test.YtklknbkofmobcabDoorFoot
namespace Go.Proofs.YtklknbkofmobcabDoor
open Go.RowKit

/-- What lies in the round's box. -/
def BoxP (v : World) (X : Nat) (wh now : Int) (d : ByteArray) : Prop := v.cell? ⟨X, 0, none⟩ = some (.int .i64 wh) ∧ v.cell? ⟨X, 1, none⟩ = some (.int .i64 now) ∧ v.cell? ⟨X, 2, none⟩ = some (.string d) ∧ X < v.heap.size
theorem BoxP.foot {v v' : World} {X : Nat} {wh now : Int} {d : ByteArray} {O O' : List Nat} (h : BoxP v X wh now d) (k : Foot O O' v v') (hn : X ∉ O) : BoxP v' X wh now d :=
  ⟨(k.cell (p := ⟨X, 0, none⟩) h.2.2.2 hn).trans h.1, (k.cell (p := ⟨X, 1, none⟩) h.2.2.2 hn).trans h.2.1, (k.cell (p := ⟨X, 2, none⟩) h.2.2.2 hn).trans h.2.2.1, Nat.lt_of_lt_of_le h.2.2.2 k.size⟩
theorem BoxP.drawn {v : World} {X : Nat} {wh now : Int} {d : ByteArray} (h : BoxP v X wh now d) (q : Nat) : BoxP (v.drewN q) X wh now d := h
theorem BoxP.below {v v' : World} {X : Nat} {wh now : Int} {d : ByteArray} (h : BoxP v X wh now d) (k : Below v.heap.size v v') : BoxP v' X wh now d :=
  ⟨(k.cell (p := ⟨X, 0, none⟩) h.2.2.2).trans h.1, (k.cell (p := ⟨X, 1, none⟩) h.2.2.2).trans h.2.1, (k.cell (p := ⟨X, 2, none⟩) h.2.2.2).trans h.2.2.1, Nat.lt_of_lt_of_le h.2.2.2 k.size⟩
theorem boxP_new (w : World) (t : TypeId) (wh now : Int) (d : ByteArray) : BoxP (w.alloc (.cells #[.int .i64 wh, .int .i64 now, .string d] t)) w.heap.size wh now d := by
  refine ⟨?_, ?_, ?_, by simp⟩ <;> simp
end Go.Proofs.YtklknbkofmobcabDoor
