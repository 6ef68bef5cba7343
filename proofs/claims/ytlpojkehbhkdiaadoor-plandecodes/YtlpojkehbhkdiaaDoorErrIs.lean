/- An error value in memory: none, an Errno, or an At around one. -/
import Derived.Test.YtlpojkehbhkdiaaDoorProg
import Derived.Below
namespace Go.Proofs.YtlpojkehbhkdiaaDoor
open Go.RowKit

theorem lt_of_cell {w : World} {a : Addr} {v : Value} (h : w.cell? a = some v) : a.block < w.heap.size := by
  rcases Nat.lt_or_ge a.block w.heap.size with g | g
  · exact g
  · simp [World.cell?, Array.getElem?_eq_none g] at h
theorem keep_cell {w w' : World} {a : Addr} {v : Value} (h : w.cell? a = some v) (hb : Below w.heap.size w w') : w'.cell? a = some v := (hb.cell (lt_of_cell h)).trans h

/-- An error value: none, an Errno, or an At around one. -/
def ErrIs (w : World) (E : Value) (e i : Int) : Prop :=
  (E = .nilIface ∧ e = 0 ∧ i = -1) ∨ (E = .iface 32 (.int .i64 e) ∧ e ≠ 0 ∧ i = -1) ∨ (∃ b, E = .iface 73 (.pointer (some ⟨b, 0, none⟩)) ∧ e ≠ 0 ∧ w.cell? ⟨b, 0, none⟩ = some (.int .i64 e) ∧ w.cell? ⟨b, 1, none⟩ = some (.int .i64 i))
theorem ErrIs.below {w w' : World} {E : Value} {e i : Int} (h : ErrIs w E e i) (hb : Below w.heap.size w w') : ErrIs w' E e i := by
  rcases h with h | h | ⟨b, h1, h2, h3, h4⟩
  · exact .inl h
  · exact .inr (.inl h)
  · exact .inr (.inr ⟨b, h1, h2, keep_cell h3 hb, keep_cell h4 hb⟩)
end Go.Proofs.YtlpojkehbhkdiaaDoor
