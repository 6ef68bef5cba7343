/- A row of numbers in memory. -/
import Derived.Below
namespace Go.Proofs.YtklknbkofmobcacDoor
open Go.RowKit

/-- A row of numbers in memory. -/
def IntRow (w : World) (a : Option Addr) (l : List Int) : Prop :=
  0 < l.length → ∃ b off, a = some ⟨b, off, none⟩ ∧ b < w.heap.size ∧ ∀ j, j < l.length → w.cell? ⟨b, off + j, none⟩ = some (.int .i64 (l.getD j 0))

theorem IntRow.below {w w' : World} {a : Option Addr} {l : List Int} (h : IntRow w a l) (hb : Below w.heap.size w w') : IntRow w' a l := fun h0 => by
  obtain ⟨b, off, e, hl, hc⟩ := h h0
  exact ⟨b, off, e, Nat.lt_of_lt_of_le hl hb.size, fun j hj => (hb.cell (p := ⟨b, off + j, none⟩) hl).trans (hc j hj)⟩
end Go.Proofs.YtklknbkofmobcacDoor
