/- The document's answer's variable Fine, in memory. -/
import Derived.Test.YtlpojkehbhkdiaaDoorProg
import Derived.Below
namespace Go.Proofs.YtlpojkehbhkdiaaDoor
open Go.RowKit

/-- The document's answer's variable Fine holds what its text says. -/
def Fine0 (w : World) : Prop := 0 < w.heap.size ∧ w.cell? ⟨0, 0, none⟩ = some (.int .i64 0) ∧ w.cell? ⟨0, 1, none⟩ = some (.int .i64 (-1))
theorem Fine0.below {w w' : World} (h : Fine0 w) (hb : Below w.heap.size w w') : Fine0 w' :=
  ⟨Nat.lt_of_lt_of_le h.1 hb.size, (hb.cell (p := ⟨0, 0, none⟩) h.1).trans h.2.1, (hb.cell (p := ⟨0, 1, none⟩) h.1).trans h.2.2⟩
end Go.Proofs.YtlpojkehbhkdiaaDoor
