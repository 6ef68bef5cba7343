/- A row's bytes as a text (over any world that has grown). -/
import Derived.Test.YtlpojkehbhkdiaaDoorPlanSteps
import Derived.Test.YtlpojkehbhkdiaaDoorNumBytes
import Derived.Laws.BytesArg
namespace Go.Proofs.YtlpojkehbhkdiaaDoor
open Go.RowKit

/-- A row's bytes as a text, whatever new memory is made. -/
def StrIs (w : World) (v : Value) (S : ByteArray) : Prop := ∀ u : World, Below w.heap.size w u → (convert 36 9 v).run Tryd.prog u = .ok (.string S) u
theorem StrIs.below {w w' : World} {v : Value} {S : ByteArray} (h : StrIs w v S) (hb : Below w.heap.size w w') : StrIs w' v S := fun u hu => h u (stepB hb hu)
theorem str_nil (w : World) : StrIs w (.slice none 0 0) ByteArray.empty := fun u _ => run_convert_bytes_nil u 36 5 Tryd.underlying36 Tryd.underlying5 0 0 9 Tryd.underlying9
theorem str_owns {w : World} {base : Nat} {v : Value} {xs : List Int} (h : w.ownsRow base 5 1 v xs.length (xs.map (Value.int .u8))) (hn : 1 ≤ xs.length) : StrIs w v (strOfNums xs) := by
  intro u hu
  obtain ⟨g, cap, rfl, _, hc⟩ := owns_some h hn
  refine run_convert_bytes_arg u 36 5 Tryd.underlying36 Tryd.underlying5 g 0 xs.length cap xs rfl (fun i hi => ?_) 9 Tryd.underlying9
  have c := hc i (.int .u8 (xs.getD i 0)) (by simp [hi])
  rw [add_plain] at c
  exact keep_cell c hu
end Go.Proofs.YtlpojkehbhkdiaaDoor
