/- What Place tells of an error, whatever it is. -/
import Derived.Test.YtlpojkehbhkdiaaDoorErrIs
import Derived.Test.YtlpojkehbhkdiaaDoorTell
namespace Go.Proofs.YtlpojkehbhkdiaaDoor
open Go.RowKit

/-- What Place tells of an error. -/
theorem place_err {w : World} {E : Value} {k p : Int} (h : ErrIs w E k p) (v : World) (hT : Told v) (hb : Below w.heap.size w v) :
    Calls Tryd.prog 15 #[E] v fun e w' => e = .returned (.tuple #[.int .i64 k, .int .i64 p]) ∧ Below v.heap.size v w' := by
  rcases h with ⟨rfl, rfl, rfl⟩ | ⟨rfl, _, rfl⟩ | ⟨b, rfl, _, h1, h2⟩
  · exact place_nil v
  · exact place_e k v hT
  · exact place_at k p b v hT (keep_cell h1 hb) (keep_cell h2 hb)
end Go.Proofs.YtlpojkehbhkdiaaDoor
