/- An error that is an At, or none: what lies in memory. -/
import Derived.Test.YtlpojkehbhkdiaaProg
namespace Go.Proofs.Ytlpojkehbhkdiaa

/-- An error that is an At, or none. -/
def AtIs (w : World) (E : Value) (e i : Int) : Prop :=
  (E = .nilIface ∧ e = 0) ∨ (∃ b, E = .iface 83 (.pointer (some ⟨b, 0, none⟩)) ∧ e ≠ 0 ∧ w.cell? ⟨b, 0, none⟩ = some (.int .i64 e) ∧ w.cell? ⟨b, 1, none⟩ = some (.int .i64 i))
end Go.Proofs.Ytlpojkehbhkdiaa
