/- The program's receiver: its word Counts, which only reads (7.2). -/
import Derived.Test.YthcnhfjhppmmdabPRcv
namespace Go.Proofs.Ythcnhfjhppmmdab
open Go.RowKit

set_option maxHeartbeats 1000000 in
theorem rcvCounts {w : World} {O : List Nat} {P : Nat} {nw a b : Int} (h : Rcv w O P nw a b) : Calls Try.prog 27 #[.pointer (some ⟨P, 0, none⟩)] w fun e w' => e = .returned (.tuple #[.int .i64 a, .int .i64 b]) ∧ ∃ q, w' = w.drewN q := by
  obtain ⟨c0, c1, c2, c3, z, lp, own⟩ := h
  clear z own
  go_enter Try.func27, Try.ntmps27
  go_wp2_with fail
  go_quiet (fail)
  go_wp2
  go_ret2
  exact ⟨rfl, _, rfl⟩
end Go.Proofs.Ythcnhfjhppmmdab
