/- The program's sender: its word Many, which only reads (7.1). -/
import Derived.Test.YthcnhfjhppmmdabDoorPSend2
namespace Go.Proofs.YthcnhfjhppmmdabDoor
open Go.RowKit

set_option maxHeartbeats 1000000 in
theorem sdrMany {w : World} {O : List Nat} {P : Nat} {bag queue : Int} {all : List ByteArray} {went : Nat} {last now : Int} (h : Sdr w O P bag queue all went last now) (ha : all.length ≤ 1000000) :
    Calls Tryd.prog 43 #[.pointer (some ⟨P, 0, none⟩)] w fun e w' => e = .returned (.int .i64 ((all.length : Int) - (went : Int))) ∧ ∃ q, w' = w.drewN q := by
  have _ := ha
  obtain ⟨v, h, hO⟩ := h
  obtain ⟨c0, c1, c2, c3, c4, c5, z, own, lp, lb, we⟩ := h
  obtain ⟨a, cap, rfl⟩ := owns_form own
  have e : (all.length : Int) - (went : Int) = ((all.length - went : Nat) : Int) := by omega
  have lP : P < w.heap.size := by omega
  rw [e]
  clear own z hO e
  generalize all.length - went = n at *
  go_enter Tryd.func43, Tryd.ntmps43
  go_wp2
  go_ret
  exact ⟨rfl, 0, rfl⟩
end Go.Proofs.YthcnhfjhppmmdabDoor
