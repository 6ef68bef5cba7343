/- The fact 'told' of TicksBack's law, and words for what Real and Local answer. -/
import Derived.Test.YthinkdcekdgdcaaReal
import Derived.LaidEql
import Derived.RowKitTokens
namespace Go.Proofs.Ythinkdcekdgdcaa
open Go.RowKit

theorem nums1 : (100 : Int) + (13 - 10) * 2 / 1 = 106 := by decide
theorem nums2 : (10 : Int) + ((105 - 100) * 1 + 2 - 1) / 2 = 13 := by decide
theorem told_local (w : World) : Calls Try.prog 6 #[.agg #[.int .i64 10, .int .i64 100, .int .i64 2, .int .i64 1], .int .i64 13] w fun e w' => e = .returned (.tuple #[.int .i64 106, .nilIface]) ∧ Below w.heap.size w w' := by
  have h := local_ok 10 100 2 1 13 w (by decide) (by decide) (by decide) (by decide)
  rw [nums1] at h; exact h
theorem told_real (w : World) : Calls Try.prog 5 #[.agg #[.int .i64 10, .int .i64 100, .int .i64 2, .int .i64 1], .int .i64 105] w fun e w' => e = .returned (.tuple #[.int .i64 13, .nilIface]) ∧ Below w.heap.size w w' := by
  have h := real_ok 10 100 2 1 105 w (by decide) (by decide) (by decide) (by decide)
  rw [nums2] at h; exact h

set_option maxHeartbeats 400000 in
theorem told_any (w : World) : Calls Try.prog 4 #[] w fun e w' => e = .returned (.bool true) ∧ Below w.heap.size w w' := by
  go_enter Try.func4, Try.ntmps4
  go_wp2_with fail
  refine (told_local _).mono ?_
  rintro e w1 ⟨rfl, hb⟩
  obtain ⟨c0, c1, c2, c3, hz⟩ := box4 hb
  go_wp2_with fail
  refine (told_real _).mono ?_
  rintro e w2 ⟨rfl, hb2⟩
  go_wp2
  go_ret
  exact ⟨rfl, (below_box hb).trans (hb2.mono (Nat.le_of_lt hz))⟩

/-- Real answers so, wherever it is asked; Local likewise. -/
def RealSays (f s n d l v : Int) (E : Value) : Prop := ∀ w, Calls Try.prog 5 #[.agg #[.int .i64 f, .int .i64 s, .int .i64 n, .int .i64 d], .int .i64 l] w fun e w' => e = .returned (.tuple #[.int .i64 v, E]) ∧ Below w.heap.size w w'
def LocalSays (f s n d l v : Int) (E : Value) : Prop := ∀ w, Calls Try.prog 6 #[.agg #[.int .i64 f, .int .i64 s, .int .i64 n, .int .i64 d], .int .i64 l] w fun e w' => e = .returned (.tuple #[.int .i64 v, E]) ∧ Below w.heap.size w w'

theorem step4 {w1 w2 : World} {B : Nat} {a b c d : Value} (hz : B < w1.heap.size) (hb : Below w1.heap.size w1 w2) (c0 : w1.cell? ⟨B, 0, none⟩ = some a) (c1 : w1.cell? ⟨B, 1, none⟩ = some b) (c2 : w1.cell? ⟨B, 2, none⟩ = some c) (c3 : w1.cell? ⟨B, 3, none⟩ = some d) :
    w2.cell? ⟨B, 0, none⟩ = some a ∧ w2.cell? ⟨B, 1, none⟩ = some b ∧ w2.cell? ⟨B, 2, none⟩ = some c ∧ w2.cell? ⟨B, 3, none⟩ = some d ∧ B < w2.heap.size :=
  ⟨(old_cells hb _ _ hz).trans c0, (old_cells hb _ _ hz).trans c1, (old_cells hb _ _ hz).trans c2, (old_cells hb _ _ hz).trans c3, Nat.lt_of_lt_of_le hz hb.size⟩

end Go.Proofs.Ythinkdcekdgdcaa
