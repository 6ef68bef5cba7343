/- VlinkOnce's row of what is lost, and by which channels. -/
import Derived.Test.YthcnhfjhppmmdabOnceRun
import Derived.Test.YthcnhfjhppmmdabOnceMath
import Derived.Test.YthcnhfjhppmmdabCellSet
import Derived.Laws.BitsAllLaws
namespace Go.Proofs.Ythcnhfjhppmmdab
open Go.RowKit

def LV (a b : Bool) : Int := (if a = true then 1 else 0) + (if b = true then 2 else 0)
theorem LV_or1 (a b : Bool) : bits .or .i64 (LV a b) 1 = LV true b := by cases a <;> cases b <;> rfl
theorem LV_or2 (a b : Bool) : bits .or .i64 (LV a b) 2 = LV a true := by cases a <;> cases b <;> rfl
theorem LV_in (a b : Bool) : 0 ≤ LV a b ∧ LV a b ≤ 3 := by cases a <;> cases b <;> decide
theorem LV_3 (a b : Bool) : (LV a b != 3) = !(a && b) := by cases a <;> cases b <;> rfl
theorem LV_b0 (a b : Bool) : (bits .and .i64 (LV a b) 1 == 1) = a := by cases a <;> cases b <;> rfl
theorem LV_b1 (a b : Bool) : (bits .and .i64 (LV a b / 2) 1 == 1) = b := by cases a <;> cases b <;> rfl
theorem LV_0 (a b : Bool) : (LV a b == 0) = (!a && !b) := by cases a <;> cases b <;> rfl

/-- The row of what is lost in memory; all else is as it was. -/
structure LostRow (wb wr : World) (LB n : Nat) (L0 L1 : Nat → Bool) : Prop where
  cell : ∀ j, j < n → wr.cell? ⟨LB, j, none⟩ = some (.int .i64 (LV (L0 j) (L1 j)))
  soft : ∀ j, wr.frozen? ⟨LB, j, none⟩ = false
  turn : Turns LB LB wb wr
  lt : LB < wb.heap.size
theorem LostRow.drawn {wb wr : World} {LB n : Nat} {L0 L1 : Nat → Bool} (h : LostRow wb wr LB n L0 L1) (q : Nat) : LostRow wb (wr.drewN q) LB n L0 L1 := ⟨h.cell, h.soft, h.turn.trans (Turns.drawn q), h.lt⟩
theorem LostRow.set0 {wb wr : World} {LB n : Nat} {L0 L1 : Nat → Bool} (h : LostRow wb wr LB n L0 L1) {k : Nat} (hk : k < n) : LostRow wb (wr.setCell ⟨LB, k, none⟩ (.int .i64 (LV true (L1 k)))) LB n (fun j => if j = k then true else L0 j) L1 :=
  ⟨fun j hj => by
    by_cases e : j = k
    · subst e; rw [if_pos rfl]; exact cell_set (h.cell j hj)
    · rw [if_neg e]; exact (cell_other (.inr e)).trans (h.cell j hj), fun j => soft_set.trans (h.soft j), h.turn.set (p := ⟨LB, k, none⟩) (.inl rfl) _, h.lt⟩
theorem LostRow.set1 {wb wr : World} {LB n : Nat} {L0 L1 : Nat → Bool} (h : LostRow wb wr LB n L0 L1) {k : Nat} (hk : k < n) : LostRow wb (wr.setCell ⟨LB, k, none⟩ (.int .i64 (LV (L0 k) true))) LB n L0 (fun j => if j = k then true else L1 j) :=
  ⟨fun j hj => by
    by_cases e : j = k
    · subst e; rw [if_pos rfl]; exact cell_set (h.cell j hj)
    · rw [if_neg e]; exact (cell_other (.inr e)).trans (h.cell j hj), fun j => soft_set.trans (h.soft j), h.turn.set (p := ⟨LB, k, none⟩) (.inl rfl) _, h.lt⟩

/-- So many in a row, up to a place, are lost by both, at most 50; and no 51 below it are. -/
def RunInv (L0 L1 : Nat → Bool) (q r : Nat) : Prop := r ≤ 50 ∧ (∀ m, m ≤ q → (∀ j, q - m ≤ j → j < q → L0 j = true ∧ L1 j = true) → m ≤ r) ∧ ∀ s, s + 51 ≤ q → ∃ j, s ≤ j ∧ j < s + 51 ∧ (L0 j = false ∨ L1 j = false)
theorem RunInv.start (L0 L1 : Nat → Bool) : RunInv L0 L1 0 0 := ⟨by omega, fun m hm _ => hm, fun s hs => by omega⟩
theorem RunInv.grow {L0 L1 : Nat → Bool} {q r : Nat} (h : RunInv L0 L1 q r) {r' : Nat} (hr : r' ≤ 50) (hm : ∀ m, m ≤ q + 1 → (∀ j, q + 1 - m ≤ j → j < q + 1 → L0 j = true ∧ L1 j = true) → m ≤ r') : RunInv L0 L1 (q + 1) r' := by
  refine ⟨hr, hm, fun s hs => ?_⟩
  rcases Nat.lt_or_ge (s + 51) (q + 1) with y | y
  · exact h.2.2 s (by omega)
  · have hs2 : s + 51 = q + 1 := by omega
    apply Classical.byContradiction
    intro hno
    have := hm 51 (by omega) (fun j h1 h2 => by
      constructor
      · cases e : L0 j
        · exact absurd ⟨j, by omega, by omega, .inl e⟩ hno
        · rfl
      · cases e : L1 j
        · exact absurd ⟨j, by omega, by omega, .inr e⟩ hno
        · rfl)
    omega
theorem RunInv.both {L0 L1 : Nat → Bool} {q r : Nat} (h : RunInv L0 L1 q r) (hr : r + 1 ≤ 50) : RunInv L0 L1 (q + 1) (r + 1) :=
  h.grow hr fun m hm hj => by
    rcases Nat.eq_zero_or_pos m with e | e
    · omega
    · have := h.2.1 (m - 1) (by omega) (fun j h1 h2 => hj j (by omega) (by omega))
      omega
theorem RunInv.broken {L0 L1 : Nat → Bool} {q r : Nat} (h : RunInv L0 L1 q r) (hb : (L0 q && L1 q) = false) : RunInv L0 L1 (q + 1) 0 :=
  h.grow (by omega) fun m hm hj => by
    rcases Nat.eq_zero_or_pos m with e | e
    · omega
    · obtain ⟨h1, h2⟩ := hj q (by omega) (by omega)
      rw [h1, h2] at hb
      cases hb
theorem RunInv.noRun {L0 L1 : Nat → Bool} {q r : Nat} (h : RunInv L0 L1 q r) : NoRun q L0 L1 := h.2.2
end Go.Proofs.Ythcnhfjhppmmdab
