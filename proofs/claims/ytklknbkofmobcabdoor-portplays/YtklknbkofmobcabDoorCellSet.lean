/- What is set in a cell, and what is not; draws. -/
import Derived.Test.YtklknbkofmobcabDoorMemberWords
import Derived.Deep.QuietTactic
namespace Go.Proofs.YtklknbkofmobcabDoor
open Go.RowKit

/-- Its struct's cell i is set. -/
theorem cell_set {w : World} {P i : Nat} {v u : Value} (h : w.cell? ⟨P, i, none⟩ = some u) : (w.setCell ⟨P, i, none⟩ v).cell? ⟨P, i, none⟩ = some v := World.cell?_setCell_same _ _ _ h
theorem cell_other {w : World} {P i Q j : Nat} {v : Value} (h : Q ≠ P ∨ j ≠ i) : (w.setCell ⟨P, i, none⟩ v).cell? ⟨Q, j, none⟩ = w.cell? ⟨Q, j, none⟩ := World.cell?_setCell_other _ _ _ _ (fun e => by
  rcases h with q | q
  · exact q (congrArg Addr.block e).symm
  · exact q (congrArg Addr.off e).symm)
theorem soft_set {w : World} {p q : Addr} {v : Value} : (w.setCell p v).frozen? q = w.frozen? q := by simp

theorem Turns.drawn {P Q : Nat} {w : World} (q : Nat) : Turns P Q w (w.drewN q) := ⟨rfl, rfl, rfl, Nat.le_refl _, fun _ _ _ _ => rfl⟩
end Go.Proofs.YtklknbkofmobcabDoor
