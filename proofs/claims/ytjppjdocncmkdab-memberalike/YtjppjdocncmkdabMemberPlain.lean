/- Plain words on nodes: what is set and what is not; whether one sends, hears, what it judges; what becomes of it where something comes. -/
import Derived.Test.YtjppjdocncmkdabMemberWords
import Derived.Test.YtjppjdocncmkdabMemberMath
import Derived.Deep.QuietTactic
namespace Go.Proofs.Ytjppjdocncmkdab
open Go.RowKit

/-- Its struct's cell i is set. -/
theorem cell_set {w : World} {P i : Nat} {v u : Value} (h : w.cell? ⟨P, i, none⟩ = some u) : (w.setCell ⟨P, i, none⟩ v).cell? ⟨P, i, none⟩ = some v := World.cell?_setCell_same _ _ _ h
theorem cell_other {w : World} {P i Q j : Nat} {v : Value} (h : Q ≠ P ∨ j ≠ i) : (w.setCell ⟨P, i, none⟩ v).cell? ⟨Q, j, none⟩ = w.cell? ⟨Q, j, none⟩ := World.cell?_setCell_other _ _ _ _ (fun e => by
  rcases h with q | q
  · exact q (congrArg Addr.block e).symm
  · exact q (congrArg Addr.off e).symm)
theorem soft_set {w : World} {p q : Addr} {v : Value} : (w.setCell p v).frozen? q = w.frozen? q := by simp

theorem Turns.drawn {P Q : Nat} {w : World} (q : Nat) : Turns P Q w (w.drewN q) := ⟨rfl, rfl, rfl, Nat.le_refl _, fun _ _ _ _ => rfl⟩
/-- Whether a node sends. -/
def sendsB (g b : Int) (fz : Bool) : Bool := !fz && decide (b < g)
/-- Whether something is heard. -/
def hearsB (id : Int) (n : Nat) (fz : Bool) (frm what : Int) : Bool := !fz && decide (0 ≤ frm ∧ frm < n ∧ frm ≠ id ∧ 0 ≤ what ∧ what ≤ 2)
/-- What it is to a node that some members are told: 1 good, 2 bad; 's' are the told members, bit by bit. -/
def judgeV (n : Nat) (t s : Nat → Bool) (frm m : Int) : Int := if (0 ≤ frm ∧ frm < n) ∧ 0 ≤ m ∧ m < 2 ^ n ∧ judB n frm.toNat s t = true then 1 else 2

/-- What becomes of what is taken, counted good, counted bad, where something comes. -/
def heT (id : Int) (n : Nat) (fz : Bool) (frm what : Int) (t : Nat → Bool) : Nat → Bool := fun j => if hearsB id n fz frm what = true ∧ (j : Int) = frm then decide (what = 1) else t j
def heG (id : Int) (n : Nat) (fz : Bool) (frm what g : Int) : Int := if hearsB id n fz frm what = true ∧ what = 1 then g + 1 else g
def heB (id : Int) (n : Nat) (fz : Bool) (frm what b : Int) : Int := if hearsB id n fz frm what = true ∧ what = 2 then b + 1 else b

theorem hears_parts {id : Int} {n : Nat} {fz : Bool} {frm what : Int} (h : hearsB id n fz frm what = true) : fz = false ∧ ∃ k : Nat, frm = (k : Int) ∧ k < n ∧ (k : Int) ≠ id ∧ 0 ≤ what ∧ what ≤ 2 := by
  unfold hearsB at h
  simp only [Bool.and_eq_true, Bool.not_eq_true', decide_eq_true_eq] at h
  obtain ⟨h1, h2, h3, h4, h5, h6⟩ := h
  exact ⟨h1, frm.toNat, by omega, by omega, by omega, h5, h6⟩
theorem heT_acts {id : Int} {n : Nat} {fz : Bool} {k : Nat} {what : Int} (t : Nat → Bool) (h : hearsB id n fz k what = true) : heT id n fz k what t = fun j => if j = k then decide (what = 1) else t j := by
  funext j
  unfold heT
  by_cases e : j = k
  · rw [if_pos ⟨h, by omega⟩, if_pos e]
  · rw [if_neg (fun y => e (by omega)), if_neg e]
theorem heT_not {id : Int} {n : Nat} {fz : Bool} {frm what : Int} (t : Nat → Bool) (h : hearsB id n fz frm what = false) : heT id n fz frm what t = t := by
  funext j
  unfold heT
  rw [if_neg (fun y => by rw [h] at y; cases y.1)]

end Go.Proofs.Ytjppjdocncmkdab
