/- Rows of one's own: their form; a store elsewhere. -/
import Derived.Test.YtklknbkofmobcabDoorOwnInts
namespace Go.Proofs.YtklknbkofmobcabDoor
open Go.RowKit

theorem owns_form {w : World} {base n : Nat} {e : TypeId} {v : Value} {xs : List Value} (h : w.ownsRow base e 1 v n xs) : ∃ a cap, v = .slice a n cap := by
  rcases h.2 with ⟨e0, rfl⟩ | ⟨g, cap, cur, hv, _⟩
  · exact ⟨none, 0, e0⟩
  · exact ⟨_, cap, hv⟩

theorem owns_put {w : World} {base : Nat} {e : TypeId} {size : Nat} {v : Value} {n : Nat} {xs : List Value} {b i : Nat} {x : Value} (h : w.ownsRow base e size v n xs) (hb : b < base) : (w.setCell ⟨b, i, none⟩ x).ownsRow base e size v n xs := by
  obtain ⟨h1, h2⟩ := h
  refine ⟨h1, ?_⟩
  rcases h2 with h2 | ⟨g, cap, cur, rfl, hg, hh, r⟩
  · exact .inl h2
  · refine .inr ⟨g, cap, cur, rfl, hg, ?_, r⟩
    rw [← hh]
    have : b ≠ g := by omega
    simp [World.setCell, Array.getElem?_modify, this]
end Go.Proofs.YtklknbkofmobcabDoor
