/- Rows of numbers that came in, opened. -/
import Derived.Test.YtklknbkofmobcacDoorProg
import Derived.Test.YtklknbkofmobcacDoorIntRow
import Derived.Test.YtklknbkofmobcacDoorAgreeMath
import Derived.Test.YtklknbkofmobcacDoorOwnInts
import Derived.ProofKit
import Derived.Lib.SmallJoins
namespace Go.Proofs.YtklknbkofmobcacDoor
open Go.ChangeShapes Go.WideShapes Go.ChangeAt Go.RowKit Go.Joins Go.Deep

theorem Tryd.cellsInt : Tryd.prog.cellsOf 3 = 1 := by kernel_rfl

theorem cell_has {w : World} {b off : Nat} {v : Value} (h : w.cell? ⟨b, off, none⟩ = some v) : b < w.heap.size := by
  rcases Nat.lt_or_ge b w.heap.size with q | q
  · exact q
  · simp [World.cell?, Array.getElem?_eq_none q] at h

/-- What a slice of numbers reads as. -/
theorem ints_at {H : Type} {enc : TypeId × Value → H} {w : World} {spare : Nat → Bool} {held : Bool} {b0 fuel : Nat} {a1 : Option Addr} {len cap : Nat} {d : DataW H} {p : List MemPlace}
    (h : DataW.trod enc Tryd.prog w b0 spare held fuel 23 [.slice a1 len cap] = some (d, p)) :
    ∃ l : List Int, len = l.length ∧ IntRow w a1 l ∧ len ≤ cap ∧ (a1 = none → len = 0) := by
  rcases open_ints Tryd.underlying23 Tryd.underlying3 Tryd.cellsInt h with ⟨hcs, _⟩ | ⟨a, len', cap', zs, hcs, _, hl, hm, hz, _, hcell, hwz⟩
  · simp at hcs
    obtain ⟨rfl, rfl, rfl⟩ := hcs
    exact ⟨[], rfl, fun hn => absurd hn (Nat.lt_irrefl _), Nat.le_refl _, fun _ => rfl⟩
  · simp at hcs
    obtain ⟨rfl, rfl, rfl⟩ := hcs
    have hle : len ≤ zs.length := by rw [hz]; split <;> omega
    have hlen : (zs.take len).length = len := by simp; omega
    refine ⟨zs.take len, hlen.symm, fun hn => ?_, hl, fun e => by cases e⟩
    rw [hlen] at hn
    have h0 := hcell 0 (by omega)
    obtain ⟨b, off, spot⟩ := a
    have hs : spot = none := by simpa [Addr.add] using World.cell?_spot h0
    subst hs
    refine ⟨b, off, rfl, ?_, fun j hj => ?_⟩
    · rw [add_at] at h0
      exact cell_has h0
    · rw [hlen] at hj
      have hc := hcell j (by omega)
      rw [add_at] at hc
      rw [hc, getD_at (show j < (zs.take len).length by rw [hlen]; exact hj), List.getElem_take]
      simp [List.getD, show j < zs.length by omega]

set_option maxRecDepth 100000 in
/-- A slice of numbers that came in. -/
theorem open_nums {H : Type} {enc : TypeId × Value → H} {w : World} {spare : Nat → Bool} {held : Bool} {r : Reach} {b0 : Nat} {v : Value} {d : DataW H} {p : List MemPlace}
    (hv : Value.okWide Tryd.prog w r b0 23 v) (h : DataW.Trod enc Tryd.prog w 0 spare held 23 v d p) :
    ∃ (a : Option Addr) (cap : Nat) (l : List Int), v = .slice a l.length cap ∧ IntRow w a l := by
  obtain ⟨a1, len, cap, rfl⟩ := okWide_slice Tryd.underlying23 hv
  obtain ⟨fuel, hf⟩ := h
  obtain ⟨l, rfl, hr, _⟩ := ints_at hf
  exact ⟨a1, cap, l, rfl, hr⟩
end Go.Proofs.YtklknbkofmobcacDoor
