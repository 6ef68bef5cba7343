/- Rows of rows of numbers that came in, opened. -/
import Derived.Test.YtfofaaagenclmabDoorOpenInts
import Derived.Test.YtfofaaagenclmabDoorAgreeStep
import Derived.Deep.Slices
namespace Go.Proofs.YtfofaaagenclmabDoor
open Go.ChangeShapes Go.WideShapes Go.ChangeAt Go.RowKit Go.Joins Go.Deep

theorem Tryd.cellsRow : Tryd.prog.cellsOf 22 = 1 := by kernel_rfl

theorem ints_any {H : Type} {enc : TypeId × Value → H} {w : World} {spare : Nat → Bool} {held : Bool} {b0 fuel : Nat} {v : Value} {x : DataW H × List MemPlace}
    (h : DataW.trod enc Tryd.prog w b0 spare held fuel 22 [v] = some x) : ∃ a cap l, v = .slice a (l : List Int).length cap ∧ IntRow w a l := by
  rcases open_ints Tryd.underlying22 Tryd.underlying3 Tryd.cellsInt h with ⟨hcs, _⟩ | ⟨a, len', cap', zs, hcs, _, hl, hm, hz, _, hcell, hwz⟩
  · simp at hcs
    subst hcs
    obtain ⟨l, e, hr, _⟩ := ints_at (p := x.2) (d := x.1) h
    exact ⟨none, 0, l, by rw [← e], hr⟩
  · simp at hcs
    subst hcs
    obtain ⟨l, e, hr, _⟩ := ints_at (p := x.2) (d := x.1) h
    exact ⟨some a, cap', l, by rw [← e], hr⟩

set_option maxRecDepth 100000 in
/-- A slice of slices of numbers that came in. -/
theorem open_tab {H : Type} {enc : TypeId × Value → H} {w : World} {spare : Nat → Bool} {held : Bool} {r : Reach} {b0 : Nat} {v : Value} {d : DataW H} {p : List MemPlace}
    (hv : Value.okWide Tryd.prog w r b0 32 v) (h : DataW.Trod enc Tryd.prog w 0 spare held 32 v d p) :
    ∃ (a : Option Addr) (cap : Nat) (rows : List (List Int)), v = .slice a rows.length cap ∧ TabRow w a rows := by
  obtain ⟨a1, len, cap, rfl⟩ := okWide_slice Tryd.underlying32 hv
  obtain ⟨fuel, hf⟩ := h
  rcases open_slice1 Tryd.underlying32 Tryd.cellsRow hf with ⟨hcs, _⟩ | ⟨a, len', cap', m, n, V, D, Pl, hcs, _, hl, hm, hmm, _, hc⟩
  · simp [Value.cells] at hcs
    obtain ⟨rfl, rfl, rfl⟩ := hcs
    exact ⟨none, 0, [], rfl, fun hn => absurd hn (Nat.lt_irrefl _)⟩
  · simp [Value.cells] at hcs
    obtain ⟨rfl, rfl, rfl⟩ := hcs
    have hle : len ≤ m := by rw [hmm]; split <;> omega
    have hex : ∀ j, j < len → ∃ l : List Int, ∃ ra c, w.cell? (a.add j) = some (.slice ra l.length c) ∧ IntRow w ra l := fun j hj => by
      obtain ⟨h1, h2⟩ := hc j (by omega)
      obtain ⟨ra, c, l, e, hr⟩ := ints_any h2
      exact ⟨l, ra, c, by rw [h1, e], hr⟩
    obtain ⟨L, hL⟩ := choose_lt (α := List Int) (p := fun j l => ∃ ra c, w.cell? (a.add j) = some (.slice ra l.length c) ∧ IntRow w ra l) hex
    refine ⟨some a, cap, (List.range len).map L, by simp, fun hn => ?_⟩
    simp only [List.length_map, List.length_range] at hn ⊢
    obtain ⟨ra0, c0, h0, _⟩ := hL 0 hn
    obtain ⟨b, off, spot⟩ := a
    have hs : spot = none := by simpa [Addr.add] using World.cell?_spot h0
    subst hs
    refine ⟨b, off, rfl, ?_, fun j hj => ?_⟩
    · rw [add_at] at h0
      exact cell_has h0
    · obtain ⟨ra, c, h1, h2⟩ := hL j hj
      rw [add_at] at h1
      have e : ((List.range len).map L).getD j [] = L j := by simp [List.getD, hj]
      rw [e]
      exact ⟨ra, c, h1, h2⟩
end Go.Proofs.YtfofaaagenclmabDoor
