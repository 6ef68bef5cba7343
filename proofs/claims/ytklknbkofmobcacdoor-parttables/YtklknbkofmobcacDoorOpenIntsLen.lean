/- A row of numbers that came in, opened, with its length's bound. -/
import Derived.Test.YtklknbkofmobcacDoorOpenInts
namespace Go.Proofs.YtklknbkofmobcacDoor
open Go.ChangeShapes Go.WideShapes Go.ChangeAt Go.RowKit Go.Joins Go.Deep

set_option maxRecDepth 100000 in
theorem open_nums_len {H : Type} {enc : TypeId × Value → H} {w : World} {spare : Nat → Bool} {held : Bool} {r : Reach} {b0 : Nat} {v : Value} {d : DataW H} {p : List MemPlace}
    (hv : Value.okWide Tryd.prog w r b0 23 v) (h : DataW.Trod enc Tryd.prog w 0 spare held 23 v d p) :
    ∃ (a : Option Addr) (cap : Nat) (l : List Int), v = .slice a l.length cap ∧ IntRow w a l ∧ l.length ≤ maxLen := by
  obtain ⟨a1, len, cap, rfl⟩ := okWide_slice Tryd.underlying23 hv
  obtain ⟨fuel, hf⟩ := h
  have hm : len ≤ maxLen := by
    rcases open_ints Tryd.underlying23 Tryd.underlying3 Tryd.cellsInt hf with ⟨hcs, _⟩ | ⟨a, len', cap', zs, hcs, _, hl, hm, _⟩
    · simp [Value.cells] at hcs
      obtain ⟨_, rfl, _⟩ := hcs
      exact Nat.zero_le _
    · simp [Value.cells] at hcs
      obtain ⟨_, rfl, rfl⟩ := hcs
      omega
  obtain ⟨l, rfl, hr, _⟩ := ints_at hf
  exact ⟨a1, cap, l, rfl, hr, hm⟩
end Go.Proofs.YtklknbkofmobcacDoor
