/- A script of things of two numbers and a text that came in, opened. -/
import Derived.Test.YtklknbkofmobcabDoorOpenRowsP
import Derived.Test.YtklknbkofmobcabDoorOpenNumber
namespace Go.Proofs.YtklknbkofmobcabDoor
open Go.ChangeShapes Go.WideShapes Go.ChangeAt Go.RowKit Go.Joins Go.Deep

section
variable {H : Type} {enc : TypeId × Value → H} {w : World} {spare : Nat → Bool} {held : Bool} {r : Reach} {b0 : Nat} {v : Value} {d : DataW H} {p : List MemPlace}

theorem Tryd.cellsUse : Tryd.prog.cellsOf 115 = 3 := by kernel_rfl
theorem Tryd.cellsIntP : Tryd.prog.cellsOf 3 = 1 := by kernel_rfl
theorem Tryd.cellsStrP : Tryd.prog.cellsOf 9 = 1 := by kernel_rfl
set_option maxRecDepth 100000 in
theorem open_uses (hv : Value.okWide Tryd.prog w r b0 108 v) (h : DataW.Trod enc Tryd.prog w 0 spare held 108 v d p) :
    ∃ (a : Option Addr) (len cap : Nat) (f g : Nat → Int) (k : Nat → ByteArray), v = .slice a len cap ∧ len ≤ maxLen ∧ RowsP w a len f g k ∧ ∀ j, j < len → -9223372036854775808 ≤ g j ∧ g j ≤ 9223372036854775807 := by
  obtain ⟨a1, len1, cap1, rfl⟩ := okWide_slice Tryd.underlying108 hv
  obtain ⟨fuel, hf⟩ := h
  obtain ⟨a, len, cap, f, g, k, e, hl, hr, hi⟩ := open_rowsP (v := .slice a1 len1 cap1) Tryd.underlying108 Tryd.cellsUse (fun n cs x hx => open_put Tryd.underlying115 Tryd.underlying3 Tryd.underlying9 ⟨rfl, rfl⟩ ⟨rfl, rfl⟩ ⟨rfl, rfl⟩ Tryd.cellsUse Tryd.cellsIntP Tryd.cellsStrP hx) hf
  exact ⟨a, len, cap, f, g, k, e, hl, hr, fun j hj => isInt_le' (hi j hj).2.1⟩
end
end Go.Proofs.YtklknbkofmobcabDoor
