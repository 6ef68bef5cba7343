/- A row of windows that came in, opened. -/
import Derived.Test.YtklknbkofmobcacDoorProg
import Derived.Test.YtklknbkofmobcacDoorOpenRows
import Derived.ProofKit
import Derived.Lib.SmallJoins
namespace Go.Proofs.YtklknbkofmobcacDoor
open Go.ChangeShapes Go.WideShapes Go.ChangeAt Go.RowKit Go.Joins

theorem Tryd.cellsWin : Tryd.prog.cellsOf 37 = 3 := by kernel_rfl
theorem Tryd.cellsSpanW : Tryd.prog.cellsOf 35 = 2 := by kernel_rfl
theorem Tryd.cellsIntW : Tryd.prog.cellsOf 3 = 1 := by kernel_rfl
section
variable {H : Type} {enc : TypeId × Value → H} {w : World} {spare : Nat → Bool} {held : Bool} {r : Reach} {b0 : Nat} {v : Value} {d : DataW H} {p : List MemPlace}
set_option maxRecDepth 100000 in
theorem open_wins (hv : Value.okWide Tryd.prog w r b0 22 v) (h : DataW.Trod enc Tryd.prog w 0 spare held 22 v d p) :
    ∃ (a : Option Addr) (len cap : Nat) (f g k : Nat → Int), v = .slice a len cap ∧ len ≤ maxLen ∧ Rows3 w a len f g k := by
  obtain ⟨a1, len1, cap1, rfl⟩ := okWide_slice Tryd.underlying22 hv
  obtain ⟨fuel, hf⟩ := h
  obtain ⟨a, len, cap, f, g, k, e, hl, hr, _⟩ := open_rows3 (v := .slice a1 len1 cap1) (t := 22) Tryd.underlying22 Tryd.cellsWin (fun n cs x hh => open_three (ti := 3) (ts := 35) Tryd.underlying37 Tryd.underlying35 Tryd.underlying3 ⟨rfl, rfl⟩ ⟨rfl, rfl⟩ ⟨rfl, rfl⟩ ⟨rfl, rfl⟩ Tryd.cellsWin Tryd.cellsSpanW Tryd.cellsIntW hh) hf
  exact ⟨a, len, cap, f, g, k, e, hl, hr⟩
end
end Go.Proofs.YtklknbkofmobcacDoor
