/- A script of things of three numbers, and a number, that came in, opened. -/
import Derived.Test.YtjppjdocncmkdabDoorOpenRows
import Derived.Deep.Strs
import Derived.Test.YtjppjdocncmkdabDoorProg
namespace Go.Proofs.YtjppjdocncmkdabDoor
open Go.ChangeShapes Go.WideShapes Go.ChangeAt Go.RowKit Go.Joins Go.Deep

theorem isInt_le' {n : Int} (h : (Lit.int .i64 n).wf = true) : -9223372036854775808 ≤ n ∧ n ≤ 9223372036854775807 := by
  simp only [Lit.wf, Bool.and_eq_true, decide_eq_true_eq] at h
  exact ⟨Int.le_trans (by decide) h.1, Int.le_trans h.2 (by decide)⟩

section
variable {H : Type} {enc : TypeId × Value → H} {w : World} {spare : Nat → Bool} {held : Bool} {r : Reach} {b0 : Nat} {v : Value} {d : DataW H} {p : List MemPlace}

theorem open_triple {P : Program} {t ti : TypeId} {f0 f1 f2 : Field} {n : Nat} {cs : List Value} {x : DataW H × List MemPlace} (ht : P.underlying t = some (.struct #[f0, f1, f2])) (hi : P.underlying ti = some (.int .i64))
    (h0 : f0.type = ti ∧ f0.offset = 0) (h1 : f1.type = ti ∧ f1.offset = 1) (h2 : f2.type = ti ∧ f2.offset = 2) (hc : P.cellsOf t = 3) (hci : P.cellsOf ti = 1)
    (h : DataW.trod enc P w 0 spare held n t cs = some x) : ∃ a b c : Int, cs = [.int .i64 a, .int .i64 b, .int .i64 c] ∧ isInt a ∧ isInt b ∧ isInt c := by
  obtain ⟨y0, y1, y2, m, _, hl, q0, q1, q2⟩ := trod_struct3 ht h
  rw [hc] at hl
  match cs, hl with
  | [v0, v1, v2], _ =>
    rw [h0.1, h0.2, hci] at q0
    rw [h1.1, h1.2, hci] at q1
    rw [h2.1, h2.2, hci] at q2
    obtain ⟨a, e0, _, wa⟩ := DataW.trod_int hi q0
    obtain ⟨b, e1, _, wb⟩ := DataW.trod_int hi q1
    obtain ⟨c, e2, _, wc⟩ := DataW.trod_int hi q2
    simp at e0 e1 e2
    subst e0 e1 e2
    exact ⟨a, b, c, rfl, wa, wb, wc⟩

theorem Tryd.cellsHeard : Tryd.prog.cellsOf 74 = 3 := by kernel_rfl
theorem Tryd.cellsOne : Tryd.prog.cellsOf 3 = 1 := by kernel_rfl
set_option maxRecDepth 100000 in
theorem open_heards (hv : Value.okWide Tryd.prog w r b0 66 v) (h : DataW.Trod enc Tryd.prog w 0 spare held 66 v d p) :
    ∃ (a : Option Addr) (len cap : Nat) (f g k : Nat → Int), v = .slice a len cap ∧ len ≤ maxLen ∧ Rows3 w a len f g k ∧ ∀ j, j < len → -9223372036854775808 ≤ k j ∧ k j < 9223372036854775808 := by
  obtain ⟨a1, len1, cap1, rfl⟩ := okWide_slice Tryd.underlying66 hv
  obtain ⟨fuel, hf⟩ := h
  obtain ⟨a, len, cap, f, g, k, e, hl, hr, hi⟩ := open_rows3 (v := .slice a1 len1 cap1) Tryd.underlying66 Tryd.cellsHeard (fun n cs x hx => open_triple Tryd.underlying74 Tryd.underlying3 ⟨rfl, rfl⟩ ⟨rfl, rfl⟩ ⟨rfl, rfl⟩ Tryd.cellsHeard Tryd.cellsOne hx) hf
  exact ⟨a, len, cap, f, g, k, e, hl, hr, fun j hj => by have := isInt_le' (hi j hj).2.2; omega⟩
set_option maxRecDepth 100000 in
theorem open_number (hv : Value.okWide Tryd.prog w r b0 3 v) (h : DataW.Trod enc Tryd.prog w 0 spare held 3 v d p) :
    ∃ a : Int, v = .int .i64 a ∧ -9223372036854775808 ≤ a ∧ a ≤ 9223372036854775807 := by
  obtain ⟨a, rfl, _, _, wa⟩ := open_int Tryd.underlying3 hv h
  exact ⟨a, rfl, isInt_le' wa⟩
end
end Go.Proofs.YtjppjdocncmkdabDoor
