/- A frame that came in, opened: its five numbers and its text. -/
import Derived.Test.YtdboppcnnjacmaaDoorProg
import Derived.Test.YtdboppcnnjacmaaDoorOpenRows
import Derived.ProofKit
import Derived.Lib.SmallJoins
namespace Go.Proofs.YtdboppcnnjacmaaDoor
open Go.ChangeShapes Go.WideShapes Go.ChangeAt Go.RowKit Go.Joins Go.Deep

section
variable {H : Type} {enc : TypeId × Value → H} {P : Program} {w : World} {spare : Nat → Bool} {held : Bool}
/-- A struct of six fields of one cell each. -/
theorem open_six {t : TypeId} {fs : Array Field} {r : Reach} {b0 : Nat} {v : Value} {d : DataW H} {p : List MemPlace} (ht : P.underlying t = some (.struct fs)) (hc : P.cellsOf t = 6) (ts : List TypeId)
    (hf : ∀ i, i < 6 → ∃ f, fs[i]? = some f ∧ f.type = ts.getD i 0 ∧ f.offset = i ∧ P.cellsOf (ts.getD i 0) = 1) (hsz : fs.size = 6)
    (hv : Value.okWide P w r b0 t v) (h : DataW.Trod enc P w 0 spare held t v d p) :
    ∃ c0 c1 c2 c3 c4 c5 : Value, v = .agg #[c0, c1, c2, c3, c4, c5] ∧ ∀ i, i < 6 → ∃ n x, DataW.trod enc P w 0 spare held n (ts.getD i 0) [[c0, c1, c2, c3, c4, c5].getD i .nilIface] = some x := by
  obtain ⟨cs, rfl, hz⟩ := okWide_struct ht hv
  rw [hc] at hz
  obtain ⟨l⟩ := cs
  match l, hz with
  | [c0, c1, c2, c3, c4, c5], _ =>
    refine ⟨c0, c1, c2, c3, c4, c5, rfl, fun i hi => ?_⟩
    obtain ⟨fuel, hfu⟩ := h
    obtain ⟨xs, n, _, _, _, hlen, hx⟩ := DataW.trod_struct ht hfu
    obtain ⟨f, h1, h2, h3, h4⟩ := hf i hi
    have g := hx i f h1
    rw [h2, h3, h4, List.getElem?_eq_getElem (by rw [hlen, hsz]; exact hi)] at g
    refine ⟨n, xs[i]'(by rw [hlen, hsz]; exact hi), ?_⟩
    rw [← g]
    have : i = 0 ∨ i = 1 ∨ i = 2 ∨ i = 3 ∨ i = 4 ∨ i = 5 := by omega
    rcases this with rfl | rfl | rfl | rfl | rfl | rfl <;> simp [Value.cells]
end

theorem Tryd.cellsFrame : Tryd.prog.cellsOf 67 = 6 := by kernel_rfl
theorem Tryd.cellsIntF : Tryd.prog.cellsOf 3 = 1 := by kernel_rfl
theorem Tryd.cellsStrF : Tryd.prog.cellsOf 9 = 1 := by kernel_rfl

set_option maxRecDepth 100000 in
/-- A frame that came in. -/
theorem open_frame {H : Type} {enc : TypeId × Value → H} {w : World} {spare : Nat → Bool} {held : Bool} {r : Reach} {b0 : Nat} {v : Value} {d : DataW H} {p : List MemPlace}
    (hv : Value.okWide Tryd.prog w r b0 67 v) (h : DataW.Trod enc Tryd.prog w 0 spare held 67 v d p) :
    ∃ (node slot members link seq : Int) (S : ByteArray), v = .agg #[.int .i64 node, .int .i64 slot, .int .i64 members, .int .i64 link, .int .i64 seq, .string S] ∧ S.size ≤ maxLen := by
  obtain ⟨c0, c1, c2, c3, c4, c5, rfl, hx⟩ := open_six Tryd.underlying67 Tryd.cellsFrame [3, 3, 3, 3, 3, 9]
    (fun i hi => by
      have : i = 0 ∨ i = 1 ∨ i = 2 ∨ i = 3 ∨ i = 4 ∨ i = 5 := by omega
      rcases this with rfl | rfl | rfl | rfl | rfl | rfl <;> first | exact ⟨_, rfl, rfl, rfl, Tryd.cellsIntF⟩ | exact ⟨_, rfl, rfl, rfl, Tryd.cellsStrF⟩) rfl hv h
  obtain ⟨_, _, q0⟩ := hx 0 (by omega)
  obtain ⟨_, _, q1⟩ := hx 1 (by omega)
  obtain ⟨_, _, q2⟩ := hx 2 (by omega)
  obtain ⟨_, _, q3⟩ := hx 3 (by omega)
  obtain ⟨_, _, q4⟩ := hx 4 (by omega)
  obtain ⟨_, _, q5⟩ := hx 5 (by omega)
  obtain ⟨a, e0, _, _⟩ := DataW.trod_int Tryd.underlying3 q0
  obtain ⟨b, e1, _, _⟩ := DataW.trod_int Tryd.underlying3 q1
  obtain ⟨c, e2, _, _⟩ := DataW.trod_int Tryd.underlying3 q2
  obtain ⟨e, e3, _, _⟩ := DataW.trod_int Tryd.underlying3 q3
  obtain ⟨f, e4, _, _⟩ := DataW.trod_int Tryd.underlying3 q4
  obtain ⟨S, e5, _, hS⟩ := DataW.trod_string Tryd.underlying9 q5
  simp at e0 e1 e2 e3 e4 e5
  subst e0 e1 e2 e3 e4 e5
  exact ⟨a, b, c, e, f, S, rfl, hS⟩
end Go.Proofs.YtdboppcnnjacmaaDoor
