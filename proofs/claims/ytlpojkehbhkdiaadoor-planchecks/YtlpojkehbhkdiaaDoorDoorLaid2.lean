/- From what a row lists (package errors' own variable; the document's answer's variable Fine) to the walk's conditions, and a world that meets them. -/
import Derived.Test.YtlpojkehbhkdiaaDoorRows
import Derived.Test.YtlpojkehbhkdiaaDoorTell
import Derived.Test.YtlpojkehbhkdiaaDoorRefMain
import Derived.ProofKit
import Derived.Lib.SmallJoins
import Derived.ChangeVars
import Derived.LaidLaws
import Derived.LaidHandle
import Derived.Stop.Joined
namespace Go.Proofs.YtlpojkehbhkdiaaDoor
open Go.ChangeShapes Go.WideShapes Go.ChangeAt Go.RowKit Go.Joins

theorem own : ownKnob Tryd.prog.godebug = none := by kernel_rfl
def typeWord : DataW Unit → String
  | .iface n _ => n
  | _ => ""
/-- What the rows list, by the row's own words. -/
def laidList : List (String × DataW Unit) := Rows.planChecksRow.laid
def fineName : String := (laidList.getD 1 ("", .agg [])).1
theorem Tryd.et : Tryd.prog.globalNamed "errors.errorType" = some 1 := by kernel_rfl
theorem Tryd.fi : Tryd.prog.globalNamed fineName = some 0 := by kernel_rfl
theorem Tryd.fit : (Tryd.prog.globals[0]?).map (·.type) = some 34 := by kernel_rfl
theorem Tryd.rt : (Tryd.prog.cutTypes.find? (·.1 == typeWord Rows.laid_errors_errorType)).map (·.2) = some 107 := by kernel_rfl
theorem Tryd.oneRow : ((List.range 147).filter fun t => Tryd.prog.rowNamed t [101, 114, 114, 111, 114]) = [30] := by kernel_rfl
theorem Tryd.size : Tryd.prog.types.size = 147 := by kernel_rfl

theorem laid_parts {W : World} (h : laidMetH Tryd.prog laidList W) : laidMet Tryd.prog [(fineName, .agg [.lit (.int .i64 0), .lit (.int .i64 (-1))])] W ∧ handlesMet Tryd.prog [("errors.errorType", Rows.laid_errors_errorType)] W := h

theorem told_of_laid {W : World} (h : laidMetH Tryd.prog laidList W) : Told W := by
  obtain ⟨name, u, ty, e1, e2, e3, e4, e5⟩ := (laid_parts h).2 _ (List.mem_singleton.2 rfl)
  have en : name = [101, 114, 114, 111, 114] := (Option.some.inj e1).symm
  subst en
  obtain rfl := Option.some.inj (Tryd.rt.symm.trans e2)
  have hm : ty ∈ (List.range 147).filter fun t => Tryd.prog.rowNamed t [101, 114, 114, 111, 114] := List.mem_filter.2 ⟨List.mem_range.2 (by rw [← Tryd.size]; exact e3), e4⟩
  rw [Tryd.oneRow] at hm
  obtain rfl := List.mem_singleton.1 hm
  have hh : typeHandle Tryd.prog 30 = .pointer (some ⟨2, 30, none⟩) := by kernel_rfl
  rw [hh] at e5
  unfold Told
  simpa using World.var?_cell Tryd.et e5 0

set_option maxRecDepth 100000 in
theorem fine_of_laid {W : World} (h : laidMetH Tryd.prog laidList W) : Fine0 W := by
  obtain ⟨ps, ⟨g, t, cs, fuel, p, q, e1, e2, e3, e4, _, _⟩, _, _⟩ := (laid_parts h).1
  obtain rfl := Option.some.inj (Tryd.fi.symm.trans e1)
  obtain rfl := Option.some.inj (Tryd.fit.symm.trans e2)
  obtain ⟨y0, y1, m, hd, hl, q0, q1⟩ := trod_struct2 Tryd.underlying34 e4
  obtain ⟨l⟩ := cs
  have hcF : Tryd.prog.cellsOf 34 = 2 := by kernel_rfl
  have hcE : Tryd.prog.cellsOf 32 = 1 := by kernel_rfl
  have hcI : Tryd.prog.cellsOf 3 = 1 := by kernel_rfl
  rw [hcF] at hl
  match l, hl with
  | [v0, v1], _ =>
    simp only [hcE, hcI] at q0 q1
    obtain ⟨a, f0, g0, _⟩ := DataW.trod_int Tryd.underlying32 q0
    obtain ⟨b, f1, g1, _⟩ := DataW.trod_int Tryd.underlying3 q1
    simp at f0 f1
    subst f0 f1
    rw [g0, g1] at hd
    simp at hd
    obtain ⟨⟨rfl, rfl⟩, _⟩ := hd
    have c0 : W.cell? ⟨0, 0, none⟩ = some (.int .i64 0) := by simpa using World.var?_cell Tryd.fi e3 0
    have c1 : W.cell? ⟨0, 1, none⟩ = some (.int .i64 (-1)) := by simpa using World.var?_cell Tryd.fi e3 1
    refine ⟨?_, c0, c1⟩
    rcases Nat.lt_or_ge 0 W.heap.size with k | k
    · exact k
    · simp [World.cell?, Array.getElem?_eq_none k] at c0

/-- A world that meets the conditions: the settled one, the two variables' cells laid. -/
def laidHeap (w0 : World) : World :=
  { w0 with heap := (w0.heap.modify 1 fun
      | .cells _ t frozen => .cells #[.iface 107 (.agg #[.pointer (some ⟨2, 30, none⟩)])] t frozen
      | o => o).modify 0 fun
      | .cells _ t frozen => .cells #[.int .i64 0, .int .i64 (-1)] t frozen
      | o => o }
theorem laid_met (os : Os) (args : Array Value) : laidMetH Tryd.prog laidList ((laidHeap (World.holding Tryd.prog os ⟨#[], #[], []⟩)).forCall (fun _ _ => 0) ⟨#[], args, []⟩).memory :=
  laidMetH_of_parts (laidMet_of_run' 8 (by kernel_rfl) (by kernel_rfl)) (by kernel_rfl)
end Go.Proofs.YtlpojkehbhkdiaaDoor
