/- A plan that came in, opened: its numbers, and its rows in memory. -/
import Derived.Test.YtlpojkehbhkdiaaDoorProg
import Derived.Test.YtlpojkehbhkdiaaDoorOpenRows
namespace Go.Proofs.YtlpojkehbhkdiaaDoor
open Go.ChangeShapes Go.WideShapes Go.ChangeAt Go.RowKit Go.Joins Go.Deep

theorem cells_int : Tryd.prog.cellsOf 3 = 1 := by kernel_rfl
theorem cells_span : Tryd.prog.cellsOf 54 = 2 := by kernel_rfl
theorem cells_slot : Tryd.prog.cellsOf 56 = 3 := by kernel_rfl
theorem cells_link : Tryd.prog.cellsOf 58 = 4 := by kernel_rfl
theorem cells_window : Tryd.prog.cellsOf 61 = 3 := by kernel_rfl
theorem cells_plan : Tryd.prog.cellsOf 26 = 10 := by kernel_rfl
theorem cells_slots : Tryd.prog.cellsOf 22 = 1 := by kernel_rfl
theorem cells_links : Tryd.prog.cellsOf 23 = 1 := by kernel_rfl
theorem cells_windows : Tryd.prog.cellsOf 24 = 1 := by kernel_rfl

def planTypes : List TypeId := [3, 3, 3, 3, 3, 3, 22, 23, 3, 24]

set_option maxRecDepth 100000 in
theorem open_plan {H : Type} {enc : TypeId × Value → H} {w : World} {spare : Nat → Bool} {held : Bool} {r : Reach} {b0 : Nat} {v : Value} {d : DataW H} {p : List MemPlace}
    (hv : Value.okWide Tryd.prog w r b0 26 v) (h : DataW.Trod enc Tryd.prog w 0 spare held 26 v d p) :
    ∃ (nodes faulty skew jitter drift round frame : Int) (sa la wa : Option Addr) (ns sc nl lc nw wc : Nat) (nd fr to lf lt lb lq wp wf wt : Nat → Int),
      v = .agg #[.int .i64 nodes, .int .i64 faulty, .int .i64 skew, .int .i64 jitter, .int .i64 drift, .int .i64 round, .slice sa ns sc, .slice la nl lc, .int .i64 frame, .slice wa nw wc] ∧
      (isInt nodes ∧ isInt faulty ∧ isInt skew ∧ isInt jitter ∧ isInt drift ∧ isInt round ∧ isInt frame) ∧ (ns ≤ maxLen ∧ nl ≤ maxLen ∧ nw ≤ maxLen) ∧
      Rows3 w sa ns nd fr to ∧ Rows4 w la nl lf lt lb lq ∧ Rows3 w wa nw wp wf wt ∧
      (∀ j, j < ns → isInt (nd j) ∧ isInt (fr j) ∧ isInt (to j)) ∧ (∀ j, j < nl → isInt (lf j) ∧ isInt (lt j) ∧ isInt (lb j) ∧ isInt (lq j)) ∧ (∀ j, j < nw → isInt (wp j) ∧ isInt (wf j) ∧ isInt (wt j)) := by
  obtain ⟨c0, c1, c2, c3, c4, c5, c6, c7, c8, c9, rfl, hx⟩ := open_ten Tryd.underlying26 cells_plan planTypes (fun i hi => by
    have : i = 0 ∨ i = 1 ∨ i = 2 ∨ i = 3 ∨ i = 4 ∨ i = 5 ∨ i = 6 ∨ i = 7 ∨ i = 8 ∨ i = 9 := by omega
    rcases this with rfl | rfl | rfl | rfl | rfl | rfl | rfl | rfl | rfl | rfl
    · exact ⟨_, rfl, rfl, rfl, cells_int⟩
    · exact ⟨_, rfl, rfl, rfl, cells_int⟩
    · exact ⟨_, rfl, rfl, rfl, cells_int⟩
    · exact ⟨_, rfl, rfl, rfl, cells_int⟩
    · exact ⟨_, rfl, rfl, rfl, cells_int⟩
    · exact ⟨_, rfl, rfl, rfl, cells_int⟩
    · exact ⟨_, rfl, rfl, rfl, cells_slots⟩
    · exact ⟨_, rfl, rfl, rfl, cells_links⟩
    · exact ⟨_, rfl, rfl, rfl, cells_int⟩
    · exact ⟨_, rfl, rfl, rfl, cells_windows⟩) rfl hv h
  obtain ⟨_, _, g0⟩ := hx 0 (by decide)
  obtain ⟨_, _, g1⟩ := hx 1 (by decide)
  obtain ⟨_, _, g2⟩ := hx 2 (by decide)
  obtain ⟨_, _, g3⟩ := hx 3 (by decide)
  obtain ⟨_, _, g4⟩ := hx 4 (by decide)
  obtain ⟨_, _, g5⟩ := hx 5 (by decide)
  obtain ⟨_, _, g6⟩ := hx 6 (by decide)
  obtain ⟨_, _, g7⟩ := hx 7 (by decide)
  obtain ⟨_, _, g8⟩ := hx 8 (by decide)
  obtain ⟨_, _, g9⟩ := hx 9 (by decide)
  obtain ⟨nodes, e0, _, w0⟩ := DataW.trod_int (t := 3) Tryd.underlying3 g0
  obtain ⟨faulty, e1, _, w1⟩ := DataW.trod_int (t := 3) Tryd.underlying3 g1
  obtain ⟨skew, e2, _, w2⟩ := DataW.trod_int (t := 3) Tryd.underlying3 g2
  obtain ⟨jitter, e3, _, w3⟩ := DataW.trod_int (t := 3) Tryd.underlying3 g3
  obtain ⟨drift, e4, _, w4⟩ := DataW.trod_int (t := 3) Tryd.underlying3 g4
  obtain ⟨round, e5, _, w5⟩ := DataW.trod_int (t := 3) Tryd.underlying3 g5
  obtain ⟨frame, e8, _, w8⟩ := DataW.trod_int (t := 3) Tryd.underlying3 g8
  simp at e0 e1 e2 e3 e4 e5 e8
  subst e0 e1 e2 e3 e4 e5 e8
  obtain ⟨sa, ns, sc, nd, fr, to, e6, m6, r6, i6⟩ := open_rows3 (t := 22) Tryd.underlying22 cells_slot (fun n cs x hh => open_three (ti := 3) (ts := 54) Tryd.underlying56 Tryd.underlying54 Tryd.underlying3 ⟨rfl, rfl⟩ ⟨rfl, rfl⟩ ⟨rfl, rfl⟩ ⟨rfl, rfl⟩ cells_slot cells_span cells_int hh) g6
  obtain ⟨la, nl, lc, lf, lt, lb, lq, e7, m7, r7, i7⟩ := open_rows4 (t := 23) Tryd.underlying23 cells_link (fun n cs x hh => open_four (ti := 3) Tryd.underlying58 Tryd.underlying3 ⟨rfl, rfl⟩ ⟨rfl, rfl⟩ ⟨rfl, rfl⟩ ⟨rfl, rfl⟩ cells_link cells_int hh) g7
  obtain ⟨wa, nw, wc, wp, wf, wt, e9, m9, r9, i9⟩ := open_rows3 (t := 24) Tryd.underlying24 cells_window (fun n cs x hh => open_three (ti := 3) (ts := 54) Tryd.underlying61 Tryd.underlying54 Tryd.underlying3 ⟨rfl, rfl⟩ ⟨rfl, rfl⟩ ⟨rfl, rfl⟩ ⟨rfl, rfl⟩ cells_window cells_span cells_int hh) g9
  simp at e6 e7 e9
  subst e6 e7 e9
  exact ⟨nodes, faulty, skew, jitter, drift, round, frame, sa, la, wa, ns, sc, nl, lc, nw, wc, nd, fr, to, lf, lt, lb, lq, wp, wf, wt, rfl, ⟨w0, w1, w2, w3, w4, w5, w8⟩, ⟨m6, m7, m9⟩, r6, r7, r9, i6, i7, i9⟩
end Go.Proofs.YtlpojkehbhkdiaaDoor
