/- A plan that came in, opened: its numbers, and its rows in memory. -/
import Derived.Test.YtdmokcnoljlogaaGreatDoorProg
import Derived.Test.YtdmokcnoljlogaaGreatDoorWordsB
import Derived.ProofKit
import Derived.Lib.SmallJoins
import Derived.Test.YtdmokcnoljlogaaGreatDoorWordsA
import Derived.Deep.Slices
namespace Go.Proofs.YtdmokcnoljlogaaGreatDoor
open Go.ChangeShapes Go.WideShapes Go.ChangeAt Go.RowKit Go.Joins Go.Deep

theorem cells_int : Tryz.prog.cellsOf 3 = 1 := by kernel_rfl
theorem cells_span : Tryz.prog.cellsOf 59 = 2 := by kernel_rfl
theorem cells_slot : Tryz.prog.cellsOf 61 = 3 := by kernel_rfl
theorem cells_link : Tryz.prog.cellsOf 54 = 4 := by kernel_rfl
theorem cells_window : Tryz.prog.cellsOf 147 = 3 := by kernel_rfl
theorem cells_plan : Tryz.prog.cellsOf 26 = 10 := by kernel_rfl
theorem cells_slots : Tryz.prog.cellsOf 22 = 1 := by kernel_rfl
theorem cells_links : Tryz.prog.cellsOf 23 = 1 := by kernel_rfl
theorem cells_windows : Tryz.prog.cellsOf 24 = 1 := by kernel_rfl

def planTypes : List TypeId := [3, 3, 3, 3, 3, 3, 22, 23, 3, 24]

set_option maxRecDepth 100000 in
theorem open_plan {H : Type} {enc : TypeId × Value → H} {w : World} {spare : Nat → Bool} {held : Bool} {r : Reach} {b0 : Nat} {v : Value} {d : DataW H} {p : List MemPlace}
    (hv : Value.okWide Tryz.prog w r b0 26 v) (h : DataW.Trod enc Tryz.prog w 0 spare held 26 v d p) :
    ∃ (nodes faulty skew jitter drift round frame : Int) (sa la wa : Option Addr) (ns sc nl lc nw wc : Nat) (nd fr to lf lt lb lq wp wf wt : Nat → Int),
      v = .agg #[.int .i64 nodes, .int .i64 faulty, .int .i64 skew, .int .i64 jitter, .int .i64 drift, .int .i64 round, .slice sa ns sc, .slice la nl lc, .int .i64 frame, .slice wa nw wc] ∧
      (isInt nodes ∧ isInt faulty ∧ isInt skew ∧ isInt jitter ∧ isInt drift ∧ isInt round ∧ isInt frame) ∧ (ns ≤ maxLen ∧ nl ≤ maxLen ∧ nw ≤ maxLen) ∧
      Rows3 w sa ns nd fr to ∧ Rows4 w la nl lf lt lb lq ∧ Rows3 w wa nw wp wf wt ∧
      (∀ j, j < ns → isInt (nd j) ∧ isInt (fr j) ∧ isInt (to j)) ∧ (∀ j, j < nl → isInt (lf j) ∧ isInt (lt j) ∧ isInt (lb j) ∧ isInt (lq j)) ∧ (∀ j, j < nw → isInt (wp j) ∧ isInt (wf j) ∧ isInt (wt j)) := by
  obtain ⟨c0, c1, c2, c3, c4, c5, c6, c7, c8, c9, rfl, hx⟩ := open_ten Tryz.underlying26 cells_plan planTypes (fun i hi => by
    have : i = 0 ∨ i = 1 ∨ i = 2 ∨ i = 3 ∨ i = 4 ∨ i = 5 ∨ i = 6 ∨ i = 7 ∨ i = 8 ∨ i = 9 := by omega
    rcases this with rfl | rfl | rfl | rfl | rfl | rfl | rfl | rfl | rfl | rfl
    · exact ⟨_, rfl, rfl, rfl, cells_int⟩
    · exact ⟨_, rfl, rfl, rfl, cells_int⟩
    · exact ⟨_, rfl, rfl, rfl, cells_int⟩
    · exact ⟨_, rfl, rfl, rfl, cells_int⟩
    · exact ⟨_, rfl, rfl, rfl, cells_int⟩
    · exact ⟨_, rfl, rfl, rfl, cells_int⟩
    · exact ⟨_, rfl, rfl, rfl, cells_slots⟩
    · exact ⟨_, rfl, rfl, rfl, cells_links⟩
    · exact ⟨_, rfl, rfl, rfl, cells_int⟩
    · exact ⟨_, rfl, rfl, rfl, cells_windows⟩) rfl hv h
  obtain ⟨_, _, g0⟩ := hx 0 (by decide)
  obtain ⟨_, _, g1⟩ := hx 1 (by decide)
  obtain ⟨_, _, g2⟩ := hx 2 (by decide)
  obtain ⟨_, _, g3⟩ := hx 3 (by decide)
  obtain ⟨_, _, g4⟩ := hx 4 (by decide)
  obtain ⟨_, _, g5⟩ := hx 5 (by decide)
  obtain ⟨_, _, g6⟩ := hx 6 (by decide)
  obtain ⟨_, _, g7⟩ := hx 7 (by decide)
  obtain ⟨_, _, g8⟩ := hx 8 (by decide)
  obtain ⟨_, _, g9⟩ := hx 9 (by decide)
  obtain ⟨nodes, e0, _, w0⟩ := DataW.trod_int (t := 3) Tryz.underlying3 g0
  obtain ⟨faulty, e1, _, w1⟩ := DataW.trod_int (t := 3) Tryz.underlying3 g1
  obtain ⟨skew, e2, _, w2⟩ := DataW.trod_int (t := 3) Tryz.underlying3 g2
  obtain ⟨jitter, e3, _, w3⟩ := DataW.trod_int (t := 3) Tryz.underlying3 g3
  obtain ⟨drift, e4, _, w4⟩ := DataW.trod_int (t := 3) Tryz.underlying3 g4
  obtain ⟨round, e5, _, w5⟩ := DataW.trod_int (t := 3) Tryz.underlying3 g5
  obtain ⟨frame, e8, _, w8⟩ := DataW.trod_int (t := 3) Tryz.underlying3 g8
  simp at e0 e1 e2 e3 e4 e5 e8
  subst e0 e1 e2 e3 e4 e5 e8
  obtain ⟨sa, ns, sc, nd, fr, to, e6, m6, r6, i6⟩ := open_rows3 (t := 22) Tryz.underlying22 cells_slot (fun n cs x hh => open_three (ti := 3) (ts := 59) Tryz.underlying61 Tryz.underlying59 Tryz.underlying3 ⟨rfl, rfl⟩ ⟨rfl, rfl⟩ ⟨rfl, rfl⟩ ⟨rfl, rfl⟩ cells_slot cells_span cells_int hh) g6
  obtain ⟨la, nl, lc, lf, lt, lb, lq, e7, m7, r7, i7⟩ := open_rows4 (t := 23) Tryz.underlying23 cells_link (fun n cs x hh => open_four (ti := 3) Tryz.underlying54 Tryz.underlying3 ⟨rfl, rfl⟩ ⟨rfl, rfl⟩ ⟨rfl, rfl⟩ ⟨rfl, rfl⟩ cells_link cells_int hh) g7
  obtain ⟨wa, nw, wc, wp, wf, wt, e9, m9, r9, i9⟩ := open_rows3 (t := 24) Tryz.underlying24 cells_window (fun n cs x hh => open_three (ti := 3) (ts := 59) Tryz.underlying147 Tryz.underlying59 Tryz.underlying3 ⟨rfl, rfl⟩ ⟨rfl, rfl⟩ ⟨rfl, rfl⟩ ⟨rfl, rfl⟩ cells_window cells_span cells_int hh) g9
  simp at e6 e7 e9
  subst e6 e7 e9
  exact ⟨nodes, faulty, skew, jitter, drift, round, frame, sa, la, wa, ns, sc, nl, lc, nw, wc, nd, fr, to, lf, lt, lb, lq, wp, wf, wt, rfl, ⟨w0, w1, w2, w3, w4, w5, w8⟩, ⟨m6, m7, m9⟩, r6, r7, r9, i6, i7, i9⟩
end Go.Proofs.YtdmokcnoljlogaaGreatDoor

/- A number that came in, opened. -/
namespace Go.Proofs.YtdmokcnoljlogaaGreatDoor
open Go.ChangeShapes Go.WideShapes Go.ChangeAt Go.RowKit Go.Joins

theorem isInt_le' {n : Int} (h : (Lit.int .i64 n).wf = true) : -9223372036854775808 ≤ n ∧ n ≤ 9223372036854775807 := by
  simp only [Lit.wf, Bool.and_eq_true, decide_eq_true_eq] at h
  exact ⟨Int.le_trans (by decide) h.1, Int.le_trans h.2 (by decide)⟩

section
variable {H : Type} {enc : TypeId × Value → H} {w : World} {spare : Nat → Bool} {held : Bool} {r : Reach} {b0 : Nat} {v : Value} {d : DataW H} {p : List MemPlace}
set_option maxRecDepth 100000 in
theorem open_number (hv : Value.okWide Tryz.prog w r b0 3 v) (h : DataW.Trod enc Tryz.prog w 0 spare held 3 v d p) :
    ∃ a : Int, v = .int .i64 a ∧ -9223372036854775808 ≤ a ∧ a ≤ 9223372036854775807 := by
  obtain ⟨a, rfl, _, _, wa⟩ := open_int Tryz.underlying3 hv h
  exact ⟨a, rfl, isInt_le' wa⟩
end
end Go.Proofs.YtdmokcnoljlogaaGreatDoor

/- A plan that came in, opened, in plain numbers (ahead of stage 9). -/
namespace Go.Proofs.YtdmokcnoljlogaaGreatDoor
open Go.ChangeShapes Go.WideShapes Go.ChangeAt Go.RowKit Go.Joins Go.Deep

set_option maxRecDepth 100000 in
theorem open_planN {H : Type} {enc : TypeId × Value → H} {w : World} {spare : Nat → Bool} {held : Bool} {r : Reach} {b0 : Nat} {v : Value} {d : DataW H} {p : List MemPlace}
    (hv : Value.okWide Tryz.prog w r b0 26 v) (h : DataW.Trod enc Tryz.prog w 0 spare held 26 v d p) :
    ∃ (q : PlanN) (a : PlanAt), v = q.val a ∧ q.In a w := by
  obtain ⟨nodes, faulty, skew, jitter, drift, round, frame, sa, la, wa, ns, sc, nl, lc, nw, wc, nd, fr, to_, lf, lt, lb, lq, wp, wf, wt, rfl, _, ⟨m1, m2, m3⟩, r3, r4, r5, _, i7, _⟩ := open_plan hv h
  exact ⟨⟨nodes, faulty, skew, jitter, drift, round, frame, ns, nl, nw, nd, fr, to_, lf, lt, lb, lq, wp, wf, wt⟩, ⟨sa, sc, la, lc, wa, wc⟩, rfl, r3, r4, r5, fun k hk => isInt_le' (i7 k hk).2.1, Nat.le_trans m1 (by decide), Nat.le_trans m2 (by decide), Nat.le_trans m3 (by decide)⟩
end Go.Proofs.YtdmokcnoljlogaaGreatDoor

/- Rows of numbers that came in, opened. -/
namespace Go.Proofs.YtdmokcnoljlogaaGreatDoor
open Go.ChangeShapes Go.WideShapes Go.ChangeAt Go.RowKit Go.Joins Go.Deep

theorem Tryz.cellsInt : Tryz.prog.cellsOf 3 = 1 := by kernel_rfl

theorem cell_has {w : World} {b off : Nat} {v : Value} (h : w.cell? ⟨b, off, none⟩ = some v) : b < w.heap.size := by
  rcases Nat.lt_or_ge b w.heap.size with q | q
  · exact q
  · simp [World.cell?, Array.getElem?_eq_none q] at h

/-- What a slice of numbers reads as. -/
theorem ints_at {H : Type} {enc : TypeId × Value → H} {w : World} {spare : Nat → Bool} {held : Bool} {b0 fuel : Nat} {a1 : Option Addr} {len cap : Nat} {d : DataW H} {p : List MemPlace}
    (h : DataW.trod enc Tryz.prog w b0 spare held fuel 27 [.slice a1 len cap] = some (d, p)) :
    ∃ l : List Int, len = l.length ∧ IntRow w a1 l ∧ len ≤ cap ∧ (a1 = none → len = 0) := by
  rcases open_ints Tryz.underlying27 Tryz.underlying3 Tryz.cellsInt h with ⟨hcs, _⟩ | ⟨a, len', cap', zs, hcs, _, hl, hm, hz, _, hcell, hwz⟩
  · simp at hcs
    obtain ⟨rfl, rfl, rfl⟩ := hcs
    exact ⟨[], rfl, fun hn => absurd hn (Nat.lt_irrefl _), Nat.le_refl _, fun _ => rfl⟩
  · simp at hcs
    obtain ⟨rfl, rfl, rfl⟩ := hcs
    have hle : len ≤ zs.length := by rw [hz]; split <;> omega
    have hlen : (zs.take len).length = len := by simp; omega
    refine ⟨zs.take len, hlen.symm, fun hn => ?_, hl, fun e => by cases e⟩
    rw [hlen] at hn
    have h0 := hcell 0 (by omega)
    obtain ⟨b, off, spot⟩ := a
    have hs : spot = none := by simpa [Addr.add] using World.cell?_spot h0
    subst hs
    refine ⟨b, off, rfl, ?_, fun j hj => ?_⟩
    · rw [add_at] at h0
      exact cell_has h0
    · rw [hlen] at hj
      have hc := hcell j (by omega)
      rw [add_at] at hc
      rw [hc, getD_at (show j < (zs.take len).length by rw [hlen]; exact hj), List.getElem_take]
      simp [List.getD, show j < zs.length by omega]

set_option maxRecDepth 100000 in
/-- A slice of numbers that came in. -/
theorem open_nums {H : Type} {enc : TypeId × Value → H} {w : World} {spare : Nat → Bool} {held : Bool} {r : Reach} {b0 : Nat} {v : Value} {d : DataW H} {p : List MemPlace}
    (hv : Value.okWide Tryz.prog w r b0 27 v) (h : DataW.Trod enc Tryz.prog w 0 spare held 27 v d p) :
    ∃ (a : Option Addr) (cap : Nat) (l : List Int), v = .slice a l.length cap ∧ IntRow w a l := by
  obtain ⟨a1, len, cap, rfl⟩ := okWide_slice Tryz.underlying27 hv
  obtain ⟨fuel, hf⟩ := h
  obtain ⟨l, rfl, hr, _⟩ := ints_at hf
  exact ⟨a1, cap, l, rfl, hr⟩
end Go.Proofs.YtdmokcnoljlogaaGreatDoor

/- A round that came in, opened (ahead of stage 9). -/
namespace Go.Proofs.YtdmokcnoljlogaaGreatDoor
open Go.ChangeShapes Go.WideShapes Go.ChangeAt Go.RowKit Go.Joins Go.Deep

theorem Tryz.cellsLoss : Tryz.prog.cellsOf 106 = 3 := by kernel_rfl
theorem Tryz.cellsReading : Tryz.prog.cellsOf 154 = 3 := by kernel_rfl
theorem Tryz.cellsRound : Tryz.prog.cellsOf 35 = 4 := by kernel_rfl
theorem Tryz.cellsIntR : Tryz.prog.cellsOf 3 = 1 := by kernel_rfl
theorem Tryz.cellsIntsR : Tryz.prog.cellsOf 27 = 1 := by kernel_rfl
theorem Tryz.cellsLosses : Tryz.prog.cellsOf 32 = 1 := by kernel_rfl
theorem Tryz.cellsReadings : Tryz.prog.cellsOf 33 = 1 := by kernel_rfl

section
variable {H : Type} {enc : TypeId × Value → H} {w : World} {spare : Nat → Bool} {held : Bool}

theorem ints_any_len {fuel : Nat} {v : Value} {x : DataW H × List MemPlace} (h : DataW.trod enc Tryz.prog w 0 spare held fuel 27 [v] = some x) : ∃ a cap l, v = .slice a (l : List Int).length cap ∧ IntRow w a l ∧ l.length ≤ 9223372036854775807 := by
  rcases open_ints Tryz.underlying27 Tryz.underlying3 Tryz.cellsIntR h with ⟨hcs, _⟩ | ⟨a, len', cap', zs, hcs, _, hl, hm, hz, _, hcell, hwz⟩
  · simp at hcs
    subst hcs
    obtain ⟨l, e, hr, _⟩ := ints_at (p := x.2) (d := x.1) h
    exact ⟨none, 0, l, by rw [← e], hr, by rw [← e]; exact Nat.zero_le _⟩
  · simp at hcs
    subst hcs
    obtain ⟨l, e, hr, _⟩ := ints_at (p := x.2) (d := x.1) h
    exact ⟨some a, cap', l, by rw [← e], hr, by rw [← e]; unfold maxLen at hm; omega⟩

theorem open_tri {P : Program} {t ti : TypeId} {f0 f1 f2 : Field} {n : Nat} {cs : List Value} {x : DataW H × List MemPlace} (ht : P.underlying t = some (.struct #[f0, f1, f2])) (hi : P.underlying ti = some (.int .i64))
    (h0 : f0.type = ti ∧ f0.offset = 0) (h1 : f1.type = ti ∧ f1.offset = 1) (h2 : f2.type = ti ∧ f2.offset = 2) (hc : P.cellsOf t = 3) (hci : P.cellsOf ti = 1)
    (h : DataW.trod enc P w 0 spare held n t cs = some x) : ∃ a b c : Int, cs = [.int .i64 a, .int .i64 b, .int .i64 c] ∧ isInt a ∧ isInt b ∧ isInt c := by
  obtain ⟨y0, y1, y2, m, _, hl, q0, q1, q2⟩ := trod_struct3 ht h
  rw [hc] at hl
  match cs, hl with
  | [v0, v1, v2], _ =>
    rw [h0.1, h0.2, hci] at q0
    rw [h1.1, h1.2, hci] at q1
    rw [h2.1, h2.2, hci] at q2
    obtain ⟨a, e0, _, wa⟩ := DataW.trod_int hi q0
    obtain ⟨b, e1, _, wb⟩ := DataW.trod_int hi q1
    obtain ⟨c, e2, _, wc⟩ := DataW.trod_int hi q2
    simp at e0 e1 e2
    subst e0 e1 e2
    exact ⟨a, b, c, rfl, wa, wb, wc⟩

set_option maxRecDepth 100000 in
/-- A round's four rows. -/
theorem open_round {n : Nat} {cs : List Value} {x : DataW H × List MemPlace} (h : DataW.trod enc Tryz.prog w 0 spare held n 35 cs = some x) :
    ∃ (r : RoundN) (a : RoundAt), cs = [.slice a.la r.nL a.lc, .slice a.ra r.nR a.rc, .slice a.da r.drifts.length a.dc, .slice a.ma r.modes.length a.mc] ∧ r.In a w := by
  obtain ⟨y0, y1, y2, y3, m, _, hl, q0, q1, q2, q3⟩ := trod_struct4 Tryz.underlying35 h
  rw [Tryz.cellsRound] at hl
  match cs, hl with
  | [v0, v1, v2, v3], _ =>
    have r0 : DataW.trod enc Tryz.prog w 0 spare held m 32 [v0] = some y0 := by
      have := q0; rw [Tryz.cellsLosses] at this; simpa using this
    have r1 : DataW.trod enc Tryz.prog w 0 spare held m 33 [v1] = some y1 := by
      have := q1; rw [Tryz.cellsReadings] at this; simpa using this
    have r2 : DataW.trod enc Tryz.prog w 0 spare held m 27 [v2] = some y2 := by
      have := q2; rw [Tryz.cellsIntsR] at this; simpa using this
    have r3 : DataW.trod enc Tryz.prog w 0 spare held m 27 [v3] = some y3 := by
      have := q3; rw [Tryz.cellsIntsR] at this; simpa using this
    obtain ⟨a0, l0, c0, f, g, k, rfl, m0, hr0, i0⟩ := open_rows3 (t := 32) Tryz.underlying32 Tryz.cellsLoss (fun n cs x hh => open_tri Tryz.underlying106 Tryz.underlying3 ⟨rfl, rfl⟩ ⟨rfl, rfl⟩ ⟨rfl, rfl⟩ Tryz.cellsLoss Tryz.cellsIntR hh) r0
    obtain ⟨a1, l1, c1, f1, g1, k1, rfl, m1, hr1, _⟩ := open_rows3 (t := 33) Tryz.underlying33 Tryz.cellsReading (fun n cs x hh => open_tri Tryz.underlying154 Tryz.underlying3 ⟨rfl, rfl⟩ ⟨rfl, rfl⟩ ⟨rfl, rfl⟩ Tryz.cellsReading Tryz.cellsIntR hh) r1
    obtain ⟨a2, c2, dr, rfl, hr2, m2⟩ := ints_any_len r2
    obtain ⟨a3, c3, mo, rfl, hr3, m3⟩ := ints_any_len r3
    exact ⟨⟨l0, f, g, k, l1, f1, g1, k1, dr, mo⟩, ⟨a0, c0, a1, c1, a2, c2, a3, c3⟩, rfl, hr0, hr1, hr2, hr3, fun j hj => isInt_le' (i0 j hj).2.2, Nat.le_trans m0 (by decide), Nat.le_trans m1 (by decide), m2, m3⟩

end
end Go.Proofs.YtdmokcnoljlogaaGreatDoor

/- Rows of rounds that came in, opened (ahead of stage 9). -/
namespace Go.Proofs.YtdmokcnoljlogaaGreatDoor
open Go.ChangeShapes Go.WideShapes Go.ChangeAt Go.RowKit Go.Joins Go.Deep

section
variable {H : Type} {enc : TypeId × Value → H} {w : World} {spare : Nat → Bool} {held : Bool}

set_option maxRecDepth 100000 in
theorem open_rounds {r : Reach} {b0 : Nat} {v : Value} {d : DataW H} {p : List MemPlace} (hv : Value.okWide Tryz.prog w r b0 28 v) (h : DataW.Trod enc Tryz.prog w 0 spare held 28 v d p) :
    ∃ (a : Option Addr) (len cap : Nat) (R : Nat → RoundN) (A : Nat → RoundAt), v = .slice a len cap ∧ len ≤ 9223372036854775807 ∧ RoundsIn w a len R A := by
  obtain ⟨a1, len1, cap1, rfl⟩ := okWide_slice Tryz.underlying28 hv
  obtain ⟨fuel, hf⟩ := h
  rcases open_slice Tryz.underlying28 hf with ⟨h0, _⟩ | ⟨a, len, cap, m, n', D, Pl, h0, _, hl, hm, hmm, _, hx⟩
  · simp [Value.cells] at h0
    obtain ⟨rfl, rfl, rfl⟩ := h0
    exact ⟨none, 0, 0, fun _ => RoundN.none, fun _ => ⟨none, 0, none, 0, none, 0, none, 0⟩, rfl, Nat.zero_le _, fun hn => absurd hn (Nat.lt_irrefl _)⟩
  · simp [Value.cells] at h0
    obtain ⟨rfl, rfl, rfl⟩ := h0
    have hle : len1 ≤ m := by rw [hmm]; split <;> omega
    have key : ∀ i, i < len1 → ∃ q : RoundN × RoundAt, (w.cell? (a.add (i * 4)) = some (.slice q.2.la q.1.nL q.2.lc) ∧ w.cell? ((a.add (i * 4)).add 1) = some (.slice q.2.ra q.1.nR q.2.rc) ∧ w.cell? ((a.add (i * 4)).add 2) = some (.slice q.2.da q.1.drifts.length q.2.dc) ∧ w.cell? ((a.add (i * 4)).add 3) = some (.slice q.2.ma q.1.modes.length q.2.mc)) ∧ q.1.In q.2 w := by
      intro i hi
      obtain ⟨cs', h1, h2⟩ := hx i (by omega)
      rw [Tryz.cellsRound] at h1
      obtain ⟨rr, ra, rfl, hI⟩ := open_round h2
      obtain ⟨_, _, h3⟩ := World.cells?_some h1
      exact ⟨(rr, ra), ⟨by simpa [Addr.add] using h3 0 (by omega), by simpa using h3 1 (by omega), by simpa using h3 2 (by omega), by simpa using h3 3 (by omega)⟩, hI⟩
    have key2 : ∃ F : Nat → RoundN × RoundAt, ∀ i, i < len1 → (w.cell? (a.add (i * 4)) = some (.slice (F i).2.la (F i).1.nL (F i).2.lc) ∧ w.cell? ((a.add (i * 4)).add 1) = some (.slice (F i).2.ra (F i).1.nR (F i).2.rc) ∧ w.cell? ((a.add (i * 4)).add 2) = some (.slice (F i).2.da (F i).1.drifts.length (F i).2.dc) ∧ w.cell? ((a.add (i * 4)).add 3) = some (.slice (F i).2.ma (F i).1.modes.length (F i).2.mc)) ∧ (F i).1.In (F i).2 w :=
      ⟨fun i => if hi : i < len1 then (key i hi).choose else (RoundN.none, ⟨none, 0, none, 0, none, 0, none, 0⟩), fun i hi => by simp only [dif_pos hi]; exact (key i hi).choose_spec⟩
    obtain ⟨F, hF⟩ := key2
    refine ⟨some a, len1, cap1, fun i => (F i).1, fun i => (F i).2, rfl, by unfold maxLen at hm; omega, fun hn => ?_⟩
    obtain ⟨b, off, spot⟩ := a
    have hs : spot = none := by simpa [Addr.add] using World.cell?_spot (hF 0 hn).1.1
    subst hs
    refine ⟨b, off, rfl, ?_, fun j hj => ?_⟩
    · have hc0 := (hF 0 hn).1.1
      rcases Nat.lt_or_ge b w.heap.size with g | g
      · exact g
      · simp [World.cell?, Addr.add, Array.getElem?_eq_none g] at hc0
    · have := hF j hj
      simpa only [add_plain] using this
end
end Go.Proofs.YtdmokcnoljlogaaGreatDoor

/- A row of numbers that came in, opened, with its length's bound. -/
namespace Go.Proofs.YtdmokcnoljlogaaGreatDoor
open Go.ChangeShapes Go.WideShapes Go.ChangeAt Go.RowKit Go.Joins Go.Deep

set_option maxRecDepth 100000 in
theorem open_nums_len {H : Type} {enc : TypeId × Value → H} {w : World} {spare : Nat → Bool} {held : Bool} {r : Reach} {b0 : Nat} {v : Value} {d : DataW H} {p : List MemPlace}
    (hv : Value.okWide Tryz.prog w r b0 27 v) (h : DataW.Trod enc Tryz.prog w 0 spare held 27 v d p) :
    ∃ (a : Option Addr) (cap : Nat) (l : List Int), v = .slice a l.length cap ∧ IntRow w a l ∧ l.length ≤ maxLen := by
  obtain ⟨a1, len, cap, rfl⟩ := okWide_slice Tryz.underlying27 hv
  obtain ⟨fuel, hf⟩ := h
  have hm : len ≤ maxLen := by
    rcases open_ints Tryz.underlying27 Tryz.underlying3 Tryz.cellsInt hf with ⟨hcs, _⟩ | ⟨a, len', cap', zs, hcs, _, hl, hm, _⟩
    · simp [Value.cells] at hcs
      obtain ⟨_, rfl, _⟩ := hcs
      exact Nat.zero_le _
    · simp [Value.cells] at hcs
      obtain ⟨_, rfl, rfl⟩ := hcs
      omega
  obtain ⟨l, rfl, hr, _⟩ := ints_at hf
  exact ⟨a1, cap, l, rfl, hr, hm⟩
end Go.Proofs.YtdmokcnoljlogaaGreatDoor

/- Rows of messages ahead of rounds that came in, opened (ahead of stage 9). -/
namespace Go.Proofs.YtdmokcnoljlogaaGreatDoor
open Go.ChangeShapes Go.WideShapes Go.ChangeAt Go.RowKit Go.Joins Go.Deep

theorem Tryz.cellsSay : Tryz.prog.cellsOf 46 = 5 := by kernel_rfl
section
variable {H : Type} {enc : TypeId × Value → H} {w : World} {spare : Nat → Bool} {held : Bool}

set_option maxRecDepth 100000 in
theorem open_say {n : Nat} {cs : List Value} {x : DataW H × List MemPlace} (h : DataW.trod enc Tryz.prog w 0 spare held n 46 cs = some x) :
    ∃ (k : Int) (r : RoundN) (a : RoundAt), cs = [.int .i64 k, .slice a.la r.nL a.lc, .slice a.ra r.nR a.rc, .slice a.da r.drifts.length a.dc, .slice a.ma r.modes.length a.mc] ∧ r.In a w := by
  obtain ⟨y0, y1, m, _, hl, q0, q1⟩ := trod_struct2 Tryz.underlying46 h
  rw [Tryz.cellsSay] at hl
  match cs, hl with
  | [v0, v1, v2, v3, v4], _ =>
    have r0 : DataW.trod enc Tryz.prog w 0 spare held m 3 [v0] = some y0 := by
      have := q0; rw [Tryz.cellsIntR] at this; simpa using this
    have r1 : DataW.trod enc Tryz.prog w 0 spare held m 35 [v1, v2, v3, v4] = some y1 := by
      have := q1; rw [Tryz.cellsRound] at this; simpa using this
    obtain ⟨k, e0, _, _⟩ := DataW.trod_int Tryz.underlying3 r0
    simp at e0
    subst e0
    obtain ⟨rr, ra, e1, hI⟩ := open_round r1
    simp at e1
    obtain ⟨rfl, rfl, rfl, rfl⟩ := e1
    exact ⟨k, rr, ra, rfl, hI⟩

set_option maxRecDepth 100000 in
theorem open_says {r : Reach} {b0 : Nat} {v : Value} {d : DataW H} {p : List MemPlace} (hv : Value.okWide Tryz.prog w r b0 43 v) (h : DataW.Trod enc Tryz.prog w 0 spare held 43 v d p) :
    ∃ (a : Option Addr) (len cap : Nat) (K : Nat → Int) (R : Nat → RoundN) (A : Nat → RoundAt), v = .slice a len cap ∧ len ≤ 9223372036854775807 ∧ SaysIn w a len K R A := by
  obtain ⟨a1, len1, cap1, rfl⟩ := okWide_slice Tryz.underlying43 hv
  obtain ⟨fuel, hf⟩ := h
  rcases open_slice Tryz.underlying43 hf with ⟨h0, _⟩ | ⟨a, len, cap, m, n', D, Pl, h0, _, hl, hm, hmm, _, hx⟩
  · simp [Value.cells] at h0
    obtain ⟨rfl, rfl, rfl⟩ := h0
    exact ⟨none, 0, 0, fun _ => 0, fun _ => RoundN.none, fun _ => ⟨none, 0, none, 0, none, 0, none, 0⟩, rfl, Nat.zero_le _, fun hn => absurd hn (Nat.lt_irrefl _)⟩
  · simp [Value.cells] at h0
    obtain ⟨rfl, rfl, rfl⟩ := h0
    have hle : len1 ≤ m := by rw [hmm]; split <;> omega
    have key : ∀ i, i < len1 → ∃ q : Int × RoundN × RoundAt, (w.cell? (a.add (i * 5)) = some (.int .i64 q.1) ∧ w.cell? ((a.add (i * 5)).add 1) = some (.slice q.2.2.la q.2.1.nL q.2.2.lc) ∧ w.cell? ((a.add (i * 5)).add 2) = some (.slice q.2.2.ra q.2.1.nR q.2.2.rc) ∧ w.cell? ((a.add (i * 5)).add 3) = some (.slice q.2.2.da q.2.1.drifts.length q.2.2.dc) ∧ w.cell? ((a.add (i * 5)).add 4) = some (.slice q.2.2.ma q.2.1.modes.length q.2.2.mc)) ∧ q.2.1.In q.2.2 w := by
      intro i hi
      obtain ⟨cs', h1, h2⟩ := hx i (by omega)
      rw [Tryz.cellsSay] at h1
      obtain ⟨k, rr, ra, rfl, hI⟩ := open_say h2
      obtain ⟨_, _, h3⟩ := World.cells?_some h1
      exact ⟨(k, rr, ra), ⟨by simpa [Addr.add] using h3 0 (by omega), by simpa using h3 1 (by omega), by simpa using h3 2 (by omega), by simpa using h3 3 (by omega), by simpa using h3 4 (by omega)⟩, hI⟩
    have key2 : ∃ F : Nat → Int × RoundN × RoundAt, ∀ i, i < len1 → (w.cell? (a.add (i * 5)) = some (.int .i64 (F i).1) ∧ w.cell? ((a.add (i * 5)).add 1) = some (.slice (F i).2.2.la (F i).2.1.nL (F i).2.2.lc) ∧ w.cell? ((a.add (i * 5)).add 2) = some (.slice (F i).2.2.ra (F i).2.1.nR (F i).2.2.rc) ∧ w.cell? ((a.add (i * 5)).add 3) = some (.slice (F i).2.2.da (F i).2.1.drifts.length (F i).2.2.dc) ∧ w.cell? ((a.add (i * 5)).add 4) = some (.slice (F i).2.2.ma (F i).2.1.modes.length (F i).2.2.mc)) ∧ (F i).2.1.In (F i).2.2 w :=
      ⟨fun i => if hi : i < len1 then (key i hi).choose else (0, RoundN.none, ⟨none, 0, none, 0, none, 0, none, 0⟩), fun i hi => by simp only [dif_pos hi]; exact (key i hi).choose_spec⟩
    obtain ⟨F, hF⟩ := key2
    refine ⟨some a, len1, cap1, fun i => (F i).1, fun i => (F i).2.1, fun i => (F i).2.2, rfl, by unfold maxLen at hm; omega, fun hn => ?_⟩
    obtain ⟨b, off, spot⟩ := a
    have hs : spot = none := by simpa [Addr.add] using World.cell?_spot (hF 0 hn).1.1
    subst hs
    refine ⟨b, off, rfl, ?_, fun j hj => ?_⟩
    · have hc0 := (hF 0 hn).1.1
      rcases Nat.lt_or_ge b w.heap.size with g | g
      · exact g
      · simp [World.cell?, Addr.add, Array.getElem?_eq_none g] at hc0
    · have := hF j hj
      simpa only [add_plain] using this
end
end Go.Proofs.YtdmokcnoljlogaaGreatDoor
