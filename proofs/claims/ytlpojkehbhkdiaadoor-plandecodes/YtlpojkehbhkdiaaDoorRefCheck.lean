/- The document's answer's Check: of every plan it answers what plain numbers say; new memory alone is made. Condition: its variable Fine holds what its text says. -/
import Derived.Test.YtlpojkehbhkdiaaDoorRefMain
import Derived.Test.YtlpojkehbhkdiaaDoorHeadErr
namespace Go.Proofs.YtlpojkehbhkdiaaDoor
open Go.RowKit

theorem pw_bounds (nodes : Int) (h1 : 1 ≤ nodes) (h2 : nodes ≤ 16) : 2 ≤ (2 : Int) ^ nodes.toNat ∧ (2 : Int) ^ nodes.toNat ≤ 65536 := by
  have : nodes = 1 ∨ nodes = 2 ∨ nodes = 3 ∨ nodes = 4 ∨ nodes = 5 ∨ nodes = 6 ∨ nodes = 7 ∨ nodes = 8 ∨ nodes = 9 ∨ nodes = 10 ∨ nodes = 11 ∨ nodes = 12 ∨ nodes = 13 ∨ nodes = 14 ∨ nodes = 15 ∨ nodes = 16 := by omega
  rcases this with rfl | rfl | rfl | rfl | rfl | rfl | rfl | rfl | rfl | rfl | rfl | rfl | rfl | rfl | rfl | rfl <;> decide

theorem refCheck_any (nodes faulty skew jitter drift round frame : Int) (sa la wa : Option Addr) (ns sc nl lc nw wc : Nat) (nd fr tq lf lt lb lq : Nat → Int) (hit : Nat → Bool) (pw : Int) (wp wf wt : Nat → Int) (E I : Int) (w : World)
    (hs : Rows3 w sa ns nd fr tq) (hl : Rows4 w la nl lf lt lb lq) (hw : Rows3 w wa nw wp wf wt) (hpw : (2 : Int) ^ nodes.toNat = pw) (hhit : ∀ j, 0 ≤ lf j → lf j ≤ 15 → hit j = (bits BinOp.and .i64 (lt j) (2 ^ (lf j).toNat) != 0)) (hfine : Fine0 w)
    (hC : CheckIs nodes faulty skew jitter drift round frame ns nl nw nd fr tq lf lt lb lq hit pw wp wf wt E I) :
    Calls Tryd.prog 9 #[.agg #[.int .i64 nodes, .int .i64 faulty, .int .i64 skew, .int .i64 jitter, .int .i64 drift, .int .i64 round, .slice sa ns sc, .slice la nl lc, .int .i64 frame, .slice wa nw wc]] w fun ev w' => ev = .returned (.agg #[.int .i64 E, .int .i64 I]) ∧ Below w.heap.size w w' := by
  by_cases a1 : 1 ≤ nodes
  rotate_left
  · obtain ⟨rfl, rfl⟩ := hC.head (headErr_1 (by omega)) (by decide)
    exact refHead1 nodes faulty skew jitter drift round frame sa la wa ns sc nl lc nw wc w  (by omega)
  by_cases a2 : nodes ≤ 16
  rotate_left
  · obtain ⟨rfl, rfl⟩ := hC.head (headErr_1 (by omega)) (by decide)
    exact refHead2 nodes faulty skew jitter drift round frame sa la wa ns sc nl lc nw wc w a1 (by omega)
  by_cases a3 : 0 ≤ faulty
  rotate_left
  · obtain ⟨rfl, rfl⟩ := hC.head (headErr_1 (by omega)) (by decide)
    exact refHead3 nodes faulty skew jitter drift round frame sa la wa ns sc nl lc nw wc w a1 a2 (by omega)
  by_cases a4 : faulty ≤ 100
  rotate_left
  · obtain ⟨rfl, rfl⟩ := hC.head (headErr_1 (by omega)) (by decide)
    exact refHead4 nodes faulty skew jitter drift round frame sa la wa ns sc nl lc nw wc w a1 a2 a3 (by omega)
  by_cases a5 : faulty * 3 + 1 ≤ nodes
  rotate_left
  · obtain ⟨rfl, rfl⟩ := hC.head (headErr_1 (by omega)) (by decide)
    exact refHead5 nodes faulty skew jitter drift round frame sa la wa ns sc nl lc nw wc w a1 a2 a3 a4 (by omega)
  by_cases b1 : 0 ≤ skew
  rotate_left
  · obtain ⟨rfl, rfl⟩ := hC.head (headErr_2 (by omega) (by omega)) (by decide)
    exact refHead6 nodes faulty skew jitter drift round frame sa la wa ns sc nl lc nw wc w a1 a2 a3 a4 a5 (by omega)
  by_cases b2 : skew ≤ 137438953472
  rotate_left
  · obtain ⟨rfl, rfl⟩ := hC.head (headErr_2 (by omega) (by omega)) (by decide)
    exact refHead7 nodes faulty skew jitter drift round frame sa la wa ns sc nl lc nw wc w a1 a2 a3 a4 a5 b1 (by omega)
  by_cases b3 : 0 ≤ jitter
  rotate_left
  · obtain ⟨rfl, rfl⟩ := hC.head (headErr_2 (by omega) (by omega)) (by decide)
    exact refHead8 nodes faulty skew jitter drift round frame sa la wa ns sc nl lc nw wc w a1 a2 a3 a4 a5 b1 b2 (by omega)
  by_cases b4 : jitter ≤ 137438953472
  rotate_left
  · obtain ⟨rfl, rfl⟩ := hC.head (headErr_2 (by omega) (by omega)) (by decide)
    exact refHead9 nodes faulty skew jitter drift round frame sa la wa ns sc nl lc nw wc w a1 a2 a3 a4 a5 b1 b2 b3 (by omega)
  by_cases b5 : 0 ≤ drift
  rotate_left
  · obtain ⟨rfl, rfl⟩ := hC.head (headErr_2 (by omega) (by omega)) (by decide)
    exact refHead10 nodes faulty skew jitter drift round frame sa la wa ns sc nl lc nw wc w a1 a2 a3 a4 a5 b1 b2 b3 b4 (by omega)
  by_cases b6 : drift ≤ 137438953472
  rotate_left
  · obtain ⟨rfl, rfl⟩ := hC.head (headErr_2 (by omega) (by omega)) (by decide)
    exact refHead11 nodes faulty skew jitter drift round frame sa la wa ns sc nl lc nw wc w a1 a2 a3 a4 a5 b1 b2 b3 b4 b5 (by omega)
  by_cases c1 : 1 ≤ round
  rotate_left
  · obtain ⟨rfl, rfl⟩ := hC.head (headErr_3 (by omega) (by omega) (by omega)) (by decide)
    exact refHead12 nodes faulty skew jitter drift round frame sa la wa ns sc nl lc nw wc w a1 a2 a3 a4 a5 b1 b2 b3 b4 b5 b6 (by omega)
  by_cases c2 : round ≤ 137438953472
  rotate_left
  · obtain ⟨rfl, rfl⟩ := hC.head (headErr_3 (by omega) (by omega) (by omega)) (by decide)
    exact refHead13 nodes faulty skew jitter drift round frame sa la wa ns sc nl lc nw wc w a1 a2 a3 a4 a5 b1 b2 b3 b4 b5 b6 c1 (by omega)
  by_cases c3 : 1 ≤ frame
  rotate_left
  · obtain ⟨rfl, rfl⟩ := hC.head (headErr_3 (by omega) (by omega) (by omega)) (by decide)
    exact refHead14 nodes faulty skew jitter drift round frame sa la wa ns sc nl lc nw wc w a1 a2 a3 a4 a5 b1 b2 b3 b4 b5 b6 c1 c2 (by omega)
  by_cases c4 : frame ≤ 137438953472
  rotate_left
  · obtain ⟨rfl, rfl⟩ := hC.head (headErr_3 (by omega) (by omega) (by omega)) (by decide)
    exact refHead15 nodes faulty skew jitter drift round frame sa la wa ns sc nl lc nw wc w a1 a2 a3 a4 a5 b1 b2 b3 b4 b5 b6 c1 c2 c3 (by omega)
  by_cases d1 : ns ≤ 32
  rotate_left
  · obtain ⟨rfl, rfl⟩ := hC.head (headErr_4 (by omega) (by omega) (by omega) (by omega)) (by decide)
    exact refHead16 nodes faulty skew jitter drift round frame sa la wa ns sc nl lc nw wc w a1 a2 a3 a4 a5 b1 b2 b3 b4 b5 b6 c1 c2 c3 c4 (by omega)
  by_cases d2 : nl ≤ 8
  rotate_left
  · obtain ⟨rfl, rfl⟩ := hC.head (headErr_4 (by omega) (by omega) (by omega) (by omega)) (by decide)
    exact refHead17 nodes faulty skew jitter drift round frame sa la wa ns sc nl lc nw wc w a1 a2 a3 a4 a5 b1 b2 b3 b4 b5 b6 c1 c2 c3 c4 d1 (by omega)
  by_cases d3 : nw ≤ 32
  rotate_left
  · obtain ⟨rfl, rfl⟩ := hC.head (headErr_4 (by omega) (by omega) (by omega) (by omega)) (by decide)
    exact refHead18 nodes faulty skew jitter drift round frame sa la wa ns sc nl lc nw wc w a1 a2 a3 a4 a5 b1 b2 b3 b4 b5 b6 c1 c2 c3 c4 d1 d2 (by omega)
  by_cases f1 : skew / 2 + jitter * 2 + drift * 2 + 1 ≤ skew
  rotate_left
  · obtain ⟨rfl, rfl⟩ := hC.head (headErr_13 (by omega) (by omega) (by omega) (by omega) (by omega)) (by decide)
    exact refHead19 nodes faulty skew jitter drift round frame sa la wa ns sc nl lc nw wc w a1 a2 a3 a4 a5 b1 b2 b3 b4 b5 b6 c1 c2 c3 c4 d1 d2 d3 (by omega)
  obtain ⟨p1, p2⟩ := pw_bounds nodes a1 a2
  rw [hpw] at p1 p2
  rcases hC with ⟨h0, _⟩ | ⟨_, e1, i1, e2, i2, e3, i3, g1, g2, g3, g4⟩
  · exact absurd (headErr_0 (by omega) (by omega) (by omega) (by omega) (by omega)) h0
  · exact refMain nodes faulty skew jitter drift round frame sa la wa ns sc nl lc nw wc w a1 a2 a3 a4 a5 b1 b2 b3 b4 b5 b6 c1 c2 c3 c4 d1 d2 d3 f1 nd fr tq hs lf lt lb lq hl hit pw hpw p1 p2 hhit e1 i1 e2 i2 e3 i3 E I g1 wp wf wt hw hfine g3 g2 g4
end Go.Proofs.YtlpojkehbhkdiaaDoor
