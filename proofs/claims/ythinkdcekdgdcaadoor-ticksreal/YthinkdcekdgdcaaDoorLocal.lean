/- Local's ways: what a clock shows, or why it shows nothing; new memory alone is made. -/
import Derived.Test.YthinkdcekdgdcaaDoorRight
import Derived.Deep.QuietTactic
import Derived.BigQuiet
namespace Go.Proofs.YthinkdcekdgdcaaDoor
open Go.RowKit

/-- What lay there reads as it did. -/
theorem old_cells {v w : World} (h : Below v.heap.size v w) : ∀ b o, b < v.heap.size → w.cell? ⟨b, o, none⟩ = v.cell? ⟨b, o, none⟩ := fun _ _ hb => h.cell hb
theorem below_box {w w1 : World} {o : Obj} (hb : Below (w.alloc o).heap.size (w.alloc o) w1) : Below w.heap.size w w1 := ((Below.refl _ _).alloc (Nat.le_refl _) _).trans (hb.mono (by simp))

theorem box4 {w w1 : World} {a b c d : Value} {T : TypeId} (hb : Below (w.alloc (.cells #[a, b, c, d] T)).heap.size (w.alloc (.cells #[a, b, c, d] T)) w1) :
    w1.cell? ⟨w.heap.size, 0, none⟩ = some a ∧ w1.cell? ⟨w.heap.size, 1, none⟩ = some b ∧ w1.cell? ⟨w.heap.size, 2, none⟩ = some c ∧ w1.cell? ⟨w.heap.size, 3, none⟩ = some d ∧ w.heap.size < w1.heap.size := by
  have hz := hb.size
  simp at hz
  refine ⟨?_, ?_, ?_, ?_, by omega⟩ <;> (rw [old_cells hb _ _ (by simp)]; simp)

set_option maxHeartbeats 1000000 in
theorem local_arg (f s n d r : Int) (w : World) (h : rightB f s n d = false) :
    Calls Tryd.prog 8 #[.agg #[.int .i64 f, .int .i64 s, .int .i64 n, .int .i64 d], .int .i64 r] w fun e w' => e = .returned (.tuple #[.int .i64 0, .iface 24 (.int .i64 1)]) ∧ Below w.heap.size w w' := by
  have HR : Hid (rightB f s n d = false) := h
  clear h
  have hmf := Tryd.mf
  go_enter Tryd.func8, Tryd.ntmps8
  go_wp2_with (go_at_call 10; refine (right_no f s n d _ HR.out).mono ?_; rintro e w1 ⟨rfl, hb⟩)
  go_ret2
  exact ⟨rfl, below_box hb⟩

set_option maxHeartbeats 1000000 in
theorem local_early (f s n d r : Int) (w : World) (h : rightB f s n d = true) (hr : r < f) :
    Calls Tryd.prog 8 #[.agg #[.int .i64 f, .int .i64 s, .int .i64 n, .int .i64 d], .int .i64 r] w fun e w' => e = .returned (.tuple #[.int .i64 0, .iface 24 (.int .i64 2)]) ∧ Below w.heap.size w w' := by
  have HR : Hid (rightB f s n d = true) := h
  clear h
  have hmf := Tryd.mf
  have hn : decide (f ≤ r) = false := decide_eq_false (by omega)
  go_enter Tryd.func8, Tryd.ntmps8
  go_wp2_with (first | (go_at_call 10; refine (right_yes f s n d _ HR.out).mono ?_; rintro e w1 ⟨rfl, hb⟩; obtain ⟨c0, c1, c2, c3, hz⟩ := box4 hb) | go_in)
  go_ret2
  refine ⟨rfl, ?_⟩
  repeat (refine Below.alloc ?_ (by first | omega | (simp; omega) | simp) _)
  exact below_box hb

set_option maxHeartbeats 1000000 in
theorem local_late (f s n d r : Int) (w : World) (h : rightB f s n d = true) (hr : 1099511627776 < r) :
    Calls Tryd.prog 8 #[.agg #[.int .i64 f, .int .i64 s, .int .i64 n, .int .i64 d], .int .i64 r] w fun e w' => e = .returned (.tuple #[.int .i64 0, .iface 24 (.int .i64 2)]) ∧ Below w.heap.size w w' := by
  have hf := (right_of h).2.1
  have HR : Hid (rightB f s n d = true) := h
  clear h
  have hmf := Tryd.mf
  have hn : decide (r ≤ 1099511627776) = false := decide_eq_false (by omega)
  have hle : f ≤ r := by omega
  go_enter Tryd.func8, Tryd.ntmps8
  go_wp2_with (first | (go_at_call 10; refine (right_yes f s n d _ HR.out).mono ?_; rintro e w1 ⟨rfl, hb⟩; obtain ⟨c0, c1, c2, c3, hz⟩ := box4 hb) | go_in)
  go_ret2
  refine ⟨rfl, ?_⟩
  repeat (refine Below.alloc ?_ (by first | omega | (simp; omega) | simp) _)
  exact below_box hb

set_option maxHeartbeats 1000000 in
theorem local_ok (f s n d r : Int) (w : World) (h : rightB f s n d = true) (hr : f ≤ r) (hr2 : r ≤ 1099511627776) (hv : s + (r - f) * n / d ≤ 1099511627776) :
    Calls Tryd.prog 8 #[.agg #[.int .i64 f, .int .i64 s, .int .i64 n, .int .i64 d], .int .i64 r] w fun e w' => e = .returned (.tuple #[.int .i64 (s + (r - f) * n / d), .nilIface]) ∧ Below w.heap.size w w' := by
  obtain ⟨h1, h2, h3, h4, h5, h6, h7, h8, h9, h10⟩ := right_of h
  have HR : Hid (rightB f s n d = true) := h
  clear h
  obtain ⟨p1, p2⟩ := prod_bounds (x := r - f) (n := n) (M := 1099511627776) (R := 1000000) (by omega) (by omega) h5 h6
  obtain ⟨q1, q2⟩ := quo_bounds (x := r - f) (n := n) (d := d) (M := 1099511627776) (by omega) (by omega) h5 h7 h9
  have hmf := Tryd.mf
  go_enter Tryd.func8, Tryd.ntmps8
  go_wp2_with (first | (go_at_call 10; refine (right_yes f s n d _ HR.out).mono ?_; rintro e w1 ⟨rfl, hb⟩; obtain ⟨c0, c1, c2, c3, hz⟩ := box4 hb) | go_in)
  go_quiet (fail)
  go_wp2
  go_ret2
  refine ⟨rfl, below_drewN ?_ _⟩
  repeat (refine Below.alloc ?_ (by first | omega | (simp; omega) | simp) _)
  exact below_box hb

set_option maxHeartbeats 1000000 in
theorem local_high (f s n d r : Int) (w : World) (h : rightB f s n d = true) (hr : f ≤ r) (hr2 : r ≤ 1099511627776) (hv : 1099511627776 < s + (r - f) * n / d) :
    Calls Tryd.prog 8 #[.agg #[.int .i64 f, .int .i64 s, .int .i64 n, .int .i64 d], .int .i64 r] w fun e w' => e = .returned (.tuple #[.int .i64 0, .iface 24 (.int .i64 2)]) ∧ Below w.heap.size w w' := by
  obtain ⟨h1, h2, h3, h4, h5, h6, h7, h8, h9, h10⟩ := right_of h
  have HR : Hid (rightB f s n d = true) := h
  clear h
  obtain ⟨p1, p2⟩ := prod_bounds (x := r - f) (n := n) (M := 1099511627776) (R := 1000000) (by omega) (by omega) h5 h6
  obtain ⟨q1, q2⟩ := quo_bounds (x := r - f) (n := n) (d := d) (M := 1099511627776) (by omega) (by omega) h5 h7 h9
  have hmf := Tryd.mf
  go_enter Tryd.func8, Tryd.ntmps8
  go_wp2_with (first | (go_at_call 10; refine (right_yes f s n d _ HR.out).mono ?_; rintro e w1 ⟨rfl, hb⟩; obtain ⟨c0, c1, c2, c3, hz⟩ := box4 hb) | go_in)
  go_quiet (fail)
  go_wp2
  go_ret2
  refine ⟨rfl, below_drewN ?_ _⟩
  repeat (refine Below.alloc ?_ (by first | omega | (simp; omega) | simp) _)
  exact below_box hb

end Go.Proofs.YthinkdcekdgdcaaDoor
