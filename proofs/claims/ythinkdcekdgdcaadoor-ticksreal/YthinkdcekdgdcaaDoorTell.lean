/- What the statements' own words on errors answer: of nil, and of an Errno (Tell, Place, is, bare); new memory alone is made. Conditions: package errors' own variable holds the type error's handle. -/
import Derived.Test.YthinkdcekdgdcaaDoorAs
import Derived.WalkSpells
import Derived.WalkLawsBesides
namespace Go.Proofs.YthinkdcekdgdcaaDoor
open Go.RowKit Go.Extern.Stop Go.Stop Go.Extern

/-- Package errors' own variable holds the type error's handle. -/
def Told (w : World) : Prop := w.cell? ⟨0, 0, none⟩ = some (.iface 76 (.agg #[.pointer (some ⟨1, 30, none⟩)]))
theorem Told.lt {w : World} (h : Told w) : 0 < w.heap.size := by
  rcases Nat.lt_or_ge 0 w.heap.size with k | k
  · exact k
  · simp [Told, World.cell?, Array.getElem?_eq_none k] at h
theorem Told.below {w w' : World} (h : Told w) (hb : Below w.heap.size w w') : Told w' := by
  have := hb.cell (p := ⟨0, 0, none⟩) h.lt
  unfold Told at *
  rw [this]; exact h
theorem Told.alloc {w : World} (h : Told w) (o : Obj) : Told (w.alloc o) := h.below ((Below.refl _ _).alloc (Nat.le_refl _) _)

set_option maxHeartbeats 1000000 in
theorem tell_nil (w : World) : Calls Tryd.prog 26 #[.nilIface] w fun e w' => e = .returned (.int .i64 0) ∧ Below w.heap.size w w' := by
  go_enter Tryd.func26, Tryd.ntmps26
  go_wp2
  go_ret
  exact ⟨rfl, Below.refl _ _⟩

set_option maxHeartbeats 1000000 in
theorem tell_e (k : Int) (w : World) (hg : Told w) : Calls Tryd.prog 26 #[.iface 24 (.int .i64 k)] w fun e w' => e = .returned (.int .i64 k) ∧ Below w.heap.size w w' := by
  have hh := as_hit k ⟨w.heap.size, 0, none⟩ (.int .i64 0) (w.alloc (.cells #[.int .i64 0] 24)) (hg.alloc _) (by simp) (by simp)
  go_enter Tryd.func26, Tryd.ntmps26
  go_wp2_with fail
  refine hh.mono ?_
  rintro e w' ⟨rfl, rfl⟩
  clear hh
  go_wp2
  go_ret
  refine ⟨rfl, ?_⟩
  repeat (refine Below.alloc ?_ (by simp; try omega) _)
  exact Below.refl _ _

set_option maxHeartbeats 1000000 in
theorem place_nil (w : World) : Calls Tryd.prog 25 #[.nilIface] w fun e w' => e = .returned (.tuple #[.int .i64 0, .int .i64 (-1)]) ∧ Below w.heap.size w w' := by
  go_enter Tryd.func25, Tryd.ntmps25
  go_wp2_with fail
  refine (tell_nil _).mono ?_
  rintro e w' ⟨rfl, hb⟩
  go_wp2_with fail
  refine wp_loop_rounds 1 ?_
  rw [rounds_succ]
  go_wp2
  go_ret2
  exact ⟨rfl, hb⟩

theorem Tryd.notAt (v : Value) (w : World) : (Instr.typeAssert (.iface 24 v) 30 55 true).run Tryd.prog w = .ok (.tuple #[.pointer none, .bool false]) w := by kernel_rfl
theorem Tryd.noUnwrap (v : Value) (w : World) : (Instr.typeAssert (.iface 24 v) 30 58 true).run Tryd.prog w = .ok (.tuple #[.nilIface, .bool false]) w := run_typeAssert_lacksB Tryd.underlying58 (by kernel_rfl) (by kernel_rfl) v 30 w

set_option maxHeartbeats 1000000 in
theorem place_e (k : Int) (w : World) (hg : Told w) : Calls Tryd.prog 25 #[.iface 24 (.int .i64 k)] w fun e w' => e = .returned (.tuple #[.int .i64 k, .int .i64 (-1)]) ∧ Below w.heap.size w w' := by
  have hA := Tryd.notAt
  have hU := Tryd.noUnwrap
  go_enter Tryd.func25, Tryd.ntmps25
  go_wp2_with fail
  refine (tell_e k _ hg).mono ?_
  rintro e w' ⟨rfl, hb⟩
  go_wp2_with fail
  refine wp_loop_rounds 1 ?_
  rw [rounds_succ]
  go_wp2
  go_ret2
  exact ⟨rfl, hb⟩

set_option maxHeartbeats 1000000 in
/-- The word 'is', where error and fault are one, without a place. -/
theorem is_any (E : Value) (k : Int) (w : World) (hP : ∀ v : World, Told v → Calls Tryd.prog 25 #[E] v fun e w' => e = .returned (.tuple #[.int .i64 k, .int .i64 (-1)]) ∧ Below v.heap.size v w') (hg : Told w) :
    Calls Tryd.prog 22 #[E, .agg #[.int .i64 k, .int .i64 (-1)]] w fun e w' => e = .returned (.bool true) ∧ Below w.heap.size w w' := by
  have hp := hP (w.alloc (.cells #[.int .i64 k, .int .i64 (-1)] 50)) (hg.alloc _)
  clear hP
  go_enter Tryd.func22, Tryd.ntmps22
  go_wp2_with fail
  refine hp.mono ?_
  rintro e w1 ⟨rfl, hb⟩
  clear hp
  have c0 : w1.cell? ⟨w.heap.size, 0, none⟩ = some (.int .i64 k) := by rw [hb.cell (by simp)]; simp
  have c1 : w1.cell? ⟨w.heap.size, 1, none⟩ = some (.int .i64 (-1)) := by rw [hb.cell (by simp)]; simp
  go_wp2
  go_ret
  exact ⟨rfl, ((Below.refl _ _).alloc (Nat.le_refl _) _).trans (hb.mono (by simp))⟩
end Go.Proofs.YthinkdcekdgdcaaDoor
