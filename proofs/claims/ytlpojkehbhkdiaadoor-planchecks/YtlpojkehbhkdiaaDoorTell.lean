/- What an error tells, and where (package plain's Place; the statements' word 'is'). -/
import Derived.Test.YtlpojkehbhkdiaaDoorTellOnly
namespace Go.Proofs.YtlpojkehbhkdiaaDoor
open Go.RowKit Go.Extern.Stop Go.Stop Go.Extern

set_option maxHeartbeats 1000000 in
theorem place_nil (w : World) : Calls Tryd.prog 15 #[.nilIface] w fun e w' => e = .returned (.tuple #[.int .i64 0, .int .i64 (-1)]) ∧ Below w.heap.size w w' := by
  go_enter Tryd.func15, Tryd.ntmps15
  go_wp2_with fail
  refine (tell_nil _).mono ?_
  rintro e w' ⟨rfl, hb⟩
  go_wp2_with fail
  refine wp_loop_rounds 1 ?_
  rw [rounds_succ]
  go_wp2
  go_ret2
  exact ⟨rfl, hb⟩

theorem Tryd.notAt (v : Value) (w : World) : (Instr.typeAssert (.iface 32 v) 30 73 true).run Tryd.prog w = .ok (.tuple #[.pointer none, .bool false]) w := by kernel_rfl
theorem Tryd.noUnwrap (v : Value) (w : World) : (Instr.typeAssert (.iface 32 v) 30 76 true).run Tryd.prog w = .ok (.tuple #[.nilIface, .bool false]) w := run_typeAssert_lacksB Tryd.underlying76 (by kernel_rfl) (by kernel_rfl) v 30 w

set_option maxHeartbeats 1000000 in
theorem place_e (k : Int) (w : World) (hg : Told w) : Calls Tryd.prog 15 #[.iface 32 (.int .i64 k)] w fun e w' => e = .returned (.tuple #[.int .i64 k, .int .i64 (-1)]) ∧ Below w.heap.size w w' := by
  have hA := Tryd.notAt
  have hU := Tryd.noUnwrap
  go_enter Tryd.func15, Tryd.ntmps15
  go_wp2_with fail
  refine (tell_e k _ hg).mono ?_
  rintro e w' ⟨rfl, hb⟩
  go_wp2_with fail
  refine wp_loop_rounds 1 ?_
  rw [rounds_succ]
  go_wp2
  go_ret2
  exact ⟨rfl, hb⟩

theorem Tryd.isAt (a : Addr) (w : World) : (Instr.typeAssert (.iface 73 (.pointer (some a))) 30 73 true).run Tryd.prog w = .ok (.tuple #[.pointer (some a), .bool true]) w := by kernel_rfl

set_option maxHeartbeats 1000000 in
theorem place_at (k p : Int) (b : Nat) (w : World) (hg : Told w) (hk : w.cell? ⟨b, 0, none⟩ = some (.int .i64 k)) (hp : w.cell? ⟨b, 1, none⟩ = some (.int .i64 p)) : Calls Tryd.prog 15 #[.iface 73 (.pointer (some ⟨b, 0, none⟩))] w fun e w' => e = .returned (.tuple #[.int .i64 k, .int .i64 p]) ∧ Below w.heap.size w w' := by
  have hA := Tryd.isAt
  have hal : b < w.heap.size := by
    rcases Nat.lt_or_ge b w.heap.size with h | h
    · exact h
    · simp [World.cell?, Array.getElem?_eq_none h] at hk
  go_enter Tryd.func15, Tryd.ntmps15
  go_wp2_with fail
  refine (tell_at k _ _ hg hk).mono ?_
  rintro e w' ⟨rfl, hb⟩
  have hp' : w'.cell? ⟨b, 1, none⟩ = some (.int .i64 p) := (hb.cell hal).trans hp
  clear hk hp
  go_wp2_with fail
  refine wp_loop_rounds 1 ?_
  rw [rounds_succ]
  go_wp2
  go_quiet (fail)
  go_wp2
  go_ret2
  exact ⟨rfl, below_drewN hb _⟩

set_option maxHeartbeats 1000000 in
/-- The word 'is', where error and fault are one. -/
theorem is_any (E : Value) (k p : Int) (w : World) (hp : ∀ v : World, Told v → Below w.heap.size w v → Calls Tryd.prog 15 #[E] v fun e w' => e = .returned (.tuple #[.int .i64 k, .int .i64 p]) ∧ Below v.heap.size v w') (hg : Told w) :
    Calls Tryd.prog 7 #[E, .agg #[.int .i64 k, .int .i64 p]] w fun e w' => e = .returned (.bool true) ∧ Below w.heap.size w w' := by
  replace hp := hp (w.alloc (.cells #[.int .i64 k, .int .i64 p] 34)) (hg.alloc _) ((Below.refl _ _).alloc (Nat.le_refl _) _)
  go_enter Tryd.func7, Tryd.ntmps7
  go_wp2_with fail
  refine hp.mono ?_
  rintro e w1 ⟨rfl, hb⟩
  clear hp
  have c0 : w1.cell? ⟨w.heap.size, 0, none⟩ = some (.int .i64 k) := by rw [hb.cell (by simp)]; simp
  have c1 : w1.cell? ⟨w.heap.size, 1, none⟩ = some (.int .i64 p) := by rw [hb.cell (by simp)]; simp
  go_wp2
  go_ret
  exact ⟨rfl, ((Below.refl _ _).alloc (Nat.le_refl _) _).trans (hb.mono (by simp))⟩
end Go.Proofs.YtlpojkehbhkdiaaDoor
