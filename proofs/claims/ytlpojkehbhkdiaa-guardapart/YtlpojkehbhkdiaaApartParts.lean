/- GuardApart's small words: pick; the fact 'guarded' (a slot that opens). New memory alone is made. -/
import Derived.Test.YtlpojkehbhkdiaaGuardPassesP
namespace Go.Proofs.Ytlpojkehbhkdiaa
open Go.RowKit

/-- What pick answers. -/
def pk (a n : Int) : Int := a % 18446744073709551616 % n
theorem pk_in {a n : Int} (h : 0 < n) : 0 ≤ pk a n ∧ pk a n < n := ⟨Int.emod_nonneg _ (by omega), Int.emod_lt_of_pos _ h⟩
theorem wrap_pk (a n : Int) : (IntKind.u64.wrap a).tmod n = pk a n := by
  have e : IntKind.u64.wrap a = a % 18446744073709551616 := by simp [IntKind.wrap, IntKind.signed, IntKind.bits]
  rw [e, Int.tmod_eq_emod_of_nonneg (Int.emod_nonneg _ (by decide))]
  rfl

set_option maxHeartbeats 1000000 in
theorem pick_any (a n : Int) (h0 : 0 < n) (h1 : n ≤ 9223372036854775807) (w : World) : Calls Try.prog 8 #[.int .i64 a, .int .i64 n] w fun e w' => e = .returned (.int .i64 (pk a n)) ∧ w' = w := by
  have hp := pk_in (a := a) h0
  have k1 : (n == 0) = false := by simp; omega
  have e1 := wrap_pk a n
  generalize pk a n = x at *
  go_enter Try.func8, Try.ntmps8
  go_wp2
  go_ret
  exact ⟨rfl, rfl⟩

theorem guard_hit : FirstHit (hitB 0 0 1 1 1 (fun _ => 0) (fun _ => 10) (fun _ => 20) 100 0 115 200 0) (roundsK 0 3) 1 (some (1, 0)) := by
  refine ⟨by decide, by decide, by decide, ?_, ?_⟩
  · intro k hk i hi
    have h1 : k = 0 := by omega
    have h2 : i = 0 := by omega
    subst h1 h2
    decide
  · intro i hi
    exact absurd hi (Nat.not_lt_zero _)
theorem guard_F : passF 0 0 1 1 1 (fun _ => 10) (fun _ => 20) 100 115 200 0 (some (1, 0)) = 115 := by decide
theorem guard_T : passT 0 0 1 1 1 (fun _ => 10) (fun _ => 20) 100 115 200 0 (some (1, 0)) = 120 := by decide

set_option maxRecDepth 100000 in
set_option maxHeartbeats 2000000 in
theorem guarded_any (w : World) : Calls Try.prog 10 #[] w fun e w' => e = .returned (.bool true) ∧ Below w.heap.size w w' := by
  go_enter Try.func10, Try.ntmps10
  go_wp2_with fail
  have hU : Below w.heap.size w ((w.alloc (.cells #[.int .i64 0, .int .i64 10, .int .i64 20] 53)).alloc (.cells #[.int .i64 1, .int .i64 0, .int .i64 0, .int .i64 0, .int .i64 0, .int .i64 100, .slice (some ⟨w.heap.size, 0, none⟩) 1 1, .slice none 0 0, .int .i64 0, .slice none 0 0] 26)) := two_new
  refine (gpasses_any 1 0 0 0 0 100 0 (some ⟨w.heap.size, 0, none⟩) none none 1 1 0 0 0 0 0 0 1 1 0 115 200 0 3 0 rfl _ (by decide) (fun _ => 0) (fun _ => 10) (fun _ => 20) (fun _ => ⟨w.heap.size, 0, rfl, by simp; omega, fun j hj => ?_⟩) (by decide) (some (1, 0)) guard_hit).mono ?_
  · obtain rfl : j = 0 := by omega
    refine ⟨?_, ?_, ?_⟩ <;> (rw [World.cell?_alloc_lt _ _ _ (by simp)]; simp)
  rw [guard_F, guard_T]
  rintro e w1 ⟨rfl, hb1⟩
  have h1 : Below w.heap.size w w1 := hU.trans (hb1.mono hU.size)
  have hs := h1.size
  go_wp2
  go_ret
  exact ⟨rfl, h1.alloc hs _⟩
end Go.Proofs.Ytlpojkehbhkdiaa
