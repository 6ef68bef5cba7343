/- The statements' word 'pick'. -/
import Derived.Test.YtklknbkofmobcacProg
import Derived.WalkKit
import Derived.WalkSpells
import Derived.WalkLawsBesides
namespace Go.Proofs.Ytklknbkofmobcac
open Go.RowKit

/-- What pick answers. -/
def pk (a n : Int) : Int := a % 18446744073709551616 % n
theorem pk_in {a n : Int} (h : 0 < n) : 0 ≤ pk a n ∧ pk a n < n := ⟨Int.emod_nonneg _ (by omega), Int.emod_lt_of_pos _ h⟩
theorem wrap_pk (a n : Int) : (IntKind.u64.wrap a).tmod n = pk a n := by
  have e : IntKind.u64.wrap a = a % 18446744073709551616 := by simp [IntKind.wrap, IntKind.signed, IntKind.bits]
  rw [e, Int.tmod_eq_emod_of_nonneg (Int.emod_nonneg _ (by decide))]
  rfl

set_option maxHeartbeats 1000000 in
theorem pick_any (a n : Int) (h0 : 0 < n) (h1 : n ≤ 9223372036854775807) (w : World) : Calls Try.prog 4 #[.int .i64 a, .int .i64 n] w fun e w' => e = .returned (.int .i64 (pk a n)) ∧ w' = w := by
  have hp := pk_in (a := a) h0
  have k1 : (n == 0) = false := by simp; omega
  have e1 := wrap_pk a n
  generalize pk a n = x at *
  go_enter Try.func4, Try.ntmps4
  go_wp2
  go_ret
  exact ⟨rfl, rfl⟩
end Go.Proofs.Ytklknbkofmobcac
