/- Plain facts on clocks: the first time is the first, and a clock never goes back (whole numbers alone). -/
import GoSem.Claim
namespace Go.Proofs.Ytlpojkehbhkdiaa

/-- Rounded up, it is enough. -/
theorem up_enough {x n d : Int} (hn : 1 ≤ n) (hd : 1 ≤ d) : x ≤ (x * d + n - 1) / n * n / d := by
  have h1 : x * d ≤ (x * d + n - 1) / n * n := by
    have e := Int.mul_ediv_add_emod (x * d + n - 1) n
    have l := Int.emod_lt_of_pos (x * d + n - 1) (show 0 < n by omega)
    rw [Int.mul_comm] at e
    omega
  exact Int.le_ediv_of_mul_le (by omega) h1

/-- One less is not. -/
theorem up_least {x n d : Int} (hn : 1 ≤ n) (hd : 1 ≤ d) : ((x * d + n - 1) / n - 1) * n / d < x := by
  apply Int.ediv_lt_of_lt_mul (by omega)
  have e := Int.mul_ediv_add_emod (x * d + n - 1) n
  have g := Int.emod_nonneg (x * d + n - 1) (show n ≠ 0 by omega)
  rw [Int.mul_comm] at e
  have m : ((x * d + n - 1) / n - 1) * n = (x * d + n - 1) / n * n - n := by rw [Int.sub_mul, Int.one_mul]
  omega

theorem up_one {x n d : Int} (hx : 1 ≤ x) (hn : 1 ≤ n) (hd : 1 ≤ d) : 1 ≤ (x * d + n - 1) / n := by
  apply Int.le_ediv_of_mul_le (by omega)
  have : 1 * 1 ≤ x * d := Int.mul_le_mul hx hd (by omega) (by omega)
  omega

theorem shows_mono {p q n d : Int} (h : p ≤ q) (hn : 1 ≤ n) (hd : 1 ≤ d) : p * n / d ≤ q * n / d :=
  Int.ediv_le_ediv (by omega) (Int.mul_le_mul_of_nonneg_right h (by omega))

end Go.Proofs.Ytlpojkehbhkdiaa
