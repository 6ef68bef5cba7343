/- Plain facts on clocks, without the program: what a clock shows, and when it shows so much first (whole numbers alone). -/
import GoSem.Claim
namespace Go.Proofs.Ytlpojkehbhkdiaa

/-- A clock that may be. -/
def rightB (f s n d : Int) : Bool := decide (0 ≤ f ∧ f ≤ 1099511627776 ∧ -1099511627776 ≤ s ∧ s ≤ 1099511627776 ∧ 1 ≤ n ∧ n ≤ 1000000 ∧ 1 ≤ d ∧ d ≤ 1000000 ∧ n ≤ 2 * d ∧ d ≤ 2 * n)

theorem right_of {f s n d : Int} (h : rightB f s n d = true) : 0 ≤ f ∧ f ≤ 1099511627776 ∧ -1099511627776 ≤ s ∧ s ≤ 1099511627776 ∧ 1 ≤ n ∧ n ≤ 1000000 ∧ 1 ≤ d ∧ d ≤ 1000000 ∧ n ≤ 2 * d ∧ d ≤ 2 * n := of_decide_eq_true h

/-- What is added to Show at a time behind From: bounds. -/
theorem prod_bounds {x n M R : Int} (h0 : 0 ≤ x) (h1 : x ≤ M) (h2 : 1 ≤ n) (h3 : n ≤ R) : 0 ≤ x * n ∧ x * n ≤ M * R :=
  ⟨Int.mul_nonneg h0 (by omega), Int.mul_le_mul h1 h3 (by omega) (by omega)⟩

theorem quo_bounds {x n d M : Int} (h0 : 0 ≤ x) (h1 : x ≤ M) (h2 : 1 ≤ n) (h4 : 1 ≤ d) (h5 : n ≤ 2 * d) : 0 ≤ x * n / d ∧ x * n / d ≤ 2 * M := by
  have hx : 0 ≤ x * n := Int.mul_nonneg h0 (by omega)
  refine ⟨Int.ediv_nonneg hx (by omega), ?_⟩
  have h6 : x * n ≤ (2 * M) * d := by
    have a1 : x * n ≤ x * (2 * d) := Int.mul_le_mul_of_nonneg_left h5 h0
    have a2 : x * (2 * d) ≤ M * (2 * d) := Int.mul_le_mul_of_nonneg_right h1 (by omega)
    have a3 : M * (2 * d) = (2 * M) * d := by rw [← Int.mul_assoc, Int.mul_comm M 2]
    omega
  exact Int.ediv_le_of_le_mul (by omega) h6

theorem up_bounds {x n d M : Int} (h0 : 0 ≤ x) (h1 : x ≤ M) (h2 : 1 ≤ n) (h4 : 1 ≤ d) (h5 : d ≤ 2 * n) : 0 ≤ (x * d + n - 1) / n ∧ (x * d + n - 1) / n ≤ 2 * M + 1 := by
  have hx : 0 ≤ x * d := Int.mul_nonneg h0 (by omega)
  refine ⟨Int.ediv_nonneg (by omega) (by omega), ?_⟩
  have h6 : x * d + n - 1 ≤ (2 * M + 1) * n := by
    have a1 : x * d ≤ x * (2 * n) := Int.mul_le_mul_of_nonneg_left h5 h0
    have a2 : x * (2 * n) ≤ M * (2 * n) := Int.mul_le_mul_of_nonneg_right h1 (by omega)
    have a3 : M * (2 * n) = (2 * M) * n := by rw [← Int.mul_assoc, Int.mul_comm M 2]
    have a4 : (2 * M + 1) * n = (2 * M) * n + n := by rw [Int.add_mul, Int.one_mul]
    omega
  exact Int.ediv_le_of_le_mul (by omega) h6

end Go.Proofs.Ytlpojkehbhkdiaa
