/- One partition at a time, of plain numbers: what is told at a time and a step later; how often each is told in a frame (9.1). -/
import Derived.Test.YtklknbkofmobcacPartWords
namespace Go.Proofs.Ytklknbkofmobcac

section
variable {pt fr to : Nat → Int} {frame : Int} {n : Nat} {x p l : Int}

theorem RunsAt.part (hw : WinsOk pt fr to frame n) (h : RunsAt pt fr to frame n x p l) : p = -1 ∨ (0 ≤ p ∧ p ≤ 5) := by
  rcases h with ⟨j, hj, _, _, rfl, _⟩ | ⟨_, rfl, _⟩
  · have := hw.up j hj; exact .inr ⟨by omega, by omega⟩
  · exact .inl rfl
theorem RunsAt.left_in (hw : WinsOk pt fr to frame n) (h : RunsAt pt fr to frame n x p l) (h0 : 0 ≤ x) (h1 : x < frame) : -1 ≤ l ∧ l ≤ frame := by
  rcases h with ⟨j, hj, _, _, _, rfl⟩ | ⟨_, _, ⟨_, rfl⟩ | ⟨⟨j, hj, rfl⟩, _⟩⟩
  · have := hw.up j hj; omega
  · omega
  · have := hw.up j hj
    unfold distW
    split <;> omega
/-- A step later the same is told, one less. -/
theorem RunsAt.next (hw : WinsOk pt fr to frame n) (h : RunsAt pt fr to frame n x p l) (h1 : x < frame) (hl : 1 < l) : RunsAt pt fr to frame n (if x + 1 = frame then 0 else x + 1) p (l - 1) := by
  rcases h with ⟨j, hj, g1, g2, rfl, rfl⟩ | ⟨hn, rfl, ⟨_, rfl⟩ | ⟨⟨j, hj, hd⟩, hm⟩⟩
  · have := hw.up j hj
    rw [if_neg (by omega)]
    exact .inl ⟨j, hj, by omega, by omega, rfl, by omega⟩
  · omega
  · have key : ∀ i, i < n → distW fr frame (if x + 1 = frame then 0 else x + 1) i = distW fr frame x i - 1 ∧ ¬ (fr i ≤ (if x + 1 = frame then 0 else x + 1) ∧ (if x + 1 = frame then 0 else x + 1) < to i) := by
      intro i hi
      have hu := hw.up i hi
      have hdi := hm i hi
      have hni := hn i hi
      unfold distW at hdi ⊢
      by_cases hx : x + 1 = frame
      · rw [if_pos hx]
        split at hdi
        · rw [if_neg (by omega), if_pos (by omega)]
          omega
        · omega
      · rw [if_neg hx]
        split at hdi
        · rw [if_pos (by omega), if_pos (by omega)]
          omega
        · rw [if_neg (by omega), if_neg (by omega)]
          omega
    refine .inr ⟨fun i hi => (key i hi).2, rfl, .inr ⟨⟨j, hj, by rw [(key j hj).1, hd]⟩, fun i hi => ?_⟩⟩
    have := (key i hi).1
    have := hm i hi
    omega
/-- Where none runs, one does so much later. -/
theorem RunsAt.then_one {p' l' : Int} (hw : WinsOk pt fr to frame n) (h : RunsAt pt fr to frame n x p l) (hp : p < 0) (hl : 0 < l) (h' : RunsAt pt fr to frame n ((x + l) % frame) p' l') : 0 ≤ p' := by
  rcases h with ⟨j, hj, _, _, rfl, _⟩ | ⟨_, _, ⟨_, rfl⟩ | ⟨⟨j, hj, hd⟩, _⟩⟩
  · have := hw.up j hj; omega
  · omega
  · have hu := hw.up j hj
    have e : (x + l) % frame = fr j := by
      unfold distW at hd
      split at hd
      · have : x + l = fr j + frame := by omega
        rw [this, Int.add_emod_right, Int.emod_eq_of_lt hu.1 (by omega)]
      · have : x + l = fr j := by omega
        rw [this, Int.emod_eq_of_lt hu.1 (by omega)]
    rw [e] at h'
    rcases h' with ⟨i, hi, _, _, rfl, _⟩ | ⟨hn, _⟩
    · exact (hw.up i hi).2.2.2.1
    · exact absurd ⟨Int.le_refl _, hu.2.1⟩ (hn j hj)
end

/-- How much of a partition's windows lies ahead of a time. -/
def covW (pt fr to : Nat → Int) (which i : Int) : Nat → Int
  | 0 => 0
  | n + 1 => covW pt fr to which i n + (if pt n = which then (if i ≤ fr n then 0 else if i ≤ to n then i - fr n else to n - fr n) else 0)
theorem covW_start {pt fr to : Nat → Int} {frame : Int} {n : Nat} (hw : WinsOk pt fr to frame n) (which : Int) : ∀ k, k ≤ n → covW pt fr to which 0 k = 0 := by
  intro k
  induction k with
  | zero => intro _; rfl
  | succ k ih =>
    intro hk
    have := hw.up k (by omega)
    show covW pt fr to which 0 k + _ = 0
    rw [ih (by omega), if_pos this.1]
    split <;> rfl
theorem covW_end {pt fr to : Nat → Int} {frame : Int} {n : Nat} (hw : WinsOk pt fr to frame n) (which : Int) : ∀ k, k ≤ n → covW pt fr to which frame k = shareW pt fr to which k := by
  intro k
  induction k with
  | zero => intro _; rfl
  | succ k ih =>
    intro hk
    have := hw.up k (by omega)
    show covW pt fr to which frame k + _ = shareW pt fr to which k + _
    rw [ih (by omega)]
    congr 1
    by_cases hp : pt k = which
    · rw [if_pos hp, if_pos hp, if_neg (by omega)]
      split <;> omega
    · rw [if_neg hp, if_neg hp]
/-- A step: one more, if it is told, else as many. -/
theorem covW_none {pt fr to : Nat → Int} {frame : Int} {n : Nat} (hw : WinsOk pt fr to frame n) (which i : Int) : ∀ k, k ≤ n → (∀ j, j < k → ¬ (fr j ≤ i ∧ i < to j)) → covW pt fr to which (i + 1) k = covW pt fr to which i k := by
  intro k
  induction k with
  | zero => intro _ _; rfl
  | succ k ih =>
    intro hk hn
    have hu := hw.up k (by omega)
    have hk' := hn k (Nat.lt_succ_self _)
    show covW pt fr to which (i + 1) k + _ = covW pt fr to which i k + _
    rw [ih (by omega) (fun j hj => hn j (Nat.lt_succ_of_lt hj))]
    congr 1
    split
    · by_cases h1 : i ≤ fr k
      · rw [if_pos (by omega), if_pos h1]
      · rw [if_neg (by omega), if_neg h1]
        by_cases h2 : i ≤ to k
        · rw [if_pos h2]
          split <;> omega
        · rw [if_neg h2, if_neg (by omega)]
    · rfl
theorem covW_hit {pt fr to : Nat → Int} {frame : Int} {n : Nat} (hw : WinsOk pt fr to frame n) (which i : Int) {j : Nat} (h1 : fr j ≤ i) (h2 : i < to j) : ∀ k, k ≤ n → j < k → covW pt fr to which (i + 1) k = covW pt fr to which i k + (if pt j = which then 1 else 0) := by
  intro k
  induction k with
  | zero => intro _ h; omega
  | succ k ih =>
    intro hk hj
    show covW pt fr to which (i + 1) k + _ = covW pt fr to which i k + _ + _
    rcases Nat.lt_or_ge j k with q | q
    · rw [ih (by omega) q]
      have hk2 : i ≤ fr k ∧ i + 1 ≤ fr k := by have := hw.apart q (by omega); omega
      rw [if_pos hk2.1, if_pos hk2.2]
      omega
    · obtain rfl : j = k := by omega
      rw [covW_none hw which i j (by omega) (fun m hm => by have := hw.apart hm (show j < n by omega); omega)]
      split
      · rw [if_neg (by omega), if_pos (by omega)]
        by_cases h3 : i ≤ fr j
        · rw [if_pos h3]; omega
        · rw [if_neg h3, if_pos (by omega)]; omega
      · omega
theorem covW_step {pt fr to : Nat → Int} {frame : Int} {n : Nat} {i p l : Int} (hw : WinsOk pt fr to frame n) (h : RunsAt pt fr to frame n i p l) (which : Int) (hw0 : 0 ≤ which) : covW pt fr to which (i + 1) n = covW pt fr to which i n + (if p = which then 1 else 0) := by
  rcases h with ⟨j, hj, h1, h2, rfl, _⟩ | ⟨hn, rfl, _⟩
  · exact covW_hit hw which i h1 h2 n (Nat.le_refl _) hj
  · rw [covW_none hw which i n (Nat.le_refl _) hn, if_neg (by omega)]
    omega
theorem covW_in {pt fr to : Nat → Int} {frame : Int} {n : Nat} (hw : WinsOk pt fr to frame n) (which i : Int) : ∀ k, k ≤ n → 0 ≤ covW pt fr to which i k ∧ covW pt fr to which i k ≤ shareW pt fr to which k := by
  intro k
  induction k with
  | zero => intro _; exact ⟨Int.le_refl _, Int.le_refl _⟩
  | succ k ih =>
    intro hk
    have h1 := ih (by omega)
    have hu := hw.up k (by omega)
    show 0 ≤ covW pt fr to which i k + _ ∧ covW pt fr to which i k + _ ≤ shareW pt fr to which k + _
    by_cases hp : pt k = which
    · rw [if_pos hp, if_pos hp]
      split
      · omega
      · split <;> omega
    · rw [if_neg hp, if_neg hp]
      omega
end Go.Proofs.Ytklknbkofmobcac
