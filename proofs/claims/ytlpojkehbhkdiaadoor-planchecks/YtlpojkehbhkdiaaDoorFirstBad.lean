/- Which of several things is wrong first (plain). -/
import GoSem.Claim
namespace Go.Proofs.YtlpojkehbhkdiaaDoor

/-- What is wrong first among n things, and its number; nothing: 0, 0. -/
def FirstBad (f : Nat → Int) (n : Nat) (e i : Int) : Prop :=
  (∀ j, j < n → f j = 0) ∧ e = 0 ∧ i = 0 ∨ ∃ k : Nat, k < n ∧ (∀ j, j < k → f j = 0) ∧ f k = e ∧ e ≠ 0 ∧ i = k

theorem FirstBad.at_bad {f : Nat → Int} {n : Nat} {e i : Int} (h : FirstBad f n e i) {k : Nat} (hk : k < n) (h0 : ∀ j, j < k → f j = 0) (hf : f k ≠ 0) : e = f k ∧ i = k := by
  rcases h with ⟨ha, _, _⟩ | ⟨k', hk', h0', he, hne, hi⟩
  · exact absurd (ha k hk) hf
  · rcases Nat.lt_trichotomy k k' with g | g | g
    · exact absurd (h0' k g) hf
    · subst g; exact ⟨he.symm, hi⟩
    · exact absurd ((h0 k' g).symm.trans he) (Ne.symm hne)
theorem FirstBad.at_end {f : Nat → Int} {n : Nat} {e i : Int} (h : FirstBad f n e i) (h0 : ∀ j, j < n → f j = 0) : e = 0 ∧ i = 0 := by
  rcases h with ⟨_, he, hi⟩ | ⟨k', hk', _, he, hne, _⟩
  · exact ⟨he, hi⟩
  · exact absurd ((h0 k' hk').symm.trans he) (Ne.symm hne)
theorem FirstBad.is {f : Nat → Int} {n : Nat} {e i : Int} (h : FirstBad f n e i) {k : Nat} (hk : k < n) (h0 : ∀ j, j < k → f j = 0) {c : Int} (hf : f k = c) (hc : c ≠ 0) : e = c ∧ i = k := by
  have g := h.at_bad hk h0 (by rw [hf]; exact hc)
  exact ⟨g.1.trans hf, g.2⟩
theorem FirstBad.bound {f : Nat → Int} {n : Nat} {e i : Int} (h : FirstBad f n e i) : 0 ≤ i ∧ i ≤ n := by
  rcases h with ⟨_, _, hi⟩ | ⟨k, hk, _, _, _, hi⟩ <;> omega
/-- There is always such an answer. -/
theorem FirstBad.any (f : Nat → Int) : ∀ n : Nat, ∃ e i, FirstBad f n e i := by
  intro n
  induction n with
  | zero => exact ⟨0, 0, .inl ⟨fun j hj => absurd hj (Nat.not_lt_zero _), rfl, rfl⟩⟩
  | succ n ih =>
    obtain ⟨e, i, h⟩ := ih
    rcases h with ⟨ha, _, _⟩ | ⟨k, hk, h0, he, hne, hi⟩
    · by_cases hf : f n = 0
      · refine ⟨0, 0, .inl ⟨fun j hj => ?_, rfl, rfl⟩⟩
        rcases Nat.lt_succ_iff_lt_or_eq.1 hj with g | g
        · exact ha j g
        · rw [g]; exact hf
      · exact ⟨f n, n, .inr ⟨n, Nat.lt_succ_self _, ha, rfl, hf, rfl⟩⟩
    · exact ⟨e, i, .inr ⟨k, Nat.lt_succ_of_lt hk, h0, he, hne, hi⟩⟩
theorem next_zero {f : Nat → Int} {k : Nat} (h0 : ∀ j, j < k → f j = 0) (h : f k = 0) : ∀ j, j < k + 1 → f j = 0 := by
  intro j hj
  rcases Nat.lt_succ_iff_lt_or_eq.1 hj with g | g
  · exact h0 j g
  · rw [g]; exact h

/-- What is wrong with a window. -/
def winErr (pt fr tq : Nat → Int) (frame : Int) (j : Nat) : Int :=
  if tq j ≤ fr j then 1 else if (j = 0 ∧ fr j < 0) ∨ (0 < j ∧ fr j < tq (j - 1)) then 10 else if frame < tq j then 2 else if pt j < 0 ∨ 5 < pt j then 7 else 0
theorem winErr_1 {pt fr tq : Nat → Int} {frame : Int} {j : Nat} (h : tq j ≤ fr j) : winErr pt fr tq frame j = 1 := by simp [winErr, h]
theorem winErr_10 {pt fr tq : Nat → Int} {frame : Int} {j : Nat} (h : fr j < tq j) (h2 : (j = 0 ∧ fr j < 0) ∨ (0 < j ∧ fr j < tq (j - 1))) : winErr pt fr tq frame j = 10 := by
  unfold winErr; rw [if_neg (by omega), if_pos h2]
theorem winErr_2 {pt fr tq : Nat → Int} {frame : Int} {j : Nat} (h : fr j < tq j) (h2 : ¬ ((j = 0 ∧ fr j < 0) ∨ (0 < j ∧ fr j < tq (j - 1)))) (h3 : frame < tq j) : winErr pt fr tq frame j = 2 := by
  unfold winErr; rw [if_neg (by omega), if_neg h2, if_pos h3]
theorem winErr_7 {pt fr tq : Nat → Int} {frame : Int} {j : Nat} (h : fr j < tq j) (h2 : ¬ ((j = 0 ∧ fr j < 0) ∨ (0 < j ∧ fr j < tq (j - 1)))) (h3 : tq j ≤ frame) (h4 : pt j < 0 ∨ 5 < pt j) : winErr pt fr tq frame j = 7 := by
  unfold winErr; rw [if_neg (by omega), if_neg h2, if_neg (by omega), if_pos h4]
theorem winErr_0 {pt fr tq : Nat → Int} {frame : Int} {j : Nat} (h : fr j < tq j) (h2 : ¬ ((j = 0 ∧ fr j < 0) ∨ (0 < j ∧ fr j < tq (j - 1)))) (h3 : tq j ≤ frame) (h4 : 0 ≤ pt j) (h5 : pt j ≤ 5) : winErr pt fr tq frame j = 0 := by
  unfold winErr; rw [if_neg (by omega), if_neg h2, if_neg (by omega), if_neg (by omega)]
end Go.Proofs.YtlpojkehbhkdiaaDoor
