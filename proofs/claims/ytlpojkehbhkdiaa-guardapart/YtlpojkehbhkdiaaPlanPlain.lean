/- What is wrong with a plan, in whole numbers: slots, links, windows, and the whole (plain). -/
import Derived.Test.YtlpojkehbhkdiaaFirstBad
namespace Go.Proofs.Ytlpojkehbhkdiaa

/-- What is wrong with a slot. -/
def slotErr (nd fr tq : Nat → Int) (nodes skew round : Int) (j : Nat) : Int :=
  if tq j ≤ fr j then 1 else if (j = 0 ∧ fr j < 0) ∨ (0 < j ∧ fr j ≤ tq (j - 1) + skew) then 10 else if round - skew - 1 < tq j then 2 else if nd j < 0 ∨ nodes - 1 < nd j then 7 else 0
theorem slotErr_1 {nd fr tq : Nat → Int} {nodes skew round : Int} {j : Nat} (h : tq j ≤ fr j) : slotErr nd fr tq nodes skew round j = 1 := by simp [slotErr, h]
theorem slotErr_10 {nd fr tq : Nat → Int} {nodes skew round : Int} {j : Nat} (h : fr j < tq j) (h2 : (j = 0 ∧ fr j < 0) ∨ (0 < j ∧ fr j ≤ tq (j - 1) + skew)) : slotErr nd fr tq nodes skew round j = 10 := by
  unfold slotErr; rw [if_neg (by omega), if_pos h2]
theorem slotErr_2 {nd fr tq : Nat → Int} {nodes skew round : Int} {j : Nat} (h : fr j < tq j) (h2 : ¬ ((j = 0 ∧ fr j < 0) ∨ (0 < j ∧ fr j ≤ tq (j - 1) + skew))) (h3 : round - skew - 1 < tq j) : slotErr nd fr tq nodes skew round j = 2 := by
  unfold slotErr; rw [if_neg (by omega), if_neg h2, if_pos h3]
theorem slotErr_7 {nd fr tq : Nat → Int} {nodes skew round : Int} {j : Nat} (h : fr j < tq j) (h2 : ¬ ((j = 0 ∧ fr j < 0) ∨ (0 < j ∧ fr j ≤ tq (j - 1) + skew))) (h3 : tq j ≤ round - skew - 1) (h4 : nd j < 0 ∨ nodes - 1 < nd j) : slotErr nd fr tq nodes skew round j = 7 := by
  unfold slotErr; rw [if_neg (by omega), if_neg h2, if_neg (by omega), if_pos h4]
theorem slotErr_0 {nd fr tq : Nat → Int} {nodes skew round : Int} {j : Nat} (h : fr j < tq j) (h2 : ¬ ((j = 0 ∧ fr j < 0) ∨ (0 < j ∧ fr j ≤ tq (j - 1) + skew))) (h3 : tq j ≤ round - skew - 1) (h4 : 0 ≤ nd j) (h5 : nd j ≤ nodes - 1) : slotErr nd fr tq nodes skew round j = 0 := by
  unfold slotErr; rw [if_neg (by omega), if_neg h2, if_neg (by omega), if_neg (by omega)]
/-- A slot that is right ends within the round. -/
theorem slotErr_to {nd fr tq : Nat → Int} {nodes skew round : Int} {j : Nat} (h : slotErr nd fr tq nodes skew round j = 0) : fr j < tq j ∧ tq j ≤ round - skew - 1 ∧ (j = 0 → 0 ≤ fr j) ∧ (0 < j → tq (j - 1) + skew < fr j) ∧ 0 ≤ nd j ∧ nd j ≤ nodes - 1 := by
  unfold slotErr at h
  by_cases h1 : tq j ≤ fr j
  · simp [h1] at h
  · rw [if_neg h1] at h
    by_cases h2 : (j = 0 ∧ fr j < 0) ∨ (0 < j ∧ fr j ≤ tq (j - 1) + skew)
    · simp [h2] at h
    · rw [if_neg h2] at h
      by_cases h3 : round - skew - 1 < tq j
      · simp [h3] at h
      · rw [if_neg h3] at h
        by_cases h4 : nd j < 0 ∨ nodes - 1 < nd j
        · simp [h4] at h
        · omega
theorem slots_up {nd fr tq : Nat → Int} {nodes skew round : Int} (hsk : 0 ≤ skew) {k : Nat} (h : ∀ j, j < k → slotErr nd fr tq nodes skew round j = 0) : ∀ j, j < k → 0 ≤ fr j ∧ fr j < tq j ∧ tq j ≤ round - skew - 1 := by
  intro j
  induction j with
  | zero =>
    intro hj
    have g := slotErr_to (h 0 hj)
    exact ⟨g.2.2.1 rfl, g.1, g.2.1⟩
  | succ j ih =>
    intro hj
    have g := slotErr_to (h (j + 1) hj)
    have g2 := ih (by omega)
    have g3 := g.2.2.2.1 (by omega)
    simp at g3
    exact ⟨by omega, g.1, g.2.1⟩

/-- What is wrong with a link: 'pw' is 2 to the number of nodes, 'hit j' whether its bits have its own node's. -/
def linkErr (lf lt lb lq : Nat → Int) (hit : Nat → Bool) (nodes pw : Int) (j : Nat) : Int :=
  if lf j < 0 ∨ nodes - 1 < lf j then 7 else if lt j < 1 ∨ pw - 1 < lt j ∨ hit j = true then 1 else if (lb j < 1 ∨ 137438953472 < lb j) ∨ lq j < 1 ∨ 16 < lq j then 2 else 0
theorem linkErr_7 {lf lt lb lq : Nat → Int} {hit : Nat → Bool} {nodes pw : Int} {j : Nat} (h : lf j < 0 ∨ nodes - 1 < lf j) : linkErr lf lt lb lq hit nodes pw j = 7 := by unfold linkErr; rw [if_pos h]
theorem linkErr_1 {lf lt lb lq : Nat → Int} {hit : Nat → Bool} {nodes pw : Int} {j : Nat} (h : 0 ≤ lf j) (h' : lf j ≤ nodes - 1) (h2 : lt j < 1 ∨ pw - 1 < lt j ∨ hit j = true) : linkErr lf lt lb lq hit nodes pw j = 1 := by
  unfold linkErr; rw [if_neg (by omega), if_pos h2]
theorem linkErr_2 {lf lt lb lq : Nat → Int} {hit : Nat → Bool} {nodes pw : Int} {j : Nat} (h : 0 ≤ lf j) (h' : lf j ≤ nodes - 1) (h2 : ¬ (lt j < 1 ∨ pw - 1 < lt j ∨ hit j = true)) (h3 : (lb j < 1 ∨ 137438953472 < lb j) ∨ lq j < 1 ∨ 16 < lq j) : linkErr lf lt lb lq hit nodes pw j = 2 := by
  unfold linkErr; rw [if_neg (by omega), if_neg h2, if_pos h3]
theorem linkErr_0 {lf lt lb lq : Nat → Int} {hit : Nat → Bool} {nodes pw : Int} {j : Nat} (h : 0 ≤ lf j) (h' : lf j ≤ nodes - 1) (h2 : ¬ (lt j < 1 ∨ pw - 1 < lt j ∨ hit j = true)) (h3 : 1 ≤ lb j ∧ lb j ≤ 137438953472) (h4 : 1 ≤ lq j ∧ lq j ≤ 16) : linkErr lf lt lb lq hit nodes pw j = 0 := by
  unfold linkErr; rw [if_neg (by omega), if_neg h2, if_neg (by omega)]

/-- What Check says of slots, links and windows, one behind the other. -/
def PlanRes (e1 i1 e2 i2 e3 i3 E I : Int) : Prop :=
  (e1 ≠ 0 → E = e1 ∧ I = i1) ∧ (e1 = 0 → e2 ≠ 0 → E = e2 ∧ I = 1000 + i2) ∧ (e1 = 0 → e2 = 0 → e3 ≠ 0 → E = e3 ∧ I = 2000 + i3) ∧ (e1 = 0 → e2 = 0 → e3 = 0 → E = 0 ∧ I = -1)
theorem PlanRes.slot {e1 i1 e2 i2 e3 i3 E I c k : Int} (h : PlanRes e1 i1 e2 i2 e3 i3 E I) (g : e1 = c ∧ i1 = k) (hc : c ≠ 0) : E = c ∧ I = k := by
  obtain ⟨rfl, rfl⟩ := g
  exact h.1 hc
theorem PlanRes.win {e1 i1 e2 i2 e3 i3 E I : Int} (h : PlanRes e1 i1 e2 i2 e3 i3 E I) (h1 : e1 = 0) (h2 : e2 = 0) (h3 : e3 ≠ 0) : E = e3 ∧ I = 2000 + i3 := h.2.2.1 h1 h2 h3
theorem PlanRes.fine {e1 i1 e2 i2 e3 i3 E I : Int} (h : PlanRes e1 i1 e2 i2 e3 i3 E I) (h1 : e1 = 0) (h2 : e2 = 0) (h3 : e3 = 0) : E = 0 ∧ I = -1 := h.2.2.2 h1 h2 h3
theorem PlanRes.link {e1 i1 e2 i2 e3 i3 E I c k : Int} (h : PlanRes e1 i1 e2 i2 e3 i3 E I) (h1 : e1 = 0) (g : e2 = c ∧ i2 = k) (hc : c ≠ 0) : E = c ∧ I = 1000 + k := by
  obtain ⟨rfl, rfl⟩ := g
  exact h.2.1 h1 hc
end Go.Proofs.Ytlpojkehbhkdiaa
