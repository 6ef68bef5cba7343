/- A plan that may be has numbers that may be written (plain). -/
import Derived.Test.YtlpojkehbhkdiaaHeadErr
import Derived.Test.YtlpojkehbhkdiaaNumBytes
namespace Go.Proofs.Ytlpojkehbhkdiaa

theorem winErr_to {wp wf wt : Nat → Int} {frame : Int} {j : Nat} (h : winErr wp wf wt frame j = 0) : wf j < wt j ∧ wt j ≤ frame ∧ (j = 0 → 0 ≤ wf j) ∧ (0 < j → wt (j - 1) ≤ wf j) ∧ 0 ≤ wp j ∧ wp j ≤ 5 := by
  unfold winErr at h
  by_cases h1 : wt j ≤ wf j
  · simp [h1] at h
  · rw [if_neg h1] at h
    by_cases h2 : (j = 0 ∧ wf j < 0) ∨ (0 < j ∧ wf j < wt (j - 1))
    · simp [h2] at h
    · rw [if_neg h2] at h
      by_cases h3 : frame < wt j
      · simp [h3] at h
      · rw [if_neg h3] at h
        by_cases h4 : wp j < 0 ∨ 5 < wp j
        · simp [h4] at h
        · omega
theorem wins_up {wp wf wt : Nat → Int} {frame : Int} {k : Nat} (h : ∀ j, j < k → winErr wp wf wt frame j = 0) : ∀ j, j < k → 0 ≤ wf j ∧ wf j < wt j ∧ wt j ≤ frame := by
  intro j
  induction j with
  | zero =>
    intro hj
    have g := winErr_to (h 0 hj)
    exact ⟨g.2.2.1 rfl, g.1, g.2.1⟩
  | succ j ih =>
    intro hj
    have g := winErr_to (h (j + 1) hj)
    have g2 := ih (by omega)
    have g3 := g.2.2.2.1 (by omega)
    simp at g3
    exact ⟨by omega, g.1, g.2.1⟩
theorem linkErr_to {lf lt lb lq : Nat → Int} {hit : Nat → Bool} {nodes pw : Int} {j : Nat} (h : linkErr lf lt lb lq hit nodes pw j = 0) : (0 ≤ lf j ∧ lf j ≤ nodes - 1) ∧ (1 ≤ lt j ∧ lt j ≤ pw - 1) ∧ (1 ≤ lb j ∧ lb j ≤ 137438953472) ∧ 1 ≤ lq j ∧ lq j ≤ 16 := by
  unfold linkErr at h
  by_cases h1 : lf j < 0 ∨ nodes - 1 < lf j
  · simp [h1] at h
  · rw [if_neg h1] at h
    by_cases h2 : lt j < 1 ∨ pw - 1 < lt j ∨ hit j = true
    · simp [h2] at h
    · rw [if_neg h2] at h
      by_cases h3 : (lb j < 1 ∨ 137438953472 < lb j) ∨ lq j < 1 ∨ 16 < lq j
      · simp [h3] at h
      · omega
theorem headErr_zeroN {nodes faulty skew jitter drift round frame : Int} {ns nl nw : Nat} (h : headErr nodes faulty skew jitter drift round frame ns nl nw = 0) :
    1 ≤ nodes ∧ nodes ≤ 16 ∧ 0 ≤ faulty ∧ faulty ≤ 5 ∧ (0 ≤ skew ∧ skew ≤ 137438953472) ∧ (0 ≤ jitter ∧ jitter ≤ 137438953472) ∧ (0 ≤ drift ∧ drift ≤ 137438953472) ∧ (1 ≤ round ∧ round ≤ 137438953472) ∧ (1 ≤ frame ∧ frame ≤ 137438953472) ∧ ns ≤ 32 ∧ nl ≤ 8 ∧ nw ≤ 32 := by
  unfold headErr at h
  by_cases h1 : nodes < 1 ∨ 16 < nodes ∨ faulty < 0 ∨ nodes < faulty * 3 + 1
  · simp [h1] at h
  · rw [if_neg h1] at h
    by_cases h2 : skew < 0 ∨ 137438953472 < skew ∨ jitter < 0 ∨ 137438953472 < jitter ∨ drift < 0 ∨ 137438953472 < drift
    · simp [h2] at h
    · rw [if_neg h2] at h
      by_cases h3 : round < 1 ∨ 137438953472 < round ∨ frame < 1 ∨ 137438953472 < frame
      · simp [h3] at h
      · rw [if_neg h3] at h
        by_cases h4 : 32 < ns ∨ 8 < nl ∨ 32 < nw
        · simp [h4] at h
        · omega
/-- What Check says is nothing: so nothing is wrong anywhere. -/
theorem CheckIs.zero {nodes faulty skew jitter drift round frame : Int} {ns nl nw : Nat} {nd fr to lf lt lb lq : Nat → Int} {hit : Nat → Bool} {pw : Int} {wp wf wt : Nat → Int} {I : Int} (h : CheckIs nodes faulty skew jitter drift round frame ns nl nw nd fr to lf lt lb lq hit pw wp wf wt 0 I) :
    I = -1 ∧ headErr nodes faulty skew jitter drift round frame ns nl nw = 0 ∧ (∀ j, j < ns → slotErr nd fr to nodes skew round j = 0) ∧ (∀ j, j < nl → linkErr lf lt lb lq hit nodes pw j = 0) ∧ (∀ j, j < nw → winErr wp wf wt frame j = 0) := by
  rcases h with ⟨h1, h2, _⟩ | ⟨h0, e1, i1, e2, i2, e3, i3, g1, g2, g3, g4, g5, g6, g7⟩
  · exact absurd h2.symm h1
  · have z1 : e1 = 0 := by
      by_cases z : e1 = 0
      · exact z
      · exact absurd ((g4 z).1.symm) z
    have z2 : e2 = 0 := by
      by_cases z : e2 = 0
      · exact z
      · exact absurd ((g5 z1 z).1.symm) z
    have z3 : e3 = 0 := by
      by_cases z : e3 = 0
      · exact z
      · exact absurd ((g6 z1 z2 z).1.symm) z
    have all : ∀ {f : Nat → Int} {n : Nat} {e i : Int}, FirstBad f n e i → e = 0 → ∀ j, j < n → f j = 0 := by
      intro f n e i hf he
      rcases hf with ⟨ha, _⟩ | ⟨_, _, _, _, hne, _⟩
      · exact ha
      · exact absurd he hne
    exact ⟨(g7 z1 z2 z3).2, h0, all g1 z1, all g2 z2, all g3 z3⟩
theorem nums_ok {nodes faulty skew jitter drift round frame : Int} {ns nl nw : Nat} {nd fr to lf lt lb lq : Nat → Int} {hit : Nat → Bool} {pw : Int} {wp wf wt : Nat → Int} {I : Int} (hp : (2 : Int) ^ nodes.toNat = pw) (h : CheckIs nodes faulty skew jitter drift round frame ns nl nw nd fr to lf lt lb lq hit pw wp wf wt 0 I) :
    (ns ≤ 32 ∧ nl ≤ 8 ∧ nw ≤ 32) ∧ ∀ x ∈ planNums nodes faulty skew jitter drift round frame ns nl nw nd fr to lf lt lb lq wp wf wt, 0 ≤ x ∧ x ≤ 1099511627776 := by
  obtain ⟨_, h0, h1, h2, h3⟩ := h.zero
  obtain ⟨a1, a2, a3, a4, ⟨b1, b2⟩, ⟨b3, b4⟩, ⟨b5, b6⟩, ⟨c1, c2⟩, ⟨c3, c4⟩, d1, d2, d3⟩ := headErr_zeroN h0
  have hpw : pw ≤ 65536 := by
    rw [← hp]
    have : nodes = 1 ∨ nodes = 2 ∨ nodes = 3 ∨ nodes = 4 ∨ nodes = 5 ∨ nodes = 6 ∨ nodes = 7 ∨ nodes = 8 ∨ nodes = 9 ∨ nodes = 10 ∨ nodes = 11 ∨ nodes = 12 ∨ nodes = 13 ∨ nodes = 14 ∨ nodes = 15 ∨ nodes = 16 := by omega
    rcases this with rfl | rfl | rfl | rfl | rfl | rfl | rfl | rfl | rfl | rfl | rfl | rfl | rfl | rfl | rfl | rfl <;> decide
  refine ⟨⟨d1, d2, d3⟩, fun x hx => ?_⟩
  unfold planNums at hx
  simp only [List.mem_append] at hx
  rcases hx with (((hx | hx) | hx) | hx) | hx
  · rcases hx with hx | hx
    · simp at hx
      omega
    · obtain ⟨j, hj, hx⟩ := List.mem_flatMap.1 hx
      have hj := List.mem_range.1 hj
      have g1 := slots_up b1 h1 j hj
      have g2 := slotErr_to (h1 j hj)
      simp at hx
      rcases hx with rfl | rfl | rfl <;> omega
  · simp at hx
    omega
  · obtain ⟨j, hj, hx⟩ := List.mem_flatMap.1 hx
    have hj := List.mem_range.1 hj
    have g2 := linkErr_to (h2 j hj)
    simp at hx
    rcases hx with rfl | rfl | rfl | rfl <;> omega
  · simp at hx
    omega
  · obtain ⟨j, hj, hx⟩ := List.mem_flatMap.1 hx
    have hj := List.mem_range.1 hj
    have g1 := wins_up h3 j hj
    have g2 := winErr_to (h3 j hj)
    simp at hx
    rcases hx with rfl | rfl | rfl <;> omega
end Go.Proofs.Ytlpojkehbhkdiaa
