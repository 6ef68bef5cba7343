/- Numbers in the order of messages: 0, then 1 to 255, and 1 again; which are ahead (ahead of stage 7). -/
import GoSem.Claim
namespace Go.Proofs.YtklknbkofmobcabDoor

/-- One step of the order. -/
def stepN (a : Int) : Int := if a + 1 = 256 then 1 else a + 1
def stepsN (a : Int) : Nat → Int
  | 0 => a
  | k + 1 => stepN (stepsN a k)
/-- Whether a number is met within so many steps. -/
def metB (a seq : Int) : Nat → Bool
  | 0 => false
  | k + 1 => metB a seq k || decide (stepsN a (k + 1) = seq)
/-- Whether a receiver that has a newest number (or none: below 0) tells a number. -/
def takeB (nw seq : Int) : Bool := decide (0 ≤ seq ∧ seq ≤ 255) && (decide (nw < 0) || metB nw seq 127)

theorem stepsN_in {a : Int} (h0 : 0 ≤ a) (h1 : a ≤ 255) : ∀ k, 0 ≤ stepsN a k ∧ stepsN a k ≤ 255
  | 0 => ⟨h0, h1⟩
  | k + 1 => by
    have := stepsN_in h0 h1 k
    show 0 ≤ stepN (stepsN a k) ∧ stepN (stepsN a k) ≤ 255
    unfold stepN
    split <;> omega

/-- The number of the k-th message. -/
def ordN (k : Nat) : Int := if k = 0 then 0 else (((k - 1) % 255 + 1 : Nat) : Int)
theorem ordN_in (k : Nat) : 0 ≤ ordN k ∧ ordN k ≤ 255 := by
  unfold ordN
  split <;> omega
theorem ordN_step (k : Nat) : stepN (ordN k) = ordN (k + 1) := by
  rcases Nat.eq_zero_or_pos k with rfl | hk
  · decide
  · have e1 : ordN k = (((k - 1) % 255 + 1 : Nat) : Int) := if_neg (by omega)
    have e2 : ordN (k + 1) = (((k + 1 - 1) % 255 + 1 : Nat) : Int) := if_neg (by omega)
    rw [e1, e2]
    unfold stepN
    split <;> omega
theorem ordN_steps (k : Nat) : ∀ d, stepsN (ordN k) d = ordN (k + d)
  | 0 => rfl
  | d + 1 => by
    show stepN (stepsN (ordN k) d) = ordN (k + (d + 1))
    rw [ordN_steps k d, ordN_step]
    rfl
theorem metB_iff {a seq : Int} : ∀ {n : Nat}, metB a seq n = true ↔ ∃ d, 1 ≤ d ∧ d ≤ n ∧ stepsN a d = seq
  | 0 => ⟨fun h => (by cases h), fun ⟨d, h1, h2, _⟩ => (by omega)⟩
  | n + 1 => by
    show (metB a seq n || decide (stepsN a (n + 1) = seq)) = true ↔ _
    rw [Bool.or_eq_true, decide_eq_true_eq, metB_iff]
    constructor
    · rintro (⟨d, h1, h2, h3⟩ | h)
      · exact ⟨d, h1, by omega, h3⟩
      · exact ⟨n + 1, by omega, Nat.le_refl _, h⟩
    · rintro ⟨d, h1, h2, h3⟩
      rcases Nat.lt_or_ge d (n + 1) with q | q
      · exact .inl ⟨d, h1, by omega, h3⟩
      · obtain rfl : d = n + 1 := by omega
        exact .inr h3
/-- Two numbers are one where their places are so many rounds apart. -/
theorem ordN_eq {i j : Nat} (h : ordN i = ordN j) : i = j ∨ (0 < i ∧ 0 < j ∧ (i - 1) % 255 = (j - 1) % 255) := by
  unfold ordN at h
  rcases Nat.eq_zero_or_pos i with rfl | hi
  · rcases Nat.eq_zero_or_pos j with rfl | hj
    · exact .inl rfl
    · rw [if_pos rfl, if_neg (by omega)] at h
      omega
  · rcases Nat.eq_zero_or_pos j with rfl | hj
    · rw [if_neg (by omega), if_pos rfl] at h
      omega
    · rw [if_neg (by omega), if_neg (by omega)] at h
      exact .inr ⟨hi, hj, by omega⟩
/-- A later one, not too far, is ahead. -/
theorem take_later {last k : Nat} (h1 : last < k) (h2 : k ≤ last + 127) : takeB (ordN last) (ordN k) = true := by
  unfold takeB
  rw [decide_eq_true (ordN_in k), Bool.true_and, Bool.or_eq_true]
  refine .inr (metB_iff.2 ⟨k - last, by omega, by omega, ?_⟩)
  rw [ordN_steps]
  congr 1
  omega
/-- An earlier one (or the same), not too far, is not. -/
theorem take_earlier {last k : Nat} (h1 : k ≤ last) (h2 : last ≤ k + 127) : takeB (ordN last) (ordN k) = false := by
  unfold takeB
  have hn : decide (ordN last < 0) = false := decide_eq_false (by have := (ordN_in last).1; omega)
  have hm : metB (ordN last) (ordN k) 127 = false := by
    cases e : metB (ordN last) (ordN k) 127
    · rfl
    · obtain ⟨d, h3, h4, h5⟩ := metB_iff.1 e
      rw [ordN_steps] at h5
      rcases ordN_eq h5 with q | ⟨q1, q2, q3⟩ <;> omega
  rw [hn, hm, Bool.or_false, Bool.and_false]
theorem take_first (k : Nat) : takeB (-1) (ordN k) = true := by
  unfold takeB
  rw [decide_eq_true (ordN_in k)]
  rfl

/-- What becomes of a receiver. -/
def tkNew (t : Bool) (seq nw : Int) : Int := if t = true then seq else nw
def tkTold (t : Bool) (a : Int) : Int := if t = true then a + 1 else a
def tkNot (t : Bool) (b : Int) : Int := if t = true then b else b + 1

theorem takeB_in {nw seq : Int} (h : takeB nw seq = true) : 0 ≤ seq ∧ seq ≤ 255 := by
  unfold takeB at h
  rw [Bool.and_eq_true, decide_eq_true_eq] at h
  exact h.1
end Go.Proofs.YtklknbkofmobcabDoor
