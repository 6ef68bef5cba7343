/-
  Readings in their order; the middle of them; and Welch's and Lynch's lemma on numbers alone.
-/
import Derived.WalkKit
namespace Go.Proofs.YtklknbkofmobcacDoor

/-- Readings in their order. -/
def srt (l : List Int) : List Int := l.mergeSort fun x y => decide (x ≤ y)

/-- The one at a place of them. -/
def rank (l : List Int) (k : Nat) : Int := (srt l).getD k 0

/-- Half of what the least and the greatest one that are left are together, rounded down. -/
def midOf (l : List Int) (f : Nat) : Int := (rank l f + rank l (l.length - 1 - f)) / 2

theorem getD_at {l : List Int} {i : Nat} (h : i < l.length) : l.getD i 0 = l[i] := by simp [List.getD, h]

theorem srt_perm (l : List Int) : (srt l).Perm l := List.mergeSort_perm _ _

theorem srt_length (l : List Int) : (srt l).length = l.length := (srt_perm l).length_eq

theorem srt_pair (l : List Int) : List.Pairwise (fun a b => a ≤ b) (srt l) := by
  have h := List.pairwise_mergeSort (le := fun x y : Int => decide (x ≤ y)) (fun a b c h1 h2 => by simp at *; omega) (fun a b => by simp; omega) l
  exact h.imp (fun h => by simpa using h)

theorem rank_mono (l : List Int) {i j : Nat} (hij : i ≤ j) (hj : j < l.length) : rank l i ≤ rank l j := by
  have hl := srt_length l
  have hi' : i < (srt l).length := by omega
  have hj' : j < (srt l).length := by omega
  unfold rank
  rw [getD_at hi', getD_at hj']
  by_cases e : i = j
  · subst e; exact Int.le_refl _
  · exact List.pairwise_iff_getElem.1 (srt_pair l) i j hi' hj' (by omega)

theorem rank_mem (l : List Int) {i : Nat} (hi : i < l.length) : rank l i ∈ l := by
  have hi' : i < (srt l).length := by rw [srt_length]; exact hi
  unfold rank
  rw [getD_at hi']
  exact (srt_perm l).mem_iff.1 (List.getElem_mem hi')

theorem count_low (l : List Int) (f : Nat) (hf : f < l.length) : l.length - f ≤ l.countP (fun x => decide (rank l f ≤ x)) := by
  rw [← (srt_perm l).countP_eq]
  have hsp : srt l = (srt l).take f ++ (srt l).drop f := (List.take_append_drop f _).symm
  rw [hsp, List.countP_append]
  have : ((srt l).drop f).countP (fun x => decide (rank l f ≤ x)) = ((srt l).drop f).length := by
    rw [List.countP_eq_length]
    intro a ha
    obtain ⟨k, hk, rfl⟩ := List.getElem_of_mem ha
    rw [List.length_drop, srt_length] at hk
    have := rank_mono l (i := f) (j := f + k) (by omega) (by omega)
    rw [List.getElem_drop]
    rw [show rank l (f + k) = (srt l)[f + k]'(by rw [srt_length]; omega) from getD_at _] at this
    simpa using this
  rw [this, List.length_drop, srt_length]
  omega

theorem count_high (l : List Int) (k : Nat) (hk : k < l.length) : k + 1 ≤ l.countP (fun x => decide (x ≤ rank l k)) := by
  rw [← (srt_perm l).countP_eq]
  have hsp : srt l = (srt l).take (k + 1) ++ (srt l).drop (k + 1) := (List.take_append_drop (k + 1) _).symm
  rw [hsp, List.countP_append]
  have : ((srt l).take (k + 1)).countP (fun x => decide (x ≤ rank l k)) = ((srt l).take (k + 1)).length := by
    rw [List.countP_eq_length]
    intro a ha
    obtain ⟨j, hj, rfl⟩ := List.getElem_of_mem ha
    rw [List.length_take, srt_length] at hj
    have := rank_mono l (i := j) (j := k) (by omega) hk
    rw [List.getElem_take]
    rw [show rank l j = (srt l)[j]'(by rw [srt_length]; omega) from getD_at _] at this
    simpa using this
  rw [this, List.length_take, srt_length]
  omega

theorem pigeon3 (p q r : Nat → Bool) : ∀ l : List Nat, 2 * l.length < l.countP p + l.countP q + l.countP r → ∃ x, x ∈ l ∧ p x = true ∧ q x = true ∧ r x = true
  | [], h => by simp at h
  | x :: l, h => by
    by_cases hx : p x = true ∧ q x = true ∧ r x = true
    · exact ⟨x, List.mem_cons_self, hx⟩
    · have := pigeon3 p q r l (by
        simp only [List.countP_cons, List.length_cons] at h
        cases hp : p x <;> cases hq : q x <;> cases hr : r x <;> simp_all <;> omega)
      obtain ⟨y, hy, h3⟩ := this
      exact ⟨y, List.mem_cons_of_mem _ hy, h3⟩

theorem pigeon2 (p q : Nat → Bool) (l : List Nat) (h : l.length < l.countP p + l.countP q) : ∃ x, x ∈ l ∧ p x = true ∧ q x = true := by
  have := pigeon3 p q (fun _ => true) l (by
    rw [show l.countP (fun _ => true) = l.length from List.countP_eq_length.2 (fun _ _ => rfl)]; omega)
  obtain ⟨x, hx, h1, h2, _⟩ := this
  exact ⟨x, hx, h1, h2⟩

theorem count_right (f : Nat) : ∀ n : Nat, n - f ≤ (List.range n).countP (fun k => decide (f ≤ k))
  | 0 => by simp
  | n + 1 => by
    have := count_right f n
    rw [List.range_succ, List.countP_append, List.countP_singleton]
    by_cases h : f ≤ n
    · rw [decide_eq_true h]; simp; omega
    · have : n + 1 - f = 0 := by omega
      omega

/-- WELCH, LYNCH, of numbers: of two clocks that are right, the least reading that one has left is not beyond the greatest one that the other has left, by more than both misread. -/
theorem meet (n f : Nat) (u : Int) (now : Nat → Int) (row : Nat → Nat → Int) (h3 : 3 * f + 1 ≤ n)
    (hr : ∀ i k, f ≤ i → i < n → f ≤ k → k < n → now k - now i - u ≤ row i k ∧ row i k ≤ now k - now i + u) (i j : Nat) (hi : f ≤ i) (hi' : i < n) (hj : f ≤ j) (hj' : j < n) :
    now i + rank ((List.range n).map (row i)) f ≤ now j + rank ((List.range n).map (row j)) (n - 1 - f) + 2 * u := by
  have c1 := count_low ((List.range n).map (row i)) f (by simp; omega)
  have c2 := count_high ((List.range n).map (row j)) (n - 1 - f) (by simp; omega)
  have c3 := count_right f n
  rw [List.countP_map] at c1 c2
  simp only [List.length_map, List.length_range] at c1
  obtain ⟨k, hk, a, b, c⟩ := pigeon3 _ _ _ (List.range n) (show 2 * (List.range n).length < _ by rw [List.length_range]; exact Nat.lt_of_lt_of_le (by omega : 2 * n < (n - f) + (n - 1 - f + 1) + (n - f)) (Nat.add_le_add (Nat.add_le_add c1 c2) c3))
  have hk := List.mem_range.1 hk
  simp at a b c
  have h1 := hr i k hi hi' c hk
  have h2 := hr j k hj hj' c hk
  omega

theorem low_left (n f : Nat) (u low : Int) (now : Nat → Int) (row : Nat → Nat → Int)
    (hr : ∀ i k, f ≤ i → i < n → f ≤ k → k < n → now k - now i - u ≤ row i k ∧ row i k ≤ now k - now i + u)
    (hl : ∀ k, f ≤ k → k < n → low ≤ now k) (i : Nat) (hi : f ≤ i) (hi' : i < n) :
    low - u ≤ now i + rank ((List.range n).map (row i)) f := by
  have c2 := count_high ((List.range n).map (row i)) f (by simp; omega)
  have c3 := count_right f n
  rw [List.countP_map] at c2
  obtain ⟨k, hk, b, c⟩ := pigeon2 _ _ (List.range n) (show (List.range n).length < _ by rw [List.length_range]; exact Nat.lt_of_lt_of_le (by omega : n < (f + 1) + (n - f)) (Nat.add_le_add c2 c3))
  have hk := List.mem_range.1 hk
  simp at b c
  have h1 := hr i k hi hi' c hk
  have h2 := hl k c hk
  omega

theorem high_left (n f : Nat) (u high : Int) (now : Nat → Int) (row : Nat → Nat → Int)
    (hr : ∀ i k, f ≤ i → i < n → f ≤ k → k < n → now k - now i - u ≤ row i k ∧ row i k ≤ now k - now i + u)
    (hh : ∀ k, f ≤ k → k < n → now k ≤ high) (i : Nat) (hi : f ≤ i) (hi' : i < n) :
    now i + rank ((List.range n).map (row i)) (n - 1 - f) ≤ high + u := by
  have c1 := count_low ((List.range n).map (row i)) (n - 1 - f) (by simp; omega)
  have c3 := count_right f n
  rw [List.countP_map] at c1
  simp only [List.length_map, List.length_range] at c1
  obtain ⟨k, hk, b, c⟩ := pigeon2 _ _ (List.range n) (show (List.range n).length < _ by rw [List.length_range]; exact Nat.lt_of_lt_of_le (by omega : n < (n - (n - 1 - f)) + (n - f)) (Nat.add_le_add c1 c3))
  have hk := List.mem_range.1 hk
  simp at b c
  have h1 := hr i k hi hi' c hk
  have h2 := hh k c hk
  omega

/-- What a clock shows behind a round. -/
def setOn (n f : Nat) (now : Nat → Int) (row : Nat → Nat → Int) (i : Nat) : Int := now i + midOf ((List.range n).map (row i)) f

/-- WELCH, LYNCH. -/
theorem halves (n f : Nat) (u low high : Int) (now : Nat → Int) (row : Nat → Nat → Int) (h3 : 3 * f + 1 ≤ n)
    (hr : ∀ i k, f ≤ i → i < n → f ≤ k → k < n → now k - now i - u ≤ row i k ∧ row i k ≤ now k - now i + u)
    (hl : ∀ k, f ≤ k → k < n → low ≤ now k) (hh : ∀ k, f ≤ k → k < n → now k ≤ high) (i j : Nat) (hi : f ≤ i) (hi' : i < n) (hj : f ≤ j) (hj' : j < n) :
    setOn n f now row i - setOn n f now row j ≤ (high - low) / 2 + 2 * u + 1 := by
  have a1 := meet n f u now row h3 hr i j hi hi' hj hj'
  have a2 := low_left n f u low now row hr hl j hj hj'
  have a3 := high_left n f u high now row hr hh i hi hi'
  unfold setOn midOf
  simp only [List.length_map, List.length_range]
  omega

theorem within (n f : Nat) (u low high : Int) (now : Nat → Int) (row : Nat → Nat → Int) (h3 : 3 * f + 1 ≤ n)
    (hr : ∀ i k, f ≤ i → i < n → f ≤ k → k < n → now k - now i - u ≤ row i k ∧ row i k ≤ now k - now i + u)
    (hl : ∀ k, f ≤ k → k < n → low ≤ now k) (hh : ∀ k, f ≤ k → k < n → now k ≤ high) (i : Nat) (hi : f ≤ i) (hi' : i < n) :
    low - u ≤ setOn n f now row i ∧ setOn n f now row i ≤ high + u := by
  have a2 := low_left n f u low now row hr hl i hi hi'
  have a3 := high_left n f u high now row hr hh i hi hi'
  have a4 := rank_mono ((List.range n).map (row i)) (i := f) (j := n - 1 - f) (by omega) (by simp; omega)
  unfold setOn midOf
  simp only [List.length_map, List.length_range]
  omega

end Go.Proofs.YtklknbkofmobcacDoor
