/-
  Readings in their order; the middle of them; and Welch's and Lynch's lemma on numbers alone.
-/
import Derived.WalkKit
import GoSem.Claim
import Derived.Below
import Derived.Deep.QuietTactic
namespace Go.Proofs.YtdmokcnoljlogaaGreatDoor

/-- Readings in their order. -/
def srt (l : List Int) : List Int := l.mergeSort fun x y => decide (x ≤ y)

/-- The one at a place of them. -/
def rank (l : List Int) (k : Nat) : Int := (srt l).getD k 0

/-- Half of what the least and the greatest one that are left are together, rounded down. -/
def midOf (l : List Int) (f : Nat) : Int := (rank l f + rank l (l.length - 1 - f)) / 2

theorem getD_at {l : List Int} {i : Nat} (h : i < l.length) : l.getD i 0 = l[i] := by simp [List.getD, h]

theorem srt_perm (l : List Int) : (srt l).Perm l := List.mergeSort_perm _ _

theorem srt_length (l : List Int) : (srt l).length = l.length := (srt_perm l).length_eq

theorem srt_pair (l : List Int) : List.Pairwise (fun a b => a ≤ b) (srt l) := by
  have h := List.pairwise_mergeSort (le := fun x y : Int => decide (x ≤ y)) (fun a b c h1 h2 => by simp at *; omega) (fun a b => by simp; omega) l
  exact h.imp (fun h => by simpa using h)

theorem rank_mono (l : List Int) {i j : Nat} (hij : i ≤ j) (hj : j < l.length) : rank l i ≤ rank l j := by
  have hl := srt_length l
  have hi' : i < (srt l).length := by omega
  have hj' : j < (srt l).length := by omega
  unfold rank
  rw [getD_at hi', getD_at hj']
  by_cases e : i = j
  · subst e; exact Int.le_refl _
  · exact List.pairwise_iff_getElem.1 (srt_pair l) i j hi' hj' (by omega)

theorem rank_mem (l : List Int) {i : Nat} (hi : i < l.length) : rank l i ∈ l := by
  have hi' : i < (srt l).length := by rw [srt_length]; exact hi
  unfold rank
  rw [getD_at hi']
  exact (srt_perm l).mem_iff.1 (List.getElem_mem hi')

theorem count_low (l : List Int) (f : Nat) (hf : f < l.length) : l.length - f ≤ l.countP (fun x => decide (rank l f ≤ x)) := by
  rw [← (srt_perm l).countP_eq]
  have hsp : srt l = (srt l).take f ++ (srt l).drop f := (List.take_append_drop f _).symm
  rw [hsp, List.countP_append]
  have : ((srt l).drop f).countP (fun x => decide (rank l f ≤ x)) = ((srt l).drop f).length := by
    rw [List.countP_eq_length]
    intro a ha
    obtain ⟨k, hk, rfl⟩ := List.getElem_of_mem ha
    rw [List.length_drop, srt_length] at hk
    have := rank_mono l (i := f) (j := f + k) (by omega) (by omega)
    rw [List.getElem_drop]
    rw [show rank l (f + k) = (srt l)[f + k]'(by rw [srt_length]; omega) from getD_at _] at this
    simpa using this
  rw [this, List.length_drop, srt_length]
  omega

theorem count_high (l : List Int) (k : Nat) (hk : k < l.length) : k + 1 ≤ l.countP (fun x => decide (x ≤ rank l k)) := by
  rw [← (srt_perm l).countP_eq]
  have hsp : srt l = (srt l).take (k + 1) ++ (srt l).drop (k + 1) := (List.take_append_drop (k + 1) _).symm
  rw [hsp, List.countP_append]
  have : ((srt l).take (k + 1)).countP (fun x => decide (x ≤ rank l k)) = ((srt l).take (k + 1)).length := by
    rw [List.countP_eq_length]
    intro a ha
    obtain ⟨j, hj, rfl⟩ := List.getElem_of_mem ha
    rw [List.length_take, srt_length] at hj
    have := rank_mono l (i := j) (j := k) (by omega) hk
    rw [List.getElem_take]
    rw [show rank l j = (srt l)[j]'(by rw [srt_length]; omega) from getD_at _] at this
    simpa using this
  rw [this, List.length_take, srt_length]
  omega

theorem pigeon3 (p q r : Nat → Bool) : ∀ l : List Nat, 2 * l.length < l.countP p + l.countP q + l.countP r → ∃ x, x ∈ l ∧ p x = true ∧ q x = true ∧ r x = true
  | [], h => by simp at h
  | x :: l, h => by
    by_cases hx : p x = true ∧ q x = true ∧ r x = true
    · exact ⟨x, List.mem_cons_self, hx⟩
    · have := pigeon3 p q r l (by
        simp only [List.countP_cons, List.length_cons] at h
        cases hp : p x <;> cases hq : q x <;> cases hr : r x <;> simp_all <;> omega)
      obtain ⟨y, hy, h3⟩ := this
      exact ⟨y, List.mem_cons_of_mem _ hy, h3⟩

theorem pigeon2 (p q : Nat → Bool) (l : List Nat) (h : l.length < l.countP p + l.countP q) : ∃ x, x ∈ l ∧ p x = true ∧ q x = true := by
  have := pigeon3 p q (fun _ => true) l (by
    rw [show l.countP (fun _ => true) = l.length from List.countP_eq_length.2 (fun _ _ => rfl)]; omega)
  obtain ⟨x, hx, h1, h2, _⟩ := this
  exact ⟨x, hx, h1, h2⟩

theorem count_right (f : Nat) : ∀ n : Nat, n - f ≤ (List.range n).countP (fun k => decide (f ≤ k))
  | 0 => by simp
  | n + 1 => by
    have := count_right f n
    rw [List.range_succ, List.countP_append, List.countP_singleton]
    by_cases h : f ≤ n
    · rw [decide_eq_true h]; simp; omega
    · have : n + 1 - f = 0 := by omega
      omega

/-- WELCH, LYNCH, of numbers: of two clocks that are right, the least reading that one has left is not beyond the greatest one that the other has left, by more than both misread. -/
theorem meet (n f : Nat) (u : Int) (now : Nat → Int) (row : Nat → Nat → Int) (h3 : 3 * f + 1 ≤ n)
    (hr : ∀ i k, f ≤ i → i < n → f ≤ k → k < n → now k - now i - u ≤ row i k ∧ row i k ≤ now k - now i + u) (i j : Nat) (hi : f ≤ i) (hi' : i < n) (hj : f ≤ j) (hj' : j < n) :
    now i + rank ((List.range n).map (row i)) f ≤ now j + rank ((List.range n).map (row j)) (n - 1 - f) + 2 * u := by
  have c1 := count_low ((List.range n).map (row i)) f (by simp; omega)
  have c2 := count_high ((List.range n).map (row j)) (n - 1 - f) (by simp; omega)
  have c3 := count_right f n
  rw [List.countP_map] at c1 c2
  simp only [List.length_map, List.length_range] at c1
  obtain ⟨k, hk, a, b, c⟩ := pigeon3 _ _ _ (List.range n) (show 2 * (List.range n).length < _ by rw [List.length_range]; exact Nat.lt_of_lt_of_le (by omega : 2 * n < (n - f) + (n - 1 - f + 1) + (n - f)) (Nat.add_le_add (Nat.add_le_add c1 c2) c3))
  have hk := List.mem_range.1 hk
  simp at a b c
  have h1 := hr i k hi hi' c hk
  have h2 := hr j k hj hj' c hk
  omega

theorem low_left (n f : Nat) (u low : Int) (now : Nat → Int) (row : Nat → Nat → Int)
    (hr : ∀ i k, f ≤ i → i < n → f ≤ k → k < n → now k - now i - u ≤ row i k ∧ row i k ≤ now k - now i + u)
    (hl : ∀ k, f ≤ k → k < n → low ≤ now k) (i : Nat) (hi : f ≤ i) (hi' : i < n) :
    low - u ≤ now i + rank ((List.range n).map (row i)) f := by
  have c2 := count_high ((List.range n).map (row i)) f (by simp; omega)
  have c3 := count_right f n
  rw [List.countP_map] at c2
  obtain ⟨k, hk, b, c⟩ := pigeon2 _ _ (List.range n) (show (List.range n).length < _ by rw [List.length_range]; exact Nat.lt_of_lt_of_le (by omega : n < (f + 1) + (n - f)) (Nat.add_le_add c2 c3))
  have hk := List.mem_range.1 hk
  simp at b c
  have h1 := hr i k hi hi' c hk
  have h2 := hl k c hk
  omega

theorem high_left (n f : Nat) (u high : Int) (now : Nat → Int) (row : Nat → Nat → Int)
    (hr : ∀ i k, f ≤ i → i < n → f ≤ k → k < n → now k - now i - u ≤ row i k ∧ row i k ≤ now k - now i + u)
    (hh : ∀ k, f ≤ k → k < n → now k ≤ high) (i : Nat) (hi : f ≤ i) (hi' : i < n) :
    now i + rank ((List.range n).map (row i)) (n - 1 - f) ≤ high + u := by
  have c1 := count_low ((List.range n).map (row i)) (n - 1 - f) (by simp; omega)
  have c3 := count_right f n
  rw [List.countP_map] at c1
  simp only [List.length_map, List.length_range] at c1
  obtain ⟨k, hk, b, c⟩ := pigeon2 _ _ (List.range n) (show (List.range n).length < _ by rw [List.length_range]; exact Nat.lt_of_lt_of_le (by omega : n < (n - (n - 1 - f)) + (n - f)) (Nat.add_le_add c1 c3))
  have hk := List.mem_range.1 hk
  simp at b c
  have h1 := hr i k hi hi' c hk
  have h2 := hh k c hk
  omega

/-- What a clock shows behind a round. -/
def setOn (n f : Nat) (now : Nat → Int) (row : Nat → Nat → Int) (i : Nat) : Int := now i + midOf ((List.range n).map (row i)) f

/-- WELCH, LYNCH. -/
theorem halves (n f : Nat) (u low high : Int) (now : Nat → Int) (row : Nat → Nat → Int) (h3 : 3 * f + 1 ≤ n)
    (hr : ∀ i k, f ≤ i → i < n → f ≤ k → k < n → now k - now i - u ≤ row i k ∧ row i k ≤ now k - now i + u)
    (hl : ∀ k, f ≤ k → k < n → low ≤ now k) (hh : ∀ k, f ≤ k → k < n → now k ≤ high) (i j : Nat) (hi : f ≤ i) (hi' : i < n) (hj : f ≤ j) (hj' : j < n) :
    setOn n f now row i - setOn n f now row j ≤ (high - low) / 2 + 2 * u + 1 := by
  have a1 := meet n f u now row h3 hr i j hi hi' hj hj'
  have a2 := low_left n f u low now row hr hl j hj hj'
  have a3 := high_left n f u high now row hr hh i hi hi'
  unfold setOn midOf
  simp only [List.length_map, List.length_range]
  omega

theorem within (n f : Nat) (u low high : Int) (now : Nat → Int) (row : Nat → Nat → Int) (h3 : 3 * f + 1 ≤ n)
    (hr : ∀ i k, f ≤ i → i < n → f ≤ k → k < n → now k - now i - u ≤ row i k ∧ row i k ≤ now k - now i + u)
    (hl : ∀ k, f ≤ k → k < n → low ≤ now k) (hh : ∀ k, f ≤ k → k < n → now k ≤ high) (i : Nat) (hi : f ≤ i) (hi' : i < n) :
    low - u ≤ setOn n f now row i ∧ setOn n f now row i ≤ high + u := by
  have a2 := low_left n f u low now row hr hl i hi hi'
  have a3 := high_left n f u high now row hr hh i hi hi'
  have a4 := rank_mono ((List.range n).map (row i)) (i := f) (j := n - 1 - f) (by omega) (by simp; omega)
  unfold setOn midOf
  simp only [List.length_map, List.length_range]
  omega

end Go.Proofs.YtdmokcnoljlogaaGreatDoor

/- WELCH, LYNCH, whoever lies (ahead of stage 9): of clocks of which at most f lie, whichever these are, those that are right stay as near as a plan says, round by round. Plain numbers. -/
namespace Go.Proofs.YtdmokcnoljlogaaGreatDoor

section
variable {n f : Nat} {ok : Nat → Bool} {u : Int} {now : Nat → Int} {row : Nat → Nat → Int}

theorem meet_ok (hc : n - f ≤ (List.range n).countP ok) (h3 : 3 * f + 1 ≤ n)
    (hr : ∀ i k, i < n → ok i = true → k < n → ok k = true → now k - now i - u ≤ row i k ∧ row i k ≤ now k - now i + u) (i j : Nat) (hi' : i < n) (hi : ok i = true) (hj' : j < n) (hj : ok j = true) :
    now i + rank ((List.range n).map (row i)) f ≤ now j + rank ((List.range n).map (row j)) (n - 1 - f) + 2 * u := by
  have c1 := count_low ((List.range n).map (row i)) f (by simp; omega)
  have c2 := count_high ((List.range n).map (row j)) (n - 1 - f) (by simp; omega)
  rw [List.countP_map] at c1 c2
  simp only [List.length_map, List.length_range] at c1
  obtain ⟨k, hk, a, b, c⟩ := pigeon3 _ _ _ (List.range n) (show 2 * (List.range n).length < _ by rw [List.length_range]; exact Nat.lt_of_lt_of_le (by omega : 2 * n < (n - f) + (n - 1 - f + 1) + (n - f)) (Nat.add_le_add (Nat.add_le_add c1 c2) hc))
  have hk := List.mem_range.1 hk
  simp at a b
  have h1 := hr i k hi' hi hk c
  have h2 := hr j k hj' hj hk c
  omega

theorem low_ok {low : Int} (hc : n - f ≤ (List.range n).countP ok) (hf : f < n)
    (hr : ∀ i k, i < n → ok i = true → k < n → ok k = true → now k - now i - u ≤ row i k ∧ row i k ≤ now k - now i + u)
    (hl : ∀ k, k < n → ok k = true → low ≤ now k) (i : Nat) (hi' : i < n) (hi : ok i = true) :
    low - u ≤ now i + rank ((List.range n).map (row i)) f := by
  have c2 := count_high ((List.range n).map (row i)) f (by simp; omega)
  rw [List.countP_map] at c2
  obtain ⟨k, hk, b, c⟩ := pigeon2 _ _ (List.range n) (show (List.range n).length < _ by rw [List.length_range]; exact Nat.lt_of_lt_of_le (by omega : n < (f + 1) + (n - f)) (Nat.add_le_add c2 hc))
  have hk := List.mem_range.1 hk
  simp at b
  have h1 := hr i k hi' hi hk c
  have h2 := hl k hk c
  omega

theorem high_ok {high : Int} (hc : n - f ≤ (List.range n).countP ok) (hf : f < n)
    (hr : ∀ i k, i < n → ok i = true → k < n → ok k = true → now k - now i - u ≤ row i k ∧ row i k ≤ now k - now i + u)
    (hh : ∀ k, k < n → ok k = true → now k ≤ high) (i : Nat) (hi' : i < n) (hi : ok i = true) :
    now i + rank ((List.range n).map (row i)) (n - 1 - f) ≤ high + u := by
  have c1 := count_low ((List.range n).map (row i)) (n - 1 - f) (by simp; omega)
  rw [List.countP_map] at c1
  simp only [List.length_map, List.length_range] at c1
  obtain ⟨k, hk, b, c⟩ := pigeon2 _ _ (List.range n) (show (List.range n).length < _ by rw [List.length_range]; exact Nat.lt_of_lt_of_le (by omega : n < (n - (n - 1 - f)) + (n - f)) (Nat.add_le_add c1 hc))
  have hk := List.mem_range.1 hk
  simp at b
  have h1 := hr i k hi' hi hk c
  have h2 := hh k hk c
  omega

/-- Behind a round clocks that are right are half as far apart. -/
theorem halves_ok {low high : Int} (hc : n - f ≤ (List.range n).countP ok) (h3 : 3 * f + 1 ≤ n)
    (hr : ∀ i k, i < n → ok i = true → k < n → ok k = true → now k - now i - u ≤ row i k ∧ row i k ≤ now k - now i + u)
    (hl : ∀ k, k < n → ok k = true → low ≤ now k) (hh : ∀ k, k < n → ok k = true → now k ≤ high) (i j : Nat) (hi' : i < n) (hi : ok i = true) (hj' : j < n) (hj : ok j = true) :
    setOn n f now row i - setOn n f now row j ≤ (high - low) / 2 + 2 * u + 1 := by
  have a1 := meet_ok hc h3 hr i j hi' hi hj' hj
  have a2 := low_ok hc (by omega) hr hl j hj' hj
  have a3 := high_ok hc (by omega) hr hh i hi' hi
  unfold setOn midOf
  simp only [List.length_map, List.length_range]
  omega

/-- Of several clocks that are right one shows the least, and one the most. -/
theorem ends_ok (now : Nat → Int) (ok : Nat → Bool) : ∀ n : Nat, (∃ k, k < n ∧ ok k = true) → ∃ a b, (a < n ∧ ok a = true) ∧ (b < n ∧ ok b = true) ∧ ∀ k, k < n → ok k = true → now a ≤ now k ∧ now k ≤ now b := by
  intro n
  induction n with
  | zero => rintro ⟨k, hk, _⟩; omega
  | succ n ih =>
    rintro ⟨k, hk, hok⟩
    by_cases he : ∃ k, k < n ∧ ok k = true
    · obtain ⟨a, b, ⟨ha, oa⟩, ⟨hb, ob⟩, hab⟩ := ih he
      by_cases on : ok n = true
      · refine ⟨if now n < now a then n else a, if now b < now n then n else b, ?_, ?_, fun k hk ok => ?_⟩
        · split
          · exact ⟨by omega, on⟩
          · exact ⟨by omega, oa⟩
        · split
          · exact ⟨by omega, on⟩
          · exact ⟨by omega, ob⟩
        · have h1 := hab a ha oa
          have h2 := hab b hb ob
          rcases Nat.lt_or_ge k n with q | q
          · have := hab k q ok
            constructor
            · split <;> omega
            · split <;> omega
          · obtain rfl : k = n := by omega
            constructor
            · split <;> omega
            · split <;> omega
      · refine ⟨a, b, ⟨by omega, oa⟩, ⟨by omega, ob⟩, fun k hk ok => ?_⟩
        rcases Nat.lt_or_ge k n with q | q
        · exact hab k q ok
        · obtain rfl : k = n := by omega
          exact absurd ok on
    · have hkn : k = n := by
        rcases Nat.lt_or_ge k n with q | q
        · exact absurd ⟨k, q, hok⟩ he
        · omega
      subst hkn
      refine ⟨k, k, ⟨by omega, hok⟩, ⟨by omega, hok⟩, fun j hj oj => ?_⟩
      rcases Nat.lt_or_ge j k with q | q
      · exact absurd ⟨j, q, oj⟩ he
      · obtain rfl : j = k := by omega
        exact ⟨Int.le_refl _, Int.le_refl _⟩

/-- CLOCKS STAY TOGETHER: a round, and drifts. -/
theorem skew_round {skew D : Int} {dr : Nat → Int} (hc : n - f ≤ (List.range n).countP ok) (h3 : 3 * f + 1 ≤ n) (hS : skew / 2 + 2 * u + 1 + 2 * D ≤ skew)
    (hr : ∀ i k, i < n → ok i = true → k < n → ok k = true → now k - now i - u ≤ row i k ∧ row i k ≤ now k - now i + u)
    (hs : ∀ i j, i < n → ok i = true → j < n → ok j = true → now i - now j ≤ skew) (hd : ∀ i, i < n → -D ≤ dr i ∧ dr i ≤ D) (i j : Nat) (hi' : i < n) (hi : ok i = true) (hj' : j < n) (hj : ok j = true) :
    (setOn n f now row i + dr i) - (setOn n f now row j + dr j) ≤ skew := by
  obtain ⟨a, b, ⟨ha, oa⟩, ⟨hb, ob⟩, hab⟩ := ends_ok now ok n ⟨i, hi', hi⟩
  have h1 := halves_ok hc h3 hr (fun k hk o => (hab k hk o).1) (fun k hk o => (hab k hk o).2) i j hi' hi hj' hj
  have h2 := hs b a hb ob ha oa
  have h3 := hd i hi'
  have h4 := hd j hj'
  omega

/-- As many are right as do not lie. -/
theorem count_ok (lies : Nat → Bool) (n f : Nat) (h : (List.range n).countP lies ≤ f) : n - f ≤ (List.range n).countP (fun k => !lies k) := by
  have e := List.length_eq_countP_add_countP lies (l := List.range n)
  rw [List.length_range] at e
  have e2 : (List.range n).countP (fun k => !lies k) = (List.range n).countP (fun a => decide ¬ lies a = true) := by
    congr 1
    funext k
    cases lies k <;> rfl
  omega
end
end Go.Proofs.YtdmokcnoljlogaaGreatDoor

/- Numbers in the order of messages: 0, then 1 to 255, and 1 again; which are ahead (ahead of stage 7). -/
namespace Go.Proofs.YtdmokcnoljlogaaGreatDoor

/-- One step of the order. -/
def stepN (a : Int) : Int := if a + 1 = 256 then 1 else a + 1
def stepsN (a : Int) : Nat → Int
  | 0 => a
  | k + 1 => stepN (stepsN a k)
/-- Whether a number is met within so many steps. -/
def metB (a seq : Int) : Nat → Bool
  | 0 => false
  | k + 1 => metB a seq k || decide (stepsN a (k + 1) = seq)
/-- Whether a receiver that has a newest number (or none: below 0) tells a number. -/
def takeB (nw seq : Int) : Bool := decide (0 ≤ seq ∧ seq ≤ 255) && (decide (nw < 0) || metB nw seq 127)

theorem stepsN_in {a : Int} (h0 : 0 ≤ a) (h1 : a ≤ 255) : ∀ k, 0 ≤ stepsN a k ∧ stepsN a k ≤ 255
  | 0 => ⟨h0, h1⟩
  | k + 1 => by
    have := stepsN_in h0 h1 k
    show 0 ≤ stepN (stepsN a k) ∧ stepN (stepsN a k) ≤ 255
    unfold stepN
    split <;> omega

/-- The number of the k-th message. -/
def ordN (k : Nat) : Int := if k = 0 then 0 else (((k - 1) % 255 + 1 : Nat) : Int)
theorem ordN_in (k : Nat) : 0 ≤ ordN k ∧ ordN k ≤ 255 := by
  unfold ordN
  split <;> omega
theorem ordN_step (k : Nat) : stepN (ordN k) = ordN (k + 1) := by
  rcases Nat.eq_zero_or_pos k with rfl | hk
  · decide
  · have e1 : ordN k = (((k - 1) % 255 + 1 : Nat) : Int) := if_neg (by omega)
    have e2 : ordN (k + 1) = (((k + 1 - 1) % 255 + 1 : Nat) : Int) := if_neg (by omega)
    rw [e1, e2]
    unfold stepN
    split <;> omega
theorem ordN_steps (k : Nat) : ∀ d, stepsN (ordN k) d = ordN (k + d)
  | 0 => rfl
  | d + 1 => by
    show stepN (stepsN (ordN k) d) = ordN (k + (d + 1))
    rw [ordN_steps k d, ordN_step]
    rfl
theorem metB_iff {a seq : Int} : ∀ {n : Nat}, metB a seq n = true ↔ ∃ d, 1 ≤ d ∧ d ≤ n ∧ stepsN a d = seq
  | 0 => ⟨fun h => (by cases h), fun ⟨d, h1, h2, _⟩ => (by omega)⟩
  | n + 1 => by
    show (metB a seq n || decide (stepsN a (n + 1) = seq)) = true ↔ _
    rw [Bool.or_eq_true, decide_eq_true_eq, metB_iff]
    constructor
    · rintro (⟨d, h1, h2, h3⟩ | h)
      · exact ⟨d, h1, by omega, h3⟩
      · exact ⟨n + 1, by omega, Nat.le_refl _, h⟩
    · rintro ⟨d, h1, h2, h3⟩
      rcases Nat.lt_or_ge d (n + 1) with q | q
      · exact .inl ⟨d, h1, by omega, h3⟩
      · obtain rfl : d = n + 1 := by omega
        exact .inr h3
/-- Two numbers are one where their places are so many rounds apart. -/
theorem ordN_eq {i j : Nat} (h : ordN i = ordN j) : i = j ∨ (0 < i ∧ 0 < j ∧ (i - 1) % 255 = (j - 1) % 255) := by
  unfold ordN at h
  rcases Nat.eq_zero_or_pos i with rfl | hi
  · rcases Nat.eq_zero_or_pos j with rfl | hj
    · exact .inl rfl
    · rw [if_pos rfl, if_neg (by omega)] at h
      omega
  · rcases Nat.eq_zero_or_pos j with rfl | hj
    · rw [if_neg (by omega), if_pos rfl] at h
      omega
    · rw [if_neg (by omega), if_neg (by omega)] at h
      exact .inr ⟨hi, hj, by omega⟩
/-- A later one, not too far, is ahead. -/
theorem take_later {last k : Nat} (h1 : last < k) (h2 : k ≤ last + 127) : takeB (ordN last) (ordN k) = true := by
  unfold takeB
  rw [decide_eq_true (ordN_in k), Bool.true_and, Bool.or_eq_true]
  refine .inr (metB_iff.2 ⟨k - last, by omega, by omega, ?_⟩)
  rw [ordN_steps]
  congr 1
  omega
/-- An earlier one (or the same), not too far, is not. -/
theorem take_earlier {last k : Nat} (h1 : k ≤ last) (h2 : last ≤ k + 127) : takeB (ordN last) (ordN k) = false := by
  unfold takeB
  have hn : decide (ordN last < 0) = false := decide_eq_false (by have := (ordN_in last).1; omega)
  have hm : metB (ordN last) (ordN k) 127 = false := by
    cases e : metB (ordN last) (ordN k) 127
    · rfl
    · obtain ⟨d, h3, h4, h5⟩ := metB_iff.1 e
      rw [ordN_steps] at h5
      rcases ordN_eq h5 with q | ⟨q1, q2, q3⟩ <;> omega
  rw [hn, hm, Bool.or_false, Bool.and_false]
theorem take_first (k : Nat) : takeB (-1) (ordN k) = true := by
  unfold takeB
  rw [decide_eq_true (ordN_in k)]
  rfl

/-- What becomes of a receiver. -/
def tkNew (t : Bool) (seq nw : Int) : Int := if t = true then seq else nw
def tkTold (t : Bool) (a : Int) : Int := if t = true then a + 1 else a
def tkNot (t : Bool) (b : Int) : Int := if t = true then b else b + 1

theorem takeB_in {nw seq : Int} (h : takeB nw seq = true) : 0 ≤ seq ∧ seq ≤ 255 := by
  unfold takeB at h
  rw [Bool.and_eq_true, decide_eq_true_eq] at h
  exact h.1
end Go.Proofs.YtdmokcnoljlogaaGreatDoor

/- Plain words on senders: what Put and Send answer, and what becomes of a sender (7.1). -/
namespace Go.Proofs.YtdmokcnoljlogaaGreatDoor

def emptyS : Value := .string ByteArray.empty
/-- Whether none goes. -/
def noneB (n went : Nat) (t last bag : Int) : Bool := decide (went = n) || (decide (0 < went) && decide (t < last + bag))

/-- What Put answers. -/
def putK (many : Nat) (queue : Int) (d : ByteArray) : Int := if 40 < d.size then 4 else if queue ≤ (many : Int) then 12 else 0
/-- What Send answers. -/
def sendK (many went : Nat) (t now last bag : Int) : Int := if ¬ (0 ≤ t ∧ t ≤ 1099511627776) then 2 else if t < now then 10 else if noneB many went t last bag = true then 8 else 0

/-- What becomes of a sender, and what goes. -/
def putAll (K : Int) (all : List ByteArray) (d : ByteArray) : List ByteArray := if K = 0 then all ++ [d] else all
def sendSeq (K : Int) (went : Nat) : Int := if K = 0 then ordN went else 0
def sendDat (K : Int) (all : List ByteArray) (went : Nat) : ByteArray := if K = 0 then all.getD went ByteArray.empty else ByteArray.empty
def sendWent (K : Int) (went : Nat) : Nat := if K = 0 then went + 1 else went
def sendLast (K t last : Int) : Int := if K = 0 then t else last
def sendNow (K t now : Int) : Int := if K = 0 ∨ K = 8 then t else now
end Go.Proofs.YtdmokcnoljlogaaGreatDoor

/- What a call on a node behind a pointer may turn: two blocks, and new memory; members as bits, and as a number (ahead of stage 6). -/
namespace Go.Proofs.YtdmokcnoljlogaaGreatDoor
open Go.RowKit

/-- Nothing but the blocks P and Q is turned; new memory may be made. -/
structure Turns (P Q : Nat) (w w' : World) : Prop where
  os : w'.os = w.os
  tape : w'.tape = w.tape
  output : w'.output = w.output
  size : w.heap.size ≤ w'.heap.size
  block : ∀ c, c < w.heap.size → c ≠ P → c ≠ Q → w'.heap[c]? = w.heap[c]?
theorem Turns.refl (P Q : Nat) (w : World) : Turns P Q w w := ⟨rfl, rfl, rfl, Nat.le_refl _, fun _ _ _ _ => rfl⟩
theorem Turns.trans {P Q : Nat} {a b c : World} (h : Turns P Q a b) (k : Turns P Q b c) : Turns P Q a c :=
  ⟨k.os.trans h.os, k.tape.trans h.tape, k.output.trans h.output, Nat.le_trans h.size k.size, fun i hi h1 h2 => (k.block i (Nat.lt_of_lt_of_le hi h.size) h1 h2).trans (h.block i hi h1 h2)⟩
theorem Turns.of_below {P Q : Nat} {w w' : World} (h : Below w.heap.size w w') : Turns P Q w w' := ⟨h.os, h.tape, h.output, h.size, fun c hc _ _ => h.block c hc⟩
theorem Turns.set {P Q : Nat} {a w : World} (h : Turns P Q a w) {p : Addr} (hp : p.block = P ∨ p.block = Q) (u : Value) : Turns P Q a (w.setCell p u) :=
  h.trans ⟨rfl, rfl, rfl, by simp [World.setCell], fun c _ h1 h2 => Below.heap_setCell _ _ _ _ (by rcases hp with e | e <;> rw [e] <;> omega)⟩
theorem Turns.below {P Q B : Nat} {w w' : World} (h : Turns P Q w w') (hB : B ≤ w.heap.size) (hP : B ≤ P) (hQ : B ≤ Q) : Below B w w' := ⟨h.os, h.tape, h.output, h.size, fun c hc => h.block c (by omega) (by omega) (by omega)⟩
theorem Turns.cell {P Q : Nat} {w w' : World} (h : Turns P Q w w') {p : Addr} (hp : p.block < w.heap.size) (h1 : p.block ≠ P) (h2 : p.block ≠ Q) : w'.cell? p = w.cell? p := World.cell?_of_block (w := w) (h.block p.block hp h1 h2)
theorem Turns.frozen {P Q : Nat} {w w' : World} (h : Turns P Q w w') {p : Addr} (hp : p.block < w.heap.size) (h1 : p.block ≠ P) (h2 : p.block ≠ Q) : w'.frozen? p = w.frozen? p := World.frozen?_of_block (w := w) (h.block p.block hp h1 h2)

/-- Members as a number. -/
def bitsV (t : Nat → Bool) : Nat → Int
  | 0 => 0
  | k + 1 => bitsV t k + (if t k = true then 2 ^ k else 0)
theorem pow_pos (k : Nat) : (0 : Int) < 2 ^ k := Int.pow_pos (by decide)
theorem bitsV_in (t : Nat → Bool) : ∀ k, 0 ≤ bitsV t k ∧ bitsV t k < 2 ^ k
  | 0 => ⟨Int.le_refl _, (by show (0 : Int) < 1; decide)⟩
  | k + 1 => by
    have h := bitsV_in t k
    have p := pow_pos k
    have e : (2 : Int) ^ (k + 1) = 2 ^ k * 2 := Int.pow_succ 2 k
    simp only [bitsV]
    split <;> omega
theorem pow_le {k n : Nat} (h : k ≤ n) : (2 : Int) ^ k ≤ 2 ^ n := by
  induction n with
  | zero => obtain rfl : k = 0 := by omega
            exact Int.le_refl _
  | succ n ih =>
    rcases Nat.lt_or_ge k (n + 1) with q | q
    · have := ih (by omega)
      have p := pow_pos n
      have e : (2 : Int) ^ (n + 1) = 2 ^ n * 2 := Int.pow_succ 2 n
      omega
    · obtain rfl : k = n + 1 := by omega
      exact Int.le_refl _
end Go.Proofs.YtdmokcnoljlogaaGreatDoor

/- What is set in a cell, and what is not; draws. -/
namespace Go.Proofs.YtdmokcnoljlogaaGreatDoor
open Go.RowKit

/-- Its struct's cell i is set. -/
theorem cell_set {w : World} {P i : Nat} {v u : Value} (h : w.cell? ⟨P, i, none⟩ = some u) : (w.setCell ⟨P, i, none⟩ v).cell? ⟨P, i, none⟩ = some v := World.cell?_setCell_same _ _ _ h
theorem cell_other {w : World} {P i Q j : Nat} {v : Value} (h : Q ≠ P ∨ j ≠ i) : (w.setCell ⟨P, i, none⟩ v).cell? ⟨Q, j, none⟩ = w.cell? ⟨Q, j, none⟩ := World.cell?_setCell_other _ _ _ _ (fun e => by
  rcases h with q | q
  · exact q (congrArg Addr.block e).symm
  · exact q (congrArg Addr.off e).symm)
theorem soft_set {w : World} {p q : Addr} {v : Value} : (w.setCell p v).frozen? q = w.frozen? q := by simp

theorem Turns.drawn {P Q : Nat} {w : World} (q : Nat) : Turns P Q w (w.drewN q) := ⟨rfl, rfl, rfl, Nat.le_refl _, fun _ _ _ _ => rfl⟩
end Go.Proofs.YtdmokcnoljlogaaGreatDoor

/- WHO HEARS ALIKE TAKES THE SAME, of plain states: what each node takes, how many it counts, who is frozen; slot by slot (ahead of stage 6). -/
namespace Go.Proofs.YtdmokcnoljlogaaGreatDoor

/-- Whether what a node tells is what another one takes, but for the teller's own bit, which it has. -/
def judB (n who : Nat) (m t : Nat → Bool) : Bool := m who && decide (∀ j, j < n → j ≠ who → m j = t j)
theorem judB_iff {n who : Nat} {m t : Nat → Bool} : judB n who m t = true ↔ m who = true ∧ ∀ j, j < n → j ≠ who → m j = t j := by
  unfold judB
  rw [Bool.and_eq_true, decide_eq_true_eq]

/-- All nodes: what each takes (bit by bit), counts good and bad, whether it is frozen; whether its last slot failed, whether one ever did; whether anything wrong was ever told. -/
structure Al where
  M : Nat → Nat → Bool
  G : Nat → Int
  B : Nat → Int
  F : Nat → Bool
  fl : Nat → Bool
  ev : Nat → Bool
  wr : Bool

/-- Whether the one whose slot it is sends. -/
def Al.ok (s : Al) (who : Nat) : Bool := !s.F who && decide (s.B who < s.G who)
/-- Whether a node hears what is sent as good, or as bad (what: 0 not heard, 1 wrong, else as it is). -/
def Al.good (s : Al) (n who what k : Nat) : Bool := s.ok who && decide (2 ≤ what) && judB n who (s.M who) (s.M k)
def Al.bad (s : Al) (n who what k : Nat) : Bool := s.ok who && decide (1 ≤ what) && !(s.good n who what k)

/-- A slot. -/
def Al.slot (s : Al) (n who what : Nat) : Al where
  M k j := if k = who ∨ s.F k = true then s.M k j else if j = who then s.good n who what k else s.M k j
  G k := if k = who then (if s.ok who = true then 1 else s.G k) else if s.F k = true then s.G k else if s.good n who what k = true then s.G k + 1 else s.G k
  B k := if k = who then (if s.ok who = true then 0 else s.B k) else if s.F k = true then s.B k else if s.bad n who what k = true then s.B k + 1 else s.B k
  F k := if k = who then !s.ok who else s.F k
  fl k := if k = who ∧ s.ok who = true then decide (what < 2) else s.fl k
  ev k := if k = who ∧ s.ok who = true then s.ev k || decide (what < 2) else s.ev k
  wr := s.wr || decide (what = 1)

/-- All that are not frozen, and whose last slot was heard, take the same (h); who failed is taken by none, and counts one good; who neither ever failed nor heard anything wrong counts no bad. -/
structure Al.Fine (s : Al) (n : Nat) (h : Nat → Bool) : Prop where
  same : ∀ k, k < n → s.F k = false → s.fl k = false → ∀ j, j < n → s.M k j = h j
  own : ∀ k, k < n → s.F k = false → s.M k k = true
  out : ∀ k, k < n → s.F k = false → s.fl k = true → h k = false ∧ s.G k = 1 ∧ (s.B k = 0 → ∀ j, j < n → j ≠ k → s.M k j = h j)
  once : ∀ k, k < n → s.F k = false → s.fl k = true → s.ev k = true
  pos : ∀ k, k < n → s.F k = false → 1 ≤ s.G k ∧ 0 ≤ s.B k
  clean : ∀ k, k < n → s.F k = false → s.ev k = false → s.wr = false → s.B k = 0
  froze : ∀ k, k < n → s.F k = true → s.ev k = true ∨ s.wr = true

def Al.start : Al := { M := fun _ _ => true, G := fun _ => 1, B := fun _ => 0, F := fun _ => false, fl := fun _ => false, ev := fun _ => false, wr := false }
theorem Al.start_fine (n : Nat) : Al.start.Fine n (fun _ => true) :=
  ⟨fun _ _ _ _ _ _ => rfl, fun _ _ _ => rfl, fun _ _ _ h => (by cases h), fun _ _ _ h => (by cases h), fun _ _ _ => ⟨Int.le_refl _, Int.le_refl _⟩, fun _ _ _ _ _ => rfl, fun _ _ h => (by cases h)⟩

/-- What the one whose slot it is takes, if it sends: what all right ones take, but for its own bit. -/
theorem Al.Fine.sent {s : Al} {n : Nat} {h : Nat → Bool} (f : s.Fine n h) {who : Nat} (hw : who < n) (ho : s.ok who = true) : s.F who = false ∧ s.M who who = true ∧ ∀ j, j < n → j ≠ who → s.M who j = h j := by
  unfold Al.ok at ho
  simp only [Bool.and_eq_true, Bool.not_eq_true', decide_eq_true_eq] at ho
  obtain ⟨h1, h2⟩ := ho
  refine ⟨h1, f.own who hw h1, fun j hj hne => ?_⟩
  cases e : s.fl who
  · exact f.same who hw h1 e j hj
  · obtain ⟨_, g2, g3⟩ := f.out who hw h1 e
    have := (f.pos who hw h1).2
    exact g3 (by omega) j hj hne
/-- A right one hears it as good, if it is heard as it is. -/
theorem Al.Fine.hears {s : Al} {n : Nat} {h : Nat → Bool} (f : s.Fine n h) {who k what : Nat} (hw : who < n) (ho : s.ok who = true) (hk : k < n) (hF : s.F k = false) (hfl : s.fl k = false) (h2 : 2 ≤ what) : s.good n who what k = true := by
  obtain ⟨_, g2, g3⟩ := f.sent hw ho
  unfold Al.good
  rw [ho, decide_eq_true h2]
  refine judB_iff.2 ⟨g2, fun j hj hne => ?_⟩
  rw [g3 j hj hne, f.same k hk hF hfl j hj]
/-- One that failed hears all that is sent as bad. -/
theorem Al.Fine.not_good {s : Al} {n : Nat} {h : Nat → Bool} (f : s.Fine n h) {who k what : Nat} (hw : who < n) (hne : k ≠ who) (hk : k < n) (hF : s.F k = false) (hfl : s.fl k = true) : s.good n who what k = false := by
  cases ho : s.ok who
  · unfold Al.good; rw [ho]; rfl
  · obtain ⟨_, _, g3⟩ := f.sent hw ho
    cases e : s.good n who what k
    · rfl
    · unfold Al.good at e
      simp only [Bool.and_eq_true] at e
      have := (judB_iff.1 e.2).2 k hk hne
      rw [g3 k hk hne, (f.out k hk hF hfl).1, f.own k hk hF] at this
      cases this

/-- WHO HEARS ALIKE TAKES THE SAME: slot by slot. -/
theorem Al.Fine.slot {s : Al} {n : Nat} {h : Nat → Bool} (f : s.Fine n h) {who what : Nat} (hw : who < n) : (s.slot n who what).Fine n (fun j => if j = who then s.ok who && decide (2 ≤ what) else h j) := by
  -- who is not frozen behind the slot has sent
  have hsent : (s.slot n who what).F who = false → s.ok who = true := fun e => by
    simp only [Al.slot, if_true] at e
    simpa using e
  have hold : ∀ k, k ≠ who → (s.slot n who what).F k = s.F k := fun k hk => by simp only [Al.slot, if_neg hk]
  have hfl : ∀ k, k ≠ who → (s.slot n who what).fl k = s.fl k := fun k hk => by simp only [Al.slot]; rw [if_neg (fun e => hk e.1)]
  have hev : ∀ k, k ≠ who → (s.slot n who what).ev k = s.ev k := fun k hk => by simp only [Al.slot]; rw [if_neg (fun e => hk e.1)]
  have hflw : s.ok who = true → (s.slot n who what).fl who = decide (what < 2) := fun ho => by simp only [Al.slot]; rw [if_pos ⟨trivial, ho⟩]
  have hMw : ∀ j, (s.slot n who what).M who j = s.M who j := fun j => by simp only [Al.slot, true_or, if_true]
  have hM : ∀ k j, k ≠ who → s.F k = false → (s.slot n who what).M k j = if j = who then s.good n who what k else s.M k j := fun k j hk hF => by
    simp only [Al.slot]; rw [if_neg (by simp [hk, hF])]
  refine ⟨fun k hk hF hf j hj => ?_, fun k hk hF => ?_, fun k hk hF hf => ?_, fun k hk hF hf => ?_, fun k hk hF => ?_, fun k hk hF he hwr => ?_, fun k hk hF => ?_⟩
  · by_cases e : k = who
    · subst e
      have ho := hsent hF
      have h2 : 2 ≤ what := by rw [hflw ho] at hf; have := of_decide_eq_false hf; omega
      obtain ⟨_, g2, g3⟩ := f.sent hw ho
      rw [hMw]
      by_cases ej : j = k
      · subst ej; simp only [if_true]; rw [g2, ho, decide_eq_true h2]; rfl
      · rw [if_neg ej]; exact g3 j hj ej
    · rw [hold k e] at hF
      rw [hfl k e] at hf
      rw [hM k j e hF]
      by_cases ej : j = who
      · rw [if_pos ej, if_pos ej]
        cases ho : s.ok who
        · unfold Al.good; rw [ho]; rfl
        · by_cases h2 : 2 ≤ what
          · rw [f.hears hw ho hk hF hf h2, decide_eq_true h2]; rfl
          · unfold Al.good; rw [ho, decide_eq_false h2]; rfl
      · rw [if_neg ej, if_neg ej]; exact f.same k hk hF hf j hj
  · by_cases e : k = who
    · subst e
      rw [hMw]; exact (f.sent hw (hsent hF)).2.1
    · rw [hold k e] at hF
      rw [hM k k e hF, if_neg e]; exact f.own k hk hF
  · by_cases e : k = who
    · subst e
      have ho := hsent hF
      have h2 : ¬ 2 ≤ what := by rw [hflw ho] at hf; have := of_decide_eq_true hf; omega
      refine ⟨?_, ?_, fun _ j hj hne => ?_⟩
      · simp only [if_true]; rw [decide_eq_false h2, Bool.and_false]
      · simp only [Al.slot, if_true]; rw [if_pos ho]
      · rw [hMw, if_neg hne]; exact (f.sent hw ho).2.2 j hj hne
    · rw [hold k e] at hF
      rw [hfl k e] at hf
      obtain ⟨g1, g2, g3⟩ := f.out k hk hF hf
      have hng : s.good n who what k = false := f.not_good hw e hk hF hf
      refine ⟨by rw [if_neg e]; exact g1, ?_, fun hb j hj hne => ?_⟩
      · simp only [Al.slot]; rw [if_neg e, if_neg (by simp [hF]), if_neg (by simp [hng])]; exact g2
      · simp only [Al.slot] at hb
        rw [if_neg e, if_neg (by simp [hF])] at hb
        have h0 := (f.pos k hk hF).2
        by_cases hbd : s.bad n who what k = true
        · rw [if_pos hbd] at hb; omega
        · rw [if_neg hbd] at hb
          rw [hM k j e hF]
          by_cases ej : j = who
          · rw [if_pos ej, if_pos ej, hng]
            unfold Al.bad at hbd
            rw [hng] at hbd
            cases ho : s.ok who
            · rfl
            · rw [ho] at hbd
              simp at hbd
              rw [decide_eq_false (by omega)]; rfl
          · rw [if_neg ej, if_neg ej]; exact g3 hb j hj hne
  · by_cases e : k = who
    · subst e
      have ho := hsent hF
      have h2 := hf
      rw [hflw ho] at h2
      simp only [Al.slot]
      rw [if_pos ⟨trivial, ho⟩, h2, Bool.or_true]
    · rw [hold k e] at hF
      rw [hfl k e] at hf
      rw [hev k e]; exact f.once k hk hF hf
  · by_cases e : k = who
    · subst e
      have ho := hsent hF
      simp only [Al.slot, if_true]
      rw [if_pos ho, if_pos ho]
      decide
    · rw [hold k e] at hF
      have := f.pos k hk hF
      simp only [Al.slot, if_neg e, hF, Bool.false_eq_true, if_false]
      constructor <;> split <;> omega
  · have hw2 : s.wr = false ∧ what ≠ 1 := by
      simp only [Al.slot, Bool.or_eq_false_iff, decide_eq_false_iff_not] at hwr
      exact hwr
    by_cases e : k = who
    · subst e
      simp only [Al.slot, if_true]
      rw [if_pos (hsent hF)]
    · rw [hold k e] at hF
      rw [hev k e] at he
      have hnf : s.fl k = false := by
        cases q : s.fl k
        · rfl
        · have := f.once k hk hF q
          rw [he] at this; cases this
      have hb : s.bad n who what k = false := by
        unfold Al.bad
        cases ho : s.ok who
        · rfl
        · by_cases h2 : 2 ≤ what
          · rw [f.hears hw ho hk hF hnf h2]; simp
          · rw [decide_eq_false (by omega)]; rfl
      simp only [Al.slot]
      rw [if_neg e, if_neg (by simp [hF]), if_neg (by simp [hb])]
      exact f.clean k hk hF he hw2.1
  · have hmono : s.wr = true → (s.slot n who what).wr = true := fun q => by simp only [Al.slot]; rw [q]; rfl
    by_cases e : k = who
    · subst e
      simp only [Al.slot, if_true] at hF
      have ho : s.ok k = false := by simpa using hF
      have hevk : (s.slot n k what).ev k = s.ev k := by simp only [Al.slot]; rw [if_neg (by simp [ho])]
      rw [hevk]
      cases q : s.F k
      · cases q2 : s.ev k
        · cases q3 : s.wr
          · have h0 := f.clean k hk q q2 q3
            have h1 := (f.pos k hk q).1
            unfold Al.ok at ho
            rw [q] at ho
            simp at ho
            omega
          · exact .inr (hmono q3)
        · exact .inl rfl
      · rcases f.froze k hk q with z | z
        · exact .inl z
        · exact .inr (hmono z)
    · rw [hold k e] at hF
      rw [hev k e]
      rcases f.froze k hk hF with z | z
      · exact .inl z
      · exact .inr (hmono z)
end Go.Proofs.YtdmokcnoljlogaaGreatDoor

/- Plain words on nodes: whether one sends, hears, what it judges; what becomes of it where something comes. -/
namespace Go.Proofs.YtdmokcnoljlogaaGreatDoor
open Go.RowKit

/-- Whether a node sends. -/
def sendsB (g b : Int) (fz : Bool) : Bool := !fz && decide (b < g)
/-- Whether something is heard. -/
def hearsB (id : Int) (n : Nat) (fz : Bool) (frm what : Int) : Bool := !fz && decide (0 ≤ frm ∧ frm < n ∧ frm ≠ id ∧ 0 ≤ what ∧ what ≤ 2)
/-- What it is to a node that some members are told: 1 good, 2 bad; 's' are the told members, bit by bit. -/
def judgeV (n : Nat) (t s : Nat → Bool) (frm m : Int) : Int := if (0 ≤ frm ∧ frm < n) ∧ 0 ≤ m ∧ m < 2 ^ n ∧ judB n frm.toNat s t = true then 1 else 2

/-- What becomes of what is taken, counted good, counted bad, where something comes. -/
def heT (id : Int) (n : Nat) (fz : Bool) (frm what : Int) (t : Nat → Bool) : Nat → Bool := fun j => if hearsB id n fz frm what = true ∧ (j : Int) = frm then decide (what = 1) else t j
def heG (id : Int) (n : Nat) (fz : Bool) (frm what g : Int) : Int := if hearsB id n fz frm what = true ∧ what = 1 then g + 1 else g
def heB (id : Int) (n : Nat) (fz : Bool) (frm what b : Int) : Int := if hearsB id n fz frm what = true ∧ what = 2 then b + 1 else b

theorem hears_parts {id : Int} {n : Nat} {fz : Bool} {frm what : Int} (h : hearsB id n fz frm what = true) : fz = false ∧ ∃ k : Nat, frm = (k : Int) ∧ k < n ∧ (k : Int) ≠ id ∧ 0 ≤ what ∧ what ≤ 2 := by
  unfold hearsB at h
  simp only [Bool.and_eq_true, Bool.not_eq_true', decide_eq_true_eq] at h
  obtain ⟨h1, h2, h3, h4, h5, h6⟩ := h
  exact ⟨h1, frm.toNat, by omega, by omega, by omega, h5, h6⟩
theorem heT_acts {id : Int} {n : Nat} {fz : Bool} {k : Nat} {what : Int} (t : Nat → Bool) (h : hearsB id n fz k what = true) : heT id n fz k what t = fun j => if j = k then decide (what = 1) else t j := by
  funext j
  unfold heT
  by_cases e : j = k
  · rw [if_pos ⟨h, by omega⟩, if_pos e]
  · rw [if_neg (fun y => e (by omega)), if_neg e]
theorem heT_not {id : Int} {n : Nat} {fz : Bool} {frm what : Int} (t : Nat → Bool) (h : hearsB id n fz frm what = false) : heT id n fz frm what t = t := by
  funext j
  unfold heT
  rw [if_neg (fun y => by rw [h] at y; cases y.1)]

end Go.Proofs.YtdmokcnoljlogaaGreatDoor

/- A cluster in plain words (ahead of stage 9): what a slot does to nodes, links, and what comes where (10.3). -/
namespace Go.Proofs.YtdmokcnoljlogaaGreatDoor

/-- A node; a link's sender; a cluster. -/
structure NodeS where
  t : Nat → Bool
  g : Int
  b : Int
  fz : Bool
structure SendS where
  all : List ByteArray
  went : Nat
  last : Int
  now : Int
structure ClS where
  nodes : Nat → NodeS
  links : Nat → SendS
  newest : Nat → Nat → Int
  ports : Nat → Nat → List ByteArray
/-- What of a plan is played: nodes, how long a round is; slots by node and From; links by From, To, Bag, Queue. -/
structure PlanS where
  n : Nat
  round : Int
  ns : Nat
  nd : Nat → Nat
  fr : Nat → Int
  nl : Nat
  lf : Nat → Nat
  lt : Nat → Nat → Bool
  lb : Nat → Int
/-- What happens in a round beside: which nodes lie, and how; what is lost, by slot, channel and node. -/
structure HapS where
  lies : Nat → Bool
  mode : Nat → Int
  lost : Nat → Nat → Nat → Bool

/-- A link that is asked whether it sends. -/
def SendS.asked (s : SendS) (t bag : Int) : SendS :=
  { all := s.all, went := sendWent (sendK s.all.length s.went t s.now s.last bag) s.went, last := sendLast (sendK s.all.length s.went t s.now s.last bag) t s.last, now := sendNow (sendK s.all.length s.went t s.now s.last bag) t s.now }
/-- All links of a node, one by one, till one sends: what becomes of them, and which one (its number, what goes). -/
def linksTo (p : PlanS) (who : Nat) (t : Int) (L : Nat → SendS) : Nat → (Nat → SendS) × Option (Nat × Int × ByteArray)
  | 0 => (L, none)
  | k + 1 =>
    let r := linksTo p who t L k
    if r.2.isSome = true ∨ p.lf k ≠ who then r
    else (fun j => if j = k then (r.1 k).asked t (p.lb k) else r.1 j,
      if sendK (r.1 k).all.length (r.1 k).went t (r.1 k).now (r.1 k).last (p.lb k) = 0 then some (k, ordN (r.1 k).went, (r.1 k).all.getD (r.1 k).went ByteArray.empty) else none)

def HapS.modeOf (h : HapS) (who : Nat) : Int := if h.lies who = true then h.mode who else 0
/-- Whether a node sends; what it tells. -/
def ClS.sends (s : ClS) (h : HapS) (who : Nat) : Bool := sendsB (s.nodes who).g (s.nodes who).b (s.nodes who).fz && decide (h.modeOf who ≠ 1)
def ClS.tells (s : ClS) (p : PlanS) (h : HapS) (who : Nat) : Nat → Bool := fun j => if h.modeOf who = 2 ∧ (j = who ∨ j = (who + 1) % p.n) then !(s.nodes who).t j else (s.nodes who).t j
/-- Whether it comes to a node, by one channel or both. -/
def ClS.comes (s : ClS) (h : HapS) (i who to_ : Nat) : Bool := s.sends h who && (!h.lost i 0 to_ || !h.lost i 1 to_)
/-- What that node hears. -/
def ClS.what (s : ClS) (p : PlanS) (h : HapS) (i who to_ : Nat) : Int := if s.comes h i who to_ = true then (if judB p.n who (s.tells p h who) (s.nodes to_).t = true then 1 else 2) else 0
/-- What a node's own slot does to it; what it hears. -/
def NodeS.sent (N : NodeS) : NodeS := { t := N.t, g := if sendsB N.g N.b N.fz = true then 1 else N.g, b := if sendsB N.g N.b N.fz = true then 0 else N.b, fz := !sendsB N.g N.b N.fz }
def NodeS.hears (N : NodeS) (id n frm : Nat) (what : Int) : NodeS := { t := heT id n N.fz frm what N.t, g := heG id n N.fz frm what N.g, b := heB id n N.fz frm what N.b, fz := N.fz }
/-- What goes in a slot: of which link, and what becomes of all. -/
def ClS.goes (s : ClS) (p : PlanS) (h : HapS) (rounds : Int) (i : Nat) : (Nat → SendS) × Option (Nat × Int × ByteArray) :=
  if s.sends h (p.nd i) = true then linksTo p (p.nd i) (rounds * p.round + p.fr i) s.links p.nl else (s.links, none)
/-- Whether a node takes what goes. -/
def ClS.takes (s : ClS) (p : PlanS) (h : HapS) (i : Nat) (m : Option (Nat × Int × ByteArray)) (k to_ : Nat) : Bool :=
  match m with
  | none => false
  | some (j, q, _) => decide (j = k) && (p.lt k to_ && (s.comes h i (p.nd i) to_ && (decide (to_ < p.n ∧ to_ ≠ p.nd i) && takeB (s.newest k to_) q)))
def msgSeq (m : Option (Nat × Int × ByteArray)) : Int := match m with | none => 0 | some (_, q, _) => q
def msgDat (m : Option (Nat × Int × ByteArray)) : ByteArray := match m with | none => ByteArray.empty | some (_, _, d) => d
/-- A slot. -/
def ClS.slot (s : ClS) (p : PlanS) (h : HapS) (rounds : Int) (i : Nat) : ClS where
  nodes := fun j => if j = p.nd i then (s.nodes j).sent else (s.nodes j).hears j p.n (p.nd i) (s.what p h i (p.nd i) j)
  links := (s.goes p h rounds i).1
  newest := fun k j => if s.takes p h i (s.goes p h rounds i).2 k j = true then msgSeq (s.goes p h rounds i).2 else s.newest k j
  ports := fun k j => if s.takes p h i (s.goes p h rounds i).2 k j = true ∧ (s.ports k j).length < 16 then s.ports k j ++ [msgDat (s.goes p h rounds i).2] else s.ports k j
/-- All slots of a round, one by one. -/
def ClS.slots (s : ClS) (p : PlanS) (h : HapS) (rounds : Int) : Nat → ClS
  | 0 => s
  | i + 1 => (s.slots p h rounds i).slot p h rounds i

/-- Only a link of that node goes; others' links are as they were. -/
theorem linksTo_own {p : PlanS} {who : Nat} {t : Int} {L : Nat → SendS} : ∀ n, (∀ k q d, (linksTo p who t L n).2 = some (k, q, d) → k < n ∧ p.lf k = who) ∧ ∀ j, p.lf j ≠ who → (linksTo p who t L n).1 j = L j := by
  intro n
  induction n with
  | zero => exact ⟨fun k q d h => (by cases h), fun j _ => rfl⟩
  | succ n ih =>
    show (∀ k q d, (if (linksTo p who t L n).2.isSome = true ∨ p.lf n ≠ who then linksTo p who t L n else _).2 = some (k, q, d) → _) ∧ ∀ j, p.lf j ≠ who → (if (linksTo p who t L n).2.isSome = true ∨ p.lf n ≠ who then linksTo p who t L n else _).1 j = L j
    by_cases hc : (linksTo p who t L n).2.isSome = true ∨ p.lf n ≠ who
    · rw [if_pos hc]
      exact ⟨fun k q d h => ⟨Nat.lt_succ_of_lt (ih.1 k q d h).1, (ih.1 k q d h).2⟩, ih.2⟩
    · rw [if_neg hc]
      have hw : p.lf n = who := by
        by_cases e : p.lf n = who
        · exact e
        · exact absurd (.inr e) hc
      refine ⟨fun k q d h => ?_, fun j hj => ?_⟩
      · by_cases e : sendK ((linksTo p who t L n).1 n).all.length ((linksTo p who t L n).1 n).went t ((linksTo p who t L n).1 n).now ((linksTo p who t L n).1 n).last (p.lb n) = 0
        · simp only [if_pos e] at h
          injection h with h
          injection h with h
          exact ⟨by omega, by rw [← h]; exact hw⟩
        · simp only [if_neg e] at h
          cases h
      · have : j ≠ n := fun e => hj (e ▸ hw)
        show (if j = n then _ else (linksTo p who t L n).1 j) = L j
        rw [if_neg this]
        exact ih.2 j hj
/-- What goes of a node hangs on its own links alone. -/
theorem linksTo_same {p : PlanS} {who : Nat} {t : Int} {L L' : Nat → SendS} (hL : ∀ j, p.lf j = who → L j = L' j) : ∀ n, (linksTo p who t L n).2 = (linksTo p who t L' n).2 ∧ ∀ j, p.lf j = who → (linksTo p who t L n).1 j = (linksTo p who t L' n).1 j := by
  intro n
  induction n with
  | zero => exact ⟨rfl, hL⟩
  | succ n ih =>
    show (if (linksTo p who t L n).2.isSome = true ∨ p.lf n ≠ who then linksTo p who t L n else _).2 = (if (linksTo p who t L' n).2.isSome = true ∨ p.lf n ≠ who then linksTo p who t L' n else _).2 ∧ ∀ j, p.lf j = who → (if (linksTo p who t L n).2.isSome = true ∨ p.lf n ≠ who then linksTo p who t L n else _).1 j = (if (linksTo p who t L' n).2.isSome = true ∨ p.lf n ≠ who then linksTo p who t L' n else _).1 j
    rw [← ih.1]
    by_cases hc : (linksTo p who t L n).2.isSome = true ∨ p.lf n ≠ who
    · rw [if_pos hc, if_pos hc]
      exact ih
    · rw [if_neg hc, if_neg hc]
      have hw : p.lf n = who := by
        by_cases e : p.lf n = who
        · exact e
        · exact absurd (.inr e) hc
      have e := ih.2 n hw
      simp only [e]
      refine ⟨trivial, fun j hj => ?_⟩
      by_cases q : j = n
      · rw [if_pos q, if_pos q]
      · rw [if_neg q, if_neg q]
        exact ih.2 j hj
end Go.Proofs.YtdmokcnoljlogaaGreatDoor

/- A round of a cluster in plain words (ahead of stage 9): what is read, what clocks show then, and that they stay together (10.2, 10.4). -/
namespace Go.Proofs.YtdmokcnoljlogaaGreatDoor

/-- A number, cut within so much. -/
def cutV (x most : Int) : Int := max (-most) (min most x)
theorem cutV_in {x most : Int} (h : 0 ≤ most) : -most ≤ cutV x most ∧ cutV x most ≤ most := by
  unfold cutV
  omega
/-- A reading: who reads, whose, how much. -/
structure ReadS where
  who : Int
  of_ : Int
  is_ : Int
/-- What a reading changes. -/
def readOne (n : Nat) (lies : Nat → Bool) (jitter : Int) (now : Nat → Int) (x : ReadS) (row : Nat → Nat → Int) : Nat → Nat → Int := fun i k =>
  if (0 ≤ x.who ∧ x.who < n) ∧ (0 ≤ x.of_ ∧ x.of_ < n) ∧ x.who ≠ x.of_ ∧ (i : Int) = x.who ∧ (k : Int) = x.of_ then
    (if lies k = true then cutV x.is_ 549755813888 else now k - now i + cutV x.is_ jitter)
  else row i k
/-- What all read of all. -/
def readAll (n : Nat) (lies : Nat → Bool) (jitter : Int) (now : Nat → Int) (l : List ReadS) : Nat → Nat → Int := l.foldl (fun row x => readOne n lies jitter now x row) (fun i k => now k - now i)
/-- Of clocks that are right nobody reads further than Jitter from what is so; of all others within bounds. -/
theorem readAll_right {n : Nat} {lies : Nat → Bool} {jitter : Int} {now : Nat → Int} (hj : 0 ≤ jitter) (l : List ReadS) : ∀ i k, lies k = false → now k - now i - jitter ≤ readAll n lies jitter now l i k ∧ readAll n lies jitter now l i k ≤ now k - now i + jitter := by
  have key : ∀ (l : List ReadS) (row : Nat → Nat → Int), (∀ i k, lies k = false → now k - now i - jitter ≤ row i k ∧ row i k ≤ now k - now i + jitter) → ∀ i k, lies k = false → now k - now i - jitter ≤ l.foldl (fun row x => readOne n lies jitter now x row) row i k ∧ l.foldl (fun row x => readOne n lies jitter now x row) row i k ≤ now k - now i + jitter := by
    intro l
    induction l with
    | nil => intro row h; exact h
    | cons x l ih =>
      intro row h
      refine ih _ fun i k hk => ?_
      have e : readOne n lies jitter now x row i k = (if (0 ≤ x.who ∧ x.who < n) ∧ (0 ≤ x.of_ ∧ x.of_ < n) ∧ x.who ≠ x.of_ ∧ (i : Int) = x.who ∧ (k : Int) = x.of_ then (if lies k = true then cutV x.is_ 549755813888 else now k - now i + cutV x.is_ jitter) else row i k) := rfl
      show now k - now i - jitter ≤ readOne n lies jitter now x row i k ∧ readOne n lies jitter now x row i k ≤ now k - now i + jitter
      rw [e]
      split
      · have hc := cutV_in (x := x.is_) hj
        rw [if_neg (by rw [hk]; decide)]
        generalize cutV x.is_ jitter = cv at *
        exact ⟨by omega, by omega⟩
      · exact h i k hk
  refine key l _ fun i k _ => ?_
  show now k - now i - jitter ≤ now k - now i ∧ now k - now i ≤ now k - now i + jitter
  omega
/-- A clock's drift. -/
def driftV (drifts : List Int) (drift : Int) (i : Nat) : Int := if i < drifts.length then cutV (drifts.getD i 0) drift else 0
theorem driftV_in {drifts : List Int} {drift : Int} (h : 0 ≤ drift) (i : Nat) : -drift ≤ driftV drifts drift i ∧ driftV drifts drift i ≤ drift := by
  unfold driftV
  split
  · exact cutV_in h
  · omega
/-- What clocks show behind a round. -/
def clocksTo (n f : Nat) (lies : Nat → Bool) (jitter drift : Int) (now : Nat → Int) (l : List ReadS) (drifts : List Int) : Nat → Int := fun i => setOn n f now (readAll n lies jitter now l) i + driftV drifts drift i
/-- Whether a clock would be beyond what may be. -/
def beyondB (n : Nat) (c : Nat → Int) : Bool := (List.range n).any fun i => decide (c i < -274877906944 ∨ 274877906944 < c i)

/-- Those that do not lie are no further apart than so much. -/
def Near1 (n : Nat) (lies : Nat → Bool) (skew : Int) (c : Nat → Int) : Prop := ∀ i j, i < n → lies i = false → j < n → lies j = false → c i - c j ≤ skew
/-- CLOCKS STAY TOGETHER. -/
theorem Near1.round {n f : Nat} {lies : Nat → Bool} {skew jitter drift : Int} {now : Nat → Int} (h : Near1 n lies skew now) (l : List ReadS) (drifts : List Int) (hl : (List.range n).countP lies ≤ f) (h3 : 3 * f + 1 ≤ n) (hj : 0 ≤ jitter) (hd : 0 ≤ drift) (hS : skew / 2 + 2 * jitter + 1 + 2 * drift ≤ skew) : Near1 n lies skew (clocksTo n f lies jitter drift now l drifts) := by
  intro i j hi oi hj' oj
  refine skew_round (ok := fun k => !lies k) (u := jitter) (D := drift) (row := readAll n lies jitter now l) (count_ok lies n f hl) h3 hS (fun a b _ _ _ hb => ?_) (fun a b ha oa hb ob => ?_) (fun a _ => driftV_in hd a) i j hi ?_ hj' ?_
  · exact readAll_right hj l a b (by simpa using hb)
  · exact h a b ha (by simpa using oa) hb (by simpa using ob)
  · simp [oi]
  · simp [oj]
end Go.Proofs.YtdmokcnoljlogaaGreatDoor

/- MESSAGES KEEP THEIR ORDER, of plain states (ahead of stage 9): what lies in a node's port of a link is some of what went, in order, none twice, all behind what was received. -/
namespace Go.Proofs.YtdmokcnoljlogaaGreatDoor

/-- What links do in a slot: a link's places go on by one, and its message goes; or nothing of it goes. -/
def LinkStep (a b : SendS) (k : Nat) (m : Option (Nat × Int × ByteArray)) : Prop :=
  (b.all = a.all ∧ b.went = a.went ∧ ∀ q d, m ≠ some (k, q, d)) ∨ (b.all = a.all ∧ b.went = a.went + 1 ∧ a.went < a.all.length ∧ m = some (k, ordN a.went, a.all.getD a.went ByteArray.empty))
theorem sendK_zero {many went : Nat} {t now last bag : Int} (h : sendK many went t now last bag = 0) : went ≠ many := by
  unfold sendK at h
  split at h
  · cases h
  · split at h
    · cases h
    · split at h
      · cases h
      · next q =>
        intro e
        apply q
        unfold noneB
        rw [decide_eq_true e, Bool.true_or]
theorem linksTo_step {p : PlanS} {who : Nat} {t : Int} {L : Nat → SendS} (hL : ∀ k, (L k).went ≤ (L k).all.length) : ∀ n k, LinkStep (L k) ((linksTo p who t L n).1 k) k (linksTo p who t L n).2 := by
  intro n
  induction n with
  | zero => intro k; exact .inl ⟨rfl, rfl, fun q d h => by cases h⟩
  | succ n ih =>
    intro k
    show LinkStep (L k) ((if (linksTo p who t L n).2.isSome = true ∨ p.lf n ≠ who then linksTo p who t L n else _).1 k) k (if (linksTo p who t L n).2.isSome = true ∨ p.lf n ≠ who then linksTo p who t L n else _).2
    by_cases hc : (linksTo p who t L n).2.isSome = true ∨ p.lf n ≠ who
    · rw [if_pos hc]
      exact ih k
    · rw [if_neg hc]
      have hno : (linksTo p who t L n).2 = none := by
        cases e : (linksTo p who t L n).2 with
        | none => rfl
        | some m => exact absurd (.inl (by rw [e]; rfl)) hc
      have hk := ih k
      have hn := ih n
      rw [hno] at hk hn
      have old : ∀ j, LinkStep (L j) ((linksTo p who t L n).1 j) j none → ((linksTo p who t L n).1 j).all = (L j).all ∧ ((linksTo p who t L n).1 j).went = (L j).went := fun j hj => by
        rcases hj with ⟨h1, h2, _⟩ | ⟨_, _, _, h4⟩
        · exact ⟨h1, h2⟩
        · cases h4
      have ok := old k hk
      have on := old n hn
      by_cases e : k = n
      · subst e
        simp only [if_true]
        by_cases h0 : sendK ((linksTo p who t L k).1 k).all.length ((linksTo p who t L k).1 k).went t ((linksTo p who t L k).1 k).now ((linksTo p who t L k).1 k).last (p.lb k) = 0
        · have hne := sendK_zero h0
          rw [if_pos h0]
          refine .inr ⟨?_, ?_, ?_, ?_⟩
          · exact ok.1
          · show sendWent _ _ = _
            rw [h0]
            show ((linksTo p who t L k).1 k).went + 1 = _
            rw [ok.2]
          · rw [ok.1, ok.2] at hne
            have := hL k
            omega
          · rw [ok.1, ok.2]
        · rw [if_neg h0]
          refine .inl ⟨?_, ?_, fun q d h => by cases h⟩
          · exact ok.1
          · show sendWent _ _ = _
            unfold sendWent
            rw [if_neg h0]
            exact ok.2
      · refine .inl ⟨?_, ?_, fun q d h => ?_⟩
        · show (if k = n then _ else (linksTo p who t L n).1 k).all = _
          rw [if_neg e]
          exact ok.1
        · show (if k = n then _ else (linksTo p who t L n).1 k).went = _
          rw [if_neg e]
          exact ok.2
        · by_cases h0 : sendK ((linksTo p who t L n).1 n).all.length ((linksTo p who t L n).1 n).went t ((linksTo p who t L n).1 n).now ((linksTo p who t L n).1 n).last (p.lb n) = 0
          · simp only [if_pos h0] at h
            injection h with h
            injection h with h
            omega
          · simp only [if_neg h0] at h
            cases h

/-- A port: places of what lies there, in order, from lo on; the newest number is the greatest place that was told. -/
def OrdK (S : SendS) (nw : Int) (port : List ByteArray) (lo : Nat) : Prop :=
  S.went ≤ S.all.length ∧ ∃ ps : List Nat, ps.Pairwise (· < ·) ∧ (∀ x ∈ ps, lo ≤ x ∧ x < S.went) ∧ port = ps.map (fun x => S.all.getD x ByteArray.empty) ∧ ((nw = -1 ∧ ps = [] ∧ lo = 0) ∨ ∃ m, m < S.went ∧ nw = ordN m ∧ lo ≤ m + 1 ∧ ∀ x ∈ ps, x ≤ m)
theorem OrdK.start (S : SendS) (h : S.went ≤ S.all.length) : OrdK S (-1) [] 0 := ⟨h, [], List.Pairwise.nil, fun x hx => (by cases hx), rfl, .inl ⟨rfl, rfl, rfl⟩⟩
/-- Nothing of it comes. -/
theorem OrdK.not {S S' : SendS} {nw : Int} {port : List ByteArray} {lo : Nat} (h : OrdK S nw port lo) (ha : S'.all = S.all) (hw : S.went ≤ S'.went) (hl : S'.went ≤ S'.all.length) : OrdK S' nw port lo := by
  obtain ⟨_, ps, h1, h2, h3, h4⟩ := h
  refine ⟨hl, ps, h1, fun x hx => ⟨(h2 x hx).1, Nat.lt_of_lt_of_le (h2 x hx).2 hw⟩, by rw [ha]; exact h3, ?_⟩
  rcases h4 with h4 | ⟨m, g1, g2, g3, g4⟩
  · exact .inl h4
  · exact .inr ⟨m, Nat.lt_of_lt_of_le g1 hw, g2, g3, g4⟩
/-- It is told; there is room for it, or none. -/
theorem OrdK.told {S S' : SendS} {nw : Int} {port : List ByteArray} {lo : Nat} (h : OrdK S nw port lo) (ha : S'.all = S.all) (hw : S'.went = S.went + 1) (hl : S'.went ≤ S'.all.length) : OrdK S' (ordN S.went) (port ++ [S.all.getD S.went ByteArray.empty]) lo ∧ OrdK S' (ordN S.went) port lo := by
  obtain ⟨_, ps, h1, h2, h3, h4⟩ := h
  have hlo : lo ≤ S.went := by
    rcases h4 with ⟨_, _, h⟩ | ⟨m, g1, _, g3, _⟩ <;> omega
  refine ⟨⟨hl, ps ++ [S.went], ?_, fun x hx => ?_, ?_, .inr ⟨S.went, by omega, rfl, by omega, fun x hx => ?_⟩⟩, ⟨hl, ps, h1, fun x hx => ⟨(h2 x hx).1, by have := (h2 x hx).2; omega⟩, by rw [ha]; exact h3, .inr ⟨S.went, by omega, rfl, by omega, fun x hx => Nat.le_of_lt (h2 x hx).2⟩⟩⟩
  · rw [List.pairwise_append]
    refine ⟨h1, List.pairwise_singleton _ _, fun x hx y hy => ?_⟩
    rw [List.mem_singleton.1 hy]
    exact (h2 x hx).2
  · rcases List.mem_append.1 hx with q | q
    · exact ⟨(h2 x q).1, by have := (h2 x q).2; omega⟩
    · rw [List.mem_singleton.1 q]; exact ⟨hlo, by omega⟩
  · rw [List.map_append, ha, h3]; rfl
  · rcases List.mem_append.1 hx with q | q
    · exact Nat.le_of_lt (h2 x q).2
    · rw [List.mem_singleton.1 q]; exact Nat.le_refl _
/-- One more is put. -/
theorem OrdK.put {S S' : SendS} {nw : Int} {port : List ByteArray} {lo : Nat} {d : ByteArray} (h : OrdK S nw port lo) (ha : S'.all = S.all ++ [d]) (hw : S'.went = S.went) : OrdK S' nw port lo := by
  obtain ⟨h0, ps, h1, h2, h3, h4⟩ := h
  refine ⟨by rw [ha, hw]; simp; omega, ps, h1, fun x hx => by rw [hw]; exact h2 x hx, ?_, by rw [hw]; exact h4⟩
  rw [h3, ha]
  apply List.map_congr_left
  intro x hx
  have := (h2 x hx).2
  simp [List.getD, List.getElem?_append_left (show x < S.all.length by omega)]
/-- The eldest one is received: its place is not below lo, and below what went. -/
theorem OrdK.receive {S : SendS} {nw : Int} {d : ByteArray} {port : List ByteArray} {lo : Nat} (h : OrdK S nw (d :: port) lo) : ∃ x, lo ≤ x ∧ x < S.all.length ∧ d = S.all.getD x ByteArray.empty ∧ OrdK S nw port (x + 1) := by
  obtain ⟨h0, ps, h1, h2, h3, h4⟩ := h
  cases ps with
  | nil => cases h3
  | cons x ps =>
    rw [List.map_cons] at h3
    injection h3 with e1 e2
    have hx := h2 x (List.mem_cons.2 (.inl rfl))
    have hp := List.pairwise_cons.1 h1
    refine ⟨x, hx.1, by omega, e1, h0, ps, hp.2, fun y hy => ⟨hp.1 y hy, (h2 y (List.mem_cons.2 (.inr hy))).2⟩, e2, ?_⟩
    rcases h4 with ⟨_, h, _⟩ | ⟨m, g1, g2, _, g4⟩
    · cases h
    · exact .inr ⟨m, g1, g2, by have := g4 x (List.mem_cons.2 (.inl rfl)); omega, fun y hy => g4 y (List.mem_cons.2 (.inr hy))⟩

/-- A slot keeps the order, of all links at all nodes. -/
theorem ClS.ord_slot {s : ClS} {p : PlanS} {lo : Nat → Nat → Nat} (hs : ∀ k j, OrdK (s.links k) (s.newest k j) (s.ports k j) (lo k j)) (h : HapS) (rounds : Int) (i : Nat) : ∀ k j, OrdK ((s.slot p h rounds i).links k) ((s.slot p h rounds i).newest k j) ((s.slot p h rounds i).ports k j) (lo k j) := by
  intro k j
  have hL : ∀ k, (s.links k).went ≤ (s.links k).all.length := fun k => (hs k 0).1
  have hg : LinkStep (s.links k) ((s.goes p h rounds i).1 k) k (s.goes p h rounds i).2 := by
    unfold ClS.goes
    split
    · exact linksTo_step hL p.nl k
    · exact .inl ⟨rfl, rfl, fun q d e => by cases e⟩
  show OrdK ((s.goes p h rounds i).1 k) (if s.takes p h i (s.goes p h rounds i).2 k j = true then msgSeq (s.goes p h rounds i).2 else s.newest k j) (if s.takes p h i (s.goes p h rounds i).2 k j = true ∧ (s.ports k j).length < 16 then s.ports k j ++ [msgDat (s.goes p h rounds i).2] else s.ports k j) (lo k j)
  rcases hg with ⟨g1, g2, g3⟩ | ⟨g1, g2, g3, g4⟩
  · have hn : s.takes p h i (s.goes p h rounds i).2 k j = false := by
      unfold ClS.takes
      cases e : (s.goes p h rounds i).2 with
      | none => rfl
      | some m =>
        obtain ⟨x, y, z⟩ := m
        have : x ≠ k := fun q => g3 y z (by rw [e, q])
        show (decide (x = k) && _) = false
        rw [decide_eq_false this, Bool.false_and]
    rw [hn]
    simp only [Bool.false_eq_true, if_false, false_and]
    exact (hs k j).not g1 (by omega) (by rw [g1, g2]; exact hL k)
  · by_cases ht : s.takes p h i (s.goes p h rounds i).2 k j = true
    · rw [if_pos ht, g4]
      have := (hs k j).told g1 g2 (by rw [g1, g2]; omega)
      split
      · exact this.1
      · exact this.2
    · rw [if_neg ht, if_neg (fun q => ht q.1)]
      exact (hs k j).not g1 (by omega) (by rw [g1, g2]; omega)
theorem ClS.ord_slots {s : ClS} {p : PlanS} {lo : Nat → Nat → Nat} (hs : ∀ k j, OrdK (s.links k) (s.newest k j) (s.ports k j) (lo k j)) (h : HapS) (rounds : Int) : ∀ i k j, OrdK ((s.slots p h rounds i).links k) ((s.slots p h rounds i).newest k j) ((s.slots p h rounds i).ports k j) (lo k j)
  | 0 => hs
  | i + 1 => ClS.ord_slot (ClS.ord_slots hs h rounds i) h rounds i
end Go.Proofs.YtdmokcnoljlogaaGreatDoor

/- ANOTHER ONE'S DOES NOT MATTER, of plain states (ahead of stage 9): two clusters that are alike in all nodes, and in one node's links and what came by these, are so behind a slot, whatever other nodes' links hold. -/
namespace Go.Proofs.YtdmokcnoljlogaaGreatDoor

/-- Alike in all nodes, and in the links of one. -/
structure Alike1 (p : PlanS) (who : Nat) (s s' : ClS) : Prop where
  n : s.nodes = s'.nodes
  l : ∀ k, p.lf k = who → s.links k = s'.links k
  w : ∀ k, p.lf k = who → s.newest k = s'.newest k
  q : ∀ k, p.lf k = who → s.ports k = s'.ports k
theorem Alike1.slot {p : PlanS} {who : Nat} {s s' : ClS} (a : Alike1 p who s s') (h : HapS) (rounds : Int) (i : Nat) : Alike1 p who (s.slot p h rounds i) (s'.slot p h rounds i) := by
  have eS : ∀ j, s.sends h j = s'.sends h j := fun j => by unfold ClS.sends; rw [a.n]
  have eC : ∀ j, s.comes h i (p.nd i) j = s'.comes h i (p.nd i) j := fun j => by unfold ClS.comes; rw [eS]
  have eT : s.tells p h (p.nd i) = s'.tells p h (p.nd i) := by unfold ClS.tells; rw [a.n]
  have eW : ∀ j, s.what p h i (p.nd i) j = s'.what p h i (p.nd i) j := fun j => by unfold ClS.what; rw [eC, eT, a.n]
  have hN : (s.slot p h rounds i).nodes = (s'.slot p h rounds i).nodes := by
    funext j
    show (if j = p.nd i then (s.nodes j).sent else (s.nodes j).hears j p.n (p.nd i) (s.what p h i (p.nd i) j)) = (if j = p.nd i then (s'.nodes j).sent else (s'.nodes j).hears j p.n (p.nd i) (s'.what p h i (p.nd i) j))
    rw [eW, a.n]
  by_cases hw : p.nd i = who
  · have eG : (s.goes p h rounds i).2 = (s'.goes p h rounds i).2 ∧ ∀ k, p.lf k = who → (s.goes p h rounds i).1 k = (s'.goes p h rounds i).1 k := by
      unfold ClS.goes
      rw [eS]
      split
      · have := linksTo_same (p := p) (who := p.nd i) (t := rounds * p.round + p.fr i) (L := s.links) (L' := s'.links) (fun j hj => a.l j (hj.trans hw)) p.nl
        exact ⟨this.1, fun k hk => this.2 k (hk.trans hw.symm)⟩
      · exact ⟨rfl, a.l⟩
    have eK : ∀ k j, p.lf k = who → s.takes p h i (s.goes p h rounds i).2 k j = s'.takes p h i (s'.goes p h rounds i).2 k j := fun k j hk => by
      rw [eG.1]
      unfold ClS.takes
      cases (s'.goes p h rounds i).2 with
      | none => rfl
      | some m => obtain ⟨x, y, z⟩ := m; simp only [eC, a.w k hk]
    refine ⟨hN, eG.2, fun k hk => ?_, fun k hk => ?_⟩
    · funext j
      show (if _ then _ else _) = (if _ then _ else _)
      rw [eK k j hk, eG.1, a.w k hk]
    · funext j
      show (if _ then _ else _) = (if _ then _ else _)
      rw [eK k j hk, eG.1, a.q k hk]
  · have eO : ∀ s : ClS, (∀ k q d, (s.goes p h rounds i).2 = some (k, q, d) → p.lf k = p.nd i) ∧ ∀ k, p.lf k = who → (s.goes p h rounds i).1 k = s.links k := fun s => by
      unfold ClS.goes
      split
      · have := linksTo_own (p := p) (who := p.nd i) (t := rounds * p.round + p.fr i) (L := s.links) p.nl
        exact ⟨fun k q d e => (this.1 k q d e).2, fun k hk => this.2 k (fun e => hw (e.symm.trans hk))⟩
      · exact ⟨fun k q d e => (by cases e), fun k _ => rfl⟩
    have eK : ∀ (s : ClS) k j, p.lf k = who → s.takes p h i (s.goes p h rounds i).2 k j = false := fun s k j hk => by
      unfold ClS.takes
      cases e : (s.goes p h rounds i).2 with
      | none => rfl
      | some m =>
        obtain ⟨x, y, z⟩ := m
        have : x ≠ k := fun q => hw (((eO s).1 x y z e).symm.trans (q ▸ hk))
        show (decide (x = k) && _) = false
        rw [decide_eq_false this, Bool.false_and]
    refine ⟨hN, fun k hk => ?_, fun k hk => ?_, fun k hk => ?_⟩
    · exact ((eO s).2 k hk).trans ((a.l k hk).trans ((eO s').2 k hk).symm)
    · funext j
      show (if _ then _ else _) = (if _ then _ else _)
      rw [eK s k j hk, eK s' k j hk, a.w k hk]
      rfl
    · funext j
      show (if _ then _ else _) = (if _ then _ else _)
      rw [eK s k j hk, eK s' k j hk, a.q k hk]
      simp
theorem Alike1.slots {p : PlanS} {who : Nat} {s s' : ClS} (a : Alike1 p who s s') (h : HapS) (rounds : Int) : ∀ i, Alike1 p who (s.slots p h rounds i) (s'.slots p h rounds i)
  | 0 => a
  | i + 1 => (a.slots h rounds i).slot h rounds i
end Go.Proofs.YtdmokcnoljlogaaGreatDoor

/- Which of several things is wrong first (plain). -/
namespace Go.Proofs.YtdmokcnoljlogaaGreatDoor

/-- What is wrong first among n things, and its number; nothing: 0, 0. -/
def FirstBad (f : Nat → Int) (n : Nat) (e i : Int) : Prop :=
  (∀ j, j < n → f j = 0) ∧ e = 0 ∧ i = 0 ∨ ∃ k : Nat, k < n ∧ (∀ j, j < k → f j = 0) ∧ f k = e ∧ e ≠ 0 ∧ i = k

theorem FirstBad.at_bad {f : Nat → Int} {n : Nat} {e i : Int} (h : FirstBad f n e i) {k : Nat} (hk : k < n) (h0 : ∀ j, j < k → f j = 0) (hf : f k ≠ 0) : e = f k ∧ i = k := by
  rcases h with ⟨ha, _, _⟩ | ⟨k', hk', h0', he, hne, hi⟩
  · exact absurd (ha k hk) hf
  · rcases Nat.lt_trichotomy k k' with g | g | g
    · exact absurd (h0' k g) hf
    · subst g; exact ⟨he.symm, hi⟩
    · exact absurd ((h0 k' g).symm.trans he) (Ne.symm hne)
theorem FirstBad.at_end {f : Nat → Int} {n : Nat} {e i : Int} (h : FirstBad f n e i) (h0 : ∀ j, j < n → f j = 0) : e = 0 ∧ i = 0 := by
  rcases h with ⟨_, he, hi⟩ | ⟨k', hk', _, he, hne, _⟩
  · exact ⟨he, hi⟩
  · exact absurd ((h0 k' hk').symm.trans he) (Ne.symm hne)
theorem FirstBad.is {f : Nat → Int} {n : Nat} {e i : Int} (h : FirstBad f n e i) {k : Nat} (hk : k < n) (h0 : ∀ j, j < k → f j = 0) {c : Int} (hf : f k = c) (hc : c ≠ 0) : e = c ∧ i = k := by
  have g := h.at_bad hk h0 (by rw [hf]; exact hc)
  exact ⟨g.1.trans hf, g.2⟩
theorem FirstBad.bound {f : Nat → Int} {n : Nat} {e i : Int} (h : FirstBad f n e i) : 0 ≤ i ∧ i ≤ n := by
  rcases h with ⟨_, _, hi⟩ | ⟨k, hk, _, _, _, hi⟩ <;> omega
/-- There is always such an answer. -/
theorem FirstBad.any (f : Nat → Int) : ∀ n : Nat, ∃ e i, FirstBad f n e i := by
  intro n
  induction n with
  | zero => exact ⟨0, 0, .inl ⟨fun j hj => absurd hj (Nat.not_lt_zero _), rfl, rfl⟩⟩
  | succ n ih =>
    obtain ⟨e, i, h⟩ := ih
    rcases h with ⟨ha, _, _⟩ | ⟨k, hk, h0, he, hne, hi⟩
    · by_cases hf : f n = 0
      · refine ⟨0, 0, .inl ⟨fun j hj => ?_, rfl, rfl⟩⟩
        rcases Nat.lt_succ_iff_lt_or_eq.1 hj with g | g
        · exact ha j g
        · rw [g]; exact hf
      · exact ⟨f n, n, .inr ⟨n, Nat.lt_succ_self _, ha, rfl, hf, rfl⟩⟩
    · exact ⟨e, i, .inr ⟨k, Nat.lt_succ_of_lt hk, h0, he, hne, hi⟩⟩
theorem next_zero {f : Nat → Int} {k : Nat} (h0 : ∀ j, j < k → f j = 0) (h : f k = 0) : ∀ j, j < k + 1 → f j = 0 := by
  intro j hj
  rcases Nat.lt_succ_iff_lt_or_eq.1 hj with g | g
  · exact h0 j g
  · rw [g]; exact h

/-- What is wrong with a window. -/
def winErr (pt fr tq : Nat → Int) (frame : Int) (j : Nat) : Int :=
  if tq j ≤ fr j then 1 else if (j = 0 ∧ fr j < 0) ∨ (0 < j ∧ fr j < tq (j - 1)) then 10 else if frame < tq j then 2 else if pt j < 0 ∨ 5 < pt j then 7 else 0
theorem winErr_1 {pt fr tq : Nat → Int} {frame : Int} {j : Nat} (h : tq j ≤ fr j) : winErr pt fr tq frame j = 1 := by simp [winErr, h]
theorem winErr_10 {pt fr tq : Nat → Int} {frame : Int} {j : Nat} (h : fr j < tq j) (h2 : (j = 0 ∧ fr j < 0) ∨ (0 < j ∧ fr j < tq (j - 1))) : winErr pt fr tq frame j = 10 := by
  unfold winErr; rw [if_neg (by omega), if_pos h2]
theorem winErr_2 {pt fr tq : Nat → Int} {frame : Int} {j : Nat} (h : fr j < tq j) (h2 : ¬ ((j = 0 ∧ fr j < 0) ∨ (0 < j ∧ fr j < tq (j - 1)))) (h3 : frame < tq j) : winErr pt fr tq frame j = 2 := by
  unfold winErr; rw [if_neg (by omega), if_neg h2, if_pos h3]
theorem winErr_7 {pt fr tq : Nat → Int} {frame : Int} {j : Nat} (h : fr j < tq j) (h2 : ¬ ((j = 0 ∧ fr j < 0) ∨ (0 < j ∧ fr j < tq (j - 1)))) (h3 : tq j ≤ frame) (h4 : pt j < 0 ∨ 5 < pt j) : winErr pt fr tq frame j = 7 := by
  unfold winErr; rw [if_neg (by omega), if_neg h2, if_neg (by omega), if_pos h4]
theorem winErr_0 {pt fr tq : Nat → Int} {frame : Int} {j : Nat} (h : fr j < tq j) (h2 : ¬ ((j = 0 ∧ fr j < 0) ∨ (0 < j ∧ fr j < tq (j - 1)))) (h3 : tq j ≤ frame) (h4 : 0 ≤ pt j) (h5 : pt j ≤ 5) : winErr pt fr tq frame j = 0 := by
  unfold winErr; rw [if_neg (by omega), if_neg h2, if_neg (by omega), if_neg (by omega)]
end Go.Proofs.YtdmokcnoljlogaaGreatDoor

/- What is wrong with a plan, in whole numbers: slots, links, windows, and the whole (plain). -/
namespace Go.Proofs.YtdmokcnoljlogaaGreatDoor

/-- What is wrong with a slot. -/
def slotErr (nd fr tq : Nat → Int) (nodes skew round : Int) (j : Nat) : Int :=
  if tq j ≤ fr j then 1 else if (j = 0 ∧ fr j < 0) ∨ (0 < j ∧ fr j ≤ tq (j - 1) + skew) then 10 else if round - skew - 1 < tq j then 2 else if nd j < 0 ∨ nodes - 1 < nd j then 7 else 0
theorem slotErr_1 {nd fr tq : Nat → Int} {nodes skew round : Int} {j : Nat} (h : tq j ≤ fr j) : slotErr nd fr tq nodes skew round j = 1 := by simp [slotErr, h]
theorem slotErr_10 {nd fr tq : Nat → Int} {nodes skew round : Int} {j : Nat} (h : fr j < tq j) (h2 : (j = 0 ∧ fr j < 0) ∨ (0 < j ∧ fr j ≤ tq (j - 1) + skew)) : slotErr nd fr tq nodes skew round j = 10 := by
  unfold slotErr; rw [if_neg (by omega), if_pos h2]
theorem slotErr_2 {nd fr tq : Nat → Int} {nodes skew round : Int} {j : Nat} (h : fr j < tq j) (h2 : ¬ ((j = 0 ∧ fr j < 0) ∨ (0 < j ∧ fr j ≤ tq (j - 1) + skew))) (h3 : round - skew - 1 < tq j) : slotErr nd fr tq nodes skew round j = 2 := by
  unfold slotErr; rw [if_neg (by omega), if_neg h2, if_pos h3]
theorem slotErr_7 {nd fr tq : Nat → Int} {nodes skew round : Int} {j : Nat} (h : fr j < tq j) (h2 : ¬ ((j = 0 ∧ fr j < 0) ∨ (0 < j ∧ fr j ≤ tq (j - 1) + skew))) (h3 : tq j ≤ round - skew - 1) (h4 : nd j < 0 ∨ nodes - 1 < nd j) : slotErr nd fr tq nodes skew round j = 7 := by
  unfold slotErr; rw [if_neg (by omega), if_neg h2, if_neg (by omega), if_pos h4]
theorem slotErr_0 {nd fr tq : Nat → Int} {nodes skew round : Int} {j : Nat} (h : fr j < tq j) (h2 : ¬ ((j = 0 ∧ fr j < 0) ∨ (0 < j ∧ fr j ≤ tq (j - 1) + skew))) (h3 : tq j ≤ round - skew - 1) (h4 : 0 ≤ nd j) (h5 : nd j ≤ nodes - 1) : slotErr nd fr tq nodes skew round j = 0 := by
  unfold slotErr; rw [if_neg (by omega), if_neg h2, if_neg (by omega), if_neg (by omega)]
/-- A slot that is right ends within the round. -/
theorem slotErr_to {nd fr tq : Nat → Int} {nodes skew round : Int} {j : Nat} (h : slotErr nd fr tq nodes skew round j = 0) : fr j < tq j ∧ tq j ≤ round - skew - 1 ∧ (j = 0 → 0 ≤ fr j) ∧ (0 < j → tq (j - 1) + skew < fr j) ∧ 0 ≤ nd j ∧ nd j ≤ nodes - 1 := by
  unfold slotErr at h
  by_cases h1 : tq j ≤ fr j
  · simp [h1] at h
  · rw [if_neg h1] at h
    by_cases h2 : (j = 0 ∧ fr j < 0) ∨ (0 < j ∧ fr j ≤ tq (j - 1) + skew)
    · simp [h2] at h
    · rw [if_neg h2] at h
      by_cases h3 : round - skew - 1 < tq j
      · simp [h3] at h
      · rw [if_neg h3] at h
        by_cases h4 : nd j < 0 ∨ nodes - 1 < nd j
        · simp [h4] at h
        · omega
theorem slots_up {nd fr tq : Nat → Int} {nodes skew round : Int} (hsk : 0 ≤ skew) {k : Nat} (h : ∀ j, j < k → slotErr nd fr tq nodes skew round j = 0) : ∀ j, j < k → 0 ≤ fr j ∧ fr j < tq j ∧ tq j ≤ round - skew - 1 := by
  intro j
  induction j with
  | zero =>
    intro hj
    have g := slotErr_to (h 0 hj)
    exact ⟨g.2.2.1 rfl, g.1, g.2.1⟩
  | succ j ih =>
    intro hj
    have g := slotErr_to (h (j + 1) hj)
    have g2 := ih (by omega)
    have g3 := g.2.2.2.1 (by omega)
    simp at g3
    exact ⟨by omega, g.1, g.2.1⟩

/-- What is wrong with a link: 'pw' is 2 to the number of nodes, 'hit j' whether its bits have its own node's. -/
def linkErr (lf lt lb lq : Nat → Int) (hit : Nat → Bool) (nodes pw : Int) (j : Nat) : Int :=
  if lf j < 0 ∨ nodes - 1 < lf j then 7 else if lt j < 1 ∨ pw - 1 < lt j ∨ hit j = true then 1 else if (lb j < 1 ∨ 137438953472 < lb j) ∨ lq j < 1 ∨ 16 < lq j then 2 else 0
theorem linkErr_7 {lf lt lb lq : Nat → Int} {hit : Nat → Bool} {nodes pw : Int} {j : Nat} (h : lf j < 0 ∨ nodes - 1 < lf j) : linkErr lf lt lb lq hit nodes pw j = 7 := by unfold linkErr; rw [if_pos h]
theorem linkErr_1 {lf lt lb lq : Nat → Int} {hit : Nat → Bool} {nodes pw : Int} {j : Nat} (h : 0 ≤ lf j) (h' : lf j ≤ nodes - 1) (h2 : lt j < 1 ∨ pw - 1 < lt j ∨ hit j = true) : linkErr lf lt lb lq hit nodes pw j = 1 := by
  unfold linkErr; rw [if_neg (by omega), if_pos h2]
theorem linkErr_2 {lf lt lb lq : Nat → Int} {hit : Nat → Bool} {nodes pw : Int} {j : Nat} (h : 0 ≤ lf j) (h' : lf j ≤ nodes - 1) (h2 : ¬ (lt j < 1 ∨ pw - 1 < lt j ∨ hit j = true)) (h3 : (lb j < 1 ∨ 137438953472 < lb j) ∨ lq j < 1 ∨ 16 < lq j) : linkErr lf lt lb lq hit nodes pw j = 2 := by
  unfold linkErr; rw [if_neg (by omega), if_neg h2, if_pos h3]
theorem linkErr_0 {lf lt lb lq : Nat → Int} {hit : Nat → Bool} {nodes pw : Int} {j : Nat} (h : 0 ≤ lf j) (h' : lf j ≤ nodes - 1) (h2 : ¬ (lt j < 1 ∨ pw - 1 < lt j ∨ hit j = true)) (h3 : 1 ≤ lb j ∧ lb j ≤ 137438953472) (h4 : 1 ≤ lq j ∧ lq j ≤ 16) : linkErr lf lt lb lq hit nodes pw j = 0 := by
  unfold linkErr; rw [if_neg (by omega), if_neg h2, if_neg (by omega)]

/-- What Check says of slots, links and windows, one behind the other. -/
def PlanRes (e1 i1 e2 i2 e3 i3 E I : Int) : Prop :=
  (e1 ≠ 0 → E = e1 ∧ I = i1) ∧ (e1 = 0 → e2 ≠ 0 → E = e2 ∧ I = 1000 + i2) ∧ (e1 = 0 → e2 = 0 → e3 ≠ 0 → E = e3 ∧ I = 2000 + i3) ∧ (e1 = 0 → e2 = 0 → e3 = 0 → E = 0 ∧ I = -1)
theorem PlanRes.slot {e1 i1 e2 i2 e3 i3 E I c k : Int} (h : PlanRes e1 i1 e2 i2 e3 i3 E I) (g : e1 = c ∧ i1 = k) (hc : c ≠ 0) : E = c ∧ I = k := by
  obtain ⟨rfl, rfl⟩ := g
  exact h.1 hc
theorem PlanRes.win {e1 i1 e2 i2 e3 i3 E I : Int} (h : PlanRes e1 i1 e2 i2 e3 i3 E I) (h1 : e1 = 0) (h2 : e2 = 0) (h3 : e3 ≠ 0) : E = e3 ∧ I = 2000 + i3 := h.2.2.1 h1 h2 h3
theorem PlanRes.fine {e1 i1 e2 i2 e3 i3 E I : Int} (h : PlanRes e1 i1 e2 i2 e3 i3 E I) (h1 : e1 = 0) (h2 : e2 = 0) (h3 : e3 = 0) : E = 0 ∧ I = -1 := h.2.2.2 h1 h2 h3
theorem PlanRes.link {e1 i1 e2 i2 e3 i3 E I c k : Int} (h : PlanRes e1 i1 e2 i2 e3 i3 E I) (h1 : e1 = 0) (g : e2 = c ∧ i2 = k) (hc : c ≠ 0) : E = c ∧ I = 1000 + k := by
  obtain ⟨rfl, rfl⟩ := g
  exact h.2.1 h1 hc
end Go.Proofs.YtdmokcnoljlogaaGreatDoor

/- What is wrong with the whole of a plan, and what Check says of it, in whole numbers (plain). -/
namespace Go.Proofs.YtdmokcnoljlogaaGreatDoor

/-- What is wrong with the whole of a plan. -/
def headErr (nodes faulty skew jitter drift round frame : Int) (ns nl nw : Nat) : Int :=
  if nodes < 1 ∨ 16 < nodes ∨ faulty < 0 ∨ nodes < faulty * 3 + 1 then 1
  else if skew < 0 ∨ 137438953472 < skew ∨ jitter < 0 ∨ 137438953472 < jitter ∨ drift < 0 ∨ 137438953472 < drift then 2
  else if round < 1 ∨ 137438953472 < round ∨ frame < 1 ∨ 137438953472 < frame then 2
  else if 32 < ns ∨ 8 < nl ∨ 32 < nw then 4
  else if skew < skew / 2 + jitter * 2 + drift * 2 + 1 then 13 else 0

/-- What Check says of a plan: an error, and its place. -/
def CheckIs (nodes faulty skew jitter drift round frame : Int) (ns nl nw : Nat) (nd fr tq lf lt lb lq : Nat → Int) (hit : Nat → Bool) (pw : Int) (wp wf wt : Nat → Int) (E I : Int) : Prop :=
  (headErr nodes faulty skew jitter drift round frame ns nl nw ≠ 0 ∧ E = headErr nodes faulty skew jitter drift round frame ns nl nw ∧ I = -1) ∨
  (headErr nodes faulty skew jitter drift round frame ns nl nw = 0 ∧ ∃ e1 i1 e2 i2 e3 i3, FirstBad (slotErr nd fr tq nodes skew round) ns e1 i1 ∧ FirstBad (linkErr lf lt lb lq hit nodes pw) nl e2 i2 ∧ FirstBad (winErr wp wf wt frame) nw e3 i3 ∧ PlanRes e1 i1 e2 i2 e3 i3 E I)

theorem headErr_1 {nodes faulty skew jitter drift round frame : Int} {ns nl nw : Nat} (h : nodes < 1 ∨ 16 < nodes ∨ faulty < 0 ∨ nodes < faulty * 3 + 1) : headErr nodes faulty skew jitter drift round frame ns nl nw = 1 := by unfold headErr; rw [if_pos h]
theorem headErr_2 {nodes faulty skew jitter drift round frame : Int} {ns nl nw : Nat} (h : ¬ (nodes < 1 ∨ 16 < nodes ∨ faulty < 0 ∨ nodes < faulty * 3 + 1)) (h2 : skew < 0 ∨ 137438953472 < skew ∨ jitter < 0 ∨ 137438953472 < jitter ∨ drift < 0 ∨ 137438953472 < drift) : headErr nodes faulty skew jitter drift round frame ns nl nw = 2 := by unfold headErr; rw [if_neg h, if_pos h2]
theorem headErr_3 {nodes faulty skew jitter drift round frame : Int} {ns nl nw : Nat} (h : ¬ (nodes < 1 ∨ 16 < nodes ∨ faulty < 0 ∨ nodes < faulty * 3 + 1)) (h2 : ¬ (skew < 0 ∨ 137438953472 < skew ∨ jitter < 0 ∨ 137438953472 < jitter ∨ drift < 0 ∨ 137438953472 < drift)) (h3 : round < 1 ∨ 137438953472 < round ∨ frame < 1 ∨ 137438953472 < frame) : headErr nodes faulty skew jitter drift round frame ns nl nw = 2 := by unfold headErr; rw [if_neg h, if_neg h2, if_pos h3]
theorem headErr_4 {nodes faulty skew jitter drift round frame : Int} {ns nl nw : Nat} (h : ¬ (nodes < 1 ∨ 16 < nodes ∨ faulty < 0 ∨ nodes < faulty * 3 + 1)) (h2 : ¬ (skew < 0 ∨ 137438953472 < skew ∨ jitter < 0 ∨ 137438953472 < jitter ∨ drift < 0 ∨ 137438953472 < drift)) (h3 : ¬ (round < 1 ∨ 137438953472 < round ∨ frame < 1 ∨ 137438953472 < frame)) (h4 : 32 < ns ∨ 8 < nl ∨ 32 < nw) : headErr nodes faulty skew jitter drift round frame ns nl nw = 4 := by unfold headErr; rw [if_neg h, if_neg h2, if_neg h3, if_pos h4]
theorem headErr_13 {nodes faulty skew jitter drift round frame : Int} {ns nl nw : Nat} (h : ¬ (nodes < 1 ∨ 16 < nodes ∨ faulty < 0 ∨ nodes < faulty * 3 + 1)) (h2 : ¬ (skew < 0 ∨ 137438953472 < skew ∨ jitter < 0 ∨ 137438953472 < jitter ∨ drift < 0 ∨ 137438953472 < drift)) (h3 : ¬ (round < 1 ∨ 137438953472 < round ∨ frame < 1 ∨ 137438953472 < frame)) (h4 : ¬ (32 < ns ∨ 8 < nl ∨ 32 < nw)) (h5 : skew < skew / 2 + jitter * 2 + drift * 2 + 1) : headErr nodes faulty skew jitter drift round frame ns nl nw = 13 := by unfold headErr; rw [if_neg h, if_neg h2, if_neg h3, if_neg h4, if_pos h5]
theorem headErr_0 {nodes faulty skew jitter drift round frame : Int} {ns nl nw : Nat} (h : ¬ (nodes < 1 ∨ 16 < nodes ∨ faulty < 0 ∨ nodes < faulty * 3 + 1)) (h2 : ¬ (skew < 0 ∨ 137438953472 < skew ∨ jitter < 0 ∨ 137438953472 < jitter ∨ drift < 0 ∨ 137438953472 < drift)) (h3 : ¬ (round < 1 ∨ 137438953472 < round ∨ frame < 1 ∨ 137438953472 < frame)) (h4 : ¬ (32 < ns ∨ 8 < nl ∨ 32 < nw)) (h5 : ¬ skew < skew / 2 + jitter * 2 + drift * 2 + 1) : headErr nodes faulty skew jitter drift round frame ns nl nw = 0 := by unfold headErr; rw [if_neg h, if_neg h2, if_neg h3, if_neg h4, if_neg h5]

theorem CheckIs.head {nodes faulty skew jitter drift round frame : Int} {ns nl nw : Nat} {nd fr tq lf lt lb lq : Nat → Int} {hit : Nat → Bool} {pw : Int} {wp wf wt : Nat → Int} {E I c : Int} (h : CheckIs nodes faulty skew jitter drift round frame ns nl nw nd fr tq lf lt lb lq hit pw wp wf wt E I) (g : headErr nodes faulty skew jitter drift round frame ns nl nw = c) (hc : c ≠ 0) : E = c ∧ I = -1 := by
  rcases h with ⟨_, h1, h2⟩ | ⟨h0, _⟩
  · exact ⟨h1.trans g, h2⟩
  · exact absurd (g.symm.trans h0) hc

end Go.Proofs.YtdmokcnoljlogaaGreatDoor

/- A cluster's words in plain numbers (10.1 to 10.3): plans, rounds, what may be, what a round makes of clocks and of all else (ahead of stage 9). -/
namespace Go.Proofs.YtdmokcnoljlogaaGreatDoor

/-- A number's bit, of any whole number. -/
def bitI (x : Int) (j : Nat) : Bool := decide (x / 2 ^ j % 2 = 1)

/-- A plan in plain numbers. -/
structure PlanN where
  nodes : Int
  faulty : Int
  skew : Int
  jitter : Int
  drift : Int
  round : Int
  frame : Int
  ns : Nat
  nl : Nat
  nw : Nat
  nd : Nat → Int
  fr : Nat → Int
  td : Nat → Int
  lf : Nat → Int
  lt : Nat → Int
  lb : Nat → Int
  lq : Nat → Int
  wp : Nat → Int
  wf : Nat → Int
  wt : Nat → Int
/-- How many nodes it has. -/
def PlanN.n (p : PlanN) : Nat := p.nodes.toNat
/-- What Check says of it. -/
def PlanN.Is (p : PlanN) (E I : Int) : Prop :=
  CheckIs p.nodes p.faulty p.skew p.jitter p.drift p.round p.frame p.ns p.nl p.nw p.nd p.fr p.td p.lf p.lt p.lb p.lq (fun j => bitI (p.lt j) (p.lf j).toNat) (2 ^ p.nodes.toNat) p.wp p.wf p.wt E I
/-- What of it is played. -/
def PlanN.S (p : PlanN) : PlanS where
  n := p.n
  round := p.round
  ns := p.ns
  nd := fun i => (p.nd i).toNat
  fr := p.fr
  nl := p.nl
  lf := fun k => (p.lf k).toNat
  lt := fun k j => bitI (p.lt k) j
  lb := p.lb

/-- What happens in a round, in plain numbers: losses (slot, channel, to), readings (node, of, is), drifts, modes. -/
structure RoundN where
  nL : Nat
  ls : Nat → Int
  lc : Nat → Int
  lt : Nat → Int
  nR : Nat
  rn : Nat → Int
  ro : Nat → Int
  ri : Nat → Int
  drifts : List Int
  modes : List Int
def RoundN.reads (r : RoundN) : List ReadS := (List.range r.nR).map fun i => ⟨r.rn i, r.ro i, r.ri i⟩
def RoundN.hap (r : RoundN) (fa : Int) : HapS where
  lies := bitI fa
  mode := fun j => if j < r.modes.length then r.modes.getD j 0 else 0
  lost := fun i c j => (List.range r.nL).any fun x => decide (r.ls x = i) && (decide (r.lc x = c) && bitI (r.lt x) j)
/-- No losses, no readings, no drifts, no modes. -/
def RoundN.none : RoundN := ⟨0, fun _ => 0, fun _ => 0, fun _ => 0, 0, fun _ => 0, fun _ => 0, fun _ => 0, [], []⟩

/-- What clocks show behind a round. -/
def cluTo (p : PlanN) (fa : Int) (cs : List Int) (r : RoundN) : List Int := (List.range p.n).map (clocksTo p.n p.faulty.toNat (bitI fa) p.jitter p.drift (fun i => cs.getD i 0) r.reads r.drifts)
/-- Whether one would be beyond what may be. -/
def cluFar (p : PlanN) (fa : Int) (cs : List Int) (r : RoundN) : Bool := beyondB p.n (clocksTo p.n p.faulty.toNat (bitI fa) p.jitter p.drift (fun i => cs.getD i 0) r.reads r.drifts)
/-- What a round makes of all else. -/
def cluOn (p : PlanN) (fa : Int) (s : ClS) (rd : Int) (r : RoundN) : ClS := s.slots p.S (r.hap fa) rd p.ns
/-- How far numbers are apart. -/
def spreadL (l : List Int) : Int := l.foldl max (l.headD 0) - l.foldl min (l.headD 0)
/-- Those that do not lie. -/
def rightOf (fa : Int) (cs : List Int) : List Int := ((List.range cs.length).filter fun i => !bitI fa i).map fun i => cs.getD i 0
/-- At first. -/
def ClS.start : ClS where
  nodes := fun _ => ⟨fun _ => true, 1, 0, false⟩
  links := fun _ => ⟨[], 0, 0, 0⟩
  newest := fun _ _ => -1
  ports := fun _ _ => []
/-- What New says: an error, and its place. -/
def NewIs (p : PlanN) (fa : Int) (cs : List Int) (K I : Int) : Prop :=
  (∃ E, p.Is E I ∧ E ≠ 0 ∧ K = E) ∨
  (p.Is 0 (-1) ∧ I = -1 ∧
    ((¬ (0 ≤ fa ∧ fa < 2 ^ p.n ∧ (List.range p.n).countP (bitI fa) ≤ p.faulty.toNat) ∧ K = 1) ∨
     ((0 ≤ fa ∧ fa < 2 ^ p.n ∧ (List.range p.n).countP (bitI fa) ≤ p.faulty.toNat) ∧
       ((cs.length ≠ p.n ∧ K = 7) ∨
        (cs.length = p.n ∧
          ((¬ ((∀ c ∈ cs, -274877906944 ≤ c ∧ c ≤ 274877906944) ∧ spreadL (rightOf fa cs) ≤ p.skew) ∧ K = 2) ∨
           (((∀ c ∈ cs, -274877906944 ≤ c ∧ c ≤ 274877906944) ∧ spreadL (rightOf fa cs) ≤ p.skew) ∧ K = 0)))))))
/-- What holds of a cluster that was made, always. -/
structure CluOk (p : PlanN) (fa : Int) (cs : List Int) : Prop where
  plan : p.Is 0 (-1)
  f0 : 0 ≤ fa
  f1 : fa < 2 ^ p.n
  fc : (List.range p.n).countP (bitI fa) ≤ p.faulty.toNat
  len : cs.length = p.n
  inn : ∀ c ∈ cs, -274877906944 ≤ c ∧ c ≤ 274877906944
  near : spreadL (rightOf fa cs) ≤ p.skew
theorem NewIs.ok {p : PlanN} {fa : Int} {cs : List Int} {I : Int} (h : NewIs p fa cs 0 I) : CluOk p fa cs := by
  rcases h with ⟨E, _, h1, h2⟩ | ⟨h0, _, h⟩
  · exact absurd h2.symm h1
  · rcases h with ⟨_, h⟩ | ⟨h1, h⟩
    · cases h
    · rcases h with ⟨_, h⟩ | ⟨h2, h⟩
      · cases h
      · rcases h with ⟨_, h⟩ | ⟨h3, _⟩
        · cases h
        · exact ⟨h0, h1.1, h1.2.1, h1.2.2, h2, h3.1, h3.2⟩

/-- The bounds of a plan that may be. -/
structure PlanB (p : PlanN) : Prop where
  n1 : 1 ≤ p.nodes
  n2 : p.nodes ≤ 16
  f0 : 0 ≤ p.faulty
  f3 : p.faulty * 3 + 1 ≤ p.nodes
  s0 : 0 ≤ p.skew
  s1 : p.skew ≤ 137438953472
  j0 : 0 ≤ p.jitter
  j1 : p.jitter ≤ 137438953472
  d0 : 0 ≤ p.drift
  d1 : p.drift ≤ 137438953472
  r0 : 1 ≤ p.round
  r1 : p.round ≤ 137438953472
  ns : p.ns ≤ 32
  nl : p.nl ≤ 8
  sk : p.skew / 2 + p.jitter * 2 + p.drift * 2 + 1 ≤ p.skew
  slot : ∀ i, i < p.ns → (0 ≤ p.nd i ∧ p.nd i < p.nodes) ∧ 0 ≤ p.fr i ∧ p.fr i ≤ p.round
  link : ∀ k, k < p.nl → (0 ≤ p.lf k ∧ p.lf k < p.nodes) ∧ (1 ≤ p.lt k ∧ p.lt k < 2 ^ p.n) ∧ (1 ≤ p.lb k ∧ p.lb k ≤ 137438953472) ∧ 1 ≤ p.lq k ∧ p.lq k ≤ 16
theorem PlanN.Is.bounds {p : PlanN} {I : Int} (h : p.Is 0 I) : PlanB p := by
  unfold PlanN.Is CheckIs at h
  rcases h with ⟨h1, h2, _⟩ | ⟨h0, e1, i1, e2, i2, e3, i3, F1, F2, F3, R⟩
  · exact absurd h2.symm h1
  · have z1 : e1 = 0 := by
      by_cases q : e1 = 0
      · exact q
      · exact absurd (R.1 q).1.symm q
    have z2 : e2 = 0 := by
      by_cases q : e2 = 0
      · exact q
      · exact absurd (R.2.1 z1 q).1.symm q
    subst z1 z2
    have g1 : ∀ j, j < p.ns → slotErr p.nd p.fr p.td p.nodes p.skew p.round j = 0 := by
      rcases F1 with ⟨h, _⟩ | ⟨_, _, _, _, h, _⟩
      · exact h
      · exact absurd rfl h
    have g2 : ∀ j, j < p.nl → linkErr p.lf p.lt p.lb p.lq (fun j => bitI (p.lt j) (p.lf j).toNat) p.nodes (2 ^ p.nodes.toNat) j = 0 := by
      rcases F2 with ⟨h, _⟩ | ⟨_, _, _, _, h, _⟩
      · exact h
      · exact absurd rfl h
    unfold headErr at h0
    by_cases a1 : p.nodes < 1 ∨ 16 < p.nodes ∨ p.faulty < 0 ∨ p.nodes < p.faulty * 3 + 1
    · rw [if_pos a1] at h0; cases h0
    rw [if_neg a1] at h0
    by_cases a2 : p.skew < 0 ∨ 137438953472 < p.skew ∨ p.jitter < 0 ∨ 137438953472 < p.jitter ∨ p.drift < 0 ∨ 137438953472 < p.drift
    · rw [if_pos a2] at h0; cases h0
    rw [if_neg a2] at h0
    by_cases a3 : p.round < 1 ∨ 137438953472 < p.round ∨ p.frame < 1 ∨ 137438953472 < p.frame
    · rw [if_pos a3] at h0; cases h0
    rw [if_neg a3] at h0
    by_cases a4 : 32 < p.ns ∨ 8 < p.nl ∨ 32 < p.nw
    · rw [if_pos a4] at h0; cases h0
    rw [if_neg a4] at h0
    by_cases a5 : p.skew < p.skew / 2 + p.jitter * 2 + p.drift * 2 + 1
    · rw [if_pos a5] at h0; cases h0
    have hup := slots_up (show 0 ≤ p.skew by omega) g1
    refine ⟨by omega, by omega, by omega, by omega, by omega, by omega, by omega, by omega, by omega, by omega, by omega, by omega, by omega, by omega, by omega, fun i hi => ?_, fun k hk => ?_⟩
    · have := hup i hi
      have := slotErr_to (g1 i hi)
      exact ⟨⟨by omega, by omega⟩, by omega, by omega⟩
    · have h := g2 k hk
      unfold linkErr at h
      by_cases b1 : p.lf k < 0 ∨ p.nodes - 1 < p.lf k
      · rw [if_pos b1] at h; cases h
      rw [if_neg b1] at h
      by_cases b2 : p.lt k < 1 ∨ 2 ^ p.nodes.toNat - 1 < p.lt k ∨ bitI (p.lt k) (p.lf k).toNat = true
      · rw [if_pos b2] at h; cases h
      rw [if_neg b2] at h
      by_cases b3 : (p.lb k < 1 ∨ 137438953472 < p.lb k) ∨ p.lq k < 1 ∨ 16 < p.lq k
      · rw [if_pos b3] at h; cases h
      have e : (2 : Int) ^ p.n = 2 ^ p.nodes.toNat := rfl
      rw [e]
      generalize (2 : Int) ^ p.nodes.toNat = PW at *
      exact ⟨⟨by omega, by omega⟩, ⟨by omega, by omega⟩, ⟨by omega, by omega⟩, by omega, by omega⟩
end Go.Proofs.YtdmokcnoljlogaaGreatDoor
