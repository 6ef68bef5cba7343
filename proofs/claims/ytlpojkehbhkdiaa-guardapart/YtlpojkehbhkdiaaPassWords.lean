/- What passes a guard, in whole numbers: which slot of which round first (plain). -/
import Derived.Test.YtlpojkehbhkdiaaGuardWords
import Derived.Test.YtlpojkehbhkdiaaComWords
namespace Go.Proofs.Ytlpojkehbhkdiaa

/-- Whether something goes through in a slot of a round. -/
def hitB (f s n d : Int) (ns : Nat) (nd fr tt : Nat → Int) (R node p q lo : Int) (k i : Nat) : Bool :=
  decide (nd i = node) && decide (openE f s n d ns fr tt R (lo + k) i = 0) && comB (openF f s n d ns fr tt R (lo + k) i) (openT f s n d ns fr tt R (lo + k) i) p q
/-- The first one, round by round, slot by slot, or none. -/
def FirstHit (hit : Nat → Nat → Bool) (K ns : Nat) : Option (Nat × Nat) → Prop
  | none => ∀ k, k < K → ∀ i, i < ns → hit k i = false
  | some (k, i) => k < K ∧ i < ns ∧ hit k i = true ∧ (∀ k', k' < k → ∀ i', i' < ns → hit k' i' = false) ∧ ∀ i', i' < i → hit k i' = false
theorem next_hit {h : Nat → Bool} {i : Nat} (h0 : ∀ j, j < i → h j = false) (h1 : h i = false) : ∀ j, j < i + 1 → h j = false := fun j hj => by
  rcases Nat.lt_succ_iff_lt_or_eq.1 hj with q | q
  · exact h0 j q
  · rw [q]; exact h1
theorem FirstHit.one {hit : Nat → Nat → Bool} {K ns : Nat} {r : Option (Nat × Nat)} (h : FirstHit hit K ns r) {k i : Nat} (hk : k < K) (hi : i < ns) (ht : hit k i = true) (h1 : ∀ k', k' < k → ∀ i', i' < ns → hit k' i' = false) (h2 : ∀ i', i' < i → hit k i' = false) : r = some (k, i) := by
  rcases r with _ | ⟨k', i'⟩
  · have := h k hk i hi
    rw [ht] at this; cases this
  · obtain ⟨g1, g2, g3, g4, g5⟩ := h
    rcases Nat.lt_trichotomy k k' with q | q | q
    · have := g4 k q i hi
      rw [ht] at this; cases this
    · subst q
      rcases Nat.lt_trichotomy i i' with z | z | z
      · have := g5 i z
        rw [ht] at this; cases this
      · rw [z]
      · have := h2 i' z
        rw [g3] at this; cases this
    · have := h1 k' q i' g2
      rw [g3] at this; cases this
theorem least_of {p : Nat → Prop} : ∀ n, p n → ∃ k, p k ∧ ∀ j, j < k → ¬ p j := by
  intro n
  induction n using Nat.strongRecOn with
  | _ n ih =>
    intro h
    by_cases g : ∃ j, j < n ∧ p j
    · obtain ⟨j, hj, hp⟩ := g
      exact ih j hj hp
    · exact ⟨n, h, fun j hj hp => g ⟨j, hj, hp⟩⟩
/-- There is always such an answer. -/
theorem FirstHit.any (hit : Nat → Nat → Bool) (K ns : Nat) : ∃ r, FirstHit hit K ns r := by
  by_cases g : ∃ k, k < K ∧ ∃ i, i < ns ∧ hit k i = true
  · obtain ⟨k0, g0⟩ := g
    obtain ⟨k, ⟨hk, i0, hi0⟩, hl⟩ := least_of (p := fun k => k < K ∧ ∃ i, i < ns ∧ hit k i = true) k0 g0
    obtain ⟨i, ⟨hi, ht⟩, hm⟩ := least_of (p := fun i => i < ns ∧ hit k i = true) i0 hi0
    refine ⟨some (k, i), hk, hi, ht, fun k' h1 i' h2 => ?_, fun i' h1 => ?_⟩
    · cases e : hit k' i'
      · rfl
      · exact absurd ⟨by omega, i', h2, e⟩ (hl k' h1)
    · cases e : hit k i'
      · rfl
      · exact absurd ⟨by omega, e⟩ (hm i' h1)
  · refine ⟨none, fun k h1 i h2 => ?_⟩
    cases e : hit k i
    · rfl
    · exact absurd ⟨k, h1, i, h2, e⟩ g
theorem FirstHit.no {hit : Nat → Nat → Bool} {K ns : Nat} {r : Option (Nat × Nat)} (h : FirstHit hit K ns r) (h1 : ∀ k, k < K → ∀ i, i < ns → hit k i = false) : r = none := by
  rcases r with _ | ⟨k', i'⟩
  · rfl
  · obtain ⟨g1, g2, g3, _⟩ := h
    have := h1 k' g1 i' g2
    rw [g3] at this; cases this
/-- How many rounds are looked at, from lo on. -/
def roundsK (lo to : Int) : Nat := if to < lo then 0 else min 50 (to - lo + 1).toNat
def passF (f s n d : Int) (ns : Nat) (fr tt : Nat → Int) (R p q lo : Int) : Option (Nat × Nat) → Int
  | none => 0
  | some (k, i) => comF (openF f s n d ns fr tt R (lo + k) i) (openT f s n d ns fr tt R (lo + k) i) p q
def passT (f s n d : Int) (ns : Nat) (fr tt : Nat → Int) (R p q lo : Int) : Option (Nat × Nat) → Int
  | none => 0
  | some (k, i) => comT (openF f s n d ns fr tt R (lo + k) i) (openT f s n d ns fr tt R (lo + k) i) p q
end Go.Proofs.Ytlpojkehbhkdiaa
