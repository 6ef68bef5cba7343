/- How the document's answer looks for a number's end, and that it finds what is read (plain). -/
import Derived.Test.YtlpojkehbhkdiaaDoorPlanSound
namespace Go.Proofs.YtlpojkehbhkdiaaDoor

/-- What the first k bytes are worth. -/
def val (r : List Int) : Nat → Int
  | 0 => 0
  | k + 1 => val r k + (r.getD k 0 % 128) * 128 ^ k
theorem val_cons (b : Int) (r : List Int) (k : Nat) : val (b :: r) (k + 1) = b % 128 + 128 * val r k := by
  induction k with
  | zero => simp [val]
  | succ k ih =>
    show val (b :: r) (k + 1) + ((b :: r).getD (k + 1) 0 % 128) * 128 ^ (k + 1) = _
    rw [ih]
    show _ = b % 128 + 128 * (val r k + (r.getD k 0 % 128) * 128 ^ k)
    have e : (b :: r).getD (k + 1) 0 = r.getD k 0 := rfl
    rw [e, pow_succ128, Int.mul_add, Int.mul_assoc]
    omega
theorem val_bounds (r : List Int) (k : Nat) : 0 ≤ val r k ∧ val r k < 128 ^ k := by
  induction k with
  | zero => simp [val]
  | succ k ih =>
    have h1 : 0 ≤ r.getD k 0 % 128 := by omega
    have h2 : r.getD k 0 % 128 ≤ 127 := by omega
    have hp : (0 : Int) < 128 ^ k := Int.pow_pos (by decide)
    have h3 : 0 ≤ (r.getD k 0 % 128) * 128 ^ k := Int.mul_nonneg h1 (by omega)
    have h4 : (r.getD k 0 % 128) * 128 ^ k ≤ 127 * 128 ^ k := Int.mul_le_mul_of_nonneg_right h2 (by omega)
    unfold val
    rw [Int.pow_succ]
    omega
/-- A number's bytes: all but the last are 128 and more, and they are worth the number. -/
theorem numB_scan : ∀ (c x : Nat) (t : List Int), x < 128 ^ (c + 1) → (∀ j, j + 1 < (numB c x).length → 128 ≤ (numB c x ++ t).getD j 0) ∧ (numB c x ++ t).getD ((numB c x).length - 1) 0 < 128 ∧ val (numB c x ++ t) (numB c x).length = x
  | 0, x, t, h => by
    simp at h
    refine ⟨fun j hj => by simp [numB] at hj, by simp [numB]; omega, ?_⟩
    simp [numB, val]; omega
  | c + 1, x, t, h => by
    by_cases g : x < 128
    · have e : numB (c + 1) x = [(x : Int)] := by simp only [numB]; rw [if_pos g]
      rw [e]
      refine ⟨fun j hj => by simp at hj, by simp; omega, ?_⟩
      simp [val]; omega
    · have e : numB (c + 1) x = (((x % 128 : Nat) : Int) + 128) :: numB c (x / 128) := by simp only [numB]; rw [if_neg g]
      obtain ⟨h1, h2, h3⟩ := numB_scan c (x / 128) t (by rw [Nat.div_lt_iff_lt_mul (by decide)]; rw [Nat.pow_succ] at h; exact h)
      have hl := numB_len c (x / 128)
      rw [e]
      refine ⟨fun j hj => ?_, ?_, ?_⟩
      · cases j with
        | zero => simp; omega
        | succ j =>
          have := h1 j (by simp at hj; omega)
          simpa using this
      · have e2 : ((((x % 128 : Nat) : Int) + 128) :: numB c (x / 128)).length - 1 = (numB c (x / 128)).length - 1 + 1 := by simp; omega
        rw [e2]
        simpa using h2
      · show val ((((x % 128 : Nat) : Int) + 128) :: (numB c (x / 128) ++ t)) ((numB c (x / 128)).length + 1) = _
        rw [val_cons, h3]; omega

/-- So many bytes go on. -/
def goesOn (r : List Int) (k : Nat) : Prop := ∀ j, j < k → 128 ≤ r.getD j 0
/-- No end is found: there is no number. -/
theorem scan_out {r : List Int} (hb : ∀ b ∈ r, 0 ≤ b ∧ b < 256) {k : Nat} (h : goesOn r k) (hk : k = r.length ∨ k = 6) : rd r = none := by
  cases hr : rd r with
  | none => rfl
  | some p =>
    obtain ⟨x, t⟩ := p
    obtain ⟨h0, h1, h2⟩ := rd_sound hb hr
    have hl := numB_len 5 x.toNat
    obtain ⟨_, g2, _⟩ := numB_scan 5 x.toNat t (by omega)
    rw [← h2] at g2
    have hlen : (numB 5 x.toNat).length ≤ r.length := by rw [h2]; simp
    have := h ((numB 5 x.toNat).length - 1) (by omega)
    omega
/-- Where an end is found: what is read is what the bytes are worth, if they are that number's bytes. -/
theorem scan_end {r : List Int} (hb : ∀ b ∈ r, 0 ≤ b ∧ b < 256) {k : Nat} (h : goesOn r k) (he : r.getD k 0 < 128) :
    (val r (k + 1) ≤ 1099511627776 ∧ numB 5 (val r (k + 1)).toNat = r.take (k + 1) → rd r = some (val r (k + 1), r.drop (k + 1))) ∧ (¬ (val r (k + 1) ≤ 1099511627776 ∧ numB 5 (val r (k + 1)).toNat = r.take (k + 1)) → rd r = none) := by
  have hv := val_bounds r (k + 1)
  constructor
  · rintro ⟨h1, h2⟩
    have e : r = numB 5 (val r (k + 1)).toNat ++ r.drop (k + 1) := by rw [h2]; exact (List.take_append_drop _ _).symm
    have q := rd_complete hv.1 h1 (r.drop (k + 1))
    rw [← e] at q
    exact q
  · intro hn
    cases hr : rd r with
    | none => rfl
    | some p =>
      obtain ⟨x, t⟩ := p
      obtain ⟨h0, h1, h2⟩ := rd_sound hb hr
      have hl := numB_len 5 x.toNat
      obtain ⟨g1, g2, g3⟩ := numB_scan 5 x.toNat t (by omega)
      rw [← h2] at g1 g2 g3
      have hlen : (numB 5 x.toNat).length ≤ r.length := by rw [h2]; simp
      have e : (numB 5 x.toNat).length = k + 1 := by
        rcases Nat.lt_trichotomy (numB 5 x.toNat).length (k + 1) with q | q | q
        · have := h ((numB 5 x.toNat).length - 1) (by omega)
          omega
        · exact q
        · have := g1 k (by omega)
          omega
      rw [e] at g3
      refine absurd ⟨?_, ?_⟩ hn
      · rw [g3]; omega
      · rw [g3]
        simp only [Int.toNat_natCast]
        have : r.take (k + 1) = numB 5 x.toNat := by
          rw [h2, ← e, List.take_left']; rfl
        exact this.symm
end Go.Proofs.YtlpojkehbhkdiaaDoor
