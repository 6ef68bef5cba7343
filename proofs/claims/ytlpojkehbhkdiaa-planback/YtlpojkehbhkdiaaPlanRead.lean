/- Numbers read out of bytes (plain): what is read was written so, and what was written so is read. -/
import Derived.Test.YtlpojkehbhkdiaaPlanWrite
namespace Go.Proofs.Ytlpojkehbhkdiaa

/-- One number off the front of bytes: so many bytes at most, the i-th one on, so much already. -/
def rd1 : Nat → Nat → Int → List Int → Option (Int × List Int)
  | 0, _, _, _ => none
  | _ + 1, _, _, [] => none
  | c + 1, i, acc, b :: r => if 128 ≤ b then rd1 c (i + 1) (acc + (b % 128) * 128 ^ i) r else if 1099511627776 < acc + (b % 128) * 128 ^ i ∨ (b = 0 ∧ 0 < i) then none else some (acc + (b % 128) * 128 ^ i, r)
def rd (bs : List Int) : Option (Int × List Int) := rd1 6 0 0 bs

theorem pow_succ128 (i : Nat) (x : Int) : x * 128 ^ (i + 1) = 128 * x * 128 ^ i := by
  rw [Int.pow_succ, Int.mul_comm (128 ^ i) 128, ← Int.mul_assoc, Int.mul_comm x 128]

theorem rd1_sound : ∀ (c i : Nat) (acc : Int) (bs : List Int) (n : Int) (r : List Int), (∀ b ∈ bs, 0 ≤ b ∧ b < 256) → rd1 (c + 1) i acc bs = some (n, r) →
    ∃ m : Nat, n = acc + m * 128 ^ i ∧ bs = numB c m ++ r ∧ (0 < i → 0 < m) ∧ n ≤ 1099511627776
  | c, i, acc, [], n, r, _, h => by simp [rd1] at h
  | 0, i, acc, b :: t, n, r, hb, h => by
    obtain ⟨h0, h1⟩ := hb b (by simp)
    unfold rd1 at h
    by_cases g : 128 ≤ b
    · rw [if_pos g] at h; simp [rd1] at h
    · rw [if_neg g] at h
      have hm : b % 128 = b := Int.emod_eq_of_lt h0 (by omega)
      rw [hm] at h
      by_cases g2 : 1099511627776 < acc + b * 128 ^ i ∨ (b = 0 ∧ 0 < i)
      · rw [if_pos g2] at h; cases h
      · rw [if_neg g2] at h
        simp at h
        obtain ⟨m, hmb⟩ := Int.eq_ofNat_of_zero_le h0
        refine ⟨m, ?_, ?_, ?_, ?_⟩
        · rw [← hmb]; exact h.1.symm
        · simp only [numB]; rw [← hmb, h.2]; rfl
        · intro hi; omega
        · omega
  | c + 1, i, acc, b :: t, n, r, hb, h => by
    obtain ⟨h0, h1⟩ := hb b (by simp)
    unfold rd1 at h
    by_cases g : 128 ≤ b
    · rw [if_pos g] at h
      obtain ⟨m', e1, e2, e3, e4⟩ := rd1_sound c (i + 1) _ t n r (fun x hx => hb x (by simp [hx])) h
      have hm' := e3 (by omega)
      obtain ⟨q, hq⟩ := Int.eq_ofNat_of_zero_le (show 0 ≤ b % 128 by omega)
      refine ⟨q + 128 * m', ?_, ?_, fun _ => by omega, e4⟩
      · rw [e1, hq, pow_succ128]
        push_cast
        rw [Int.add_mul]; omega
      · have hn : numB (c + 1) (q + 128 * m') = ((((q + 128 * m') % 128 : Nat) : Int) + 128) :: numB c ((q + 128 * m') / 128) := by simp only [numB]; rw [if_neg (by omega)]
        have hd : (q + 128 * m') / 128 = m' := by omega
        have hr : (((q + 128 * m') % 128 : Nat) : Int) + 128 = b := by omega
        rw [hn, hd, hr, e2]; rfl
    · rw [if_neg g] at h
      have hm : b % 128 = b := Int.emod_eq_of_lt h0 (by omega)
      rw [hm] at h
      by_cases g2 : 1099511627776 < acc + b * 128 ^ i ∨ (b = 0 ∧ 0 < i)
      · rw [if_pos g2] at h; cases h
      · rw [if_neg g2] at h
        simp at h
        obtain ⟨m, hmb⟩ := Int.eq_ofNat_of_zero_le h0
        refine ⟨m, ?_, ?_, ?_, ?_⟩
        · rw [← hmb]; exact h.1.symm
        · simp only [numB]; rw [if_pos (by omega), ← hmb, h.2]; rfl
        · intro hi; omega
        · omega

theorem rd_sound {bs : List Int} {n : Int} {r : List Int} (hb : ∀ b ∈ bs, 0 ≤ b ∧ b < 256) (h : rd bs = some (n, r)) : 0 ≤ n ∧ n ≤ 1099511627776 ∧ bs = numB 5 n.toNat ++ r := by
  obtain ⟨m, e1, e2, _, e4⟩ := rd1_sound 5 0 0 bs n r hb h
  simp at e1
  subst e1
  exact ⟨by omega, e4, by simpa using e2⟩

theorem rd1_complete : ∀ (c i : Nat) (acc : Int) (m : Nat) (r : List Int), m < 128 ^ (c + 1) → (0 < i → 0 < m) → 0 ≤ acc → acc + m * 128 ^ i ≤ 1099511627776 → rd1 (c + 1) i acc (numB c m ++ r) = some (acc + m * 128 ^ i, r)
  | 0, i, acc, m, r, hm, hi, _, hM => by
    have h1 : ¬ (128 : Int) ≤ (m : Int) := by simp at hm; omega
    have h2 : (m : Int) % 128 = m := Int.emod_eq_of_lt (by omega) (by omega)
    simp only [numB, List.cons_append, List.nil_append, rd1]
    rw [if_neg h1, h2, if_neg (by rintro (h | ⟨h, h'⟩); omega; have := hi h'; omega)]
  | c + 1, i, acc, m, r, hm, hi, h0, hM => by
    by_cases g : m < 128
    · have h1 : ¬ (128 : Int) ≤ (m : Int) := by omega
      have h2 : (m : Int) % 128 = m := Int.emod_eq_of_lt (by omega) (by omega)
      simp only [numB, if_pos g, List.cons_append, List.nil_append, rd1]
      rw [if_neg h1, h2, if_neg (by rintro (h | ⟨h, h'⟩); omega; have := hi h'; omega)]
    · have hn : numB (c + 1) m = (((m % 128 : Nat) : Int) + 128) :: numB c (m / 128) := by simp only [numB]; rw [if_neg g]
      have e1 : (((m % 128 : Nat) : Int) + 128) % 128 = (m % 128 : Nat) := by omega
      have e2 : ((m % 128 : Nat) : Int) * 128 ^ i + ((m / 128 : Nat) : Int) * 128 ^ (i + 1) = (m : Int) * 128 ^ i := by
        rw [pow_succ128, ← Int.add_mul]
        congr 1; omega
      have e3 : 0 ≤ ((m % 128 : Nat) : Int) * 128 ^ i := Int.mul_nonneg (by omega) (Int.le_of_lt (Int.pow_pos (by decide)))
      rw [hn, List.cons_append]
      unfold rd1
      rw [if_pos (by omega), e1]
      rw [rd1_complete c (i + 1) _ (m / 128) r (by rw [Nat.div_lt_iff_lt_mul (by decide)]; rw [Nat.pow_succ] at hm; exact hm) (fun _ => by omega) (by omega) (by omega)]
      congr 1
      rw [Prod.mk.injEq]
      exact ⟨by omega, rfl⟩

theorem rd_complete {x : Int} (h0 : 0 ≤ x) (h1 : x ≤ 1099511627776) (r : List Int) : rd (numB 5 x.toNat ++ r) = some (x, r) := by
  have := rd1_complete 5 0 0 x.toNat r (by omega) (fun h => absurd h (by omega)) (by omega) (by simp; omega)
  unfold rd
  rw [this]
  simp
  omega
theorem numB_byte : ∀ (c m : Nat), m < 128 ^ (c + 1) → ∀ b ∈ numB c m, 0 ≤ b ∧ b < 256
  | 0, m, h, b, hb => by
    simp at h
    simp only [numB, List.mem_singleton] at hb
    omega
  | c + 1, m, h, b, hb => by
    by_cases g : m < 128
    · simp only [numB, if_pos g, List.mem_singleton] at hb
      omega
    · simp only [numB, if_neg g, List.mem_cons] at hb
      rcases hb with hb | hb
      · omega
      · exact numB_byte c (m / 128) (by rw [Nat.div_lt_iff_lt_mul (by decide)]; rw [Nat.pow_succ] at h; exact h) b hb
theorem bytesOf_byte {L : List Int} (hL : ∀ x ∈ L, 0 ≤ x ∧ x ≤ 1099511627776) : ∀ b ∈ bytesOf L, 0 ≤ b ∧ b < 256 := by
  intro b hb
  obtain ⟨x, hx, hb⟩ := List.mem_flatMap.1 hb
  have := hL x hx
  exact numB_byte 5 x.toNat (by omega) b hb

/-- A reader's state: what is left; none: it is spoilt. -/
abbrev St := Option (List Int)
/-- One number, and the state behind it. -/
def nx : St → Int × St
  | none => (0, none)
  | some r => match rd r with
    | some (n, r') => (n, some r')
    | none => (0, none)
theorem nx_none : nx none = (0, none) := rfl
theorem nx_some {r : List Int} {n : Int} {r' : List Int} (h : rd r = some (n, r')) : nx (some r) = (n, some r') := by simp [nx, h]
theorem nx_bad {r : List Int} (h : rd r = none) : nx (some r) = (0, none) := by simp [nx, h]
/-- What a number that is read is from. -/
theorem nx_range (st : St) (hb : ∀ r, st = some r → ∀ b ∈ r, 0 ≤ b ∧ b < 256) : 0 ≤ (nx st).1 ∧ (nx st).1 ≤ 1099511627776 := by
  cases st with
  | none => simp [nx]
  | some r =>
    cases h : rd r with
    | none => rw [nx_bad h]; simp
    | some p =>
      obtain ⟨n, r'⟩ := p
      rw [nx_some h]
      have := rd_sound (hb r rfl) h
      exact ⟨this.1, this.2.1⟩
/-- k numbers one behind the other. -/
def nxs : Nat → St → List Int × St
  | 0, st => ([], st)
  | k + 1, st => ((nxs k st).1 ++ [(nx (nxs k st).2).1], (nx (nxs k st).2).2)
theorem nxs_len : ∀ (k : Nat) (st : St), (nxs k st).1.length = k
  | 0, _ => rfl
  | k + 1, st => by simp [nxs, nxs_len k st]
end Go.Proofs.Ytlpojkehbhkdiaa
