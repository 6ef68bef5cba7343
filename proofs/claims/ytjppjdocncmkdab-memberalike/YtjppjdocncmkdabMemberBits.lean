/- Members as a number and bit by bit: one is the other one (ahead of stage 6). -/
import Derived.Test.YtjppjdocncmkdabMemberWords
import Derived.Test.YtjppjdocncmkdabFrameBits
namespace Go.Proofs.Ytjppjdocncmkdab

/-- A number's bit. -/
def tb (m : Int) (j : Nat) : Bool := m.toNat.testBit j

theorem and_pow_ne (a j : Nat) : ((a &&& 2 ^ j) != 0) = a.testBit j := by
  cases h : a.testBit j
  · have : a &&& 2 ^ j = 0 := Nat.eq_of_testBit_eq fun i => by
      rw [Nat.testBit_and, Nat.testBit_two_pow, Nat.zero_testBit]
      by_cases e : j = i
      · subst e; rw [h]; rfl
      · rw [decide_eq_false e, Bool.and_false]
    rw [this]; rfl
  · have : a &&& 2 ^ j ≠ 0 := fun e => by
      have g : (a &&& 2 ^ j).testBit j = true := by rw [Nat.testBit_and, Nat.testBit_two_pow_self, h]; rfl
      rw [e, Nat.zero_testBit] at g
      cases g
    simpa using this

theorem pow_cast (j : Nat) : ((2 : Int) ^ j) = ((2 ^ j : Nat) : Int) := by simp

/-- What a node reads of told members, bit by bit. -/
theorem and_bit {m : Int} {n j : Nat} (h0 : 0 ≤ m) (h1 : m < 2 ^ n) (hn : n ≤ 16) (hj : j < n) : (bits BinOp.and .i64 m (2 ^ j) != 0) = tb m j := by
  have p1 : (2 : Int) ^ n ≤ 2 ^ 16 := pow_le hn
  have p2 : (2 : Int) ^ j ≤ 2 ^ 16 := pow_le (by omega)
  have p3 : (2 : Int) ^ 16 = 65536 := by decide
  obtain ⟨a, rfl⟩ := Int.eq_ofNat_of_zero_le h0
  have hb : (2 : Nat) ^ j < 9223372036854775808 := by
    have : ((2 ^ j : Nat) : Int) ≤ 65536 := by rw [← pow_cast]; omega
    omega
  rw [pow_cast, i64_and_nat a (2 ^ j) (by omega) hb]
  unfold tb
  rw [Int.toNat_natCast, ← and_pow_ne]
  cases e : (a &&& 2 ^ j) != 0
  · have : a &&& 2 ^ j = 0 := by simpa using e
    rw [this]; rfl
  · have : a &&& 2 ^ j ≠ 0 := by simpa using e
    simp only [bne_iff_ne, ne_eq]
    omega

/-- The bits of the number of some members are those members. -/
theorem tb_bitsV (s : Nat → Bool) : ∀ n j, tb (bitsV s n) j = (decide (j < n) && s j)
  | 0, j => by unfold tb; simp [bitsV]
  | n + 1, j => by
    have ih := tb_bitsV s n j
    have hb := bitsV_in s n
    unfold tb at ih ⊢
    obtain ⟨a, ha⟩ := Int.eq_ofNat_of_zero_le hb.1
    have hlt : a < 2 ^ n := by
      have := hb.2
      rw [ha, pow_cast] at this
      omega
    simp only [bitsV]
    rw [ha] at ih ⊢
    rw [Int.toNat_natCast] at ih
    cases hs : s n
    · simp only [Bool.false_eq_true, if_false, Int.add_zero]
      rw [Int.toNat_natCast, ih]
      by_cases e : j = n
      · subst e; rw [hs]; simp
      · congr 1
        exact decide_eq_decide.2 (by omega)
    · simp only [if_true]
      rw [pow_cast, show ((a : Int) + ((2 ^ n : Nat) : Int)).toNat = 2 ^ n * 1 + a by omega, Nat.two_pow_add_eq_or_of_lt hlt, Nat.testBit_or, ih, Nat.mul_one, Nat.testBit_two_pow]
      by_cases e : n = j
      · subst e; rw [hs]; simp
      · rw [decide_eq_false e, Bool.false_or]
        congr 1
        exact decide_eq_decide.2 (by omega)

/-- A number of so many bits is the number of its bits. -/
theorem bitsV_tb {m : Int} {n : Nat} (h0 : 0 ≤ m) (h1 : m < 2 ^ n) : bitsV (tb m) n = m := by
  have hb := bitsV_in (tb m) n
  have e : (bitsV (tb m) n).toNat = m.toNat := Nat.eq_of_testBit_eq fun i => by
    have this : (bitsV (tb m) n).toNat.testBit i = (decide (i < n) && m.toNat.testBit i) := tb_bitsV (tb m) n i
    rw [this]
    by_cases hi : i < n
    · rw [decide_eq_true hi, Bool.true_and]
    · rw [decide_eq_false hi, Bool.false_and]
      refine (Nat.testBit_lt_two_pow ?_).symm
      have h2 : m.toNat < 2 ^ n := by
        have : ((m.toNat : Nat) : Int) < ((2 ^ n : Nat) : Int) := by rw [← pow_cast]; omega
        omega
      exact Nat.lt_of_lt_of_le h2 (Nat.pow_le_pow_right (by decide) (by omega))
  omega
/-- Two numbers of so many bits are one where their bits are. -/
theorem bitsV_inj {s t : Nat → Bool} {n : Nat} (h : bitsV s n = bitsV t n) : ∀ j, j < n → s j = t j := fun j hj => by
  have a := tb_bitsV s n j
  have b := tb_bitsV t n j
  rw [h, b, decide_eq_true hj] at a
  simpa using a.symm
theorem bitsV_congr {s t : Nat → Bool} : ∀ {n : Nat}, (∀ j, j < n → s j = t j) → bitsV s n = bitsV t n
  | 0, _ => rfl
  | n + 1, h => by
    simp only [bitsV]
    rw [bitsV_congr (n := n) fun j hj => h j (by omega), h n (by omega)]
end Go.Proofs.Ytjppjdocncmkdab
