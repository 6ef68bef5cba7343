/- Members as a number: what becomes of it where one bit is laid or taken; told members against one's own; members that are none. -/
import Derived.Test.YtjppjdocncmkdabMemberBits
import Derived.Test.YtjppjdocncmkdabMemberMath
namespace Go.Proofs.Ytjppjdocncmkdab

theorem i64_andNot_nat (a b : Nat) (ha : a < 9223372036854775808) (hb : b < 9223372036854775808) : bits .andNot .i64 (a : Int) (b : Int) = ((a &&& (18446744073709551615 - b) : Nat) : Int) := by
  show IntKind.i64.wrap ((BitVec.ofInt 64 (a : Int) &&& ~~~BitVec.ofInt 64 (b : Int)).toNat : Int) = _
  rw [BitVec.toNat_and, BitVec.toNat_not, ofInt_u64 a (by omega), ofInt_u64 b (by omega)]
  have e : 2 ^ 64 - 1 - b = 18446744073709551615 - b := by omega
  rw [e]
  exact wrap_nat _ (Nat.lt_of_le_of_lt Nat.and_le_left ha)

theorem pow_nat_le {k n : Nat} (h : k ≤ n) : (2 : Nat) ^ k ≤ 2 ^ n := Nat.pow_le_pow_right (by decide) h
theorem pow_small {k : Nat} (h : k ≤ 16) : (2 : Nat) ^ k ≤ 65536 := pow_nat_le (n := 16) h

/-- A number is the number of some members where its bits are those. -/
theorem is_bitsV {a n : Nat} {s : Nat → Bool} (h : ∀ j, a.testBit j = (decide (j < n) && s j)) : (a : Int) = bitsV s n := by
  have hb := (bitsV_in s n).1
  have e : (bitsV s n).toNat = a := Nat.eq_of_testBit_eq fun i => by
    rw [h i]; exact tb_bitsV s n i
  omega
theorem bitsV_nat (t : Nat → Bool) (n : Nat) : ∃ a : Nat, bitsV t n = (a : Int) ∧ a < 2 ^ n ∧ ∀ j, a.testBit j = (decide (j < n) && t j) := by
  have hb := bitsV_in t n
  refine ⟨(bitsV t n).toNat, by omega, ?_, fun j => tb_bitsV t n j⟩
  have : (((bitsV t n).toNat : Nat) : Int) < ((2 ^ n : Nat) : Int) := by rw [← pow_cast]; omega
  omega

theorem or_bit (t : Nat → Bool) {n k : Nat} (hn : n ≤ 16) (hk : k < n) : bits BinOp.or .i64 (bitsV t n) (2 ^ k) = bitsV (fun j => if j = k then true else t j) n := by
  obtain ⟨a, ha, hl, hb⟩ := bitsV_nat t n
  have p1 := pow_small hn
  have p2 := pow_small (k := k) (by omega)
  rw [ha, pow_cast, i64_or_nat a (2 ^ k) (by omega) (by omega)]
  refine is_bitsV fun j => ?_
  rw [Nat.testBit_or, hb, Nat.testBit_two_pow]
  by_cases e : k = j
  · subst e; simp [hk]
  · rw [decide_eq_false e, Bool.or_false, if_neg (Ne.symm e)]

theorem clear_bit (t : Nat → Bool) {n k : Nat} (hn : n ≤ 16) (hk : k < n) : bits BinOp.andNot .i64 (bitsV t n) (2 ^ k) = bitsV (fun j => if j = k then false else t j) n := by
  obtain ⟨a, ha, hl, hb⟩ := bitsV_nat t n
  have p1 := pow_small hn
  have p2 := pow_small (k := k) (by omega)
  rw [ha, pow_cast, i64_andNot_nat a (2 ^ k) (by omega) (by omega)]
  refine is_bitsV fun j => ?_
  rw [show 18446744073709551615 - 2 ^ k = 2 ^ 64 - (2 ^ k + 1) by omega, Nat.testBit_and, Nat.testBit_two_pow_sub_succ (by omega), hb, Nat.testBit_two_pow]
  by_cases e : k = j
  · subst e; simp
  · rw [decide_eq_false e, Bool.not_false, Bool.and_true, if_neg (Ne.symm e)]
    by_cases q : j < n
    · rw [decide_eq_true q, decide_eq_true (show j < 64 by omega), Bool.and_true]
    · rw [decide_eq_false q]; rfl

theorem all_bits : ∀ n, bitsV (fun _ => true) n = 2 ^ n - 1
  | 0 => rfl
  | n + 1 => by
    have h := all_bits n
    have e : (2 : Int) ^ (n + 1) = 2 ^ n * 2 := Int.pow_succ 2 n
    simp only [bitsV]
    rw [h, if_pos trivial]; omega

/-- What is told is good where it is one's own members with the teller's bit. -/
theorem told_good (t : Nat → Bool) {n k : Nat} (hk : k < n) (m : Int) : m = bitsV (fun j => if j = k then true else t j) n ↔ 0 ≤ m ∧ m < 2 ^ n ∧ judB n k (tb m) t = true := by
  constructor
  · intro e
    have hb := bitsV_in (fun j => if j = k then true else t j) n
    refine ⟨by omega, by omega, judB_iff.2 ⟨?_, fun j hj hne => ?_⟩⟩
    · rw [e, tb_bitsV, decide_eq_true hk]; simp
    · rw [e, tb_bitsV, decide_eq_true hj, if_neg hne]; rfl
  · rintro ⟨h0, h1, h2⟩
    obtain ⟨g1, g2⟩ := judB_iff.1 h2
    rw [← bitsV_tb h0 h1]
    refine bitsV_congr fun j hj => ?_
    by_cases e : j = k
    · subst e; rw [if_pos rfl]; exact g1
    · rw [if_neg e]; exact g2 j hj e

theorem back_bits {m : Int} {n k : Nat} (hn : n ≤ 16) (hk : k < n) (h0 : 0 ≤ m) (h1 : m < 2 ^ n) : bits BinOp.or .i64 m (2 ^ k) = bitsV (fun j => tb m j || decide ((j : Int) = (k : Int))) n := by
  have h := or_bit (tb m) hn hk
  rw [bitsV_tb h0 h1] at h
  rw [h]
  refine bitsV_congr fun j hj => ?_
  by_cases e : j = k
  · subst e; simp
  · rw [if_neg e, decide_eq_false (by omega), Bool.or_false]

/-- Members that are none: bits beyond. -/
theorem rest_bits {m : Int} {n : Nat} (hn : n ≤ 16) (h0 : -9223372036854775808 ≤ m) (h1 : m < 9223372036854775808) : (bits BinOp.andNot .i64 m (2 ^ n - 1) != 0) = !decide (0 ≤ m ∧ m < 2 ^ n) := by
  have p1 := pow_small hn
  have p0 : 0 < (2 : Nat) ^ n := Nat.pow_pos (by decide)
  obtain ⟨A, hA⟩ : ∃ A, (BitVec.ofInt 64 m).toNat = A := ⟨_, rfl⟩
  have hA2 : (A : Int) = m % 18446744073709551616 := by
    rw [← hA, BitVec.toNat_ofInt]
    omega
  have hAl : A < 2 ^ 64 := by rw [← hA]; exact (BitVec.ofInt 64 m).isLt
  have e1 : ((2 : Int) ^ n - 1) = ((2 ^ n - 1 : Nat) : Int) := by rw [pow_cast]; omega
  obtain ⟨X, hX⟩ : ∃ X, A &&& (2 ^ 64 - ((2 ^ n - 1) + 1)) = X := ⟨_, rfl⟩
  have hXl : X < 2 ^ 64 := by rw [← hX]; exact Nat.lt_of_le_of_lt Nat.and_le_left hAl
  have eB : bits BinOp.andNot .i64 m (2 ^ n - 1) = IntKind.i64.wrap (X : Int) := by
    show IntKind.i64.wrap ((BitVec.ofInt 64 m &&& ~~~BitVec.ofInt 64 (2 ^ n - 1)).toNat : Int) = _
    rw [e1, BitVec.toNat_and, BitVec.toNat_not, hA, ofInt_u64 (2 ^ n - 1) (by omega)]
    rw [← hX]
    congr 3
    omega
  have hz : IntKind.i64.wrap (X : Int) = 0 ↔ X = 0 := by
    simp [IntKind.wrap, IntKind.bits, IntKind.signed]; omega
  have hbit : ∀ i, X.testBit i = (A.testBit i && (decide (i < 64) && !decide (i < n))) := fun i => by
    rw [← hX, Nat.testBit_and, Nat.testBit_two_pow_sub_succ (by omega), Nat.testBit_two_pow_sub_one]
  have hX0 : X = 0 ↔ A < 2 ^ n := by
    constructor
    · intro e
      refine Nat.lt_pow_two_of_testBit A fun i hi => ?_
      by_cases q : i < 64
      · have := hbit i
        rw [e, Nat.zero_testBit, decide_eq_true q, decide_eq_false (by omega)] at this
        simpa using this.symm
      · exact Nat.testBit_lt_two_pow (Nat.lt_of_lt_of_le hAl (pow_nat_le (by omega)))
    · intro hlt
      refine Nat.eq_of_testBit_eq fun i => ?_
      rw [hbit, Nat.zero_testBit]
      by_cases q : i < n
      · rw [decide_eq_true q]; simp
      · rw [Nat.testBit_lt_two_pow (Nat.lt_of_lt_of_le hlt (pow_nat_le (by omega)))]; rfl
  have hm : A < 2 ^ n ↔ (0 ≤ m ∧ m < 2 ^ n) := by
    rw [pow_cast]
    constructor <;> intro q <;> omega
  rw [eB]
  by_cases q : 0 ≤ m ∧ m < 2 ^ n
  · rw [decide_eq_true q, hz.2 (hX0.2 (hm.2 q))]; rfl
  · rw [decide_eq_false q, Bool.not_false]
    simp only [bne_iff_ne, ne_eq]
    intro e
    exact q (hm.1 (hX0.1 (hz.1 e)))
end Go.Proofs.Ytjppjdocncmkdab
