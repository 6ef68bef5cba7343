/- Bits of ints that are not below 0 (plain). -/
import Derived.Laws.BitsAllLaws
import Derived.Test.YtdmokcnoljlogaaGreatDoorWordsA
namespace Go.Proofs.YtdmokcnoljlogaaGreatDoor

theorem wrap_nat (n : Nat) (h : n < 9223372036854775808) : IntKind.i64.wrap (n : Int) = (n : Int) := by
  simp [IntKind.wrap, IntKind.bits, IntKind.signed]; omega
theorem i64_or_nat (a b : Nat) (ha : a < 9223372036854775808) (hb : b < 9223372036854775808) : bits .or .i64 (a : Int) (b : Int) = ((a ||| b : Nat) : Int) := by
  show IntKind.i64.wrap ((BitVec.ofInt 64 (a : Int) ||| BitVec.ofInt 64 (b : Int)).toNat : Int) = _
  rw [BitVec.toNat_or, ofInt_u64 a (by omega), ofInt_u64 b (by omega)]
  exact wrap_nat _ (Nat.or_lt_two_pow (n := 63) ha hb)
theorem i64_and_nat (a b : Nat) (ha : a < 9223372036854775808) (hb : b < 9223372036854775808) : bits .and .i64 (a : Int) (b : Int) = ((a &&& b : Nat) : Int) := by
  show IntKind.i64.wrap ((BitVec.ofInt 64 (a : Int) &&& BitVec.ofInt 64 (b : Int)).toNat : Int) = _
  rw [BitVec.toNat_and, ofInt_u64 a (by omega), ofInt_u64 b (by omega)]
  exact wrap_nat _ (Nat.and_lt_two_pow (n := 63) a hb)
theorem i64_xor_nat (a b : Nat) (ha : a < 9223372036854775808) (hb : b < 9223372036854775808) : bits .xor .i64 (a : Int) (b : Int) = ((a ^^^ b : Nat) : Int) := by
  show IntKind.i64.wrap ((BitVec.ofInt 64 (a : Int) ^^^ BitVec.ofInt 64 (b : Int)).toNat : Int) = _
  rw [BitVec.toNat_xor, ofInt_u64 a (by omega), ofInt_u64 b (by omega)]
  exact wrap_nat _ (Nat.xor_lt_two_pow (n := 63) ha hb)
theorem or_bytes (a b : Nat) (ha : a < 256) (hb : b < 256) : bits .or .i64 ((a : Int) * 256) (b : Int) = ((a * 256 + b : Nat) : Int) := by
  have h := i64_or_nat (a * 256) b (by omega) (by omega)
  have e : a * 256 ||| b = a * 256 + b := by
    rw [show a * 256 = 2 ^ 8 * a by omega, ← Nat.two_pow_add_eq_or_of_lt (i := 8) hb]
  rw [e] at h
  rw [← h]; congr 1
end Go.Proofs.YtdmokcnoljlogaaGreatDoor

/- Members as a number and bit by bit: one is the other one (ahead of stage 6). -/
namespace Go.Proofs.YtdmokcnoljlogaaGreatDoor

/-- A number's bit. -/
def tb (m : Int) (j : Nat) : Bool := m.toNat.testBit j

theorem and_pow_ne (a j : Nat) : ((a &&& 2 ^ j) != 0) = a.testBit j := by
  cases h : a.testBit j
  · have : a &&& 2 ^ j = 0 := Nat.eq_of_testBit_eq fun i => by
      rw [Nat.testBit_and, Nat.testBit_two_pow, Nat.zero_testBit]
      by_cases e : j = i
      · subst e; rw [h]; rfl
      · rw [decide_eq_false e, Bool.and_false]
    rw [this]; rfl
  · have : a &&& 2 ^ j ≠ 0 := fun e => by
      have g : (a &&& 2 ^ j).testBit j = true := by rw [Nat.testBit_and, Nat.testBit_two_pow_self, h]; rfl
      rw [e, Nat.zero_testBit] at g
      cases g
    simpa using this

theorem pow_cast (j : Nat) : ((2 : Int) ^ j) = ((2 ^ j : Nat) : Int) := by simp

/-- What a node reads of told members, bit by bit. -/
theorem and_bit {m : Int} {n j : Nat} (h0 : 0 ≤ m) (h1 : m < 2 ^ n) (hn : n ≤ 16) (hj : j < n) : (bits BinOp.and .i64 m (2 ^ j) != 0) = tb m j := by
  have p1 : (2 : Int) ^ n ≤ 2 ^ 16 := pow_le hn
  have p2 : (2 : Int) ^ j ≤ 2 ^ 16 := pow_le (by omega)
  have p3 : (2 : Int) ^ 16 = 65536 := by decide
  obtain ⟨a, rfl⟩ := Int.eq_ofNat_of_zero_le h0
  have hb : (2 : Nat) ^ j < 9223372036854775808 := by
    have : ((2 ^ j : Nat) : Int) ≤ 65536 := by rw [← pow_cast]; omega
    omega
  rw [pow_cast, i64_and_nat a (2 ^ j) (by omega) hb]
  unfold tb
  rw [Int.toNat_natCast, ← and_pow_ne]
  cases e : (a &&& 2 ^ j) != 0
  · have : a &&& 2 ^ j = 0 := by simpa using e
    rw [this]; rfl
  · have : a &&& 2 ^ j ≠ 0 := by simpa using e
    simp only [bne_iff_ne, ne_eq]
    omega

/-- The bits of the number of some members are those members. -/
theorem tb_bitsV (s : Nat → Bool) : ∀ n j, tb (bitsV s n) j = (decide (j < n) && s j)
  | 0, j => by unfold tb; simp [bitsV]
  | n + 1, j => by
    have ih := tb_bitsV s n j
    have hb := bitsV_in s n
    unfold tb at ih ⊢
    obtain ⟨a, ha⟩ := Int.eq_ofNat_of_zero_le hb.1
    have hlt : a < 2 ^ n := by
      have := hb.2
      rw [ha, pow_cast] at this
      omega
    simp only [bitsV]
    rw [ha] at ih ⊢
    rw [Int.toNat_natCast] at ih
    cases hs : s n
    · simp only [Bool.false_eq_true, if_false, Int.add_zero]
      rw [Int.toNat_natCast, ih]
      by_cases e : j = n
      · subst e; rw [hs]; simp
      · congr 1
        exact decide_eq_decide.2 (by omega)
    · simp only [if_true]
      rw [pow_cast, show ((a : Int) + ((2 ^ n : Nat) : Int)).toNat = 2 ^ n * 1 + a by omega, Nat.two_pow_add_eq_or_of_lt hlt, Nat.testBit_or, ih, Nat.mul_one, Nat.testBit_two_pow]
      by_cases e : n = j
      · subst e; rw [hs]; simp
      · rw [decide_eq_false e, Bool.false_or]
        congr 1
        exact decide_eq_decide.2 (by omega)

/-- A number of so many bits is the number of its bits. -/
theorem bitsV_tb {m : Int} {n : Nat} (h0 : 0 ≤ m) (h1 : m < 2 ^ n) : bitsV (tb m) n = m := by
  have hb := bitsV_in (tb m) n
  have e : (bitsV (tb m) n).toNat = m.toNat := Nat.eq_of_testBit_eq fun i => by
    have this : (bitsV (tb m) n).toNat.testBit i = (decide (i < n) && m.toNat.testBit i) := tb_bitsV (tb m) n i
    rw [this]
    by_cases hi : i < n
    · rw [decide_eq_true hi, Bool.true_and]
    · rw [decide_eq_false hi, Bool.false_and]
      refine (Nat.testBit_lt_two_pow ?_).symm
      have h2 : m.toNat < 2 ^ n := by
        have : ((m.toNat : Nat) : Int) < ((2 ^ n : Nat) : Int) := by rw [← pow_cast]; omega
        omega
      exact Nat.lt_of_lt_of_le h2 (Nat.pow_le_pow_right (by decide) (by omega))
  omega
/-- Two numbers of so many bits are one where their bits are. -/
theorem bitsV_inj {s t : Nat → Bool} {n : Nat} (h : bitsV s n = bitsV t n) : ∀ j, j < n → s j = t j := fun j hj => by
  have a := tb_bitsV s n j
  have b := tb_bitsV t n j
  rw [h, b, decide_eq_true hj] at a
  simpa using a.symm
theorem bitsV_congr {s t : Nat → Bool} : ∀ {n : Nat}, (∀ j, j < n → s j = t j) → bitsV s n = bitsV t n
  | 0, _ => rfl
  | n + 1, h => by
    simp only [bitsV]
    rw [bitsV_congr (n := n) fun j hj => h j (by omega), h n (by omega)]
end Go.Proofs.YtdmokcnoljlogaaGreatDoor

/- Members as a number: what becomes of it where one bit is laid or taken; told members against one's own; members that are none. -/
namespace Go.Proofs.YtdmokcnoljlogaaGreatDoor

theorem i64_andNot_nat (a b : Nat) (ha : a < 9223372036854775808) (hb : b < 9223372036854775808) : bits .andNot .i64 (a : Int) (b : Int) = ((a &&& (18446744073709551615 - b) : Nat) : Int) := by
  show IntKind.i64.wrap ((BitVec.ofInt 64 (a : Int) &&& ~~~BitVec.ofInt 64 (b : Int)).toNat : Int) = _
  rw [BitVec.toNat_and, BitVec.toNat_not, ofInt_u64 a (by omega), ofInt_u64 b (by omega)]
  have e : 2 ^ 64 - 1 - b = 18446744073709551615 - b := by omega
  rw [e]
  exact wrap_nat _ (Nat.lt_of_le_of_lt Nat.and_le_left ha)

theorem pow_nat_le {k n : Nat} (h : k ≤ n) : (2 : Nat) ^ k ≤ 2 ^ n := Nat.pow_le_pow_right (by decide) h
theorem pow_small {k : Nat} (h : k ≤ 16) : (2 : Nat) ^ k ≤ 65536 := pow_nat_le (n := 16) h

/-- A number is the number of some members where its bits are those. -/
theorem is_bitsV {a n : Nat} {s : Nat → Bool} (h : ∀ j, a.testBit j = (decide (j < n) && s j)) : (a : Int) = bitsV s n := by
  have hb := (bitsV_in s n).1
  have e : (bitsV s n).toNat = a := Nat.eq_of_testBit_eq fun i => by
    rw [h i]; exact tb_bitsV s n i
  omega
theorem bitsV_nat (t : Nat → Bool) (n : Nat) : ∃ a : Nat, bitsV t n = (a : Int) ∧ a < 2 ^ n ∧ ∀ j, a.testBit j = (decide (j < n) && t j) := by
  have hb := bitsV_in t n
  refine ⟨(bitsV t n).toNat, by omega, ?_, fun j => tb_bitsV t n j⟩
  have : (((bitsV t n).toNat : Nat) : Int) < ((2 ^ n : Nat) : Int) := by rw [← pow_cast]; omega
  omega

theorem or_bit (t : Nat → Bool) {n k : Nat} (hn : n ≤ 16) (hk : k < n) : bits BinOp.or .i64 (bitsV t n) (2 ^ k) = bitsV (fun j => if j = k then true else t j) n := by
  obtain ⟨a, ha, hl, hb⟩ := bitsV_nat t n
  have p1 := pow_small hn
  have p2 := pow_small (k := k) (by omega)
  rw [ha, pow_cast, i64_or_nat a (2 ^ k) (by omega) (by omega)]
  refine is_bitsV fun j => ?_
  rw [Nat.testBit_or, hb, Nat.testBit_two_pow]
  by_cases e : k = j
  · subst e; simp [hk]
  · rw [decide_eq_false e, Bool.or_false, if_neg (Ne.symm e)]

theorem clear_bit (t : Nat → Bool) {n k : Nat} (hn : n ≤ 16) (hk : k < n) : bits BinOp.andNot .i64 (bitsV t n) (2 ^ k) = bitsV (fun j => if j = k then false else t j) n := by
  obtain ⟨a, ha, hl, hb⟩ := bitsV_nat t n
  have p1 := pow_small hn
  have p2 := pow_small (k := k) (by omega)
  rw [ha, pow_cast, i64_andNot_nat a (2 ^ k) (by omega) (by omega)]
  refine is_bitsV fun j => ?_
  rw [show 18446744073709551615 - 2 ^ k = 2 ^ 64 - (2 ^ k + 1) by omega, Nat.testBit_and, Nat.testBit_two_pow_sub_succ (by omega), hb, Nat.testBit_two_pow]
  by_cases e : k = j
  · subst e; simp
  · rw [decide_eq_false e, Bool.not_false, Bool.and_true, if_neg (Ne.symm e)]
    by_cases q : j < n
    · rw [decide_eq_true q, decide_eq_true (show j < 64 by omega), Bool.and_true]
    · rw [decide_eq_false q]; rfl

theorem all_bits : ∀ n, bitsV (fun _ => true) n = 2 ^ n - 1
  | 0 => rfl
  | n + 1 => by
    have h := all_bits n
    have e : (2 : Int) ^ (n + 1) = 2 ^ n * 2 := Int.pow_succ 2 n
    simp only [bitsV]
    rw [h, if_pos trivial]; omega

/-- What is told is good where it is one's own members with the teller's bit. -/
theorem told_good (t : Nat → Bool) {n k : Nat} (hk : k < n) (m : Int) : m = bitsV (fun j => if j = k then true else t j) n ↔ 0 ≤ m ∧ m < 2 ^ n ∧ judB n k (tb m) t = true := by
  constructor
  · intro e
    have hb := bitsV_in (fun j => if j = k then true else t j) n
    refine ⟨by omega, by omega, judB_iff.2 ⟨?_, fun j hj hne => ?_⟩⟩
    · rw [e, tb_bitsV, decide_eq_true hk]; simp
    · rw [e, tb_bitsV, decide_eq_true hj, if_neg hne]; rfl
  · rintro ⟨h0, h1, h2⟩
    obtain ⟨g1, g2⟩ := judB_iff.1 h2
    rw [← bitsV_tb h0 h1]
    refine bitsV_congr fun j hj => ?_
    by_cases e : j = k
    · subst e; rw [if_pos rfl]; exact g1
    · rw [if_neg e]; exact g2 j hj e

theorem back_bits {m : Int} {n k : Nat} (hn : n ≤ 16) (hk : k < n) (h0 : 0 ≤ m) (h1 : m < 2 ^ n) : bits BinOp.or .i64 m (2 ^ k) = bitsV (fun j => tb m j || decide ((j : Int) = (k : Int))) n := by
  have h := or_bit (tb m) hn hk
  rw [bitsV_tb h0 h1] at h
  rw [h]
  refine bitsV_congr fun j hj => ?_
  by_cases e : j = k
  · subst e; simp
  · rw [if_neg e, decide_eq_false (by omega), Bool.or_false]

/-- Members that are none: bits beyond. -/
theorem rest_bits {m : Int} {n : Nat} (hn : n ≤ 16) (h0 : -9223372036854775808 ≤ m) (h1 : m < 9223372036854775808) : (bits BinOp.andNot .i64 m (2 ^ n - 1) != 0) = !decide (0 ≤ m ∧ m < 2 ^ n) := by
  have p1 := pow_small hn
  have p0 : 0 < (2 : Nat) ^ n := Nat.pow_pos (by decide)
  obtain ⟨A, hA⟩ : ∃ A, (BitVec.ofInt 64 m).toNat = A := ⟨_, rfl⟩
  have hA2 : (A : Int) = m % 18446744073709551616 := by
    rw [← hA, BitVec.toNat_ofInt]
    omega
  have hAl : A < 2 ^ 64 := by rw [← hA]; exact (BitVec.ofInt 64 m).isLt
  have e1 : ((2 : Int) ^ n - 1) = ((2 ^ n - 1 : Nat) : Int) := by rw [pow_cast]; omega
  obtain ⟨X, hX⟩ : ∃ X, A &&& (2 ^ 64 - ((2 ^ n - 1) + 1)) = X := ⟨_, rfl⟩
  have hXl : X < 2 ^ 64 := by rw [← hX]; exact Nat.lt_of_le_of_lt Nat.and_le_left hAl
  have eB : bits BinOp.andNot .i64 m (2 ^ n - 1) = IntKind.i64.wrap (X : Int) := by
    show IntKind.i64.wrap ((BitVec.ofInt 64 m &&& ~~~BitVec.ofInt 64 (2 ^ n - 1)).toNat : Int) = _
    rw [e1, BitVec.toNat_and, BitVec.toNat_not, hA, ofInt_u64 (2 ^ n - 1) (by omega)]
    rw [← hX]
    congr 3
    omega
  have hz : IntKind.i64.wrap (X : Int) = 0 ↔ X = 0 := by
    simp [IntKind.wrap, IntKind.bits, IntKind.signed]; omega
  have hbit : ∀ i, X.testBit i = (A.testBit i && (decide (i < 64) && !decide (i < n))) := fun i => by
    rw [← hX, Nat.testBit_and, Nat.testBit_two_pow_sub_succ (by omega), Nat.testBit_two_pow_sub_one]
  have hX0 : X = 0 ↔ A < 2 ^ n := by
    constructor
    · intro e
      refine Nat.lt_pow_two_of_testBit A fun i hi => ?_
      by_cases q : i < 64
      · have := hbit i
        rw [e, Nat.zero_testBit, decide_eq_true q, decide_eq_false (by omega)] at this
        simpa using this.symm
      · exact Nat.testBit_lt_two_pow (Nat.lt_of_lt_of_le hAl (pow_nat_le (by omega)))
    · intro hlt
      refine Nat.eq_of_testBit_eq fun i => ?_
      rw [hbit, Nat.zero_testBit]
      by_cases q : i < n
      · rw [decide_eq_true q]; simp
      · rw [Nat.testBit_lt_two_pow (Nat.lt_of_lt_of_le hlt (pow_nat_le (by omega)))]; rfl
  have hm : A < 2 ^ n ↔ (0 ≤ m ∧ m < 2 ^ n) := by
    rw [pow_cast]
    constructor <;> intro q <;> omega
  rw [eB]
  by_cases q : 0 ≤ m ∧ m < 2 ^ n
  · rw [decide_eq_true q, hz.2 (hX0.2 (hm.2 q))]; rfl
  · rw [decide_eq_false q, Bool.not_false]
    simp only [bne_iff_ne, ne_eq]
    intro e
    exact q (hm.1 (hX0.1 (hz.1 e)))
end Go.Proofs.YtdmokcnoljlogaaGreatDoor

/- A number's bit, of any whole number, as programs read it (ahead of stage 9). -/
namespace Go.Proofs.YtdmokcnoljlogaaGreatDoor

theorem ofInt_any (x : Int) : (BitVec.ofInt 64 x).toNat = (x % 18446744073709551616).toNat := by
  rw [BitVec.toNat_ofInt]
  rfl
/-- A shift, and the last bit. -/
theorem bit_shift (x : Int) (j : Nat) : (bits BinOp.and .i64 (x / 2 ^ j) 1 == 1) = bitI x j := by
  have e : bits BinOp.and .i64 (x / 2 ^ j) 1 = x / 2 ^ j % 2 := by
    show IntKind.i64.wrap ((BitVec.ofInt 64 (x / 2 ^ j) &&& BitVec.ofInt 64 1).toNat : Int) = _
    rw [BitVec.toNat_and, ofInt_any, ofInt_any]
    generalize x / 2 ^ j = y
    have h1 : ((1 : Int) % 18446744073709551616).toNat = 1 := by decide
    rw [h1, Nat.and_one_is_mod]
    have h2 : ((y % 18446744073709551616).toNat % 2 : Nat) < 9223372036854775808 := by omega
    rw [wrap_nat _ h2]
    omega
  rw [e]
  unfold bitI
  by_cases h : x / 2 ^ j % 2 = 1
  · rw [h]; rfl
  · rw [decide_eq_false h]
    simpa using h
/-- Held against one bit. -/
theorem bit_and (x : Int) {j : Nat} (hj : j ≤ 62) : (bits BinOp.and .i64 x (2 ^ j) != 0) = bitI x j := by
  have hp : (2 : Nat) ^ j ≤ 2 ^ 62 := Nat.pow_le_pow_right (by decide) hj
  have hp2 : (2 : Nat) ^ 62 = 4611686018427387904 := by decide
  have hq : (((2 : Int) ^ j) % 18446744073709551616).toNat = 2 ^ j := by
    have h : ∀ T : Nat, T ≤ 4611686018427387904 → ((T : Int) % 18446744073709551616).toNat = T := fun T h => by omega
    rw [pow_cast]
    exact h _ (by rw [← hp2]; exact hp)
  obtain ⟨X, hX⟩ : ∃ X : Nat, (x % 18446744073709551616).toNat = X := ⟨_, rfl⟩
  have hlt : X &&& 2 ^ j ≤ 2 ^ j := Nat.and_le_right
  have e : bits BinOp.and .i64 x (2 ^ j) = ((X &&& 2 ^ j : Nat) : Int) := by
    show IntKind.i64.wrap ((BitVec.ofInt 64 x &&& BitVec.ofInt 64 (2 ^ j)).toNat : Int) = _
    rw [BitVec.toNat_and, ofInt_any, ofInt_any, hq, hX]
    exact wrap_nat _ (by omega)
  rw [e]
  have h1 : ((((X &&& 2 ^ j : Nat) : Int)) != 0) = ((X &&& 2 ^ j) != 0) := by
    cases h : (X &&& 2 ^ j) != 0
    · have : X &&& 2 ^ j = 0 := by simpa using h
      rw [this]; rfl
    · have : X &&& 2 ^ j ≠ 0 := by simpa using h
      simp only [bne_iff_ne, ne_eq]
      omega
  rw [h1, and_pow_ne, Nat.testBit_eq_decide_div_mod_eq]
  unfold bitI
  obtain ⟨q, hqx⟩ : ∃ q : Int, x = X + 18446744073709551616 * q := ⟨x / 18446744073709551616, by omega⟩
  have hpos : (0 : Int) < 2 ^ j := by rw [pow_cast]; exact_mod_cast Nat.two_pow_pos j
  have h64 : (18446744073709551616 : Int) = 2 ^ j * (2 * 2 ^ (63 - j)) := by
    have : (2 : Int) ^ j * (2 * 2 ^ (63 - j)) = 2 ^ (j + (1 + (63 - j))) := by rw [Int.pow_add, Int.pow_add]; rfl
    rw [this, show j + (1 + (63 - j)) = 64 by omega]
    decide
  have h2 : x / 2 ^ j = (X : Int) / 2 ^ j + 2 * 2 ^ (63 - j) * q := by
    rw [hqx, h64, Int.mul_assoc, Int.add_mul_ediv_left _ _ (by omega)]
  have h3 : x / 2 ^ j % 2 = (X : Int) / 2 ^ j % 2 := by
    rw [h2, Int.mul_assoc, Int.add_mul_emod_self_left]
  rw [h3, pow_cast]
  congr 1
  apply propext
  constructor
  · intro h; exact_mod_cast h
  · intro h; exact_mod_cast h
end Go.Proofs.YtdmokcnoljlogaaGreatDoor

/- What holds of a cluster holds behind a round: CLOCKS STAY TOGETHER, of plain numbers (ahead of stage 9). -/
namespace Go.Proofs.YtdmokcnoljlogaaGreatDoor

theorem foldl_max_mem (l : List Int) : ∀ x, x ≤ l.foldl max x ∧ ∀ y ∈ l, y ≤ l.foldl max x := by
  induction l with
  | nil => intro x; exact ⟨Int.le_refl _, fun y hy => (by cases hy)⟩
  | cons a l ih =>
    intro x
    have h := ih (max x a)
    simp only [List.foldl_cons]
    refine ⟨by omega, fun y hy => ?_⟩
    rcases List.mem_cons.1 hy with rfl | q
    · omega
    · exact h.2 y q
theorem foldl_max_in (l : List Int) : ∀ x, l.foldl max x = x ∨ l.foldl max x ∈ l := by
  induction l with
  | nil => intro x; exact .inl rfl
  | cons a l ih =>
    intro x
    simp only [List.foldl_cons]
    rcases ih (max x a) with h | h
    · rw [h]
      by_cases q : x ≤ a
      · rw [Int.max_eq_right q]; exact .inr (List.mem_cons.2 (.inl rfl))
      · rw [Int.max_eq_left (by omega)]; exact .inl rfl
    · exact .inr (List.mem_cons.2 (.inr h))
theorem foldl_min_mem (l : List Int) : ∀ x, l.foldl min x ≤ x ∧ ∀ y ∈ l, l.foldl min x ≤ y := by
  induction l with
  | nil => intro x; exact ⟨Int.le_refl _, fun y hy => (by cases hy)⟩
  | cons a l ih =>
    intro x
    have h := ih (min x a)
    simp only [List.foldl_cons]
    refine ⟨by omega, fun y hy => ?_⟩
    rcases List.mem_cons.1 hy with rfl | q
    · omega
    · exact h.2 y q
theorem foldl_min_in (l : List Int) : ∀ x, l.foldl min x = x ∨ l.foldl min x ∈ l := by
  induction l with
  | nil => intro x; exact .inl rfl
  | cons a l ih =>
    intro x
    simp only [List.foldl_cons]
    rcases ih (min x a) with h | h
    · rw [h]
      by_cases q : a ≤ x
      · rw [Int.min_eq_right q]; exact .inr (List.mem_cons.2 (.inl rfl))
      · rw [Int.min_eq_left (by omega)]; exact .inl rfl
    · exact .inr (List.mem_cons.2 (.inr h))
theorem spreadL_le {l : List Int} {K : Int} (hK : 0 ≤ K) : spreadL l ≤ K ↔ ∀ x ∈ l, ∀ y ∈ l, x - y ≤ K := by
  unfold spreadL
  constructor
  · intro h x hx y hy
    have h1 := (foldl_max_mem l (l.headD 0)).2 x hx
    have h2 := (foldl_min_mem l (l.headD 0)).2 y hy
    omega
  · intro h
    cases l with
    | nil => simpa using hK
    | cons a l =>
      have hm : (a :: l).foldl max ((a :: l).headD 0) ∈ a :: l := by
        rcases foldl_max_in (a :: l) ((a :: l).headD 0) with q | q
        · rw [q]; exact List.mem_cons.2 (.inl rfl)
        · exact q
      have hn : (a :: l).foldl min ((a :: l).headD 0) ∈ a :: l := by
        rcases foldl_min_in (a :: l) ((a :: l).headD 0) with q | q
        · rw [q]; exact List.mem_cons.2 (.inl rfl)
        · exact q
      exact h _ hm _ hn
theorem near_iff {fa skew : Int} {cs : List Int} (hK : 0 ≤ skew) : spreadL (rightOf fa cs) ≤ skew ↔ Near1 cs.length (bitI fa) skew (fun i => cs.getD i 0) := by
  rw [spreadL_le hK]
  constructor
  · intro h i j hi oi hj oj
    have mem : ∀ i, i < cs.length → bitI fa i = false → cs.getD i 0 ∈ rightOf fa cs := fun i hi oi =>
      List.mem_map.2 ⟨i, List.mem_filter.2 ⟨List.mem_range.2 hi, by simp [oi]⟩, rfl⟩
    exact h _ (mem i hi oi) _ (mem j hj oj)
  · intro h x hx y hy
    obtain ⟨i, hi, rfl⟩ := List.mem_map.1 hx
    obtain ⟨j, hj, rfl⟩ := List.mem_map.1 hy
    have hi := List.mem_filter.1 hi
    have hj := List.mem_filter.1 hj
    exact h i j (List.mem_range.1 hi.1) (by simpa using hi.2) (List.mem_range.1 hj.1) (by simpa using hj.2)
theorem cluTo_len (p : PlanN) (fa : Int) (cs : List Int) (r : RoundN) : (cluTo p fa cs r).length = p.n := by simp [cluTo]
theorem cluTo_get (p : PlanN) (fa : Int) (cs : List Int) (r : RoundN) {i : Nat} (h : i < p.n) : (cluTo p fa cs r).getD i 0 = clocksTo p.n p.faulty.toNat (bitI fa) p.jitter p.drift (fun i => cs.getD i 0) r.reads r.drifts i := by
  simp [cluTo, List.getD, h]
/-- CLOCKS STAY TOGETHER. -/
theorem CluOk.next {p : PlanN} {fa : Int} {cs : List Int} (h : CluOk p fa cs) (r : RoundN) (hf : cluFar p fa cs r = false) : CluOk p fa (cluTo p fa cs r) := by
  have hb := h.plan.bounds
  refine ⟨h.plan, h.f0, h.f1, h.fc, cluTo_len p fa cs r, fun c hc => ?_, ?_⟩
  · obtain ⟨i, hi, rfl⟩ := List.mem_map.1 hc
    unfold cluFar beyondB at hf
    rw [List.any_eq_false] at hf
    have := hf i hi
    simp only [decide_eq_true_eq] at this
    omega
  · rw [near_iff hb.s0, cluTo_len]
    have hn := (near_iff hb.s0).1 h.near
    rw [h.len] at hn
    have hN := hn.round (f := p.faulty.toNat) r.reads r.drifts h.fc (by have := hb.f3; have := hb.f0; have := hb.n1; unfold PlanN.n; omega) hb.j0 hb.d0 (by have := hb.sk; omega)
    intro i j hi oi hj oj
    show (cluTo p fa cs r).getD i 0 - (cluTo p fa cs r).getD j 0 ≤ p.skew
    rw [cluTo_get p fa cs r hi, cluTo_get p fa cs r hj]
    exact hN i j hi oi hj oj
end Go.Proofs.YtdmokcnoljlogaaGreatDoor
