/- The cyclic sum of 16 bits, in whole numbers (plain): it is linear, loses nothing, and a burst of 16 bits is never 0. -/
namespace Go.Proofs.YtdboppcnnjacmaaDoor

/-- One step of the register. -/
def up (s : Nat) : Nat := if s.testBit 15 then (2 * s) % 65536 ^^^ 4129 else (2 * s) % 65536
/-- So many steps. -/
def ups : Nat → Nat → Nat
  | 0, s => s
  | n + 1, s => ups n (up s)
/-- A byte is taken in. -/
def upB (s c : Nat) : Nat := ups 8 (s ^^^ c * 256)
/-- Bytes are taken in, one behind the other. -/
def crcOf (s : Nat) (l : List Nat) : Nat := l.foldl upB s

theorem dbl_xor (a b : Nat) : 2 * (a ^^^ b) % 65536 = (2 * a % 65536) ^^^ (2 * b % 65536) := by
  have e : ∀ x : Nat, 2 * x = x <<< 1 := fun x => by rw [Nat.shiftLeft_eq]; omega
  rw [e, e, e, Nat.shiftLeft_xor_distrib]
  exact Nat.xor_mod_two_pow (n := 16)
theorem up_xor (a b : Nat) : up (a ^^^ b) = up a ^^^ up b := by
  unfold up
  rw [Nat.testBit_xor, dbl_xor]
  generalize 2 * a % 65536 = x
  generalize 2 * b % 65536 = y
  cases a.testBit 15 <;> cases b.testBit 15 <;> simp
  · rw [Nat.xor_assoc]
  · rw [Nat.xor_assoc, Nat.xor_assoc, Nat.xor_comm y 4129]
  · have : x ^^^ 4129 ^^^ (y ^^^ 4129) = x ^^^ y ^^^ (4129 ^^^ 4129) := by ac_rfl
    rw [this, Nat.xor_self, Nat.xor_zero]
theorem up_lt (s : Nat) : up s < 65536 := by
  unfold up
  split
  · exact Nat.xor_lt_two_pow (n := 16) (Nat.mod_lt _ (by decide)) (by decide)
  · exact Nat.mod_lt _ (by decide)
theorem up_zero : up 0 = 0 := by decide
theorem up_small {s : Nat} (h : s < 32768) : up s = 2 * s := by
  unfold up
  have : s.testBit 15 = false := Nat.testBit_lt_two_pow h
  rw [this]; simp; omega
theorem up_ne {s : Nat} (h : s < 65536) (hu : up s = 0) : s = 0 := by
  unfold up at hu
  split at hu
  · have : 2 * s % 65536 = 4129 := by
      have := congrArg (· ^^^ 4129) hu
      simpa [Nat.xor_assoc, Nat.xor_self] using this
    omega
  · rename_i hb
    have : s < 32768 := by
      rcases Nat.lt_or_ge s 32768 with q | q
      · exact q
      · exact absurd (by
          rw [Nat.testBit_eq_decide_div_mod_eq]
          have : s / 2 ^ 15 = 1 := by omega
          simp [this]) hb
    omega
theorem ups_xor : ∀ n a b, ups n (a ^^^ b) = ups n a ^^^ ups n b
  | 0, _, _ => rfl
  | n + 1, a, b => by show ups n (up (a ^^^ b)) = _; rw [up_xor]; exact ups_xor n _ _
theorem ups_add : ∀ n m s, ups (n + m) s = ups m (ups n s)
  | 0, m, s => by rw [Nat.zero_add]; rfl
  | n + 1, m, s => by rw [Nat.succ_add]; exact ups_add n m (up s)
theorem ups_lt : ∀ n s, s < 65536 → ups n s < 65536
  | 0, _, h => h
  | n + 1, s, _ => ups_lt n (up s) (up_lt s)
theorem ups_zero : ∀ n, ups n 0 = 0
  | 0 => rfl
  | n + 1 => by show ups n (up 0) = 0; rw [up_zero]; exact ups_zero n
theorem ups_ne : ∀ n s, s < 65536 → ups n s = 0 → s = 0
  | 0, _, _, h => h
  | n + 1, s, h, hu => up_ne h (ups_ne n (up s) (up_lt s) hu)
/-- While nothing is shifted out, a step doubles. -/
theorem ups_small : ∀ n s, s * 2 ^ n < 65536 → ups n s = s * 2 ^ n
  | 0, s, _ => by simp [ups]
  | n + 1, s, h => by
    have h2 : s * 2 ^ (n + 1) = 2 * s * 2 ^ n := by rw [Nat.pow_succ]; ac_rfl
    have hp : 1 ≤ 2 ^ n := Nat.one_le_two_pow
    have h3 : s < 32768 := by
      have : 2 * s * 1 ≤ 2 * s * 2 ^ n := Nat.mul_le_mul_left _ hp
      omega
    show ups n (up s) = _
    rw [up_small h3, ups_small n (2 * s) (by omega), h2]
theorem upB_xor (s d c : Nat) : upB (s ^^^ d) c = upB s c ^^^ ups 8 d := by
  unfold upB
  have : s ^^^ d ^^^ c * 256 = (s ^^^ c * 256) ^^^ d := by ac_rfl
  rw [this, ups_xor]
theorem upB_lt (s c : Nat) (h : s < 65536) (hc : c < 256) : upB s c < 65536 :=
  ups_lt 8 _ (Nat.xor_lt_two_pow (n := 16) h (by omega))
theorem crc_lt : ∀ (l : List Nat) (s : Nat), s < 65536 → (∀ c ∈ l, c < 256) → crcOf s l < 65536
  | [], _, h, _ => h
  | c :: l, s, h, hl => crc_lt l (upB s c) (upB_lt s c h (hl c (by simp))) (fun x hx => hl x (by simp [hx]))
theorem crc_xor : ∀ (l : List Nat) (s d : Nat), crcOf (s ^^^ d) l = crcOf s l ^^^ ups (8 * l.length) d
  | [], _, _ => rfl
  | c :: l, s, d => by
    show crcOf (upB (s ^^^ d) c) l = crcOf (upB s c) l ^^^ _
    rw [upB_xor, crc_xor l, ← ups_add]
    have : 8 + 8 * l.length = 8 * (c :: l).length := by simp; omega
    rw [this]
theorem crc_append (l m : List Nat) (s : Nat) : crcOf s (l ++ m) = crcOf (crcOf s l) m := by unfold crcOf; rw [List.foldl_append]
theorem crc_snoc (l : List Nat) (c s : Nat) : crcOf s (l ++ [c]) = upB (crcOf s l) c := by rw [crc_append]; rfl

theorem mul_xor (a b n : Nat) : (a ^^^ b) * 2 ^ n = a * 2 ^ n ^^^ b * 2 ^ n := by
  rw [← Nat.shiftLeft_eq, ← Nat.shiftLeft_eq, ← Nat.shiftLeft_eq, Nat.shiftLeft_xor_distrib]

/-- A bit is turned. -/
theorem flip_one : ∀ (l : List Nat) (s j o : Nat) (hj : j < l.length), o < 8 → crcOf s (l.set j (l[j] ^^^ 128 / 2 ^ o)) = crcOf s l ^^^ ups (8 * l.length - (8 * j + o)) 32768
  | c :: l, s, 0, o, _, ho => by
    show crcOf (upB s (c ^^^ 128 / 2 ^ o)) l = crcOf (upB s c) l ^^^ _
    have e1 : upB s (c ^^^ 128 / 2 ^ o) = upB s c ^^^ ups 8 (128 / 2 ^ o * 256) := by
      unfold upB
      rw [show (256 : Nat) = 2 ^ 8 from rfl, mul_xor, ← Nat.xor_assoc, ups_xor]
    have e2 : ups 8 (128 / 2 ^ o * 256) = ups (8 - o) 32768 := by
      have : ∀ o, o < 8 → 128 / 2 ^ o * 256 * 2 ^ o = 32768 := by decide
      have h2 := ups_small o (128 / 2 ^ o * 256) (by rw [this o ho]; decide)
      rw [this o ho] at h2
      rw [← h2, ← ups_add]
      congr 1; omega
    rw [e1, crc_xor, e2, ← ups_add]
    congr 2
    simp; omega
  | c :: l, s, j + 1, o, hj, ho => by
    have hj' : j < l.length := by simpa using hj
    have h := flip_one l (upB s c) j o hj' ho
    show crcOf (upB s c) (l.set j (l[j] ^^^ 128 / 2 ^ o)) = crcOf (upB s c) l ^^^ _
    rw [h]
    congr 2
    simp; omega

/-- The bits of a burst, the first one the greatest. -/
def burst (bits : Nat) : Nat → Nat
  | 0 => 0
  | k + 1 => if bits.testBit k then burst bits k ^^^ 32768 / 2 ^ k else burst bits k
theorem burst_bit (bits : Nat) : ∀ k i, k ≤ 16 → i < 16 → (burst bits k).testBit i = (decide (15 - i < k) && bits.testBit (15 - i))
  | 0, i, _, _ => by simp [burst]
  | k + 1, i, hk, hi => by
    have ih := burst_bit bits k i (by omega) hi
    have hb : (32768 / 2 ^ k).testBit i = decide (k + i = 15) := by
      rw [← Nat.shiftRight_eq_div_pow, Nat.testBit_shiftRight, show (32768 : Nat) = 2 ^ 15 from rfl, Nat.testBit_two_pow]
      simp [eq_comm]
    unfold burst
    by_cases h : bits.testBit k
    · rw [if_pos h, Nat.testBit_xor, ih, hb]
      by_cases hki : k + i = 15
      · have e : 15 - i = k := by omega
        simp [hki, e, h]
      · have e : (15 - i < k + 1) ↔ (15 - i < k) := by omega
        simp [hki, e]
    · rw [if_neg h, ih]
      by_cases hki : k + i = 15
      · have e : 15 - i = k := by omega
        simp [e, h]
      · have e : (15 - i < k + 1) ↔ (15 - i < k) := by omega
        simp [e]
theorem burst_lt (bits : Nat) : ∀ k, burst bits k < 65536
  | 0 => by simp [burst]
  | k + 1 => by
    unfold burst
    split
    · exact Nat.xor_lt_two_pow (n := 16) (burst_lt bits k) (by have := Nat.div_le_self 32768 (2 ^ k); omega)
    · exact burst_lt bits k
theorem burst_ne (bits : Nat) (h0 : bits ≠ 0) (h : bits < 65536) : burst bits 16 ≠ 0 := by
  intro hb
  obtain ⟨j, hj⟩ := Nat.exists_testBit_of_ne_zero h0
  have hj16 : j < 16 := by
    rcases Nat.lt_or_ge j 16 with q | q
    · exact q
    · have := Nat.testBit_lt_two_pow (x := bits) (i := j) (Nat.lt_of_lt_of_le h (Nat.pow_le_pow_right (n := 2) (by decide) q))
      rw [this] at hj; cases hj
  have := burst_bit bits 16 (15 - j) (Nat.le_refl _) (by omega)
  rw [hb, show 15 - (15 - j) = j by omega, hj] at this
  simp at this
  omega

/-- Bits turned, one by one: the sum that is left. -/
theorem flip_step (l l0 : List Nat) (s at' bits k : Nat) (hl : l.length = l0.length) (hat : at' + k < 8 * l0.length) (h : crcOf s l = crcOf s l0 ^^^ ups (8 * l0.length - at') (burst bits k)) (hk : k < 16) (hb : bits.testBit k = true) (hj : (at' + k) / 8 < l.length) :
    crcOf s (l.set ((at' + k) / 8) (l[(at' + k) / 8] ^^^ 128 / 2 ^ ((at' + k) % 8))) = crcOf s l0 ^^^ ups (8 * l0.length - at') (burst bits (k + 1)) := by
  rw [flip_one l s _ _ hj (Nat.mod_lt _ (by decide)), h, Nat.xor_assoc]
  congr 1
  have e : burst bits (k + 1) = burst bits k ^^^ 32768 / 2 ^ k := by show (if _ then _ else _) = _; rw [if_pos hb]
  rw [e, ups_xor]
  congr 1
  have : ∀ k, k < 16 → 32768 / 2 ^ k * 2 ^ k = 32768 := by decide
  have h2 := ups_small k (32768 / 2 ^ k) (by rw [this k hk]; decide)
  rw [this k hk] at h2
  have h3 : 8 * l0.length - at' = k + (8 * l.length - (8 * ((at' + k) / 8) + (at' + k) % 8)) := by omega
  rw [h3, ups_add, h2]
theorem burst_off (bits k : Nat) (hb : bits.testBit k = false) : burst bits (k + 1) = burst bits k := by
  show (if _ then _ else _) = _
  rw [hb]; simp

/-- What is taken in with its own sum behind it leaves nothing. -/
theorem crc_own (l : List Nat) (s : Nat) : crcOf s (l ++ [crcOf s l / 256, crcOf s l % 256]) = 0 := by
  rw [crc_append]
  generalize crcOf s l = v
  show upB (upB v (v / 256)) (v % 256) = 0
  have e1 : v ^^^ v / 256 * 256 = v % 256 := by
    have hv : v = (v / 256 * 256) ^^^ (v % 256) := by
      have : v / 256 * 256 = (v / 256) <<< 8 := by rw [Nat.shiftLeft_eq]
      rw [this]
      apply Nat.eq_of_testBit_eq
      intro i
      rw [Nat.testBit_xor, Nat.testBit_shiftLeft, show (256 : Nat) = 2 ^ 8 from rfl, Nat.testBit_mod_two_pow, Nat.testBit_div_two_pow]
      by_cases hi : i < 8
      · simp [hi, show ¬ 8 ≤ i by omega]
      · simp [hi, show 8 ≤ i by omega]
    generalize hA : v / 256 * 256 = A at *
    generalize hB : v % 256 = B at *
    rw [hv, Nat.xor_assoc, Nat.xor_comm B A, ← Nat.xor_assoc, Nat.xor_self, Nat.zero_xor]
  have e2 : upB v (v / 256) = v % 256 * 256 := by
    unfold upB
    rw [e1]
    exact ups_small 8 (v % 256) (by omega)
  rw [e2]
  unfold upB
  rw [Nat.xor_self, ups_zero]

/-- A burst of 16 bits that is not nought is seen. -/
theorem burst_seen (l l0 : List Nat) (s at' bits : Nat) (h : crcOf s l = crcOf s l0 ^^^ ups (8 * l0.length - at') (burst bits 16)) (h0 : crcOf s l0 = 0) (hb : bits ≠ 0) (hb2 : bits < 65536) : crcOf s l ≠ 0 := by
  intro hz
  rw [h0, Nat.zero_xor, hz] at h
  exact burst_ne bits hb hb2 (ups_ne _ _ (burst_lt bits 16) h.symm)

/-- A byte bit by bit: so many of its greatest bits are taken in. -/
def upT (s c m : Nat) : Nat := ups m (s ^^^ c / 2 ^ (8 - m) * 2 ^ (16 - m))
theorem upT_zero (s c : Nat) (hc : c < 256) : upT s c 0 = s := by
  unfold upT
  have : c / 2 ^ (8 - 0) = 0 := by simp; omega
  rw [this]; simp [ups]
theorem upT_eight (s c : Nat) : upT s c 8 = upB s c := by
  unfold upT upB; simp
theorem two_xor (a b : Nat) (hb : b < 2) : 2 * a ^^^ b = 2 * a + b := by
  have e : 2 * a = 2 ^ 1 * a := by omega
  rw [e]
  apply Nat.eq_of_testBit_eq
  intro i
  rw [Nat.testBit_xor, Nat.testBit_two_pow_mul_add _ (by simpa using hb), Nat.testBit_two_pow_mul]
  by_cases hi : i < 1
  · simp [hi, show ¬ 1 ≤ i by omega]
  · have h1 : 1 ≤ i := by omega
    have h2 : 2 ^ 1 ≤ 2 ^ i := Nat.pow_le_pow_right (n := 2) (by decide) h1
    have : b.testBit i = false := Nat.testBit_lt_two_pow (Nat.lt_of_lt_of_le hb h2)
    simp [hi, show 1 ≤ i by omega, this]
theorem upT_succ (s c m : Nat) (hm : m < 8) : upT s c (m + 1) = up (upT s c m ^^^ (c / 2 ^ (7 - m) % 2) * 32768) := by
  have hu : ∀ n s, ups (n + 1) s = up (ups n s) := fun n s => by rw [ups_add]; rfl
  unfold upT
  rw [hu]
  congr 1
  have hp : ∀ m, m < 8 → 2 ^ (16 - (m + 1)) * 2 ^ m = 32768 := by decide
  have hlt : c / 2 ^ (7 - m) % 2 < 2 := Nat.mod_lt _ (by decide)
  generalize hb : c / 2 ^ (7 - m) % 2 = b at hlt
  have h1 : b * 2 ^ (16 - (m + 1)) * 2 ^ m = b * 32768 := by rw [Nat.mul_assoc, hp m hm]
  have h2 : ups m (b * 2 ^ (16 - (m + 1))) = b * 32768 := by
    rw [ups_small m _ (by rw [h1]; omega), h1]
  rw [← h2, ← ups_xor]
  congr 1
  rw [Nat.xor_assoc]
  congr 1
  have h3 : c / 2 ^ (8 - (m + 1)) = 2 * (c / 2 ^ (8 - m)) ^^^ b := by
    rw [two_xor _ _ hlt, ← hb, show 8 - (m + 1) = 7 - m by omega, show 8 - m = (7 - m) + 1 by omega, Nat.pow_succ, ← Nat.div_div_eq_div_mul]
    omega
  have h4 : 2 ^ (16 - m) = 2 * 2 ^ (16 - (m + 1)) := by rw [show 16 - m = (16 - (m + 1)) + 1 by omega, Nat.pow_succ]; omega
  rw [h3, mul_xor, h4]
  congr 1
  ac_rfl
end Go.Proofs.YtdboppcnnjacmaaDoor
