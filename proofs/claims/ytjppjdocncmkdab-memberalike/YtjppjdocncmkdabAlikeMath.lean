/- MemberAlike's slot, as the program goes through it: what each node hears as a number; the states in between. -/
import Derived.Test.YtjppjdocncmkdabMemberPlain
import Derived.Test.YtjppjdocncmkdabMemberBits2
namespace Go.Proofs.Ytjppjdocncmkdab

/-- What a node hears, as a number. -/
def Al.xV (s : Al) (n who what k : Nat) : Int := if s.good n who what k = true then 1 else if s.bad n who what k = true then 2 else 0
theorem Al.xV_in (s : Al) (n who what k : Nat) : 0 ≤ s.xV n who what k ∧ s.xV n who what k ≤ 2 := by unfold Al.xV; split <;> (try split) <;> decide
theorem Al.xV_1 (s : Al) (n who what k : Nat) : decide (s.xV n who what k = 1) = s.good n who what k := by
  unfold Al.xV
  cases s.good n who what k
  · rw [if_neg (by decide)]; split <;> decide
  · rw [if_pos rfl]; decide
theorem Al.xV_2 (s : Al) (n who what k : Nat) : s.xV n who what k = 2 ↔ s.bad n who what k = true := by
  unfold Al.xV Al.bad
  cases s.good n who what k
  · rw [if_neg (by decide)]; split <;> simp_all
  · rw [if_pos rfl]; simp
theorem hearsB_is {n who k : Nat} {f : Bool} {x : Int} (hw : who < n) (hne : k ≠ who) (h0 : 0 ≤ x) (h2 : x ≤ 2) : hearsB k n f who x = !f := by
  unfold hearsB
  rw [decide_eq_true ⟨by omega, by omega, by omega, h0, h2⟩, Bool.and_true]

theorem Al.slot_M (s : Al) {n who what k : Nat} (hw : who < n) (hne : k ≠ who) (j : Nat) : (s.slot n who what).M k j = heT k n (s.F k) who (s.xV n who what k) (s.M k) j := by
  unfold heT
  rw [hearsB_is hw hne (s.xV_in n who what k).1 (s.xV_in n who what k).2, s.xV_1]
  simp only [Al.slot]
  cases s.F k
  · by_cases e : j = who
    · rw [if_neg (by simp [hne]), if_pos e, if_pos ⟨rfl, by omega⟩]
    · rw [if_neg (by simp [hne]), if_neg e, if_neg (by simp; omega)]
  · rw [if_pos (.inr rfl), if_neg (by simp)]
theorem Al.slot_G (s : Al) {n who what k : Nat} (hw : who < n) (hne : k ≠ who) : (s.slot n who what).G k = heG k n (s.F k) who (s.xV n who what k) (s.G k) := by
  unfold heG
  rw [hearsB_is hw hne (s.xV_in n who what k).1 (s.xV_in n who what k).2]
  have h1 : s.xV n who what k = 1 ↔ s.good n who what k = true := by rw [← s.xV_1, decide_eq_true_eq]
  simp only [Al.slot, if_neg hne]
  cases s.F k
  · simp [h1]
  · simp
theorem Al.slot_B (s : Al) {n who what k : Nat} (hw : who < n) (hne : k ≠ who) : (s.slot n who what).B k = heB k n (s.F k) who (s.xV n who what k) (s.B k) := by
  unfold heB
  rw [hearsB_is hw hne (s.xV_in n who what k).1 (s.xV_in n who what k).2]
  simp only [Al.slot, if_neg hne]
  cases s.F k
  · simp [s.xV_2]
  · simp
theorem Al.slot_F (s : Al) {n who what k : Nat} (hne : k ≠ who) : (s.slot n who what).F k = s.F k := by simp only [Al.slot, if_neg hne]

/-- What is told in a slot. -/
def toldT (n who what : Nat) (t : Nat → Bool) : Nat → Bool := fun j => if what = 1 ∧ (j = who ∨ j = (who + 1) % n) then !t j else t j
theorem xor_bits (t : Nat → Bool) {n a b : Nat} (hn : n ≤ 16) (ha : a < n) (hb : b < n) : bits .xor .i64 (bitsV t n) (bits .or .i64 (2 ^ a) (2 ^ b)) = bitsV (fun j => if j = a ∨ j = b then !t j else t j) n := by
  obtain ⟨m, hm, hl, hbit⟩ := bitsV_nat t n
  have p1 := pow_small hn
  have p2 := pow_small (k := a) (by omega)
  have p3 := pow_small (k := b) (by omega)
  have hor : 2 ^ a ||| 2 ^ b < 2 ^ 17 := Nat.or_lt_two_pow (by omega) (by omega)
  rw [hm, pow_cast, pow_cast, i64_or_nat (2 ^ a) (2 ^ b) (by omega) (by omega), i64_xor_nat m _ (by omega) (by omega)]
  refine is_bitsV fun j => ?_
  rw [Nat.testBit_xor, Nat.testBit_or, hbit, Nat.testBit_two_pow, Nat.testBit_two_pow]
  by_cases e : j = a ∨ j = b
  · rw [if_pos e, decide_eq_true (show j < n by omega)]
    have : (decide (a = j) || decide (b = j)) = true := by
      rw [Bool.or_eq_true, decide_eq_true_eq, decide_eq_true_eq]; omega
    rw [this]; simp
  · rw [if_neg e, decide_eq_false (show ¬ a = j by omega), decide_eq_false (show ¬ b = j by omega)]; simp

theorem judB_congr {n who : Nat} {m m' t : Nat → Bool} (hw : who < n) (h : ∀ j, j < n → m j = m' j) : judB n who m t = judB n who m' t := by
  rw [Bool.eq_iff_iff, judB_iff, judB_iff, h who hw]
  constructor
  · rintro ⟨h1, h2⟩
    exact ⟨h1, fun j hj hne => (h j hj).symm.trans (h2 j hj hne)⟩
  · rintro ⟨h1, h2⟩
    exact ⟨h1, fun j hj hne => (h j hj).trans (h2 j hj hne)⟩
/-- What a node judges of what is told is what it hears. -/
theorem Al.judges (s : Al) {n who what k : Nat} (hw : who < n) (ho : s.ok who = true) (h1 : 1 ≤ what) (hown : s.M who who = true) : judgeV n (s.M k) (tb (bitsV (toldT n who what (s.M who)) n)) who (bitsV (toldT n who what (s.M who)) n) = s.xV n who what k := by
  have hb := bitsV_in (toldT n who what (s.M who)) n
  have e : judB n who (tb (bitsV (toldT n who what (s.M who)) n)) (s.M k) = s.good n who what k := by
    rw [judB_congr hw (m' := toldT n who what (s.M who)) (fun j hj => by rw [tb_bitsV, decide_eq_true hj, Bool.true_and])]
    unfold Al.good
    rw [ho, Bool.true_and]
    by_cases h2 : 2 ≤ what
    · rw [decide_eq_true h2, Bool.true_and]
      refine judB_congr hw fun j _ => ?_
      unfold toldT
      rw [if_neg (by omega)]
    · rw [decide_eq_false h2, Bool.false_and]
      unfold judB toldT
      rw [if_pos ⟨by omega, .inl rfl⟩, hown]; rfl
  unfold judgeV
  rw [Int.toNat_natCast, e]
  unfold Al.xV Al.bad
  rw [ho, decide_eq_true h1]
  cases s.good n who what k
  · rw [if_neg (fun y => by cases y.2.2.2), if_neg (by decide), if_pos (by rfl)]
  · rw [if_pos ⟨⟨by omega, by omega⟩, hb.1, hb.2, rfl⟩, if_pos rfl]
theorem Al.silent (s : Al) {n who what k : Nat} (h : s.ok who = false ∨ what = 0) : s.xV n who what k = 0 := by
  unfold Al.xV Al.bad Al.good
  rcases h with h | h
  · rw [h]; rfl
  · subst h
    cases s.ok who <;> rfl

/-- In between: who have heard already, and the one whose slot it is. -/
def Al.midM (s : Al) (n who what kk : Nat) : Nat → Nat → Bool := fun k => if k < kk ∨ k = who then (s.slot n who what).M k else s.M k
def Al.midG (s : Al) (n who what kk : Nat) : Nat → Int := fun k => if k < kk ∨ k = who then (s.slot n who what).G k else s.G k
def Al.midB (s : Al) (n who what kk : Nat) : Nat → Int := fun k => if k < kk ∨ k = who then (s.slot n who what).B k else s.B k
def Al.midF (s : Al) (n who what kk : Nat) : Nat → Bool := fun k => if k < kk ∨ k = who then (s.slot n who what).F k else s.F k

/-- Counts grow by one a slot at most. -/
theorem Al.slot_counts (s : Al) {n who what c : Nat} (h : ∀ k, k < n → 0 ≤ s.G k ∧ s.G k ≤ (c : Int) + 1 ∧ 0 ≤ s.B k ∧ s.B k ≤ (c : Int)) : ∀ k, k < n → 0 ≤ (s.slot n who what).G k ∧ (s.slot n who what).G k ≤ (c : Int) + 1 + 1 ∧ 0 ≤ (s.slot n who what).B k ∧ (s.slot n who what).B k ≤ (c : Int) + 1 := fun k hk => by
  obtain ⟨h1, h2, h3, h4⟩ := h k hk
  simp only [Al.slot]
  refine ⟨?_, ?_, ?_, ?_⟩ <;> (repeat' split) <;> omega
end Go.Proofs.Ytjppjdocncmkdab
