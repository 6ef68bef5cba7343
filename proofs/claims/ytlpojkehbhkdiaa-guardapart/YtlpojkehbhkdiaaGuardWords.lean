/- Plain words on clocks and slots, for guards: when a clock shows so much first, and when a slot is open. -/
import Derived.Test.YtlpojkehbhkdiaaPlain
import Derived.Test.YtlpojkehbhkdiaaMath
namespace Go.Proofs.Ytlpojkehbhkdiaa

/-- The first time at which a clock shows so much. -/
def realT (f s n d l : Int) : Int := if l ≤ s then f else f + ((l - s) * d + n - 1) / n
/-- What is wrong with it: 1: ErrArg; 2: ErrRange; 0: nothing. -/
def realE (f s n d l : Int) : Int := if rightB f s n d = false then 1 else if l < -1099511627776 ∨ 1099511627776 < l then 2 else if 1099511627776 < realT f s n d l then 2 else 0
def realV (f s n d l : Int) : Int := if realE f s n d l = 0 then realT f s n d l else 0
theorem realE_1 {f s n d l : Int} (h : rightB f s n d = false) : realE f s n d l = 1 := by unfold realE; rw [if_pos h]
theorem realE_far {f s n d l : Int} (h : rightB f s n d = true) (h2 : l < -1099511627776 ∨ 1099511627776 < l) : realE f s n d l = 2 := by unfold realE; rw [if_neg (by simp [h]), if_pos h2]
theorem realE_late {f s n d l : Int} (h : rightB f s n d = true) (h1 : -1099511627776 ≤ l) (h2 : l ≤ 1099511627776) (h3 : 1099511627776 < realT f s n d l) : realE f s n d l = 2 := by unfold realE; rw [if_neg (by simp [h]), if_neg (by omega), if_pos h3]
theorem realE_0 {f s n d l : Int} (h : rightB f s n d = true) (h1 : -1099511627776 ≤ l) (h2 : l ≤ 1099511627776) (h3 : realT f s n d l ≤ 1099511627776) : realE f s n d l = 0 := by unfold realE; rw [if_neg (by simp [h]), if_neg (by omega), if_neg (by omega)]
theorem realV_bad {f s n d l : Int} (h : realE f s n d l ≠ 0) : realV f s n d l = 0 := by unfold realV; rw [if_neg h]
theorem realV_ok {f s n d l : Int} (h : realE f s n d l = 0) : realV f s n d l = realT f s n d l := by unfold realV; rw [if_pos h]
theorem realE_zero {f s n d l : Int} (h : realE f s n d l = 0) : rightB f s n d = true ∧ -1099511627776 ≤ l ∧ l ≤ 1099511627776 ∧ realT f s n d l ≤ 1099511627776 := by
  cases h1 : rightB f s n d
  · rw [realE_1 h1] at h; cases h
  · by_cases h2 : l < -1099511627776 ∨ 1099511627776 < l
    · rw [realE_far h1 h2] at h; cases h
    · by_cases h3 : 1099511627776 < realT f s n d l
      · rw [realE_late h1 (by omega) (by omega) h3] at h; cases h
      · exact ⟨rfl, by omega, by omega, by omega⟩
theorem realT_from {f s n d l : Int} (h : rightB f s n d = true) : f ≤ realT f s n d l := by
  obtain ⟨h1, h2, h3, h4, h5, h6, h7, h8, h9, h10⟩ := right_of h
  unfold realT
  split
  · exact Int.le_refl _
  · have := up_one (x := l - s) (n := n) (d := d) (by omega) h5 h7
    omega
/-- From it on the clock shows so much, and ahead of it less. -/
theorem realT_iff {f s n d l t : Int} (h : rightB f s n d = true) (ht : f ≤ t) : l ≤ s + (t - f) * n / d ↔ realT f s n d l ≤ t := by
  obtain ⟨h1, h2, h3, h4, h5, h6, h7, h8, h9, h10⟩ := right_of h
  unfold realT
  by_cases hs : l ≤ s
  · rw [if_pos hs]
    refine ⟨fun _ => ht, fun _ => ?_⟩
    have := quo_bounds (x := t - f) (n := n) (d := d) (M := t - f) (by omega) (Int.le_refl _) h5 h7 h9
    omega
  · rw [if_neg hs]
    have hone := up_one (x := l - s) (n := n) (d := d) (by omega) h5 h7
    have hen := up_enough (x := l - s) (n := n) (d := d) h5 h7
    have hle := up_least (x := l - s) (n := n) (d := d) h5 h7
    constructor
    · intro g
      rcases Int.lt_or_le t (f + ((l - s) * d + n - 1) / n) with q | q
      · have := shows_mono (p := t - f) (q := ((l - s) * d + n - 1) / n - 1) (n := n) (d := d) (by omega) h5 h7
        omega
      · exact q
    · intro g
      have := shows_mono (p := ((l - s) * d + n - 1) / n) (q := t - f) (n := n) (d := d) (by omega) h5 h7
      omega

/-- A sum of times. -/
def addE (a b : Int) : Int := if (-1099511627776 ≤ a ∧ a ≤ 1099511627776) ∧ (-1099511627776 ≤ b ∧ b ≤ 1099511627776) ∧ -1099511627776 ≤ a + b ∧ a + b ≤ 1099511627776 then 0 else 2
def addV (a b : Int) : Int := if addE a b = 0 then a + b else 0
theorem addE_0 {a b : Int} (h : (-1099511627776 ≤ a ∧ a ≤ 1099511627776) ∧ (-1099511627776 ≤ b ∧ b ≤ 1099511627776) ∧ -1099511627776 ≤ a + b ∧ a + b ≤ 1099511627776) : addE a b = 0 := by unfold addE; rw [if_pos h]
theorem addE_2 {a b : Int} (h : ¬ ((-1099511627776 ≤ a ∧ a ≤ 1099511627776) ∧ (-1099511627776 ≤ b ∧ b ≤ 1099511627776) ∧ -1099511627776 ≤ a + b ∧ a + b ≤ 1099511627776)) : addE a b = 2 := by unfold addE; rw [if_neg h]
theorem addV_ok {a b : Int} (h : addE a b = 0) : addV a b = a + b := by unfold addV; rw [if_pos h]
theorem addV_bad {a b : Int} (h : addE a b ≠ 0) : addV a b = 0 := by unfold addV; rw [if_neg h]

/-- When a time of a round is, by a clock: what is wrong; and the time. -/
def endE (f s n d a x : Int) : Int := if addE a x = 0 then realE f s n d (a + x) else addE a x
def endT (f s n d a x : Int) : Int := realT f s n d (a + x)
/-- What is wrong with a slot's being open: 7: ErrMissing. -/
def openE (f s n d : Int) (ns : Nat) (fr tq : Nat → Int) (R round slot : Int) : Int :=
  if slot < 0 ∨ (ns : Int) ≤ slot then 7 else if R < 1 ∨ round < 0 ∨ 1099511627776 / R < round then 2 else if endE f s n d (round * R) (fr slot.toNat) = 0 then endE f s n d (round * R) (tq slot.toNat) else endE f s n d (round * R) (fr slot.toNat)
def openF (f s n d : Int) (ns : Nat) (fr tq : Nat → Int) (R round slot : Int) : Int := if openE f s n d ns fr tq R round slot = 0 then endT f s n d (round * R) (fr slot.toNat) else 0
def openT (f s n d : Int) (ns : Nat) (fr tq : Nat → Int) (R round slot : Int) : Int := if openE f s n d ns fr tq R round slot = 0 then endT f s n d (round * R) (tq slot.toNat) else 0
end Go.Proofs.Ytlpojkehbhkdiaa
