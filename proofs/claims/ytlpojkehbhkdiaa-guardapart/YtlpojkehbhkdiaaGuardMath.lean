/-
  Two clocks that are near at two times are near meanwhile, but for what is rounded; slots of a plan lie apart (numbers alone; ahead of stage 5).
-/
import Derived.WalkKit
namespace Go.Proofs.Ytlpojkehbhkdiaa

theorem line_le {c d x t1 t2 M : Int} (h1 : t1 ≤ x) (h2 : x ≤ t2) (e1 : c * t1 + d < M) (e2 : c * t2 + d < M) : c * x + d < M := by
  rcases Int.le_total 0 c with h | h
  · have := Int.mul_le_mul_of_nonneg_left h2 h
    omega
  · have := Int.mul_le_mul_of_nonneg_left h1 (show 0 ≤ -c by omega)
    simp only [Int.neg_mul] at this
    omega

/-- What a floor is within. -/
theorem floor_in {p d : Int} (hd : 0 < d) : d * (p / d) ≤ p ∧ p < d * (p / d) + d := by
  have h1 := Int.mul_ediv_add_emod p d
  have h2 := Int.emod_nonneg p (show d ≠ 0 by omega)
  have h3 := Int.emod_lt_of_pos p hd
  omega

/-- CLOCKS GO STRAIGHT: if one is ahead of the other one by no more than K at both ends, it is meanwhile by no more than K + 1. -/
theorem near {na da nb db fa fb sa sb t1 x t2 K : Int} (hda : 0 < da) (hdb : 0 < db) (h1 : t1 ≤ x) (h2 : x ≤ t2)
    (e1 : (sb + (t1 - fb) * nb / db) - (sa + (t1 - fa) * na / da) ≤ K) (e2 : (sb + (t2 - fb) * nb / db) - (sa + (t2 - fa) * na / da) ≤ K) :
    (sb + (x - fb) * nb / db) - (sa + (x - fa) * na / da) ≤ K + 1 := by
  have hD : 0 < da * db := Int.mul_pos hda hdb
  -- da db times how far one is ahead of the other one, not rounded, is a line
  have up : ∀ t, (da * nb - db * na) * t + (da * db * (sb - sa) - da * fb * nb + db * fa * na) = da * ((t - fb) * nb) - db * ((t - fa) * na) + da * db * (sb - sa) := fun t => by
    simp only [Int.mul_sub, Int.mul_comm, Int.mul_left_comm]
    omega
  have hi : ∀ t, da * ((t - fb) * nb) - db * ((t - fa) * na) + da * db * (sb - sa) < da * db * ((sb + (t - fb) * nb / db) - (sa + (t - fa) * na / da) + 1) := fun t => by
    have b := floor_in (p := (t - fb) * nb) hdb
    have a := floor_in (p := (t - fa) * na) hda
    generalize (t - fb) * nb / db = q at *
    generalize (t - fa) * na / da = r at *
    generalize (t - fb) * nb = Q at *
    generalize (t - fa) * na = R at *
    have b' := Int.mul_lt_mul_of_pos_left b.2 hda
    have a' := Int.mul_le_mul_of_nonneg_left a.1 (Int.le_of_lt hdb)
    have ex : da * db * (sb + q - (sa + r) + 1) = da * (db * q + db) - db * (da * r) + da * db * (sb - sa) := by
      simp only [Int.mul_sub, Int.mul_add, Int.mul_comm, Int.mul_left_comm, Int.mul_one]
      omega
    rw [ex]
    omega
  have lo : ∀ t, da * db * ((sb + (t - fb) * nb / db) - (sa + (t - fa) * na / da) - 1) < da * ((t - fb) * nb) - db * ((t - fa) * na) + da * db * (sb - sa) := fun t => by
    have b := floor_in (p := (t - fb) * nb) hdb
    have a := floor_in (p := (t - fa) * na) hda
    generalize (t - fb) * nb / db = q at *
    generalize (t - fa) * na / da = r at *
    generalize (t - fb) * nb = Q at *
    generalize (t - fa) * na = R at *
    have b' := Int.mul_le_mul_of_nonneg_left b.1 (Int.le_of_lt hda)
    have a' := Int.mul_lt_mul_of_pos_left a.2 hdb
    have ex : da * db * (sb + q - (sa + r) - 1) = da * (db * q) - db * (da * r + da) + da * db * (sb - sa) := by
      simp only [Int.mul_sub, Int.mul_add, Int.mul_comm, Int.mul_left_comm, Int.mul_one]
      omega
    rw [ex]
    omega
  have m1 : da * db * ((sb + (t1 - fb) * nb / db) - (sa + (t1 - fa) * na / da) + 1) ≤ da * db * (K + 1) := Int.mul_le_mul_of_nonneg_left (by omega) (Int.le_of_lt hD)
  have m2 : da * db * ((sb + (t2 - fb) * nb / db) - (sa + (t2 - fa) * na / da) + 1) ≤ da * db * (K + 1) := Int.mul_le_mul_of_nonneg_left (by omega) (Int.le_of_lt hD)
  have g1 := Int.lt_of_lt_of_le (hi t1) m1
  have g2 := Int.lt_of_lt_of_le (hi t2) m2
  rw [← up] at g1 g2
  have g := line_le h1 h2 g1 g2
  rw [up] at g
  have l := Int.lt_trans (lo x) g
  have := Int.lt_of_mul_lt_mul_left l (Int.le_of_lt hD)
  omega

/-- Slots of a plan: each behind the one ahead, by more than Skew. -/
theorem slots_order {fr to : Nat → Int} {ns : Nat} {sk : Int} (hsk : 0 ≤ sk) (hft : ∀ j, j < ns → fr j < to j) (hn : ∀ j, j + 1 < ns → to j + sk + 1 ≤ fr (j + 1)) : ∀ j i, i < j → j < ns → to i + sk + 1 ≤ fr j
  | 0, i, h, _ => absurd h (Nat.not_lt_zero _)
  | j + 1, i, h, hj => by
    rcases Nat.lt_succ_iff_lt_or_eq.1 h with q | q
    · have := slots_order hsk hft hn j i q (by omega)
      have := hft j (by omega)
      have := hn j hj
      omega
    · subst q; exact hn i hj

/-- NO TWO AT ONCE, of numbers: two slots, of whatever rounds, that are not the same one are apart by more than Skew. -/
theorem slots_apart {fr to : Nat → Int} {ns : Nat} {sk R : Int} (hsk : 0 ≤ sk) (hft : ∀ j, j < ns → fr j < to j) (h0 : ∀ j, j < ns → 0 ≤ fr j) (hto : ∀ j, j < ns → to j ≤ R - sk - 1) (hn : ∀ j, j + 1 < ns → to j + sk + 1 ≤ fr (j + 1))
    {r q : Int} {i j : Nat} (hi : i < ns) (hj : j < ns) (hne : r ≠ q ∨ i ≠ j) : r * R + to i + sk + 1 ≤ q * R + fr j ∨ q * R + to j + sk + 1 ≤ r * R + fr i := by
  have hR : 0 ≤ R := by
    have := hft i hi; have := h0 i hi; have := hto i hi; omega
  rcases Int.lt_trichotomy r q with h | h | h
  · left
    have := Int.mul_le_mul_of_nonneg_right (show r + 1 ≤ q by omega) hR
    rw [Int.add_mul, Int.one_mul] at this
    have := hto i hi
    have := h0 j hj
    omega
  · subst h
    rcases Nat.lt_trichotomy i j with g | g | g
    · left
      have := slots_order hsk hft hn j i g hj
      omega
    · exact absurd rfl (hne.resolve_right (fun e => e g)).elim
    · right
      have := slots_order hsk hft hn i j g hi
      omega
  · right
    have := Int.mul_le_mul_of_nonneg_right (show q + 1 ≤ r by omega) hR
    rw [Int.add_mul, Int.one_mul] at this
    have := hto j hj
    have := h0 i hi
    omega
end Go.Proofs.Ytlpojkehbhkdiaa
