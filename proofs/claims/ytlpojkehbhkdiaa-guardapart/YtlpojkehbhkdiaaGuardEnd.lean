/- NO TWO AT ONCE, in whole numbers: what passes two guards of two nodes at one time is of slots that lie too far apart for clocks that are near. -/
import Derived.Test.YtlpojkehbhkdiaaPassWords
import Derived.Test.YtlpojkehbhkdiaaGuardMath
import Derived.Test.YtlpojkehbhkdiaaPlanPlain
namespace Go.Proofs.Ytlpojkehbhkdiaa

theorem hitB_parts {f s n d : Int} {ns : Nat} {nd fr tt : Nat → Int} {R node p q lo : Int} {k i : Nat} (h : hitB f s n d ns nd fr tt R node p q lo k i = true) :
    nd i = node ∧ openE f s n d ns fr tt R (lo + k) i = 0 ∧ comB (openF f s n d ns fr tt R (lo + k) i) (openT f s n d ns fr tt R (lo + k) i) p q = true := by
  unfold hitB at h
  simp only [Bool.and_eq_true, decide_eq_true_eq] at h
  exact ⟨h.1.1, h.1.2, h.2⟩

theorem endE_zero {f s n d a x : Int} (h : endE f s n d a x = 0) : rightB f s n d = true := by
  unfold endE at h
  by_cases g : addE a x = 0
  · rw [if_pos g] at h
    exact (realE_zero h).1
  · rw [if_neg g] at h
    exact absurd h g

theorem openE_zero {f s n d : Int} {ns : Nat} {fr tt : Nat → Int} {R r : Int} {i : Nat} (h : openE f s n d ns fr tt R r i = 0) :
    rightB f s n d = true ∧ openF f s n d ns fr tt R r i = realT f s n d (r * R + fr i) ∧ openT f s n d ns fr tt R r i = realT f s n d (r * R + tt i) := by
  refine ⟨?_, ?_, ?_⟩
  · unfold openE at h
    by_cases g1 : (i : Int) < 0 ∨ (ns : Int) ≤ i
    · rw [if_pos g1] at h; cases h
    · rw [if_neg g1] at h
      by_cases g2 : R < 1 ∨ r < 0 ∨ 1099511627776 / R < r
      · rw [if_pos g2] at h; cases h
      · rw [if_neg g2] at h
        by_cases g3 : endE f s n d (r * R) (fr (i : Int).toNat) = 0
        · exact endE_zero g3
        · rw [if_neg g3] at h
          exact absurd h g3
  · unfold openF; rw [if_pos h]; simp only [endT, Int.toNat_natCast]
  · unfold openT; rw [if_pos h]; simp only [endT, Int.toNat_natCast]

/-- What passes is within what is open. -/
theorem com_in {p q r s : Int} (h : comB p q r s = true) : p ≤ comF p q r s ∧ comT p q r s ≤ q ∧ comF p q r s < comT p q r s := by
  have g := h
  unfold comB at g
  have g := of_decide_eq_true g
  unfold comF comT
  rw [if_pos h, if_pos h]
  omega

theorem com_two {p q r s : Int} (h : comB p q r s = true) : p < q ∧ r < s ∧ p < s ∧ r < q := by
  unfold comB at h
  have g := of_decide_eq_true h
  omega

theorem slots_words {nd fr tt : Nat → Int} {nodes skew R : Int} {ns : Nat} (hsk : 0 ≤ skew) (hs : ∀ j, j < ns → slotErr nd fr tt nodes skew R j = 0) :
    (∀ j, j < ns → fr j < tt j) ∧ (∀ j, j < ns → 0 ≤ fr j) ∧ (∀ j, j < ns → tt j ≤ R - skew - 1) ∧ ∀ j, j + 1 < ns → tt j + skew + 1 ≤ fr (j + 1) := by
  have h := slots_up hsk hs
  refine ⟨fun j hj => (h j hj).2.1, fun j hj => (h j hj).1, fun j hj => (h j hj).2.2, fun j hj => ?_⟩
  have := (slotErr_to (hs (j + 1) hj)).2.2.2.1 (by omega)
  simp at this
  omega

/-- A time in both: clocks are further apart there than they may be. -/
theorem no_two {fa sa na da fb sb nb db : Int} {ns : Nat} {nd fr tt : Nat → Int} {nodes skew R a b p1 q1 p2 q2 lo : Int} {k1 i1 k2 i2 : Nat} (hsk : 0 ≤ skew) (hs : ∀ j, j < ns → slotErr nd fr tt nodes skew R j = 0)
    (hi1 : i1 < ns) (hi2 : i2 < ns) (h1 : hitB fa sa na da ns nd fr tt R a p1 q1 lo k1 i1 = true) (h2 : hitB fb sb nb db ns nd fr tt R b p2 q2 lo k2 i2 = true) (hab : a ≠ b) {s0 s1 t0 t1 : Int}
    (e0 : passF fa sa na da ns fr tt R p1 q1 lo (some (k1, i1)) = s0) (e1 : passT fa sa na da ns fr tt R p1 q1 lo (some (k1, i1)) = s1) (e2 : passF fb sb nb db ns fr tt R p2 q2 lo (some (k2, i2)) = t0) (e3 : passT fb sb nb db ns fr tt R p2 q2 lo (some (k2, i2)) = t1)
    (hm : comB s0 s1 t0 t1 = true)
    {u v : Int} (hu : u = max fa fb) (hv : v = max s1 t1)
    (n1 : (sa + (u - fa) * na / da) - (sb + (u - fb) * nb / db) ≤ skew - 2) (n2 : (sb + (u - fb) * nb / db) - (sa + (u - fa) * na / da) ≤ skew - 2)
    (n3 : (sa + (v - fa) * na / da) - (sb + (v - fb) * nb / db) ≤ skew - 2) (n4 : (sb + (v - fb) * nb / db) - (sa + (v - fa) * na / da) ≤ skew - 2) : False := by
  obtain ⟨g1, g2, g3⟩ := hitB_parts h1
  obtain ⟨k1', k2', k3⟩ := hitB_parts h2
  obtain ⟨ra, oa, ta⟩ := openE_zero g2
  obtain ⟨rb, ob, tb⟩ := openE_zero k2'
  simp only [passF, passT] at e0 e1 e2 e3
  have c1 := com_in g3
  have c2 := com_in k3
  rw [e0, e1, oa, ta] at c1
  rw [e2, e3, ob, tb] at c2
  have m := com_two hm
  have fA := realT_from (l := (lo + (k1 : Int)) * R + fr i1) ra
  have fB := realT_from (l := (lo + (k2 : Int)) * R + fr i2) rb
  obtain ⟨x, hx0, hx1, hx2, hx3⟩ : ∃ x, s0 ≤ x ∧ t0 ≤ x ∧ x < s1 ∧ x < t1 := by
    rcases Int.le_total s0 t0 with h | h
    · exact ⟨t0, h, Int.le_refl _, m.2.2.2, m.2.1⟩
    · exact ⟨s0, Int.le_refl _, h, m.1, m.2.2.1⟩
  have A0 := (realT_iff (l := (lo + (k1 : Int)) * R + fr i1) (t := x) ra (by omega)).2 (by omega)
  have A1 : ¬ _ := fun h => absurd ((realT_iff (l := (lo + (k1 : Int)) * R + tt i1) (t := x) ra (by omega)).1 h) (by omega)
  have B0 := (realT_iff (l := (lo + (k2 : Int)) * R + fr i2) (t := x) rb (by omega)).2 (by omega)
  have B1 : ¬ _ := fun h => absurd ((realT_iff (l := (lo + (k2 : Int)) * R + tt i2) (t := x) rb (by omega)).1 h) (by omega)
  obtain ⟨z1, z2, z3, z4⟩ := slots_words hsk hs
  have hne : i1 ≠ i2 := fun e => by
    subst e
    exact hab (g1.symm.trans k1')
  have ap := slots_apart hsk z1 z2 z3 z4 (r := lo + k1) (q := lo + k2) hi1 hi2 (.inr hne)
  have pa := (right_of ra).2.2.2.2.2.2.1
  have pb := (right_of rb).2.2.2.2.2.2.1
  have l1 := near (na := na) (nb := nb) (sa := sa) (sb := sb) (fa := fa) (fb := fb) (t1 := u) (x := x) (t2 := v) (show 0 < da by omega) (show 0 < db by omega) (by omega) (by omega) n2 n4
  have l2 := near (na := nb) (nb := na) (sa := sb) (sb := sa) (fa := fb) (fb := fa) (t1 := u) (x := x) (t2 := v) (show 0 < db by omega) (show 0 < da by omega) (by omega) (by omega) n1 n3
  generalize sa + (x - fa) * na / da = SA at *
  generalize sb + (x - fb) * nb / db = SB at *
  omega
end Go.Proofs.Ytlpojkehbhkdiaa
