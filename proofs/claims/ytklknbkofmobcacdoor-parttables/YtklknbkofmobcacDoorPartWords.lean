/- Plain words on windows of a frame: which partition runs, and for how long yet (9.1). Windows as three rows of numbers: part, from, to. -/
import Derived.Test.YtklknbkofmobcacDoorFirstBad
namespace Go.Proofs.YtklknbkofmobcacDoor

theorem FirstBad.fine {f : Nat → Int} {n : Nat} {i : Int} (h : FirstBad f n 0 i) : ∀ j, j < n → f j = 0 := by
  rcases h with ⟨h, _⟩ | ⟨_, _, _, _, h, _⟩
  · exact h
  · exact absurd rfl h
/-- What is wrong with a table, and where (-1: nowhere). -/
def winK (frame : Int) (n : Nat) (e : Int) : Int := if ¬ (1 ≤ frame ∧ frame ≤ 1099511627776) then 2 else if 32 < n then 4 else e
def winP (frame : Int) (n : Nat) (e i : Int) : Int := if ¬ (1 ≤ frame ∧ frame ≤ 1099511627776) then -1 else if 32 < n then -1 else if e = 0 then -1 else i
/-- All windows may be, one behind the other, within the frame. -/
def WinsOk (pt fr to : Nat → Int) (frame : Int) (n : Nat) : Prop := ∀ j, j < n → winErr pt fr to frame j = 0
theorem winErr_zero {pt fr to : Nat → Int} {frame : Int} {j : Nat} (h : winErr pt fr to frame j = 0) : fr j < to j ∧ to j ≤ frame ∧ (j = 0 → 0 ≤ fr j) ∧ (0 < j → to (j - 1) ≤ fr j) ∧ 0 ≤ pt j ∧ pt j ≤ 5 := by
  unfold winErr at h
  by_cases h1 : to j ≤ fr j
  · rw [if_pos h1] at h; cases h
  · rw [if_neg h1] at h
    by_cases h2 : (j = 0 ∧ fr j < 0) ∨ (0 < j ∧ fr j < to (j - 1))
    · rw [if_pos h2] at h; cases h
    · rw [if_neg h2] at h
      by_cases h3 : frame < to j
      · rw [if_pos h3] at h; cases h
      · rw [if_neg h3] at h
        by_cases h4 : pt j < 0 ∨ 5 < pt j
        · rw [if_pos h4] at h; cases h
        · omega
theorem WinsOk.up {pt fr to : Nat → Int} {frame : Int} {n : Nat} (h : WinsOk pt fr to frame n) : ∀ j, j < n → 0 ≤ fr j ∧ fr j < to j ∧ to j ≤ frame ∧ 0 ≤ pt j ∧ pt j ≤ 5 := by
  intro j
  induction j with
  | zero =>
    intro hj
    have := winErr_zero (h 0 hj)
    exact ⟨this.2.2.1 rfl, this.1, this.2.1, this.2.2.2.2⟩
  | succ k ih =>
    intro hj
    have h1 := ih (by omega)
    have h2 := winErr_zero (h (k + 1) hj)
    have h3 := h2.2.2.2.1 (by omega)
    rw [Nat.add_sub_cancel] at h3
    exact ⟨by omega, h2.1, h2.2.1, h2.2.2.2.2⟩
theorem WinsOk.apart {pt fr to : Nat → Int} {frame : Int} {n : Nat} (h : WinsOk pt fr to frame n) {i j : Nat} (hij : i < j) (hj : j < n) : to i ≤ fr j := by
  induction j with
  | zero => omega
  | succ k ih =>
    have h2 := winErr_zero (h (k + 1) hj)
    have h3 := h2.2.2.2.1 (by omega)
    rw [Nat.add_sub_cancel] at h3
    rcases Nat.lt_or_ge i k with q | q
    · have := ih q (by omega)
      have := h.up k (by omega)
      omega
    · obtain rfl : i = k := by omega
      exact h3

/-- How long it is until a window begins (in the next frame, perhaps). -/
def distW (fr : Nat → Int) (frame x : Int) (j : Nat) : Int := if fr j - x < 0 then fr j - x + frame else fr j - x
/-- What At tells: the partition that runs, and how long that lasts yet; or none, and how long it is until one does. -/
def RunsAt (pt fr to : Nat → Int) (frame : Int) (n : Nat) (x p l : Int) : Prop :=
  (∃ j, j < n ∧ fr j ≤ x ∧ x < to j ∧ p = pt j ∧ l = to j - x) ∨
  ((∀ j, j < n → ¬ (fr j ≤ x ∧ x < to j)) ∧ p = -1 ∧ ((n = 0 ∧ l = -1) ∨ ((∃ j, j < n ∧ l = distW fr frame x j) ∧ ∀ j, j < n → l ≤ distW fr frame x j)))
/-- It tells one thing. -/
theorem RunsAt.one {pt fr to : Nat → Int} {frame : Int} {n : Nat} {x p l p' l' : Int} (hw : WinsOk pt fr to frame n) (h : RunsAt pt fr to frame n x p l) (h' : RunsAt pt fr to frame n x p' l') : p = p' ∧ l = l' := by
  rcases h with ⟨j, hj, h1, h2, rfl, rfl⟩ | ⟨hn, rfl, hl⟩
  · rcases h' with ⟨i, hi, g1, g2, rfl, rfl⟩ | ⟨gn, _⟩
    · have : i = j := by
        rcases Nat.lt_trichotomy i j with q | q | q
        · have := hw.apart q hj; omega
        · exact q
        · have := hw.apart q hi; omega
      subst this
      exact ⟨rfl, rfl⟩
    · exact absurd ⟨h1, h2⟩ (gn j hj)
  · rcases h' with ⟨i, hi, g1, g2, _⟩ | ⟨_, rfl, gl⟩
    · exact absurd ⟨g1, g2⟩ (hn i hi)
    · refine ⟨rfl, ?_⟩
      rcases hl with ⟨h0, rfl⟩ | ⟨⟨j, hj, h1⟩, h2⟩
      · rcases gl with ⟨_, rfl⟩ | ⟨⟨i, hi, _⟩, _⟩
        · rfl
        · omega
      · rcases gl with ⟨h0, _⟩ | ⟨⟨i, hi, g1⟩, g2⟩
        · omega
        · have := h2 i hi
          have := g2 j hj
          omega
/-- A partition's share of a frame. -/
def shareW (pt fr to : Nat → Int) (which : Int) : Nat → Int
  | 0 => 0
  | n + 1 => shareW pt fr to which n + (if pt n = which then to n - fr n else 0)
theorem shareW_in {pt fr to : Nat → Int} {frame : Int} {n : Nat} (hw : WinsOk pt fr to frame n) (which : Int) : ∀ k, k ≤ n → 0 ≤ shareW pt fr to which k ∧ shareW pt fr to which k ≤ (if k = 0 then 0 else to (k - 1)) := by
  intro k
  induction k with
  | zero => intro _; exact ⟨Int.le_refl _, Int.le_refl _⟩
  | succ k ih =>
    intro hk
    have h1 := ih (by omega)
    have h2 := hw.up k (by omega)
    have h3 : (if k = 0 then (0 : Int) else to (k - 1)) ≤ fr k := by
      split
      · exact h2.1
      · exact hw.apart (i := k - 1) (j := k) (by omega) (by omega)
    rw [if_neg (by omega), Nat.add_sub_cancel]
    show 0 ≤ shareW pt fr to which k + (if pt k = which then to k - fr k else 0) ∧ shareW pt fr to which k + (if pt k = which then to k - fr k else 0) ≤ to k
    split <;> omega
end Go.Proofs.YtklknbkofmobcacDoor
