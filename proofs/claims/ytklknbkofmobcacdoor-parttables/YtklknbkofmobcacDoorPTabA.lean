/- The program's table of windows: its small words check, slices.Clone and slices.IndexFunc at windows (9.1). New memory alone is made. -/
import Derived.Test.YtklknbkofmobcacDoorProg
import Derived.Test.YtklknbkofmobcacDoorPartWords
import Derived.Test.YtklknbkofmobcacDoorOpenRows
import Derived.Test.YtklknbkofmobcacDoorErrIs
import Derived.Test.YtklknbkofmobcacDoorErrV
import Derived.Test.YtklknbkofmobcacDoorFoot
import Derived.Test.YtklknbkofmobcacDoorOwnInts
import Derived.Deep.AppendLies
import Derived.RegionTactic
import Derived.WalkSpells
import Derived.WalkLawsBesides
import Derived.Deep.RegionHeld3
import Derived.BigQuiet
namespace Go.Proofs.YtklknbkofmobcacDoor
open Go.RowKit

/-- What New leans on besides: nothing. -/
def NewOk (_ : World) : Prop := True
theorem NewOk.below {w w' : World} (_ : NewOk w) (_ : Below w.heap.size w w') : NewOk w' := trivial
theorem newOk {w : World} : NewOk w := trivial

/-- No sooner may a window begin. -/
def leastP (to : Nat → Int) (k : Nat) : Int := if k = 0 then 0 else to (k - 1)
/-- What is wrong with a window that may begin at least, and end at most. -/
def chkErr (pt fr to least most : Int) : Int := if to ≤ fr then 1 else if fr < least then 10 else if most < to then 2 else if pt < 0 ∨ 5 < pt then 7 else 0
theorem winErr_chk (pt fr to : Nat → Int) (frame : Int) (k : Nat) : winErr pt fr to frame k = chkErr (pt k) (fr k) (to k) (leastP to k) frame := by
  have e : ((k = 0 ∧ fr k < 0) ∨ (0 < k ∧ fr k < to (k - 1))) ↔ fr k < leastP to k := by
    unfold leastP
    by_cases h : k = 0
    · rw [if_pos h]
      constructor
      · rintro (⟨_, g⟩ | ⟨g, _⟩)
        · exact g
        · omega
      · intro g; exact .inl ⟨h, g⟩
    · rw [if_neg h]
      constructor
      · rintro (⟨g, _⟩ | ⟨_, g⟩)
        · exact absurd g h
        · omega
      · intro g; exact .inr ⟨by omega, by omega⟩
  unfold winErr chkErr
  simp only [e]

set_option maxRecDepth 100000 in
set_option maxHeartbeats 1000000 in
theorem chkWin_any (pt fr to least most : Int) (w : World) :
    Calls Tryd.prog 11 #[.agg #[.int .i64 pt, .int .i64 fr, .int .i64 to], .int .i64 least, .int .i64 most] w fun e w' => e = .returned (.int .i64 (chkErr pt fr to least most)) ∧ Below w.heap.size w w' := by
  unfold chkErr
  have HB : Hid (Below w.heap.size w (w.alloc (.cells #[.int .i64 pt, .int .i64 fr, .int .i64 to] 37))) := (Below.refl _ _).alloc (Nat.le_refl _) _
  by_cases h1 : to ≤ fr
  · rw [if_pos h1]
    go_enter Tryd.func11, Tryd.ntmps11
    go_wp2
    go_ret
    exact ⟨rfl, HB.out⟩
  · rw [if_neg h1]
    have k1 : decide (to ≤ fr) = false := decide_eq_false h1
    clear h1
    by_cases h2 : fr < least
    · rw [if_pos h2]
      go_enter Tryd.func11, Tryd.ntmps11
      go_wp2
      go_ret
      exact ⟨rfl, HB.out⟩
    · rw [if_neg h2]
      have k2 : decide (fr < least) = false := decide_eq_false h2
      clear h2
      by_cases h3 : most < to
      · rw [if_pos h3]
        go_enter Tryd.func11, Tryd.ntmps11
        go_wp2
        go_ret
        exact ⟨rfl, HB.out⟩
      · rw [if_neg h3]
        have k3 : decide (most < to) = false := decide_eq_false h3
        clear h3
        by_cases h4 : pt < 0
        · rw [if_pos (.inl h4)]
          go_enter Tryd.func11, Tryd.ntmps11
          go_wp2
          go_ret
          exact ⟨rfl, HB.out⟩
        · have k4 : decide (pt < 0) = false := decide_eq_false h4
          by_cases h5 : 5 < pt
          · rw [if_pos (.inr h5)]
            have k5 : 6 ≤ pt := by omega
            clear h4 h5
            go_enter Tryd.func11, Tryd.ntmps11
            go_wp2
            go_ret
            exact ⟨rfl, HB.out⟩
          · rw [if_neg (by omega)]
            have k5 : decide (6 ≤ pt) = false := decide_eq_false (by omega)
            clear h4 h5
            go_enter Tryd.func11, Tryd.ntmps11
            go_wp2
            go_ret
            exact ⟨rfl, HB.out⟩

theorem Tryd.infoWin : (Tryd.prog.info? 37).map (fun i => (i.zero, i.size, i.bytes)) = some (some (.agg #[.int .i64 0, .int .i64 0, .int .i64 0]), 3, 24) := by kernel_rfl

/-- Windows, cell by cell. -/
def winCells (pt fr to : Nat → Int) : Nat → List Value
  | 0 => []
  | n + 1 => winCells pt fr to n ++ [.int .i64 (pt n), .int .i64 (fr n), .int .i64 (to n)]
theorem winCells_length (pt fr to : Nat → Int) : ∀ n, (winCells pt fr to n).length = n * 3 := by
  intro n
  induction n with
  | zero => rfl
  | succ n ih => simp [winCells, ih]; omega
theorem winCells_at (pt fr to : Nat → Int) : ∀ n i, i < n → (winCells pt fr to n)[i * 3]? = some (.int .i64 (pt i)) ∧ (winCells pt fr to n)[i * 3 + 1]? = some (.int .i64 (fr i)) ∧ (winCells pt fr to n)[i * 3 + 2]? = some (.int .i64 (to i)) := by
  intro n
  induction n with
  | zero => intro i hi; omega
  | succ n ih =>
    intro i hi
    have hl := winCells_length pt fr to n
    rcases Nat.lt_or_ge i n with q | q
    · have := ih i q
      unfold winCells
      rw [List.getElem?_append_left (by omega), List.getElem?_append_left (by omega), List.getElem?_append_left (by omega)]
      exact this
    · obtain rfl : i = n := by omega
      unfold winCells
      rw [List.getElem?_append_right (by omega), List.getElem?_append_right (by omega), List.getElem?_append_right (by omega), hl]
      refine ⟨?_, ?_, ?_⟩
      · simp
      · rw [show i * 3 + 1 - i * 3 = 1 by omega]; rfl
      · rw [show i * 3 + 2 - i * 3 = 2 by omega]; rfl
theorem winCells_cell (pt fr to : Nat → Int) (n j : Nat) (u : Value) (h : (winCells pt fr to n)[j]? = some u) : ∃ i, i < n ∧ ((j = i * 3 ∧ u = .int .i64 (pt i)) ∨ (j = i * 3 + 1 ∧ u = .int .i64 (fr i)) ∨ (j = i * 3 + 2 ∧ u = .int .i64 (to i))) := by
  have hl := winCells_length pt fr to n
  have hj : j < n * 3 := by
    rcases Nat.lt_or_ge j (n * 3) with q | q
    · exact q
    · rw [List.getElem?_eq_none (by omega)] at h; cases h
  have h3 := winCells_at pt fr to n (j / 3) (by omega)
  refine ⟨j / 3, by omega, ?_⟩
  have : j % 3 = 0 ∨ j % 3 = 1 ∨ j % 3 = 2 := by omega
  rcases this with q | q | q
  · have e : j = j / 3 * 3 := by omega
    rw [← e] at h3
    rw [h3.1] at h
    cases h
    exact .inl ⟨e, rfl⟩
  · have e : j = j / 3 * 3 + 1 := by omega
    rw [← e] at h3
    rw [h3.2.1] at h
    cases h
    exact .inr (.inl ⟨e, rfl⟩)
  · have e : j = j / 3 * 3 + 2 := by omega
    rw [← e] at h3
    rw [h3.2.2] at h
    cases h
    exact .inr (.inr ⟨e, rfl⟩)
theorem owns_rows3 {w : World} {base n : Nat} {v : Value} {pt fr to : Nat → Int} (h : w.ownsRow base 37 3 v n (winCells pt fr to n)) : ∃ a cap, v = .slice a n cap ∧ Rows3 w a n pt fr to ∧ ∀ b off, a = some ⟨b, off, none⟩ → base ≤ b ∧ b < w.heap.size := by
  rcases h.2 with ⟨rfl, rfl⟩ | ⟨g, cap, cur, rfl, hg, hh, _⟩
  · exact ⟨none, 0, rfl, fun q => absurd q (Nat.lt_irrefl _), fun _ _ e => by cases e⟩
  · have hlt : g < w.heap.size := by
      rcases Nat.lt_or_ge g w.heap.size with q | q
      · exact q
      · rw [Array.getElem?_eq_none q] at hh; cases hh
    refine ⟨_, _, rfl, fun _ => ⟨g, 0, rfl, hlt, fun j hj => ?_⟩, fun b off e => by cases e; exact ⟨hg, hlt⟩⟩
    have h3 := winCells_at pt fr to n j hj
    have c := fun i u (hi : (winCells pt fr to n)[i]? = some u) => h.cells (g := g) rfl i u hi
    refine ⟨?_, ?_, ?_⟩
    · have := c _ _ h3.1; rw [add_at] at this; exact this
    · have := c _ _ h3.2.1; rw [add_at] at this; exact this
    · have := c _ _ h3.2.2; rw [add_at] at this; exact this
end Go.Proofs.YtklknbkofmobcacDoor
