/- Plain facts on clocks, without the program: what a clock shows, and when it shows so much first (whole numbers alone). -/
import GoSem.Claim
import Derived.Test.YtdmokcnoljlogaaGreatDoorProg
import Derived.Test.YtdmokcnoljlogaaGreatDoorWordsB
import Derived.WalkKit
import Derived.WalkSpells
import Derived.WalkLawsBesides
import Derived.Below
import Derived.Test.YtdmokcnoljlogaaGreatDoorWordsA
import Derived.Test.YtdmokcnoljlogaaGreatDoorShelf
import Derived.Lib.OwnBridge
import Derived.Sort.Grow
import Derived.Sort.OwnSortedInts
import Derived.BigQuiet
import Derived.Shelf.GgClosure.Gives
namespace Go.Proofs.YtdmokcnoljlogaaGreatDoor

/-- A clock that may be. -/
def rightB (f s n d : Int) : Bool := decide (0 ≤ f ∧ f ≤ 1099511627776 ∧ -1099511627776 ≤ s ∧ s ≤ 1099511627776 ∧ 1 ≤ n ∧ n ≤ 1000000 ∧ 1 ≤ d ∧ d ≤ 1000000 ∧ n ≤ 2 * d ∧ d ≤ 2 * n)

theorem right_of {f s n d : Int} (h : rightB f s n d = true) : 0 ≤ f ∧ f ≤ 1099511627776 ∧ -1099511627776 ≤ s ∧ s ≤ 1099511627776 ∧ 1 ≤ n ∧ n ≤ 1000000 ∧ 1 ≤ d ∧ d ≤ 1000000 ∧ n ≤ 2 * d ∧ d ≤ 2 * n := of_decide_eq_true h

/-- What is added to Show at a time behind From: bounds. -/
theorem prod_bounds {x n M R : Int} (h0 : 0 ≤ x) (h1 : x ≤ M) (h2 : 1 ≤ n) (h3 : n ≤ R) : 0 ≤ x * n ∧ x * n ≤ M * R :=
  ⟨Int.mul_nonneg h0 (by omega), Int.mul_le_mul h1 h3 (by omega) (by omega)⟩

theorem quo_bounds {x n d M : Int} (h0 : 0 ≤ x) (h1 : x ≤ M) (h2 : 1 ≤ n) (h4 : 1 ≤ d) (h5 : n ≤ 2 * d) : 0 ≤ x * n / d ∧ x * n / d ≤ 2 * M := by
  have hx : 0 ≤ x * n := Int.mul_nonneg h0 (by omega)
  refine ⟨Int.ediv_nonneg hx (by omega), ?_⟩
  have h6 : x * n ≤ (2 * M) * d := by
    have a1 : x * n ≤ x * (2 * d) := Int.mul_le_mul_of_nonneg_left h5 h0
    have a2 : x * (2 * d) ≤ M * (2 * d) := Int.mul_le_mul_of_nonneg_right h1 (by omega)
    have a3 : M * (2 * d) = (2 * M) * d := by rw [← Int.mul_assoc, Int.mul_comm M 2]
    omega
  exact Int.ediv_le_of_le_mul (by omega) h6

theorem up_bounds {x n d M : Int} (h0 : 0 ≤ x) (h1 : x ≤ M) (h2 : 1 ≤ n) (h4 : 1 ≤ d) (h5 : d ≤ 2 * n) : 0 ≤ (x * d + n - 1) / n ∧ (x * d + n - 1) / n ≤ 2 * M + 1 := by
  have hx : 0 ≤ x * d := Int.mul_nonneg h0 (by omega)
  refine ⟨Int.ediv_nonneg (by omega) (by omega), ?_⟩
  have h6 : x * d + n - 1 ≤ (2 * M + 1) * n := by
    have a1 : x * d ≤ x * (2 * n) := Int.mul_le_mul_of_nonneg_left h5 h0
    have a2 : x * (2 * n) ≤ M * (2 * n) := Int.mul_le_mul_of_nonneg_right h1 (by omega)
    have a3 : M * (2 * n) = (2 * M) * n := by rw [← Int.mul_assoc, Int.mul_comm M 2]
    have a4 : (2 * M + 1) * n = (2 * M) * n + n := by rw [Int.add_mul, Int.one_mul]
    omega
  exact Int.ediv_le_of_le_mul (by omega) h6

end Go.Proofs.YtdmokcnoljlogaaGreatDoor

/- Plain facts on clocks: the first time is the first, and a clock never goes back (whole numbers alone). -/
namespace Go.Proofs.YtdmokcnoljlogaaGreatDoor

/-- Rounded up, it is enough. -/
theorem up_enough {x n d : Int} (hn : 1 ≤ n) (hd : 1 ≤ d) : x ≤ (x * d + n - 1) / n * n / d := by
  have h1 : x * d ≤ (x * d + n - 1) / n * n := by
    have e := Int.mul_ediv_add_emod (x * d + n - 1) n
    have l := Int.emod_lt_of_pos (x * d + n - 1) (show 0 < n by omega)
    rw [Int.mul_comm] at e
    omega
  exact Int.le_ediv_of_mul_le (by omega) h1

/-- One less is not. -/
theorem up_least {x n d : Int} (hn : 1 ≤ n) (hd : 1 ≤ d) : ((x * d + n - 1) / n - 1) * n / d < x := by
  apply Int.ediv_lt_of_lt_mul (by omega)
  have e := Int.mul_ediv_add_emod (x * d + n - 1) n
  have g := Int.emod_nonneg (x * d + n - 1) (show n ≠ 0 by omega)
  rw [Int.mul_comm] at e
  have m : ((x * d + n - 1) / n - 1) * n = (x * d + n - 1) / n * n - n := by rw [Int.sub_mul, Int.one_mul]
  omega

theorem up_one {x n d : Int} (hx : 1 ≤ x) (hn : 1 ≤ n) (hd : 1 ≤ d) : 1 ≤ (x * d + n - 1) / n := by
  apply Int.le_ediv_of_mul_le (by omega)
  have : 1 * 1 ≤ x * d := Int.mul_le_mul hx hd (by omega) (by omega)
  omega

theorem shows_mono {p q n d : Int} (h : p ≤ q) (hn : 1 ≤ n) (hd : 1 ≤ d) : p * n / d ≤ q * n / d :=
  Int.ediv_le_ediv (by omega) (Int.mul_le_mul_of_nonneg_right h (by omega))

end Go.Proofs.YtdmokcnoljlogaaGreatDoor

/- Plain words on clocks and slots, for guards: when a clock shows so much first, and when a slot is open. -/
namespace Go.Proofs.YtdmokcnoljlogaaGreatDoor

/-- The first time at which a clock shows so much. -/
def realT (f s n d l : Int) : Int := if l ≤ s then f else f + ((l - s) * d + n - 1) / n
/-- What is wrong with it: 1: ErrArg; 2: ErrRange; 0: nothing. -/
def realE (f s n d l : Int) : Int := if rightB f s n d = false then 1 else if l < -1099511627776 ∨ 1099511627776 < l then 2 else if 1099511627776 < realT f s n d l then 2 else 0
def realV (f s n d l : Int) : Int := if realE f s n d l = 0 then realT f s n d l else 0
theorem realE_1 {f s n d l : Int} (h : rightB f s n d = false) : realE f s n d l = 1 := by unfold realE; rw [if_pos h]
theorem realE_far {f s n d l : Int} (h : rightB f s n d = true) (h2 : l < -1099511627776 ∨ 1099511627776 < l) : realE f s n d l = 2 := by unfold realE; rw [if_neg (by simp [h]), if_pos h2]
theorem realE_late {f s n d l : Int} (h : rightB f s n d = true) (h1 : -1099511627776 ≤ l) (h2 : l ≤ 1099511627776) (h3 : 1099511627776 < realT f s n d l) : realE f s n d l = 2 := by unfold realE; rw [if_neg (by simp [h]), if_neg (by omega), if_pos h3]
theorem realE_0 {f s n d l : Int} (h : rightB f s n d = true) (h1 : -1099511627776 ≤ l) (h2 : l ≤ 1099511627776) (h3 : realT f s n d l ≤ 1099511627776) : realE f s n d l = 0 := by unfold realE; rw [if_neg (by simp [h]), if_neg (by omega), if_neg (by omega)]
theorem realV_bad {f s n d l : Int} (h : realE f s n d l ≠ 0) : realV f s n d l = 0 := by unfold realV; rw [if_neg h]
theorem realV_ok {f s n d l : Int} (h : realE f s n d l = 0) : realV f s n d l = realT f s n d l := by unfold realV; rw [if_pos h]
theorem realE_zero {f s n d l : Int} (h : realE f s n d l = 0) : rightB f s n d = true ∧ -1099511627776 ≤ l ∧ l ≤ 1099511627776 ∧ realT f s n d l ≤ 1099511627776 := by
  cases h1 : rightB f s n d
  · rw [realE_1 h1] at h; cases h
  · by_cases h2 : l < -1099511627776 ∨ 1099511627776 < l
    · rw [realE_far h1 h2] at h; cases h
    · by_cases h3 : 1099511627776 < realT f s n d l
      · rw [realE_late h1 (by omega) (by omega) h3] at h; cases h
      · exact ⟨rfl, by omega, by omega, by omega⟩
theorem realT_from {f s n d l : Int} (h : rightB f s n d = true) : f ≤ realT f s n d l := by
  obtain ⟨h1, h2, h3, h4, h5, h6, h7, h8, h9, h10⟩ := right_of h
  unfold realT
  split
  · exact Int.le_refl _
  · have := up_one (x := l - s) (n := n) (d := d) (by omega) h5 h7
    omega
/-- From it on the clock shows so much, and ahead of it less. -/
theorem realT_iff {f s n d l t : Int} (h : rightB f s n d = true) (ht : f ≤ t) : l ≤ s + (t - f) * n / d ↔ realT f s n d l ≤ t := by
  obtain ⟨h1, h2, h3, h4, h5, h6, h7, h8, h9, h10⟩ := right_of h
  unfold realT
  by_cases hs : l ≤ s
  · rw [if_pos hs]
    refine ⟨fun _ => ht, fun _ => ?_⟩
    have := quo_bounds (x := t - f) (n := n) (d := d) (M := t - f) (by omega) (Int.le_refl _) h5 h7 h9
    omega
  · rw [if_neg hs]
    have hone := up_one (x := l - s) (n := n) (d := d) (by omega) h5 h7
    have hen := up_enough (x := l - s) (n := n) (d := d) h5 h7
    have hle := up_least (x := l - s) (n := n) (d := d) h5 h7
    constructor
    · intro g
      rcases Int.lt_or_le t (f + ((l - s) * d + n - 1) / n) with q | q
      · have := shows_mono (p := t - f) (q := ((l - s) * d + n - 1) / n - 1) (n := n) (d := d) (by omega) h5 h7
        omega
      · exact q
    · intro g
      have := shows_mono (p := ((l - s) * d + n - 1) / n) (q := t - f) (n := n) (d := d) (by omega) h5 h7
      omega

/-- A sum of times. -/
def addE (a b : Int) : Int := if (-1099511627776 ≤ a ∧ a ≤ 1099511627776) ∧ (-1099511627776 ≤ b ∧ b ≤ 1099511627776) ∧ -1099511627776 ≤ a + b ∧ a + b ≤ 1099511627776 then 0 else 2
def addV (a b : Int) : Int := if addE a b = 0 then a + b else 0
theorem addE_0 {a b : Int} (h : (-1099511627776 ≤ a ∧ a ≤ 1099511627776) ∧ (-1099511627776 ≤ b ∧ b ≤ 1099511627776) ∧ -1099511627776 ≤ a + b ∧ a + b ≤ 1099511627776) : addE a b = 0 := by unfold addE; rw [if_pos h]
theorem addE_2 {a b : Int} (h : ¬ ((-1099511627776 ≤ a ∧ a ≤ 1099511627776) ∧ (-1099511627776 ≤ b ∧ b ≤ 1099511627776) ∧ -1099511627776 ≤ a + b ∧ a + b ≤ 1099511627776)) : addE a b = 2 := by unfold addE; rw [if_neg h]
theorem addV_ok {a b : Int} (h : addE a b = 0) : addV a b = a + b := by unfold addV; rw [if_pos h]
theorem addV_bad {a b : Int} (h : addE a b ≠ 0) : addV a b = 0 := by unfold addV; rw [if_neg h]

/-- When a time of a round is, by a clock: what is wrong; and the time. -/
def endE (f s n d a x : Int) : Int := if addE a x = 0 then realE f s n d (a + x) else addE a x
def endT (f s n d a x : Int) : Int := realT f s n d (a + x)
/-- What is wrong with a slot's being open: 7: ErrMissing. -/
def openE (f s n d : Int) (ns : Nat) (fr tq : Nat → Int) (R round slot : Int) : Int :=
  if slot < 0 ∨ (ns : Int) ≤ slot then 7 else if R < 1 ∨ round < 0 ∨ 1099511627776 / R < round then 2 else if endE f s n d (round * R) (fr slot.toNat) = 0 then endE f s n d (round * R) (tq slot.toNat) else endE f s n d (round * R) (fr slot.toNat)
def openF (f s n d : Int) (ns : Nat) (fr tq : Nat → Int) (R round slot : Int) : Int := if openE f s n d ns fr tq R round slot = 0 then endT f s n d (round * R) (fr slot.toNat) else 0
def openT (f s n d : Int) (ns : Nat) (fr tq : Nat → Int) (R round slot : Int) : Int := if openE f s n d ns fr tq R round slot = 0 then endT f s n d (round * R) (tq slot.toNat) else 0
end Go.Proofs.YtdmokcnoljlogaaGreatDoor

/- The program's Add, whatever it is asked; new memory alone is made. -/
namespace Go.Proofs.YtdmokcnoljlogaaGreatDoor
open Go.RowKit

theorem Tryz.makesFunc (fn : Fn) (first cap : Array Value) (w : World) : (Instr.makeFunc fn first cap).run Tryz.prog w = .ok (.func fn first cap) w := rfl

set_option maxHeartbeats 1000000 in
theorem add1 (a b : Int) (w : World) (h : a < -1099511627776) :
    Calls Tryz.prog 69 #[.int .i64 a, .int .i64 b] w fun e w' => e = .returned (.tuple #[.int .i64 0, .iface 39 (.int .i64 2)]) ∧ Below w.heap.size w w' := by
  have hmf := Tryz.makesFunc
  have hn : decide (-1099511627776 ≤ a) = false := decide_eq_false (by omega)
  go_enter Tryz.func69, Tryz.ntmps69
  go_wp2
  go_ret2
  refine ⟨rfl, ?_⟩
  repeat (refine Below.alloc ?_ (by first | omega | (simp; omega) | simp) _)
  exact Below.refl _ _

set_option maxHeartbeats 1000000 in
theorem add2 (a b : Int) (w : World) (h : 1099511627776 < a) :
    Calls Tryz.prog 69 #[.int .i64 a, .int .i64 b] w fun e w' => e = .returned (.tuple #[.int .i64 0, .iface 39 (.int .i64 2)]) ∧ Below w.heap.size w w' := by
  have hmf := Tryz.makesFunc
  have hp : -1099511627776 ≤ a := by omega
  have hn : decide (a ≤ 1099511627776) = false := decide_eq_false (by omega)
  go_enter Tryz.func69, Tryz.ntmps69
  go_wp2
  go_ret2
  refine ⟨rfl, ?_⟩
  repeat (refine Below.alloc ?_ (by first | omega | (simp; omega) | simp) _)
  exact Below.refl _ _

set_option maxHeartbeats 1000000 in
theorem add3 (a b : Int) (w : World) (h1 : -1099511627776 ≤ a) (h2 : a ≤ 1099511627776) (h : b < -1099511627776) :
    Calls Tryz.prog 69 #[.int .i64 a, .int .i64 b] w fun e w' => e = .returned (.tuple #[.int .i64 0, .iface 39 (.int .i64 2)]) ∧ Below w.heap.size w w' := by
  have hmf := Tryz.makesFunc
  have hn : decide (-1099511627776 ≤ b) = false := decide_eq_false (by omega)
  go_enter Tryz.func69, Tryz.ntmps69
  go_wp2
  go_ret2
  refine ⟨rfl, ?_⟩
  repeat (refine Below.alloc ?_ (by first | omega | (simp; omega) | simp) _)
  exact Below.refl _ _

set_option maxHeartbeats 1000000 in
theorem add4 (a b : Int) (w : World) (h1 : -1099511627776 ≤ a) (h2 : a ≤ 1099511627776) (h : 1099511627776 < b) :
    Calls Tryz.prog 69 #[.int .i64 a, .int .i64 b] w fun e w' => e = .returned (.tuple #[.int .i64 0, .iface 39 (.int .i64 2)]) ∧ Below w.heap.size w w' := by
  have hmf := Tryz.makesFunc
  have hp : -1099511627776 ≤ b := by omega
  have hn : decide (b ≤ 1099511627776) = false := decide_eq_false (by omega)
  go_enter Tryz.func69, Tryz.ntmps69
  go_wp2
  go_ret2
  refine ⟨rfl, ?_⟩
  repeat (refine Below.alloc ?_ (by first | omega | (simp; omega) | simp) _)
  exact Below.refl _ _

set_option maxHeartbeats 1000000 in
theorem add5 (a b : Int) (w : World) (h1 : -1099511627776 ≤ a) (h2 : a ≤ 1099511627776) (h3 : -1099511627776 ≤ b) (h4 : b ≤ 1099511627776) (h : a + b < -1099511627776) :
    Calls Tryz.prog 69 #[.int .i64 a, .int .i64 b] w fun e w' => e = .returned (.tuple #[.int .i64 0, .iface 39 (.int .i64 2)]) ∧ Below w.heap.size w w' := by
  have hmf := Tryz.makesFunc
  have hn : decide (-1099511627776 ≤ a + b) = false := decide_eq_false (by omega)
  go_enter Tryz.func69, Tryz.ntmps69
  go_wp2
  go_ret2
  refine ⟨rfl, ?_⟩
  repeat (refine Below.alloc ?_ (by first | omega | (simp; omega) | simp) _)
  exact Below.refl _ _

set_option maxHeartbeats 1000000 in
theorem add6 (a b : Int) (w : World) (h1 : -1099511627776 ≤ a) (h2 : a ≤ 1099511627776) (h3 : -1099511627776 ≤ b) (h4 : b ≤ 1099511627776) (h : 1099511627776 < a + b) :
    Calls Tryz.prog 69 #[.int .i64 a, .int .i64 b] w fun e w' => e = .returned (.tuple #[.int .i64 0, .iface 39 (.int .i64 2)]) ∧ Below w.heap.size w w' := by
  have hmf := Tryz.makesFunc
  have hp : -1099511627776 ≤ a + b := by omega
  have hn : decide (a + b ≤ 1099511627776) = false := decide_eq_false (by omega)
  go_enter Tryz.func69, Tryz.ntmps69
  go_wp2
  go_ret2
  refine ⟨rfl, ?_⟩
  repeat (refine Below.alloc ?_ (by first | omega | (simp; omega) | simp) _)
  exact Below.refl _ _

set_option maxHeartbeats 1000000 in
theorem add7 (a b : Int) (w : World) (h1 : -1099511627776 ≤ a) (h2 : a ≤ 1099511627776) (h3 : -1099511627776 ≤ b) (h4 : b ≤ 1099511627776) (h5 : -1099511627776 ≤ a + b) (h6 : a + b ≤ 1099511627776) :
    Calls Tryz.prog 69 #[.int .i64 a, .int .i64 b] w fun e w' => e = .returned (.tuple #[.int .i64 (a + b), .nilIface]) ∧ Below w.heap.size w w' := by
  have hmf := Tryz.makesFunc
  go_enter Tryz.func69, Tryz.ntmps69
  go_wp2
  go_ret2
  refine ⟨rfl, ?_⟩
  repeat (refine Below.alloc ?_ (by first | omega | (simp; omega) | simp) _)
  exact Below.refl _ _

theorem add_any (a b : Int) (w : World) : Calls Tryz.prog 69 #[.int .i64 a, .int .i64 b] w fun e w' => e = .returned (.tuple #[.int .i64 (addV a b), errV (addE a b)]) ∧ Below w.heap.size w w' := by
  by_cases h : (-1099511627776 ≤ a ∧ a ≤ 1099511627776) ∧ (-1099511627776 ≤ b ∧ b ≤ 1099511627776) ∧ -1099511627776 ≤ a + b ∧ a + b ≤ 1099511627776
  · rw [addV_ok (addE_0 h), addE_0 h, errV_0]
    exact add7 a b w h.1.1 h.1.2 h.2.1.1 h.2.1.2 h.2.2.1 h.2.2.2
  · rw [addV_bad (by rw [addE_2 h]; decide), addE_2 h, errV_2]
    by_cases h1 : -1099511627776 ≤ a
    · by_cases h2 : a ≤ 1099511627776
      · by_cases h3 : -1099511627776 ≤ b
        · by_cases h4 : b ≤ 1099511627776
          · by_cases h5 : -1099511627776 ≤ a + b
            · exact add6 a b w h1 h2 h3 h4 (by omega)
            · exact add5 a b w h1 h2 h3 h4 (by omega)
          · exact add4 a b w h1 h2 (by omega)
        · exact add3 a b w h1 h2 (by omega)
      · exact add2 a b w (by omega)
    · exact add1 a b w (by omega)
end Go.Proofs.YtdmokcnoljlogaaGreatDoor

/- An error that is an At, or none: what lies in memory. -/
namespace Go.Proofs.YtdmokcnoljlogaaGreatDoor

/-- An error that is an At, or none. -/
def AtIs (w : World) (E : Value) (e i : Int) : Prop :=
  (E = .nilIface ∧ e = 0) ∨ (∃ b, E = .iface 150 (.pointer (some ⟨b, 0, none⟩)) ∧ e ≠ 0 ∧ w.cell? ⟨b, 0, none⟩ = some (.int .i64 e) ∧ w.cell? ⟨b, 1, none⟩ = some (.int .i64 i))
end Go.Proofs.YtdmokcnoljlogaaGreatDoor

/-
  Plain words on readings: which error Midpoint answers, and what; a row of numbers in memory.
-/
namespace Go.Proofs.YtdmokcnoljlogaaGreatDoor
open Go.RowKit

/-- A number lies further from 0 than MaxTime. -/
def far (x : Int) : Bool := decide (x < -1099511627776) || decide (1099511627776 < x)

theorem far_false {x : Int} : far x = false ↔ -1099511627776 ≤ x ∧ x ≤ 1099511627776 := by
  unfold far; simp
theorem far_true {x : Int} : far x = true ↔ x < -1099511627776 ∨ 1099511627776 < x := by
  unfold far; simp

/-- What is wrong with readings: 1: ErrArg; 2: ErrRange; 0: nothing. -/
def midErr (l : List Int) (f : Int) : Int := if f < 0 ∨ (l.length : Int) < 2 * f + 1 then 1 else if l.any far = true then 2 else 0
def midVal (l : List Int) (f : Int) : Int := if midErr l f = 0 then midOf l f.toNat else 0

theorem midErr_1 {l : List Int} {f : Int} (h : f < 0 ∨ (l.length : Int) < 2 * f + 1) : midErr l f = 1 := by unfold midErr; rw [if_pos h]
theorem midErr_2 {l : List Int} {f : Int} (h : ¬ (f < 0 ∨ (l.length : Int) < 2 * f + 1)) (h2 : l.any far = true) : midErr l f = 2 := by unfold midErr; rw [if_neg h, if_pos h2]
theorem midErr_0 {l : List Int} {f : Int} (h : ¬ (f < 0 ∨ (l.length : Int) < 2 * f + 1)) (h2 : l.any far = false) : midErr l f = 0 := by unfold midErr; rw [if_neg h, if_neg (by simp [h2])]
theorem midVal_bad {l : List Int} {f : Int} (h : midErr l f ≠ 0) : midVal l f = 0 := by unfold midVal; rw [if_neg h]
theorem midVal_ok {l : List Int} {f : Int} (h : midErr l f = 0) : midVal l f = midOf l f.toNat := by unfold midVal; rw [if_pos h]

/-- What is left of readings within MaxTime is within MaxTime. -/
theorem rank_in {l : List Int} (h : l.any far = false) {k : Nat} (hk : k < l.length) : -1099511627776 ≤ rank l k ∧ rank l k ≤ 1099511627776 := by
  have := rank_mem l hk
  rw [List.any_eq_false] at h
  exact far_false.1 (by simpa using h _ this)


theorem below_then {w u v : World} (h : Below w.heap.size w u) (k : Below u.heap.size u v) : Below w.heap.size w v := h.trans (k.mono h.size)
end Go.Proofs.YtdmokcnoljlogaaGreatDoor

/- Rows of numbers of one's own that were sorted (the library's sorts, as the seat's Shelf lays them). -/
namespace Go.Proofs.YtdmokcnoljlogaaGreatDoor
open Go.RowKit Go.Shelf Go.Sort

theorem cell_of_holds {w : World} {g : Nat} {S : List Int} (h : Holds (Value.int .i64) w g 0 S.toArray) (j : Nat) (hj : j < S.length) : w.cell? ⟨g, j, none⟩ = some (.int .i64 (S.getD j 0)) := by
  have h1 := (h j (by simpa using hj)).1
  rw [Nat.zero_add] at h1
  rw [h1, getElem!_pos _ j (by simpa using hj)]
  simp [List.getD, List.getElem?_eq_getElem hj]

/-- Behind a sort: the row in its order; below, all is as it was. -/
theorem sorted_row {w w1 w2 : World} {g nn : Nat} {os : Array Obj} {l : List Int} (hB : Below w.heap.size w w1) (hg : w.heap.size ≤ g) (hlt : g < w1.heap.size) (hH : Holds (Value.int .i64) w1 g 0 l.toArray)
    (hw2 : w2 = grow (putRow (Value.int .i64) (Sort.ahead w1 nn) g 0 (l.mergeSort fun x y => decide (x ≤ y)).toArray) os) :
    (∀ k, k < l.length → w2.cell? ⟨g, k, none⟩ = some (.int .i64 (rank l k))) ∧ Below w.heap.size w w2 := by
  have hH2 : Holds (Value.int .i64) w2 g 0 (srt l).toArray := by
    subst hw2
    exact holds_grow _ _ os g 0 _ (by simpa [putRow, mapBlock, Sort.ahead] using hlt) (holds_putRow _ _ g 0 _ _ (holds_ahead _ w1 nn g 0 _ hH) (by simp))
  refine ⟨fun k hk => ?_, ?_⟩
  · exact cell_of_holds hH2 k (by rw [srt_length]; exact hk)
  · subst hw2
    exact hB.grown (grownBy_sortedI _) hB.size (fun j hj => by cases hj; exact hg)

end Go.Proofs.YtdmokcnoljlogaaGreatDoor

/- How far a clock is set on by its row of readings, in plain words; rows of rows in memory. -/
namespace Go.Proofs.YtdmokcnoljlogaaGreatDoor
open Go.RowKit

/-- What is wrong with a clock and its row: 1: ErrArg; 2: ErrRange; 0: nothing. -/
def stepErr (m : Nat) (c : Int) (row : List Int) (f : Int) : Int := if row.length ≠ m then 1 else if far c = true then 2 else midErr row f
def stepVal (m : Nat) (c : Int) (row : List Int) (f : Int) : Int := if stepErr m c row f = 0 then midVal row f else 0
theorem stepErr_1 {m : Nat} {c : Int} {row : List Int} {f : Int} (h : row.length ≠ m) : stepErr m c row f = 1 := by unfold stepErr; rw [if_pos h]
theorem stepErr_2 {m : Nat} {c : Int} {row : List Int} {f : Int} (h : row.length = m) (h2 : far c = true) : stepErr m c row f = 2 := by unfold stepErr; rw [if_neg (by simp [h]), if_pos h2]
theorem stepErr_mid {m : Nat} {c : Int} {row : List Int} {f : Int} (h : row.length = m) (h2 : far c = false) : stepErr m c row f = midErr row f := by unfold stepErr; rw [if_neg (by simp [h]), if_neg (by simp [h2])]
theorem stepVal_bad {m : Nat} {c : Int} {row : List Int} {f : Int} (h : stepErr m c row f ≠ 0) : stepVal m c row f = 0 := by unfold stepVal; rw [if_neg h]
theorem stepVal_ok {m : Nat} {c : Int} {row : List Int} {f : Int} (h : stepErr m c row f = 0) : stepVal m c row f = midVal row f := by unfold stepVal; rw [if_pos h]
theorem stepErr_zero {m : Nat} {c : Int} {row : List Int} {f : Int} (h : stepErr m c row f = 0) : row.length = m ∧ far c = false ∧ midErr row f = 0 := by
  by_cases h1 : row.length = m
  · cases h2 : far c
    · rw [stepErr_mid h1 h2] at h; exact ⟨h1, rfl, h⟩
    · rw [stepErr_2 h1 h2] at h; cases h
  · rw [stepErr_1 h1] at h; cases h
theorem midErr_zero {l : List Int} {f : Int} (h : midErr l f = 0) : 0 ≤ f ∧ 2 * f + 1 ≤ (l.length : Int) ∧ l.any far = false := by
  by_cases h1 : f < 0 ∨ (l.length : Int) < 2 * f + 1
  · rw [midErr_1 h1] at h; cases h
  · cases h2 : l.any far
    · exact ⟨by omega, by omega, rfl⟩
    · rw [midErr_2 h1 h2] at h; cases h
/-- A middle lies within MaxTime. -/
theorem midVal_in (l : List Int) (f : Int) : -1099511627776 ≤ midVal l f ∧ midVal l f ≤ 1099511627776 := by
  by_cases h : midErr l f = 0
  · obtain ⟨h1, h2, h3⟩ := midErr_zero h
    rw [midVal_ok h]
    have a := rank_in h3 (k := f.toNat) (by omega)
    have b := rank_in h3 (k := l.length - 1 - f.toNat) (by omega)
    unfold midOf
    omega
  · rw [midVal_bad h]; omega

/-- A row of rows of numbers in memory. -/
def TabRow (w : World) (a : Option Addr) (rows : List (List Int)) : Prop :=
  0 < rows.length → ∃ b off, a = some ⟨b, off, none⟩ ∧ b < w.heap.size ∧ ∀ j, j < rows.length → ∃ ra cap, w.cell? ⟨b, off + j, none⟩ = some (.slice ra (rows.getD j []).length cap) ∧ IntRow w ra (rows.getD j [])

theorem TabRow.below {w w' : World} {a : Option Addr} {rows : List (List Int)} (h : TabRow w a rows) (hb : Below w.heap.size w w') : TabRow w' a rows := fun h0 => by
  obtain ⟨b, off, e, hl, hc⟩ := h h0
  refine ⟨b, off, e, Nat.lt_of_lt_of_le hl hb.size, fun j hj => ?_⟩
  obtain ⟨ra, cap, h1, h2⟩ := hc j hj
  exact ⟨ra, cap, (hb.cell (p := ⟨b, off + j, none⟩) hl).trans h1, h2.below hb⟩

/-- What the first k clocks show behind a round. -/
def setTo (cs : List Int) (rows : List (List Int)) (f : Int) (k : Nat) : List Int := (List.range k).map fun j => cs.getD j 0 + midVal (rows.getD j []) f
theorem setTo_succ (cs : List Int) (rows : List (List Int)) (f : Int) (k : Nat) : setTo cs rows f (k + 1) = setTo cs rows f k ++ [cs.getD k 0 + midVal (rows.getD k []) f] := by
  simp [setTo, List.range_succ]
theorem setTo_len (cs : List Int) (rows : List (List Int)) (f : Int) (k : Nat) : (setTo cs rows f k).length = k := by simp [setTo]
end Go.Proofs.YtdmokcnoljlogaaGreatDoor
