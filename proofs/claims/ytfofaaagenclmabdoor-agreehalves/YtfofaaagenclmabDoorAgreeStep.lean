/- How far a clock is set on by its row of readings: the program's step; rows of rows in memory. -/
import Derived.Test.YtfofaaagenclmabDoorAgreeMid
namespace Go.Proofs.YtfofaaagenclmabDoor
open Go.RowKit Go.Shelf Go.Sort

/-- What is wrong with a clock and its row: 1: ErrArg; 2: ErrRange; 0: nothing. -/
def stepErr (m : Nat) (c : Int) (row : List Int) (f : Int) : Int := if row.length ≠ m then 1 else if far c = true then 2 else midErr row f
def stepVal (m : Nat) (c : Int) (row : List Int) (f : Int) : Int := if stepErr m c row f = 0 then midVal row f else 0
theorem stepErr_1 {m : Nat} {c : Int} {row : List Int} {f : Int} (h : row.length ≠ m) : stepErr m c row f = 1 := by unfold stepErr; rw [if_pos h]
theorem stepErr_2 {m : Nat} {c : Int} {row : List Int} {f : Int} (h : row.length = m) (h2 : far c = true) : stepErr m c row f = 2 := by unfold stepErr; rw [if_neg (by simp [h]), if_pos h2]
theorem stepErr_mid {m : Nat} {c : Int} {row : List Int} {f : Int} (h : row.length = m) (h2 : far c = false) : stepErr m c row f = midErr row f := by unfold stepErr; rw [if_neg (by simp [h]), if_neg (by simp [h2])]
theorem stepVal_bad {m : Nat} {c : Int} {row : List Int} {f : Int} (h : stepErr m c row f ≠ 0) : stepVal m c row f = 0 := by unfold stepVal; rw [if_neg h]
theorem stepVal_ok {m : Nat} {c : Int} {row : List Int} {f : Int} (h : stepErr m c row f = 0) : stepVal m c row f = midVal row f := by unfold stepVal; rw [if_pos h]
theorem stepErr_zero {m : Nat} {c : Int} {row : List Int} {f : Int} (h : stepErr m c row f = 0) : row.length = m ∧ far c = false ∧ midErr row f = 0 := by
  by_cases h1 : row.length = m
  · cases h2 : far c
    · rw [stepErr_mid h1 h2] at h; exact ⟨h1, rfl, h⟩
    · rw [stepErr_2 h1 h2] at h; cases h
  · rw [stepErr_1 h1] at h; cases h
theorem midErr_zero {l : List Int} {f : Int} (h : midErr l f = 0) : 0 ≤ f ∧ 2 * f + 1 ≤ (l.length : Int) ∧ l.any far = false := by
  by_cases h1 : f < 0 ∨ (l.length : Int) < 2 * f + 1
  · rw [midErr_1 h1] at h; cases h
  · cases h2 : l.any far
    · exact ⟨by omega, by omega, rfl⟩
    · rw [midErr_2 h1 h2] at h; cases h
/-- A middle lies within MaxTime. -/
theorem midVal_in (l : List Int) (f : Int) : -1099511627776 ≤ midVal l f ∧ midVal l f ≤ 1099511627776 := by
  by_cases h : midErr l f = 0
  · obtain ⟨h1, h2, h3⟩ := midErr_zero h
    rw [midVal_ok h]
    have a := rank_in h3 (k := f.toNat) (by omega)
    have b := rank_in h3 (k := l.length - 1 - f.toNat) (by omega)
    unfold midOf
    omega
  · rw [midVal_bad h]; omega

set_option maxHeartbeats 1000000 in
theorem step_any (a : Option Addr) (cap : Nat) (row : List Int) (m : Nat) (c f : Int) (w : World) (hr : IntRow w a row) (hn : row.length ≤ 1000) :
    Calls Tryd.prog 24 #[.int .i64 c, .slice a row.length cap, .int .i64 m, .int .i64 f] w fun e w' => e = .returned (.tuple #[.int .i64 (stepVal m c row f), errV (stepErr m c row f)]) ∧ Below w.heap.size w w' := by
  by_cases h1 : row.length = m
  rotate_left
  · rw [stepVal_bad (by rw [stepErr_1 h1]; decide), stepErr_1 h1, errV_1]
    have k1 : ((row.length : Int) != (m : Int)) = true := by simp; omega
    generalize row.length = n at *
    go_enter Tryd.func24, Tryd.ntmps24
    go_wp2
    go_ret2
    exact ⟨rfl, Below.refl _ _⟩
  · have k1 : ((row.length : Int) != (m : Int)) = false := by simp; omega
    have hp := beyond_pred w.heap.size (w.alloc (.cells #[.int .i64 1099511627776] 3)) (by simp) (by simp) _ c (Below.refl _ _)
    have hp : Calls Tryd.prog 30 #[.int .i64 c, .pointer (some ⟨w.heap.size, 0, none⟩)] (w.alloc (.cells #[.int .i64 1099511627776] 3)) fun e w' => e = .returned (.bool (far c)) ∧ ∃ q, w' = (w.alloc (.cells #[.int .i64 1099511627776] 3)).drewN q := hp
    have hbe := beyond_any w
    have HM : Hid (∀ u : World, Below w.heap.size w u → Calls Tryd.prog 7 #[.slice a row.length cap, .int .i64 f] u fun e w' => e = .returned (.tuple #[.int .i64 (midVal row f), errV (midErr row f)]) ∧ Below u.heap.size u w') := fun u hu => mid_any a cap row f u (hr.below hu) hn
    have hV : ∀ q, Below w.heap.size w ((w.alloc (.cells #[.int .i64 1099511627776] 3)).drewN q) := fun q => below_drewN' ((Below.refl _ w).alloc (Nat.le_refl _) _) q
    cases h2 : far c
    · rw [h2] at hp
      have e1 := stepErr_mid (f := f) h1 h2
      have e2 : stepVal m c row f = midVal row f := by
        unfold stepVal
        rw [e1]
        by_cases h : midErr row f = 0
        · rw [if_pos h]
        · rw [if_neg h, midVal_bad h]
      rw [e1, e2]
      generalize midVal row f = x at *
      generalize errV (midErr row f) = E at *
      generalize row.length = n at *
      clear e1 e2 h2 h1 hr hn
      go_enter Tryd.func24, Tryd.ntmps24
      go_wp2_with fail
      refine hbe.mono ?_
      rintro e w1 ⟨rfl, rfl⟩
      go_wp2_with fail
      refine hp.mono ?_
      rintro e w2 ⟨rfl, q, rfl⟩
      go_wp2_with fail
      refine (HM.out _ (hV q)).mono ?_
      rintro e w3 ⟨rfl, hb3⟩
      go_wp2
      go_ret2
      exact ⟨rfl, below_then (hV q) hb3⟩
    · rw [h2] at hp
      rw [stepVal_bad (by rw [stepErr_2 h1 h2]; decide), stepErr_2 h1 h2, errV_2]
      generalize row.length = n at *
      clear h2 h1 hr hn HM
      go_enter Tryd.func24, Tryd.ntmps24
      go_wp2_with fail
      refine hbe.mono ?_
      rintro e w1 ⟨rfl, rfl⟩
      go_wp2_with fail
      refine hp.mono ?_
      rintro e w2 ⟨rfl, q, rfl⟩
      go_wp2
      go_ret2
      exact ⟨rfl, hV q⟩

/-- A row of rows of numbers in memory. -/
def TabRow (w : World) (a : Option Addr) (rows : List (List Int)) : Prop :=
  0 < rows.length → ∃ b off, a = some ⟨b, off, none⟩ ∧ b < w.heap.size ∧ ∀ j, j < rows.length → ∃ ra cap, w.cell? ⟨b, off + j, none⟩ = some (.slice ra (rows.getD j []).length cap) ∧ IntRow w ra (rows.getD j [])

theorem TabRow.below {w w' : World} {a : Option Addr} {rows : List (List Int)} (h : TabRow w a rows) (hb : Below w.heap.size w w') : TabRow w' a rows := fun h0 => by
  obtain ⟨b, off, e, hl, hc⟩ := h h0
  refine ⟨b, off, e, Nat.lt_of_lt_of_le hl hb.size, fun j hj => ?_⟩
  obtain ⟨ra, cap, h1, h2⟩ := hc j hj
  exact ⟨ra, cap, (hb.cell (p := ⟨b, off + j, none⟩) hl).trans h1, h2.below hb⟩

/-- An error that is an At, or none. -/
def AtIs (w : World) (E : Value) (e i : Int) : Prop :=
  (E = .nilIface ∧ e = 0) ∨ (∃ b, E = .iface 56 (.pointer (some ⟨b, 0, none⟩)) ∧ e ≠ 0 ∧ w.cell? ⟨b, 0, none⟩ = some (.int .i64 e) ∧ w.cell? ⟨b, 1, none⟩ = some (.int .i64 i))

/-- What the first k clocks show behind a round. -/
def setTo (cs : List Int) (rows : List (List Int)) (f : Int) (k : Nat) : List Int := (List.range k).map fun j => cs.getD j 0 + midVal (rows.getD j []) f
theorem setTo_succ (cs : List Int) (rows : List (List Int)) (f : Int) (k : Nat) : setTo cs rows f (k + 1) = setTo cs rows f k ++ [cs.getD k 0 + midVal (rows.getD k []) f] := by
  simp [setTo, List.range_succ]
theorem setTo_len (cs : List Int) (rows : List (List Int)) (f : Int) (k : Nat) : (setTo cs rows f k).length = k := by simp [setTo]
end Go.Proofs.YtfofaaagenclmabDoor
