/- The program's cluster: its small words (bits, what is cut, what is beyond) (10.1, 10.2). -/
import Derived.Test.YtdmokcnoljlogaaGreatDoorProg
import Derived.Test.YtdmokcnoljlogaaGreatDoorWordsC
import Derived.Test.YtdmokcnoljlogaaGreatDoorWordsB
import Derived.Deep.QuietTactic
import Derived.WalkKit
import Derived.WalkSpells
import Derived.WalkLawsBesides
import Derived.RegionTactic
import Derived.BigQuiet
import Derived.Deep.LoopGhost
import Derived.Deep.Draws
namespace Go.Proofs.YtdmokcnoljlogaaGreatDoor
open Go.RowKit

theorem pow17 (n : Nat) (h : n ≤ 16) : 1 ≤ (2 : Int) ^ n ∧ (2 : Int) ^ n ≤ 65536 := by
  have : n = 0 ∨ n = 1 ∨ n = 2 ∨ n = 3 ∨ n = 4 ∨ n = 5 ∨ n = 6 ∨ n = 7 ∨ n = 8 ∨ n = 9 ∨ n = 10 ∨ n = 11 ∨ n = 12 ∨ n = 13 ∨ n = 14 ∨ n = 15 ∨ n = 16 := by omega
  rcases this with rfl | rfl | rfl | rfl | rfl | rfl | rfl | rfl | rfl | rfl | rfl | rfl | rfl | rfl | rfl | rfl | rfl <;> decide

set_option maxHeartbeats 1000000 in
theorem cbit_any (k : Nat) (hk : k ≤ 16) (w : World) : Calls Tryz.prog 30 #[.int .i64 k] w fun e w' => e = .returned (.int .i64 (2 ^ k)) ∧ w' = w := by
  have p := pow17 k hk
  go_enter Tryz.func30, Tryz.ntmps30
  go_wp2
  go_ret
  exact ⟨rfl, rfl⟩

set_option maxHeartbeats 1000000 in
theorem chas_any (x : Int) (j : Nat) (hj : j ≤ 16) (w : World) : Calls Tryz.prog 23 #[.int .i64 x, .int .i64 j] w fun e w' => e = .returned (.bool (bitI x j)) ∧ w' = w := by
  have p := pow17 j hj
  have hb := bit_and x (j := j) (by omega)
  have HB := cbit_any j hj w
  generalize (2 : Int) ^ j = T at *
  go_enter Tryz.func23, Tryz.ntmps23
  go_wp2_with fail
  refine HB.mono ?_
  rintro e w1 ⟨rfl, h⟩
  replace h := h.symm
  subst h
  clear HB
  go_wp2
  go_ret
  exact ⟨rfl, rfl⟩

theorem Tryz.makesFunc9 (fn : Fn) (first cap : Array Value) (w : World) : (Instr.makeFunc fn first cap).run Tryz.prog w = .ok (.func fn first cap) w := rfl

set_option maxHeartbeats 1000000 in
theorem ccut_any (most : Int) (w : World) : Calls Tryz.prog 42 #[.int .i64 most] w fun e w' => e = .returned (.func (.func 67) #[] #[.pointer (some ⟨w.heap.size, 0, none⟩)]) ∧ w' = w.alloc (.cells #[.int .i64 most] 3) := by
  have hmf := Tryz.makesFunc9
  go_enter Tryz.func42, Tryz.ntmps42
  go_wp2
  go_ret
  exact ⟨rfl, rfl⟩

theorem lt_of_cell9 {w : World} {X i : Nat} {v : Value} (h : w.cell? ⟨X, i, none⟩ = some v) : X < w.heap.size := by
  rcases Nat.lt_or_ge X w.heap.size with g | g
  · exact g
  · simp [World.cell?, Array.getElem?_eq_none g] at h

set_option maxHeartbeats 1000000 in
theorem ccut1_any (x most : Int) (B : Nat) (h0 : 0 ≤ most) (h1 : most ≤ 1099511627776) (w : World) (hc : w.cell? ⟨B, 0, none⟩ = some (.int .i64 most)) :
    Calls Tryz.prog 67 #[.int .i64 x, .pointer (some ⟨B, 0, none⟩)] w fun e w' => e = .returned (.int .i64 (cutV x most)) ∧ w' = w := by
  have hl : B < w.heap.size := lt_of_cell9 hc
  unfold cutV
  by_cases k1 : x < -most
  · rw [show max (-most) (min most x) = -most by omega]
    go_enter Tryz.func67, Tryz.ntmps67
    go_wp2
    all_goals go_ret
    all_goals first | exact ⟨rfl, rfl⟩ | exact ⟨(by show Ending.returned (.int .i64 (min (max x (-most)) most)) = Ending.returned (.int .i64 _); congr 2; omega), rfl⟩ | exact ⟨(by congr 2; omega), rfl⟩
  · have k1' := decide_eq_false k1
    by_cases k2 : most < x
    · rw [show max (-most) (min most x) = most by omega]
      go_enter Tryz.func67, Tryz.ntmps67
      go_wp2
      all_goals go_ret
      all_goals first | exact ⟨rfl, rfl⟩ | exact ⟨(by show Ending.returned (.int .i64 (min (max x (-most)) most)) = Ending.returned (.int .i64 _); congr 2; omega), rfl⟩ | exact ⟨(by congr 2; omega), rfl⟩
    · rw [show max (-most) (min most x) = x by omega]
      have k2' := decide_eq_false k2
      go_enter Tryz.func67, Tryz.ntmps67
      go_wp2
      all_goals go_ret
      all_goals first | exact ⟨rfl, rfl⟩ | exact ⟨(by show Ending.returned (.int .i64 (min (max x (-most)) most)) = Ending.returned (.int .i64 _); congr 2; omega), rfl⟩ | exact ⟨(by congr 2; omega), rfl⟩

/-- Whether a clock may not show so much. -/
def tooFarB (x : Int) : Bool := decide (x < -274877906944 ∨ 274877906944 < x)

set_option maxHeartbeats 1000000 in
theorem ctooFar_any (x : Int) (w : World) : Calls Tryz.prog 34 #[.int .i64 x] w fun e w' => e = .returned (.bool (tooFarB x)) ∧ Below w.heap.size w w' := by
  have HC := ccut_any 274877906944 w
  have H1 := ccut1_any x 274877906944 w.heap.size (by decide) (by decide) (w.alloc (.cells #[.int .i64 274877906944] 3)) (by simp)
  have hb : Below w.heap.size w (w.alloc (.cells #[.int .i64 274877906944] 3)) := (Below.refl _ _).alloc (Nat.le_refl _) _
  have HB : Hid _ := hb
  clear hb
  have he : (cutV x 274877906944 != x) = tooFarB x := by
    unfold cutV tooFarB
    by_cases h : x < -274877906944 ∨ 274877906944 < x
    · rw [decide_eq_true h]; simp; omega
    · rw [decide_eq_false h]; simp; omega
  generalize cutV x 274877906944 = y at *
  generalize tooFarB x = b at *
  go_enter Tryz.func34, Tryz.ntmps34
  go_wp2_with fail
  refine HC.mono ?_
  rintro e w1 ⟨rfl, rfl⟩
  go_wp2_with fail
  refine H1.mono ?_
  rintro e w1 ⟨rfl, rfl⟩
  go_wp2
  go_ret
  exact ⟨rfl, HB.out⟩

/-- The first one of a row that is beyond (-1: none). -/
def FirstFar (l : List Int) (i : Int) : Prop :=
  (i = -1 ∧ ∀ j, j < l.length → tooFarB (l.getD j 0) = false) ∨ ∃ k : Nat, k < l.length ∧ i = k ∧ tooFarB (l.getD k 0) = true
theorem FirstFar.is {l : List Int} {i : Int} (h : FirstFar l i) : decide (0 ≤ i) = l.any tooFarB := by
  rcases h with ⟨rfl, h⟩ | ⟨k, hk, rfl, h⟩
  · rw [decide_eq_false (by omega)]
    symm
    rw [Bool.eq_false_iff]
    intro h2
    obtain ⟨x, hx, h3⟩ := List.any_eq_true.1 h2
    obtain ⟨j, hj, rfl⟩ := List.getElem_of_mem hx
    have := h j hj
    simp [List.getD, hj] at this
    rw [this] at h3
    cases h3
  · rw [decide_eq_true (by omega)]
    symm
    refine List.any_eq_true.2 ⟨l[k], List.getElem_mem hk, ?_⟩
    simpa [List.getD, hk] using h

set_option maxRecDepth 100000 in
set_option maxHeartbeats 2000000 in
theorem cfind_any (a : Option Addr) (cap n : Nat) (l : List Int) (hl : l.length = n) (w : World) (hr : IntRow w a l) (hn : n ≤ 1000) :
    Calls Tryz.prog 57 #[.slice a n cap, .func (.func 34) #[] #[]] w fun e w' => ∃ i, e = .returned (.int .i64 i) ∧ FirstFar l i ∧ Below w.heap.size w w' := by
  have HR : Hid (IntRow w a l) := hr
  have HL : Hid (l.length = n) := hl
  clear hr hl
  go_enter Tryz.func57, Tryz.ntmps57
  go_wp2_with fail
  go_loopw [8] (fun t wr => ∃ k : Nat, k ≤ n ∧ t = .int .i64 k ∧ Hid (∀ j, j < k → tooFarB (l.getD j 0) = false) ∧ Hid (Below w.heap.size w wr)) (fun t _ => n - (intOf t).toNat)
  case atStart => exact ⟨0, Nat.zero_le _, rfl, fun j hj => absurd hj (Nat.not_lt_zero _), Below.refl _ _⟩
  case round =>
    obtain ⟨k, hk, rfl, h0, hbe⟩ := hrel
    by_cases hlt : k < n
    · obtain ⟨b, off, rfl, hb, hc⟩ := HR.out (by have := HL.out; omega)
      have y0 := (hbe.out.cell (p := ⟨b, off + k, none⟩) hb).trans (hc k (by have := HL.out; omega))
      clear hc
      have hz : b < wr.heap.size := Nat.lt_of_lt_of_le hb hbe.out.size
      have kk : (k : Int) < (n : Int) := by omega
      have hlk := ctooFar_any (l.getD k 0) wr
      have HLT : Hid (k < n) := hlt
      by_cases hit : tooFarB (l.getD k 0) = true
      · rw [hit] at hlk
        have HHit : Hid (FirstFar l k) := .inr ⟨k, (by have := HL.out; omega), rfl, hit⟩
        clear hit
        generalize l.getD k 0 = P at *
        go_wp2_with fail
        refine hlk.mono ?_
        rintro e w1 ⟨rfl, hw1⟩
        have HB1 : Hid (Below w.heap.size w w1) := hbe.out.trans (hw1.mono hbe.out.size)
        clear hlk hw1 y0
        go_wp2
        go_ret
        exact ⟨_, rfl, HHit.out, HB1.out⟩
      · have hit2 : tooFarB (l.getD k 0) = false := by simpa using hit
        rw [hit2] at hlk
        have HN : Hid (∀ j, j < k + 1 → tooFarB (l.getD j 0) = false) := fun j hj => by
          rcases Nat.lt_or_ge j k with q | q
          · exact h0.out j q
          · obtain rfl : j = k := by omega
            exact hit2
        clear hit hit2 h0
        generalize l.getD k 0 = P at *
        go_wp2_with fail
        refine hlk.mono ?_
        rintro e w1 ⟨rfl, hw1⟩
        have HB1 : Hid (Below w.heap.size w w1) := hbe.out.trans (hw1.mono hbe.out.size)
        clear hlk hw1 y0
        go_wp2
        go_roundw
        case rel => exact ⟨k + 1, by omega, by go_num, HN, HB1⟩
        case measure => simp [intOf]; omega
    · have hkn : k = n := by omega
      have HM : Hid (FirstFar l (-1)) := .inl ⟨rfl, fun j hj => h0.out j (by have := HL.out; omega)⟩
      have kk : decide (k < n) = false := decide_eq_false (by omega)
      clear hkn hlt
      go_wp2
      go_ret
      exact ⟨_, rfl, HM.out, hbe.out⟩

set_option maxHeartbeats 1000000 in
/-- Whether one of a row is beyond. -/
theorem cfar_any (a : Option Addr) (cap n : Nat) (l : List Int) (hl : l.length = n) (w : World) (hr : IntRow w a l) (hn : n ≤ 1000) :
    Calls Tryz.prog 33 #[.slice a n cap, .func (.func 34) #[] #[]] w fun e w' => e = .returned (.bool (l.any tooFarB)) ∧ Below w.heap.size w w' := by
  have HF := cfind_any a cap n l hl w hr hn
  clear hr hl
  obtain ⟨B, hB⟩ : ∃ B, l.any tooFarB = B := ⟨_, rfl⟩
  have HB : Hid (l.any tooFarB = B) := hB
  rw [hB]
  clear hB
  go_enter Tryz.func33, Tryz.ntmps33
  go_wp2_with fail
  refine HF.mono ?_
  rintro e w1 ⟨i, rfl, hi, hb⟩
  have he := hi.is
  rw [HB.out] at he
  clear hi HF
  go_wp2
  go_ret
  exact ⟨rfl, hb⟩
end Go.Proofs.YtdmokcnoljlogaaGreatDoor
