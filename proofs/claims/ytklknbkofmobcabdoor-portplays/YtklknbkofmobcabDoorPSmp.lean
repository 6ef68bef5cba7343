/- The program's sampling port: where it lies, and its words NewSampling, Write and Read (8.1). -/
import Derived.Test.YtklknbkofmobcabDoorProg
import Derived.Test.YtklknbkofmobcabDoorFoot
import Derived.Test.YtklknbkofmobcabDoorCellSet
import Derived.Test.YtklknbkofmobcabDoorPortWords
import Derived.Test.YtklknbkofmobcabDoorErrV
import Derived.RegionTactic
import Derived.WalkSpells
import Derived.WalkLawsBesides
namespace Go.Proofs.YtklknbkofmobcabDoor
open Go.RowKit

/-- The program's sampling port: its blocks O, its struct at P. -/
structure Smp (w : World) (O : List Nat) (P : Nat) (keep at_ : Int) (dat : ByteArray) : Prop where
  c0 : w.cell? ⟨P, 0, none⟩ = some (.int .i64 keep)
  c1 : w.cell? ⟨P, 1, none⟩ = some (.bool (decide (0 ≤ at_)))
  c2 : w.cell? ⟨P, 2, none⟩ = some (.string dat)
  c3 : w.cell? ⟨P, 3, none⟩ = some (.int .i64 (if at_ < 0 then 0 else at_))
  z : ∀ i, w.frozen? ⟨P, i, none⟩ = false
  lp : P < w.heap.size
  own : O = [P]
theorem Smp.lt {w : World} {O : List Nat} {P : Nat} {keep at_ : Int} {dat : ByteArray} (h : Smp w O P keep at_ dat) : ∀ c, c ∈ O → c < w.heap.size := by
  intro c hcc
  rw [h.own] at hcc
  have := h.lp
  simp only [List.mem_cons, List.not_mem_nil, or_false] at hcc
  omega
theorem Smp.keep {w w' : World} {O : List Nat} {P : Nat} {keep at_ : Int} {dat : ByteArray} (h : Smp w O P keep at_ dat) (k : Same O w w') : Smp w' O P keep at_ dat := by
  have hp : P ∈ O := by rw [h.own]; exact List.mem_cons.2 (.inl rfl)
  exact ⟨(k.cell (p := ⟨P, 0, none⟩) hp).trans h.c0, (k.cell (p := ⟨P, 1, none⟩) hp).trans h.c1, (k.cell (p := ⟨P, 2, none⟩) hp).trans h.c2, (k.cell (p := ⟨P, 3, none⟩) hp).trans h.c3, fun i => (k.frozen (p := ⟨P, i, none⟩) hp).trans (h.z i), Nat.lt_of_lt_of_le h.lp k.1, h.own⟩

set_option maxHeartbeats 1000000 in
theorem smpNew_bad (keep : Int) (w : World) (hb : ¬ (1 ≤ keep ∧ keep ≤ 1099511627776)) :
    Calls Tryd.prog 45 #[.int .i64 keep] w fun e w' => e = .returned (.tuple #[.pointer none, errV 2]) ∧ Below w.heap.size w w' := by
  by_cases k1 : keep < 1
  · clear hb
    go_enter Tryd.func45, Tryd.ntmps45
    go_wp2
    go_ret2
    exact ⟨rfl, Below.refl _ _⟩
  · have k1' : decide (keep < 1) = false := decide_eq_false k1
    have k2 : 1099511627776 < keep := by omega
    clear hb k1
    go_enter Tryd.func45, Tryd.ntmps45
    go_wp2
    go_ret2
    exact ⟨rfl, Below.refl _ _⟩
set_option maxHeartbeats 1000000 in
theorem smpNew_good (keep : Int) (w : World) (hb : 1 ≤ keep ∧ keep ≤ 1099511627776) :
    Calls Tryd.prog 45 #[.int .i64 keep] w fun e w' => ∃ O P, e = .returned (.tuple #[.pointer (some ⟨P, 0, none⟩), .nilIface]) ∧ Smp w' O P keep (-1) ByteArray.empty ∧ Below w.heap.size w w' ∧ ∀ c, c ∈ O → w.heap.size ≤ c := by
  have k1 : decide (keep < 1) = false := decide_eq_false (by omega)
  have k2 : decide (1099511627776 < keep) = false := decide_eq_false (by omega)
  clear hb
  have fin : Smp (w.alloc (.cells #[.int .i64 keep, .bool false, .string ⟨#[]⟩, .int .i64 0] 149)) [w.heap.size] w.heap.size keep (-1) ByteArray.empty :=
    ⟨by simp, by simp, by simp; rfl, by simp, fun i => by simp, by simp, rfl⟩
  have HF : Hid _ := fin
  clear fin
  go_enter Tryd.func45, Tryd.ntmps45
  go_wp2
  go_ret2
  exact ⟨_, _, rfl, HF.out, (Below.refl _ _).alloc (Nat.le_refl _) _, fun c hc => by
    simp only [List.mem_cons, List.not_mem_nil, or_false] at hc
    omega⟩

set_option maxHeartbeats 1000000 in
theorem smpWrite {w : World} {O : List Nat} {P : Nat} {keep at_ : Int} {dat : ByteArray} (h : Smp w O P keep at_ dat) (d : ByteArray) (t : Int) :
    Calls Tryd.prog 47 #[.pointer (some ⟨P, 0, none⟩), .string d, .int .i64 t] w fun e w' => e = .returned (errV (writeK at_ t d)) ∧ ∃ O', Smp w' O' P keep (wrAt (writeK at_ t d) t at_) (wrDat (writeK at_ t d) d dat) ∧ Foot O O' w w' := by
  have hS := h
  obtain ⟨c0, c1, c2, c3, z, lp, rfl⟩ := h
  unfold wrAt wrDat writeK
  by_cases h1 : 40 < d.size
  · simp only [if_pos h1]
    have k1 : (40 : Int) < (d.size : Int) := by omega
    have HS : Hid _ := hS
    clear h1 z hS
    go_enter Tryd.func47, Tryd.ntmps47
    go_wp2
    go_ret
    exact ⟨rfl, _, HS.out, Foot.refl _ _⟩
  · simp only [if_neg h1]
    have k1 : decide ((40 : Int) < (d.size : Int)) = false := decide_eq_false (by omega)
    clear h1
    by_cases h2 : 0 ≤ t ∧ t ≤ 1099511627776
    · simp only [h2]
      have k2 : decide (t < 0) = false := decide_eq_false (by omega)
      have k3 : decide (1099511627776 < t) = false := decide_eq_false (by omega)
      by_cases h3 : t < at_
      · simp only [if_pos h3]
        have HS : Hid _ := hS
        rw [decide_eq_true (by omega)] at c1
        rw [if_neg (by omega)] at c3
        clear h2 z hS
        go_enter Tryd.func47, Tryd.ntmps47
        go_wp2
        go_ret
        exact ⟨rfl, _, HS.out, Foot.refl _ _⟩
      · simp only [if_neg h3]
        have z1 := z 1
        have z2 := z 2
        have z3 := z 3
        obtain ⟨A, hA⟩ : ∃ A : Int, (if at_ < 0 then 0 else at_) = A := ⟨_, rfl⟩
        have hAt : t < A → False := by intro q; rw [← hA] at q; split at q <;> omega
        rw [hA] at c3
        have k4 : decide (t < A) = false := decide_eq_false hAt
        have HF : Hid (Smp (((w.setCell ⟨P, 1, none⟩ (.bool true)).setCell ⟨P, 2, none⟩ (.string d)).setCell ⟨P, 3, none⟩ (.int .i64 t)) [P] P keep t d) := by
          refine ⟨?_, ?_, ?_, ?_, fun i => soft_set.trans (soft_set.trans (soft_set.trans (z i))), by simpa using lp, rfl⟩
          · exact (cell_other (.inr (by decide))).trans ((cell_other (.inr (by decide))).trans ((cell_other (.inr (by decide))).trans c0))
          · rw [decide_eq_true h2.1]
            exact (cell_other (.inr (by decide))).trans ((cell_other (.inr (by decide))).trans (cell_set c1))
          · exact (cell_other (.inr (by decide))).trans (cell_set ((cell_other (.inr (by decide))).trans c2))
          · rw [if_neg (by omega)]
            exact cell_set ((cell_other (.inr (by decide))).trans ((cell_other (.inr (by decide))).trans c3))
        have HT : Hid (Foot [P] [P] w (((w.setCell ⟨P, 1, none⟩ (.bool true)).setCell ⟨P, 2, none⟩ (.string d)).setCell ⟨P, 3, none⟩ (.int .i64 t))) := Foot.of_turns ((((Turns.refl P P w).set (p := ⟨P, 1, none⟩) (.inl rfl) _).set (p := ⟨P, 2, none⟩) (.inl rfl) _).set (p := ⟨P, 3, none⟩) (.inl rfl) _) (List.mem_cons.2 (.inl rfl)) (List.mem_cons.2 (.inl rfl))
        clear h2 h3 z hS hAt hA
        go_enter Tryd.func47, Tryd.ntmps47
        go_wp2
        go_ret
        exact ⟨rfl, _, HF.out, HT.out⟩
    · simp only [h2, not_false_eq_true, if_true]
      have HS : Hid _ := hS
      by_cases k2 : t < 0
      · clear h2 z hS
        go_enter Tryd.func47, Tryd.ntmps47
        go_wp2
        go_ret
        exact ⟨rfl, _, HS.out, Foot.refl _ _⟩
      · have k2' := decide_eq_false k2
        have k3 : 1099511627776 < t := by omega
        clear h2 z hS k2
        go_enter Tryd.func47, Tryd.ntmps47
        go_wp2
        go_ret
        exact ⟨rfl, _, HS.out, Foot.refl _ _⟩

set_option maxHeartbeats 1000000 in
theorem smpRead {w : World} {O : List Nat} {P : Nat} {keep at_ : Int} {dat : ByteArray} (h : Smp w O P keep at_ dat) (t : Int) (hk : 0 ≤ keep ∧ keep ≤ 1099511627776) (ha : -1 ≤ at_ ∧ at_ ≤ 1099511627776) (ht : -9223372036854775808 ≤ t ∧ t ≤ 9223372036854775807) :
    Calls Tryd.prog 48 #[.pointer (some ⟨P, 0, none⟩), .int .i64 t] w fun e w' => e = .returned (.tuple #[.string (rdDat (readK at_ t) dat), .bool (rdNew (readK at_ t) t at_ keep), errV (readK at_ t)]) ∧ ∃ O', Smp w' O' P keep at_ dat ∧ Foot O O' w w' := by
  have _ := hk
  have HS : Hid (Smp w O P keep at_ dat) := h
  have hD : ∀ q, Smp (w.drewN q) O P keep at_ dat ∧ Foot O O w (w.drewN q) := fun q => ⟨HS.out.keep ⟨Nat.le_refl _, fun _ _ => rfl⟩, Foot.drawn _ _ q⟩
  have HD : Hid _ := hD
  obtain ⟨c0, c1, c2, c3, z, lp, own⟩ := h
  clear z own hD
  unfold rdDat rdNew readK
  by_cases h1 : at_ < 0
  · simp only [if_pos h1]
    rw [decide_eq_false (by omega)] at c1
    clear h1
    go_enter Tryd.func48, Tryd.ntmps48
    go_wp2
    exact bodyPost_ret (v := .tuple #[.string ⟨#[]⟩, .bool false, errV 8]) (by simp [results, Tryd.results48, go_sem]; rfl) rfl ⟨rfl, _, HD.out 0⟩
  · simp only [if_neg h1]
    rw [decide_eq_true (by omega)] at c1
    rw [if_neg h1] at c3
    by_cases h2 : t < at_
    · simp only [if_pos h2]
      clear h1
      go_enter Tryd.func48, Tryd.ntmps48
      go_wp2
      exact bodyPost_ret (v := .tuple #[.string ⟨#[]⟩, .bool false, errV 10]) (by simp [results, Tryd.results48, go_sem]; rfl) rfl ⟨rfl, _, HD.out 0⟩
    · simp only [if_neg h2]
      have h2' := decide_eq_false h2
      have e1 : decide (t < at_ + keep) = decide (t - at_ < keep) := by
        by_cases q : t < at_ + keep
        · rw [decide_eq_true q, decide_eq_true (by omega)]
        · rw [decide_eq_false q, decide_eq_false (by omega)]
      rw [e1]
      generalize hX : t - at_ = X at *
      have hX0 : IntKind.i64.wrap (t - at_) = X := by rw [IntKind.wrap_i64]; omega
      rw [hX] at hX0
      have hXr : 0 ≤ X ∧ X ≤ 9223372036854775807 := by omega
      clear h1 h2 e1
      go_enter Tryd.func48, Tryd.ntmps48
      cases hb : decide (X < keep)
      · go_wp2_with fail
        go_quiet (fail)
        go_wp2
        exact bodyPost_ret (v := .tuple #[.string dat, .bool false, errV 0]) (by simp [results, Tryd.results48, go_sem]; rfl) rfl ⟨rfl, _, HD.out _⟩
      · go_wp2_with fail
        go_quiet (fail)
        go_wp2
        exact bodyPost_ret (v := .tuple #[.string dat, .bool true, errV 0]) (by simp [results, Tryd.results48, go_sem]; rfl) rfl ⟨rfl, _, HD.out _⟩
end Go.Proofs.YtklknbkofmobcabDoor
