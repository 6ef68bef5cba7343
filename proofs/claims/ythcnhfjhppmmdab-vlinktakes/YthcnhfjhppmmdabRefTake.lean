/- The document's answer's receiver: where it lies, and its Take: which number is told (ahead of stage 7). -/
import Derived.Test.YthcnhfjhppmmdabProg
import Derived.Test.YthcnhfjhppmmdabInAny
import Derived.Test.YthcnhfjhppmmdabCellSet
import Derived.Test.YthcnhfjhppmmdabTakeWords
import Derived.WalkSpells
import Derived.WalkLawsBesides
namespace Go.Proofs.Ythcnhfjhppmmdab
open Go.RowKit

/-- The document's answer's receiver in memory. -/
structure RefRecv (w : World) (P : Nat) (nw : Int) (a b : Int) : Prop where
  c0 : w.cell? ⟨P, 0, none⟩ = some (.int .i64 nw)
  c1 : w.cell? ⟨P, 1, none⟩ = some (.int .i64 a)
  c2 : w.cell? ⟨P, 2, none⟩ = some (.int .i64 b)
  z : ∀ i, w.frozen? ⟨P, i, none⟩ = false
  lp : P < w.heap.size

theorem RefRecv.set {w : World} {P : Nat} {nw a b : Int} (h : RefRecv w P nw a b) : (∀ x, RefRecv (w.setCell ⟨P, 0, none⟩ (.int .i64 x)) P x a b) ∧ (∀ x, RefRecv (w.setCell ⟨P, 1, none⟩ (.int .i64 x)) P nw x b) ∧ (∀ x, RefRecv (w.setCell ⟨P, 2, none⟩ (.int .i64 x)) P nw a x) :=
  ⟨fun _ => ⟨cell_set h.c0, (cell_other (.inr (by decide))).trans h.c1, (cell_other (.inr (by decide))).trans h.c2, fun i => soft_set.trans (h.z i), by simpa using h.lp⟩,
   fun _ => ⟨(cell_other (.inr (by decide))).trans h.c0, cell_set h.c1, (cell_other (.inr (by decide))).trans h.c2, fun i => soft_set.trans (h.z i), by simpa using h.lp⟩,
   fun _ => ⟨(cell_other (.inr (by decide))).trans h.c0, (cell_other (.inr (by decide))).trans h.c1, cell_set h.c2, fun i => soft_set.trans (h.z i), by simpa using h.lp⟩⟩

set_option maxHeartbeats 1000000 in
theorem refTake_not {w : World} {P : Nat} {nw a b : Int} (h : RefRecv w P nw a b) (seq : Int) (hs : ¬ (0 ≤ seq ∧ seq ≤ 255)) (hb0 : 0 ≤ b) (hb : b ≤ 4611686018427387904) :
    Calls Try.prog 26 #[.pointer (some ⟨P, 0, none⟩), .int .i64 seq] w fun e w' => e = .returned (.bool false) ∧ RefRecv w' P nw a (b + 1) ∧ Turns P P w w' := by
  have HH : Hid (RefRecv w P nw a b) := h
  obtain ⟨c0, c1, c2, z, lp⟩ := h
  have z2 := z 2
  clear z
  have hI := in_is seq 0 255 w
  rw [decide_eq_false hs] at hI
  clear hs
  go_enter Try.func26, Try.ntmps26
  go_wp2_with fail
  refine hI.mono ?_
  rintro e w1 ⟨rfl, hw1⟩
  replace hw1 := hw1.symm
  subst hw1
  go_wp2
  go_ret
  exact ⟨rfl, HH.out.set.2.2 (b + 1), (Turns.refl _ _ _).set (p := ⟨P, 2, none⟩) (.inl rfl) _⟩

set_option maxHeartbeats 1000000 in
theorem refTake_first {w : World} {P : Nat} {nw a b : Int} (h : RefRecv w P nw a b) (seq : Int) (hs : 0 ≤ seq ∧ seq ≤ 255) (hn : nw < 0) (ha0 : 0 ≤ a) (ha : a ≤ 4611686018427387904) :
    Calls Try.prog 26 #[.pointer (some ⟨P, 0, none⟩), .int .i64 seq] w fun e w' => e = .returned (.bool true) ∧ RefRecv w' P seq (a + 1) b ∧ Turns P P w w' := by
  have HH : Hid (RefRecv w P nw a b) := h
  obtain ⟨c0, c1, c2, z, lp⟩ := h
  have z0 := z 0
  have z1 := z 1
  clear z
  have hI := in_is seq 0 255 w
  rw [decide_eq_true hs] at hI
  have hn2 : decide (0 ≤ nw) = false := decide_eq_false (by omega)
  clear hs hn
  go_enter Try.func26, Try.ntmps26
  go_wp2_with fail
  refine hI.mono ?_
  rintro e w1 ⟨rfl, hw1⟩
  replace hw1 := hw1.symm
  subst hw1
  go_wp2
  go_ret
  exact ⟨rfl, (HH.out.set.1 seq).set.2.1 (a + 1), ((Turns.refl _ _ _).set (p := ⟨P, 0, none⟩) (.inl rfl) _).set (p := ⟨P, 1, none⟩) (.inl rfl) _⟩

set_option maxHeartbeats 1000000 in
theorem refTake_next {w : World} {P : Nat} {nw a b : Int} (h : RefRecv w P nw a b) (seq : Int) (hs : 0 ≤ seq ∧ seq ≤ 255) (hn : 0 ≤ nw) (hn2 : nw ≤ 255) (ha0 : 0 ≤ a) (ha : a ≤ 4611686018427387904) (hb0 : 0 ≤ b) (hb : b ≤ 4611686018427387904) :
    Calls Try.prog 26 #[.pointer (some ⟨P, 0, none⟩), .int .i64 seq] w fun e w' => e = .returned (.bool (metB nw seq 127)) ∧ RefRecv w' P (if metB nw seq 127 = true then seq else nw) (if metB nw seq 127 = true then a + 1 else a) (if metB nw seq 127 = true then b else b + 1) ∧ Turns P P w w' := by
  have HH : Hid (RefRecv w P nw a b) := h
  obtain ⟨MB, hMB⟩ : ∃ MB, metB nw seq 127 = MB := ⟨_, rfl⟩
  rw [hMB]
  have HMB : Hid (metB nw seq 127 = MB) := hMB
  clear hMB
  obtain ⟨c0, c1, c2, z, lp⟩ := h
  have z0 := z 0
  have z1 := z 1
  have z2 := z 2
  clear z
  have hI := in_is seq 0 255 w
  rw [decide_eq_true hs] at hI
  go_enter Try.func26, Try.ntmps26
  go_wp2_with fail
  refine hI.mono ?_
  rintro e w1 ⟨rfl, hw1⟩
  replace hw1 := hw1.symm
  subst hw1
  go_wp2_with fail
  clear hI
  go_loopw [21, 6, 5] (fun t av ov wr => ∃ k : Nat, k ≤ 127 ∧ t = .int .i64 k ∧ av = .int .i64 (stepsN nw k) ∧ ov = .bool (metB nw seq k) ∧ wr = w) (fun t _ _ _ => 127 - (intOf t).toNat)
  case atStart => exact ⟨0, Nat.zero_le _, rfl, rfl, rfl, rfl⟩
  case round =>
    obtain ⟨k, hk, rfl, rfl, rfl, hwr⟩ := hrel
    subst hwr
    by_cases hlt : k < 127
    · have kk : (k : Int) < 127 := by omega
      have hx := stepsN_in hn hn2 k
      have HS : Hid (stepsN nw (k + 1) = stepN (stepsN nw k)) := rfl
      have HMt : Hid (metB nw seq (k + 1) = (metB nw seq k || decide (stepsN nw (k + 1) = seq))) := rfl
      unfold stepN at HS
      generalize stepsN nw k = x at hx HS ⊢
      by_cases h256 : x + 1 = 256
      · rw [if_pos h256] at HS
        have h2 : (x + 1 == 256) = true := by simpa using h256
        obtain rfl : x = 255 := by omega
        clear h256
        cases hm : metB nw seq k
        · rw [hm] at HMt
          by_cases e : 1 = seq
          · have e2 : (1 == seq) = true := by simpa using e
            have HE : Hid (metB nw seq (k + 1) = true) := by rw [HMt.out, HS.out, decide_eq_true e]; rfl
            clear e hm
            go_wp2
            exact ⟨⟨k + 1, by omega, by go_num, by rw [HS.out], by rw [HE.out], trivial⟩, by simp [intOf]; omega⟩
          · have e2 : (1 == seq) = false := by simpa using e
            have HE : Hid (metB nw seq (k + 1) = false) := by rw [HMt.out, HS.out, decide_eq_false e]; rfl
            clear e hm
            go_wp2
            exact ⟨⟨k + 1, by omega, by go_num, by rw [HS.out], by rw [HE.out], trivial⟩, by simp [intOf]; omega⟩
        · rw [hm] at HMt
          have HE : Hid (metB nw seq (k + 1) = true) := by rw [HMt.out]; rfl
          clear hm
          go_wp2
          exact ⟨⟨k + 1, by omega, by go_num, by rw [HS.out], by rw [HE.out], trivial⟩, by simp [intOf]; omega⟩
      · rw [if_neg h256] at HS
        have h2 : (x + 1 == 256) = false := by simpa using h256
        clear h256
        cases hm : metB nw seq k
        · rw [hm] at HMt
          by_cases e : x + 1 = seq
          · have e2 : (x + 1 == seq) = true := by simpa using e
            have HE : Hid (metB nw seq (k + 1) = true) := by rw [HMt.out, HS.out, decide_eq_true e]; rfl
            clear e hm
            go_wp2
            exact ⟨⟨k + 1, by omega, by go_num, by rw [HS.out], by rw [HE.out], trivial⟩, by simp [intOf]; omega⟩
          · have e2 : (x + 1 == seq) = false := by simpa using e
            have HE : Hid (metB nw seq (k + 1) = false) := by rw [HMt.out, HS.out, decide_eq_false e]; rfl
            clear e hm
            go_wp2
            exact ⟨⟨k + 1, by omega, by go_num, by rw [HS.out], by rw [HE.out], trivial⟩, by simp [intOf]; omega⟩
        · rw [hm] at HMt
          have HE : Hid (metB nw seq (k + 1) = true) := by rw [HMt.out]; rfl
          clear hm
          go_wp2
          exact ⟨⟨k + 1, by omega, by go_num, by rw [HS.out], by rw [HE.out], trivial⟩, by simp [intOf]; omega⟩
    · obtain rfl : k = 127 := by omega
      generalize stepsN nw 127 = y
      rw [HMB.out]
      clear HMB
      cases MB
      · go_wp2
        go_ret
        exact ⟨rfl, HH.out.set.2.2 (b + 1), (Turns.refl _ _ _).set (p := ⟨P, 2, none⟩) (.inl rfl) _⟩
      · go_wp2
        go_ret
        exact ⟨rfl, (HH.out.set.1 seq).set.2.1 (a + 1), ((Turns.refl _ _ _).set (p := ⟨P, 0, none⟩) (.inl rfl) _).set (p := ⟨P, 1, none⟩) (.inl rfl) _⟩

/-- The document's answer's Take, whatever comes. -/
theorem refTake_any {w : World} {P : Nat} {nw a b : Int} (h : RefRecv w P nw a b) (seq : Int) (hn2 : nw ≤ 255) (ha0 : 0 ≤ a) (ha : a ≤ 4611686018427387904) (hb0 : 0 ≤ b) (hb : b ≤ 4611686018427387904) :
    Calls Try.prog 26 #[.pointer (some ⟨P, 0, none⟩), .int .i64 seq] w fun e w' => e = .returned (.bool (takeB nw seq)) ∧ RefRecv w' P (if takeB nw seq = true then seq else nw) (if takeB nw seq = true then a + 1 else a) (if takeB nw seq = true then b else b + 1) ∧ Turns P P w w' := by
  unfold takeB
  by_cases hs : 0 ≤ seq ∧ seq ≤ 255
  · rw [decide_eq_true hs, Bool.true_and]
    by_cases hn : nw < 0
    · rw [decide_eq_true hn]
      exact refTake_first h seq hs hn ha0 ha
    · rw [decide_eq_false hn, Bool.false_or]
      exact refTake_next h seq hs (by omega) hn2 ha0 ha hb0 hb
  · rw [decide_eq_false hs]
    exact refTake_not h seq hs hb0 hb
end Go.Proofs.Ythcnhfjhppmmdab
