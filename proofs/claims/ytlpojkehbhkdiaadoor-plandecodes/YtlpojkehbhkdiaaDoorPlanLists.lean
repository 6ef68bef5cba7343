/- The program's generic function rows, at its three types: how many, and row by row. (Made by tools/gen_planlists.py.) -/
import Derived.Test.YtlpojkehbhkdiaaDoorPlanRows
import Derived.Laws.MakeOwn
namespace Go.Proofs.YtlpojkehbhkdiaaDoor
open Go.RowKit

/-- A reader that is spoilt. -/
theorem RS.spoil {w : World} {R : Nat} {st : St} (h : RS w R st) : Calls Tryd.prog 44 #[.pointer (some ⟨R, 0, none⟩)] w fun ev w' => ev = .returned (.tuple #[]) ∧ RS w' R none ∧ w.grownBy w' (some R) := by
  obtain ⟨⟨f0, f1⟩, h⟩ := h
  cases st with
  | none => exact spoil_any R _ _ w f0 f1 h.1 h.2
  | some r =>
    obtain ⟨⟨a, cap, c0, _⟩, c1, _⟩ := h
    exact spoil_any R _ _ w f0 f1 c0 c1
theorem Tryd.mfr (fn : Fn) (first cap : Array Value) (w : World) : (Instr.makeFunc fn first cap).run Tryd.prog w = .ok (.func fn first cap) w := rfl
theorem done3 {w2 : World} {Y k : Nat} {f : Nat → Int} (old : ∀ q, q < 3 * k → w2.cell? ⟨Y, q, none⟩ = some (.int .i64 (f q))) {y0 : Value} (n0 : w2.cell? ⟨Y, k * 3, none⟩ = some y0) {y1 : Value} (n1 : w2.cell? ⟨Y, k * 3 + 1, none⟩ = some y1) {y2 : Value} (n2 : w2.cell? ⟨Y, k * 3 + 2, none⟩ = some y2) :
    ∀ q, q < 3 * (k + 1) → (((w2.setCell ⟨Y, k * 3, none⟩ (.int .i64 (f (3 * k)))).setCell ⟨Y, k * 3 + 1, none⟩ (.int .i64 (f (3 * k + 1)))).setCell ⟨Y, k * 3 + 2, none⟩ (.int .i64 (f (3 * k + 2)))).cell? ⟨Y, q, none⟩ = some (.int .i64 (f q)) := by
  intro q hq
  rcases (show q < 3 * k ∨ q = k * 3 ∨ q = k * 3 + 1 ∨ q = k * 3 + 2 by omega) with h | h | h | h
  · exact set_other (by omega) (set_other (by omega) (set_other (by omega) (old q h)))
  · subst h
    rw [show f (k * 3) = f (3 * k) by rw [Nat.mul_comm]]
    exact set_other (by omega) (set_other (by omega) (set_same (n0)))
  · subst h
    rw [show f (k * 3 + 1) = f (3 * k + 1) by rw [Nat.mul_comm]]
    exact set_other (by omega) (set_same (set_other (by omega) (n1)))
  · subst h
    rw [show f (k * 3 + 2) = f (3 * k + 2) by rw [Nat.mul_comm]]
    exact set_same (set_other (by omega) (set_other (by omega) (n2)))
theorem there3 {w2 : World} {Y k m : Nat} {v0 v1 v2 : Value} (h : ∀ q, q < m → (∃ v, w2.cell? ⟨Y, q, none⟩ = some v) ∧ w2.frozen? ⟨Y, q, none⟩ = false) :
    ∀ q, q < m → (∃ v, (((w2.setCell ⟨Y, k * 3, none⟩ v0).setCell ⟨Y, k * 3 + 1, none⟩ v1).setCell ⟨Y, k * 3 + 2, none⟩ v2).cell? ⟨Y, q, none⟩ = some v) ∧ (((w2.setCell ⟨Y, k * 3, none⟩ v0).setCell ⟨Y, k * 3 + 1, none⟩ v1).setCell ⟨Y, k * 3 + 2, none⟩ v2).frozen? ⟨Y, q, none⟩ = false := by
  intro q hq
  obtain ⟨⟨x0, e0⟩, hf⟩ := h q hq
  obtain ⟨x1, e1⟩ := cell?_setCell_some (p := ⟨Y, k * 3, none⟩) (x := v0) e0
  obtain ⟨x2, e2⟩ := cell?_setCell_some (p := ⟨Y, k * 3 + 1, none⟩) (x := v1) e1
  obtain ⟨x3, e3⟩ := cell?_setCell_some (p := ⟨Y, k * 3 + 2, none⟩) (x := v2) e2
  exact ⟨⟨_, e3⟩, by simp [hf]⟩
theorem done4 {w2 : World} {Y k : Nat} {f : Nat → Int} (old : ∀ q, q < 4 * k → w2.cell? ⟨Y, q, none⟩ = some (.int .i64 (f q))) {y0 : Value} (n0 : w2.cell? ⟨Y, k * 4, none⟩ = some y0) {y1 : Value} (n1 : w2.cell? ⟨Y, k * 4 + 1, none⟩ = some y1) {y2 : Value} (n2 : w2.cell? ⟨Y, k * 4 + 2, none⟩ = some y2) {y3 : Value} (n3 : w2.cell? ⟨Y, k * 4 + 3, none⟩ = some y3) :
    ∀ q, q < 4 * (k + 1) → ((((w2.setCell ⟨Y, k * 4, none⟩ (.int .i64 (f (4 * k)))).setCell ⟨Y, k * 4 + 1, none⟩ (.int .i64 (f (4 * k + 1)))).setCell ⟨Y, k * 4 + 2, none⟩ (.int .i64 (f (4 * k + 2)))).setCell ⟨Y, k * 4 + 3, none⟩ (.int .i64 (f (4 * k + 3)))).cell? ⟨Y, q, none⟩ = some (.int .i64 (f q)) := by
  intro q hq
  rcases (show q < 4 * k ∨ q = k * 4 ∨ q = k * 4 + 1 ∨ q = k * 4 + 2 ∨ q = k * 4 + 3 by omega) with h | h | h | h | h
  · exact set_other (by omega) (set_other (by omega) (set_other (by omega) (set_other (by omega) (old q h))))
  · subst h
    rw [show f (k * 4) = f (4 * k) by rw [Nat.mul_comm]]
    exact set_other (by omega) (set_other (by omega) (set_other (by omega) (set_same (n0))))
  · subst h
    rw [show f (k * 4 + 1) = f (4 * k + 1) by rw [Nat.mul_comm]]
    exact set_other (by omega) (set_other (by omega) (set_same (set_other (by omega) (n1))))
  · subst h
    rw [show f (k * 4 + 2) = f (4 * k + 2) by rw [Nat.mul_comm]]
    exact set_other (by omega) (set_same (set_other (by omega) (set_other (by omega) (n2))))
  · subst h
    rw [show f (k * 4 + 3) = f (4 * k + 3) by rw [Nat.mul_comm]]
    exact set_same (set_other (by omega) (set_other (by omega) (set_other (by omega) (n3))))
theorem there4 {w2 : World} {Y k m : Nat} {v0 v1 v2 v3 : Value} (h : ∀ q, q < m → (∃ v, w2.cell? ⟨Y, q, none⟩ = some v) ∧ w2.frozen? ⟨Y, q, none⟩ = false) :
    ∀ q, q < m → (∃ v, ((((w2.setCell ⟨Y, k * 4, none⟩ v0).setCell ⟨Y, k * 4 + 1, none⟩ v1).setCell ⟨Y, k * 4 + 2, none⟩ v2).setCell ⟨Y, k * 4 + 3, none⟩ v3).cell? ⟨Y, q, none⟩ = some v) ∧ ((((w2.setCell ⟨Y, k * 4, none⟩ v0).setCell ⟨Y, k * 4 + 1, none⟩ v1).setCell ⟨Y, k * 4 + 2, none⟩ v2).setCell ⟨Y, k * 4 + 3, none⟩ v3).frozen? ⟨Y, q, none⟩ = false := by
  intro q hq
  obtain ⟨⟨x0, e0⟩, hf⟩ := h q hq
  obtain ⟨x1, e1⟩ := cell?_setCell_some (p := ⟨Y, k * 4, none⟩) (x := v0) e0
  obtain ⟨x2, e2⟩ := cell?_setCell_some (p := ⟨Y, k * 4 + 1, none⟩) (x := v1) e1
  obtain ⟨x3, e3⟩ := cell?_setCell_some (p := ⟨Y, k * 4 + 2, none⟩) (x := v2) e2
  obtain ⟨x4, e4⟩ := cell?_setCell_some (p := ⟨Y, k * 4 + 3, none⟩) (x := v3) e3
  exact ⟨⟨_, e4⟩, by simp [hf]⟩

theorem Tryd.infoslots : (Tryd.prog.info? 56).map (fun i => (i.zero, i.size, i.bytes)) = some (some (.agg #[.int .i64 0, .int .i64 0, .int .i64 0]), 3, 24) := by kernel_rfl
set_option maxRecDepth 100000 in
set_option maxHeartbeats 4000000 in
theorem slots_many (B R : Nat) (most : Int) (st : St) (w : World) (hR : RS w R st) (hm : most < (nx st).1) :
    Calls Tryd.prog 36 #[.pointer (some ⟨R, 0, none⟩), .int .i64 most, .func (.func 37) #[] #[.pointer (some ⟨B, 0, none⟩)]] w fun ev w' => ev = .returned (.slice none 0 0) ∧ RS w' R none ∧ w.grownBy w' (some R) := by
  obtain ⟨n, hn⟩ : ∃ n, (nx st).1 = n := ⟨_, rfl⟩
  rw [hn] at hm
  go_enter Tryd.func36, Tryd.ntmps36
  go_wp2_with fail
  refine (number_st R st w hR).mono ?_
  rw [hn]
  rintro ev w1 ⟨rfl, h1, hg1⟩
  go_wp2_with fail
  refine (RS.spoil h1).mono ?_
  rintro ev w2 ⟨rfl, h2, hg2⟩
  go_wp2
  go_ret
  exact ⟨rfl, h2, but_trans hg1 hg2⟩

set_option maxRecDepth 100000 in
set_option maxHeartbeats 4000000 in
theorem slots_some (B R : Nat) (most : Int) (st : St) (w : World) (hR : RS w R st) (hB : w.cell? ⟨B, 0, none⟩ = some (.pointer (some ⟨R, 0, none⟩))) (hne : B ≠ R) (N : Nat) (hN : (nx st).1 = (N : Int)) (hm : (N : Int) ≤ most) (h32 : N ≤ 32) :
    Calls Tryd.prog 36 #[.pointer (some ⟨R, 0, none⟩), .int .i64 most, .func (.func 37) #[] #[.pointer (some ⟨B, 0, none⟩)]] w fun ev w' => ∃ a cap, ev = .returned (.slice a N cap) ∧ (∀ b off, a = some ⟨b, off, none⟩ → w.heap.size ≤ b) ∧ Rows3 w' a N (fun j => nth (nx st).2 (3 * j)) (fun j => nth (nx st).2 (3 * j + 1)) (fun j => nth (nx st).2 (3 * j + 2)) ∧ RS w' R (stAt (nx st).2 (3 * N)) ∧ w.grownBy w' (some R) := by
  go_enter Tryd.func36, Tryd.ntmps36
  go_wp2_with fail
  refine (number_st R st w hR).mono ?_
  rw [hN]
  rintro ev w1 ⟨rfl, h1, hg1⟩
  have hn : decide (most < (N : Int)) = false := decide_eq_false (by omega)
  obtain ⟨i0, hi, hz0, hz1, hz2⟩ := info_parts (Tryd.infoslots)
  have hmk := run_makeSlice (P := Tryd.prog) w1 22 56 i0 _ Tryd.underlying22 hi hz0 .i64 .i64 (N : Int) (N : Int) (by omega) (Int.le_refl _) (by rw [hz1]; simp; omega) (by rw [hz2]; omega) (by omega)
  rw [hz1] at hmk
  simp only [Int.toNat_natCast] at hmk
  obtain ⟨CC, hCC⟩ : ∃ CC, madeCells (Value.agg #[.int .i64 0, .int .i64 0, .int .i64 0]).cells (N * 3) = CC := ⟨_, rfl⟩
  have hsz : CC.size = N * 3 := by rw [← hCC]; exact size_madeCells _ _
  rw [hCC] at hmk
  clear hi hz0 hz1 hz2 hCC
  obtain ⟨V, hVe⟩ : ∃ V, V = w1.alloc (.cells CC 56) := ⟨_, rfl⟩
  have HY : Hid (∀ q, q < 3 * N → (∃ v, V.cell? ⟨w1.heap.size, q, none⟩ = some v) ∧ V.frozen? ⟨w1.heap.size, q, none⟩ = false) := fun q hq => by
    rw [hVe]
    refine ⟨⟨CC[q]'(by rw [hsz]; omega), ?_⟩, by simp⟩
    simp
  have h1V : RS V R (nx st).2 := by rw [hVe]; exact h1.alloc _
  have hgV : w.grownBy V (some R) := by rw [hVe]; exact but_trans hg1 (World.grownBy_alloc w1 _ (some R))
  have hRl := h1.lt
  have hws := hg1.size
  rw [← hVe] at hmk
  clear hVe hsz
  go_wp2_with fail
  go_loopw [21] (fun t wr => ∃ k : Nat, k ≤ N ∧ t = .int .i64 k ∧ RS wr R (stAt (nx st).2 (3 * k)) ∧ w.grownBy wr (some R) ∧ Hid (∀ q, q < 3 * k → wr.cell? ⟨w1.heap.size, q, none⟩ = some (.int .i64 (nth (nx st).2 q))) ∧ Hid (∀ q, q < 3 * N → (∃ v, wr.cell? ⟨w1.heap.size, q, none⟩ = some v) ∧ wr.frozen? ⟨w1.heap.size, q, none⟩ = false)) (fun t _ => N - (intOf t).toNat)
  case atStart => exact ⟨0, Nat.zero_le _, rfl, h1V, hgV, fun q hq => absurd hq (by omega), HY⟩
  case round =>
    obtain ⟨k, hk, rfl, hRS, hg, hdone, hthere⟩ := hrel
    clear h1V hgV HY
    by_cases hlt : k < N
    · have hBr := but_new hg hB hne
      go_wp2_with fail
      refine (row_slot B R _ wr hRS hBr hne).mono ?_
      simp only [nth_add, stAt_add, Nat.add_zero]
      rintro ev w2 ⟨rfl, h2, hg2⟩
      have hY : w1.heap.size ≠ R := by omega
      obtain ⟨⟨x0, e0⟩, f0⟩ := hthere.out (k * 3) (by omega)
      have m0 := but_frozen hg2 e0 f0 hY
      have n0 := but_new hg2 e0 hY
      obtain ⟨⟨x1, e1⟩, f1⟩ := hthere.out (k * 3 + 1) (by omega)
      have m1 := but_frozen hg2 e1 f1 hY
      have n1 := but_new hg2 e1 hY
      obtain ⟨⟨x2, e2⟩, f2⟩ := hthere.out (k * 3 + 2) (by omega)
      have m2 := but_frozen hg2 e2 f2 hY
      have n2 := but_new hg2 e2 hY
      have hg3 := but_trans hg hg2
      have hdone2 : Hid (∀ q, q < 3 * k → w2.cell? ⟨w1.heap.size, q, none⟩ = some (.int .i64 (nth (nx st).2 q))) := fun q hq => but_new hg2 (hdone.out q hq) hY
      have hthere2 : Hid (∀ q, q < 3 * N → (∃ v, w2.cell? ⟨w1.heap.size, q, none⟩ = some v) ∧ w2.frozen? ⟨w1.heap.size, q, none⟩ = false) := fun q hq => by
        obtain ⟨⟨x, e⟩, f⟩ := hthere.out q hq
        exact ⟨⟨x, but_new hg2 e hY⟩, but_frozen hg2 e f hY⟩
      have h2e : 3 * k + 3 = 3 * (k + 1) := by omega
      rw [h2e] at h2
      clear hdone hthere hRS  e0 f0  e1 f1  e2 f2
      go_wp2
      go_roundw
      case rel => exact ⟨k + 1, by omega, by go_num, RS.setX (RS.setX (RS.setX (h2) (by omega) _) (by omega) _) (by omega) _, but_setX (but_setX (but_setX (hg3) (by omega) _) (by omega) _) (by omega) _, done3 hdone2.out n0 n1 n2, there3 hthere2.out⟩
      case measure => simp [intOf]; omega
    · have hkN : k = N := by omega
      subst hkN
      go_wp2
      go_ret
      refine ⟨_, _, rfl, fun b off e => by cases e; exact hws, fun h0 => ⟨w1.heap.size, 0, rfl, ?_, fun j hj => ?_⟩, hRS, hg⟩
      · exact lt_of_cell (hdone.out 0 (by omega))
      · refine ⟨?_, ?_, ?_⟩
        · rw [show 0 + j * 3 = 3 * j by omega]; exact hdone.out _ (by omega)
        · rw [show 0 + j * 3 + 1 = 3 * j + 1 by omega]; exact hdone.out _ (by omega)
        · rw [show 0 + j * 3 + 2 = 3 * j + 2 by omega]; exact hdone.out _ (by omega)

theorem Tryd.infolinks : (Tryd.prog.info? 58).map (fun i => (i.zero, i.size, i.bytes)) = some (some (.agg #[.int .i64 0, .int .i64 0, .int .i64 0, .int .i64 0]), 4, 32) := by kernel_rfl
set_option maxRecDepth 100000 in
set_option maxHeartbeats 4000000 in
theorem links_many (B R : Nat) (most : Int) (st : St) (w : World) (hR : RS w R st) (hm : most < (nx st).1) :
    Calls Tryd.prog 38 #[.pointer (some ⟨R, 0, none⟩), .int .i64 most, .func (.func 39) #[] #[.pointer (some ⟨B, 0, none⟩)]] w fun ev w' => ev = .returned (.slice none 0 0) ∧ RS w' R none ∧ w.grownBy w' (some R) := by
  obtain ⟨n, hn⟩ : ∃ n, (nx st).1 = n := ⟨_, rfl⟩
  rw [hn] at hm
  go_enter Tryd.func38, Tryd.ntmps38
  go_wp2_with fail
  refine (number_st R st w hR).mono ?_
  rw [hn]
  rintro ev w1 ⟨rfl, h1, hg1⟩
  go_wp2_with fail
  refine (RS.spoil h1).mono ?_
  rintro ev w2 ⟨rfl, h2, hg2⟩
  go_wp2
  go_ret
  exact ⟨rfl, h2, but_trans hg1 hg2⟩

set_option maxRecDepth 100000 in
set_option maxHeartbeats 4000000 in
theorem links_some (B R : Nat) (most : Int) (st : St) (w : World) (hR : RS w R st) (hB : w.cell? ⟨B, 0, none⟩ = some (.pointer (some ⟨R, 0, none⟩))) (hne : B ≠ R) (N : Nat) (hN : (nx st).1 = (N : Int)) (hm : (N : Int) ≤ most) (h32 : N ≤ 32) :
    Calls Tryd.prog 38 #[.pointer (some ⟨R, 0, none⟩), .int .i64 most, .func (.func 39) #[] #[.pointer (some ⟨B, 0, none⟩)]] w fun ev w' => ∃ a cap, ev = .returned (.slice a N cap) ∧ (∀ b off, a = some ⟨b, off, none⟩ → w.heap.size ≤ b) ∧ Rows4 w' a N (fun j => nth (nx st).2 (4 * j)) (fun j => nth (nx st).2 (4 * j + 1)) (fun j => nth (nx st).2 (4 * j + 2)) (fun j => nth (nx st).2 (4 * j + 3)) ∧ RS w' R (stAt (nx st).2 (4 * N)) ∧ w.grownBy w' (some R) := by
  go_enter Tryd.func38, Tryd.ntmps38
  go_wp2_with fail
  refine (number_st R st w hR).mono ?_
  rw [hN]
  rintro ev w1 ⟨rfl, h1, hg1⟩
  have hn : decide (most < (N : Int)) = false := decide_eq_false (by omega)
  obtain ⟨i0, hi, hz0, hz1, hz2⟩ := info_parts (Tryd.infolinks)
  have hmk := run_makeSlice (P := Tryd.prog) w1 23 58 i0 _ Tryd.underlying23 hi hz0 .i64 .i64 (N : Int) (N : Int) (by omega) (Int.le_refl _) (by rw [hz1]; simp; omega) (by rw [hz2]; omega) (by omega)
  rw [hz1] at hmk
  simp only [Int.toNat_natCast] at hmk
  obtain ⟨CC, hCC⟩ : ∃ CC, madeCells (Value.agg #[.int .i64 0, .int .i64 0, .int .i64 0, .int .i64 0]).cells (N * 4) = CC := ⟨_, rfl⟩
  have hsz : CC.size = N * 4 := by rw [← hCC]; exact size_madeCells _ _
  rw [hCC] at hmk
  clear hi hz0 hz1 hz2 hCC
  obtain ⟨V, hVe⟩ : ∃ V, V = w1.alloc (.cells CC 58) := ⟨_, rfl⟩
  have HY : Hid (∀ q, q < 4 * N → (∃ v, V.cell? ⟨w1.heap.size, q, none⟩ = some v) ∧ V.frozen? ⟨w1.heap.size, q, none⟩ = false) := fun q hq => by
    rw [hVe]
    refine ⟨⟨CC[q]'(by rw [hsz]; omega), ?_⟩, by simp⟩
    simp
  have h1V : RS V R (nx st).2 := by rw [hVe]; exact h1.alloc _
  have hgV : w.grownBy V (some R) := by rw [hVe]; exact but_trans hg1 (World.grownBy_alloc w1 _ (some R))
  have hRl := h1.lt
  have hws := hg1.size
  rw [← hVe] at hmk
  clear hVe hsz
  go_wp2_with fail
  go_loopw [21] (fun t wr => ∃ k : Nat, k ≤ N ∧ t = .int .i64 k ∧ RS wr R (stAt (nx st).2 (4 * k)) ∧ w.grownBy wr (some R) ∧ Hid (∀ q, q < 4 * k → wr.cell? ⟨w1.heap.size, q, none⟩ = some (.int .i64 (nth (nx st).2 q))) ∧ Hid (∀ q, q < 4 * N → (∃ v, wr.cell? ⟨w1.heap.size, q, none⟩ = some v) ∧ wr.frozen? ⟨w1.heap.size, q, none⟩ = false)) (fun t _ => N - (intOf t).toNat)
  case atStart => exact ⟨0, Nat.zero_le _, rfl, h1V, hgV, fun q hq => absurd hq (by omega), HY⟩
  case round =>
    obtain ⟨k, hk, rfl, hRS, hg, hdone, hthere⟩ := hrel
    clear h1V hgV HY
    by_cases hlt : k < N
    · have hBr := but_new hg hB hne
      go_wp2_with fail
      refine (row_link B R _ wr hRS hBr hne).mono ?_
      simp only [nth_add, stAt_add, Nat.add_zero]
      rintro ev w2 ⟨rfl, h2, hg2⟩
      have hY : w1.heap.size ≠ R := by omega
      obtain ⟨⟨x0, e0⟩, f0⟩ := hthere.out (k * 4) (by omega)
      have m0 := but_frozen hg2 e0 f0 hY
      have n0 := but_new hg2 e0 hY
      obtain ⟨⟨x1, e1⟩, f1⟩ := hthere.out (k * 4 + 1) (by omega)
      have m1 := but_frozen hg2 e1 f1 hY
      have n1 := but_new hg2 e1 hY
      obtain ⟨⟨x2, e2⟩, f2⟩ := hthere.out (k * 4 + 2) (by omega)
      have m2 := but_frozen hg2 e2 f2 hY
      have n2 := but_new hg2 e2 hY
      obtain ⟨⟨x3, e3⟩, f3⟩ := hthere.out (k * 4 + 3) (by omega)
      have m3 := but_frozen hg2 e3 f3 hY
      have n3 := but_new hg2 e3 hY
      have hg3 := but_trans hg hg2
      have hdone2 : Hid (∀ q, q < 4 * k → w2.cell? ⟨w1.heap.size, q, none⟩ = some (.int .i64 (nth (nx st).2 q))) := fun q hq => but_new hg2 (hdone.out q hq) hY
      have hthere2 : Hid (∀ q, q < 4 * N → (∃ v, w2.cell? ⟨w1.heap.size, q, none⟩ = some v) ∧ w2.frozen? ⟨w1.heap.size, q, none⟩ = false) := fun q hq => by
        obtain ⟨⟨x, e⟩, f⟩ := hthere.out q hq
        exact ⟨⟨x, but_new hg2 e hY⟩, but_frozen hg2 e f hY⟩
      have h2e : 4 * k + 4 = 4 * (k + 1) := by omega
      rw [h2e] at h2
      clear hdone hthere hRS  e0 f0  e1 f1  e2 f2  e3 f3
      go_wp2
      go_roundw
      case rel => exact ⟨k + 1, by omega, by go_num, RS.setX (RS.setX (RS.setX (RS.setX (h2) (by omega) _) (by omega) _) (by omega) _) (by omega) _, but_setX (but_setX (but_setX (but_setX (hg3) (by omega) _) (by omega) _) (by omega) _) (by omega) _, done4 hdone2.out n0 n1 n2 n3, there4 hthere2.out⟩
      case measure => simp [intOf]; omega
    · have hkN : k = N := by omega
      subst hkN
      go_wp2
      go_ret
      refine ⟨_, _, rfl, fun b off e => by cases e; exact hws, fun h0 => ⟨w1.heap.size, 0, rfl, ?_, fun j hj => ?_⟩, hRS, hg⟩
      · exact lt_of_cell (hdone.out 0 (by omega))
      · refine ⟨?_, ?_, ?_, ?_⟩
        · rw [show 0 + j * 4 = 4 * j by omega]; exact hdone.out _ (by omega)
        · rw [show 0 + j * 4 + 1 = 4 * j + 1 by omega]; exact hdone.out _ (by omega)
        · rw [show 0 + j * 4 + 2 = 4 * j + 2 by omega]; exact hdone.out _ (by omega)
        · rw [show 0 + j * 4 + 3 = 4 * j + 3 by omega]; exact hdone.out _ (by omega)

theorem Tryd.infowins : (Tryd.prog.info? 61).map (fun i => (i.zero, i.size, i.bytes)) = some (some (.agg #[.int .i64 0, .int .i64 0, .int .i64 0]), 3, 24) := by kernel_rfl
set_option maxRecDepth 100000 in
set_option maxHeartbeats 4000000 in
theorem wins_many (B R : Nat) (most : Int) (st : St) (w : World) (hR : RS w R st) (hm : most < (nx st).1) :
    Calls Tryd.prog 40 #[.pointer (some ⟨R, 0, none⟩), .int .i64 most, .func (.func 41) #[] #[.pointer (some ⟨B, 0, none⟩)]] w fun ev w' => ev = .returned (.slice none 0 0) ∧ RS w' R none ∧ w.grownBy w' (some R) := by
  obtain ⟨n, hn⟩ : ∃ n, (nx st).1 = n := ⟨_, rfl⟩
  rw [hn] at hm
  go_enter Tryd.func40, Tryd.ntmps40
  go_wp2_with fail
  refine (number_st R st w hR).mono ?_
  rw [hn]
  rintro ev w1 ⟨rfl, h1, hg1⟩
  go_wp2_with fail
  refine (RS.spoil h1).mono ?_
  rintro ev w2 ⟨rfl, h2, hg2⟩
  go_wp2
  go_ret
  exact ⟨rfl, h2, but_trans hg1 hg2⟩

set_option maxRecDepth 100000 in
set_option maxHeartbeats 4000000 in
theorem wins_some (B R : Nat) (most : Int) (st : St) (w : World) (hR : RS w R st) (hB : w.cell? ⟨B, 0, none⟩ = some (.pointer (some ⟨R, 0, none⟩))) (hne : B ≠ R) (N : Nat) (hN : (nx st).1 = (N : Int)) (hm : (N : Int) ≤ most) (h32 : N ≤ 32) :
    Calls Tryd.prog 40 #[.pointer (some ⟨R, 0, none⟩), .int .i64 most, .func (.func 41) #[] #[.pointer (some ⟨B, 0, none⟩)]] w fun ev w' => ∃ a cap, ev = .returned (.slice a N cap) ∧ (∀ b off, a = some ⟨b, off, none⟩ → w.heap.size ≤ b) ∧ Rows3 w' a N (fun j => nth (nx st).2 (3 * j)) (fun j => nth (nx st).2 (3 * j + 1)) (fun j => nth (nx st).2 (3 * j + 2)) ∧ RS w' R (stAt (nx st).2 (3 * N)) ∧ w.grownBy w' (some R) := by
  go_enter Tryd.func40, Tryd.ntmps40
  go_wp2_with fail
  refine (number_st R st w hR).mono ?_
  rw [hN]
  rintro ev w1 ⟨rfl, h1, hg1⟩
  have hn : decide (most < (N : Int)) = false := decide_eq_false (by omega)
  obtain ⟨i0, hi, hz0, hz1, hz2⟩ := info_parts (Tryd.infowins)
  have hmk := run_makeSlice (P := Tryd.prog) w1 24 61 i0 _ Tryd.underlying24 hi hz0 .i64 .i64 (N : Int) (N : Int) (by omega) (Int.le_refl _) (by rw [hz1]; simp; omega) (by rw [hz2]; omega) (by omega)
  rw [hz1] at hmk
  simp only [Int.toNat_natCast] at hmk
  obtain ⟨CC, hCC⟩ : ∃ CC, madeCells (Value.agg #[.int .i64 0, .int .i64 0, .int .i64 0]).cells (N * 3) = CC := ⟨_, rfl⟩
  have hsz : CC.size = N * 3 := by rw [← hCC]; exact size_madeCells _ _
  rw [hCC] at hmk
  clear hi hz0 hz1 hz2 hCC
  obtain ⟨V, hVe⟩ : ∃ V, V = w1.alloc (.cells CC 61) := ⟨_, rfl⟩
  have HY : Hid (∀ q, q < 3 * N → (∃ v, V.cell? ⟨w1.heap.size, q, none⟩ = some v) ∧ V.frozen? ⟨w1.heap.size, q, none⟩ = false) := fun q hq => by
    rw [hVe]
    refine ⟨⟨CC[q]'(by rw [hsz]; omega), ?_⟩, by simp⟩
    simp
  have h1V : RS V R (nx st).2 := by rw [hVe]; exact h1.alloc _
  have hgV : w.grownBy V (some R) := by rw [hVe]; exact but_trans hg1 (World.grownBy_alloc w1 _ (some R))
  have hRl := h1.lt
  have hws := hg1.size
  rw [← hVe] at hmk
  clear hVe hsz
  go_wp2_with fail
  go_loopw [21] (fun t wr => ∃ k : Nat, k ≤ N ∧ t = .int .i64 k ∧ RS wr R (stAt (nx st).2 (3 * k)) ∧ w.grownBy wr (some R) ∧ Hid (∀ q, q < 3 * k → wr.cell? ⟨w1.heap.size, q, none⟩ = some (.int .i64 (nth (nx st).2 q))) ∧ Hid (∀ q, q < 3 * N → (∃ v, wr.cell? ⟨w1.heap.size, q, none⟩ = some v) ∧ wr.frozen? ⟨w1.heap.size, q, none⟩ = false)) (fun t _ => N - (intOf t).toNat)
  case atStart => exact ⟨0, Nat.zero_le _, rfl, h1V, hgV, fun q hq => absurd hq (by omega), HY⟩
  case round =>
    obtain ⟨k, hk, rfl, hRS, hg, hdone, hthere⟩ := hrel
    clear h1V hgV HY
    by_cases hlt : k < N
    · have hBr := but_new hg hB hne
      go_wp2_with fail
      refine (row_win B R _ wr hRS hBr hne).mono ?_
      simp only [nth_add, stAt_add, Nat.add_zero]
      rintro ev w2 ⟨rfl, h2, hg2⟩
      have hY : w1.heap.size ≠ R := by omega
      obtain ⟨⟨x0, e0⟩, f0⟩ := hthere.out (k * 3) (by omega)
      have m0 := but_frozen hg2 e0 f0 hY
      have n0 := but_new hg2 e0 hY
      obtain ⟨⟨x1, e1⟩, f1⟩ := hthere.out (k * 3 + 1) (by omega)
      have m1 := but_frozen hg2 e1 f1 hY
      have n1 := but_new hg2 e1 hY
      obtain ⟨⟨x2, e2⟩, f2⟩ := hthere.out (k * 3 + 2) (by omega)
      have m2 := but_frozen hg2 e2 f2 hY
      have n2 := but_new hg2 e2 hY
      have hg3 := but_trans hg hg2
      have hdone2 : Hid (∀ q, q < 3 * k → w2.cell? ⟨w1.heap.size, q, none⟩ = some (.int .i64 (nth (nx st).2 q))) := fun q hq => but_new hg2 (hdone.out q hq) hY
      have hthere2 : Hid (∀ q, q < 3 * N → (∃ v, w2.cell? ⟨w1.heap.size, q, none⟩ = some v) ∧ w2.frozen? ⟨w1.heap.size, q, none⟩ = false) := fun q hq => by
        obtain ⟨⟨x, e⟩, f⟩ := hthere.out q hq
        exact ⟨⟨x, but_new hg2 e hY⟩, but_frozen hg2 e f hY⟩
      have h2e : 3 * k + 3 = 3 * (k + 1) := by omega
      rw [h2e] at h2
      clear hdone hthere hRS  e0 f0  e1 f1  e2 f2
      go_wp2
      go_roundw
      case rel => exact ⟨k + 1, by omega, by go_num, RS.setX (RS.setX (RS.setX (h2) (by omega) _) (by omega) _) (by omega) _, but_setX (but_setX (but_setX (hg3) (by omega) _) (by omega) _) (by omega) _, done3 hdone2.out n0 n1 n2, there3 hthere2.out⟩
      case measure => simp [intOf]; omega
    · have hkN : k = N := by omega
      subst hkN
      go_wp2
      go_ret
      refine ⟨_, _, rfl, fun b off e => by cases e; exact hws, fun h0 => ⟨w1.heap.size, 0, rfl, ?_, fun j hj => ?_⟩, hRS, hg⟩
      · exact lt_of_cell (hdone.out 0 (by omega))
      · refine ⟨?_, ?_, ?_⟩
        · rw [show 0 + j * 3 = 3 * j by omega]; exact hdone.out _ (by omega)
        · rw [show 0 + j * 3 + 1 = 3 * j + 1 by omega]; exact hdone.out _ (by omega)
        · rw [show 0 + j * 3 + 2 = 3 * j + 2 by omega]; exact hdone.out _ (by omega)
end Go.Proofs.YtlpojkehbhkdiaaDoor
