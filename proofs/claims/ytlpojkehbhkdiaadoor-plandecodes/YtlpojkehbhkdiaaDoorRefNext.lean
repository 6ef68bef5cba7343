/- The document's answer's closures next and many: numbers off a list; what is amiss is kept. -/
import Derived.Test.YtlpojkehbhkdiaaDoorRefNumbers
namespace Go.Proofs.YtlpojkehbhkdiaaDoor
open Go.RowKit

/-- Nothing but two blocks is turned. -/
structure But2 (A B : Nat) (w w' : World) : Prop where
  os : w'.os = w.os
  tape : w'.tape = w.tape
  output : w'.output = w.output
  size : w.heap.size ≤ w'.heap.size
  block : ∀ k, k < w.heap.size → k ≠ A → k ≠ B → w'.heap[k]? = w.heap[k]?
theorem But2.refl (A B : Nat) (w : World) : But2 A B w w := ⟨rfl, rfl, rfl, Nat.le_refl _, fun _ _ _ _ => rfl⟩
theorem But2.trans {A B : Nat} {a b c : World} (h : But2 A B a b) (g : But2 A B b c) : But2 A B a c :=
  ⟨g.os.trans h.os, g.tape.trans h.tape, g.output.trans h.output, Nat.le_trans h.size g.size, fun k hk h1 h2 => (g.block k (Nat.lt_of_lt_of_le hk h.size) h1 h2).trans (h.block k hk h1 h2)⟩
theorem But2.setA {A B : Nat} {a b : World} (h : But2 A B a b) (i : Nat) (v : Value) : But2 A B a (b.setCell ⟨A, i, none⟩ v) :=
  ⟨h.os, h.tape, h.output, by simpa [World.setCell] using h.size, fun k hk h1 h2 => (Below.heap_setCell _ _ _ k h1).trans (h.block k hk h1 h2)⟩
theorem But2.setB {A B : Nat} {a b : World} (h : But2 A B a b) (i : Nat) (v : Value) : But2 A B a (b.setCell ⟨B, i, none⟩ v) :=
  ⟨h.os, h.tape, h.output, by simpa [World.setCell] using h.size, fun k hk h1 h2 => (Below.heap_setCell _ _ _ k h2).trans (h.block k hk h1 h2)⟩
theorem But2.cell {A B : Nat} {a b : World} (h : But2 A B a b) {X i : Nat} {v : Value} (hc : a.cell? ⟨X, i, none⟩ = some v) (h1 : X ≠ A) (h2 : X ≠ B) : b.cell? ⟨X, i, none⟩ = some v :=
  (World.cell?_of_block (w := a) (h.block X (lt_of_cell hc) h1 h2)).trans hc
theorem But2.frozen {A B : Nat} {a b : World} (h : But2 A B a b) {X i : Nat} {v : Value} (hc : a.cell? ⟨X, i, none⟩ = some v) (hf : a.frozen? ⟨X, i, none⟩ = false) (h1 : X ≠ A) (h2 : X ≠ B) : b.frozen? ⟨X, i, none⟩ = false :=
  (World.frozen?_of_block (w := a) (h.block X (lt_of_cell hc) h1 h2)).trans hf

/-- What is left of a list of numbers, and whether something is amiss. -/
def NL (K : Nat) (w : World) (A B : Nat) (L : List Int) (bad : Bool) : Prop :=
  (w.frozen? ⟨A, 0, none⟩ = false ∧ w.frozen? ⟨B, 0, none⟩ = false) ∧ w.cell? ⟨B, 0, none⟩ = some (.bool bad) ∧
  (∃ a cap, w.cell? ⟨A, 0, none⟩ = some (.slice a L.length cap) ∧ L.length ≤ cap ∧ (0 < L.length → ∃ b off, a = some ⟨b, off, none⟩ ∧ (K ≤ b ∧ b < A) ∧ b < B ∧ ∀ j (h : j < L.length), w.cell? ⟨b, off + j, none⟩ = some (.int .i64 L[j]))) ∧ L.length ≤ 3000
/-- The state, as a reader's: none: something is amiss. -/
def NSt (K : Nat) (w : World) (A B : Nat) (st : St) : Prop :=
  match st with
  | none => ∃ L, NL K w A B L true
  | some r => ∃ L, NL K w A B L false ∧ r = bytesOf L ∧ ∀ x ∈ L, 0 ≤ x ∧ x ≤ 1099511627776

theorem rd_nil : rd [] = none := rfl

set_option maxHeartbeats 1000000 in
theorem next_nil {K : Nat} (A B : Nat) (bad : Bool) (w : World) (hAB : A ≠ B) (h : NL K w A B [] bad) :
    Calls Tryd.prog 26 #[.pointer (some ⟨A, 0, none⟩), .pointer (some ⟨B, 0, none⟩)] w fun ev w' => ev = .returned (.int .i64 0) ∧ NL K w' A B [] true ∧ But2 A B w w' := by
  obtain ⟨⟨f0, f1⟩, c1, ⟨a, cap, c0, hc, hr⟩, hl⟩ := h
  have c0' : w.cell? ⟨A, 0, none⟩ = some (.slice a 0 cap) := c0
  clear c0
  go_enter Tryd.func26, Tryd.ntmps26
  go_wp2
  go_ret
  exact ⟨rfl, ⟨⟨by simp [f0], by simp [f1]⟩, set_same c1, ⟨a, cap, set_far (Ne.symm hAB) c0', hc, fun h0 => absurd h0 (Nat.lt_irrefl _)⟩, by simp⟩, (But2.refl A B w).setB _ _⟩

set_option maxHeartbeats 1000000 in
theorem next_cons {K : Nat} (A B : Nat) (x : Int) (L : List Int) (bad : Bool) (w : World) (hAB : A ≠ B) (h : NL K w A B (x :: L) bad) :
    Calls Tryd.prog 26 #[.pointer (some ⟨A, 0, none⟩), .pointer (some ⟨B, 0, none⟩)] w fun ev w' => ev = .returned (.int .i64 x) ∧ NL K w' A B L bad ∧ But2 A B w w' := by
  obtain ⟨⟨f0, f1⟩, c1, ⟨a, cap, c0, hc, hr⟩, hl⟩ := h
  obtain ⟨b, off, rfl, hbA, hbB, hcell⟩ := hr (by simp)
  obtain ⟨n, hn⟩ : ∃ n, L.length = n := ⟨_, rfl⟩
  have y0 := hcell 0 (by simp)
  have HN : Hid (L.length = n) := hn
  have HC : Hid (∀ j (h : j < (x :: L).length), w.cell? ⟨b, off + j, none⟩ = some (.int .i64 (x :: L)[j])) := hcell
  simp only [List.length_cons, hn, Nat.add_zero, List.getElem_cons_zero] at c0 hc hl y0
  clear hcell hr hn
  have k1 : ((n + 1 : Nat) : Int) ≤ (cap : Int) := by omega
  have k2 : (1 : Int) ≤ (n : Int) + 1 := by omega
  have k3 : (0 : Int) < (n : Int) + 1 := by omega
  have k4 : ((n : Int) + 1 == 0) = false := by simp; omega
  go_enter Tryd.func26, Tryd.ntmps26
  go_wp2
  · go_ret
    refine ⟨rfl, ⟨⟨by simp [f0], by simp [f1]⟩, set_far hAB c1, ⟨_, _, by rw [HN.out]; exact set_same c0, by rw [HN.out]; omega, fun h0 => absurd h0 (by rw [HN.out]; omega)⟩, by rw [HN.out]; omega⟩, (But2.refl A B w).setA _ _⟩
  · go_ret
    refine ⟨rfl, ⟨⟨by simp [f0], by simp [f1]⟩, set_far hAB c1, ⟨_, _, by rw [HN.out]; exact set_same c0, by rw [HN.out]; omega, fun h0 => ⟨b, off + 1, rfl, hbA, hbB, fun j h => ?_⟩⟩, by rw [HN.out]; omega⟩, (But2.refl A B w).setA _ _⟩
    have := HC.out (j + 1) (by simp; omega)
    simp only [List.getElem_cons_succ] at this
    rw [show off + 1 + j = off + (j + 1) by omega]
    exact set_far (by omega) this

/-- next, whatever the state. -/
theorem next_st {K : Nat} (A B : Nat) (st : St) (w : World) (hAB : A ≠ B) (h : NSt K w A B st) :
    Calls Tryd.prog 26 #[.pointer (some ⟨A, 0, none⟩), .pointer (some ⟨B, 0, none⟩)] w fun ev w' => ∃ x : Int, ev = .returned (.int .i64 x) ∧ (st ≠ none → x = (nx st).1) ∧ NSt K w' A B (nx st).2 ∧ But2 A B w w' := by
  cases st with
  | none =>
    obtain ⟨L, hL⟩ := h
    cases L with
    | nil =>
      refine (next_nil A B true w hAB hL).mono ?_
      rintro ev w' ⟨rfl, h1, h2⟩
      exact ⟨0, rfl, fun h => absurd rfl h, ⟨[], h1⟩, h2⟩
    | cons x L =>
      refine (next_cons A B x L true w hAB hL).mono ?_
      rintro ev w' ⟨rfl, h1, h2⟩
      exact ⟨x, rfl, fun h => absurd rfl h, ⟨L, h1⟩, h2⟩
  | some r =>
    obtain ⟨L, hL, rfl, hr⟩ := h
    cases L with
    | nil =>
      refine (next_nil A B false w hAB hL).mono ?_
      rintro ev w' ⟨rfl, h1, h2⟩
      exact ⟨0, rfl, fun _ => rfl, ⟨[], h1⟩, h2⟩
    | cons x L =>
      have hx := hr x (by simp)
      have e : nx (some (bytesOf (x :: L))) = (x, some (bytesOf L)) := by rw [bytesOf_cons]; exact nx_bytes hx.1 hx.2 _
      refine (next_cons A B x L false w hAB hL).mono ?_
      rintro ev w' ⟨rfl, h1, h2⟩
      rw [e]
      exact ⟨x, rfl, fun _ => rfl, ⟨L, h1, rfl, fun y hy => hr y (by simp [hy])⟩, h2⟩

/-- What many leaves. -/
def manySt (most : Int) (st : St) : St := if most < (nx st).1 then none else (nx st).2
/-- The closure next. -/
def nextV (A B : Nat) : Value := .func (.func 26) #[] #[.pointer (some ⟨A, 0, none⟩), .pointer (some ⟨B, 0, none⟩)]
theorem NL.setB {K : Nat} {w : World} {A B : Nat} {L : List Int} {bad : Bool} (h : NL K w A B L bad) (hAB : A ≠ B) (b' : Bool) : NL K (w.setCell ⟨B, 0, none⟩ (.bool b')) A B L b' := by
  obtain ⟨⟨f0, f1⟩, c1, ⟨a, cap, c0, hc, hr⟩, hl⟩ := h
  refine ⟨⟨by simp [f0], by simp [f1]⟩, set_same c1, ⟨a, cap, set_far (Ne.symm hAB) c0, hc, fun h0 => ?_⟩, hl⟩
  obtain ⟨b, off, e, h1, h2, h3⟩ := hr h0
  exact ⟨b, off, e, h1, h2, fun j hj => set_far (by omega) (h3 j hj)⟩
theorem NSt.bad {K : Nat} {w : World} {A B : Nat} {st : St} (h : NSt K w A B st) : ∃ L bad, NL K w A B L bad := by
  cases st with
  | none => obtain ⟨L, h⟩ := h; exact ⟨L, _, h⟩
  | some r => obtain ⟨L, h, _⟩ := h; exact ⟨L, _, h⟩

set_option maxHeartbeats 1000000 in
theorem many_st {K : Nat} (A B C : Nat) (most : Int) (st : St) (w : World) (hm : 0 ≤ most) (hAB : A ≠ B) (h : NSt K w A B st) (hC : w.cell? ⟨C, 0, none⟩ = some (nextV A B)) :
    Calls Tryd.prog 27 #[.int .i64 most, .pointer (some ⟨C, 0, none⟩), .pointer (some ⟨B, 0, none⟩)] w fun ev w' => ∃ x : Int, ev = .returned (.int .i64 x) ∧ (manySt most st ≠ none → x = (nx st).1) ∧ NSt K w' A B (manySt most st) ∧ But2 A B w w' := by
  unfold nextV at hC
  go_enter Tryd.func27, Tryd.ntmps27
  go_wp2_with fail
  refine (next_st A B st w hAB h).mono ?_
  rintro ev w1 ⟨x, rfl, hx, h1, hb1⟩
  by_cases g : most < x
  · obtain ⟨L, bad, hL⟩ := h1.bad
    have f1 := hL.1.2
    have c1 := hL.2.1
    have HM : Hid (manySt most st = none) := by
      show _ = _
      unfold manySt
      by_cases hst : st = none
      · subst hst; rw [nx_none, if_neg (by show ¬ most < 0; omega)]
      · rw [if_pos (by rw [← hx hst]; exact g)]
    go_wp2
    go_ret
    refine ⟨0, rfl, fun q => absurd HM.out q, ?_, hb1.setB _ _⟩
    rw [HM.out]
    exact ⟨L, hL.setB hAB true⟩
  · have g' : decide (most < x) = false := decide_eq_false g
    have HM : Hid (manySt most st = (nx st).2) := by
      show _ = _
      unfold manySt
      by_cases hst : st = none
      · subst hst; rw [nx_none, if_neg (by show ¬ most < 0; omega)]
      · rw [if_neg (by rw [← hx hst]; exact g)]
    go_wp2
    go_ret
    refine ⟨x, rfl, fun q => hx (by rintro rfl; exact q (by rw [HM.out]; rfl)), ?_, hb1⟩
    rw [HM.out]; exact h1
end Go.Proofs.YtlpojkehbhkdiaaDoor
