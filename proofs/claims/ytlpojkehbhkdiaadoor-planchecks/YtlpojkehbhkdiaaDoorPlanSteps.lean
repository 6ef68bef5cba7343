/- Small words for walks over package plan: what new memory leaves as it was. -/
import Derived.Test.YtlpojkehbhkdiaaDoorPlanAll
import Derived.Test.YtlpojkehbhkdiaaDoorSkips
namespace Go.Proofs.YtlpojkehbhkdiaaDoor
open Go.RowKit

theorem undrewP {V u : World} (h : Below V.drew.heap.size V.drew u) : Below V.heap.size V u := ⟨h.os, h.tape, h.output, h.size, h.block⟩
theorem stepB {V u u' : World} (hW : Below V.heap.size V u) (h : Below u.heap.size u u') : Below V.heap.size V u' := hW.trans (h.mono hW.size)
theorem stepD {V u u' : World} (hW : Below V.heap.size V u) (h : Below u.drew.heap.size u.drew u') : Below V.heap.size V u' := stepB hW (undrewP h)
theorem stepA {V u u' : World} {o : Obj} (hW : Below V.heap.size V u) (h : Below (u.alloc o).heap.size (u.alloc o) u') : Below V.heap.size V u' := stepB (hW.alloc hW.size _) h

theorem stepDA {V u u' : World} {o : Obj} (hW : Below V.heap.size V u) (h : Below (u.drew.alloc o).heap.size (u.drew.alloc o) u') : Below V.heap.size V u' := stepB (hW.alloc hW.size o) ⟨h.os, h.tape, h.output, h.size, h.block⟩
/-- A plan's ten cells. -/
def Cells10 (b : Nat) (nodes faulty skew jitter drift round frame : Int) (sa la wa : Option Addr) (ns sc nl lc nw wc : Nat) (u : World) : Prop :=
  u.cell? ⟨b, 0, none⟩ = some (.int .i64 nodes) ∧ u.cell? ⟨b, 1, none⟩ = some (.int .i64 faulty) ∧ u.cell? ⟨b, 2, none⟩ = some (.int .i64 skew) ∧ u.cell? ⟨b, 3, none⟩ = some (.int .i64 jitter) ∧ u.cell? ⟨b, 4, none⟩ = some (.int .i64 drift) ∧ u.cell? ⟨b, 5, none⟩ = some (.int .i64 round) ∧ u.cell? ⟨b, 6, none⟩ = some (.slice sa ns sc) ∧ u.cell? ⟨b, 7, none⟩ = some (.slice la nl lc) ∧ u.cell? ⟨b, 8, none⟩ = some (.int .i64 frame) ∧ u.cell? ⟨b, 9, none⟩ = some (.slice wa nw wc)
theorem Cells10.below {b : Nat} {nodes faulty skew jitter drift round frame : Int} {sa la wa : Option Addr} {ns sc nl lc nw wc : Nat} {u u' : World} (h : Cells10 b nodes faulty skew jitter drift round frame sa la wa ns sc nl lc nw wc u) (hb : Below u.heap.size u u') : Cells10 b nodes faulty skew jitter drift round frame sa la wa ns sc nl lc nw wc u' := by
  obtain ⟨h0, h1, h2, h3, h4, h5, h6, h7, h8, h9⟩ := h
  exact ⟨keep_cell h0 hb, keep_cell h1 hb, keep_cell h2 hb, keep_cell h3 hb, keep_cell h4 hb, keep_cell h5 hb, keep_cell h6 hb, keep_cell h7 hb, keep_cell h8 hb, keep_cell h9 hb⟩
theorem box10 (nodes faulty skew jitter drift round frame : Int) (sa la wa : Option Addr) (ns sc nl lc nw wc : Nat) (w : World) (t : TypeId) :
    Cells10 w.heap.size nodes faulty skew jitter drift round frame sa la wa ns sc nl lc nw wc (w.alloc (.cells #[.int .i64 nodes, .int .i64 faulty, .int .i64 skew, .int .i64 jitter, .int .i64 drift, .int .i64 round, .slice sa ns sc, .slice la nl lc, .int .i64 frame, .slice wa nw wc] t)) ∧ Below w.heap.size w (w.alloc (.cells #[.int .i64 nodes, .int .i64 faulty, .int .i64 skew, .int .i64 jitter, .int .i64 drift, .int .i64 round, .slice sa ns sc, .slice la nl lc, .int .i64 frame, .slice wa nw wc] t)) :=
  ⟨⟨by simp, by simp, by simp, by simp, by simp, by simp, by simp, by simp, by simp, by simp⟩, (Below.refl _ _).alloc (Nat.le_refl _) _⟩

/-- All of some numbers may be, or not. -/
theorem all_1b (R : Bool) (fv : Value) (lo hi x : Int) (b cap : Nat) (w : World) (hB : Btw w fv lo hi) (h0 : w.cell? ⟨b, 0, none⟩ = some (.int .i64 x)) (hR : decide (lo ≤ x ∧ x ≤ hi) = R) :
    Calls Tryd.prog 30 #[fv, .slice (some ⟨b, 0, none⟩) 1 cap] w fun e w' => e = .returned (.bool R) ∧ Below w.heap.size w w' := hR ▸ all_1 fv lo hi x b cap w hB h0
theorem all_2b (R : Bool) (fv : Value) (lo hi x y : Int) (b cap : Nat) (w : World) (hB : Btw w fv lo hi) (h0 : w.cell? ⟨b, 0, none⟩ = some (.int .i64 x)) (h1 : w.cell? ⟨b, 1, none⟩ = some (.int .i64 y)) (hR : decide ((lo ≤ x ∧ x ≤ hi) ∧ lo ≤ y ∧ y ≤ hi) = R) :
    Calls Tryd.prog 30 #[fv, .slice (some ⟨b, 0, none⟩) 2 cap] w fun e w' => e = .returned (.bool R) ∧ Below w.heap.size w w' := hR ▸ all_2 fv lo hi x y b cap w hB h0 h1
theorem all_3b (R : Bool) (fv : Value) (lo hi x y z : Int) (b cap : Nat) (w : World) (hB : Btw w fv lo hi) (h0 : w.cell? ⟨b, 0, none⟩ = some (.int .i64 x)) (h1 : w.cell? ⟨b, 1, none⟩ = some (.int .i64 y)) (h2 : w.cell? ⟨b, 2, none⟩ = some (.int .i64 z)) (hR : decide ((lo ≤ x ∧ x ≤ hi) ∧ (lo ≤ y ∧ y ≤ hi) ∧ lo ≤ z ∧ z ≤ hi) = R) :
    Calls Tryd.prog 30 #[fv, .slice (some ⟨b, 0, none⟩) 3 cap] w fun e w' => e = .returned (.bool R) ∧ Below w.heap.size w w' := hR ▸ all_3 fv lo hi x y z b cap w hB h0 h1 h2
theorem Btw.alloc {w : World} {fv : Value} {lo hi : Int} (h : Btw w fv lo hi) (o : Obj) : Btw (w.alloc o) fv lo hi := h.below ((Below.refl _ _).alloc (Nat.le_refl _) _)

theorem wrap_smallP (n : Int) (h0 : 0 ≤ n) (h : n ≤ 1000000) : IntKind.i64.wrap n = n := by
  simp [IntKind.wrap, IntKind.bits, IntKind.signed]
  omega
theorem pow_smallP (n : Nat) (h : n ≤ 15) : 1 ≤ (2 : Int) ^ n ∧ (2 : Int) ^ n ≤ 32768 := by
  have : n = 0 ∨ n = 1 ∨ n = 2 ∨ n = 3 ∨ n = 4 ∨ n = 5 ∨ n = 6 ∨ n = 7 ∨ n = 8 ∨ n = 9 ∨ n = 10 ∨ n = 11 ∨ n = 12 ∨ n = 13 ∨ n = 14 ∨ n = 15 := by omega
  rcases this with rfl | rfl | rfl | rfl | rfl | rfl | rfl | rfl | rfl | rfl | rfl | rfl | rfl | rfl | rfl | rfl <;> decide
end Go.Proofs.YtlpojkehbhkdiaaDoor
