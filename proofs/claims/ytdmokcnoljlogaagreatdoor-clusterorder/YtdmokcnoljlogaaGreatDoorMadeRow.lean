/- Rows that make made: of numbers, of empty rows; rows of rows while they grow (ahead of stage 9). -/
import Derived.Test.YtdmokcnoljlogaaGreatDoorOrdSt
import Derived.Laws.MakeOwn
namespace Go.Proofs.YtdmokcnoljlogaaGreatDoor
open Go.RowKit

theorem made_cells (w : World) (e : TypeId) (z : Value) (hz : z.cells = #[z]) (n : Nat) : (∀ j, j < n → (w.alloc (.cells (madeCells z.cells n) e)).cell? ⟨w.heap.size, j, none⟩ = some z) ∧ (∀ i, (w.alloc (.cells (madeCells z.cells n) e)).frozen? ⟨w.heap.size, i, none⟩ = false) ∧ Below w.heap.size w (w.alloc (.cells (madeCells z.cells n) e)) ∧ (w.alloc (.cells (madeCells z.cells n) e)).heap.size = w.heap.size + 1 := by
  refine ⟨fun j hj => ?_, fun i => by simp, (Below.refl _ _).alloc (Nat.le_refl _) _, by simp⟩
  have : (madeCells z.cells n)[j]? = some z := by rw [hz]; simp [madeCells, hj, Nat.mod_one]
  simp
  simpa using this

/-- Rows that grow: k of nl are made. -/
structure Growing (w : World) (base PB LB : Nat) (LR : Nat → Nat) (nl n k : Nat) : Prop where
  p : ∀ j, j < nl → w.cell? ⟨PB, j, none⟩ = some (.int .i64 0)
  pz : ∀ j, w.frozen? ⟨PB, j, none⟩ = false
  l : ∀ j, j < k → w.cell? ⟨LB, j, none⟩ = some (.slice (some ⟨LR j, 0, none⟩) n n)
  e : ∀ j, k ≤ j → j < nl → w.cell? ⟨LB, j, none⟩ = some (.slice none 0 0)
  lz : ∀ j, w.frozen? ⟨LB, j, none⟩ = false
  r : ∀ j i, j < k → i < n → w.cell? ⟨LR j, i, none⟩ = some (.int .i64 0)
  rz : ∀ j i, j < k → w.frozen? ⟨LR j, i, none⟩ = false
  pb : PB = base
  lb : LB = base + 1
  ll : base + 1 < w.heap.size
  rl : ∀ j, j < k → base + 1 < LR j ∧ LR j < w.heap.size
  d2 : ∀ j j', j < k → j' < k → j ≠ j' → LR j ≠ LR j'
theorem Growing.grow {w V : World} {base PB LB : Nat} {LR : Nat → Nat} {nl n k : Nat} (h : Growing w base PB LB LR nl n k) (hk : k < nl) (hV : w.alloc (.cells (madeCells (Value.int .i64 0).cells n) 3) = V) : Growing (V.setCell ⟨LB, k, none⟩ (.slice (some ⟨w.heap.size, 0, none⟩) n n)) base PB LB (fun j => if j = k then w.heap.size else LR j) nl n (k + 1) := by
  obtain ⟨m1, m2, m3, m4⟩ := made_cells w 3 (.int .i64 0) rfl n
  rw [hV] at m1 m2 m3 m4
  have hpb := h.pb
  have hlb := h.lb
  have hll := h.ll
  have c1 : ∀ b i, b < w.heap.size → V.cell? ⟨b, i, none⟩ = w.cell? ⟨b, i, none⟩ := fun b i hb => m3.cell (p := ⟨b, i, none⟩) hb
  have c2 : ∀ b i, b < w.heap.size → V.frozen? ⟨b, i, none⟩ = w.frozen? ⟨b, i, none⟩ := fun b i hb => m3.frozen (p := ⟨b, i, none⟩) hb
  refine ⟨fun j hj => ?_, fun j => ?_, fun j hj => ?_, fun j h1 h2 => ?_, fun j => ?_, fun j i hj hi => ?_, fun j i hj => ?_, hpb, hlb, ?_, fun j hj => ?_, fun j j' hj hj' hne => ?_⟩
  · exact (cell_other (.inl (by omega))).trans ((c1 _ _ (by omega)).trans (h.p j hj))
  · exact soft_set.trans ((c2 _ _ (by omega)).trans (h.pz j))
  · by_cases e : j = k
    · subst e
      rw [if_pos rfl]
      exact cell_set ((c1 _ _ (by omega)).trans (h.e j (Nat.le_refl _) hk))
    · rw [if_neg e]
      exact (cell_other (.inr e)).trans ((c1 _ _ (by omega)).trans (h.l j (by omega)))
  · exact (cell_other (.inr (by omega))).trans ((c1 _ _ (by omega)).trans (h.e j (by omega) h2))
  · exact soft_set.trans ((c2 _ _ (by omega)).trans (h.lz j))
  · by_cases e : j = k
    · subst e
      show (V.setCell ⟨LB, j, none⟩ _).cell? ⟨if j = j then w.heap.size else LR j, i, none⟩ = _
      rw [if_pos rfl]
      exact (cell_other (.inl (by omega))).trans (m1 i hi)
    · show (V.setCell ⟨LB, k, none⟩ _).cell? ⟨if j = k then w.heap.size else LR j, i, none⟩ = _
      rw [if_neg e]
      have := h.rl j (by omega)
      exact (cell_other (.inl (by omega))).trans ((c1 _ _ (by omega)).trans (h.r j i (by omega) hi))
  · by_cases e : j = k
    · subst e
      show (V.setCell ⟨LB, j, none⟩ _).frozen? ⟨if j = j then w.heap.size else LR j, i, none⟩ = _
      rw [if_pos rfl]
      exact soft_set.trans (m2 i)
    · show (V.setCell ⟨LB, k, none⟩ _).frozen? ⟨if j = k then w.heap.size else LR j, i, none⟩ = _
      rw [if_neg e]
      have := h.rl j (by omega)
      exact soft_set.trans ((c2 _ _ (by omega)).trans (h.rz j i (by omega)))
  · simp; omega
  · by_cases e : j = k
    · show base + 1 < (if j = k then w.heap.size else LR j) ∧ (if j = k then w.heap.size else LR j) < _
      rw [if_pos e]
      simp; omega
    · show base + 1 < (if j = k then w.heap.size else LR j) ∧ (if j = k then w.heap.size else LR j) < _
      rw [if_neg e]
      have := h.rl j (by omega)
      simp; omega
  · show (if j = k then w.heap.size else LR j) ≠ (if j' = k then w.heap.size else LR j')
    by_cases e : j = k
    · rw [if_pos e, if_neg (by omega)]
      have := h.rl j' (by omega)
      omega
    · rw [if_neg e]
      by_cases e' : j' = k
      · rw [if_pos e']
        have := h.rl j (by omega)
        omega
      · rw [if_neg e']
        exact h.d2 j j' (by omega) (by omega) hne
theorem Growing.below {w V : World} {base PB LB : Nat} {LR : Nat → Nat} {nl n k : Nat} (h : Growing w base PB LB LR nl n k) (w0 : World) (hb : Below base w0 w) (hV : w.alloc (.cells (madeCells (Value.int .i64 0).cells n) 3) = V) (v : Value) : Below base w0 (V.setCell ⟨LB, k, none⟩ v) := by
  have hlb := h.lb
  have hll := h.ll
  have h1 : Below base w0 V := by rw [← hV]; exact hb.alloc (by omega) _
  have h2 := (Turns.refl LB LB V).set (p := ⟨LB, k, none⟩) (.inl rfl) v
  exact ⟨h2.os.trans h1.os, h2.tape.trans h1.tape, h2.output.trans h1.output, Nat.le_trans h1.size h2.size, fun c hc => (h2.block c (by rw [← hV]; simp; omega) (by omega) (by omega)).trans (h1.block c hc)⟩
/-- All are made. -/
theorem Growing.whole {w : World} {base PB LB : Nat} {LR : Nat → Nat} {nl n : Nat} (h : Growing w base PB LB LR nl n nl) : OwnRows w PB LB LR nl n (fun _ => 0) (fun _ _ => 0) := by
  have hpb := h.pb
  have hlb := h.lb
  have hll := h.ll
  exact ⟨fun k hk => h.p k hk, h.pz, h.l, fun k j hk hj => h.r k j hk hj, fun k j hk => h.rz k j hk, by omega, by omega, fun k hk => (h.rl k hk).2, fun k hk => by have := h.rl k hk; omega, h.d2, by omega⟩
end Go.Proofs.YtdmokcnoljlogaaGreatDoor
