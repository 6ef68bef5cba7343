/- The document's answer's Decode (under way). (Made by tools/gen_refdecode.py.) -/
import Derived.Test.YtlpojkehbhkdiaaDoorRefNext
namespace Go.Proofs.YtlpojkehbhkdiaaDoor
open Go.RowKit

theorem NL.kept {K : Nat} {w w' : World} {A B : Nat} {L : List Int} {bad : Bool} (h : NL K w A B L bad) (hk : ∀ k, k ≤ max A B → w'.heap[k]? = w.heap[k]?) : NL K w' A B L bad := by
  obtain ⟨⟨f0, f1⟩, c1, ⟨a, cap, c0, hc, hr⟩, hl⟩ := h
  have hcell : ∀ {x i : Nat} {v : Value}, x ≤ max A B → w.cell? ⟨x, i, none⟩ = some v → w'.cell? ⟨x, i, none⟩ = some v := fun {x i v} q e => (World.cell?_of_block (w := w) (hk x q)).trans e
  refine ⟨⟨(World.frozen?_of_block (w := w) (hk A (by omega))).trans f0, (World.frozen?_of_block (w := w) (hk B (by omega))).trans f1⟩, hcell (by omega) c1, ⟨a, cap, hcell (by omega) c0, hc, fun h0 => ?_⟩, hl⟩
  obtain ⟨b, off, e, h1, h2, h3⟩ := hr h0
  exact ⟨b, off, e, h1, h2, fun j hj => hcell (by omega) (h3 j hj)⟩
theorem NSt.kept {K : Nat} {w w' : World} {A B : Nat} {st : St} (h : NSt K w A B st) (hk : ∀ k, k ≤ max A B → w'.heap[k]? = w.heap[k]?) : NSt K w' A B st := by
  cases st with
  | none => obtain ⟨L, h⟩ := h; exact ⟨L, h.kept hk⟩
  | some r => obtain ⟨L, h, q⟩ := h; exact ⟨L, h.kept hk, q⟩
theorem NSt.below {K : Nat} {w w' : World} {A B : Nat} {st : St} (h : NSt K w A B st) (hA : A < w.heap.size) (hB : B < w.heap.size) (hb : Below w.heap.size w w') : NSt K w' A B st := h.kept (fun k hk => hb.block k (by omega))
theorem NSt.setX {K : Nat} {w : World} {A B : Nat} {st : St} (h : NSt K w A B st) {X i : Nat} (hX : max A B < X) (v : Value) : NSt K (w.setCell ⟨X, i, none⟩ v) A B st := h.kept (fun k hk => Below.heap_setCell _ _ _ k (by show k ≠ X; omega))
theorem NL.keptK {K : Nat} {w w' : World} {A B : Nat} {L : List Int} {bad : Bool} (h : NL K w A B L bad) (hA : K ≤ A) (hB : K ≤ B) (hk : ∀ k, K ≤ k → w'.heap[k]? = w.heap[k]?) : NL K w' A B L bad := by
  obtain ⟨⟨f0, f1⟩, c1, ⟨a, cap, c0, hc, hr⟩, hl⟩ := h
  have hcell : ∀ {x i : Nat} {v : Value}, K ≤ x → w.cell? ⟨x, i, none⟩ = some v → w'.cell? ⟨x, i, none⟩ = some v := fun {x i v} q e => (World.cell?_of_block (w := w) (hk x q)).trans e
  refine ⟨⟨(World.frozen?_of_block (w := w) (hk A hA)).trans f0, (World.frozen?_of_block (w := w) (hk B hB)).trans f1⟩, hcell hB c1, ⟨a, cap, hcell hA c0, hc, fun h0 => ?_⟩, hl⟩
  obtain ⟨b, off, e, h1, h2, h3⟩ := hr h0
  exact ⟨b, off, e, h1, h2, fun j hj => hcell h1.1 (h3 j hj)⟩
theorem NSt.setLow {K : Nat} {w : World} {A B : Nat} {st : St} (h : NSt K w A B st) (hA : K ≤ A) (hB : K ≤ B) {X i : Nat} (hX : X < K) (v : Value) : NSt K (w.setCell ⟨X, i, none⟩ v) A B st := by
  have hk : ∀ k, K ≤ k → (w.setCell ⟨X, i, none⟩ v).heap[k]? = w.heap[k]? := fun k hk => Below.heap_setCell _ _ _ k (by show k ≠ X; omega)
  cases st with
  | none => obtain ⟨L, h⟩ := h; exact ⟨L, h.keptK hA hB hk⟩
  | some r => obtain ⟨L, h, q⟩ := h; exact ⟨L, h.keptK hA hB hk, q⟩

/-- Whether a state is amiss. -/
def badOf : St → Bool
  | none => true
  | some _ => false
theorem NSt.cellB {K : Nat} {w : World} {A B : Nat} {st : St} (h : NSt K w A B st) : w.cell? ⟨B, 0, none⟩ = some (.bool (badOf st)) ∧ B < w.heap.size ∧ A < w.heap.size := by
  cases st with
  | none => obtain ⟨L, h⟩ := h; obtain ⟨_, c1, ⟨_, _, c0, _⟩, _⟩ := h; exact ⟨c1, lt_of_cell c1, lt_of_cell c0⟩
  | some r => obtain ⟨L, h, _⟩ := h; obtain ⟨_, c1, ⟨_, _, c0, _⟩, _⟩ := h; exact ⟨c1, lt_of_cell c1, lt_of_cell c0⟩
/-- Bytes that are none cannot be a plan. -/
theorem nums_bad {bs : List Int} (hb : ∀ b ∈ bs, 0 ≤ b ∧ b < 256) (h : ∃ m r, stAt (some bs) m = some r ∧ r ≠ [] ∧ rd r = none) : endSt (some bs) ≠ some [] := by
  intro he
  obtain ⟨ns, nl, nw, hp, _, _⟩ := read_sound hb he
  obtain ⟨m, r, h1, h2, h3⟩ := h
  have hK := hp.s3.symm.trans he
  generalize 10 + 3 * ns + 4 * nl + 3 * nw = K at hK
  have hm1 : stAt (some bs) (m + 1) = none := by show (nx (stAt (some bs) m)).2 = none; rw [h1, nx_bad h3]
  rcases Nat.lt_trichotomy m K with q | q | q
  · have e : stAt (some bs) K = stAt (stAt (some bs) (m + 1)) (K - (m + 1)) := by rw [stAt_add]; congr 1; omega
    rw [e, hm1, stAt_none] at hK
    cases hK
  · subst q
    rw [h1] at hK
    exact h2 (Option.some.inj hK)
  · have hK1 : stAt (some bs) (K + 1) = none := by show (nx (stAt (some bs) K)).2 = none; rw [hK]; rfl
    have e : stAt (some bs) m = stAt (stAt (some bs) (K + 1)) (m - (K + 1)) := by rw [stAt_add]; congr 1; omega
    rw [e, hK1, stAt_none] at h1
    cases h1
/-- The state with which Decode begins. -/
def begin0 (bs : List Int) (m : Nat) : St := if bs.length ≤ 2000 ∧ stAt (some bs) m = some [] then some bs else none
end Go.Proofs.YtlpojkehbhkdiaaDoor
