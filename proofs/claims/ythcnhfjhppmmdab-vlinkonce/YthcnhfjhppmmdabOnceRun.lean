/- VlinkOnce's memory while messages go: the sender, the receiver, and the row of what went. -/
import Derived.Test.YthcnhfjhppmmdabOnceParts
import Derived.Test.YthcnhfjhppmmdabOwnInts
import Derived.Deep.AppendLies
namespace Go.Proofs.Ythcnhfjhppmmdab
open Go.RowKit

/-- What lies in the row of what went. -/
def itemCells (dd : Nat → ByteArray) : Nat → List Value
  | 0 => []
  | k + 1 => itemCells dd k ++ [.int .i64 (ordN k), .string (dd k)]
theorem itemCells_congr {dd dd' : Nat → ByteArray} : ∀ {k : Nat}, (∀ j, j < k → dd j = dd' j) → itemCells dd k = itemCells dd' k
  | 0, _ => rfl
  | k + 1, h => by
    simp only [itemCells]
    rw [itemCells_congr (k := k) (fun j hj => h j (by omega)), h k (by omega)]
theorem itemCells_len (dd : Nat → ByteArray) : ∀ k, (itemCells dd k).length = k * 2
  | 0 => rfl
  | k + 1 => by simp only [itemCells, List.length_append, itemCells_len dd k, List.length_cons, List.length_nil]; omega
theorem itemCells_at (dd : Nat → ByteArray) {j : Nat} : ∀ {k : Nat}, j < k → (itemCells dd k)[j * 2]? = some (.int .i64 (ordN j)) ∧ (itemCells dd k)[j * 2 + 1]? = some (.string (dd j))
  | 0, h => absurd h (Nat.not_lt_zero _)
  | k + 1, h => by
    simp only [itemCells]
    have hl := itemCells_len dd k
    by_cases e : j = k
    · subst e
      rw [List.getElem?_append_right (by omega), List.getElem?_append_right (by omega), hl]
      have e1 : j * 2 - j * 2 = 0 := by omega
      have e2 : j * 2 + 1 - j * 2 = 1 := by omega
      rw [e1, e2]
      exact ⟨rfl, rfl⟩
    · rw [List.getElem?_append_left (by omega), List.getElem?_append_left (by omega)]
      exact itemCells_at dd (by omega)

/-- So many have gone. -/
structure Gone (w w3 wr : World) (k : Nat) (O OR : List Nat) (P PR : Nat) (ds : List ByteArray) (went : Nat) (last now : Int) (v : Value) (dd : Nat → ByteArray) : Prop where
  s : Sdr wr O P 1 3 ds went last now
  r : Rcv wr OR PR (-1) 0 0
  ap : Apart O OR
  own : wr.ownsRow w3.heap.size 67 2 v k (itemCells dd k)
  off : ∀ g, v.ownBlock = some g → g ∉ O ∧ g ∉ OR
  lo : ∀ c, c ∈ O → w.heap.size ≤ c
  lr : ∀ c, c ∈ OR → w.heap.size ≤ c
  old : Below w.heap.size w wr
  sz : w3.heap.size ≤ wr.heap.size
  lw : w.heap.size ≤ w3.heap.size
theorem Gone.below {w w3 wr w' : World} {k : Nat} {O OR : List Nat} {P PR : Nat} {ds : List ByteArray} {went : Nat} {last now : Int} {v : Value} {dd : Nat → ByteArray} (h : Gone w w3 wr k O OR P PR ds went last now v dd) (b : Below wr.heap.size wr w') : Gone w w3 w' k O OR P PR ds went last now v dd :=
  ⟨h.s.keep (Same.of_below b h.s.lt), h.r.keep (Same.of_below b h.r.lt), h.ap, owns_below h.own b, h.off, h.lo, h.lr, h.old.trans (b.mono h.old.size), Nat.le_trans h.sz b.size, h.lw⟩
theorem Gone.call {w w3 wr w' : World} {k : Nat} {O O' OR : List Nat} {P PR : Nat} {ds ds' : List ByteArray} {went went' : Nat} {last now last' now' : Int} {v : Value} {dd : Nat → ByteArray} (h : Gone w w3 wr k O OR P PR ds went last now v dd) (f : Foot O O' wr w') (hs : Sdr w' O' P 1 3 ds' went' last' now') : Gone w w3 w' k O' OR P PR ds' went' last' now' v dd := by
  have hX : ∀ g, v.ownBlock = some g → g < wr.heap.size := fun g hg => (h.own.lt g hg).2
  refine ⟨hs, h.r.keep (f.same h.ap h.r.lt), f.apart h.ap h.r.lt, ?_, fun g hg => ⟨fun y => ?_, (h.off g hg).2⟩, f.above h.lo h.old.size, h.lr, h.old.trans (f.below h.lo h.old.size), Nat.le_trans h.sz f.size, h.lw⟩
  · refine owns_same (X := v.ownBlock.toList) h.own (f.same (fun c hc hx => ?_) (fun c hc => hX c (by simpa using hc))) (fun g hg => by simpa using hg)
    exact (h.off c (by simpa using hx)).1 hc
  · rcases f.fresh g y with z | z
    · exact (h.off g hg).1 z
    · have := hX g hg; omega
/-- One more. -/
theorem Gone.push {w w3 wr w' : World} {k : Nat} {O OR : List Nat} {P PR : Nat} {ds : List ByteArray} {went : Nat} {last now : Int} {v v' : Value} {dd : Nat → ByteArray} {o : Obj} {D : ByteArray} (h : Gone w w3 wr k O OR P PR ds went last now v dd)
    (ho : w'.ownsRow w3.heap.size 67 2 v' (k + 1) (itemCells dd k ++ [.int .i64 (ordN k), .string D])) (hg : (wr.alloc o).grownBy w' v.ownBlock) (hat : v'.ownBlock = v.ownBlock ∨ v'.ownBlock = some (wr.alloc o).heap.size) :
    Gone w w3 w' (k + 1) O OR P PR ds went last now v' (fun j => if j = k then D else dd j) := by
  have hX : ∀ g, v.ownBlock = some g → w3.heap.size ≤ g ∧ g < wr.heap.size := fun g hg => h.own.lt g hg
  have hA : Below wr.heap.size wr (wr.alloc o) := (Below.refl _ _).alloc (Nat.le_refl _) _
  have hs1 : (wr.alloc o).heap.size = wr.heap.size + 1 := by simp
  have same : ∀ X : List Nat, (∀ c, c ∈ X → c < wr.heap.size) → (∀ g, v.ownBlock = some g → g ∉ X) → Same X wr w' := fun X h1 h2 => by
    refine ⟨Nat.le_trans hA.size hg.size, fun c hc => (hg.block c (by have := h1 c hc; omega) (fun e => h2 c e.symm hc)).trans (hA.block c (h1 c hc))⟩
  refine ⟨h.s.keep (same O h.s.lt fun g hg => (h.off g hg).1), h.r.keep (same OR h.r.lt fun g hg => (h.off g hg).2), h.ap, ?_, fun g hg' => ?_, h.lo, h.lr, ?_, Nat.le_trans h.sz (Nat.le_trans hA.size hg.size), h.lw⟩
  · have e : itemCells (fun j => if j = k then D else dd j) (k + 1) = itemCells dd k ++ [.int .i64 (ordN k), .string D] := by
      simp only [itemCells, if_true]
      rw [itemCells_congr (dd' := dd) (fun j hj => if_neg (by omega))]
    rw [e]; exact ho
  · rcases hat with y | y
    · exact h.off g (y.symm.trans hg')
    · have : g = (wr.alloc o).heap.size := by rw [y] at hg'; injection hg' with e; exact e.symm
      exact ⟨fun z => by have := h.s.lt g z; omega, fun z => by have := h.r.lt g z; omega⟩
  · have hb : Below w3.heap.size wr w' := ((Below.refl _ _).alloc h.sz o).grown hg (by have := h.sz; omega) (fun g hg => (hX g hg).1)
    exact h.old.trans (hb.mono h.lw)
end Go.Proofs.Ythcnhfjhppmmdab
