/- MemberAlike's nodes, while their row grows. -/
import Derived.Test.YtjppjdocncmkdabAlikeMem
import Derived.Test.YtjppjdocncmkdabOwnInts
import Derived.Deep.AppendLies
namespace Go.Proofs.Ytjppjdocncmkdab
open Go.RowKit

theorem Try.infoPtr : (Try.prog.info? 52).map (fun i => (i.zero, i.size, i.bytes)) = some (some (.pointer none), 1, 8) := by kernel_rfl

def ptrV (Pf : Nat → Nat) (j : Nat) : Value := .pointer (some ⟨Pf j, 0, none⟩)
/-- So many nodes are made, and lie behind a row. -/
structure Born (w3 wr : World) (n k : Nat) (Pf : Nat → Nat) (v : Value) : Prop where
  own : wr.ownsRow w3.heap.size 52 1 v k ((List.range k).map (ptrV Pf))
  node : ∀ j, j < k → ProgNode wr (Pf j) j n (bitsV (fun _ => true) n) 1 0 false ∧ v.ownBlock ≠ some (Pf j) ∧ w3.heap.size ≤ Pf j
  old : Below w3.heap.size w3 wr

theorem Turns.of_grown {w w' : World} {row : Option Nat} (h : w.grownBy w' row) : Turns (row.getD w.heap.size) (row.getD w.heap.size) w w' :=
  ⟨h.os, h.tape, h.output, h.size, fun c hc h1 _ => h.block c hc (fun e => h1 (by rw [← e]; rfl))⟩

theorem Born.next {w3 wr w4 w5 : World} {n k : Nat} {Pf : Nat → Nat} {v v' : Value} {o : Obj} (h : Born w3 wr n k Pf v) (hp : ProgNode w4 wr.heap.size k n (bitsV (fun _ => true) n) 1 0 false) (hb : Below wr.heap.size wr w4)
    (ho : w5.ownsRow w3.heap.size 52 1 v' (k + 1) ((List.range k).map (ptrV Pf) ++ [.pointer (some ⟨wr.heap.size, 0, none⟩)])) (hg : (w4.alloc o).grownBy w5 v.ownBlock) (hat : v'.ownBlock = v.ownBlock ∨ v'.ownBlock = some (w4.alloc o).heap.size) :
    Born w3 w5 n (k + 1) (fun j => if j = k then wr.heap.size else Pf j) v' := by
  have hlt : ∀ g, v.ownBlock = some g → w3.heap.size ≤ g ∧ g < wr.heap.size := fun g hg => h.own.lt g hg
  have hA : Below w4.heap.size w4 (w4.alloc o) := (Below.refl _ _).alloc (Nat.le_refl _) _
  have hs := hb.size
  have hs3 := h.old.size
  have hs4 : (w4.alloc o).heap.size = w4.heap.size + 1 := by simp
  have hTg := Turns.of_grown hg
  have keep : ∀ {P : Nat} {id : Int}, ProgNode w4 P id n (bitsV (fun _ => true) n) 1 0 false → v.ownBlock ≠ some P → ProgNode w5 P id n (bitsV (fun _ => true) n) 1 0 false ∧ v'.ownBlock ≠ some P := fun {P id} q hne => by
    have hl := q.lp
    have q2 := q.keep (Turns.of_below (P := w4.heap.size) (Q := w4.heap.size) hA) (by omega) (by omega)
    have hd : P ≠ v.ownBlock.getD (w4.alloc o).heap.size := by
      cases e : v.ownBlock with
      | none => show P ≠ (w4.alloc o).heap.size; omega
      | some g => show P ≠ g; intro y; rw [e, y] at hne; exact hne rfl
    refine ⟨q2.keep hTg hd hd, ?_⟩
    rcases hat with y | y
    · rw [y]; exact hne
    · rw [y]; intro z; injection z with z; omega
  refine ⟨?_, fun j hj => ?_, ?_⟩
  · have e : (List.range (k + 1)).map (ptrV (fun j => if j = k then wr.heap.size else Pf j)) = (List.range k).map (ptrV Pf) ++ [.pointer (some ⟨wr.heap.size, 0, none⟩)] := by
      rw [List.range_succ, List.map_append]
      congr 1
      · refine List.map_congr_left fun j hj => ?_
        have := List.mem_range.1 hj
        unfold ptrV
        show Value.pointer (some ⟨(if j = k then wr.heap.size else Pf j), 0, none⟩) = _
        rw [if_neg (by omega)]
      · show [ptrV _ k] = _
        unfold ptrV
        show [Value.pointer (some ⟨(if k = k then wr.heap.size else Pf k), 0, none⟩)] = _
        rw [if_pos rfl]
    rw [e]; exact ho
  · by_cases e : j = k
    · subst e
      rw [if_pos rfl]
      obtain ⟨k1, k2⟩ := keep hp (fun y => by have := hlt _ y; omega)
      exact ⟨k1, k2, hs3⟩
    · rw [if_neg e]
      obtain ⟨q1, q2, q3⟩ := h.node j (by omega)
      have hl := q1.lp
      obtain ⟨k1, k2⟩ := keep (q1.keep (Turns.of_below (P := wr.heap.size) (Q := wr.heap.size) hb) (by omega) (by omega)) q2
      exact ⟨k1, k2, q3⟩
  · exact ((h.old.trans (hb.mono hs3)).alloc (by omega) o).grown hg (by omega) (fun g hg => (hlt g hg).1)

/-- All are made: the nodes in memory. -/
theorem Born.mem {w1 wr : World} {n : Nat} {CC : Array Value} {t : TypeId} {Pf : Nat → Nat} {v : Value} (h : Born ((w1.alloc (.cells CC t)).alloc (.cells CC t)) wr n n Pf v) (hn : 1 ≤ n) (hel : ∀ j, j < n → CC[j]? = some (.bool false)) :
    ∃ A cap, v = .slice (some ⟨A, 0, none⟩) n cap ∧ Mem wr n A w1.heap.size (w1.heap.size + 1) Pf Al.start.M Al.start.G Al.start.B Al.start.F Al.start.fl Al.start.ev := by
  obtain ⟨A, cap, hv, hA, hc⟩ := owns_some h.own hn
  refine ⟨A, cap, hv, fun j hj => (h.node j hj).1, fun j hj => ?_, fun j hj => ?_, fun j => ?_, fun j hj => ?_, fun j => ?_, by omega⟩
  · have := hc j (ptrV Pf j) (by simp [hj])
    rwa [add_at, Nat.zero_add] at this
  · rw [h.old.cell (p := ⟨w1.heap.size, j, none⟩) (by simp; omega), World.cell?_alloc_lt _ _ _ (by simp)]
    have := hel j hj
    simp [Al.start]
    simpa using this
  · rw [h.old.frozen (p := ⟨w1.heap.size, j, none⟩) (by simp; omega)]
    simp
  · rw [h.old.cell (p := ⟨w1.heap.size + 1, j, none⟩) (by simp)]
    have := hel j hj
    have e : w1.heap.size + 1 = (w1.alloc (.cells CC t)).heap.size := by simp
    rw [e]
    simp [Al.start]
    simpa using this
  · rw [h.old.frozen (p := ⟨w1.heap.size + 1, j, none⟩) (by simp)]
    have e : w1.heap.size + 1 = (w1.alloc (.cells CC t)).heap.size := by simp
    rw [e]
    simp
end Go.Proofs.Ytjppjdocncmkdab
