/- The document's answer's receiver as a thing with a block of its own: Take, whatever comes. -/
import Derived.Test.YthcnhfjhppmmdabRefTake
import Derived.Test.YthcnhfjhppmmdabFoot
namespace Go.Proofs.Ythcnhfjhppmmdab
open Go.RowKit

theorem RefRecv.keep {w w' : World} {P : Nat} {nw a b : Int} (h : RefRecv w P nw a b) (k : Same [P] w w') : RefRecv w' P nw a b :=
  have hp : P ∈ [P] := List.mem_singleton.2 rfl
  ⟨(k.cell (p := ⟨P, 0, none⟩) hp).trans h.c0, (k.cell (p := ⟨P, 1, none⟩) hp).trans h.c1, (k.cell (p := ⟨P, 2, none⟩) hp).trans h.c2, fun i => (k.frozen (p := ⟨P, i, none⟩) hp).trans (h.z i), Nat.lt_of_lt_of_le h.lp k.1⟩
theorem RefRecv.lt {w : World} {P : Nat} {nw a b : Int} (h : RefRecv w P nw a b) : ∀ c, c ∈ [P] → c < w.heap.size := fun c hc => by rw [List.mem_singleton.1 hc]; exact h.lp
theorem refTake_all {w : World} {P : Nat} {nw a b : Int} (h : RefRecv w P nw a b) (seq : Int) (hn2 : nw ≤ 255) (ha0 : 0 ≤ a) (ha : a ≤ 4611686018427387904) (hb0 : 0 ≤ b) (hb : b ≤ 4611686018427387904) :
    Calls Try.prog 26 #[.pointer (some ⟨P, 0, none⟩), .int .i64 seq] w fun e w' => e = .returned (.bool (takeB nw seq)) ∧ RefRecv w' P (tkNew (takeB nw seq) seq nw) (tkTold (takeB nw seq) a) (tkNot (takeB nw seq) b) ∧ Foot [P] [P] w w' :=
  (refTake_any h seq hn2 ha0 ha hb0 hb).mono fun _ _ ⟨he, hr, ht⟩ => ⟨he, hr, Foot.of_turns ht (List.mem_singleton.2 rfl) (List.mem_singleton.2 rfl)⟩
theorem refRcv_new {w : World} (x : Int) : RefRecv (w.alloc (.cells #[.int .i64 x, .int .i64 0, .int .i64 0] 64)) w.heap.size x 0 0 := by
  have c : ∀ (i : Nat) (u : Value), (#[.int .i64 x, .int .i64 0, .int .i64 0] : Array Value)[i]? = some u → (w.alloc (.cells #[.int .i64 x, .int .i64 0, .int .i64 0] 64)).cell? ⟨w.heap.size, i, none⟩ = some u := fun i u hi => by
    simp
    simpa using hi
  exact ⟨c 0 _ rfl, c 1 _ rfl, c 2 _ rfl, fun i => by simp, by simp⟩
end Go.Proofs.Ythcnhfjhppmmdab
