/- What a call on a node behind a pointer may turn: two blocks, and new memory; members as bits, and as a number (ahead of stage 6). -/
import Derived.Below
import Derived.WalkKit
namespace Go.Proofs.YtklknbkofmobcabDoor
open Go.RowKit

/-- Nothing but the blocks P and Q is turned; new memory may be made. -/
structure Turns (P Q : Nat) (w w' : World) : Prop where
  os : w'.os = w.os
  tape : w'.tape = w.tape
  output : w'.output = w.output
  size : w.heap.size ≤ w'.heap.size
  block : ∀ c, c < w.heap.size → c ≠ P → c ≠ Q → w'.heap[c]? = w.heap[c]?
theorem Turns.refl (P Q : Nat) (w : World) : Turns P Q w w := ⟨rfl, rfl, rfl, Nat.le_refl _, fun _ _ _ _ => rfl⟩
theorem Turns.trans {P Q : Nat} {a b c : World} (h : Turns P Q a b) (k : Turns P Q b c) : Turns P Q a c :=
  ⟨k.os.trans h.os, k.tape.trans h.tape, k.output.trans h.output, Nat.le_trans h.size k.size, fun i hi h1 h2 => (k.block i (Nat.lt_of_lt_of_le hi h.size) h1 h2).trans (h.block i hi h1 h2)⟩
theorem Turns.of_below {P Q : Nat} {w w' : World} (h : Below w.heap.size w w') : Turns P Q w w' := ⟨h.os, h.tape, h.output, h.size, fun c hc _ _ => h.block c hc⟩
theorem Turns.set {P Q : Nat} {a w : World} (h : Turns P Q a w) {p : Addr} (hp : p.block = P ∨ p.block = Q) (u : Value) : Turns P Q a (w.setCell p u) :=
  h.trans ⟨rfl, rfl, rfl, by simp [World.setCell], fun c _ h1 h2 => Below.heap_setCell _ _ _ _ (by rcases hp with e | e <;> rw [e] <;> omega)⟩
theorem Turns.below {P Q B : Nat} {w w' : World} (h : Turns P Q w w') (hB : B ≤ w.heap.size) (hP : B ≤ P) (hQ : B ≤ Q) : Below B w w' := ⟨h.os, h.tape, h.output, h.size, fun c hc => h.block c (by omega) (by omega) (by omega)⟩
theorem Turns.cell {P Q : Nat} {w w' : World} (h : Turns P Q w w') {p : Addr} (hp : p.block < w.heap.size) (h1 : p.block ≠ P) (h2 : p.block ≠ Q) : w'.cell? p = w.cell? p := World.cell?_of_block (w := w) (h.block p.block hp h1 h2)
theorem Turns.frozen {P Q : Nat} {w w' : World} (h : Turns P Q w w') {p : Addr} (hp : p.block < w.heap.size) (h1 : p.block ≠ P) (h2 : p.block ≠ Q) : w'.frozen? p = w.frozen? p := World.frozen?_of_block (w := w) (h.block p.block hp h1 h2)

/-- Members as a number. -/
def bitsV (t : Nat → Bool) : Nat → Int
  | 0 => 0
  | k + 1 => bitsV t k + (if t k = true then 2 ^ k else 0)
theorem pow_pos (k : Nat) : (0 : Int) < 2 ^ k := Int.pow_pos (by decide)
theorem bitsV_in (t : Nat → Bool) : ∀ k, 0 ≤ bitsV t k ∧ bitsV t k < 2 ^ k
  | 0 => ⟨Int.le_refl _, (by show (0 : Int) < 1; decide)⟩
  | k + 1 => by
    have h := bitsV_in t k
    have p := pow_pos k
    have e : (2 : Int) ^ (k + 1) = 2 ^ k * 2 := Int.pow_succ 2 k
    simp only [bitsV]
    split <;> omega
theorem pow_le {k n : Nat} (h : k ≤ n) : (2 : Int) ^ k ≤ 2 ^ n := by
  induction n with
  | zero => obtain rfl : k = 0 := by omega
            exact Int.le_refl _
  | succ n ih =>
    rcases Nat.lt_or_ge k (n + 1) with q | q
    · have := ih (by omega)
      have p := pow_pos n
      have e : (2 : Int) ^ (n + 1) = 2 ^ n * 2 := Int.pow_succ 2 n
      omega
    · obtain rfl : k = n + 1 := by omega
      exact Int.le_refl _
end Go.Proofs.YtklknbkofmobcabDoor
