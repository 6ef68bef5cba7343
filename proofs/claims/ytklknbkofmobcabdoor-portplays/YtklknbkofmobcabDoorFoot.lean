/- What a call on a thing may turn: its own blocks, and new memory (plain; for any thing behind a pointer). -/
import Derived.Test.YtklknbkofmobcabDoorMemberWords
import Derived.Deep.QuietTactic
namespace Go.Proofs.YtklknbkofmobcabDoor
open Go.RowKit

/-- Nothing but the blocks of O is turned; new memory may be made; behind it the blocks are O'. -/
structure Foot (O O' : List Nat) (w w' : World) : Prop where
  os : w'.os = w.os
  tape : w'.tape = w.tape
  output : w'.output = w.output
  size : w.heap.size ≤ w'.heap.size
  block : ∀ c, c < w.heap.size → c ∉ O → w'.heap[c]? = w.heap[c]?
  fresh : ∀ c, c ∈ O' → c ∈ O ∨ w.heap.size ≤ c
theorem Foot.refl (O : List Nat) (w : World) : Foot O O w w := ⟨rfl, rfl, rfl, Nat.le_refl _, fun _ _ _ => rfl, fun _ h => .inl h⟩
theorem Foot.trans {O O' O'' : List Nat} {a b c : World} (h : Foot O O' a b) (k : Foot O' O'' b c) : Foot O O'' a c :=
  ⟨k.os.trans h.os, k.tape.trans h.tape, k.output.trans h.output, Nat.le_trans h.size k.size, fun i hi hn => (k.block i (Nat.lt_of_lt_of_le hi h.size) (fun y => (h.fresh i y).elim hn (fun z => absurd hi (by omega)))).trans (h.block i hi hn), fun i hi => by
    rcases k.fresh i hi with z | z
    · exact h.fresh i z
    · exact .inr (Nat.le_trans h.size z)⟩
theorem Foot.of_below {O : List Nat} {w w' : World} (h : Below w.heap.size w w') : Foot O O w w' := ⟨h.os, h.tape, h.output, h.size, fun c hc _ => h.block c hc, fun _ h => .inl h⟩
theorem Foot.of_turns {O : List Nat} {P Q : Nat} {w w' : World} (h : Turns P Q w w') (hp : P ∈ O) (hq : Q ∈ O) : Foot O O w w' :=
  ⟨h.os, h.tape, h.output, h.size, fun c hc hn => h.block c hc (fun e => hn (e ▸ hp)) (fun e => hn (e ▸ hq)), fun _ h => .inl h⟩
theorem Foot.drawn (O : List Nat) (w : World) (q : Nat) : Foot O O w (w.drewN q) := ⟨rfl, rfl, rfl, Nat.le_refl _, fun _ _ _ => rfl, fun _ h => .inl h⟩
/-- A larger footprint serves as well. -/
theorem Foot.more {O O' : List Nat} {w w' : World} (h : Foot O O' w w') (X : List Nat) : Foot (O ++ X) (O' ++ X) w w' :=
  ⟨h.os, h.tape, h.output, h.size, fun c hc hn => h.block c hc (fun y => hn (List.mem_append.2 (.inl y))), fun c hc => by
    rcases List.mem_append.1 hc with z | z
    · rcases h.fresh c z with y | y
      · exact .inl (List.mem_append.2 (.inl y))
      · exact .inr y
    · exact .inl (List.mem_append.2 (.inr z))⟩
theorem Foot.under {O O' : List Nat} {w w' : World} (h : Foot O O' w w') (P : Nat) : Foot (P :: O) (P :: O') w w' :=
  ⟨h.os, h.tape, h.output, h.size, fun c hc hn => h.block c hc (fun y => hn (List.mem_cons.2 (.inr y))), fun c hc => by
    rcases List.mem_cons.1 hc with z | z
    · exact .inl (List.mem_cons.2 (.inl z))
    · rcases h.fresh c z with y | y
      · exact .inl (List.mem_cons.2 (.inr y))
      · exact .inr y⟩
theorem Foot.below {O O' : List Nat} {w w' : World} {B : Nat} (h : Foot O O' w w') (hO : ∀ c, c ∈ O → B ≤ c) (hB : B ≤ w.heap.size) : Below B w w' := ⟨h.os, h.tape, h.output, h.size, fun c hc => h.block c (by omega) (fun y => by have := hO c y; omega)⟩
theorem Foot.above {O O' : List Nat} {w w' : World} {B : Nat} (h : Foot O O' w w') (hO : ∀ c, c ∈ O → B ≤ c) (hB : B ≤ w.heap.size) : ∀ c, c ∈ O' → B ≤ c := fun c hc => by
  rcases h.fresh c hc with y | y
  · exact hO c y
  · omega
theorem Foot.cell {O O' : List Nat} {w w' : World} (h : Foot O O' w w') {p : Addr} (hp : p.block < w.heap.size) (hn : p.block ∉ O) : w'.cell? p = w.cell? p := World.cell?_of_block (w := w) (h.block p.block hp hn)
theorem Foot.frozen {O O' : List Nat} {w w' : World} (h : Foot O O' w w') {p : Addr} (hp : p.block < w.heap.size) (hn : p.block ∉ O) : w'.frozen? p = w.frozen? p := World.frozen?_of_block (w := w) (h.block p.block hp hn)

/-- Two things that share no block. -/
def Apart (O X : List Nat) : Prop := ∀ c, c ∈ O → c ∉ X
theorem Apart.symm {O X : List Nat} (h : Apart O X) : Apart X O := fun c hc hn => h c hn hc
theorem Foot.apart {O O' X : List Nat} {w w' : World} (h : Foot O O' w w') (ha : Apart O X) (hX : ∀ c, c ∈ X → c < w.heap.size) : Apart O' X := fun c hc hx => by
  rcases h.fresh c hc with y | y
  · exact ha c y hx
  · have := hX c hx; omega
/-- What lies in the blocks X is as it was. -/
def Same (X : List Nat) (w w' : World) : Prop := w.heap.size ≤ w'.heap.size ∧ ∀ c, c ∈ X → w'.heap[c]? = w.heap[c]?
theorem Foot.same {O O' X : List Nat} {w w' : World} (h : Foot O O' w w') (ha : Apart O X) (hX : ∀ c, c ∈ X → c < w.heap.size) : Same X w w' := ⟨h.size, fun c hc => h.block c (hX c hc) (fun y => ha c y hc)⟩
theorem Same.of_below {X : List Nat} {w w' : World} (h : Below w.heap.size w w') (hX : ∀ c, c ∈ X → c < w.heap.size) : Same X w w' := ⟨h.size, fun c hc => h.block c (hX c hc)⟩
theorem Same.cell {X : List Nat} {w w' : World} (h : Same X w w') {p : Addr} (hp : p.block ∈ X) : w'.cell? p = w.cell? p := World.cell?_of_block (w := w) (h.2 p.block hp)
theorem Same.frozen {X : List Nat} {w w' : World} (h : Same X w w') {p : Addr} (hp : p.block ∈ X) : w'.frozen? p = w.frozen? p := World.frozen?_of_block (w := w) (h.2 p.block hp)
theorem Same.part {X Y : List Nat} {w w' : World} (h : Same X w w') (hs : ∀ c, c ∈ Y → c ∈ X) : Same Y w w' := ⟨h.1, fun c hc => h.2 c (hs c hc)⟩
theorem owns_same {X : List Nat} {w w' : World} {base : Nat} {e : TypeId} {size : Nat} {v : Value} {n : Nat} {xs : List Value} (h : w.ownsRow base e size v n xs) (hs : Same X w w') (hv : ∀ g, v.ownBlock = some g → g ∈ X) : w'.ownsRow base e size v n xs := by
  obtain ⟨h1, h2⟩ := h
  refine ⟨h1, ?_⟩
  rcases h2 with h2 | ⟨g, cap, cur, rfl, hg, hh, r⟩
  · exact .inl h2
  · refine .inr ⟨g, cap, cur, rfl, hg, ?_, r⟩
    rw [hs.2 g (hv g rfl)]; exact hh
end Go.Proofs.YtklknbkofmobcabDoor
