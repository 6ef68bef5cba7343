/- The document's answer's sender as a thing with blocks of its own: Put and Send, whatever they are asked. -/
import Derived.Test.YthcnhfjhppmmdabDoorRefSend7
import Derived.Test.YthcnhfjhppmmdabDoorFoot
namespace Go.Proofs.YthcnhfjhppmmdabDoor
open Go.RowKit

/-- The document's answer's sender: its blocks O, its struct at P. -/
def RefSdr (w : World) (O : List Nat) (P : Nat) (bag queue : Int) (all : List ByteArray) (went : Nat) (last now : Int) : Prop :=
  ∃ v, RefSendr w (P + 1) P bag queue all v went last now ∧ O = P :: v.ownBlock.toList

theorem RefSdr.mem {w : World} {O : List Nat} {P : Nat} {bag queue : Int} {all : List ByteArray} {went : Nat} {last now : Int} (h : RefSdr w O P bag queue all went last now) : P ∈ O := by
  obtain ⟨v, _, rfl⟩ := h
  exact List.mem_cons.2 (.inl rfl)
theorem RefSdr.lt {w : World} {O : List Nat} {P : Nat} {bag queue : Int} {all : List ByteArray} {went : Nat} {last now : Int} (h : RefSdr w O P bag queue all went last now) : ∀ c, c ∈ O → c < w.heap.size := by
  obtain ⟨v, h, rfl⟩ := h
  intro c hc
  rcases List.mem_cons.1 hc with y | y
  · have := h.lp; have := h.lb; omega
  · exact (h.own.lt c (by simpa using y)).2
theorem RefSdr.keep {w w' : World} {O : List Nat} {P : Nat} {bag queue : Int} {all : List ByteArray} {went : Nat} {last now : Int} (h : RefSdr w O P bag queue all went last now) (k : Same O w w') : RefSdr w' O P bag queue all went last now := by
  obtain ⟨v, h, rfl⟩ := h
  have hp : P ∈ P :: v.ownBlock.toList := List.mem_cons.2 (.inl rfl)
  exact ⟨v, ⟨(k.cell (p := ⟨P, 0, none⟩) hp).trans h.c0, (k.cell (p := ⟨P, 1, none⟩) hp).trans h.c1, (k.cell (p := ⟨P, 2, none⟩) hp).trans h.c2, (k.cell (p := ⟨P, 3, none⟩) hp).trans h.c3, (k.cell (p := ⟨P, 4, none⟩) hp).trans h.c4, (k.cell (p := ⟨P, 5, none⟩) hp).trans h.c5, fun i => (k.frozen (p := ⟨P, i, none⟩) hp).trans (h.z i), owns_same h.own k (fun g hg => List.mem_cons.2 (.inr (by simpa using hg))), h.lp, Nat.le_trans h.lb k.1, h.we⟩, rfl⟩
theorem RefSdr.went_le {w : World} {O : List Nat} {P : Nat} {bag queue : Int} {all : List ByteArray} {went : Nat} {last now : Int} (h : RefSdr w O P bag queue all went last now) : went ≤ all.length := by
  obtain ⟨v, h, _⟩ := h; exact h.we

theorem RefSdr.reads {w : World} {O : List Nat} {P : Nat} {bag queue : Int} {all : List ByteArray} {went : Nat} {last now : Int} (h : RefSdr w O P bag queue all went last now) : ∃ a cap, w.cell? ⟨P, 2, none⟩ = some (.slice a all.length cap) ∧ w.cell? ⟨P, 3, none⟩ = some (.int .i64 went) := by
  obtain ⟨v, h, _⟩ := h
  obtain ⟨a, cap, rfl⟩ := owns_form h.own
  exact ⟨a, cap, h.c2, h.c3⟩

theorem refPut_all {w : World} {O : List Nat} {P : Nat} {bag queue : Int} {all : List ByteArray} {went : Nat} {last now : Int} (h : RefSdr w O P bag queue all went last now) (d : ByteArray) (ha : all.length ≤ 1000000) :
    Calls Tryd.prog 40 #[.pointer (some ⟨P, 0, none⟩), .string d] w fun e w' => e = .returned (.int .i64 (putK (all.length - went) queue d)) ∧ ∃ O', RefSdr w' O' P bag queue (putAll (putK (all.length - went) queue d) all d) went last now ∧ Foot O O' w w' := by
  have hw := h.went_le
  obtain ⟨v, h, rfl⟩ := h
  unfold putAll putK
  by_cases h1 : 40 < d.size
  · simp only [if_pos h1]
    refine (refPut_limit h d h1).mono ?_
    rintro e w' ⟨rfl, rfl⟩
    exact ⟨rfl, _, ⟨v, h, rfl⟩, Foot.refl _ _⟩
  · simp only [if_neg h1]
    by_cases h2 : queue ≤ ((all.length - went : Nat) : Int)
    · simp only [if_pos h2]
      refine (refPut_full h d (by omega) (by omega) ha).mono ?_
      rintro e w' ⟨rfl, q, rfl⟩
      exact ⟨rfl, _, ⟨v, h.drawn q, rfl⟩, Foot.drawn _ _ _⟩
    · simp only [if_neg h2]
      refine (refPut_ok h d (by omega) (by omega) ha).mono ?_
      rintro e w' ⟨rfl, v', h', ht, hat⟩
      refine ⟨rfl, _, ⟨v', h', rfl⟩, ?_⟩
      refine ⟨ht.os, ht.tape, ht.output, ht.size, fun c hc hn => ?_, fun c hc => ?_⟩
      · have hP : c ≠ P := fun y => hn (List.mem_cons.2 (.inl y))
        refine ht.block c hc hP ?_
        cases e : v.ownBlock with
        | none => exact hP
        | some g =>
          intro y
          refine hn (List.mem_cons.2 (.inr ?_))
          rw [e, y]
          exact List.mem_singleton.2 rfl
      · rcases List.mem_cons.1 hc with y | y
        · exact .inl (List.mem_cons.2 (.inl y))
        · rcases hat with z | ⟨g, hg, z⟩
          · rw [z] at y; exact .inl (List.mem_cons.2 (.inr y))
          · rw [z] at y
            have : c = g := by simpa using y
            exact .inr (by omega)

theorem refSend_all {w : World} {O : List Nat} {P : Nat} {bag queue : Int} {all : List ByteArray} {went : Nat} {last now : Int} (h : RefSdr w O P bag queue all went last now) (t : Int) (ha : all.length ≤ 1000000) (hl0 : 0 ≤ last) (hl : last ≤ 1099511627776) (hb0 : 0 ≤ bag) (hb : bag ≤ 1099511627776) :
    Calls Tryd.prog 41 #[.pointer (some ⟨P, 0, none⟩), .int .i64 t] w fun e w' => e = .returned (.tuple #[.int .i64 (sendSeq (sendK all.length went t now last bag) went), .string (sendDat (sendK all.length went t now last bag) all went), .int .i64 (sendK all.length went t now last bag)]) ∧
      RefSdr w' O P bag queue all (sendWent (sendK all.length went t now last bag) went) (sendLast (sendK all.length went t now last bag) t last) (sendNow (sendK all.length went t now last bag) t now) ∧ Foot O O w w' := by
  obtain ⟨v, h, rfl⟩ := h
  have hP : P ∈ P :: v.ownBlock.toList := List.mem_cons.2 (.inl rfl)
  unfold sendSeq sendDat sendWent sendLast sendNow sendK
  by_cases h1 : 0 ≤ t ∧ t ≤ 1099511627776
  · simp only [h1]
    by_cases h2 : t < now
    · simp only [if_pos h2]
      refine (refSend_order h t h1 h2).mono ?_
      rintro e w' ⟨rfl, rfl⟩
      exact ⟨rfl, ⟨v, h, rfl⟩, Foot.refl _ _⟩
    · simp only [if_neg h2]
      by_cases h3 : noneB all.length went t last bag = true
      · simp only [if_pos h3]
        refine (refSend_none h t h1 (by omega) h3 hl0 hl hb0 hb).mono ?_
        rintro e w' ⟨rfl, h', ht⟩
        exact ⟨rfl, ⟨v, h', rfl⟩, Foot.of_turns ht hP hP⟩
      · have h3' : noneB all.length went t last bag = false := by simpa using h3
        simp only [h3', Bool.false_eq_true, if_false]
        refine (refSend_ok h t h1 (by omega) h3' ha hl0 hl hb0 hb).mono ?_
        rintro e w' ⟨rfl, h', ht⟩
        exact ⟨rfl, ⟨v, h', rfl⟩, Foot.of_turns ht hP hP⟩
  · simp only [h1, not_false_eq_true, if_true]
    refine (refSend_range h t h1).mono ?_
    rintro e w' ⟨rfl, rfl⟩
    exact ⟨rfl, ⟨v, h, rfl⟩, Foot.refl _ _⟩

/-- A new one. -/
theorem refSdr_new {w : World} {bag queue : Int} : RefSdr (w.alloc (.cells #[.int .i64 bag, .int .i64 queue, .slice none 0 0, .int .i64 0, .int .i64 0, .int .i64 0] 96)) [w.heap.size] w.heap.size bag queue [] 0 0 0 := by
  have c : ∀ (i : Nat) (u : Value), (#[.int .i64 bag, .int .i64 queue, .slice none 0 0, .int .i64 0, .int .i64 0, .int .i64 0] : Array Value)[i]? = some u → (w.alloc (.cells #[.int .i64 bag, .int .i64 queue, .slice none 0 0, .int .i64 0, .int .i64 0, .int .i64 0] 96)).cell? ⟨w.heap.size, i, none⟩ = some u := fun i u hi => by
    simp
    simpa using hi
  exact ⟨.slice none 0 0, ⟨c 0 _ rfl, c 1 _ rfl, c 2 _ rfl, c 3 _ rfl, c 4 _ rfl, c 5 _ rfl, fun i => by simp, World.ownsRow_nil _ _ _ _, by omega, by simp, Nat.le_refl _⟩, rfl⟩
end Go.Proofs.YthcnhfjhppmmdabDoor
