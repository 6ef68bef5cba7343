/- MemberAlike's memory: all nodes behind a row of pointers, and two rows of truths; what a call on one node, and a store into a row, leaves as it was. -/
import Derived.Test.YtjppjdocncmkdabProgHears
import Derived.Test.YtjppjdocncmkdabProgNode3
import Derived.Test.YtjppjdocncmkdabAlikeMath
namespace Go.Proofs.Ytjppjdocncmkdab
open Go.RowKit

/-- All nodes in memory. -/
structure Mem (w : World) (n A FB EB : Nat) (Pf : Nat → Nat) (M : Nat → Nat → Bool) (G B : Nat → Int) (F fl ev : Nat → Bool) : Prop where
  node : ∀ j, j < n → ProgNode w (Pf j) j n (bitsV (M j) n) (G j) (B j) (F j)
  ptr : ∀ j, j < n → w.cell? ⟨A, j, none⟩ = some (.pointer (some ⟨Pf j, 0, none⟩))
  fc : ∀ j, j < n → w.cell? ⟨FB, j, none⟩ = some (.bool (fl j))
  fz : ∀ j, w.frozen? ⟨FB, j, none⟩ = false
  ec : ∀ j, j < n → w.cell? ⟨EB, j, none⟩ = some (.bool (ev j))
  ez : ∀ j, w.frozen? ⟨EB, j, none⟩ = false
  ne : FB ≠ EB

section
variable {w w' : World} {n A FB EB : Nat} {Pf : Nat → Nat} {M M' : Nat → Nat → Bool} {G B G' B' : Nat → Int} {F fl ev F' fl' ev' : Nat → Bool}

theorem cell_lt {w : World} {b off : Nat} {v : Value} (h : w.cell? ⟨b, off, none⟩ = some v) : b < w.heap.size := by
  rcases Nat.lt_or_ge b w.heap.size with q | q
  · exact q
  · simp [World.cell?, Array.getElem?_eq_none q] at h
theorem Mem.apart (h : Mem w n A FB EB Pf M G B F fl ev) {j k : Nat} (hj : j < n) (hk : k < n) (hne : j ≠ k) : Pf j ≠ Pf k := fun e => by
  have h1 := (h.node j hj).c0
  have h2 := (h.node k hk).c0
  rw [e, h2] at h1
  injection h1 with h1
  injection h1 with _ h1
  omega
theorem Mem.offA (h : Mem w n A FB EB Pf M G B F fl ev) {j : Nat} (hj : j < n) : A ≠ Pf j := fun e => by
  have h1 := (h.node j hj).c0
  have h2 := h.ptr 0 (by omega)
  rw [e, h1] at h2
  cases h2
theorem Mem.offF (h : Mem w n A FB EB Pf M G B F fl ev) {j : Nat} (hj : j < n) : FB ≠ Pf j := fun e => by
  have h1 := (h.node j hj).c0
  have h2 := h.fc 0 (by omega)
  rw [e, h1] at h2
  cases h2
theorem Mem.offE (h : Mem w n A FB EB Pf M G B F fl ev) {j : Nat} (hj : j < n) : EB ≠ Pf j := fun e => by
  have h1 := (h.node j hj).c0
  have h2 := h.ec 0 (by omega)
  rw [e, h1] at h2
  cases h2
theorem Mem.AF (h : Mem w n A FB EB Pf M G B F fl ev) (hn : 0 < n) : A ≠ FB := fun e => by
  have h1 := h.ptr 0 hn
  have h2 := h.fc 0 hn
  rw [e, h2] at h1
  cases h1
theorem Mem.AE (h : Mem w n A FB EB Pf M G B F fl ev) (hn : 0 < n) : A ≠ EB := fun e => by
  have h1 := h.ptr 0 hn
  have h2 := h.ec 0 hn
  rw [e, h2] at h1
  cases h1
theorem Mem.drawn (h : Mem w n A FB EB Pf M G B F fl ev) (q : Nat) : Mem (w.drewN q) n A FB EB Pf M G B F fl ev := ⟨fun j hj => (h.node j hj).drawn q, h.ptr, h.fc, h.fz, h.ec, h.ez, h.ne⟩
theorem Mem.same (h : Mem w n A FB EB Pf M G B F fl ev) (hs : ∀ j, j < n → (∀ i, i < n → M' j i = M j i) ∧ G' j = G j ∧ B' j = B j ∧ F' j = F j ∧ fl' j = fl j ∧ ev' j = ev j) : Mem w n A FB EB Pf M' G' B' F' fl' ev' :=
  ⟨fun j hj => by
    obtain ⟨h1, h2, h3, h4, _, _⟩ := hs j hj
    rw [bitsV_congr h1, h2, h3, h4]; exact h.node j hj, h.ptr, fun j hj => by rw [(hs j hj).2.2.2.2.1]; exact h.fc j hj, h.fz, fun j hj => by rw [(hs j hj).2.2.2.2.2]; exact h.ec j hj, h.ez, h.ne⟩
/-- Behind a call on node k. -/
theorem Mem.call {t : Nat → Bool} {g b : Int} {f : Bool} (h : Mem w n A FB EB Pf M G B F fl ev) {k : Nat} (hk : k < n) (hp : ProgNode w' (Pf k) k n (bitsV t n) g b f) (ht : Turns (Pf k) (Pf k) w w')
    (ho : ∀ j, j < n → j ≠ k → (∀ i, i < n → M' j i = M j i) ∧ G' j = G j ∧ B' j = B j ∧ F' j = F j) (hM : ∀ i, i < n → M' k i = t i) (hG : G' k = g) (hB : B' k = b) (hF : F' k = f) : Mem w' n A FB EB Pf M' G' B' F' fl ev :=
  ⟨fun j hj => by
    by_cases e : j = k
    · subst e
      rw [bitsV_congr hM, hG, hB, hF]; exact hp
    · obtain ⟨h1, h2, h3, h4⟩ := ho j hj e
      rw [bitsV_congr h1, h2, h3, h4]
      exact (h.node j hj).keep ht (h.apart hj hk e) (h.apart hj hk e),
   fun j hj => (ht.cell (p := ⟨A, j, none⟩) (cell_lt (h.ptr j hj)) (h.offA hk) (h.offA hk)).trans (h.ptr j hj),
   fun j hj => (ht.cell (p := ⟨FB, j, none⟩) (cell_lt (h.fc j hj)) (h.offF hk) (h.offF hk)).trans (h.fc j hj),
   fun j => (ht.frozen (p := ⟨FB, j, none⟩) (cell_lt (h.fc k hk)) (h.offF hk) (h.offF hk)).trans (h.fz j),
   fun j hj => (ht.cell (p := ⟨EB, j, none⟩) (cell_lt (h.ec j hj)) (h.offE hk) (h.offE hk)).trans (h.ec j hj),
   fun j => (ht.frozen (p := ⟨EB, j, none⟩) (cell_lt (h.ec k hk)) (h.offE hk) (h.offE hk)).trans (h.ez j), h.ne⟩
/-- Where nothing of a node is turned. -/
theorem ProgNode.stay {P : Nat} {id : Int} {m g b : Int} {f : Bool} (h : ProgNode w P id n m g b f) {Q i : Nat} {v : Value} (hne : P ≠ Q) : ProgNode (w.setCell ⟨Q, i, none⟩ v) P id n m g b f :=
  h.keep ((Turns.refl Q Q w).set (p := ⟨Q, i, none⟩) (.inl rfl) v) hne hne
theorem Mem.setF (h : Mem w n A FB EB Pf M G B F fl ev) {k : Nat} (hk : k < n) (x : Bool) : Mem (w.setCell ⟨FB, k, none⟩ (.bool x)) n A FB EB Pf M G B F (fun j => if j = k then x else fl j) ev :=
  ⟨fun j hj => (h.node j hj).stay (Ne.symm (h.offF hj)), fun j hj => (cell_other (.inl (h.AF (by omega)))).trans (h.ptr j hj), fun j hj => by
    by_cases e : j = k
    · subst e; rw [if_pos rfl]; exact cell_set (h.fc j hj)
    · rw [if_neg e]; exact (cell_other (.inr e)).trans (h.fc j hj), fun j => soft_set.trans (h.fz j), fun j hj => (cell_other (.inl (Ne.symm h.ne))).trans (h.ec j hj), fun j => soft_set.trans (h.ez j), h.ne⟩
theorem Mem.setE (h : Mem w n A FB EB Pf M G B F fl ev) {k : Nat} (hk : k < n) (x : Bool) : Mem (w.setCell ⟨EB, k, none⟩ (.bool x)) n A FB EB Pf M G B F fl (fun j => if j = k then x else ev j) :=
  ⟨fun j hj => (h.node j hj).stay (Ne.symm (h.offE hj)), fun j hj => (cell_other (.inl (h.AE (by omega)))).trans (h.ptr j hj), fun j hj => (cell_other (.inl h.ne)).trans (h.fc j hj), fun j => soft_set.trans (h.fz j), fun j hj => by
    by_cases e : j = k
    · subst e; rw [if_pos rfl]; exact cell_set (h.ec j hj)
    · rw [if_neg e]; exact (cell_other (.inr e)).trans (h.ec j hj), fun j => soft_set.trans (h.ez j), h.ne⟩

/-- Behind the slot's own Sends. -/
theorem Mem.sends {s : Al} {who what : Nat} (h : Mem w n A FB EB Pf s.M s.G s.B s.F fl ev) (hw : who < n) (hp : ProgNode w' (Pf who) who n (bitsV (s.M who) n) (if sendsB (s.G who) (s.B who) (s.F who) = true then 1 else s.G who) (if sendsB (s.G who) (s.B who) (s.F who) = true then 0 else s.B who) (!sendsB (s.G who) (s.B who) (s.F who))) (ht : Turns (Pf who) (Pf who) w w') :
    Mem w' n A FB EB Pf (s.midM n who what 0) (s.midG n who what 0) (s.midB n who what 0) (s.midF n who what 0) fl ev := by
  have ok : sendsB (s.G who) (s.B who) (s.F who) = s.ok who := rfl
  rw [ok] at hp
  refine h.call hw hp ht (fun j _ hne => ?_) (fun i _ => ?_) ?_ ?_ ?_
  · unfold Al.midM Al.midG Al.midB Al.midF
    rw [if_neg (by omega), if_neg (by omega), if_neg (by omega), if_neg (by omega)]
    exact ⟨fun _ _ => rfl, rfl, rfl, rfl⟩
  · unfold Al.midM; rw [if_pos (.inr rfl)]; simp only [Al.slot, true_or, if_true]
  · unfold Al.midG; rw [if_pos (.inr rfl)]; simp only [Al.slot, if_true]
  · unfold Al.midB; rw [if_pos (.inr rfl)]; simp only [Al.slot, if_true]
  · unfold Al.midF; rw [if_pos (.inr rfl)]; simp only [Al.slot, if_true]
/-- Behind one more that has heard. -/
theorem Mem.hears {s : Al} {who what kk : Nat} (h : Mem w n A FB EB Pf (s.midM n who what kk) (s.midG n who what kk) (s.midB n who what kk) (s.midF n who what kk) fl ev) (hw : who < n) (hk : kk < n) (hne : kk ≠ who)
    (hp : ProgNode w' (Pf kk) kk n (bitsV (heT kk n (s.F kk) who (s.xV n who what kk) (s.M kk)) n) (heG kk n (s.F kk) who (s.xV n who what kk) (s.G kk)) (heB kk n (s.F kk) who (s.xV n who what kk) (s.B kk)) (s.F kk)) (ht : Turns (Pf kk) (Pf kk) w w') :
    Mem w' n A FB EB Pf (s.midM n who what (kk + 1)) (s.midG n who what (kk + 1)) (s.midB n who what (kk + 1)) (s.midF n who what (kk + 1)) fl ev := by
  refine h.call hk hp ht (fun j _ hn => ?_) (fun i _ => ?_) ?_ ?_ ?_
  · unfold Al.midM Al.midG Al.midB Al.midF
    have e : (j < kk + 1 ∨ j = who) ↔ (j < kk ∨ j = who) := by omega
    simp only [e]
    exact ⟨fun _ _ => trivial, trivial, trivial, trivial⟩
  · unfold Al.midM; rw [if_pos (.inl (Nat.lt_succ_self _))]; exact s.slot_M hw hne i
  · unfold Al.midG; rw [if_pos (.inl (Nat.lt_succ_self _))]; exact s.slot_G hw hne
  · unfold Al.midB; rw [if_pos (.inl (Nat.lt_succ_self _))]; exact s.slot_B hw hne
  · unfold Al.midF; rw [if_pos (.inl (Nat.lt_succ_self _))]; exact s.slot_F hne
/-- Past the one whose slot it is. -/
theorem Mem.pass {s : Al} {who what kk : Nat} (h : Mem w n A FB EB Pf (s.midM n who what kk) (s.midG n who what kk) (s.midB n who what kk) (s.midF n who what kk) fl ev) (e : kk = who) :
    Mem w n A FB EB Pf (s.midM n who what (kk + 1)) (s.midG n who what (kk + 1)) (s.midB n who what (kk + 1)) (s.midF n who what (kk + 1)) fl ev :=
  h.same fun j _ => by
    unfold Al.midM Al.midG Al.midB Al.midF
    have e : (j < kk + 1 ∨ j = who) ↔ (j < kk ∨ j = who) := by omega
    simp only [e]
    exact ⟨fun _ _ => trivial, trivial, trivial, trivial, trivial, trivial⟩
/-- A node that has not heard yet. -/
theorem Mem.still {s : Al} {who what kk : Nat} (h : Mem w n A FB EB Pf (s.midM n who what kk) (s.midG n who what kk) (s.midB n who what kk) (s.midF n who what kk) fl ev) (hk : kk < n) (hne : kk ≠ who) : ProgNode w (Pf kk) kk n (bitsV (s.M kk) n) (s.G kk) (s.B kk) (s.F kk) := by
  have := h.node kk hk
  unfold Al.midM Al.midG Al.midB Al.midF at this
  rw [if_neg (by omega), if_neg (by omega), if_neg (by omega), if_neg (by omega)] at this
  exact this
/-- All have heard. -/
theorem Mem.whole {s : Al} {who what : Nat} (h : Mem w n A FB EB Pf (s.midM n who what n) (s.midG n who what n) (s.midB n who what n) (s.midF n who what n) fl ev) : Mem w n A FB EB Pf (s.slot n who what).M (s.slot n who what).G (s.slot n who what).B (s.slot n who what).F fl ev :=
  h.same fun j hj => by
    unfold Al.midM Al.midG Al.midB Al.midF
    rw [if_pos (.inl hj), if_pos (.inl hj), if_pos (.inl hj), if_pos (.inl hj)]
    exact ⟨fun _ _ => rfl, rfl, rfl, rfl, rfl, rfl⟩
end
end Go.Proofs.Ytjppjdocncmkdab
