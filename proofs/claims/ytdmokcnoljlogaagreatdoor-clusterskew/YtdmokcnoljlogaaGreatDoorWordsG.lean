/- The program's cluster: what a new link is made of, while it is made (10.1). -/
import Derived.Test.YtdmokcnoljlogaaGreatDoorPCluM
import Derived.Test.YtdmokcnoljlogaaGreatDoorWordsA
import Derived.Laws.MakeOwn
import Derived.Test.YtdmokcnoljlogaaGreatDoorWordsB
import Derived.Test.YtdmokcnoljlogaaGreatDoorWordsC
namespace Go.Proofs.YtdmokcnoljlogaaGreatDoor
open Go.RowKit

abbrev iX : CIx := (5, 0, 0)
def upd (f : Nat → Nat) (j v : Nat) : Nat → Nat := fun i => if i = j then v else f i
theorem upd_at (f : Nat → Nat) (j v : Nat) : upd f j v j = v := if_pos rfl
theorem upd_not (f : Nat → Nat) {i j : Nat} (v : Nat) (h : i ≠ j) : upd f j v i = f i := if_neg h

/-- A new link, the k-th: its blocks N from b0 on; J of n nodes are gone through. -/
structure LinkNew (b0 : Nat) (w : World) (N : CIx → List Nat) (k n J : Nat) (tq bag queue : Int) (S E : Nat) (D R Q : Nat → Nat) : Prop where
  fam : Fam w N
  lo : ∀ i c, c ∈ N i → b0 ≤ c
  only : ∀ i, N i ≠ [] → i = iX ∨ i = iS k ∨ ∃ j, j < J ∧ (i = iR k j ∨ i = iQ k j)
  sdr : Sdr w (N (iS k)) S bag queue [] 0 0 0
  eX : E ∈ N iX
  zE : ∀ i, w.frozen? ⟨E, i, none⟩ = false
  en : ∀ j, j < n → w.cell? ⟨E, j, none⟩ = some (.pointer (if j < J ∧ bitI tq j = true then some ⟨D j, 0, none⟩ else none))
  dn : ∀ j, j < J → bitI tq j = true → (D j ∈ N iX ∧ D j ≠ E ∧ w.cell? ⟨D j, 0, none⟩ = some (.pointer (some ⟨R j, 0, none⟩)) ∧ w.cell? ⟨D j, 1, none⟩ = some (.pointer (some ⟨Q j, 0, none⟩))) ∧ Rcv w (N (iR k j)) (R j) (-1) 0 0 ∧ Que w (N (iQ k j)) (Q j) 16 [] 0

section
variable {b0 : Nat} {w : World} {N : CIx → List Nat} {k n J : Nat} {tq bag queue : Int} {S E : Nat} {D R Q : Nat → Nat}
theorem LinkNew.skip (h : LinkNew b0 w N k n J tq bag queue S E D R Q) (hb : bitI tq J = false) : LinkNew b0 w N k n (J + 1) tq bag queue S E D R Q := by
  refine ⟨h.fam, h.lo, fun i hi => ?_, h.sdr, h.eX, h.zE, fun j hj => ?_, fun j hj hbj => ?_⟩
  · rcases h.only i hi with y | y | ⟨j, y, z⟩
    · exact .inl y
    · exact .inr (.inl y)
    · exact .inr (.inr ⟨j, by omega, z⟩)
  · rw [h.en j hj]
    by_cases e : j = J
    · subst e
      rw [if_neg (fun y => by have := y.1; omega), if_neg (fun y => by rw [hb] at y; cases y.2)]
    · have : (j < J ∧ bitI tq j = true) ↔ (j < J + 1 ∧ bitI tq j = true) := ⟨fun y => ⟨by have := y.1; omega, y.2⟩, fun y => ⟨by have := y.1; omega, y.2⟩⟩
      simp only [this]
  · by_cases e : j = J
    · subst e; rw [hb] at hbj; cases hbj
    · exact h.dn j (by omega) hbj

theorem LinkNew.empty (h : LinkNew b0 w N k n J tq bag queue S E D R Q) {j : Nat} (hj : J ≤ j) : N (iR k j) = [] ∧ N (iQ k j) = [] := by
  constructor
  · by_cases e : N (iR k j) = []
    · exact e
    · rcases h.only _ e with y | y | ⟨j', y, z | z⟩
      · simp at y
      · simp at y
      · simp at z; omega
      · simp at z
  · by_cases e : N (iQ k j) = []
    · exact e
    · rcases h.only _ e with y | y | ⟨j', y, z | z⟩
      · simp at y
      · simp at y
      · simp at z
      · simp at z; omega

theorem LinkNew.step (h : LinkNew b0 w N k n J tq bag queue S E D R Q) (hb : bitI tq J = true) (hb0 : b0 ≤ w.heap.size) {w1 w2 w3 w4 V0 : World} {OQ OR : List Nat} {PQ PR : Nat} {t : TypeId} (hV : Below b0 V0 w) (k1 : Below w.heap.size w w1) (hq : Que w1 OQ PQ 16 [] 0) (lq : ∀ c, c ∈ OQ → w.heap.size ≤ c) (k2 : Below w1.heap.size w1 w2) (hr : Rcv w2 OR PR (-1) 0 0) (lr : ∀ c, c ∈ OR → w1.heap.size ≤ c) (hw3 : w2.alloc (.cells #[.pointer (some ⟨PR, 0, none⟩), .pointer (some ⟨PQ, 0, none⟩)] t) = w3) (hw4 : w3.setCell ⟨E, J, none⟩ (.pointer (some ⟨w2.heap.size, 0, none⟩)) = w4) :
    (∃ N', LinkNew b0 w4 N' k n (J + 1) tq bag queue S E (upd D J w2.heap.size) (upd R J PR) (upd Q J PQ)) ∧ Below b0 V0 w4 := by
  have hE := h.fam.lt _ _ h.eX
  have hE0 := h.lo _ _ h.eX
  have s1 := k1.size
  have s2 := k2.size
  have k3 : Below w2.heap.size w2 w3 := by rw [← hw3]; exact (Below.refl _ _).alloc (Nat.le_refl _) _
  have s3 : w3.heap.size = w2.heap.size + 1 := by rw [← hw3]; simp
  have s4 : w4.heap.size = w3.heap.size := by rw [← hw4]; simp
  have d0 : w3.cell? ⟨w2.heap.size, 0, none⟩ = some (.pointer (some ⟨PR, 0, none⟩)) := by rw [← hw3]; simp
  have d1 : w3.cell? ⟨w2.heap.size, 1, none⟩ = some (.pointer (some ⟨PQ, 0, none⟩)) := by rw [← hw3]; simp
  have b4 : ∀ c, c ≠ E → w4.heap[c]? = w3.heap[c]? := fun c hc => by rw [← hw4]; exact Below.heap_setCell _ _ _ _ hc
  have t3 : Below w.heap.size w w3 := k1.trans ((k2.mono s1).trans (k3.mono (by omega)))
  have keep : ∀ c, c < w.heap.size → c ≠ E → w4.heap[c]? = w.heap[c]? := fun c hc hn => (b4 c hn).trans (t3.block c hc)
  have hsame : ∀ i, i ≠ iX → Same (N i) w w4 := fun i hi => ⟨by omega, fun c hc => keep c (h.fam.lt i c hc) (fun e => h.fam.ap iX i (Ne.symm hi) E h.eX (e ▸ hc))⟩
  have sQ : Same OQ w1 w4 := ⟨by omega, fun c hc => by
    have g1 := lq c hc
    have g2 := hq.lt c hc
    rw [b4 c (by omega), k3.block c (by omega), k2.block c g2]⟩
  have sR : Same OR w2 w4 := ⟨by omega, fun c hc => by
    have g1 := lr c hc
    have g2 := hr.lt c hc
    rw [b4 c (by omega), k3.block c g2]⟩
  obtain ⟨e1, e2⟩ := h.empty (Nat.le_refl J)
  have F1 : Fam w1 (setO N (iQ k J) OQ) := h.fam.add k1 e2 (fun c hc => ⟨lq c hc, hq.lt c hc⟩)
  have F2 : Fam w2 (setO (setO N (iQ k J) OQ) (iR k J) OR) := F1.add k2 (by rw [setO_not _ _ (by simp)]; exact e1) (fun c hc => ⟨lr c hc, hr.lt c hc⟩)
  have eXX : setO (setO N (iQ k J) OQ) (iR k J) OR iX = N iX := by rw [setO_not _ _ (by simp), setO_not _ _ (by simp)]
  have F3 : Fam w4 (setO (setO (setO N (iQ k J) OQ) (iR k J) OR) iX (w2.heap.size :: N iX)) := by
    refine F2.step (i := iX) ?_ (fun c hc => ?_)
    · rw [eXX]
      have z4 : Below 0 w2 w4 := by rw [← hw4]; exact (k3.mono (Nat.zero_le _)).setCell (Nat.zero_le _) _
      refine ⟨z4.os, z4.tape, z4.output, by omega, fun c hc hn => (b4 c (fun e => hn (e ▸ h.eX))).trans (k3.block c hc), fun c hc => ?_⟩
      · rcases List.mem_cons.1 hc with y | y
        · exact .inr (by omega)
        · exact .inl y
    · rcases List.mem_cons.1 hc with y | y
      · omega
      · have := h.fam.lt _ _ y; omega
  obtain ⟨N', hN'⟩ : ∃ N', setO (setO (setO N (iQ k J) OQ) (iR k J) OR) iX (w2.heap.size :: N iX) = N' := ⟨_, rfl⟩
  have nX : N' iX = w2.heap.size :: N iX := by rw [← hN']; exact setO_at _ _ _
  have nR : N' (iR k J) = OR := by rw [← hN', setO_not _ _ (by simp)]; exact setO_at _ _ _
  have nQ : N' (iQ k J) = OQ := by rw [← hN', setO_not _ _ (by simp), setO_not _ _ (by simp)]; exact setO_at _ _ _
  have nO : ∀ i, i ≠ iX → i ≠ iR k J → i ≠ iQ k J → N' i = N i := fun i h1 h2 h3 => by rw [← hN', setO_not _ _ h1, setO_not _ _ h2, setO_not _ _ h3]
  rw [hN'] at F3
  clear hN' F1 F2 eXX
  have cE : ∀ i, w3.cell? ⟨E, i, none⟩ = w.cell? ⟨E, i, none⟩ := fun i => t3.cell (p := ⟨E, i, none⟩) hE
  refine ⟨⟨N', F3, fun i c hc => ?_, fun i hi => ?_, ?_, ?_, fun i => ?_, fun j hj => ?_, fun j hj hbj => ?_⟩, ?_⟩
  · by_cases i1 : i = iX
    · subst i1; rw [nX] at hc
      rcases List.mem_cons.1 hc with y | y
      · omega
      · exact h.lo _ _ y
    by_cases i2 : i = iR k J
    · subst i2; rw [nR] at hc; have := lr c hc; omega
    by_cases i3 : i = iQ k J
    · subst i3; rw [nQ] at hc; have := lq c hc; omega
    rw [nO i i1 i2 i3] at hc
    exact h.lo _ _ hc
  · by_cases i1 : i = iX
    · exact .inl i1
    by_cases i2 : i = iR k J
    · exact .inr (.inr ⟨J, by omega, .inl i2⟩)
    by_cases i3 : i = iQ k J
    · exact .inr (.inr ⟨J, by omega, .inr i3⟩)
    rw [nO i i1 i2 i3] at hi
    rcases h.only i hi with y | y | ⟨j, y, z⟩
    · exact .inl y
    · exact .inr (.inl y)
    · exact .inr (.inr ⟨j, by omega, z⟩)
  · rw [nO (iS k) (by simp) (by simp) (by simp)]
    exact h.sdr.keep (hsame _ (by simp))
  · rw [nX]; exact List.mem_cons_of_mem _ h.eX
  · rw [← hw4]; exact soft_set.trans ((t3.frozen (p := ⟨E, i, none⟩) hE).trans (h.zE i))
  · by_cases e : j = J
    · subst e
      rw [if_pos ⟨by omega, hb⟩, upd_at, ← hw4]
      exact cell_set ((cE j).trans (h.en j hj))
    · rw [← hw4, cell_other (.inr e), cE j, h.en j hj, upd_not _ _ e]
      have : (j < J ∧ bitI tq j = true) ↔ (j < J + 1 ∧ bitI tq j = true) := ⟨fun y => ⟨by have := y.1; omega, y.2⟩, fun y => ⟨by have := y.1; omega, y.2⟩⟩
      simp only [this]
  · by_cases e : j = J
    · subst e
      rw [upd_at, upd_at, upd_at, nX, nR, nQ]
      refine ⟨⟨List.mem_cons_self, by omega, ?_, ?_⟩, hr.keep sR, hq.keep sQ⟩
      · rw [← hw4, cell_other (.inl (by omega))]; exact d0
      · rw [← hw4, cell_other (.inl (by omega))]; exact d1
    · obtain ⟨⟨a1, a2, a3, a4⟩, a5, a6⟩ := h.dn j (by omega) hbj
      rw [upd_not _ _ e, upd_not _ _ e, upd_not _ _ e, nX, nO (iR k j) (by simp) (by simpa using e) (by simp), nO (iQ k j) (by simp) (by simp) (by simpa using e)]
      have aD := h.fam.lt _ _ a1
      refine ⟨⟨List.mem_cons_of_mem _ a1, a2, ?_, ?_⟩, a5.keep (hsame _ (by simp)), a6.keep (hsame _ (by simp))⟩
      · rw [← hw4, cell_other (.inl a2)]; exact (t3.cell (p := ⟨D j, 0, none⟩) aD).trans a3
      · rw [← hw4, cell_other (.inl a2)]; exact (t3.cell (p := ⟨D j, 1, none⟩) aD).trans a4
  · rw [← hw4]
    exact (hV.trans (t3.mono hb0)).setCell (p := ⟨E, J, none⟩) hE0 _

theorem LinkNew.same (h : LinkNew b0 w N k n J tq bag queue S E D R Q) {w' : World} (hs : w.heap.size ≤ w'.heap.size) (hk : ∀ c, b0 ≤ c → c < w.heap.size → w'.heap[c]? = w.heap[c]?) : LinkNew b0 w' N k n J tq bag queue S E D R Q := by
  have sm : ∀ i, Same (N i) w w' := fun i => ⟨hs, fun c hc => hk c (h.lo i c hc) (h.fam.lt i c hc)⟩
  refine ⟨⟨fun i c hc => Nat.lt_of_lt_of_le (h.fam.lt i c hc) hs, h.fam.ap⟩, h.lo, h.only, h.sdr.keep (sm _), h.eX, fun i => ((sm iX).frozen (p := ⟨E, i, none⟩) h.eX).trans (h.zE i), fun j hj => ((sm iX).cell (p := ⟨E, j, none⟩) h.eX).trans (h.en j hj), fun j hj hb => ?_⟩
  obtain ⟨⟨a1, a2, a3, a4⟩, a5, a6⟩ := h.dn j hj hb
  exact ⟨⟨a1, a2, ((sm iX).cell (p := ⟨D j, 0, none⟩) a1).trans a3, ((sm iX).cell (p := ⟨D j, 1, none⟩) a1).trans a4⟩, a5.keep (sm _), a6.keep (sm _)⟩
theorem LinkNew.low (h : LinkNew b0 w N k n J tq bag queue S E D R Q) {b1 : Nat} (hb : b1 ≤ b0) : LinkNew b1 w N k n J tq bag queue S E D R Q :=
  ⟨h.fam, fun i c hc => Nat.le_trans hb (h.lo i c hc), h.only, h.sdr, h.eX, h.zE, h.en, h.dn⟩
/-- At first: a sender, and an empty row of ends. -/
theorem LinkNew.first {V0 w1 w2 : World} {OS : List Nat} (hs : Sdr w1 OS S bag queue [] 0 0 0) (lo : ∀ c, c ∈ OS → V0.heap.size ≤ c) (hb : Below V0.heap.size V0 w1) {t : TypeId} (hw2 : w1.alloc (.cells (madeCells #[.pointer none] n) t) = w2) (kk : Nat) (tq : Int) (D R Q : Nat → Nat) :
    (∃ N, LinkNew V0.heap.size w2 N kk n 0 tq bag queue S w1.heap.size D R Q) ∧ Below V0.heap.size V0 w2 := by
  have k2 : Below w1.heap.size w1 w2 := by rw [← hw2]; exact (Below.refl _ _).alloc (Nat.le_refl _) _
  have s2 : w2.heap.size = w1.heap.size + 1 := by rw [← hw2]; simp
  have s1 := hb.size
  have F0 : Fam V0 (fun _ : CIx => ([] : List Nat)) := ⟨fun i c hc => by simp at hc, fun i j _ c hc => by simp at hc⟩
  have F1 : Fam w1 (setO (fun _ : CIx => ([] : List Nat)) (iS kk) OS) := F0.add hb rfl (fun c hc => ⟨lo c hc, hs.lt c hc⟩)
  have F2 : Fam w2 (setO (setO (fun _ : CIx => ([] : List Nat)) (iS kk) OS) iX [w1.heap.size]) := F1.add k2 (by rw [setO_not _ _ (by simp)]) (fun c hc => by
    have : c = w1.heap.size := by simpa using hc
    omega)
  obtain ⟨N, hN⟩ : ∃ N, setO (setO (fun _ : CIx => ([] : List Nat)) (iS kk) OS) iX [w1.heap.size] = N := ⟨_, rfl⟩
  have nX : N iX = [w1.heap.size] := by rw [← hN]; exact setO_at _ _ _
  have nS : N (iS kk) = OS := by rw [← hN, setO_not _ _ (by simp)]; exact setO_at _ _ _
  have nO : ∀ i, i ≠ iX → i ≠ iS kk → N i = [] := fun i h1 h2 => by rw [← hN, setO_not _ _ h1, setO_not _ _ h2]
  rw [hN] at F2
  clear hN F1 F0
  refine ⟨⟨N, F2, fun i c hc => ?_, fun i hi => ?_, ?_, ?_, fun i => ?_, fun j hj => ?_, fun j hj => absurd hj (Nat.not_lt_zero _)⟩, hb.trans (k2.mono s1)⟩
  · by_cases i1 : i = iX
    · subst i1
      rw [nX] at hc
      have : c = w1.heap.size := by simpa using hc
      omega
    by_cases i2 : i = iS kk
    · subst i2
      rw [nS] at hc
      exact lo c hc
    rw [nO i i1 i2] at hc
    simp at hc
  · by_cases i1 : i = iX
    · exact .inl i1
    by_cases i2 : i = iS kk
    · exact .inr (.inl i2)
    exact absurd (nO i i1 i2) hi
  · rw [nS]; exact hs.keep (Same.of_below k2 hs.lt)
  · rw [nX]; exact List.mem_singleton.2 rfl
  · rw [← hw2]; simp
  · rw [if_neg (fun y => absurd y.1 (Nat.not_lt_zero _)), ← hw2]
    simp [madeCells, hj, Nat.mod_one]
end
end Go.Proofs.YtdmokcnoljlogaaGreatDoor

/- The program's cluster: fill's words: nodes and links while they are made, and a whole cluster behind (10.1). -/
namespace Go.Proofs.YtdmokcnoljlogaaGreatDoor
open Go.RowKit

/-- Three cells each. -/
def triCells (a b c : Nat → Value) : Nat → List Value
  | 0 => []
  | n + 1 => triCells a b c n ++ [a n, b n, c n]
theorem triCells_length (a b c : Nat → Value) : ∀ n, (triCells a b c n).length = n * 3 := by
  intro n
  induction n with
  | zero => rfl
  | succ n ih => simp [triCells, ih]; omega
theorem triCells_at (a b c : Nat → Value) : ∀ n i, i < n → (triCells a b c n)[i * 3]? = some (a i) ∧ (triCells a b c n)[i * 3 + 1]? = some (b i) ∧ (triCells a b c n)[i * 3 + 2]? = some (c i) := by
  intro n
  induction n with
  | zero => intro i hi; omega
  | succ n ih =>
    intro i hi
    have hl := triCells_length a b c n
    by_cases e : i = n
    · subst e
      unfold triCells
      refine ⟨?_, ?_, ?_⟩
      · rw [List.getElem?_append_right (by omega), hl, Nat.sub_self]; rfl
      · rw [List.getElem?_append_right (by omega), hl, show i * 3 + 1 - i * 3 = 1 by omega]; rfl
      · rw [List.getElem?_append_right (by omega), hl, show i * 3 + 2 - i * 3 = 2 by omega]; rfl
    · obtain ⟨x, y, z⟩ := ih i (by omega)
      unfold triCells
      exact ⟨by rw [List.getElem?_append_left (by omega)]; exact x, by rw [List.getElem?_append_left (by omega)]; exact y, by rw [List.getElem?_append_left (by omega)]; exact z⟩
theorem triCells_agree {a b c a' b' c' : Nat → Value} : ∀ n, (∀ i, i < n → a i = a' i ∧ b i = b' i ∧ c i = c' i) → triCells a b c n = triCells a' b' c' n := by
  intro n
  induction n with
  | zero => intro _; rfl
  | succ n ih =>
    intro h
    obtain ⟨x, y, z⟩ := h n (by omega)
    unfold triCells
    rw [ih (fun i hi => h i (by omega)), x, y, z]

/-- An append to a row of C's own, and a store into C. -/
theorem foot_app {C i : Nat} {w1 w2 w3 : World} {v v' x : Value} (k2 : Below w1.heap.size w1 w2) (hg : w2.grownBy w3 v.ownBlock) (hat : v'.ownBlock = v.ownBlock ∨ v'.ownBlock = some w2.heap.size) : Foot (C :: v.ownBlock.toList) (C :: v'.ownBlock.toList) w1 (w3.setCell ⟨C, i, none⟩ x) := by
  have z : Below 0 w3 (w3.setCell ⟨C, i, none⟩ x) := (Below.refl _ _).setCell (Nat.zero_le _) _
  refine ⟨z.os.trans (hg.os.trans k2.os), z.tape.trans (hg.tape.trans k2.tape), z.output.trans (hg.output.trans k2.output), Nat.le_trans k2.size (Nat.le_trans hg.size z.size), fun c hc hn => ?_, fun c hc => ?_⟩
  · have h1 : c ≠ C := fun e => hn (List.mem_cons.2 (.inl e))
    have h2 : some c ≠ v.ownBlock := fun e => hn (List.mem_cons.2 (.inr (by rw [← e]; exact List.mem_singleton.2 rfl)))
    rw [Below.heap_setCell _ _ _ _ h1, hg.block c (Nat.lt_of_lt_of_le hc k2.size) h2, k2.block c hc]
  · rcases List.mem_cons.1 hc with y | y
    · exact .inl (List.mem_cons.2 (.inl y))
    · rcases hat with z | z
      · rw [z] at y; exact .inl (List.mem_cons.2 (.inr y))
      · rw [z] at y
        have : c = w2.heap.size := by simpa using y
        exact .inr (by have := k2.size; omega)

/-- Nodes while they are made: I of n. -/
structure FilN (w0 w : World) (b0 : Nat) (X0 : List Nat) (Of : CIx → List Nat) (C n : Nat) (P : Nat → Nat) (v : Value) (I : Nat) : Prop where
  fam : Fam w Of
  lo : ∀ i c, c ∈ Of i → b0 ≤ c
  ob : Of iB = C :: v.ownBlock.toList
  ox : Of iX = X0
  emp : ∀ i, Of i ≠ [] → i = iB ∨ i = iX ∨ ∃ j, j < I ∧ i = iN j
  kc : ∀ i, i ≠ 13 → w.cell? ⟨C, i, none⟩ = w0.cell? ⟨C, i, none⟩
  c13 : w.cell? ⟨C, 13, none⟩ = some v
  z : ∀ i, w.frozen? ⟨C, i, none⟩ = false
  kx : Same X0 w0 w
  vo : w.ownsRow (C + 1) 108 1 v I ((List.range I).map fun j => .pointer (some ⟨P j, 0, none⟩))
  node : ∀ j, j < I → ProgNode w (P j) j n (2 ^ n - 1) 1 0 false ∧ Of (iN j) = [P j]
  bel : Below b0 w0 w

theorem Same.trans {X : List Nat} {a b c : World} (h : Same X a b) (k : Same X b c) : Same X a c := ⟨Nat.le_trans h.1 k.1, fun i hi => (k.2 i hi).trans (h.2 i hi)⟩

theorem FilN.step {w0 w w1 w2 w3 : World} {b0 : Nat} {X0 : List Nat} {Of : CIx → List Nat} {C n : Nat} {P : Nat → Nat} {v v' : Value} {I : Nat} (h : FilN w0 w b0 X0 Of C n P v I) (k1 : Below w.heap.size w w1) (hn : ProgNode w1 w.heap.size I n (2 ^ n - 1) 1 0 false) (k2 : Below w1.heap.size w1 w2) (ho : w3.ownsRow (C + 1) 108 1 v' (I + 1) (((List.range I).map fun j => .pointer (some ⟨P j, 0, none⟩)) ++ [.pointer (some ⟨w.heap.size, 0, none⟩)])) (hg : w2.grownBy w3 v.ownBlock) (hat : v'.ownBlock = v.ownBlock ∨ v'.ownBlock = some w2.heap.size) :
    ∃ Of', FilN w0 (w3.setCell ⟨C, 13, none⟩ v') b0 X0 Of' C n (upd P I w.heap.size) v' (I + 1) := by
  have hC : C < w.heap.size := h.fam.lt iB C (by rw [h.ob]; exact List.mem_cons_self)
  have hC0 : b0 ≤ C := h.lo iB C (by rw [h.ob]; exact List.mem_cons_self)
  have s1 := k1.size
  have s2 := k2.size
  have s3 := hg.size
  have hlp := hn.lp
  have eI : Of (iN I) = [] := by
    by_cases e : Of (iN I) = []
    · exact e
    · rcases h.emp _ e with y | y | ⟨j, hj, y⟩
      · simp at y
      · simp at y
      · simp at y; omega
  have F1 : Fam w1 (setO Of (iN I) [w.heap.size]) := h.fam.add k1 eI (fun c hc => by
    have : c = w.heap.size := by simpa using hc
    omega)
  have hft : Foot (C :: v.ownBlock.toList) (C :: v'.ownBlock.toList) w1 (w3.setCell ⟨C, 13, none⟩ v') := foot_app k2 hg hat
  have eB : setO Of (iN I) [w.heap.size] iB = C :: v.ownBlock.toList := by rw [setO_not _ _ (by simp)]; exact h.ob
  have sz4 : (w3.setCell ⟨C, 13, none⟩ v').heap.size = w3.heap.size := by simp
  have F2 : Fam (w3.setCell ⟨C, 13, none⟩ v') (setO (setO Of (iN I) [w.heap.size]) iB (C :: v'.ownBlock.toList)) := by
    refine F1.step (i := iB) (by rw [eB]; exact hft) (fun c hc => ?_)
    rcases List.mem_cons.1 hc with y | y
    · omega
    · have := (ho.lt c (by simpa using y)).2; omega
  have sm : ∀ i, i ≠ iB → Same (setO Of (iN I) [w.heap.size] i) w1 (w3.setCell ⟨C, 13, none⟩ v') := fun i hi => F1.same (i := iB) (by rw [eB]; exact hft) hi
  obtain ⟨N, hN⟩ : ∃ N, setO (setO Of (iN I) [w.heap.size]) iB (C :: v'.ownBlock.toList) = N := ⟨_, rfl⟩
  have nB : N iB = C :: v'.ownBlock.toList := by rw [← hN]; exact setO_at _ _ _
  have nI : N (iN I) = [w.heap.size] := by rw [← hN, setO_not _ _ (by simp)]; exact setO_at _ _ _
  have nO : ∀ i, i ≠ iB → i ≠ iN I → N i = Of i := fun i h1 h2 => by rw [← hN, setO_not _ _ h1, setO_not _ _ h2]
  rw [hN] at F2
  have sO : ∀ i, i ≠ iB → i ≠ iN I → Same (Of i) w (w3.setCell ⟨C, 13, none⟩ v') := fun i h1 h2 => by
    have a := sm i h1
    rw [setO_not _ _ h2] at a
    exact (Same.of_below k1 (h.fam.lt i)).trans a
  have cC : ∀ i, w3.cell? ⟨C, i, none⟩ = w.cell? ⟨C, i, none⟩ := fun i => by
    have : some C ≠ v.ownBlock := fun e => by have := (h.vo.lt C e.symm).1; omega
    exact (World.cell?_of_block (a := ⟨C, i, none⟩) (hg.block C (by omega) this)).trans ((k2.cell (p := ⟨C, i, none⟩) (by show C < _; omega)).trans (k1.cell (p := ⟨C, i, none⟩) hC))
  have fC : ∀ i, w3.frozen? ⟨C, i, none⟩ = w.frozen? ⟨C, i, none⟩ := fun i => by
    have : some C ≠ v.ownBlock := fun e => by have := (h.vo.lt C e.symm).1; omega
    exact (World.frozen?_of_block (a := ⟨C, i, none⟩) (hg.block C (by omega) this)).trans ((k2.frozen (p := ⟨C, i, none⟩) (by show C < _; omega)).trans (k1.frozen (p := ⟨C, i, none⟩) hC))
  clear hN
  refine ⟨N, F2, fun i c hc => ?_, nB, ?_, fun i hi => ?_, fun i hi => ?_, cell_set ((cC 13).trans h.c13), fun i => soft_set.trans ((fC i).trans (h.z i)), ?_, ?_, fun j hj => ?_, ?_⟩
  · by_cases i1 : i = iB
    · subst i1
      rw [nB] at hc
      rcases hft.fresh c hc with y | y
      · exact h.lo iB c (by rw [h.ob]; exact y)
      · have := h.bel.size; omega
    by_cases i2 : i = iN I
    · subst i2
      rw [nI] at hc
      have : c = w.heap.size := by simpa using hc
      have := h.bel.size; omega
    rw [nO i i1 i2] at hc
    exact h.lo i c hc
  · rw [nO iX (by simp) (by simp)]; exact h.ox
  · by_cases i1 : i = iB
    · exact .inl i1
    by_cases i2 : i = iN I
    · exact .inr (.inr ⟨I, by omega, i2⟩)
    rw [nO i i1 i2] at hi
    rcases h.emp i hi with y | y | ⟨j, hj, y⟩
    · exact .inl y
    · exact .inr (.inl y)
    · exact .inr (.inr ⟨j, by omega, y⟩)
  · exact (cell_other (.inr hi)).trans ((cC i).trans (h.kc i hi))
  · have := sO iX (by simp) (by simp)
    rw [h.ox] at this
    exact h.kx.trans this
  · rw [List.range_succ, List.map_append, List.map_singleton, upd_at]
    have e : (List.range I).map (fun j => Value.pointer (some ⟨upd P I w.heap.size j, 0, none⟩)) = (List.range I).map (fun j => Value.pointer (some ⟨P j, 0, none⟩)) := List.map_congr_left (fun j hj => by
      have : j < I := List.mem_range.1 hj
      rw [upd_not _ _ (by omega)])
    rw [e]
    exact owns_put ho (by omega)
  · by_cases e : j = I
    · subst e
      rw [upd_at, nI]
      have a := sm (iN j) (by simp)
      rw [setO_at] at a
      exact ⟨hn.same a, rfl⟩
    · obtain ⟨a, b⟩ := h.node j (by omega)
      rw [upd_not _ _ e, nO (iN j) (by simp) (by simpa using e)]
      exact ⟨a.same (b ▸ sO (iN j) (by simp) (by simpa using e)), b⟩
  · have hb1 : Below b0 w0 w1 := h.bel.trans (k1.mono (by omega))
    exact hb1.trans (hft.below (fun c hc => h.lo iB c (by rw [h.ob]; exact hc)) (by omega))

/-- Links while they are made: K of them; the nodes are there. -/
structure FilK (w0 w : World) (b0 : Nat) (X0 : List Nat) (Of : CIx → List Nat) (C nb : Nat) (p : PlanN) (P S E : Nat → Nat) (D R Q : Nat → Nat → Nat) (u : Value) (K : Nat) : Prop where
  fam : Fam w Of
  lo : ∀ i c, c ∈ Of i → b0 ≤ c
  ob : Of iB = nb :: C :: u.ownBlock.toList
  nC : nb ≠ C
  nu : u.ownBlock ≠ some nb
  ox : ∀ c, c ∈ X0 → c ∈ Of iX
  emp : ∀ i, Of i ≠ [] → i = iB ∨ i = iX ∨ (∃ j, i = iN j) ∨ ∃ k, k < K ∧ (i = iS k ∨ ∃ j, i = iR k j ∨ i = iQ k j)
  kc : ∀ i, i ≠ 14 → w.cell? ⟨C, i, none⟩ = w0.cell? ⟨C, i, none⟩
  c14 : w.cell? ⟨C, 14, none⟩ = some u
  z : ∀ i, w.frozen? ⟨C, i, none⟩ = false
  kx : Same X0 w0 w
  kb : Same [nb] w0 w
  uo : w.ownsRow (C + 1) 86 3 u K (triCells (fun k => .int .i64 (p.lf k)) (fun k => .pointer (some ⟨S k, 0, none⟩)) (fun k => .slice (some ⟨E k, 0, none⟩) p.n p.n) K)
  node : ∀ j, j < p.n → ProgNode w (P j) j p.n (2 ^ p.n - 1) 1 0 false ∧ Of (iN j) = [P j]
  snd : ∀ k, k < K → Sdr w (Of (iS k)) (S k) (p.lb k) (p.lq k) [] 0 0 0
  en : ∀ k, k < K → E k ∈ Of iX ∧ ∀ j, j < p.n → w.cell? ⟨E k, j, none⟩ = some (.pointer (if bitI (p.lt k) j = true then some ⟨D k j, 0, none⟩ else none))
  dn : ∀ k j, k < K → j < p.n → bitI (p.lt k) j = true → (D k j ∈ Of iX ∧ w.cell? ⟨D k j, 0, none⟩ = some (.pointer (some ⟨R k j, 0, none⟩)) ∧ w.cell? ⟨D k j, 1, none⟩ = some (.pointer (some ⟨Q k j, 0, none⟩))) ∧ Rcv w (Of (iR k j)) (R k j) (-1) 0 0 ∧ Que w (Of (iQ k j)) (Q k j) 16 [] 0
  bel : Below b0 w0 w

/-- Two families, one of old blocks and one of new ones. -/
theorem Fam.join {I : Type} {w w' : World} {O N : I → List Nat} (h : Fam w O) (k : Fam w' N) (hs : w.heap.size ≤ w'.heap.size) (hN : ∀ i c, c ∈ N i → w.heap.size ≤ c) : Fam w' (fun i => O i ++ N i) := by
  refine ⟨fun i c hc => ?_, fun i j hij c hc hn => ?_⟩
  · rcases List.mem_append.1 hc with y | y
    · exact Nat.lt_of_lt_of_le (h.lt i c y) hs
    · exact k.lt i c y
  · rcases List.mem_append.1 hc with y | y <;> rcases List.mem_append.1 hn with z | z
    · exact h.ap i j hij c y z
    · have := h.lt i c y; have := hN j c z; omega
    · have := hN i c y; have := h.lt j c z; omega
    · exact k.ap i j hij c y z

def upd2 (f : Nat → Nat → Nat) (k : Nat) (g : Nat → Nat) : Nat → Nat → Nat := fun i => if i = k then g else f i
theorem upd2_at (f : Nat → Nat → Nat) (k : Nat) (g : Nat → Nat) : upd2 f k g k = g := if_pos rfl
theorem upd2_not (f : Nat → Nat → Nat) {i k : Nat} (g : Nat → Nat) (h : i ≠ k) : upd2 f k g i = f i := if_neg h

theorem FilK.step {w0 w w1 w2 w3 : World} {b0 b1 : Nat} {X0 : List Nat} {Of N : CIx → List Nat} {C nb : Nat} {p : PlanN} {P S E : Nat → Nat} {D R Q : Nat → Nat → Nat} {u u' : Value} {K S' E' : Nat} {D' R' Q' : Nat → Nat} (h : FilK w0 w b0 X0 Of C nb p P S E D R Q u K) (k1 : Below w.heap.size w w1) (hl : LinkNew b1 w1 N K p.n p.n (p.lt K) (p.lb K) (p.lq K) S' E' D' R' Q') (hb1 : w.heap.size ≤ b1) (k2 : Below w1.heap.size w1 w2)
    (ho : w3.ownsRow (C + 1) 86 3 u' (K + 1) (triCells (fun k => .int .i64 (p.lf k)) (fun k => .pointer (some ⟨S k, 0, none⟩)) (fun k => .slice (some ⟨E k, 0, none⟩) p.n p.n) K ++ [.int .i64 (p.lf K), .pointer (some ⟨S', 0, none⟩), .slice (some ⟨E', 0, none⟩) p.n p.n])) (hg : w2.grownBy w3 u.ownBlock) (hat : u'.ownBlock = u.ownBlock ∨ u'.ownBlock = some w2.heap.size) :
    ∃ Of', FilK w0 (w3.setCell ⟨C, 14, none⟩ u') b0 X0 Of' C nb p P (upd S K S') (upd E K E') (upd2 D K D') (upd2 R K R') (upd2 Q K Q') u' (K + 1) := by
  have mC : C ∈ Of iB := by rw [h.ob]; simp
  have mb : nb ∈ Of iB := by rw [h.ob]; simp
  have hC : C < w.heap.size := h.fam.lt iB C mC
  have hC0 : b0 ≤ C := h.lo iB C mC
  have hnb : nb < w.heap.size := h.fam.lt iB nb mb
  have s1 := k1.size
  have s2 := k2.size
  have s3 := hg.size
  have F1 : Fam w1 (fun i => Of i ++ N i) := h.fam.join hl.fam s1 (fun i c hc => Nat.le_trans hb1 (hl.lo i c hc))
  have hft0 : Foot (C :: u.ownBlock.toList) (C :: u'.ownBlock.toList) w1 (w3.setCell ⟨C, 14, none⟩ u') := foot_app k2 hg hat
  have hft := hft0.under nb
  have nN : ∀ i, i ≠ iX → i ≠ iS K → (∀ j, i ≠ iR K j ∧ i ≠ iQ K j) → N i = [] := fun i h1 h2 h3 => by
    by_cases e : N i = []
    · exact e
    · rcases hl.only i e with y | y | ⟨j, _, y | y⟩
      · exact absurd y h1
      · exact absurd y h2
      · exact absurd y (h3 j).1
      · exact absurd y (h3 j).2
  have oN : ∀ i, (i = iS K ∨ ∃ j, i = iR K j ∨ i = iQ K j) → Of i = [] := fun i hi => by
    by_cases e : Of i = []
    · exact e
    · rcases h.emp i e with y | y | ⟨j, y⟩ | ⟨k, hk, y | ⟨j, y | y⟩⟩ <;> subst y <;> simp at hi <;> omega
  have eB : Of iB ++ N iB = nb :: C :: u.ownBlock.toList := by
    rw [nN iB (by simp) (by simp) (fun j => ⟨by simp, by simp⟩), List.append_nil]
    exact h.ob
  have sz4 : (w3.setCell ⟨C, 14, none⟩ u').heap.size = w3.heap.size := by simp
  have F2 : Fam (w3.setCell ⟨C, 14, none⟩ u') (setO (fun i => Of i ++ N i) iB (nb :: C :: u'.ownBlock.toList)) := by
    refine F1.step (i := iB) (by rw [eB]; exact hft) (fun c hc => ?_)
    rcases List.mem_cons.1 hc with y | y
    · omega
    rcases List.mem_cons.1 y with y | y
    · omega
    · have := (ho.lt c (by simpa using y)).2; omega
  have sm : ∀ i, i ≠ iB → Same (Of i ++ N i) w1 (w3.setCell ⟨C, 14, none⟩ u') := fun i hi => F1.same (i := iB) (by rw [eB]; exact hft) hi
  obtain ⟨G, hG⟩ : ∃ G, setO (fun i => Of i ++ N i) iB (nb :: C :: u'.ownBlock.toList) = G := ⟨_, rfl⟩
  have gB : G iB = nb :: C :: u'.ownBlock.toList := by rw [← hG]; exact setO_at _ _ _
  have gO : ∀ i, i ≠ iB → G i = Of i ++ N i := fun i h1 => by rw [← hG, setO_not _ _ h1]
  rw [hG] at F2
  clear hG
  have gOld : ∀ i, i ≠ iB → i ≠ iX → i ≠ iS K → (∀ j, i ≠ iR K j ∧ i ≠ iQ K j) → G i = Of i := fun i h0 h1 h2 h3 => by rw [gO i h0, nN i h1 h2 h3, List.append_nil]
  have gNew : ∀ i, i ≠ iB → (i = iS K ∨ ∃ j, i = iR K j ∨ i = iQ K j) → G i = N i := fun i h0 hi => by rw [gO i h0, oN i hi, List.nil_append]
  have sOld : ∀ i, i ≠ iB → Same (Of i) w (w3.setCell ⟨C, 14, none⟩ u') := fun i hi => (Same.of_below k1 (h.fam.lt i)).trans ((sm i hi).part (fun c hc => List.mem_append.2 (.inl hc)))
  have sNew : ∀ i, i ≠ iB → Same (N i) w1 (w3.setCell ⟨C, 14, none⟩ u') := fun i hi => (sm i hi).part (fun c hc => List.mem_append.2 (.inr hc))
  have uC : some C ≠ u.ownBlock := fun e => by have := (h.uo.lt C e.symm).1; omega
  have cC : ∀ i, w3.cell? ⟨C, i, none⟩ = w.cell? ⟨C, i, none⟩ := fun i => (World.cell?_of_block (a := ⟨C, i, none⟩) (hg.block C (by omega) uC)).trans ((k2.cell (p := ⟨C, i, none⟩) (by show C < _; omega)).trans (k1.cell (p := ⟨C, i, none⟩) hC))
  have fC : ∀ i, w3.frozen? ⟨C, i, none⟩ = w.frozen? ⟨C, i, none⟩ := fun i => (World.frozen?_of_block (a := ⟨C, i, none⟩) (hg.block C (by omega) uC)).trans ((k2.frozen (p := ⟨C, i, none⟩) (by show C < _; omega)).trans (k1.frozen (p := ⟨C, i, none⟩) hC))
  have fresh : ∀ c, c ∈ G iB → c ∈ Of iB ∨ w1.heap.size ≤ c := fun c hc => by
    rw [gB] at hc
    rcases hft.fresh c hc with y | y
    · exact .inl (by rw [h.ob]; exact y)
    · exact .inr y
  have hs0 := h.bel.size
  refine ⟨G, F2, fun i c hc => ?_, gB, h.nC, ?_, fun c hc => ?_, fun i hi => ?_, fun i hi => ?_, cell_set ((cC 14).trans h.c14), fun i => soft_set.trans ((fC i).trans (h.z i)), ?_, ?_, ?_, fun j hj => ?_, fun k hk => ?_, fun k hk => ?_, fun k j hk hj hb => ?_, ?_⟩
  · by_cases i1 : i = iB
    · subst i1
      rcases fresh c hc with y | y
      · exact h.lo iB c y
      · have := h.lo iB C mC; omega
    rw [gO i i1] at hc
    rcases List.mem_append.1 hc with y | y
    · exact h.lo i c y
    · have := hl.lo i c y; omega
  · rcases hat with y | y
    · rw [y]; exact h.nu
    · rw [y]; intro e; injection e with e; omega
  · rw [gO iX (by simp)]; exact List.mem_append.2 (.inl (h.ox c hc))
  · by_cases i1 : i = iB
    · exact .inl i1
    rw [gO i i1] at hi
    by_cases e : Of i = []
    · rw [e, List.nil_append] at hi
      rcases hl.only i hi with y | y | ⟨j, _, y⟩
      · exact .inr (.inl y)
      · exact .inr (.inr (.inr ⟨K, by omega, .inl y⟩))
      · exact .inr (.inr (.inr ⟨K, by omega, .inr ⟨j, y⟩⟩))
    · rcases h.emp i e with y | y | y | ⟨k, hk, y⟩
      · exact .inl y
      · exact .inr (.inl y)
      · exact .inr (.inr (.inl y))
      · exact .inr (.inr (.inr ⟨k, by omega, y⟩))
  · exact (cell_other (.inr hi)).trans ((cC i).trans (h.kc i hi))
  · exact h.kx.trans ((sOld iX (by simp)).part h.ox)
  · refine h.kb.trans ⟨by omega, fun c hc => ?_⟩
    have hc : c = nb := by simpa using hc
    subst hc
    rw [Below.heap_setCell _ _ _ _ h.nC, hg.block c (by omega) (Ne.symm h.nu), k2.block c (by omega), k1.block c hnb]
  · have e : triCells (fun k => .int .i64 (p.lf k)) (fun k => .pointer (some ⟨upd S K S' k, 0, none⟩)) (fun k => .slice (some ⟨upd E K E' k, 0, none⟩) p.n p.n) K = triCells (fun k => .int .i64 (p.lf k)) (fun k => .pointer (some ⟨S k, 0, none⟩)) (fun k => .slice (some ⟨E k, 0, none⟩) p.n p.n) K :=
      triCells_agree K (fun i hi => ⟨rfl, by rw [upd_not _ _ (by omega)], by rw [upd_not _ _ (by omega)]⟩)
    unfold triCells
    rw [e, upd_at, upd_at]
    exact owns_put ho (by omega)
  · obtain ⟨a, b⟩ := h.node j hj
    rw [gOld (iN j) (by simp) (by simp) (by simp) (fun j => ⟨by simp, by simp⟩)]
    exact ⟨a.same (b ▸ sOld (iN j) (by simp)), b⟩
  · by_cases e : k = K
    · subst e
      rw [upd_at, gNew (iS k) (by simp) (.inl rfl)]
      exact hl.sdr.keep (sNew _ (by simp))
    · rw [upd_not _ _ e, gOld (iS k) (by simp) (by simp) (by simpa using e) (fun j => ⟨by simp, by simp⟩)]
      exact (h.snd k (by omega)).keep (sOld _ (by simp))
  · by_cases e : k = K
    · subst e
      rw [upd_at, gO iX (by simp), upd2_at]
      refine ⟨List.mem_append.2 (.inr hl.eX), fun j hj => ?_⟩
      rw [(sNew iX (by simp)).cell (p := ⟨E', j, none⟩) hl.eX, hl.en j hj]
      simp only [hj, true_and]
    · rw [upd_not _ _ e, gO iX (by simp), upd2_not _ _ e]
      obtain ⟨a, b⟩ := h.en k (by omega)
      exact ⟨List.mem_append.2 (.inl a), fun j hj => ((sOld iX (by simp)).cell (p := ⟨E k, j, none⟩) a).trans (b j hj)⟩
  · by_cases e : k = K
    · subst e
      obtain ⟨⟨a1, _, a3, a4⟩, a5, a6⟩ := hl.dn j hj hb
      rw [upd2_at, upd2_at, upd2_at, gO iX (by simp), gNew (iR k j) (by simp) (.inr ⟨j, .inl rfl⟩), gNew (iQ k j) (by simp) (.inr ⟨j, .inr rfl⟩)]
      exact ⟨⟨List.mem_append.2 (.inr a1), ((sNew iX (by simp)).cell (p := ⟨D' j, 0, none⟩) a1).trans a3, ((sNew iX (by simp)).cell (p := ⟨D' j, 1, none⟩) a1).trans a4⟩, a5.keep (sNew _ (by simp)), a6.keep (sNew _ (by simp))⟩
    · obtain ⟨⟨a1, a3, a4⟩, a5, a6⟩ := h.dn k j (by omega) hj hb
      rw [upd2_not _ _ e, upd2_not _ _ e, upd2_not _ _ e, gO iX (by simp), gOld (iR k j) (by simp) (by simp) (by simp) (fun j' => ⟨fun y => e (by simp at y; exact y.1), by simp⟩), gOld (iQ k j) (by simp) (by simp) (by simp) (fun j' => ⟨by simp, fun y => e (by simp at y; exact y.1)⟩)]
      exact ⟨⟨List.mem_append.2 (.inl a1), ((sOld iX (by simp)).cell (p := ⟨D k j, 0, none⟩) a1).trans a3, ((sOld iX (by simp)).cell (p := ⟨D k j, 1, none⟩) a1).trans a4⟩, a5.keep (sOld _ (by simp)), a6.keep (sOld _ (by simp))⟩
  · have hb2 : Below b0 w0 w1 := h.bel.trans (k1.mono (by omega))
    exact hb2.trans (hft.below (fun c hc => h.lo iB c (by rw [h.ob]; exact hc)) (by omega))

/-- The nodes are there: the links begin. -/
theorem FilN.done {w0 w : World} {b0 : Nat} {X0 : List Nat} {Of : CIx → List Nat} {C : Nat} {p : PlanN} {P : Nat → Nat} {v : Value} (h : FilN w0 w b0 X0 Of C p.n P v p.n) (hn : 1 ≤ p.n) (c14 : w0.cell? ⟨C, 14, none⟩ = some (.slice none 0 0)) (S E : Nat → Nat) (D R Q : Nat → Nat → Nat) :
    ∃ nb ncap Of', v = .slice (some ⟨nb, 0, none⟩) p.n ncap ∧ (∀ j, j < p.n → w.cell? ⟨nb, j, none⟩ = some (.pointer (some ⟨P j, 0, none⟩))) ∧ FilK w w b0 X0 Of' C nb p P S E D R Q (.slice none 0 0) 0 := by
  obtain ⟨nb, ncap, hv, hg, hc⟩ := owns_some h.vo hn
  have hob : Of iB = [C, nb] := by rw [h.ob, hv]; rfl
  have hcell : ∀ j, j < p.n → w.cell? ⟨nb, j, none⟩ = some (.pointer (some ⟨P j, 0, none⟩)) := fun j hj => by
    have := hc j (.pointer (some ⟨P j, 0, none⟩)) (by simp [hj])
    rwa [add_at, Nat.zero_add] at this
  have hm : ∀ i c, c ∈ setO Of iB [nb, C] i → c ∈ Of i := fun i c hc => by
    by_cases e : i = iB
    · subst e
      rw [setO_at] at hc
      rw [hob]
      simp at hc ⊢
      omega
    · rw [setO_not _ _ e] at hc; exact hc
  refine ⟨nb, ncap, setO Of iB [nb, C], hv, hcell, ⟨fun i c hc => h.fam.lt i c (hm i c hc), fun i j hij c hc hn => h.fam.ap i j hij c (hm i c hc) (hm j c hn)⟩, fun i c hc => h.lo i c (hm i c hc), setO_at _ _ _, by omega, by simp [Value.ownBlock], fun c hc => ?_, fun i hi => ?_, fun _ _ => rfl, (h.kc 14 (by decide)).trans c14, h.z, ⟨Nat.le_refl _, fun _ _ => rfl⟩, ⟨Nat.le_refl _, fun _ _ => rfl⟩, World.ownsRow_nil _ _ _ _, fun j hj => ?_, fun k hk => absurd hk (Nat.not_lt_zero _), fun k hk => absurd hk (Nat.not_lt_zero _), fun k _ hk => absurd hk (Nat.not_lt_zero _), Below.refl _ _⟩
  · rw [setO_not _ _ (by simp), h.ox]; exact hc
  · by_cases e : i = iB
    · exact .inl e
    · rw [setO_not _ _ e] at hi
      rcases h.emp i hi with y | y | ⟨j, _, y⟩
      · exact .inl y
      · exact .inr (.inl y)
      · exact .inr (.inr (.inl ⟨j, y⟩))
  · rw [setO_not _ _ (by simp)]; exact h.node j hj

/-- What New lays first. -/
structure CHead (w : World) (C : Nat) (p : PlanN) (fa : Int) (cs : List Int) (cb ccap : Nat) (sa : Option Addr) (scap : Nat) (X0 : List Nat) : Prop where
  c0 : w.cell? ⟨C, 0, none⟩ = some (.int .i64 p.nodes)
  c1 : w.cell? ⟨C, 1, none⟩ = some (.int .i64 p.faulty)
  c3 : w.cell? ⟨C, 3, none⟩ = some (.int .i64 p.jitter)
  c4 : w.cell? ⟨C, 4, none⟩ = some (.int .i64 p.drift)
  c5 : w.cell? ⟨C, 5, none⟩ = some (.int .i64 p.round)
  c6 : w.cell? ⟨C, 6, none⟩ = some (.slice sa p.ns scap)
  c10 : w.cell? ⟨C, 10, none⟩ = some (.int .i64 fa)
  c11 : w.cell? ⟨C, 11, none⟩ = some (.slice (some ⟨cb, 0, none⟩) cs.length ccap)
  c12 : w.cell? ⟨C, 12, none⟩ = some (.int .i64 0)
  ck : ∀ j, j < cs.length → w.cell? ⟨cb, j, none⟩ = some (.int .i64 (cs.getD j 0))
  ckX : cb ∈ X0
  sl : 0 < p.ns → ∃ b off, sa = some ⟨b, off, none⟩ ∧ b ∈ X0 ∧ ∀ i, i < p.ns → w.cell? ⟨b, off + i * 3, none⟩ = some (.int .i64 (p.nd i)) ∧ w.cell? ⟨b, off + i * 3 + 1, none⟩ = some (.int .i64 (p.fr i)) ∧ w.cell? ⟨b, off + i * 3 + 2, none⟩ = some (.int .i64 (p.td i))
theorem CHead.keep {w w' : World} {C : Nat} {p : PlanN} {fa : Int} {cs : List Int} {cb ccap : Nat} {sa : Option Addr} {scap : Nat} {X0 : List Nat} (h : CHead w C p fa cs cb ccap sa scap X0) (cc : ∀ i, i ≤ 12 → w'.cell? ⟨C, i, none⟩ = w.cell? ⟨C, i, none⟩) (k : Same X0 w w') : CHead w' C p fa cs cb ccap sa scap X0 := by
  refine ⟨(cc 0 (by decide)).trans h.c0, (cc 1 (by decide)).trans h.c1, (cc 3 (by decide)).trans h.c3, (cc 4 (by decide)).trans h.c4, (cc 5 (by decide)).trans h.c5, (cc 6 (by decide)).trans h.c6, (cc 10 (by decide)).trans h.c10, (cc 11 (by decide)).trans h.c11, (cc 12 (by decide)).trans h.c12, fun j hj => (k.cell (p := ⟨cb, j, none⟩) h.ckX).trans (h.ck j hj), h.ckX, fun h0 => ?_⟩
  obtain ⟨b, off, e, hb, hc⟩ := h.sl h0
  exact ⟨b, off, e, hb, fun i hi => ⟨(k.cell (p := ⟨b, off + i * 3, none⟩) hb).trans (hc i hi).1, (k.cell (p := ⟨b, off + i * 3 + 1, none⟩) hb).trans (hc i hi).2.1, (k.cell (p := ⟨b, off + i * 3 + 2, none⟩) hb).trans (hc i hi).2.2⟩⟩

/-- All is there. -/
theorem FilK.whole {w0 w : World} {b0 : Nat} {X0 : List Nat} {Of : CIx → List Nat} {C nb ncap : Nat} {p : PlanN} {P S E : Nat → Nat} {D R Q : Nat → Nat → Nat} {u : Value} (h : FilK w0 w b0 X0 Of C nb p P S E D R Q u p.nl) (h13 : w0.cell? ⟨C, 13, none⟩ = some (.slice (some ⟨nb, 0, none⟩) p.n ncap)) (hnd : ∀ j, j < p.n → w0.cell? ⟨nb, j, none⟩ = some (.pointer (some ⟨P j, 0, none⟩))) {fa : Int} {cs : List Int} {cb ccap : Nat} {sa : Option Addr} {scap : Nat} (hH : CHead w0 C p fa cs cb ccap sa scap X0) :
    ∃ O m, Cl w O C p fa cs ClS.start 0 1 m ∧ ∀ c, c ∈ O → b0 ≤ c := by
  have mC : C ∈ Of iB := by rw [h.ob]; simp
  have mb : nb ∈ Of iB := by rw [h.ob]; simp
  have hC : C < w.heap.size := h.fam.lt iB C mC
  have k := hH.keep (fun i hi => h.kc i (by omega)) h.kx
  obtain ⟨la, lb, lcap, hu, hla⟩ : ∃ la lb lcap, u = .slice la p.nl lcap ∧ (0 < p.nl → la = some ⟨lb, 0, none⟩ ∧ u.ownBlock = some lb) := by
    rcases h.uo.2 with ⟨e1, e2⟩ | ⟨g, c, cur, e, _⟩
    · exact ⟨none, 0, 0, by rw [e2]; exact e1, fun y => by omega⟩
    · exact ⟨_, g, c, e, fun _ => ⟨rfl, by rw [e]; rfl⟩⟩
  have hX : ∀ c, c ∈ nb :: (u.ownBlock.toList ++ Of iX) → (c ∈ Of iB ∨ c ∈ Of iX) ∧ c ≠ C := fun c hc => by
    rcases List.mem_cons.1 hc with y | y
    · exact ⟨.inl (y ▸ mb), fun e => h.nC (by omega)⟩
    rcases List.mem_append.1 y with y | y
    · refine ⟨.inl (by rw [h.ob]; exact List.mem_cons_of_mem _ (List.mem_cons_of_mem _ y)), fun e => ?_⟩
      have := (h.uo.lt c (by simpa using y)).1
      omega
    · exact ⟨.inr y, fun e => h.fam.ap iB iX (by simp) C mC (e ▸ y)⟩
  let X := nb :: (u.ownBlock.toList ++ Of iX)
  have xX : ∀ c, c ∈ Of iX → c ∈ X := fun c hc => List.mem_cons_of_mem _ (List.mem_append.2 (.inr hc))
  have xl : ∀ c, c ∈ X → c < w.heap.size := fun c hc => by
    rcases (hX c hc).1 with y | y
    · exact h.fam.lt _ c y
    · exact h.fam.lt _ c y
  let G : CIx → List Nat := fun i => if i = iB then C :: X else if i = iX then [] else Of i
  have gB : G iB = C :: X := rfl
  have gO : ∀ i, i ≠ iB → i ≠ iX → G i = Of i := fun i h1 h2 => by
    show (if i = iB then C :: X else if i = iX then [] else Of i) = _
    rw [if_neg h1, if_neg h2]
  have hG : ∀ i c, c ∈ G i → i ≠ iX ∧ (c ∈ Of i ∨ (i = iB ∧ c ∈ Of iX)) := fun i c hc => by
    by_cases h1 : i = iB
    · subst h1
      refine ⟨by simp, ?_⟩
      rw [gB] at hc
      rcases List.mem_cons.1 hc with y | y
      · exact .inl (y ▸ mC)
      · rcases (hX c y).1 with z | z
        · exact .inl z
        · exact .inr ⟨rfl, z⟩
    · by_cases h2 : i = iX
      · subst h2
        have : G iX = [] := rfl
        rw [this] at hc
        simp at hc
      · rw [gO i h1 h2] at hc
        exact ⟨h2, .inl hc⟩
  have FG : Fam w G := by
    refine ⟨fun i c hc => ?_, fun i j hij c hc hn => ?_⟩
    · rcases (hG i c hc).2 with y | ⟨_, y⟩
      · exact h.fam.lt i c y
      · exact h.fam.lt _ c y
    · obtain ⟨a1, a2⟩ := hG i c hc
      obtain ⟨b1, b2⟩ := hG j c hn
      rcases a2 with y | ⟨ei, y⟩ <;> rcases b2 with z | ⟨ej, z⟩
      · exact h.fam.ap i j hij c y z
      · exact h.fam.ap i iX a1 c y z
      · exact h.fam.ap iX j (Ne.symm b1) c y z
      · exact hij (ei.trans ej.symm)
  have gl : ∀ i c, c ∈ G i → b0 ≤ c := fun i c hc => by
    rcases (hG i c hc).2 with y | ⟨_, y⟩
    · exact h.lo i c y
    · exact h.lo _ c y
  refine ⟨List.range' b0 (w.heap.size - b0), ⟨X, cb, ccap, sa, scap, nb, ncap, la, lb, lcap, P, S, E, D, R, Q⟩, ⟨G, ?_, gB, FG, fun i c hc => ?_, fun c hc => ?_, fun j hj => ?_, fun i hi => ?_, fun i j hi hj hb => ?_, fun i j hi hj hb => ?_⟩, fun c hc => ?_⟩
  · refine ⟨k.c0, k.c1, k.c3, k.c4, k.c5, k.c6, k.c10, k.c11, k.c12, (h.kc 13 (by decide)).trans h13, by rw [h.c14, hu], h.z, hC, fun y => (hX C y).2 rfl, xl, k.ck, xX _ (h.ox _ k.ckX), fun h0 => ?_, fun j hj => (h.kb.cell (p := ⟨nb, j, none⟩) (List.mem_singleton.2 rfl)).trans (hnd j hj), List.mem_cons_self, fun h0 => ⟨(hla h0).1, List.mem_cons_of_mem _ (List.mem_append.2 (.inl (by rw [(hla h0).2]; exact List.mem_singleton.2 rfl)))⟩, fun i hi => ?_, fun i hi => ⟨xX _ (h.en i hi).1, (h.en i hi).2⟩, fun i j hi hj hb => ?_⟩
    · obtain ⟨b, off, e, hb, hc⟩ := k.sl h0
      exact ⟨b, off, e, xX _ (h.ox _ hb), hc⟩
    · obtain ⟨x, y, z⟩ := triCells_at (fun k => .int .i64 (p.lf k)) (fun k => .pointer (some ⟨S k, 0, none⟩)) (fun k => .slice (some ⟨E k, 0, none⟩) p.n p.n) p.nl i hi
      have cl := h.uo.cells (g := lb) (hla (by omega)).2
      have c0 := cl _ _ x
      have c1 := cl _ _ y
      have c2 := cl _ _ z
      rw [add_at, Nat.zero_add] at c0 c1 c2
      exact ⟨c0, c1, c2⟩
    · obtain ⟨⟨a1, a3, a4⟩, _⟩ := h.dn i j hi hj hb
      exact ⟨xX _ a1, a3, a4⟩
  · have g1 := gl i c hc
    have g2 := FG.lt i c hc
    exact List.mem_range'_1.2 ⟨g1, by omega⟩
  · have := List.mem_range'_1.1 hc
    omega
  · obtain ⟨a, b⟩ := h.node j hj
    rw [gO (iN j) (by simp) (by simp)]
    refine ⟨⟨?_, b⟩, ⟨⟨show (0 : Int) ≤ 1 by decide, show (1 : Int) ≤ ((1 : Nat) : Int) by decide⟩, show (0 : Int) ≤ 0 by decide, show (0 : Int) ≤ ((1 : Nat) : Int) by decide⟩⟩
    show ProgNode w (P j) j p.n (bitsV (fun _ => true) p.n) 1 0 false
    rw [all_bits]
    exact a
  · rw [gO (iS i) (by simp) (by simp)]
    exact ⟨h.snd i hi, ⟨by simp [ClS.start], by simp [ClS.start], by simp [ClS.start]⟩⟩
  · obtain ⟨_, a5, a6⟩ := h.dn i j hi hj hb
    rw [gO (iR i j) (by simp) (by simp)]
    exact ⟨0, 0, a5, ⟨⟨by decide, by decide⟩, by decide, by decide⟩, by show (-1 : Int) ≤ 255; decide⟩
  · obtain ⟨_, a5, a6⟩ := h.dn i j hi hj hb
    rw [gO (iQ i j) (by simp) (by simp)]
    exact ⟨0, a6, ⟨by decide, by decide⟩, by simp [ClS.start]⟩
  · exact (List.mem_range'_1.1 hc).1
end Go.Proofs.YtdmokcnoljlogaaGreatDoor
