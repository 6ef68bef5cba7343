/- WHO HEARS ALIKE TAKES THE SAME, of plain states: what each node takes, how many it counts, who is frozen; slot by slot (ahead of stage 6). -/
import GoSem.Claim
namespace Go.Proofs.Ytjppjdocncmkdab

/-- Whether what a node tells is what another one takes, but for the teller's own bit, which it has. -/
def judB (n who : Nat) (m t : Nat → Bool) : Bool := m who && decide (∀ j, j < n → j ≠ who → m j = t j)
theorem judB_iff {n who : Nat} {m t : Nat → Bool} : judB n who m t = true ↔ m who = true ∧ ∀ j, j < n → j ≠ who → m j = t j := by
  unfold judB
  rw [Bool.and_eq_true, decide_eq_true_eq]

/-- All nodes: what each takes (bit by bit), counts good and bad, whether it is frozen; whether its last slot failed, whether one ever did; whether anything wrong was ever told. -/
structure Al where
  M : Nat → Nat → Bool
  G : Nat → Int
  B : Nat → Int
  F : Nat → Bool
  fl : Nat → Bool
  ev : Nat → Bool
  wr : Bool

/-- Whether the one whose slot it is sends. -/
def Al.ok (s : Al) (who : Nat) : Bool := !s.F who && decide (s.B who < s.G who)
/-- Whether a node hears what is sent as good, or as bad (what: 0 not heard, 1 wrong, else as it is). -/
def Al.good (s : Al) (n who what k : Nat) : Bool := s.ok who && decide (2 ≤ what) && judB n who (s.M who) (s.M k)
def Al.bad (s : Al) (n who what k : Nat) : Bool := s.ok who && decide (1 ≤ what) && !(s.good n who what k)

/-- A slot. -/
def Al.slot (s : Al) (n who what : Nat) : Al where
  M k j := if k = who ∨ s.F k = true then s.M k j else if j = who then s.good n who what k else s.M k j
  G k := if k = who then (if s.ok who = true then 1 else s.G k) else if s.F k = true then s.G k else if s.good n who what k = true then s.G k + 1 else s.G k
  B k := if k = who then (if s.ok who = true then 0 else s.B k) else if s.F k = true then s.B k else if s.bad n who what k = true then s.B k + 1 else s.B k
  F k := if k = who then !s.ok who else s.F k
  fl k := if k = who ∧ s.ok who = true then decide (what < 2) else s.fl k
  ev k := if k = who ∧ s.ok who = true then s.ev k || decide (what < 2) else s.ev k
  wr := s.wr || decide (what = 1)

/-- All that are not frozen, and whose last slot was heard, take the same (h); who failed is taken by none, and counts one good; who neither ever failed nor heard anything wrong counts no bad. -/
structure Al.Fine (s : Al) (n : Nat) (h : Nat → Bool) : Prop where
  same : ∀ k, k < n → s.F k = false → s.fl k = false → ∀ j, j < n → s.M k j = h j
  own : ∀ k, k < n → s.F k = false → s.M k k = true
  out : ∀ k, k < n → s.F k = false → s.fl k = true → h k = false ∧ s.G k = 1 ∧ (s.B k = 0 → ∀ j, j < n → j ≠ k → s.M k j = h j)
  once : ∀ k, k < n → s.F k = false → s.fl k = true → s.ev k = true
  pos : ∀ k, k < n → s.F k = false → 1 ≤ s.G k ∧ 0 ≤ s.B k
  clean : ∀ k, k < n → s.F k = false → s.ev k = false → s.wr = false → s.B k = 0
  froze : ∀ k, k < n → s.F k = true → s.ev k = true ∨ s.wr = true

def Al.start : Al := { M := fun _ _ => true, G := fun _ => 1, B := fun _ => 0, F := fun _ => false, fl := fun _ => false, ev := fun _ => false, wr := false }
theorem Al.start_fine (n : Nat) : Al.start.Fine n (fun _ => true) :=
  ⟨fun _ _ _ _ _ _ => rfl, fun _ _ _ => rfl, fun _ _ _ h => (by cases h), fun _ _ _ h => (by cases h), fun _ _ _ => ⟨Int.le_refl _, Int.le_refl _⟩, fun _ _ _ _ _ => rfl, fun _ _ h => (by cases h)⟩

/-- What the one whose slot it is takes, if it sends: what all right ones take, but for its own bit. -/
theorem Al.Fine.sent {s : Al} {n : Nat} {h : Nat → Bool} (f : s.Fine n h) {who : Nat} (hw : who < n) (ho : s.ok who = true) : s.F who = false ∧ s.M who who = true ∧ ∀ j, j < n → j ≠ who → s.M who j = h j := by
  unfold Al.ok at ho
  simp only [Bool.and_eq_true, Bool.not_eq_true', decide_eq_true_eq] at ho
  obtain ⟨h1, h2⟩ := ho
  refine ⟨h1, f.own who hw h1, fun j hj hne => ?_⟩
  cases e : s.fl who
  · exact f.same who hw h1 e j hj
  · obtain ⟨_, g2, g3⟩ := f.out who hw h1 e
    have := (f.pos who hw h1).2
    exact g3 (by omega) j hj hne
/-- A right one hears it as good, if it is heard as it is. -/
theorem Al.Fine.hears {s : Al} {n : Nat} {h : Nat → Bool} (f : s.Fine n h) {who k what : Nat} (hw : who < n) (ho : s.ok who = true) (hk : k < n) (hF : s.F k = false) (hfl : s.fl k = false) (h2 : 2 ≤ what) : s.good n who what k = true := by
  obtain ⟨_, g2, g3⟩ := f.sent hw ho
  unfold Al.good
  rw [ho, decide_eq_true h2]
  refine judB_iff.2 ⟨g2, fun j hj hne => ?_⟩
  rw [g3 j hj hne, f.same k hk hF hfl j hj]
/-- One that failed hears all that is sent as bad. -/
theorem Al.Fine.not_good {s : Al} {n : Nat} {h : Nat → Bool} (f : s.Fine n h) {who k what : Nat} (hw : who < n) (hne : k ≠ who) (hk : k < n) (hF : s.F k = false) (hfl : s.fl k = true) : s.good n who what k = false := by
  cases ho : s.ok who
  · unfold Al.good; rw [ho]; rfl
  · obtain ⟨_, _, g3⟩ := f.sent hw ho
    cases e : s.good n who what k
    · rfl
    · unfold Al.good at e
      simp only [Bool.and_eq_true] at e
      have := (judB_iff.1 e.2).2 k hk hne
      rw [g3 k hk hne, (f.out k hk hF hfl).1, f.own k hk hF] at this
      cases this

/-- WHO HEARS ALIKE TAKES THE SAME: slot by slot. -/
theorem Al.Fine.slot {s : Al} {n : Nat} {h : Nat → Bool} (f : s.Fine n h) {who what : Nat} (hw : who < n) : (s.slot n who what).Fine n (fun j => if j = who then s.ok who && decide (2 ≤ what) else h j) := by
  -- who is not frozen behind the slot has sent
  have hsent : (s.slot n who what).F who = false → s.ok who = true := fun e => by
    simp only [Al.slot, if_true] at e
    simpa using e
  have hold : ∀ k, k ≠ who → (s.slot n who what).F k = s.F k := fun k hk => by simp only [Al.slot, if_neg hk]
  have hfl : ∀ k, k ≠ who → (s.slot n who what).fl k = s.fl k := fun k hk => by simp only [Al.slot]; rw [if_neg (fun e => hk e.1)]
  have hev : ∀ k, k ≠ who → (s.slot n who what).ev k = s.ev k := fun k hk => by simp only [Al.slot]; rw [if_neg (fun e => hk e.1)]
  have hflw : s.ok who = true → (s.slot n who what).fl who = decide (what < 2) := fun ho => by simp only [Al.slot]; rw [if_pos ⟨trivial, ho⟩]
  have hMw : ∀ j, (s.slot n who what).M who j = s.M who j := fun j => by simp only [Al.slot, true_or, if_true]
  have hM : ∀ k j, k ≠ who → s.F k = false → (s.slot n who what).M k j = if j = who then s.good n who what k else s.M k j := fun k j hk hF => by
    simp only [Al.slot]; rw [if_neg (by simp [hk, hF])]
  refine ⟨fun k hk hF hf j hj => ?_, fun k hk hF => ?_, fun k hk hF hf => ?_, fun k hk hF hf => ?_, fun k hk hF => ?_, fun k hk hF he hwr => ?_, fun k hk hF => ?_⟩
  · by_cases e : k = who
    · subst e
      have ho := hsent hF
      have h2 : 2 ≤ what := by rw [hflw ho] at hf; have := of_decide_eq_false hf; omega
      obtain ⟨_, g2, g3⟩ := f.sent hw ho
      rw [hMw]
      by_cases ej : j = k
      · subst ej; simp only [if_true]; rw [g2, ho, decide_eq_true h2]; rfl
      · rw [if_neg ej]; exact g3 j hj ej
    · rw [hold k e] at hF
      rw [hfl k e] at hf
      rw [hM k j e hF]
      by_cases ej : j = who
      · rw [if_pos ej, if_pos ej]
        cases ho : s.ok who
        · unfold Al.good; rw [ho]; rfl
        · by_cases h2 : 2 ≤ what
          · rw [f.hears hw ho hk hF hf h2, decide_eq_true h2]; rfl
          · unfold Al.good; rw [ho, decide_eq_false h2]; rfl
      · rw [if_neg ej, if_neg ej]; exact f.same k hk hF hf j hj
  · by_cases e : k = who
    · subst e
      rw [hMw]; exact (f.sent hw (hsent hF)).2.1
    · rw [hold k e] at hF
      rw [hM k k e hF, if_neg e]; exact f.own k hk hF
  · by_cases e : k = who
    · subst e
      have ho := hsent hF
      have h2 : ¬ 2 ≤ what := by rw [hflw ho] at hf; have := of_decide_eq_true hf; omega
      refine ⟨?_, ?_, fun _ j hj hne => ?_⟩
      · simp only [if_true]; rw [decide_eq_false h2, Bool.and_false]
      · simp only [Al.slot, if_true]; rw [if_pos ho]
      · rw [hMw, if_neg hne]; exact (f.sent hw ho).2.2 j hj hne
    · rw [hold k e] at hF
      rw [hfl k e] at hf
      obtain ⟨g1, g2, g3⟩ := f.out k hk hF hf
      have hng : s.good n who what k = false := f.not_good hw e hk hF hf
      refine ⟨by rw [if_neg e]; exact g1, ?_, fun hb j hj hne => ?_⟩
      · simp only [Al.slot]; rw [if_neg e, if_neg (by simp [hF]), if_neg (by simp [hng])]; exact g2
      · simp only [Al.slot] at hb
        rw [if_neg e, if_neg (by simp [hF])] at hb
        have h0 := (f.pos k hk hF).2
        by_cases hbd : s.bad n who what k = true
        · rw [if_pos hbd] at hb; omega
        · rw [if_neg hbd] at hb
          rw [hM k j e hF]
          by_cases ej : j = who
          · rw [if_pos ej, if_pos ej, hng]
            unfold Al.bad at hbd
            rw [hng] at hbd
            cases ho : s.ok who
            · rfl
            · rw [ho] at hbd
              simp at hbd
              rw [decide_eq_false (by omega)]; rfl
          · rw [if_neg ej, if_neg ej]; exact g3 hb j hj hne
  · by_cases e : k = who
    · subst e
      have ho := hsent hF
      have h2 := hf
      rw [hflw ho] at h2
      simp only [Al.slot]
      rw [if_pos ⟨trivial, ho⟩, h2, Bool.or_true]
    · rw [hold k e] at hF
      rw [hfl k e] at hf
      rw [hev k e]; exact f.once k hk hF hf
  · by_cases e : k = who
    · subst e
      have ho := hsent hF
      simp only [Al.slot, if_true]
      rw [if_pos ho, if_pos ho]
      decide
    · rw [hold k e] at hF
      have := f.pos k hk hF
      simp only [Al.slot, if_neg e, hF, Bool.false_eq_true, if_false]
      constructor <;> split <;> omega
  · have hw2 : s.wr = false ∧ what ≠ 1 := by
      simp only [Al.slot, Bool.or_eq_false_iff, decide_eq_false_iff_not] at hwr
      exact hwr
    by_cases e : k = who
    · subst e
      simp only [Al.slot, if_true]
      rw [if_pos (hsent hF)]
    · rw [hold k e] at hF
      rw [hev k e] at he
      have hnf : s.fl k = false := by
        cases q : s.fl k
        · rfl
        · have := f.once k hk hF q
          rw [he] at this; cases this
      have hb : s.bad n who what k = false := by
        unfold Al.bad
        cases ho : s.ok who
        · rfl
        · by_cases h2 : 2 ≤ what
          · rw [f.hears hw ho hk hF hnf h2]; simp
          · rw [decide_eq_false (by omega)]; rfl
      simp only [Al.slot]
      rw [if_neg e, if_neg (by simp [hF]), if_neg (by simp [hb])]
      exact f.clean k hk hF he hw2.1
  · have hmono : s.wr = true → (s.slot n who what).wr = true := fun q => by simp only [Al.slot]; rw [q]; rfl
    by_cases e : k = who
    · subst e
      simp only [Al.slot, if_true] at hF
      have ho : s.ok k = false := by simpa using hF
      have hevk : (s.slot n k what).ev k = s.ev k := by simp only [Al.slot]; rw [if_neg (by simp [ho])]
      rw [hevk]
      cases q : s.F k
      · cases q2 : s.ev k
        · cases q3 : s.wr
          · have h0 := f.clean k hk q q2 q3
            have h1 := (f.pos k hk q).1
            unfold Al.ok at ho
            rw [q] at ho
            simp at ho
            omega
          · exact .inr (hmono q3)
        · exact .inl rfl
      · rcases f.froze k hk q with z | z
        · exact .inl z
        · exact .inr (hmono z)
    · rw [hold k e] at hF
      rw [hev k e]
      rcases f.froze k hk hF with z | z
      · exact .inl z
      · exact .inr (hmono z)
end Go.Proofs.Ytjppjdocncmkdab
