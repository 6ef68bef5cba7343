/- What is read of bytes is what was written, and the other way round (plain). -/
import Derived.Test.YtlpojkehbhkdiaaPlanDecode
namespace Go.Proofs.Ytlpojkehbhkdiaa

theorem stAt_none (i : Nat) : stAt none i = none := by
  induction i with
  | zero => rfl
  | succ i ih => show (nx (stAt none i)).2 = none; rw [ih]; rfl
theorem rowsSt_none (wd : Nat) (most : Int) (h : 0 ≤ most) : rowsSt wd most none = none := by
  unfold rowsSt
  rw [nx_none, if_neg (by show ¬ most < 0; omega)]
  exact stAt_none _

theorem bytesOf_cons (x : Int) (t : List Int) : bytesOf (x :: t) = numB 5 x.toNat ++ bytesOf t := by simp [bytesOf]
/-- Numbers that were written are read. -/
theorem nx_bytes {x : Int} (h0 : 0 ≤ x) (h1 : x ≤ 1099511627776) (r : List Int) : nx (some (numB 5 x.toNat ++ r)) = (x, some r) := nx_some (rd_complete h0 h1 r)
theorem stAt_bytes {L : List Int} (hL : ∀ x ∈ L, 0 ≤ x ∧ x ≤ 1099511627776) (r : List Int) : ∀ i, i ≤ L.length → stAt (some (bytesOf L ++ r)) i = some (bytesOf (L.drop i) ++ r) := by
  intro i
  induction i with
  | zero => intro _; rfl
  | succ i ih =>
    intro hi
    have hx := hL (L[i]'(by omega)) (List.getElem_mem _)
    show (nx (stAt (some (bytesOf L ++ r)) i)).2 = _
    rw [ih (by omega), List.drop_eq_getElem_cons (show i < L.length by omega)]
    have e : bytesOf (L[i]'(by omega) :: L.drop (i + 1)) ++ r = numB 5 (L[i]'(by omega)).toNat ++ (bytesOf (L.drop (i + 1)) ++ r) := by rw [bytesOf_cons, List.append_assoc]
    rw [e, nx_bytes hx.1 hx.2]
theorem nth_bytes {L : List Int} (hL : ∀ x ∈ L, 0 ≤ x ∧ x ≤ 1099511627776) (r : List Int) (i : Nat) (hi : i < L.length) : nth (some (bytesOf L ++ r)) i = L[i] := by
  have hx := hL (L[i]'(by omega)) (List.getElem_mem _)
  unfold nth
  rw [stAt_bytes hL r i (by omega), List.drop_eq_getElem_cons hi]
  have e : bytesOf (L[i] :: L.drop (i + 1)) ++ r = numB 5 (L[i]).toNat ++ (bytesOf (L.drop (i + 1)) ++ r) := by rw [bytesOf_cons, List.append_assoc]
  rw [e, nx_bytes hx.1 hx.2]

/-- What was read had been written so. -/
theorem stAt_sound {bs : List Int} (hb : ∀ b ∈ bs, 0 ≤ b ∧ b < 256) : ∀ (k : Nat) (r : List Int), stAt (some bs) k = some r →
    bs = bytesOf ((List.range k).map (nth (some bs))) ++ r ∧ ∀ i, i < k → 0 ≤ nth (some bs) i ∧ nth (some bs) i ≤ 1099511627776 := by
  intro k
  induction k with
  | zero =>
    intro r h
    cases h
    exact ⟨by simp [bytesOf], fun i hi => absurd hi (Nat.not_lt_zero _)⟩
  | succ k ih =>
    intro r h
    cases hs : stAt (some bs) k with
    | none =>
      have h' : (nx (stAt (some bs) k)).2 = some r := h
      rw [hs] at h'
      cases h'
    | some r0 =>
      obtain ⟨e0, e1⟩ := ih r0 hs
      have h' : (nx (stAt (some bs) k)).2 = some r := h
      have hn : nth (some bs) k = (nx (some r0)).1 := by unfold nth; rw [hs]
      rw [hs] at h'
      cases hr : rd r0 with
      | none => rw [nx_bad hr] at h'; cases h'
      | some p =>
        obtain ⟨n, r1⟩ := p
        rw [nx_some hr] at h' hn
        cases h'
        have hb0 : ∀ b ∈ r0, 0 ≤ b ∧ b < 256 := fun b hm => hb b (by rw [e0]; exact List.mem_append_right _ hm)
        obtain ⟨g1, g2, g3⟩ := rd_sound hb0 hr
        have hn' : nth (some bs) k = n := hn
        refine ⟨?_, fun i hi => ?_⟩
        · rw [List.range_succ, List.map_append, bytesOf_append, List.append_assoc]
          have e2 : bytesOf (List.map (nth (some bs)) [k]) ++ r = r0 := by
            rw [g3]; simp [bytesOf, hn']
          rw [e2]; exact e0
        · rcases Nat.lt_succ_iff_lt_or_eq.1 hi with q | q
          · exact e1 i q
          · subst q; rw [hn']; exact ⟨g1, g2⟩

theorem flat3 (f : Nat → Int) (n : Nat) : slotsTo (fun j => f (3 * j)) (fun j => f (3 * j + 1)) (fun j => f (3 * j + 2)) n = (List.range (3 * n)).map f := by
  induction n with
  | zero => rfl
  | succ n ih =>
    rw [slotsTo_succ, ih, show 3 * (n + 1) = 3 * n + 1 + 1 + 1 by omega, List.range_succ, List.range_succ, List.range_succ]
    simp
theorem flat4 (f : Nat → Int) (n : Nat) : linksN (fun j => f (4 * j)) (fun j => f (4 * j + 1)) (fun j => f (4 * j + 2)) (fun j => f (4 * j + 3)) n = (List.range (4 * n)).map f := by
  induction n with
  | zero => rfl
  | succ n ih =>
    rw [linksN_succ, ih, show 4 * (n + 1) = 4 * n + 1 + 1 + 1 + 1 by omega, List.range_succ, List.range_succ, List.range_succ, List.range_succ]
    simp
theorem range_map_add (f : Nat → Int) (a b : Nat) : (List.range (a + b)).map f = (List.range a).map f ++ (List.range b).map (fun i => f (a + i)) := by
  rw [List.range_add, List.map_append, List.map_map]; rfl
theorem nth_zero {bs : List Int} (hb : ∀ b ∈ bs, 0 ≤ b ∧ b < 256) (i : Nat) : 0 ≤ nth (some bs) i := by
  unfold nth
  cases hs : stAt (some bs) i with
  | none => simp [nx]
  | some r =>
    have h := stAt_sound hb i r hs
    exact (nx_range (some r) (fun q hq => by cases hq; exact fun b hm => hb b (by rw [h.1]; exact List.mem_append_right _ hm))).1

/-- Rows that are read, by numbers' places. -/
theorem rows_at {st : St} (wd : Nat) {most : Int} {k : Nat} (h : rowsSt wd most (stAt st k) ≠ none) : rowsN most (stAt st k) = (nth st k).toNat ∧ nth st k ≤ most ∧ rowsSt wd most (stAt st k) = stAt st (k + 1 + wd * (nth st k).toNat) := by
  unfold rowsSt at h
  by_cases hm : most < (nx (stAt st k)).1
  · rw [if_pos hm] at h; exact absurd rfl h
  · have e : (nx (stAt st k)).2 = stAt st (k + 1) := rfl
    refine ⟨by unfold rowsN; rw [if_neg hm]; rfl, by unfold nth; omega, ?_⟩
    unfold rowsSt
    rw [if_neg hm, e, stAt_add]; rfl
/-- The places in a plan's numbers. -/
structure Places (st : St) (ns nl nw : Nat) : Prop where
  n1 : rowsN 32 (stAt st 6) = ns
  n2 : rowsN 8 (rowsSt 3 32 (stAt st 6)) = nl
  n3 : rowsN 32 (nx (rowsSt 4 8 (rowsSt 3 32 (stAt st 6)))).2 = nw
  e1 : nth st 6 = ns
  e2 : nth st (7 + 3 * ns) = nl
  e3 : nth st (9 + 3 * ns + 4 * nl) = nw
  b1 : ns ≤ 32
  b2 : nl ≤ 8
  b3 : nw ≤ 32
  s1 : rowsSt 3 32 (stAt st 6) = stAt st (7 + 3 * ns)
  s2 : rowsSt 4 8 (rowsSt 3 32 (stAt st 6)) = stAt st (8 + 3 * ns + 4 * nl)
  s3 : endSt st = stAt st (10 + 3 * ns + 4 * nl + 3 * nw)
theorem places_sound {bs : List Int} (hb : ∀ b ∈ bs, 0 ≤ b ∧ b < 256) (h : endSt (some bs) ≠ none) : ∃ ns nl nw, Places (some bs) ns nl nw := by
  have hne : ∀ {wd : Nat} {most : Int} {s : St}, 0 ≤ most → rowsSt wd most s ≠ none → s ≠ none := fun hm q e => q (by rw [e]; exact rowsSt_none _ _ hm)
  have h3 : (nx (rowsSt 4 8 (rowsSt 3 32 (stAt (some bs) 6)))).2 ≠ none := hne (by decide) h
  have h2 : rowsSt 4 8 (rowsSt 3 32 (stAt (some bs) 6)) ≠ none := fun e => h3 (by rw [e]; rfl)
  have h1 : rowsSt 3 32 (stAt (some bs) 6) ≠ none := hne (by decide) h2
  obtain ⟨a1, a2, a3⟩ := rows_at 3 h1
  have z1 := nth_zero hb 6
  obtain ⟨ns, hns⟩ : ∃ ns : Nat, nth (some bs) 6 = ns := ⟨(nth (some bs) 6).toNat, by omega⟩
  rw [hns] at a1 a2 a3
  simp only [Int.toNat_natCast] at a1 a3
  have s1 : rowsSt 3 32 (stAt (some bs) 6) = stAt (some bs) (7 + 3 * ns) := a3
  have h2' := h2
  rw [s1] at h2'
  obtain ⟨c1, c2, c3⟩ := rows_at 4 h2'
  have z2 := nth_zero hb (7 + 3 * ns)
  obtain ⟨nl, hnl⟩ : ∃ nl : Nat, nth (some bs) (7 + 3 * ns) = nl := ⟨(nth (some bs) (7 + 3 * ns)).toNat, by omega⟩
  rw [hnl] at c1 c2 c3
  simp only [Int.toNat_natCast] at c1 c3
  have s2 : rowsSt 4 8 (rowsSt 3 32 (stAt (some bs) 6)) = stAt (some bs) (8 + 3 * ns + 4 * nl) := by rw [s1, c3]; congr 1; omega
  have s2' : (nx (rowsSt 4 8 (rowsSt 3 32 (stAt (some bs) 6)))).2 = stAt (some bs) (9 + 3 * ns + 4 * nl) := by
    rw [s2]; show stAt (some bs) (8 + 3 * ns + 4 * nl + 1) = _; congr 1; omega
  have h' : rowsSt 3 32 (stAt (some bs) (9 + 3 * ns + 4 * nl)) ≠ none := by rw [← s2']; exact h
  obtain ⟨d1, d2, d3⟩ := rows_at 3 h'
  have z3 := nth_zero hb (9 + 3 * ns + 4 * nl)
  obtain ⟨nw, hnw⟩ : ∃ nw : Nat, nth (some bs) (9 + 3 * ns + 4 * nl) = nw := ⟨(nth (some bs) (9 + 3 * ns + 4 * nl)).toNat, by omega⟩
  rw [hnw] at d1 d2 d3
  simp only [Int.toNat_natCast] at d1 d3
  refine ⟨ns, nl, nw, a1, ?_, ?_, hns, hnl, hnw, by omega, by omega, by omega, s1, s2, ?_⟩
  · rw [s1]; exact c1
  · rw [s2']; exact d1
  · show rowsSt 3 32 (nx (rowsSt 4 8 (rowsSt 3 32 (stAt (some bs) 6)))).2 = _
    rw [s2', d3]; congr 1; omega
/-- A plan's numbers, as they were read. -/
theorem Places.nums {st : St} {ns nl nw : Nat} (h : Places st ns nl nw) :
    planNums (nth st 0) (nth st 1) (nth st 2) (nth st 3) (nth st 4) (nth st 5) (nx (rowsSt 4 8 (rowsSt 3 32 (stAt st 6)))).1 (rowsN 32 (stAt st 6)) (rowsN 8 (rowsSt 3 32 (stAt st 6))) (rowsN 32 (nx (rowsSt 4 8 (rowsSt 3 32 (stAt st 6)))).2)
      (fun j => nth (nx (stAt st 6)).2 (3 * j)) (fun j => nth (nx (stAt st 6)).2 (3 * j + 1)) (fun j => nth (nx (stAt st 6)).2 (3 * j + 2))
      (fun j => nth (nx (rowsSt 3 32 (stAt st 6))).2 (4 * j)) (fun j => nth (nx (rowsSt 3 32 (stAt st 6))).2 (4 * j + 1)) (fun j => nth (nx (rowsSt 3 32 (stAt st 6))).2 (4 * j + 2)) (fun j => nth (nx (rowsSt 3 32 (stAt st 6))).2 (4 * j + 3))
      (fun j => nth (nx (nx (rowsSt 4 8 (rowsSt 3 32 (stAt st 6)))).2).2 (3 * j)) (fun j => nth (nx (nx (rowsSt 4 8 (rowsSt 3 32 (stAt st 6)))).2).2 (3 * j + 1)) (fun j => nth (nx (nx (rowsSt 4 8 (rowsSt 3 32 (stAt st 6)))).2).2 (3 * j + 2))
    = (List.range (10 + 3 * ns + 4 * nl + 3 * nw)).map (nth st) := by
  have t1 : (nx (stAt st 6)).2 = stAt st 7 := rfl
  have t2 : (nx (rowsSt 3 32 (stAt st 6))).2 = stAt st (8 + 3 * ns) := by rw [h.s1]; show stAt st (7 + 3 * ns + 1) = _; congr 1; omega
  have t3 : (nx (rowsSt 4 8 (rowsSt 3 32 (stAt st 6)))).1 = nth st (8 + 3 * ns + 4 * nl) := by rw [h.s2]; rfl
  have t4 : (nx (rowsSt 4 8 (rowsSt 3 32 (stAt st 6)))).2 = stAt st (9 + 3 * ns + 4 * nl) := by rw [h.s2]; show stAt st (8 + 3 * ns + 4 * nl + 1) = _; congr 1; omega
  have t5 : (nx (stAt st (9 + 3 * ns + 4 * nl))).2 = stAt st (10 + 3 * ns + 4 * nl) := by show stAt st (9 + 3 * ns + 4 * nl + 1) = _; congr 1; omega
  have n3 := h.n3
  rw [h.n1, h.n2, n3]
  unfold planNums
  rw [t1, t2, t3, t4, t5]
  simp only [nth_add]
  have q1 := flat3 (fun i => nth st (7 + i)) ns
  have q2 := flat4 (fun i => nth st (8 + 3 * ns + i)) nl
  have q3 := flat3 (fun i => nth st (10 + 3 * ns + 4 * nl + i)) nw
  rw [q1, q2, q3]
  rw [range_map_add (nth st) (10 + 3 * ns + 4 * nl) (3 * nw)]
  have r1 : (List.range (10 + 3 * ns + 4 * nl)).map (nth st) = (List.range (8 + 3 * ns)).map (nth st) ++ (List.range (4 * nl)).map (fun i => nth st (8 + 3 * ns + i)) ++ [nth st (8 + 3 * ns + 4 * nl), nth st (9 + 3 * ns + 4 * nl)] := by
    rw [show 10 + 3 * ns + 4 * nl = (8 + 3 * ns + 4 * nl) + 2 by omega, range_map_add, range_map_add (nth st) (8 + 3 * ns) (4 * nl)]
    congr 1
    show [nth st (8 + 3 * ns + 4 * nl + 0), nth st (8 + 3 * ns + 4 * nl + 1)] = _
    rw [show 8 + 3 * ns + 4 * nl + 1 = 9 + 3 * ns + 4 * nl by omega]
    rfl
  have r2 : (List.range (8 + 3 * ns)).map (nth st) = [nth st 0, nth st 1, nth st 2, nth st 3, nth st 4, nth st 5, nth st 6] ++ (List.range (3 * ns)).map (fun i => nth st (7 + i)) ++ [nth st (7 + 3 * ns)] := by
    rw [show 8 + 3 * ns = (7 + 3 * ns) + 1 by omega, range_map_add, range_map_add (nth st) 7 (3 * ns)]
    rfl
  rw [r1, r2, h.e1, h.e2, h.e3]
/-- Bytes that are read to their end are a plan's numbers' bytes. -/
theorem read_sound {bs : List Int} (hb : ∀ b ∈ bs, 0 ≤ b ∧ b < 256) (h : endSt (some bs) = some []) : ∃ ns nl nw, Places (some bs) ns nl nw ∧ bs = bytesOf ((List.range (10 + 3 * ns + 4 * nl + 3 * nw)).map (nth (some bs))) ∧ ∀ i, i < 10 + 3 * ns + 4 * nl + 3 * nw → 0 ≤ nth (some bs) i ∧ nth (some bs) i ≤ 1099511627776 := by
  obtain ⟨ns, nl, nw, hp⟩ := places_sound hb (by rw [h]; simp)
  have hs := stAt_sound hb _ _ (hp.s3.symm.trans h)
  exact ⟨ns, nl, nw, hp, by simpa using hs.1, hs.2⟩

/-- What was written of a plan is read to its end. -/
theorem places_complete {nodes faulty skew jitter drift round frame : Int} {ns nl nw : Nat} {nd fr to lf lt lb lq wp wf wt : Nat → Int} (d1 : ns ≤ 32) (d2 : nl ≤ 8) (d3 : nw ≤ 32)
    (hN : ∀ x ∈ planNums nodes faulty skew jitter drift round frame ns nl nw nd fr to lf lt lb lq wp wf wt, 0 ≤ x ∧ x ≤ 1099511627776) :
    Places (some (bytesOf (planNums nodes faulty skew jitter drift round frame ns nl nw nd fr to lf lt lb lq wp wf wt))) ns nl nw ∧ endSt (some (bytesOf (planNums nodes faulty skew jitter drift round frame ns nl nw nd fr to lf lt lb lq wp wf wt))) = some [] ∧
      ∀ i (h : i < (planNums nodes faulty skew jitter drift round frame ns nl nw nd fr to lf lt lb lq wp wf wt).length), nth (some (bytesOf (planNums nodes faulty skew jitter drift round frame ns nl nw nd fr to lf lt lb lq wp wf wt))) i = (planNums nodes faulty skew jitter drift round frame ns nl nw nd fr to lf lt lb lq wp wf wt)[i] := by
  have hlen := planNums_len nodes faulty skew jitter drift round frame ns nl nw nd fr to lf lt lb lq wp wf wt
  have i6 : (planNums nodes faulty skew jitter drift round frame ns nl nw nd fr to lf lt lb lq wp wf wt)[6]? = some (ns : Int) := by simp [planNums]
  have i7 : (planNums nodes faulty skew jitter drift round frame ns nl nw nd fr to lf lt lb lq wp wf wt)[7 + 3 * ns]? = some (nl : Int) := by
    unfold planNums
    rw [List.append_assoc, List.append_assoc, List.append_assoc, List.getElem?_append_right (by simp [slotsTo_len]; omega)]
    simp [slotsTo_len]
    rw [show 7 + 3 * ns - (3 * ns + 1 + 1 + 1 + 1 + 1 + 1 + 1) = 0 by omega]
    rfl
  have i9 : (planNums nodes faulty skew jitter drift round frame ns nl nw nd fr to lf lt lb lq wp wf wt)[9 + 3 * ns + 4 * nl]? = some (nw : Int) := by
    unfold planNums
    rw [List.append_assoc, List.getElem?_append_right (by simp [slotsTo_len, linksN_len]; omega)]
    simp [slotsTo_len, linksN_len]
    rw [show 9 + 3 * ns + 4 * nl - (3 * ns + (4 * nl + 1) + 1 + 1 + 1 + 1 + 1 + 1 + 1) = 1 by omega]
    rfl
  generalize planNums nodes faulty skew jitter drift round frame ns nl nw nd fr to lf lt lb lq wp wf wt = N at hN hlen i6 i7 i9 ⊢
  have hst : ∀ i, i ≤ N.length → stAt (some (bytesOf N)) i = some (bytesOf (N.drop i)) := fun i hi => by simpa using stAt_bytes hN [] i hi
  have hnt : ∀ i (h : i < N.length), nth (some (bytesOf N)) i = N[i] := fun i hi => by simpa using nth_bytes hN [] i hi
  have g : ∀ {i : Nat} {v : Int}, N[i]? = some v → nth (some (bytesOf N)) i = v := fun {i v} e => by
    obtain ⟨h, e'⟩ := List.getElem?_eq_some_iff.1 e
    rw [hnt i h]; exact e'
  have e1 := g i6
  have e2 := g i7
  have e3 := g i9
  generalize hS : (some (bytesOf N) : St) = st at hst hnt e1 e2 e3 ⊢
  have row : ∀ {wd : Nat} {most : Int} {k n : Nat}, nth st k = (n : Int) → (n : Int) ≤ most → rowsN most (stAt st k) = n ∧ rowsSt wd most (stAt st k) = stAt st (k + 1 + wd * n) := by
    intro wd most k n e hm
    have e' : (nx (stAt st k)).1 = (n : Int) := e
    have hm' : ¬ most < (nx (stAt st k)).1 := by omega
    refine ⟨by unfold rowsN; rw [if_neg hm', e']; simp, ?_⟩
    unfold rowsSt
    rw [if_neg hm', e']
    show stAt (stAt st (k + 1)) _ = _
    rw [stAt_add]; simp
  obtain ⟨r1, r2⟩ := row (wd := 3) (most := 32) e1 (by omega)
  have s1 : rowsSt 3 32 (stAt st 6) = stAt st (7 + 3 * ns) := r2
  obtain ⟨r3, r4⟩ := row (wd := 4) (most := 8) e2 (by omega)
  have s2 : rowsSt 4 8 (rowsSt 3 32 (stAt st 6)) = stAt st (8 + 3 * ns + 4 * nl) := by rw [s1, r4]; congr 1; omega
  have s2' : (nx (rowsSt 4 8 (rowsSt 3 32 (stAt st 6)))).2 = stAt st (9 + 3 * ns + 4 * nl) := by
    rw [s2]; show stAt st (8 + 3 * ns + 4 * nl + 1) = _; congr 1; omega
  obtain ⟨r5, r6⟩ := row (wd := 3) (most := 32) e3 (by omega)
  have s3 : endSt st = stAt st (10 + 3 * ns + 4 * nl + 3 * nw) := by
    show rowsSt 3 32 (nx (rowsSt 4 8 (rowsSt 3 32 (stAt st 6)))).2 = _
    rw [s2', r6]; congr 1; omega
  refine ⟨⟨r1, by rw [s1]; exact r3, by rw [s2']; exact r5, e1, e2, e3, d1, d2, d3, s1, s2, s3⟩, ?_, fun i h => hnt i h⟩
  rw [s3, hst _ (by omega), List.drop_eq_nil_of_le (by omega)]; rfl
end Go.Proofs.Ytlpojkehbhkdiaa
