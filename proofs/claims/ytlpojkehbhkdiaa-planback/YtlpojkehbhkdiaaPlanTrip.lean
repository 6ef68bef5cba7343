/- A plan there and back: what Encode wrote Decode reads, and no beginning of it. (Made by tools/gen_plantrip.py.) -/
import Derived.Test.YtlpojkehbhkdiaaPlanSound
import Derived.Test.YtlpojkehbhkdiaaPlanEncode
import Derived.Test.YtlpojkehbhkdiaaPlanNumsOk
import Derived.Test.YtlpojkehbhkdiaaSame
namespace Go.Proofs.Ytlpojkehbhkdiaa
open Go.RowKit

theorem FirstBad.congr {f g : Nat → Int} {n : Nat} {e i : Int} (h : ∀ j, j < n → f j = g j) (hf : FirstBad f n e i) : FirstBad g n e i := by
  rcases hf with ⟨h0, h1⟩ | ⟨k, hk, h0, h1, h2⟩
  · exact .inl ⟨fun j hj => (h j hj).symm.trans (h0 j hj), h1⟩
  · exact .inr ⟨k, hk, fun j hj => (h j (by omega)).symm.trans (h0 j hj), (h k hk).symm.trans h1, h2⟩
theorem slotErr_congr {nd fr to nd' fr' to' : Nat → Int} {nodes skew round : Int} {n : Nat} (h1 : ∀ j, j < n → nd j = nd' j) (h2 : ∀ j, j < n → fr j = fr' j) (h3 : ∀ j, j < n → to j = to' j) (j : Nat) (hj : j < n) : slotErr nd fr to nodes skew round j = slotErr nd' fr' to' nodes skew round j := by
  unfold slotErr; rw [h1 j hj, h2 j hj, h3 j hj, h3 (j - 1) (by omega)]
theorem winErr_congr {nd fr to nd' fr' to' : Nat → Int} {frame : Int} {n : Nat} (h1 : ∀ j, j < n → nd j = nd' j) (h2 : ∀ j, j < n → fr j = fr' j) (h3 : ∀ j, j < n → to j = to' j) (j : Nat) (hj : j < n) : winErr nd fr to frame j = winErr nd' fr' to' frame j := by
  unfold winErr; rw [h1 j hj, h2 j hj, h3 j hj, h3 (j - 1) (by omega)]
theorem linkErr_congr {lf lt lb lq lf' lt' lb' lq' : Nat → Int} {nodes pw : Int} {n : Nat} (h1 : ∀ j, j < n → lf j = lf' j) (h2 : ∀ j, j < n → lt j = lt' j) (h3 : ∀ j, j < n → lb j = lb' j) (h4 : ∀ j, j < n → lq j = lq' j) (j : Nat) (hj : j < n) :
    linkErr lf lt lb lq (fun j => bits BinOp.and .i64 (lt j) (2 ^ (lf j).toNat) != 0) nodes pw j = linkErr lf' lt' lb' lq' (fun j => bits BinOp.and .i64 (lt' j) (2 ^ (lf' j).toNat) != 0) nodes pw j := by
  unfold linkErr; simp only [h1 j hj, h2 j hj, h3 j hj, h4 j hj]
theorem CheckIs.congr {nodes faulty skew jitter drift round frame : Int} {ns nl nw : Nat} {nd fr to lf lt lb lq wp wf wt nd' fr' to' lf' lt' lb' lq' wp' wf' wt' : Nat → Int} {pw E I : Int}
    (a1 : ∀ j, j < ns → nd j = nd' j) (a2 : ∀ j, j < ns → fr j = fr' j) (a3 : ∀ j, j < ns → to j = to' j) (b1 : ∀ j, j < nl → lf j = lf' j) (b2 : ∀ j, j < nl → lt j = lt' j) (b3 : ∀ j, j < nl → lb j = lb' j) (b4 : ∀ j, j < nl → lq j = lq' j) (c1 : ∀ j, j < nw → wp j = wp' j) (c2 : ∀ j, j < nw → wf j = wf' j) (c3 : ∀ j, j < nw → wt j = wt' j)
    (h : CheckIs nodes faulty skew jitter drift round frame ns nl nw nd fr to lf lt lb lq (fun j => bits BinOp.and .i64 (lt j) (2 ^ (lf j).toNat) != 0) pw wp wf wt E I) : CheckIs nodes faulty skew jitter drift round frame ns nl nw nd' fr' to' lf' lt' lb' lq' (fun j => bits BinOp.and .i64 (lt' j) (2 ^ (lf' j).toNat) != 0) pw wp' wf' wt' E I := by
  rcases h with h | ⟨h0, e1, i1, e2, i2, e3, i3, g1, g2, g3, g4⟩
  · exact .inl h
  · exact .inr ⟨h0, e1, i1, e2, i2, e3, i3, g1.congr (slotErr_congr a1 a2 a3), g2.congr (linkErr_congr b1 b2 b3 b4), g3.congr (winErr_congr c1 c2 c3), g4⟩
theorem Rows3.congr {w : World} {a : Option Addr} {n : Nat} {f g h f' g' h' : Nat → Int} (r : Rows3 w a n f g h) (h1 : ∀ j, j < n → f j = f' j) (h2 : ∀ j, j < n → g j = g' j) (h3 : ∀ j, j < n → h j = h' j) : Rows3 w a n f' g' h' := by
  intro hn
  obtain ⟨b, off, e, hb, hc⟩ := r hn
  exact ⟨b, off, e, hb, fun j hj => by rw [← h1 j hj, ← h2 j hj, ← h3 j hj]; exact hc j hj⟩
theorem Rows4.congr {w : World} {a : Option Addr} {n : Nat} {f g h k f' g' h' k' : Nat → Int} (r : Rows4 w a n f g h k) (h1 : ∀ j, j < n → f j = f' j) (h2 : ∀ j, j < n → g j = g' j) (h3 : ∀ j, j < n → h j = h' j) (h4 : ∀ j, j < n → k j = k' j) : Rows4 w a n f' g' h' k' := by
  intro hn
  obtain ⟨b, off, e, hb, hc⟩ := r hn
  exact ⟨b, off, e, hb, fun j hj => by rw [← h1 j hj, ← h2 j hj, ← h3 j hj, ← h4 j hj]; exact hc j hj⟩
theorem owns_row_cap {w : World} {base : Nat} {v : Value} {xs : List Int} (h : w.ownsRow base 5 1 v xs.length (xs.map (Value.int .u8))) (hn : 1 ≤ xs.length) :
    ∃ g cap, v = .slice (some ⟨g, 0, none⟩) xs.length cap ∧ xs.length ≤ cap ∧ g < w.heap.size ∧ ∀ j (hj : j < xs.length), w.cell? ⟨g, 0 + j, none⟩ = some (.int .u8 xs[j]) := by
  obtain ⟨g, cap, rfl, _, hc⟩ := owns_some h hn
  have hcell : ∀ j (hj : j < xs.length), w.cell? ⟨g, 0 + j, none⟩ = some (.int .u8 xs[j]) := fun j hj => by
    have := hc j (.int .u8 xs[j]) (by simp [hj])
    rwa [add_plain] at this
  refine ⟨g, cap, rfl, ?_, lt_of_cell (hcell 0 (by omega)), hcell⟩
  rcases h.2 with ⟨_, h0⟩ | ⟨g', cap', cur, e, _, _, hle, _⟩
  · omega
  · simp at e
    obtain ⟨_, rfl⟩ := e
    exact hle

/-- The numbers of a plan, by their places. -/
theorem plan_at (nodes faulty skew jitter drift round frame : Int) (ns nl nw : Nat) (nd fr to lf lt lb lq wp wf wt : Nat → Int) :
    (planNums nodes faulty skew jitter drift round frame ns nl nw nd fr to lf lt lb lq wp wf wt)[0]? = some nodes ∧ (planNums nodes faulty skew jitter drift round frame ns nl nw nd fr to lf lt lb lq wp wf wt)[1]? = some faulty ∧ (planNums nodes faulty skew jitter drift round frame ns nl nw nd fr to lf lt lb lq wp wf wt)[2]? = some skew ∧ (planNums nodes faulty skew jitter drift round frame ns nl nw nd fr to lf lt lb lq wp wf wt)[3]? = some jitter ∧ (planNums nodes faulty skew jitter drift round frame ns nl nw nd fr to lf lt lb lq wp wf wt)[4]? = some drift ∧ (planNums nodes faulty skew jitter drift round frame ns nl nw nd fr to lf lt lb lq wp wf wt)[5]? = some round ∧ (planNums nodes faulty skew jitter drift round frame ns nl nw nd fr to lf lt lb lq wp wf wt)[8 + 3 * ns + 4 * nl]? = some frame ∧
    (∀ j, j < ns → (planNums nodes faulty skew jitter drift round frame ns nl nw nd fr to lf lt lb lq wp wf wt)[7 + 3 * j]? = some (nd j) ∧ (planNums nodes faulty skew jitter drift round frame ns nl nw nd fr to lf lt lb lq wp wf wt)[7 + 3 * j + 1]? = some (fr j) ∧ (planNums nodes faulty skew jitter drift round frame ns nl nw nd fr to lf lt lb lq wp wf wt)[7 + 3 * j + 2]? = some (to j)) ∧
    (∀ j, j < nl → (planNums nodes faulty skew jitter drift round frame ns nl nw nd fr to lf lt lb lq wp wf wt)[8 + 3 * ns + 4 * j]? = some (lf j) ∧ (planNums nodes faulty skew jitter drift round frame ns nl nw nd fr to lf lt lb lq wp wf wt)[8 + 3 * ns + 4 * j + 1]? = some (lt j) ∧ (planNums nodes faulty skew jitter drift round frame ns nl nw nd fr to lf lt lb lq wp wf wt)[8 + 3 * ns + 4 * j + 2]? = some (lb j) ∧ (planNums nodes faulty skew jitter drift round frame ns nl nw nd fr to lf lt lb lq wp wf wt)[8 + 3 * ns + 4 * j + 3]? = some (lq j)) ∧
    (∀ j, j < nw → (planNums nodes faulty skew jitter drift round frame ns nl nw nd fr to lf lt lb lq wp wf wt)[10 + 3 * ns + 4 * nl + 3 * j]? = some (wp j) ∧ (planNums nodes faulty skew jitter drift round frame ns nl nw nd fr to lf lt lb lq wp wf wt)[10 + 3 * ns + 4 * nl + 3 * j + 1]? = some (wf j) ∧ (planNums nodes faulty skew jitter drift round frame ns nl nw nd fr to lf lt lb lq wp wf wt)[10 + 3 * ns + 4 * nl + 3 * j + 2]? = some (wt j)) := by
  have in3 : ∀ (f g h : Nat → Int) (n j : Nat), j < n → (slotsTo f g h n)[3 * j]? = some (f j) ∧ (slotsTo f g h n)[3 * j + 1]? = some (g j) ∧ (slotsTo f g h n)[3 * j + 2]? = some (h j) := by
    intro f g h n j hj
    induction n with
    | zero => omega
    | succ n ih =>
      rw [slotsTo_succ]
      rcases Nat.lt_succ_iff_lt_or_eq.1 hj with q | q
      · obtain ⟨i1, i2, i3⟩ := ih q
        exact ⟨by rw [List.getElem?_append_left (by rw [slotsTo_len]; omega)]; exact i1, by rw [List.getElem?_append_left (by rw [slotsTo_len]; omega)]; exact i2, by rw [List.getElem?_append_left (by rw [slotsTo_len]; omega)]; exact i3⟩
      · subst q
        refine ⟨?_, ?_, ?_⟩
        · rw [List.getElem?_append_right (by rw [slotsTo_len]; omega), slotsTo_len, show 3 * j - 3 * j = 0 by omega]; rfl
        · rw [List.getElem?_append_right (by rw [slotsTo_len]; omega), slotsTo_len, show 3 * j + 1 - 3 * j = 1 by omega]; rfl
        · rw [List.getElem?_append_right (by rw [slotsTo_len]; omega), slotsTo_len, show 3 * j + 2 - 3 * j = 2 by omega]; rfl
  have in4 : ∀ (f g h i : Nat → Int) (n j : Nat), j < n → (linksN f g h i n)[4 * j]? = some (f j) ∧ (linksN f g h i n)[4 * j + 1]? = some (g j) ∧ (linksN f g h i n)[4 * j + 2]? = some (h j) ∧ (linksN f g h i n)[4 * j + 3]? = some (i j) := by
    intro f g h i n j hj
    induction n with
    | zero => omega
    | succ n ih =>
      rw [linksN_succ]
      rcases Nat.lt_succ_iff_lt_or_eq.1 hj with q | q
      · obtain ⟨i1, i2, i3, i4⟩ := ih q
        exact ⟨by rw [List.getElem?_append_left (by rw [linksN_len]; omega)]; exact i1, by rw [List.getElem?_append_left (by rw [linksN_len]; omega)]; exact i2, by rw [List.getElem?_append_left (by rw [linksN_len]; omega)]; exact i3, by rw [List.getElem?_append_left (by rw [linksN_len]; omega)]; exact i4⟩
      · subst q
        refine ⟨?_, ?_, ?_, ?_⟩
        · rw [List.getElem?_append_right (by rw [linksN_len]; omega), linksN_len, show 4 * j - 4 * j = 0 by omega]; rfl
        · rw [List.getElem?_append_right (by rw [linksN_len]; omega), linksN_len, show 4 * j + 1 - 4 * j = 1 by omega]; rfl
        · rw [List.getElem?_append_right (by rw [linksN_len]; omega), linksN_len, show 4 * j + 2 - 4 * j = 2 by omega]; rfl
        · rw [List.getElem?_append_right (by rw [linksN_len]; omega), linksN_len, show 4 * j + 3 - 4 * j = 3 by omega]; rfl
  have a1 : ∀ q, q < 3 * ns → (planNums nodes faulty skew jitter drift round frame ns nl nw nd fr to lf lt lb lq wp wf wt)[7 + q]? = (slotsTo nd fr to ns)[q]? := by
    intro q hq
    unfold planNums
    rw [List.append_assoc, List.append_assoc, List.append_assoc, List.getElem?_append_left (by simp [slotsTo_len]; omega), List.getElem?_append_right (by simp)]
    congr 1
    simp
  have a2 : ∀ q, q < 4 * nl → (planNums nodes faulty skew jitter drift round frame ns nl nw nd fr to lf lt lb lq wp wf wt)[8 + 3 * ns + q]? = (linksN lf lt lb lq nl)[q]? := by
    intro q hq
    unfold planNums
    rw [List.append_assoc, List.getElem?_append_left (by simp [slotsTo_len, linksN_len]; omega), List.getElem?_append_right (by simp [slotsTo_len]; omega)]
    congr 1
    simp [slotsTo_len]; omega
  have a3 : ∀ q, q < 3 * nw → (planNums nodes faulty skew jitter drift round frame ns nl nw nd fr to lf lt lb lq wp wf wt)[10 + 3 * ns + 4 * nl + q]? = (slotsTo wp wf wt nw)[q]? := by
    intro q hq
    unfold planNums
    rw [List.getElem?_append_right (by simp [slotsTo_len, linksN_len]; omega)]
    congr 1
    simp [slotsTo_len, linksN_len]; omega
  refine ⟨by simp [planNums], by simp [planNums], by simp [planNums], by simp [planNums], by simp [planNums], by simp [planNums], ?_, fun j hj => ?_, fun j hj => ?_, fun j hj => ?_⟩
  · unfold planNums
    rw [List.append_assoc, List.getElem?_append_right (by simp [slotsTo_len, linksN_len]; omega)]
    simp [slotsTo_len, linksN_len]
    rw [show 8 + 3 * ns + 4 * nl - (3 * ns + (4 * nl + 1) + 1 + 1 + 1 + 1 + 1 + 1 + 1) = 0 by omega]
    rfl
  · obtain ⟨i1, i2, i3⟩ := in3 nd fr to ns j hj
    exact ⟨(a1 _ (by omega)).trans i1, by rw [Nat.add_assoc]; exact (a1 _ (by omega)).trans i2, by rw [Nat.add_assoc]; exact (a1 _ (by omega)).trans i3⟩
  · obtain ⟨i1, i2, i3, i4⟩ := in4 lf lt lb lq nl j hj
    exact ⟨(a2 _ (by omega)).trans i1, by rw [Nat.add_assoc (8 + 3 * ns)]; exact (a2 _ (by omega)).trans i2, by rw [Nat.add_assoc (8 + 3 * ns)]; exact (a2 _ (by omega)).trans i3, by rw [Nat.add_assoc (8 + 3 * ns)]; exact (a2 _ (by omega)).trans i4⟩
  · obtain ⟨i1, i2, i3⟩ := in3 wp wf wt nw j hj
    exact ⟨(a3 _ (by omega)).trans i1, by rw [Nat.add_assoc (10 + 3 * ns + 4 * nl)]; exact (a3 _ (by omega)).trans i2, by rw [Nat.add_assoc (10 + 3 * ns + 4 * nl)]; exact (a3 _ (by omega)).trans i3⟩

/-- No beginning of a plan's bytes is one. -/
theorem prefix_bad {bs : List Int} (hb : ∀ b ∈ bs, 0 ≤ b ∧ b < 256) (h : endSt (some bs) = some []) {k : Nat} (hk : k < bs.length) : endSt (some (bs.take k)) ≠ some [] := by
  intro h'
  have hb' : ∀ b ∈ bs.take k, 0 ≤ b ∧ b < 256 := fun b hm => hb b (List.mem_of_mem_take hm)
  obtain ⟨ns', nl', nw', p', e', r'⟩ := read_sound hb' h'
  obtain ⟨ns, nl, nw, p, e, r⟩ := read_sound hb h
  obtain ⟨M, hM⟩ : ∃ M, M = (List.range (10 + 3 * ns' + 4 * nl' + 3 * nw')).map (nth (some (bs.take k))) := ⟨_, rfl⟩
  rw [← hM] at e'
  have hMl : M.length = 10 + 3 * ns' + 4 * nl' + 3 * nw' := by rw [hM]; simp
  have hMr : ∀ x ∈ M, 0 ≤ x ∧ x ≤ 1099511627776 := by
    intro x hx
    rw [hM] at hx
    obtain ⟨i, hi, rfl⟩ := List.mem_map.1 hx
    exact r' i (List.mem_range.1 hi)
  have eb : bs = bytesOf M ++ bs.drop k := by rw [← e']; exact (List.take_append_drop k bs).symm
  have hn : ∀ i, i < 10 + 3 * ns' + 4 * nl' + 3 * nw' → nth (some bs) i = nth (some (bs.take k)) i := by
    intro i hi
    have h1 := nth_bytes hMr (bs.drop k) i (by omega)
    rw [← eb] at h1
    rw [h1]
    simp [hM]
  have q1 : ns = ns' := by
    have := p.e1; have h2 := p'.e1; rw [hn 6 (by omega)] at this; omega
  subst q1
  have q2 : nl = nl' := by
    have := p.e2; have h2 := p'.e2; rw [hn _ (by omega)] at this; omega
  subst q2
  have q3 : nw = nw' := by
    have := p.e3; have h2 := p'.e3; rw [hn _ (by omega)] at this; omega
  subst q3
  have s1 := stAt_bytes hMr (bs.drop k) M.length (Nat.le_refl _)
  rw [← eb, hMl] at s1
  have s2 := p.s3.symm.trans h
  rw [s2, List.drop_eq_nil_of_le (by omega)] at s1
  simp [bytesOf] at s1
  omega
end Go.Proofs.Ytlpojkehbhkdiaa
