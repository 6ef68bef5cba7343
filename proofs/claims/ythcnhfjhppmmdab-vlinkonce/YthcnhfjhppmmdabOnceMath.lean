/- ONCE, AND IN ORDER, of plain places: two channels, each of which loses some, neither far behind the other one: what is told (ahead of stage 7). -/
import Derived.Test.YthcnhfjhppmmdabTakeWords
namespace Go.Proofs.Ythcnhfjhppmmdab

/-- The last place that was told (-1: none), and the receiver's newest number. -/
def lastV (got : List Nat) : Int := match got.getLast? with
  | none => -1
  | some x => (x : Int)
def numV (got : List Nat) : Int := match got.getLast? with
  | none => -1
  | some x => ordN x
theorem lastV_snoc (got : List Nat) (k : Nat) : lastV (got ++ [k]) = (k : Int) := by simp [lastV]
theorem numV_snoc (got : List Nat) (k : Nat) : numV (got ++ [k]) = ordN k := by simp [numV]
theorem numV_in (got : List Nat) : -1 ≤ numV got ∧ numV got ≤ 255 := by
  unfold numV
  cases got.getLast? with
  | none => decide
  | some x => have := ordN_in x; exact ⟨by show -1 ≤ ordN x; omega, by show ordN x ≤ 255; omega⟩
theorem lastV_cases (got : List Nat) : (got = [] ∧ lastV got = -1 ∧ numV got = -1) ∨ ∃ x, x ∈ got ∧ lastV got = (x : Int) ∧ numV got = ordN x := by
  unfold lastV numV
  cases e : got.getLast? with
  | none => exact .inl ⟨List.getLast?_eq_none_iff.1 e, rfl, rfl⟩
  | some x => exact .inr ⟨x, List.mem_of_getLast? e, rfl, rfl⟩
/-- What is told rises: none is beyond the last one. -/
theorem le_lastV {got : List Nat} (h : got.Pairwise (· < ·)) {x : Nat} (hx : x ∈ got) : (x : Int) ≤ lastV got := by
  unfold lastV
  cases e : got.getLast? with
  | none => rw [List.getLast?_eq_none_iff.1 e] at hx; cases hx
  | some y =>
    obtain ⟨ys, rfl⟩ := List.getLast?_eq_some_iff.1 e
    show (x : Int) ≤ (y : Int)
    rcases List.mem_append.1 hx with q | q
    · have := (List.pairwise_append.1 h).2.2 x q y (List.mem_singleton.2 rfl)
      omega
    · rw [List.mem_singleton.1 q]; omega

/-- So far: what each channel has brought, or lost; what was told. -/
structure On (many : Nat) (L0 L1 : Nat → Bool) (a0 a1 : Nat) (got : List Nat) : Prop where
  m0 : a0 ≤ many
  m1 : a1 ≤ many
  d0 : a0 ≤ a1 + 51
  d1 : a1 ≤ a0 + 51
  inc : got.Pairwise (· < ·)
  top : ∀ x, x ∈ got → x < a0 ∨ x < a1
  p0 : ∀ k, k < a0 → L0 k = false → (k : Int) ≤ lastV got
  p1 : ∀ k, k < a1 → L1 k = false → (k : Int) ≤ lastV got
  all : ∀ k, k < a0 ∨ k < a1 → L0 k = false → L1 k = false → k ∈ got
theorem On.start (many : Nat) (L0 L1 : Nat → Bool) : On many L0 L1 0 0 [] :=
  ⟨Nat.zero_le _, Nat.zero_le _, by omega, by omega, List.Pairwise.nil, fun _ h => (by cases h), fun _ h => absurd h (Nat.not_lt_zero _), fun _ h => absurd h (Nat.not_lt_zero _), fun _ h => by omega⟩
theorem On.swap {many : Nat} {L0 L1 : Nat → Bool} {a0 a1 : Nat} {got : List Nat} (h : On many L0 L1 a0 a1 got) : On many L1 L0 a1 a0 got :=
  ⟨h.m1, h.m0, h.d1, h.d0, h.inc, fun x hx => (h.top x hx).symm, h.p1, h.p0, fun k hk e1 e0 => h.all k hk.symm e0 e1⟩
/-- No 51 in a row are lost by both. -/
def NoRun (many : Nat) (L0 L1 : Nat → Bool) : Prop := ∀ s, s + 51 ≤ many → ∃ j, s ≤ j ∧ j < s + 51 ∧ (L0 j = false ∨ L1 j = false)
theorem NoRun.swap {many : Nat} {L0 L1 : Nat → Bool} (h : NoRun many L0 L1) : NoRun many L1 L0 := fun s hs => by
  obtain ⟨j, h1, h2, h3⟩ := h s hs
  exact ⟨j, h1, h2, h3.symm⟩

/-- The receiver tells what channel 0 brings, if and only if it is behind all that was told. -/
theorem On.takes {many : Nat} {L0 L1 : Nat → Bool} {a0 a1 : Nat} {got : List Nat} (h : On many L0 L1 a0 a1 got) (hr : NoRun many L0 L1) : takeB (numV got) (ordN a0) = decide (lastV got < (a0 : Int)) := by
  rcases lastV_cases got with ⟨_, e1, e2⟩ | ⟨x, hx, e1, e2⟩
  · rw [e1, e2, take_first, decide_eq_true (by omega)]
  · rw [e1, e2]
    have ht := h.top x hx
    have hd := h.d0
    have hd1 := h.d1
    have hm := h.m0
    have hm1 := h.m1
    by_cases hlt : x < a0
    · rw [decide_eq_true (by omega)]
      refine take_later hlt ?_
      -- between the last one and this one all are lost by channel 0, and by channel 1 as far as it has come
      rcases Nat.lt_or_ge (a0) (x + 128) with q | q
      · omega
      · exfalso
        obtain ⟨j, h1, h2, h3⟩ := hr (x + 1) (by omega)
        rcases h3 with h3 | h3
        · have := h.p0 j (by omega) h3
          rw [e1] at this
          omega
        · have := h.p1 j (by omega) h3
          rw [e1] at this
          omega
    · rw [decide_eq_false (by omega)]
      exact take_earlier (by omega) (by omega)

theorem On.lost {many : Nat} {L0 L1 : Nat → Bool} {a0 a1 : Nat} {got : List Nat} (h : On many L0 L1 a0 a1 got) (hk : a0 < many) (hd : a0 + 1 ≤ a1 + 51) (hl : L0 a0 = true) : On many L0 L1 (a0 + 1) a1 got :=
  ⟨hk, h.m1, hd, by have := h.d1; omega, h.inc, fun x hx => by have := h.top x hx; omega, fun k hk hl0 => by
    by_cases e : k = a0
    · rw [e, hl] at hl0; cases hl0
    · exact h.p0 k (by omega) hl0, h.p1, fun k hk e0 e1 => by
    by_cases e : k = a0
    · rw [e, hl] at e0; cases e0
    · exact h.all k (by omega) e0 e1⟩
theorem On.told {many : Nat} {L0 L1 : Nat → Bool} {a0 a1 : Nat} {got : List Nat} (h : On many L0 L1 a0 a1 got) (hk : a0 < many) (hd : a0 + 1 ≤ a1 + 51) (hlt : lastV got < (a0 : Int)) : On many L0 L1 (a0 + 1) a1 (got ++ [a0]) :=
  ⟨hk, h.m1, hd, by have := h.d1; omega, by
    refine List.pairwise_append.2 ⟨h.inc, List.pairwise_singleton _ _, fun x hx y hy => ?_⟩
    rw [List.mem_singleton.1 hy]
    have := le_lastV h.inc hx
    omega, fun x hx => by
    rcases List.mem_append.1 hx with q | q
    · have := h.top x q; omega
    · rw [List.mem_singleton.1 q]; omega, fun k hk _ => by rw [lastV_snoc]; omega, fun k hk hl1 => by
    rw [lastV_snoc]
    have := h.p1 k hk hl1
    omega, fun k hk e0 e1 => by
    by_cases e : k = a0
    · rw [e]; exact List.mem_append.2 (.inr (List.mem_singleton.2 rfl))
    · exact List.mem_append.2 (.inl (h.all k (by omega) e0 e1))⟩
theorem On.past {many : Nat} {L0 L1 : Nat → Bool} {a0 a1 : Nat} {got : List Nat} (h : On many L0 L1 a0 a1 got) (hk : a0 < many) (hd : a0 + 1 ≤ a1 + 51) (hge : (a0 : Int) ≤ lastV got) : On many L0 L1 (a0 + 1) a1 got := by
  have ha1 : a0 < a1 := by
    rcases lastV_cases got with ⟨_, e1, _⟩ | ⟨x, hx, e1, _⟩
    · omega
    · have := h.top x hx; omega
  exact ⟨hk, h.m1, hd, by have := h.d1; omega, h.inc, fun x hx => by have := h.top x hx; omega, fun k hk hl0 => by
    by_cases e : k = a0
    · rw [e]; exact hge
    · exact h.p0 k (by omega) hl0, h.p1, fun k hk e0 e1 => h.all k (by omega) e0 e1⟩

/-- So many of what was told are below a place. -/
def below (got : List Nat) (k n : Nat) : Prop := n ≤ got.length ∧ (∀ i, i < n → got.getD i 0 < k) ∧ ∀ i, n ≤ i → i < got.length → k ≤ got.getD i 0
theorem below_start (got : List Nat) : below got 0 0 := ⟨Nat.zero_le _, fun _ h => absurd h (Nat.not_lt_zero _), fun _ _ _ => Nat.zero_le _⟩
theorem getD_inc {got : List Nat} (h : got.Pairwise (· < ·)) {i j : Nat} (hij : i < j) (hj : j < got.length) : got.getD i 0 < got.getD j 0 := by
  have e1 : got.getD i 0 = got[i]'(by omega) := by simp [List.getD, show i < got.length by omega]
  have e2 : got.getD j 0 = got[j] := by simp [List.getD, hj]
  rw [e1, e2]
  exact List.pairwise_iff_getElem.1 h i j (by omega) hj hij
/-- It is the next one that was told. -/
theorem below_hit {got : List Nat} {k n : Nat} (h : below got k n) (hi : got.Pairwise (· < ·)) (hn : n < got.length) (he : got.getD n 0 = k) : below got (k + 1) (n + 1) :=
  ⟨hn, fun i hin => by
    by_cases e : i = n
    · rw [e, he]; omega
    · have := h.2.1 i (by omega); omega, fun i h1 h2 => by
    have := getD_inc hi (show n < i by omega) h2
    omega⟩
/-- It is not: then it was not told. -/
theorem below_miss {got : List Nat} {k n : Nat} (h : below got k n) (hne : n < got.length → got.getD n 0 ≠ k) (hi : got.Pairwise (· < ·)) : below got (k + 1) n ∧ k ∉ got := by
  have far : ∀ i, n ≤ i → i < got.length → k + 1 ≤ got.getD i 0 := fun i h1 h2 => by
    by_cases e : i = n
    · have := h.2.2 i h1 h2
      have := hne (by omega)
      rw [e] at *
      omega
    · have := getD_inc hi (show n < i by omega) h2
      have := h.2.2 n (Nat.le_refl _) (by omega)
      omega
  refine ⟨⟨h.1, fun i hin => by have := h.2.1 i hin; omega, far⟩, fun hm => ?_⟩
  obtain ⟨i, hi2, he⟩ := List.mem_iff_getElem.1 hm
  have e1 : got.getD i 0 = k := by simp [List.getD, hi2, he]
  rcases Nat.lt_or_ge i n with q | q
  · have := h.2.1 i q; omega
  · have := far i q hi2; omega
/-- Beyond all places: all that was told was met. -/
theorem below_end {got : List Nat} {many n : Nat} (h : below got many n) (ht : ∀ x, x ∈ got → x < many) : n = got.length := by
  rcases Nat.lt_or_ge n got.length with q | q
  · have h1 := h.2.2 n (Nat.le_refl _) q
    have e : got.getD n 0 = got[n] := by simp [List.getD, q]
    have := ht _ (List.getElem_mem q)
    omega
  · have := h.1; omega

/-- Rising places below a bound are no more than that. -/
theorem got_len {got : List Nat} (h : got.Pairwise (· < ·)) {n : Nat} (hb : ∀ x, x ∈ got → x < n) : got.length ≤ n := by
  have key : ∀ i, i < got.length → i ≤ got.getD i 0 := by
    intro i
    induction i with
    | zero => intro _; exact Nat.zero_le _
    | succ i ih =>
      intro hi
      have h1 := ih (by omega)
      have h2 := getD_inc h (show i < i + 1 by omega) hi
      omega
  rcases Nat.eq_zero_or_pos got.length with e | e
  · omega
  · have h1 := key (got.length - 1) (by omega)
    have h2 : got.getD (got.length - 1) 0 = got[got.length - 1]'(by omega) := by simp [List.getD, show got.length - 1 < got.length by omega]
    have h3 := hb _ (List.getElem_mem (show got.length - 1 < got.length by omega))
    omega
end Go.Proofs.Ythcnhfjhppmmdab
