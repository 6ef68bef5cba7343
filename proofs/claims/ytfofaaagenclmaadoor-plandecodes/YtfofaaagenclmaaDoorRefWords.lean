/- Between the document's answer's Decode and the words of the program's: states, and rows as they lie. -/
import Derived.Test.YtfofaaagenclmaaDoorRefRows
namespace Go.Proofs.YtfofaaagenclmaaDoor
open Go.RowKit

theorem rflat3 (g : Nat → Int × Int × Int) : ∀ n, ((((List.range n).map g).flatMap fun x => [Value.int .i64 x.1, .int .i64 x.2.1, .int .i64 x.2.2]).length = n * 3) ∧ ∀ i, i < n → (((List.range n).map g).flatMap fun x => [Value.int .i64 x.1, .int .i64 x.2.1, .int .i64 x.2.2])[i * 3]? = some (.int .i64 (g i).1) ∧ (((List.range n).map g).flatMap fun x => [Value.int .i64 x.1, .int .i64 x.2.1, .int .i64 x.2.2])[i * 3 + 1]? = some (.int .i64 (g i).2.1) ∧ (((List.range n).map g).flatMap fun x => [Value.int .i64 x.1, .int .i64 x.2.1, .int .i64 x.2.2])[i * 3 + 2]? = some (.int .i64 (g i).2.2) := by
  intro n
  induction n with
  | zero => exact ⟨rfl, fun i hi => absurd hi (Nat.not_lt_zero _)⟩
  | succ n ih =>
    obtain ⟨hl, hi⟩ := ih
    rw [List.range_succ, List.map_append, List.flatMap_append]
    refine ⟨by rw [List.length_append, hl]; simp; omega, fun i hlt => ?_⟩
    by_cases h : i < n
    · obtain ⟨a, b, c⟩ := hi i h
      rw [List.getElem?_append_left (by omega), List.getElem?_append_left (by omega), List.getElem?_append_left (by omega)]
      exact ⟨a, b, c⟩
    · obtain rfl : i = n := by omega
      rw [List.getElem?_append_right (by omega), List.getElem?_append_right (by omega), List.getElem?_append_right (by omega), hl, Nat.sub_self, Nat.add_sub_cancel_left, Nat.add_sub_cancel_left]
      exact ⟨rfl, rfl, rfl⟩
theorem rflat4 (g : Nat → Int × Int × Int × Int) : ∀ n, ((((List.range n).map g).flatMap fun x => [Value.int .i64 x.1, .int .i64 x.2.1, .int .i64 x.2.2.1, .int .i64 x.2.2.2]).length = n * 4) ∧ ∀ i, i < n → (((List.range n).map g).flatMap fun x => [Value.int .i64 x.1, .int .i64 x.2.1, .int .i64 x.2.2.1, .int .i64 x.2.2.2])[i * 4]? = some (.int .i64 (g i).1) ∧ (((List.range n).map g).flatMap fun x => [Value.int .i64 x.1, .int .i64 x.2.1, .int .i64 x.2.2.1, .int .i64 x.2.2.2])[i * 4 + 1]? = some (.int .i64 (g i).2.1) ∧ (((List.range n).map g).flatMap fun x => [Value.int .i64 x.1, .int .i64 x.2.1, .int .i64 x.2.2.1, .int .i64 x.2.2.2])[i * 4 + 2]? = some (.int .i64 (g i).2.2.1) ∧ (((List.range n).map g).flatMap fun x => [Value.int .i64 x.1, .int .i64 x.2.1, .int .i64 x.2.2.1, .int .i64 x.2.2.2])[i * 4 + 3]? = some (.int .i64 (g i).2.2.2) := by
  intro n
  induction n with
  | zero => exact ⟨rfl, fun i hi => absurd hi (Nat.not_lt_zero _)⟩
  | succ n ih =>
    obtain ⟨hl, hi⟩ := ih
    rw [List.range_succ, List.map_append, List.flatMap_append]
    refine ⟨by rw [List.length_append, hl]; simp; omega, fun i hlt => ?_⟩
    by_cases h : i < n
    · obtain ⟨a, b, c, d⟩ := hi i h
      rw [List.getElem?_append_left (by omega), List.getElem?_append_left (by omega), List.getElem?_append_left (by omega), List.getElem?_append_left (by omega)]
      exact ⟨a, b, c, d⟩
    · obtain rfl : i = n := by omega
      rw [List.getElem?_append_right (by omega), List.getElem?_append_right (by omega), List.getElem?_append_right (by omega), List.getElem?_append_right (by omega), hl, Nat.sub_self, Nat.add_sub_cancel_left, Nat.add_sub_cancel_left, Nat.add_sub_cancel_left]
      exact ⟨rfl, rfl, rfl, rfl⟩

/-- A row that was made is a slice. -/
theorem rows_slice {size lo : Nat} {w : World} {v : Value} {n : Nat} {l : List Value} (h : RowsOf size lo w v n l) : ∃ a cap, v = .slice a n cap := by
  rcases h.2 with ⟨rfl, rfl⟩ | ⟨g, cap, hv, _⟩
  · exact ⟨none, 0, rfl⟩
  · exact ⟨_, cap, hv⟩
theorem rows3_of {lo : Nat} {w : World} {a : Option Addr} {n cap : Nat} {g : Nat → Int × Int × Int} (h : RowsOf 3 lo w (.slice a n cap) n (((List.range n).map g).flatMap fun x => [Value.int .i64 x.1, .int .i64 x.2.1, .int .i64 x.2.2])) : Rows3 w a n (fun j => (g j).1) (fun j => (g j).2.1) (fun j => (g j).2.2) := by
  intro hn
  rcases h.2 with ⟨_, h0⟩ | ⟨b, c, hv, _, hb, _, hc⟩
  · omega
  · injection hv with hv
    refine ⟨b, 0, hv, hb, fun j hj => ?_⟩
    obtain ⟨x, y, z⟩ := (rflat3 g n).2 j hj
    rw [Nat.zero_add]
    exact ⟨hc _ _ x, hc _ _ y, hc _ _ z⟩
theorem rows4_of {lo : Nat} {w : World} {a : Option Addr} {n cap : Nat} {g : Nat → Int × Int × Int × Int} (h : RowsOf 4 lo w (.slice a n cap) n (((List.range n).map g).flatMap fun x => [Value.int .i64 x.1, .int .i64 x.2.1, .int .i64 x.2.2.1, .int .i64 x.2.2.2])) : Rows4 w a n (fun j => (g j).1) (fun j => (g j).2.1) (fun j => (g j).2.2.1) (fun j => (g j).2.2.2) := by
  intro hn
  rcases h.2 with ⟨_, h0⟩ | ⟨b, c, hv, _, hb, _, hc⟩
  · omega
  · injection hv with hv
    refine ⟨b, 0, hv, hb, fun j hj => ?_⟩
    obtain ⟨x, y, z, t⟩ := (rflat4 g n).2 j hj
    rw [Nat.zero_add]
    exact ⟨hc _ _ x, hc _ _ y, hc _ _ z, hc _ _ t⟩

theorem many_some {most : Int} {s : St} (h : manySt most s ≠ none) : ¬ most < (nx s).1 ∧ manySt most s = (nx s).2 ∧ s ≠ none := by
  by_cases g : most < (nx s).1
  · exact absurd (show manySt most s = none by unfold manySt; rw [if_pos g]) h
  · have e : manySt most s = (nx s).2 := by unfold manySt; rw [if_neg g]
    refine ⟨g, e, ?_⟩
    rintro rfl
    rw [e] at h
    exact h rfl
theorem rowsN_some {most m : Int} {s : St} (h : manySt most s ≠ none) (hm : manySt most s ≠ none → m = (nx s).1) : rowsN most s = m.toNat := by
  unfold rowsN
  rw [if_neg (many_some h).1, hm h]
theorem st_some {s : St} {k : Nat} (h : stAt s k ≠ none) : s ≠ none := by
  rintro rfl
  exact h (stAt_none _)
theorem nx_up {s : St} (h : (nx s).2 ≠ none) : s ≠ none := by
  rintro rfl
  exact h rfl
theorem bytes_nil {L : List Int} (h : bytesOf L = []) : L = [] := by
  cases L with
  | nil => rfl
  | cons y ys =>
    have h1 : (bytesOf (y :: ys)).length = 0 := by rw [h]; rfl
    have h2 := numB_len 5 y.toNat
    simp [bytesOf] at h1
    rw [h1.1] at h2
    simp at h2

/-- Numbers are fine, or not. -/
theorem nums_one {bs : List Int} {m : Nat} (h1 : stAt (some bs) m = some []) (hx : ∃ m r, stAt (some bs) m = some r ∧ r ≠ [] ∧ rd r = none) : False := by
  obtain ⟨k, r, h2, h3, h4⟩ := hx
  have e1 : ∀ j, stAt (some []) (j + 1) = none := fun j => by
    rw [Nat.add_comm, ← stAt_add]
    exact stAt_none j
  have e2 : ∀ j, stAt (some r) (j + 1) = none := fun j => by
    rw [Nat.add_comm, ← stAt_add]
    have : stAt (some r) 1 = none := by
      show (nx (some r)).2 = none
      simp [nx, h4]
    rw [this]
    exact stAt_none j
  rcases Nat.lt_trichotomy m k with g | g | g
  · have := stAt_add (some bs) m (k - m)
    rw [h1, show m + (k - m) = k from by omega, h2, show k - m = (k - m - 1) + 1 from by omega, e1] at this
    cases this
  · rw [g, h2] at h1
    exact h3 (Option.some.inj h1)
  · have := stAt_add (some bs) k (m - k)
    rw [h2, show k + (m - k) = m from by omega, h1, show m - k = (m - k - 1) + 1 from by omega, e2] at this
    cases this

theorem nums_t {w w' : World} {bs : List Int} {ev : Ending} (hby : ∀ x ∈ bs, 0 ≤ x ∧ x < 256) (h : NumsAre w w' bs ev) (hno : ¬ ∃ m r, stAt (some bs) m = some r ∧ r ≠ [] ∧ rd r = none) : ∃ (a : Option Addr) (cap : Nat) (L : List Int), ev = .returned (.tuple #[.slice a L.length cap, .bool true]) ∧ L.length ≤ cap ∧ L.length ≤ bs.length ∧
    (0 < L.length → ∃ b, a = some ⟨b, 0, none⟩ ∧ (w.heap.size ≤ b ∧ b < w'.heap.size) ∧ ∀ j (h : j < L.length), w'.cell? ⟨b, 0 + j, none⟩ = some (.int .i64 L[j])) ∧ bs = bytesOf L ∧ ∀ x ∈ L, 0 ≤ x ∧ x ≤ 1099511627776 := by
  obtain ⟨a, cap, L, okb, he, h1, h2, h3, h4, _⟩ := nums_row hby h
  rcases h with ⟨m, _, _, v, he2, _⟩ | ⟨hx, _⟩
  · rw [he] at he2
    have e : okb = true := by simp at he2; exact he2.2
    subst e
    exact ⟨a, cap, L, he, h1, h2, h3, h4 rfl⟩
  · exact absurd hx hno
theorem nums_f {w w' : World} {bs : List Int} {ev : Ending} (h : NumsAre w w' bs ev) (hx : ∃ m r, stAt (some bs) m = some r ∧ r ≠ [] ∧ rd r = none) : ev = .returned (.tuple #[.slice none 0 0, .bool false]) := by
  rcases h with ⟨m, hm, hst, v, he, ho⟩ | ⟨_, he⟩
  · exact (nums_one hst hx).elim
  · exact he
end Go.Proofs.YtfofaaagenclmaaDoor
