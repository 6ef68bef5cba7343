/- The document's answer's Decode, its beginning (under way). (Made by tools/gen_refdecode1.py.) -/
import Derived.Test.YtlpojkehbhkdiaaDoorRefDecode0
import Derived.Test.YtlpojkehbhkdiaaDoorPlanPlan
namespace Go.Proofs.YtlpojkehbhkdiaaDoor
open Go.RowKit

/-- What numbers hands on. -/
theorem nums_row {w w' : World} {bs : List Int} {ev : Ending} (hby : ∀ x ∈ bs, 0 ≤ x ∧ x < 256) (h : NumsAre w w' bs ev) : ∃ (a : Option Addr) (cap : Nat) (L : List Int) (okb : Bool), ev = .returned (.tuple #[.slice a L.length cap, .bool okb]) ∧ L.length ≤ cap ∧ L.length ≤ bs.length ∧
    (0 < L.length → ∃ b, a = some ⟨b, 0, none⟩ ∧ (w.heap.size ≤ b ∧ b < w'.heap.size) ∧ ∀ j (h : j < L.length), w'.cell? ⟨b, 0 + j, none⟩ = some (.int .i64 L[j])) ∧ (okb = true → bs = bytesOf L ∧ ∀ x ∈ L, 0 ≤ x ∧ x ≤ 1099511627776) ∧ (okb = false → endSt (some bs) ≠ some []) := by
  rcases h with ⟨m, hm, hst, v, rfl, ho⟩ | ⟨hx, rfl⟩
  · obtain ⟨h1, h2⟩ := stAt_sound hby m [] hst
    have hl : ((List.range m).map (nth (some bs))).length = m := by simp
    have hr : ∀ x ∈ (List.range m).map (nth (some bs)), 0 ≤ x ∧ x ≤ 1099511627776 := fun x hx => by
      obtain ⟨i, hi, rfl⟩ := List.mem_map.1 hx
      exact h2 i (List.mem_range.1 hi)
    rcases Nat.eq_zero_or_pos m with h0 | h0
    · subst h0
      rcases ho.2 with ⟨rfl, _⟩ | ⟨g, cap, cur, rfl, _⟩
      · exact ⟨none, 0, [], true, rfl, Nat.le_refl _, Nat.zero_le _, fun h => absurd h (Nat.lt_irrefl _), fun _ => ⟨by simpa using h1, by simp⟩, fun h => by cases h⟩
      · exact ⟨_, cap, [], true, rfl, Nat.zero_le _, Nat.zero_le _, fun h => absurd h (Nat.lt_irrefl _), fun _ => ⟨by simpa using h1, by simp⟩, fun h => by cases h⟩
    · rcases ho.2 with ⟨_, h00⟩ | ⟨g, cap, cur, rfl, hge, hh, hle, _⟩
      · omega
      · have hc := fun j u hj => ho.cells (g := g) rfl j u hj
        refine ⟨some ⟨g, 0, none⟩, cap, (List.range m).map (nth (some bs)), true, by rw [hl], by rw [hl]; exact hle, by rw [hl]; exact hm, fun _ => ⟨g, rfl, ?_, fun j hj => ?_⟩, fun _ => ⟨by simpa using h1, hr⟩, fun h => by cases h⟩
        · refine ⟨hge, ?_⟩
          rcases Nat.lt_or_ge g w'.heap.size with q | q
          · exact q
          · rw [Array.getElem?_eq_none q] at hh; cases hh
        · have := hc j (.int .i64 ((List.range m).map (nth (some bs)))[j]) (by rw [List.getElem?_map, List.getElem?_eq_getElem hj]; rfl)
          rwa [add_plain] at this
  · exact ⟨none, 0, [], false, rfl, Nat.le_refl _, Nat.zero_le _, fun h => absurd h (Nat.lt_irrefl _), fun h => (by cases h), fun _ => nums_bad hby hx⟩
end Go.Proofs.YtlpojkehbhkdiaaDoor
