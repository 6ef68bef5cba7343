/- The program's cluster: slices.Clone of slots and of clocks; what New lays first (10.1). -/
import Derived.Test.YtdmokcnoljlogaaGreatDoorWordsG
import Derived.Test.YtdmokcnoljlogaaGreatDoorPCluA
import Derived.Test.YtdmokcnoljlogaaGreatDoorShelf
import Derived.Lib.SliceRun
import Derived.OwnWalk
import Derived.Deep.AppendLies
namespace Go.Proofs.YtdmokcnoljlogaaGreatDoor
open Go.RowKit

theorem triCells_cell (a b c : Nat → Value) (n j : Nat) (u : Value) (h : (triCells a b c n)[j]? = some u) : ∃ i, i < n ∧ ((j = i * 3 ∧ u = a i) ∨ (j = i * 3 + 1 ∧ u = b i) ∨ (j = i * 3 + 2 ∧ u = c i)) := by
  have hl := triCells_length a b c n
  have hj : j < n * 3 := by
    rcases Nat.lt_or_ge j (n * 3) with q | q
    · exact q
    · rw [List.getElem?_eq_none (by omega)] at h; cases h
  have h3 := triCells_at a b c n (j / 3) (by omega)
  refine ⟨j / 3, by omega, ?_⟩
  have : j % 3 = 0 ∨ j % 3 = 1 ∨ j % 3 = 2 := by omega
  rcases this with q | q | q
  · have e : j = j / 3 * 3 := by omega
    rw [← e] at h3
    rw [h3.1] at h
    cases h
    exact .inl ⟨e, rfl⟩
  · have e : j = j / 3 * 3 + 1 := by omega
    rw [← e] at h3
    rw [h3.2.1] at h
    cases h
    exact .inr (.inl ⟨e, rfl⟩)
  · have e : j = j / 3 * 3 + 2 := by omega
    rw [← e] at h3
    rw [h3.2.2] at h
    cases h
    exact .inr (.inr ⟨e, rfl⟩)
def slotCells (f g h : Nat → Int) (n : Nat) : List Value := triCells (fun i => .int .i64 (f i)) (fun i => .int .i64 (g i)) (fun i => .int .i64 (h i)) n
theorem slot_cells {w : World} {ad : Addr} {n : Nat} {f g h : Nat → Int} (hr : Rows3 w (some ad) n f g h) : ∀ j u, (slotCells f g h n)[j]? = some u → w.cell? (ad.add j) = some u := by
  intro j u hj
  obtain ⟨i, hi, hh⟩ := triCells_cell _ _ _ n j u hj
  obtain ⟨b, off, e, _, hc⟩ := hr (by omega)
  injection e with e
  subst e
  obtain ⟨c0, c1, c2⟩ := hc i hi
  rw [add_at]
  rcases hh with ⟨rfl, rfl⟩ | ⟨rfl, rfl⟩ | ⟨rfl, rfl⟩
  · exact c0
  · exact c1
  · exact c2
theorem slot_one (f g h : Nat → Int) (n : Nat) : ∀ u ∈ slotCells f g h n, u.oneCell' = true := by
  intro u hu
  obtain ⟨j, hj⟩ := List.getElem?_of_mem hu
  obtain ⟨i, _, hh⟩ := triCells_cell _ _ _ n j u hj
  rcases hh with ⟨_, rfl⟩ | ⟨_, rfl⟩ | ⟨_, rfl⟩ <;> rfl
theorem owns_slots {w : World} {base n : Nat} {v : Value} {f g' h' : Nat → Int} (h : w.ownsRow base 61 3 v n (slotCells f g' h' n)) : ∃ a cap, v = .slice a n cap ∧ Rows3 w a n f g' h' ∧ ∀ b off s, a = some ⟨b, off, s⟩ → base ≤ b ∧ b < w.heap.size := by
  rcases h.2 with ⟨rfl, rfl⟩ | ⟨g, cap, cur, rfl, hg, hh, _⟩
  · exact ⟨none, 0, rfl, fun q => absurd q (Nat.lt_irrefl _), fun _ _ _ e => by cases e⟩
  · have hlt : g < w.heap.size := by
      rcases Nat.lt_or_ge g w.heap.size with q | q
      · exact q
      · rw [Array.getElem?_eq_none q] at hh; cases hh
    refine ⟨_, _, rfl, fun _ => ⟨g, 0, rfl, hlt, fun j hj => ?_⟩, fun b off s e => by cases e; exact ⟨hg, hlt⟩⟩
    have h3 := triCells_at (fun i => .int .i64 (f i)) (fun i => .int .i64 (g' i)) (fun i => .int .i64 (h' i)) n j hj
    have c := fun i u (hi : (slotCells f g' h' n)[i]? = some u) => h.cells (g := g) rfl i u hi
    refine ⟨?_, ?_, ?_⟩
    · have := c _ _ h3.1; rw [add_at] at this; exact this
    · have := c _ _ h3.2.1; rw [add_at] at this; exact this
    · have := c _ _ h3.2.2; rw [add_at] at this; exact this
theorem Tryz.infoSlot9 : (Tryz.prog.info? 61).map (fun i => (i.zero, i.size, i.bytes)) = some (some (.agg #[.int .i64 0, .int .i64 0, .int .i64 0]), 3, 24) := by kernel_rfl

set_option maxRecDepth 100000 in
set_option maxHeartbeats 2000000 in
/-- slices.Clone of slots: memory of its own that holds the same. -/
theorem cloneS (pt fr tq : Nat → Int) (a : Option Addr) (n cap : Nat) (w : World) (hn : n ≤ 1000) (hr : Rows3 w a n pt fr tq) :
    Calls Tryz.prog 32 #[.slice a n cap] w fun e w' => ∃ a' cap', e = .returned (.slice a' n cap') ∧ Rows3 w' a' n pt fr tq ∧ (∀ b off s, a' = some ⟨b, off, s⟩ → w.heap.size ≤ b ∧ b < w'.heap.size) ∧ Below w.heap.size w w' := by
  cases a with
  | none =>
    have h0 : n = 0 := by
      rcases Nat.eq_zero_or_pos n with q | q
      · exact q
      · obtain ⟨_, _, e, _⟩ := hr q; cases e
    subst h0
    have q22 : ∀ (w : World) (a : Option Addr) (n c n' c' : Nat), (binOp .eql 22 (.slice a n c) (.slice none n' c')).run Tryz.prog w = .ok (.bool a.isNone) w := fun w a n c n' c' => Lib.run_eql_slice_nil w _ _ a n c n' c' Tryz.underlying22
    go_enter Tryz.func32, Tryz.ntmps32
    go_wp2
    go_ret
    exact ⟨none, 0, rfl, fun q => absurd q (Nat.lt_irrefl _), (fun _ _ _ e => by cases e), Below.refl _ _⟩
  | some ad =>
    have q22 : ∀ (w : World) (a : Option Addr) (n c n' c' : Nat), (binOp .eql 22 (.slice a n c) (.slice none n' c')).run Tryz.prog w = .ok (.bool a.isNone) w := fun w a n c n' c' => Lib.run_eql_slice_nil w _ _ a n c n' c' Tryz.underlying22
    obtain ⟨i0, hi, hz0, hz1, hz2⟩ := info_parts Tryz.infoSlot9
    have HC : Hid (∀ j u, (slotCells pt fr tq n)[j]? = some u → w.cell? (ad.add j) = some u) := slot_cells hr
    clear hr
    go_enter Tryz.func32, Tryz.ntmps32
    go_wp2_with (at_builtin; refine wpList_append_own _ rfl _ _ 22 rfl w.heap.size 61 i0 (.agg #[.int .i64 0, .int .i64 0, .int .i64 0]) 3 24 Tryz.underlying22 hi hz0 hz1 hz2 rfl (by decide) _ _ _ rfl (World.ownsRow_made w #[] 0 (Nat.le_refl _) (Nat.zero_le _) rfl) ad n cap (slotCells pt fr tq n) rfl ?qc1 ?qc2 ?qc3 ?qc4 ?qc5 ?qc6 ?_)
    case qc1 => exact triCells_length _ _ _ n
    case qc2 =>
      intro j u hj
      exact Lib.cell?_alloc_some _ (HC.out j u hj)
    case qc3 => exact slot_one pt fr tq n
    case qc4 => unfold maxLen; omega
    case qc5 => omega
    case qc6 => simp
    intro v' w1 hown hgrow hnil
    obtain ⟨a', cap', rfl, hr', hb'⟩ := owns_slots hown
    go_wp2
    go_ret
    exact ⟨a', cap', rfl, hr', hb', ((Below.refl _ w).alloc (Nat.le_refl _) _).grown hgrow (by simp) (by intro k hk; simp [Value.ownBlock] at hk; omega)⟩

/-- slices.Clone of clocks. -/
theorem cloneC (cs : List Int) (a : Option Addr) (n cap : Nat) (hl : cs.length = n) (hn : 1 ≤ n) (hn2 : n ≤ 1000) (w : World) (hr : IntRow w a cs) :
    Calls Tryz.prog 31 #[.slice a n cap] w fun e w' => ∃ g cp, e = .returned (.slice (some ⟨g, 0, none⟩) n cp) ∧ (w.heap.size ≤ g ∧ g < w'.heap.size) ∧ (∀ j, j < cs.length → w'.cell? ⟨g, j, none⟩ = some (.int .i64 (cs.getD j 0))) ∧ Below w.heap.size w w' := by
  obtain ⟨b, off, rfl, hb, hc⟩ := hr (by omega)
  refine (Tryz.slices_Clone_int b off n cap cs w (by omega) (by omega) hc).mono ?_
  rintro e w1 ⟨v1, rfl, hown, hnn, hbel⟩
  rw [List.take_of_length_le (by omega)] at hown
  rcases hown.2 with ⟨_, e0⟩ | ⟨g, cp, cur, hv, hg, hh, _⟩
  · omega
  · have hgl : g < w1.heap.size := (hown.lt g (by rw [hv]; rfl)).2
    refine ⟨g, cp, by rw [hv], ⟨hg, hgl⟩, fun j hj => ?_, hbel⟩
    have := hown.cells (g := g) (by rw [hv]; rfl) j (.int .i64 (cs.getD j 0)) (by simp [List.getD, hj])
    rwa [add_at, Nat.zero_add] at this
end Go.Proofs.YtdmokcnoljlogaaGreatDoor
