/- The program's table of windows: slices.Clone and slices.IndexFunc at windows, as the program calls them (9.1). -/
import Derived.Test.YtklknbkofmobcacDoorPTabA
import Derived.Lib.SliceRun
import Derived.Deep.LoopGhost
import Derived.Deep.Draws
namespace Go.Proofs.YtklknbkofmobcacDoor
open Go.RowKit

theorem rows3_cells {w : World} {ad : Addr} {n : Nat} {pt fr to : Nat → Int} (hr : Rows3 w (some ad) n pt fr to) : ∀ j u, (winCells pt fr to n)[j]? = some u → w.cell? (ad.add j) = some u := by
  intro j u hj
  obtain ⟨i, hi, h⟩ := winCells_cell pt fr to n j u hj
  obtain ⟨b, off, e, _, hc⟩ := hr (by omega)
  injection e with e
  subst e
  obtain ⟨c0, c1, c2⟩ := hc i hi
  rw [add_at]
  rcases h with ⟨rfl, rfl⟩ | ⟨rfl, rfl⟩ | ⟨rfl, rfl⟩
  · exact c0
  · exact c1
  · exact c2
theorem winCells_one (pt fr to : Nat → Int) : ∀ n, ∀ u ∈ winCells pt fr to n, u.oneCell' = true := by
  intro n
  induction n with
  | zero => intro u hu; cases hu
  | succ n ih =>
    intro u hu
    rcases List.mem_append.1 hu with q | q
    · exact ih u q
    · simp only [List.mem_cons, List.not_mem_nil, or_false] at q
      rcases q with rfl | rfl | rfl <;> rfl

set_option maxRecDepth 100000 in
set_option maxHeartbeats 2000000 in
/-- slices.Clone of windows: memory of its own that holds the same. -/
theorem cloneW (pt fr to : Nat → Int) (a : Option Addr) (n cap : Nat) (w : World) (hn : n ≤ 1000) (hr : Rows3 w a n pt fr to) :
    Calls Tryd.prog 12 #[.slice a n cap] w fun e w' => ∃ a' cap', e = .returned (.slice a' n cap') ∧ Rows3 w' a' n pt fr to ∧ (∀ b off, a' = some ⟨b, off, none⟩ → w.heap.size ≤ b ∧ b < w'.heap.size) ∧ Below w.heap.size w w' := by
  cases a with
  | none =>
    have h0 : n = 0 := by
      rcases Nat.eq_zero_or_pos n with q | q
      · exact q
      · obtain ⟨_, _, e, _⟩ := hr q; cases e
    subst h0
    have q22 : ∀ (w : World) (a : Option Addr) (n c n' c' : Nat), (binOp .eql 22 (.slice a n c) (.slice none n' c')).run Tryd.prog w = .ok (.bool a.isNone) w := fun w a n c n' c' => Lib.run_eql_slice_nil w _ _ a n c n' c' Tryd.underlying22
    go_enter Tryd.func12, Tryd.ntmps12
    go_wp2
    go_ret
    exact ⟨none, 0, rfl, fun q => absurd q (Nat.lt_irrefl _), (fun _ _ e => by cases e), Below.refl _ _⟩
  | some ad =>
    have q22 : ∀ (w : World) (a : Option Addr) (n c n' c' : Nat), (binOp .eql 22 (.slice a n c) (.slice none n' c')).run Tryd.prog w = .ok (.bool a.isNone) w := fun w a n c n' c' => Lib.run_eql_slice_nil w _ _ a n c n' c' Tryd.underlying22
    obtain ⟨i0, hi, hz0, hz1, hz2⟩ := info_parts Tryd.infoWin
    have HC : Hid (∀ j u, (winCells pt fr to n)[j]? = some u → w.cell? (ad.add j) = some u) := rows3_cells hr
    clear hr
    go_enter Tryd.func12, Tryd.ntmps12
    go_wp2_with (at_builtin; refine wpList_append_own _ rfl _ _ 22 rfl w.heap.size 37 i0 (.agg #[.int .i64 0, .int .i64 0, .int .i64 0]) 3 24 Tryd.underlying22 hi hz0 hz1 hz2 rfl (by decide) _ _ _ rfl (World.ownsRow_made w #[] 0 (Nat.le_refl _) (Nat.zero_le _) rfl) ad n cap (winCells pt fr to n) rfl ?qc1 ?qc2 ?qc3 ?qc4 ?qc5 ?qc6 ?_)
    case qc1 => exact winCells_length pt fr to n
    case qc2 =>
      intro j u hj
      exact Lib.cell?_alloc_some _ (HC.out j u hj)
    case qc3 => exact winCells_one pt fr to n
    case qc4 => unfold maxLen; omega
    case qc5 => omega
    case qc6 => simp
    intro v' w1 hown hgrow hnil
    obtain ⟨a', cap', rfl, hr', hb'⟩ := owns_rows3 hown
    go_wp2
    go_ret
    exact ⟨a', cap', rfl, hr', hb', ((Below.refl _ w).alloc (Nat.le_refl _) _).grown hgrow (by simp) (by intro k hk; simp [Value.ownBlock] at hk; omega)⟩

/-- The first window that is not over at x (-1: none). -/
def FirstTo (to : Nat → Int) (n : Nat) (x i : Int) : Prop :=
  (i = -1 ∧ ∀ j, j < n → to j ≤ x) ∨ ∃ k : Nat, k < n ∧ i = k ∧ x < to k ∧ ∀ j, j < k → to j ≤ x

set_option maxHeartbeats 1000000 in
/-- The closure that looks for a window. -/
theorem lookW (pt fr to x : Int) (X : Nat) (w : World) (hx : w.cell? ⟨X, 0, none⟩ = some (.int .i64 x)) :
    Calls Tryd.prog 18 #[.agg #[.int .i64 pt, .int .i64 fr, .int .i64 to], .pointer (some ⟨X, 0, none⟩)] w fun e w' => e = .returned (.bool (decide (x < to))) ∧ Below w.heap.size w w' := by
  have hl : X < w.heap.size := lt_of_cell hx
  cases h : decide (x < to)
  · go_enter Tryd.func18, Tryd.ntmps18
    go_wp2
    go_ret
    exact ⟨rfl, (Below.refl _ _).alloc (Nat.le_refl _) _⟩
  · go_enter Tryd.func18, Tryd.ntmps18
    go_wp2
    go_ret
    exact ⟨rfl, (Below.refl _ _).alloc (Nat.le_refl _) _⟩

set_option maxRecDepth 100000 in
set_option maxHeartbeats 2000000 in
theorem findW (pt fr to : Nat → Int) (x : Int) (X : Nat) (a : Option Addr) (n cap : Nat) (w : World) (hn : n ≤ 1000) (hr : Rows3 w a n pt fr to) (hx : w.cell? ⟨X, 0, none⟩ = some (.int .i64 x)) :
    Calls Tryd.prog 17 #[.slice a n cap, .func (.func 18) #[] #[.pointer (some ⟨X, 0, none⟩)]] w fun e w' => ∃ i, e = .returned (.int .i64 i) ∧ FirstTo to n x i ∧ Below w.heap.size w w' := by
  have HR : Hid (Rows3 w a n pt fr to) := hr
  have HX : Hid (w.cell? ⟨X, 0, none⟩ = some (.int .i64 x)) := hx
  clear hr hx
  go_enter Tryd.func17, Tryd.ntmps17
  go_wp2_with fail
  go_loopw [8] (fun t wr => ∃ k : Nat, k ≤ n ∧ t = .int .i64 k ∧ Hid (∀ j, j < k → to j ≤ x) ∧ Hid (Below w.heap.size w wr)) (fun t _ => n - (intOf t).toNat)
  case atStart => exact ⟨0, Nat.zero_le _, rfl, fun j hj => absurd hj (Nat.not_lt_zero _), Below.refl _ _⟩
  case round =>
    obtain ⟨k, hk, rfl, h0, hbe⟩ := hrel
    by_cases hlt : k < n
    · obtain ⟨b, off, rfl, hb, hc⟩ := HR.out (by omega)
      obtain ⟨x0, x1, x2⟩ := hc k hlt
      have y0 := (hbe.out.cell (p := ⟨b, off + k * 3, none⟩) hb).trans x0
      have y1 := (hbe.out.cell (p := ⟨b, off + k * 3 + 1, none⟩) hb).trans x1
      have y2 := (hbe.out.cell (p := ⟨b, off + k * 3 + 2, none⟩) hb).trans x2
      clear x0 x1 x2 hc
      have hz : b < wr.heap.size := Nat.lt_of_lt_of_le hb hbe.out.size
      have kk : (k : Int) < (n : Int) := by omega
      have hlk := lookW (pt k) (fr k) (to k) x X wr ((hbe.out.cell (p := ⟨X, 0, none⟩) (lt_of_cell HX.out)).trans HX.out)
      have HLT : Hid (k < n) := hlt
      by_cases hit : x < to k
      · rw [decide_eq_true hit] at hlk
        have HHit : Hid (FirstTo to n x k) := .inr ⟨k, hlt, rfl, hit, h0.out⟩
        clear hit
        generalize pt k = P at *
        generalize fr k = F at *
        generalize to k = T at *
        go_wp2_with fail
        refine hlk.mono ?_
        rintro e w1 ⟨rfl, hw1⟩
        have HB1 : Hid (Below w.heap.size w w1) := hbe.out.trans (hw1.mono hbe.out.size)
        clear hlk hw1 y0 y1 y2
        go_wp2
        go_ret
        exact ⟨_, rfl, HHit.out, HB1.out⟩
      · rw [decide_eq_false hit] at hlk
        have HN : Hid (∀ j, j < k + 1 → to j ≤ x) := fun j hj => by
          rcases Nat.lt_or_ge j k with q | q
          · exact h0.out j q
          · obtain rfl : j = k := by omega
            omega
        clear hit h0
        generalize pt k = P at *
        generalize fr k = F at *
        generalize to k = T at *
        go_wp2_with fail
        refine hlk.mono ?_
        rintro e w1 ⟨rfl, hw1⟩
        have HB1 : Hid (Below w.heap.size w w1) := hbe.out.trans (hw1.mono hbe.out.size)
        clear hlk hw1 y0 y1 y2
        go_wp2
        go_roundw
        case rel => exact ⟨k + 1, by omega, by go_num, HN, HB1⟩
        case measure => simp [intOf]; omega
    · have hkn : k = n := by omega
      have HM : Hid (FirstTo to n x (-1)) := .inl ⟨rfl, by rw [← hkn]; exact h0.out⟩
      have kk : decide (k < n) = false := decide_eq_false (by omega)
      clear hkn hlt
      go_wp2
      go_ret
      exact ⟨_, rfl, HM.out, hbe.out⟩
end Go.Proofs.YtklknbkofmobcacDoor
