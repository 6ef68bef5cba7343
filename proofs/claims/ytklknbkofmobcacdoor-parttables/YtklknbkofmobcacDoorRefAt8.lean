/- The document's answer's At (9.1): which partition runs, or how long it is until one does; new memory alone is made. -/
import Derived.Test.YtklknbkofmobcacDoorRefPart
namespace Go.Proofs.YtklknbkofmobcacDoor
open Go.RowKit

set_option maxRecDepth 100000 in
set_option maxHeartbeats 1000000 in
theorem refAt_bad (frame now : Int) (v : Value) (w : World) (h : ¬ (0 ≤ now ∧ now ≤ 1099511627776)) :
    Calls Tryd.prog 7 #[.int .i64 frame, v, .int .i64 now] w fun e w' => e = .returned (.tuple #[.int .i64 0, .int .i64 0, .int .i64 2]) ∧ Below w.heap.size w w' := by
  have hin := in_is now 0 1099511627776
  rw [decide_eq_false h] at hin
  clear h
  go_enter Tryd.func7, Tryd.ntmps7
  go_wp2_with fail
  refine (hin _).mono ?_
  rintro ev w1 ⟨rfl, q⟩
  replace q := q.symm
  subst q
  go_wp2
  exact bodyPost_ret (v := .tuple #[.int .i64 0, .int .i64 0, .int .i64 2]) (by simp [results, Tryd.results7, go_sem]) rfl ⟨rfl, Below.refl _ _⟩

theorem below_draw {B : Nat} {w u : World} (h : Below B w u) (q : Nat) : Below B w (u.drewN q) := ⟨h.os, h.tape, h.output, h.size, h.block⟩
/-- The nearest one of the first k windows that begin. -/
def Near (fr : Nat → Int) (frame x : Int) (k : Nat) (m : Int) : Prop := (k = 0 ∧ m = -1) ∨ ((∃ j, j < k ∧ m = distW fr frame x j) ∧ ∀ j, j < k → m ≤ distW fr frame x j)
theorem dist_pos {fr : Nat → Int} {frame x : Int} {j : Nat} (h0 : 0 ≤ fr j) (h1 : x < frame) : 0 ≤ distW fr frame x j := by
  unfold distW
  split <;> omega
theorem Near.pos {fr : Nat → Int} {frame x : Int} {k : Nat} {m : Int} (h : Near fr frame x k m) (hk : 0 < k) (h0 : ∀ j, j < k → 0 ≤ fr j) (h1 : x < frame) : 0 ≤ m := by
  rcases h with ⟨q, _⟩ | ⟨⟨j, hj, rfl⟩, _⟩
  · omega
  · exact dist_pos (h0 j hj) h1
theorem Near.nearer {fr : Nat → Int} {frame x : Int} {k : Nat} {m : Int} (h : Near fr frame x k m) (hd : k = 0 ∨ distW fr frame x k < m) : Near fr frame x (k + 1) (distW fr frame x k) := by
  refine .inr ⟨⟨k, Nat.lt_succ_self _, rfl⟩, fun j hj => ?_⟩
  rcases Nat.lt_or_ge j k with q | q
  · rcases h with ⟨h0, _⟩ | ⟨_, h2⟩
    · omega
    · have := h2 j q
      rcases hd with y | y <;> omega
  · obtain rfl : j = k := by omega
    exact Int.le_refl _
theorem Near.not {fr : Nat → Int} {frame x : Int} {k : Nat} {m : Int} (h : Near fr frame x k m) (hk : 0 < k) (hd : m ≤ distW fr frame x k) : Near fr frame x (k + 1) m := by
  rcases h with ⟨h0, _⟩ | ⟨⟨j, hj, e⟩, h2⟩
  · omega
  · refine .inr ⟨⟨j, Nat.lt_succ_of_lt hj, e⟩, fun i hi => ?_⟩
    rcases Nat.lt_or_ge i k with q | q
    · exact h2 i q
    · obtain rfl : i = k := by omega
      exact hd

set_option maxRecDepth 100000 in
set_option maxHeartbeats 2000000 in
theorem refAt_any (pt fr to : Nat → Int) (frame now : Int) (a : Option Addr) (n cap : Nat) (w : World) (hn : n ≤ 1000) (hr : Rows3 w a n pt fr to) (hf : 1 ≤ frame ∧ frame ≤ 1099511627776) (hw : WinsOk pt fr to frame n) (h : 0 ≤ now ∧ now ≤ 1099511627776) :
    Calls Tryd.prog 7 #[.int .i64 frame, .slice a n cap, .int .i64 now] w fun e w' => ∃ p l, e = .returned (.tuple #[.int .i64 p, .int .i64 l, .int .i64 0]) ∧ RunsAt pt fr to frame n (now % frame) p l ∧ Below w.heap.size w w' := by
  have hin := in_is now 0 1099511627776
  rw [decide_eq_true h] at hin
  have hia := in_is
  have HR : Hid (Rows3 w a n pt fr to) := hr
  have HW : Hid (WinsOk pt fr to frame n) := hw
  obtain ⟨D, hD⟩ : ∃ D, Int.tdiv now frame = D := ⟨_, rfl⟩
  obtain ⟨x, hx⟩ : ∃ x, now % frame = x := ⟨_, rfl⟩
  have hx0 : 0 ≤ x := by rw [← hx]; exact Int.emod_nonneg _ (by omega)
  have hx1 : x < frame := by rw [← hx]; exact Int.emod_lt_of_pos _ (by omega)
  have hx2 : x ≤ now := by
    rw [← hx]
    have := Int.emod_add_mul_ediv now frame
    have := Int.mul_nonneg (show 0 ≤ frame by omega) (Int.ediv_nonneg h.1 (show 0 ≤ frame by omega))
    omega
  have hDf : D * frame = now - x := by
    rw [← hD, ← hx, Int.tdiv_eq_ediv_of_nonneg h.1]
    have := Int.emod_add_mul_ediv now frame
    rw [Int.mul_comm] at this
    omega
  have hf0 : (frame == 0) = false := by simp; omega
  have hf1 : (frame == -1) = false := by simp; omega
  have hD0 : 0 ≤ D ∧ D ≤ 1099511627776 := by
    rw [← hD, Int.tdiv_eq_ediv_of_nonneg h.1]
    exact ⟨Int.ediv_nonneg h.1 (by omega), Int.le_trans (Int.ediv_le_self _ h.1) h.2⟩
  obtain ⟨y, hy⟩ : ∃ y, now - x = y := ⟨_, rfl⟩
  rw [hy] at hDf
  have hy0 : 0 ≤ y ∧ y ≤ now := by omega
  have hyx : now - y = x := by omega
  clear hy
  rw [hx]
  clear hr hw hx
  go_enter Tryd.func7, Tryd.ntmps7
  go_wp2_with fail
  refine (hin _).mono ?_
  rintro ev w1 ⟨rfl, q⟩
  replace q := q.symm
  subst q
  clear hin
  go_wp2_with fail
  go_loopw [28] (fun t wr => ∃ k : Nat, k ≤ n ∧ t = .int .i64 k ∧ Hid (∀ j, j < k → ¬ (fr j ≤ x ∧ x < to j)) ∧ Hid (Below w.heap.size w wr)) (fun t _ => n - (intOf t).toNat)
  case atStart => exact ⟨0, Nat.zero_le _, rfl, fun j hj => absurd hj (Nat.not_lt_zero _), Below.refl _ _⟩
  case round =>
    obtain ⟨k, hk, rfl, h0, hbe⟩ := hrel
    by_cases hlt : k < n
    · obtain ⟨b, off, rfl, hb, hc⟩ := HR.out (by omega)
      obtain ⟨x0, x1, x2⟩ := hc k hlt
      have y0 := (hbe.out.cell (p := ⟨b, off + k * 3, none⟩) hb).trans x0
      have y1 := (hbe.out.cell (p := ⟨b, off + k * 3 + 1, none⟩) hb).trans x1
      have y2 := (hbe.out.cell (p := ⟨b, off + k * 3 + 2, none⟩) hb).trans x2
      have hup := HW.out.up k hlt
      clear x0 x1 x2 hc
      have hz : b < wr.heap.size := Nat.lt_of_lt_of_le hb hbe.out.size
      have kk : (k : Int) < (n : Int) := by omega
      have hin := hia x (fr k) (to k - 1)
      have HBE : Hid (Below w.heap.size w (wr.alloc (.cells #[.int .i64 (pt k), .int .i64 (fr k), .int .i64 (to k)] 37))) := hbe.out.alloc hbe.out.size _
      have HK : Hid (k < n) := hlt
      by_cases hit : fr k ≤ x ∧ x < to k
      · rw [decide_eq_true (show fr k ≤ x ∧ x ≤ to k - 1 by omega)] at hin
        have HRun : Hid (RunsAt pt fr to frame n x (pt k) (to k - x)) := .inl ⟨k, hlt, hit.1, hit.2, rfl, rfl⟩
        generalize pt k = P at *
        generalize fr k = F at *
        generalize to k = T at *
        go_wp2_with fail
        refine (hin _).mono ?_
        rintro ev w2 ⟨rfl, q⟩
        replace q := q.symm
        subst q
        go_wp2_with fail
        go_quiet (fail)
        go_wp2
        exact bodyPost_ret (v := .tuple #[.int .i64 P, .int .i64 (T - x), .int .i64 0]) (by simp [results, Tryd.results7, go_sem]) rfl ⟨_, _, rfl, HRun.out, below_draw HBE.out _⟩
      · rw [decide_eq_false (show ¬ (fr k ≤ x ∧ x ≤ to k - 1) by omega)] at hin
        have HNx : Hid (∀ j, j < k + 1 → ¬ (fr j ≤ x ∧ x < to j)) := fun j hj => by
          rcases Nat.lt_or_ge j k with q | q
          · exact h0.out j q
          · obtain rfl : j = k := by omega
            exact hit
        clear hit h0
        generalize pt k = P at *
        generalize fr k = F at *
        generalize to k = T at *
        go_wp2_with fail
        refine (hin _).mono ?_
        rintro ev w2 ⟨rfl, q⟩
        replace q := q.symm
        subst q
        go_wp2_with fail
        exact ⟨⟨k + 1, by omega, by go_num, HNx, HBE⟩, by simp [intOf]; omega⟩
    · have hkn : k = n := by omega
      have HNo : Hid (∀ j, j < n → ¬ (fr j ≤ x ∧ x < to j)) := by rw [← hkn]; exact h0
      have kk : decide (k < n) = false := decide_eq_false (by omega)
      clear h0 hkn hlt
      rename World => wq
      go_wp2_with fail
      go_loopw [51, 12] (fun t m wr => ∃ (k : Nat) (mm : Int), k ≤ n ∧ t = .int .i64 k ∧ m = .int .i64 mm ∧ Hid (Near fr frame x k mm) ∧ -1 ≤ mm ∧ mm ≤ 2199023255552 ∧ Hid (Below w.heap.size w wr)) (fun t _ _ => n - (intOf t).toNat)
      case atStart => exact ⟨0, -1, Nat.zero_le _, rfl, rfl, .inl ⟨rfl, rfl⟩, by decide, by decide, hbe⟩
      case round =>
        clear hbe
        obtain ⟨k, m, hk, rfl, rfl, HNr, hm0, hm1, hbe⟩ := hrel
        by_cases hlt : k < n
        · obtain ⟨b, off, rfl, hb, hc⟩ := HR.out (by omega)
          obtain ⟨x0, x1, x2⟩ := hc k hlt
          have y0 := (hbe.out.cell (p := ⟨b, off + k * 3, none⟩) hb).trans x0
          have y1 := (hbe.out.cell (p := ⟨b, off + k * 3 + 1, none⟩) hb).trans x1
          have y2 := (hbe.out.cell (p := ⟨b, off + k * 3 + 2, none⟩) hb).trans x2
          have hup := HW.out.up k hlt
          have hpos : 0 < k → 0 ≤ m := fun q => HNr.out.pos q (fun j hj => (HW.out.up j (by omega)).1) hx1
          clear x0 x1 x2 hc
          have hz : b < wr.heap.size := Nat.lt_of_lt_of_le hb hbe.out.size
          have kk : (k : Int) < (n : Int) := by omega
          have HBE : Hid (Below w.heap.size w (wr.alloc (.cells #[.int .i64 (pt k), .int .i64 (fr k), .int .i64 (to k)] 37))) := hbe.out.alloc hbe.out.size _
          have HNN : Hid ((k = 0 ∨ distW fr frame x k < m) → Near fr frame x (k + 1) (distW fr frame x k)) := fun q => HNr.out.nearer q
          have HNO : Hid (0 < k → m ≤ distW fr frame x k → Near fr frame x (k + 1) m) := fun q r => HNr.out.not q r
          have HK0 : Hid (k = 0 → m = -1) := fun q => by
            rcases HNr.out with ⟨_, e⟩ | ⟨⟨j, hj, _⟩, _⟩
            · exact e
            · omega
          obtain ⟨d, hd⟩ : ∃ d, distW fr frame x k = d := ⟨_, rfl⟩
          rw [hd] at HNN HNO
          have hd' := hd
          unfold distW at hd'
          clear HNr
          generalize pt k = P at *
          generalize fr k = F at *
          generalize to k = T at *
          have hKm := HK0.out
          by_cases c1 : F - x < 0
          · rw [if_pos c1] at hd'
            by_cases c2 : m < 0
            · go_wp2_with fail
              exact ⟨⟨k + 1, d, by omega, by go_num, by rw [← hd'], HNN.out (.inl (by omega)), by omega, by omega, HBE⟩, by simp [intOf]; omega⟩
            · have c2' := decide_eq_false c2
              by_cases c3 : d < m
              · have c3' : F - x + frame < m := by omega
                go_wp2_with fail
                exact ⟨⟨k + 1, d, by omega, by go_num, by rw [← hd'], HNN.out (.inr c3), by omega, by omega, HBE⟩, by simp [intOf]; omega⟩
              · have c3' : decide (F - x + frame < m) = false := decide_eq_false (by omega)
                go_wp2_with fail
                exact ⟨⟨k + 1, m, by omega, by go_num, rfl, HNO.out (by omega) (by omega), by omega, by omega, HBE⟩, by simp [intOf]; omega⟩
          · rw [if_neg c1] at hd'
            have c1' := decide_eq_false c1
            by_cases c2 : m < 0
            · go_wp2_with fail
              exact ⟨⟨k + 1, d, by omega, by go_num, by rw [← hd'], HNN.out (.inl (by omega)), by omega, by omega, HBE⟩, by simp [intOf]; omega⟩
            · have c2' := decide_eq_false c2
              by_cases c3 : d < m
              · have c3' : F - x < m := by omega
                go_wp2_with fail
                exact ⟨⟨k + 1, d, by omega, by go_num, by rw [← hd'], HNN.out (.inr c3), by omega, by omega, HBE⟩, by simp [intOf]; omega⟩
              · have c3' : decide (F - x < m) = false := decide_eq_false (by omega)
                go_wp2_with fail
                exact ⟨⟨k + 1, m, by omega, by go_num, rfl, HNO.out (by omega) (by omega), by omega, by omega, HBE⟩, by simp [intOf]; omega⟩
        · have hkn : k = n := by omega
          have HRun : Hid (RunsAt pt fr to frame n x (-1) m) := .inr ⟨HNo.out, rfl, by rw [← hkn]; exact HNr.out⟩
          have kk : decide (k < n) = false := decide_eq_false (by omega)
          clear hkn hlt
          go_wp2
          exact bodyPost_ret (v := .tuple #[.int .i64 (-1), .int .i64 m, .int .i64 0]) (by simp [results, Tryd.results7, go_sem]) rfl ⟨_, _, rfl, HRun.out, hbe.out⟩
end Go.Proofs.YtklknbkofmobcacDoor
