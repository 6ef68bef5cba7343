/- The program's Decode: bytes of another form; else Check's answer of the plan that was read. (Made by tools/gen_plandecode.py.) -/
import Derived.Test.YtlpojkehbhkdiaaDoorPlanPlan
import Derived.Test.YtlpojkehbhkdiaaDoorPlanCheck
namespace Go.Proofs.YtlpojkehbhkdiaaDoor
open Go.RowKit

/-- The state behind a whole plan. -/
def endSt (st : St) : St := (rowsSt 3 32 ((nx (rowsSt 4 8 (rowsSt 3 32 (stAt st 6)))).2))
theorem far_ten {X c j : Nat} {u : World} {x v0 v1 v2 v3 v4 v5 v6 v7 v8 v9 : Value} (hX : X ≠ c) (h : u.cell? ⟨c, j, none⟩ = some x) : ((((((((((u.setCell ⟨X, 0, none⟩ v0).setCell ⟨X, 1, none⟩ v1).setCell ⟨X, 2, none⟩ v2).setCell ⟨X, 3, none⟩ v3).setCell ⟨X, 4, none⟩ v4).setCell ⟨X, 5, none⟩ v5).setCell ⟨X, 6, none⟩ v6).setCell ⟨X, 7, none⟩ v7).setCell ⟨X, 8, none⟩ v8).setCell ⟨X, 9, none⟩ v9).cell? ⟨c, j, none⟩ = some x := set_far hX (set_far hX (set_far hX (set_far hX (set_far hX (set_far hX (set_far hX (set_far hX (set_far hX (set_far hX (h))))))))))
theorem err_ten {X : Nat} {u : World} {V v0 v1 v2 v3 v4 v5 v6 v7 v8 v9 : Value} {E I : Int} (h : ErrIs u V E I) (hE : E ≠ 0) (h0 : u.cell? ⟨X, 0, none⟩ = some (.int .i64 0)) : ErrIs ((((((((((u.setCell ⟨X, 0, none⟩ v0).setCell ⟨X, 1, none⟩ v1).setCell ⟨X, 2, none⟩ v2).setCell ⟨X, 3, none⟩ v3).setCell ⟨X, 4, none⟩ v4).setCell ⟨X, 5, none⟩ v5).setCell ⟨X, 6, none⟩ v6).setCell ⟨X, 7, none⟩ v7).setCell ⟨X, 8, none⟩ v8).setCell ⟨X, 9, none⟩ v9) V E I := by
  rcases h with ⟨_, h, _⟩ | h | ⟨b, h1, h2, h3, h4⟩
  · exact absurd h hE
  · exact .inr (.inl h)
  · have hb : X ≠ b := by
      rintro rfl
      rw [h0] at h3
      simp at h3
      exact hE h3.symm
    exact .inr (.inr ⟨b, h1, h2, far_ten hb h3, far_ten hb h4⟩)
theorem rows3_ten {X : Nat} {u : World} {a : Option Addr} {n : Nat} {f g h : Nat → Int} (r : Rows3 u a n f g h) (hX : ∀ b off, a = some ⟨b, off, none⟩ → X ≠ b) (v0 v1 v2 v3 v4 v5 v6 v7 v8 v9 : Value) : Rows3 ((((((((((u.setCell ⟨X, 0, none⟩ v0).setCell ⟨X, 1, none⟩ v1).setCell ⟨X, 2, none⟩ v2).setCell ⟨X, 3, none⟩ v3).setCell ⟨X, 4, none⟩ v4).setCell ⟨X, 5, none⟩ v5).setCell ⟨X, 6, none⟩ v6).setCell ⟨X, 7, none⟩ v7).setCell ⟨X, 8, none⟩ v8).setCell ⟨X, 9, none⟩ v9) a n f g h := ((((((((((r).setX hX v0).setX hX v1).setX hX v2).setX hX v3).setX hX v4).setX hX v5).setX hX v6).setX hX v7).setX hX v8).setX hX v9
theorem rows4_ten {X : Nat} {u : World} {a : Option Addr} {n : Nat} {f g h k : Nat → Int} (r : Rows4 u a n f g h k) (hX : ∀ b off, a = some ⟨b, off, none⟩ → X ≠ b) (v0 v1 v2 v3 v4 v5 v6 v7 v8 v9 : Value) : Rows4 ((((((((((u.setCell ⟨X, 0, none⟩ v0).setCell ⟨X, 1, none⟩ v1).setCell ⟨X, 2, none⟩ v2).setCell ⟨X, 3, none⟩ v3).setCell ⟨X, 4, none⟩ v4).setCell ⟨X, 5, none⟩ v5).setCell ⟨X, 6, none⟩ v6).setCell ⟨X, 7, none⟩ v7).setCell ⟨X, 8, none⟩ v8).setCell ⟨X, 9, none⟩ v9) a n f g h k := ((((((((((r).setX hX v0).setX hX v1).setX hX v2).setX hX v3).setX hX v4).setX hX v5).setX hX v6).setX hX v7).setX hX v8).setX hX v9
theorem below_ten {B X : Nat} {w u : World} (h : Below B w u) (hX : B ≤ X) (v0 v1 v2 v3 v4 v5 v6 v7 v8 v9 : Value) : Below B w ((((((((((u.setCell ⟨X, 0, none⟩ v0).setCell ⟨X, 1, none⟩ v1).setCell ⟨X, 2, none⟩ v2).setCell ⟨X, 3, none⟩ v3).setCell ⟨X, 4, none⟩ v4).setCell ⟨X, 5, none⟩ v5).setCell ⟨X, 6, none⟩ v6).setCell ⟨X, 7, none⟩ v7).setCell ⟨X, 8, none⟩ v8).setCell ⟨X, 9, none⟩ v9) :=
  ((((((((((h).setCell (p := ⟨X, 0, none⟩) hX v0).setCell (p := ⟨X, 1, none⟩) hX v1).setCell (p := ⟨X, 2, none⟩) hX v2).setCell (p := ⟨X, 3, none⟩) hX v3).setCell (p := ⟨X, 4, none⟩) hX v4).setCell (p := ⟨X, 5, none⟩) hX v5).setCell (p := ⟨X, 6, none⟩) hX v6).setCell (p := ⟨X, 7, none⟩) hX v7).setCell (p := ⟨X, 8, none⟩) hX v8).setCell (p := ⟨X, 9, none⟩) hX v9
theorem size_ten {X : Nat} {u : World} {v0 v1 v2 v3 v4 v5 v6 v7 v8 v9 : Value} : ((((((((((u.setCell ⟨X, 0, none⟩ v0).setCell ⟨X, 1, none⟩ v1).setCell ⟨X, 2, none⟩ v2).setCell ⟨X, 3, none⟩ v3).setCell ⟨X, 4, none⟩ v4).setCell ⟨X, 5, none⟩ v5).setCell ⟨X, 6, none⟩ v6).setCell ⟨X, 7, none⟩ v7).setCell ⟨X, 8, none⟩ v8).setCell ⟨X, 9, none⟩ v9).heap.size = u.heap.size := by simp [World.setCell]

set_option maxRecDepth 100000 in
set_option maxHeartbeats 4000000 in
theorem decode_long (a : Option Addr) (n cap : Nat) (w : World) (hn : 2000 < n) :
    Calls Tryd.prog 13 #[.slice a n cap] w fun ev w' => ev = .returned (.tuple #[.agg #[.int .i64 0, .int .i64 0, .int .i64 0, .int .i64 0, .int .i64 0, .int .i64 0, .slice none 0 0, .slice none 0 0, .int .i64 0, .slice none 0 0], .iface 32 (.int .i64 3)]) ∧ Below w.heap.size w w' := by
  have h1 : decide ((2000 : Int) < (n : Int)) = true := decide_eq_true (by omega)
  have hV : Below w.heap.size w (w.alloc (.cells #[.int .i64 0, .int .i64 0, .int .i64 0, .int .i64 0, .int .i64 0, .int .i64 0, .slice none 0 0, .slice none 0 0, .int .i64 0, .slice none 0 0] 26)) := (Below.refl _ _).alloc (Nat.le_refl _) _
  go_enter Tryd.func13, Tryd.ntmps13
  go_wp2_with fail
  exact bodyPost_ret (v := .tuple #[.agg #[.int .i64 0, .int .i64 0, .int .i64 0, .int .i64 0, .int .i64 0, .int .i64 0, .slice none 0 0, .slice none 0 0, .int .i64 0, .slice none 0 0], .iface 32 (.int .i64 3)]) (by simp [results, Tryd.results13, go_sem]) rfl ⟨rfl, hV⟩

set_option maxRecDepth 100000 in
set_option maxHeartbeats 4000000 in
theorem decode_form (a : Option Addr) (cap : Nat) (bs : List Int) (w : World) (hrow : 0 < bs.length → ∃ b off, a = some ⟨b, off, none⟩ ∧ b < w.heap.size ∧ ∀ j (h : j < bs.length), w.cell? ⟨b, off + j, none⟩ = some (.int .u8 bs[j])) (hby : ∀ x ∈ bs, 0 ≤ x ∧ x < 256) (hcap : bs.length ≤ cap) (hlen : bs.length ≤ 2000) (hS : endSt (some bs) ≠ some []) :
    Calls Tryd.prog 13 #[.slice a bs.length cap] w fun ev w' => ev = .returned (.tuple #[.agg #[.int .i64 0, .int .i64 0, .int .i64 0, .int .i64 0, .int .i64 0, .int .i64 0, .slice none 0 0, .slice none 0 0, .int .i64 0, .slice none 0 0], .iface 32 (.int .i64 3)]) ∧ Below w.heap.size w w' := by
  obtain ⟨st, hst⟩ : ∃ st : St, st = some bs := ⟨_, rfl⟩
  obtain ⟨V, hVe⟩ : ∃ V, V = (w.alloc (.cells #[.int .i64 0, .int .i64 0, .int .i64 0, .int .i64 0, .int .i64 0, .int .i64 0, .slice none 0 0, .slice none 0 0, .int .i64 0, .slice none 0 0] 26)).alloc (.cells #[.slice a bs.length cap, .bool false] 70) := ⟨_, rfl⟩
  have hRS : RS V (w.heap.size + 1) st := by
    rw [hst, hVe]
    refine ⟨⟨by simp, by simp⟩, ⟨a, cap, by simp, hcap, fun h0 => ?_⟩, by simp, hby, hlen⟩
    obtain ⟨b, off, e, hb, hc⟩ := hrow h0
    exact ⟨b, off, e, by omega, fun j h => by rw [World.cell?_alloc_lt _ _ _ (by simp; omega), World.cell?_alloc_lt _ _ _ hb]; exact hc j h⟩
  have hq : PCells w.heap.size [.int .i64 0, .int .i64 0, .int .i64 0, .int .i64 0, .int .i64 0, .int .i64 0, .slice none 0 0, .slice none 0 0, .int .i64 0, .slice none 0 0] V := by
    rw [hVe]
    exact (pcells_new w #[.int .i64 0, .int .i64 0, .int .i64 0, .int .i64 0, .int .i64 0, .int .i64 0, .slice none 0 0, .slice none 0 0, .int .i64 0, .slice none 0 0] 26).alloc _ (by simp)
  have hV : Below w.heap.size w V := by rw [hVe]; exact ((Below.refl _ _).alloc (Nat.le_refl _) _).alloc (by simp) _
  have hVs : V.heap.size = w.heap.size + 2 := by rw [hVe]; simp
  have h1 : decide ((2000 : Int) < (bs.length : Int)) = false := decide_eq_false (by omega)
  have HS : Hid (endSt (some bs) = endSt st) := by rw [hst]; rfl
  have HST : Hid (st = some bs) := hst
  clear hst
  obtain ⟨n, hn⟩ : ∃ n, bs.length = n := ⟨_, rfl⟩
  rw [hn] at hVe h1 ⊢
  go_enter Tryd.func13, Tryd.ntmps13
  go_wp2_with fail
  rw [← hVe]
  clear hVe hrow hcap h1
  refine (plan_st (w.heap.size + 1) st V hRS).mono ?_
  rintro ev w2 ⟨sa, sc, la, lc, wa, wc, rfl, ⟨fs, fl, fw⟩, rs, rl, rw', hR2, hg⟩
  replace hq := hq.but hg (by omega)
  have hV2 : Below w.heap.size w w2 := hV.grown hg (by omega) (fun k e => by cases e; omega)
  have hws : w.heap.size + 2 ≤ w2.heap.size := by have := hg.size; omega
  change RS w2 (w.heap.size + 1) (endSt st) at hR2
  rw [HS.out] at hS
  have hz : w.heap.size ≠ w2.heap.size := by omega
  have hz2 : w.heap.size < w2.heap.size := by omega
  have hz3 : w.heap.size + 1 < w2.heap.size := by omega
  obtain ⟨q0, k0⟩ := hq 0 _ rfl
  obtain ⟨q1, k1⟩ := hq 1 _ rfl
  obtain ⟨q2, k2⟩ := hq 2 _ rfl
  obtain ⟨q3, k3⟩ := hq 3 _ rfl
  obtain ⟨q4, k4⟩ := hq 4 _ rfl
  obtain ⟨q5, k5⟩ := hq 5 _ rfl
  obtain ⟨q6, k6⟩ := hq 6 _ rfl
  obtain ⟨q7, k7⟩ := hq 7 _ rfl
  obtain ⟨q8, k8⟩ := hq 8 _ rfl
  obtain ⟨q9, k9⟩ := hq 9 _ rfl
  obtain ⟨_, hR2⟩ := hR2
  cases hE : endSt st with
  | none =>
    rw [hE] at hR2
    obtain ⟨c0, c1⟩ := hR2
    go_wp2
    replace hq := hq.set (i := 0) (by simp) (.int .i64 0)
    simp only [List.set_cons_zero] at hq
    replace hq := hq.set (i := 1) (by simp) (.int .i64 0)
    simp only [List.set_cons_zero, List.set_cons_succ] at hq
    replace hq := hq.set (i := 2) (by simp) (.int .i64 0)
    simp only [List.set_cons_zero, List.set_cons_succ] at hq
    replace hq := hq.set (i := 3) (by simp) (.int .i64 0)
    simp only [List.set_cons_zero, List.set_cons_succ] at hq
    replace hq := hq.set (i := 4) (by simp) (.int .i64 0)
    simp only [List.set_cons_zero, List.set_cons_succ] at hq
    replace hq := hq.set (i := 5) (by simp) (.int .i64 0)
    simp only [List.set_cons_zero, List.set_cons_succ] at hq
    replace hq := hq.set (i := 6) (by simp) (.slice none 0 0)
    simp only [List.set_cons_zero, List.set_cons_succ] at hq
    replace hq := hq.set (i := 7) (by simp) (.slice none 0 0)
    simp only [List.set_cons_zero, List.set_cons_succ] at hq
    replace hq := hq.set (i := 8) (by simp) (.int .i64 0)
    simp only [List.set_cons_zero, List.set_cons_succ] at hq
    replace hq := hq.set (i := 9) (by simp) (.slice none 0 0)
    simp only [List.set_cons_zero, List.set_cons_succ] at hq
    clear q0 k0 q1 k1 q2 k2 q3 k3 q4 k4 q5 k5 q6 k6 q7 k7 q8 k8 q9 k9
    replace hq := hq.alloc (.cells #[.int .i64 (nth st 0), .int .i64 (nth st 1), .int .i64 (nth st 2), .int .i64 (nth st 3), .int .i64 (nth st 4), .int .i64 (nth st 5), .slice sa (rowsN 32 (stAt st 6)) sc, .slice la (rowsN 8 (rowsSt 3 32 (stAt st 6))) lc, .int .i64 (nx (rowsSt 4 8 (rowsSt 3 32 (stAt st 6)))).1, .slice wa (rowsN 32 ((nx (rowsSt 4 8 (rowsSt 3 32 (stAt st 6)))).2)) wc] 26) (by rw [size_ten]; omega)
    obtain ⟨y0, _⟩ := hq 0 _ rfl
    obtain ⟨y1, _⟩ := hq 1 _ rfl
    obtain ⟨y2, _⟩ := hq 2 _ rfl
    obtain ⟨y3, _⟩ := hq 3 _ rfl
    obtain ⟨y4, _⟩ := hq 4 _ rfl
    obtain ⟨y5, _⟩ := hq 5 _ rfl
    obtain ⟨y6, _⟩ := hq 6 _ rfl
    obtain ⟨y7, _⟩ := hq 7 _ rfl
    obtain ⟨y8, _⟩ := hq 8 _ rfl
    obtain ⟨y9, _⟩ := hq 9 _ rfl
    refine bodyPost_ret (v := .tuple #[.agg #[.int .i64 0, .int .i64 0, .int .i64 0, .int .i64 0, .int .i64 0, .int .i64 0, .slice none 0 0, .slice none 0 0, .int .i64 0, .slice none 0 0], .iface 32 (.int .i64 3)]) (by simp [results, Tryd.results13, go_sem, y0, y1, y2, y3, y4, y5, y6, y7, y8, y9]) rfl ⟨rfl, ?_⟩
    exact (below_ten hV2 (Nat.le_refl _) _ _ _ _ _ _ _ _ _ _).alloc (by rw [size_ten]; omega) _
  | some r =>
    rw [hE] at hR2
    obtain ⟨⟨a', cap', c0, _, _⟩, c1, _, hl⟩ := hR2
    have hr : 0 < r.length := by
      rcases Nat.eq_zero_or_pos r.length with h | h
      · exact absurd (by rw [hE, List.length_eq_zero_iff.1 h]) hS
      · exact h
    have hr2 : (0 : Int) < (r.length : Int) := by omega
    go_wp2
    replace hq := hq.set (i := 0) (by simp) (.int .i64 0)
    simp only [List.set_cons_zero] at hq
    replace hq := hq.set (i := 1) (by simp) (.int .i64 0)
    simp only [List.set_cons_zero, List.set_cons_succ] at hq
    replace hq := hq.set (i := 2) (by simp) (.int .i64 0)
    simp only [List.set_cons_zero, List.set_cons_succ] at hq
    replace hq := hq.set (i := 3) (by simp) (.int .i64 0)
    simp only [List.set_cons_zero, List.set_cons_succ] at hq
    replace hq := hq.set (i := 4) (by simp) (.int .i64 0)
    simp only [List.set_cons_zero, List.set_cons_succ] at hq
    replace hq := hq.set (i := 5) (by simp) (.int .i64 0)
    simp only [List.set_cons_zero, List.set_cons_succ] at hq
    replace hq := hq.set (i := 6) (by simp) (.slice none 0 0)
    simp only [List.set_cons_zero, List.set_cons_succ] at hq
    replace hq := hq.set (i := 7) (by simp) (.slice none 0 0)
    simp only [List.set_cons_zero, List.set_cons_succ] at hq
    replace hq := hq.set (i := 8) (by simp) (.int .i64 0)
    simp only [List.set_cons_zero, List.set_cons_succ] at hq
    replace hq := hq.set (i := 9) (by simp) (.slice none 0 0)
    simp only [List.set_cons_zero, List.set_cons_succ] at hq
    clear q0 k0 q1 k1 q2 k2 q3 k3 q4 k4 q5 k5 q6 k6 q7 k7 q8 k8 q9 k9
    replace hq := hq.alloc (.cells #[.int .i64 (nth st 0), .int .i64 (nth st 1), .int .i64 (nth st 2), .int .i64 (nth st 3), .int .i64 (nth st 4), .int .i64 (nth st 5), .slice sa (rowsN 32 (stAt st 6)) sc, .slice la (rowsN 8 (rowsSt 3 32 (stAt st 6))) lc, .int .i64 (nx (rowsSt 4 8 (rowsSt 3 32 (stAt st 6)))).1, .slice wa (rowsN 32 ((nx (rowsSt 4 8 (rowsSt 3 32 (stAt st 6)))).2)) wc] 26) (by rw [size_ten]; omega)
    obtain ⟨y0, _⟩ := hq 0 _ rfl
    obtain ⟨y1, _⟩ := hq 1 _ rfl
    obtain ⟨y2, _⟩ := hq 2 _ rfl
    obtain ⟨y3, _⟩ := hq 3 _ rfl
    obtain ⟨y4, _⟩ := hq 4 _ rfl
    obtain ⟨y5, _⟩ := hq 5 _ rfl
    obtain ⟨y6, _⟩ := hq 6 _ rfl
    obtain ⟨y7, _⟩ := hq 7 _ rfl
    obtain ⟨y8, _⟩ := hq 8 _ rfl
    obtain ⟨y9, _⟩ := hq 9 _ rfl
    refine bodyPost_ret (v := .tuple #[.agg #[.int .i64 0, .int .i64 0, .int .i64 0, .int .i64 0, .int .i64 0, .int .i64 0, .slice none 0 0, .slice none 0 0, .int .i64 0, .slice none 0 0], .iface 32 (.int .i64 3)]) (by simp [results, Tryd.results13, go_sem, y0, y1, y2, y3, y4, y5, y6, y7, y8, y9]) rfl ⟨rfl, ?_⟩
    exact (below_ten hV2 (Nat.le_refl _) _ _ _ _ _ _ _ _ _ _).alloc (by rw [size_ten]; omega) _
theorem PCells.below {P : Nat} {l : List Value} {u u' : World} (h : PCells P l u) (hb : Below u.heap.size u u') : PCells P l u' := fun i v hi => by
  obtain ⟨h1, h2⟩ := h i v hi
  exact ⟨keep_cell h1 hb, (hb.frozen (p := ⟨P, i, none⟩) (lt_of_cell h1)).trans h2⟩

set_option maxRecDepth 100000 in
set_option maxHeartbeats 2000000 in
theorem decode_bad (a : Option Addr) (cap : Nat) (bs : List Int) (w : World) (hrow : 0 < bs.length → ∃ b off, a = some ⟨b, off, none⟩ ∧ b < w.heap.size ∧ ∀ j (h : j < bs.length), w.cell? ⟨b, off + j, none⟩ = some (.int .u8 bs[j])) (hby : ∀ x ∈ bs, 0 ≤ x ∧ x < 256) (hcap : bs.length ≤ cap) (hlen : bs.length ≤ 2000) (hS : endSt (some bs) = some []) (st : St) (hst : st = some bs) (hit : Nat → Bool) (pw E I : Int) (hpw : (2 : Int) ^ (nth st 0).toNat = pw) (hhit : ∀ j, 0 ≤ (fun j => nth (nx (rowsSt 3 32 (stAt st 6))).2 (4 * j)) j → (fun j => nth (nx (rowsSt 3 32 (stAt st 6))).2 (4 * j)) j ≤ 15 → hit j = (bits BinOp.and .i64 ((fun j => nth (nx (rowsSt 3 32 (stAt st 6))).2 (4 * j + 1)) j) (2 ^ ((fun j => nth (nx (rowsSt 3 32 (stAt st 6))).2 (4 * j)) j).toNat) != 0)) (hC : CheckIs (nth st 0) (nth st 1) (nth st 2) (nth st 3) (nth st 4) (nth st 5) (nx (rowsSt 4 8 (rowsSt 3 32 (stAt st 6)))).1 (rowsN 32 (stAt st 6)) (rowsN 8 (rowsSt 3 32 (stAt st 6))) (rowsN 32 ((nx (rowsSt 4 8 (rowsSt 3 32 (stAt st 6)))).2)) (fun j => nth (nx (stAt st 6)).2 (3 * j)) (fun j => nth (nx (stAt st 6)).2 (3 * j + 1)) (fun j => nth (nx (stAt st 6)).2 (3 * j + 2)) (fun j => nth (nx (rowsSt 3 32 (stAt st 6))).2 (4 * j)) (fun j => nth (nx (rowsSt 3 32 (stAt st 6))).2 (4 * j + 1)) (fun j => nth (nx (rowsSt 3 32 (stAt st 6))).2 (4 * j + 2)) (fun j => nth (nx (rowsSt 3 32 (stAt st 6))).2 (4 * j + 3)) hit pw (fun j => nth (nx ((nx (rowsSt 4 8 (rowsSt 3 32 (stAt st 6)))).2)).2 (3 * j)) (fun j => nth (nx ((nx (rowsSt 4 8 (rowsSt 3 32 (stAt st 6)))).2)).2 (3 * j + 1)) (fun j => nth (nx ((nx (rowsSt 4 8 (rowsSt 3 32 (stAt st 6)))).2)).2 (3 * j + 2)) E I) (hE : E ≠ 0) :
    Calls Tryd.prog 13 #[.slice a bs.length cap] w fun ev w' => ∃ X, ev = .returned (.tuple #[.agg #[.int .i64 0, .int .i64 0, .int .i64 0, .int .i64 0, .int .i64 0, .int .i64 0, .slice none 0 0, .slice none 0 0, .int .i64 0, .slice none 0 0], X]) ∧ ErrIs w' X E I ∧ Below w.heap.size w w' := by
  obtain ⟨V, hVe⟩ : ∃ V, V = (w.alloc (.cells #[.int .i64 0, .int .i64 0, .int .i64 0, .int .i64 0, .int .i64 0, .int .i64 0, .slice none 0 0, .slice none 0 0, .int .i64 0, .slice none 0 0] 26)).alloc (.cells #[.slice a bs.length cap, .bool false] 70) := ⟨_, rfl⟩
  have hRS : RS V (w.heap.size + 1) st := by
    rw [hst, hVe]
    refine ⟨⟨by simp, by simp⟩, ⟨a, cap, by simp, hcap, fun h0 => ?_⟩, by simp, hby, hlen⟩
    obtain ⟨b, off, e, hb, hc⟩ := hrow h0
    exact ⟨b, off, e, by omega, fun j h => by rw [World.cell?_alloc_lt _ _ _ (by simp; omega), World.cell?_alloc_lt _ _ _ hb]; exact hc j h⟩
  have hq : PCells w.heap.size [.int .i64 0, .int .i64 0, .int .i64 0, .int .i64 0, .int .i64 0, .int .i64 0, .slice none 0 0, .slice none 0 0, .int .i64 0, .slice none 0 0] V := by
    rw [hVe]
    exact (pcells_new w #[.int .i64 0, .int .i64 0, .int .i64 0, .int .i64 0, .int .i64 0, .int .i64 0, .slice none 0 0, .slice none 0 0, .int .i64 0, .slice none 0 0] 26).alloc _ (by simp)
  have hV : Below w.heap.size w V := by rw [hVe]; exact ((Below.refl _ _).alloc (Nat.le_refl _) _).alloc (by simp) _
  have hVs : V.heap.size = w.heap.size + 2 := by rw [hVe]; simp
  have h1 : decide ((2000 : Int) < (bs.length : Int)) = false := decide_eq_false (by omega)
  have HS : Hid (endSt (some bs) = endSt st) := by rw [hst]; rfl
  have HST : Hid (st = some bs) := hst
  clear hst
  obtain ⟨n, hn⟩ : ∃ n, bs.length = n := ⟨_, rfl⟩
  rw [hn] at hVe h1 ⊢
  go_enter Tryd.func13, Tryd.ntmps13
  go_wp2_with fail
  rw [← hVe]
  clear hVe hrow hcap h1
  refine (plan_st (w.heap.size + 1) st V hRS).mono ?_
  rintro ev w2 ⟨sa, sc, la, lc, wa, wc, rfl, ⟨fs, fl, fw⟩, rs, rl, rw', hR2, hg⟩
  replace hq := hq.but hg (by omega)
  have hV2 : Below w.heap.size w w2 := hV.grown hg (by omega) (fun k e => by cases e; omega)
  have hws : w.heap.size + 2 ≤ w2.heap.size := by have := hg.size; omega
  change RS w2 (w.heap.size + 1) (endSt st) at hR2
  rw [HS.out] at hS
  have HC : Hid (CheckIs (nth st 0) (nth st 1) (nth st 2) (nth st 3) (nth st 4) (nth st 5) (nx (rowsSt 4 8 (rowsSt 3 32 (stAt st 6)))).1 (rowsN 32 (stAt st 6)) (rowsN 8 (rowsSt 3 32 (stAt st 6))) (rowsN 32 ((nx (rowsSt 4 8 (rowsSt 3 32 (stAt st 6)))).2)) (fun j => nth (nx (stAt st 6)).2 (3 * j)) (fun j => nth (nx (stAt st 6)).2 (3 * j + 1)) (fun j => nth (nx (stAt st 6)).2 (3 * j + 2)) (fun j => nth (nx (rowsSt 3 32 (stAt st 6))).2 (4 * j)) (fun j => nth (nx (rowsSt 3 32 (stAt st 6))).2 (4 * j + 1)) (fun j => nth (nx (rowsSt 3 32 (stAt st 6))).2 (4 * j + 2)) (fun j => nth (nx (rowsSt 3 32 (stAt st 6))).2 (4 * j + 3)) hit pw (fun j => nth (nx ((nx (rowsSt 4 8 (rowsSt 3 32 (stAt st 6)))).2)).2 (3 * j)) (fun j => nth (nx ((nx (rowsSt 4 8 (rowsSt 3 32 (stAt st 6)))).2)).2 (3 * j + 1)) (fun j => nth (nx ((nx (rowsSt 4 8 (rowsSt 3 32 (stAt st 6)))).2)).2 (3 * j + 2)) E I) := hC
  have HH : Hid (∀ j, 0 ≤ (fun j => nth (nx (rowsSt 3 32 (stAt st 6))).2 (4 * j)) j → (fun j => nth (nx (rowsSt 3 32 (stAt st 6))).2 (4 * j)) j ≤ 15 → hit j = (bits BinOp.and .i64 ((fun j => nth (nx (rowsSt 3 32 (stAt st 6))).2 (4 * j + 1)) j) (2 ^ ((fun j => nth (nx (rowsSt 3 32 (stAt st 6))).2 (4 * j)) j).toNat) != 0)) := hhit
  clear hC hhit
  have hz : w.heap.size ≠ w2.heap.size := by omega
  have hz2 : w.heap.size < w2.heap.size := by omega
  have hz3 : w.heap.size + 1 < w2.heap.size := by omega
  obtain ⟨_, hR2⟩ := hR2
  rw [hS] at hR2
  obtain ⟨⟨a', cap', c0, _, _⟩, c1, _, _⟩ := hR2
  obtain ⟨U, hUe⟩ : ∃ U, U = w2.alloc (.cells #[.int .i64 (nth st 0), .int .i64 (nth st 1), .int .i64 (nth st 2), .int .i64 (nth st 3), .int .i64 (nth st 4), .int .i64 (nth st 5), .slice sa (rowsN 32 (stAt st 6)) sc, .slice la (rowsN 8 (rowsSt 3 32 (stAt st 6))) lc, .int .i64 (nx (rowsSt 4 8 (rowsSt 3 32 (stAt st 6)))).1, .slice wa (rowsN 32 ((nx (rowsSt 4 8 (rowsSt 3 32 (stAt st 6)))).2)) wc] 26) := ⟨_, rfl⟩
  have hU : Below w2.heap.size w2 U := by rw [hUe]; exact (Below.refl _ _).alloc (Nat.le_refl _) _
  have hpU : PCells w2.heap.size [.int .i64 (nth st 0), .int .i64 (nth st 1), .int .i64 (nth st 2), .int .i64 (nth st 3), .int .i64 (nth st 4), .int .i64 (nth st 5), .slice sa (rowsN 32 (stAt st 6)) sc, .slice la (rowsN 8 (rowsSt 3 32 (stAt st 6))) lc, .int .i64 (nx (rowsSt 4 8 (rowsSt 3 32 (stAt st 6)))).1, .slice wa (rowsN 32 ((nx (rowsSt 4 8 (rowsSt 3 32 (stAt st 6)))).2)) wc] U := by rw [hUe]; exact pcells_new w2 #[.int .i64 (nth st 0), .int .i64 (nth st 1), .int .i64 (nth st 2), .int .i64 (nth st 3), .int .i64 (nth st 4), .int .i64 (nth st 5), .slice sa (rowsN 32 (stAt st 6)) sc, .slice la (rowsN 8 (rowsSt 3 32 (stAt st 6))) lc, .int .i64 (nx (rowsSt 4 8 (rowsSt 3 32 (stAt st 6)))).1, .slice wa (rowsN 32 ((nx (rowsSt 4 8 (rowsSt 3 32 (stAt st 6)))).2)) wc] 26
  have hqU : PCells w.heap.size [.int .i64 0, .int .i64 0, .int .i64 0, .int .i64 0, .int .i64 0, .int .i64 0, .slice none 0 0, .slice none 0 0, .int .i64 0, .slice none 0 0] U := by rw [hUe]; exact hq.alloc _ hz2
  have hck := check_any (nth st 0) (nth st 1) (nth st 2) (nth st 3) (nth st 4) (nth st 5) (nx (rowsSt 4 8 (rowsSt 3 32 (stAt st 6)))).1 sa la wa (rowsN 32 (stAt st 6)) sc (rowsN 8 (rowsSt 3 32 (stAt st 6))) lc (rowsN 32 ((nx (rowsSt 4 8 (rowsSt 3 32 (stAt st 6)))).2)) wc (fun j => nth (nx (stAt st 6)).2 (3 * j)) (fun j => nth (nx (stAt st 6)).2 (3 * j + 1)) (fun j => nth (nx (stAt st 6)).2 (3 * j + 2)) (fun j => nth (nx (rowsSt 3 32 (stAt st 6))).2 (4 * j)) (fun j => nth (nx (rowsSt 3 32 (stAt st 6))).2 (4 * j + 1)) (fun j => nth (nx (rowsSt 3 32 (stAt st 6))).2 (4 * j + 2)) (fun j => nth (nx (rowsSt 3 32 (stAt st 6))).2 (4 * j + 3)) hit pw (fun j => nth (nx ((nx (rowsSt 4 8 (rowsSt 3 32 (stAt st 6)))).2)).2 (3 * j)) (fun j => nth (nx ((nx (rowsSt 4 8 (rowsSt 3 32 (stAt st 6)))).2)).2 (3 * j + 1)) (fun j => nth (nx ((nx (rowsSt 4 8 (rowsSt 3 32 (stAt st 6)))).2)).2 (3 * j + 2)) E I U (rs.below hU) (rl.below hU) (rw'.below hU) hpw HH.out HC.out
  go_wp2_with fail
  rw [← hUe]
  clear hUe c0 c1 hq
  refine hck.mono ?_
  clear hck
  rintro ev w3 ⟨X, rfl, hX, hb3⟩
  have hV3 : Below w.heap.size w w3 := (hV2.trans (hU.mono hV2.size)).trans (hb3.mono (by have := hU.size; omega))
  have hUs := hU.size
  have hw3 := hb3.size
  have hlt : w.heap.size < U.heap.size := by omega
  have hq := hqU.below hb3
  obtain ⟨q0, k0⟩ := hq 0 _ rfl
  obtain ⟨q1, k1⟩ := hq 1 _ rfl
  obtain ⟨q2, k2⟩ := hq 2 _ rfl
  obtain ⟨q3, k3⟩ := hq 3 _ rfl
  obtain ⟨q4, k4⟩ := hq 4 _ rfl
  obtain ⟨q5, k5⟩ := hq 5 _ rfl
  obtain ⟨q6, k6⟩ := hq 6 _ rfl
  obtain ⟨q7, k7⟩ := hq 7 _ rfl
  obtain ⟨q8, k8⟩ := hq 8 _ rfl
  obtain ⟨q9, k9⟩ := hq 9 _ rfl
  have HX : Hid (ErrIs w3 X E I) := hX
  have HE : Hid (E ≠ 0) := hE
  clear hE
  have hx : (∃ z, X = .iface 32 (.int .i64 z)) ∨ ∃ b, X = .iface 73 (.pointer (some ⟨b, 0, none⟩)) := by
    rcases hX with ⟨_, h0, _⟩ | ⟨e, _, _⟩ | ⟨b, e, _⟩
    · exact absurd h0 HE.out
    · exact .inl ⟨_, e⟩
    · exact .inr ⟨b, e⟩
  clear hX
  have h00 := q0
  rcases hx with ⟨z, rfl⟩ | ⟨b, rfl⟩
  · go_wp2
    replace hq := hq.set (i := 0) (by simp) (.int .i64 0)
    simp only [List.set_cons_zero] at hq
    replace hq := hq.set (i := 1) (by simp) (.int .i64 0)
    simp only [List.set_cons_zero, List.set_cons_succ] at hq
    replace hq := hq.set (i := 2) (by simp) (.int .i64 0)
    simp only [List.set_cons_zero, List.set_cons_succ] at hq
    replace hq := hq.set (i := 3) (by simp) (.int .i64 0)
    simp only [List.set_cons_zero, List.set_cons_succ] at hq
    replace hq := hq.set (i := 4) (by simp) (.int .i64 0)
    simp only [List.set_cons_zero, List.set_cons_succ] at hq
    replace hq := hq.set (i := 5) (by simp) (.int .i64 0)
    simp only [List.set_cons_zero, List.set_cons_succ] at hq
    replace hq := hq.set (i := 6) (by simp) (.slice none 0 0)
    simp only [List.set_cons_zero, List.set_cons_succ] at hq
    replace hq := hq.set (i := 7) (by simp) (.slice none 0 0)
    simp only [List.set_cons_zero, List.set_cons_succ] at hq
    replace hq := hq.set (i := 8) (by simp) (.int .i64 0)
    simp only [List.set_cons_zero, List.set_cons_succ] at hq
    replace hq := hq.set (i := 9) (by simp) (.slice none 0 0)
    simp only [List.set_cons_zero, List.set_cons_succ] at hq
    clear q0 k0 q1 k1 q2 k2 q3 k3 q4 k4 q5 k5 q6 k6 q7 k7 q8 k8 q9 k9
    obtain ⟨y0, _⟩ := hq 0 _ rfl
    obtain ⟨y1, _⟩ := hq 1 _ rfl
    obtain ⟨y2, _⟩ := hq 2 _ rfl
    obtain ⟨y3, _⟩ := hq 3 _ rfl
    obtain ⟨y4, _⟩ := hq 4 _ rfl
    obtain ⟨y5, _⟩ := hq 5 _ rfl
    obtain ⟨y6, _⟩ := hq 6 _ rfl
    obtain ⟨y7, _⟩ := hq 7 _ rfl
    obtain ⟨y8, _⟩ := hq 8 _ rfl
    obtain ⟨y9, _⟩ := hq 9 _ rfl
    refine bodyPost_ret (v := .tuple #[.agg #[.int .i64 0, .int .i64 0, .int .i64 0, .int .i64 0, .int .i64 0, .int .i64 0, .slice none 0 0, .slice none 0 0, .int .i64 0, .slice none 0 0], .iface 32 (.int .i64 z)]) (by simp [results, Tryd.results13, go_sem, y0, y1, y2, y3, y4, y5, y6, y7, y8, y9]) rfl ?_
    exact ⟨_, rfl, err_ten HX.out HE.out h00, below_ten hV3 (Nat.le_refl _) _ _ _ _ _ _ _ _ _ _⟩
  · go_wp2
    replace hq := hq.set (i := 0) (by simp) (.int .i64 0)
    simp only [List.set_cons_zero] at hq
    replace hq := hq.set (i := 1) (by simp) (.int .i64 0)
    simp only [List.set_cons_zero, List.set_cons_succ] at hq
    replace hq := hq.set (i := 2) (by simp) (.int .i64 0)
    simp only [List.set_cons_zero, List.set_cons_succ] at hq
    replace hq := hq.set (i := 3) (by simp) (.int .i64 0)
    simp only [List.set_cons_zero, List.set_cons_succ] at hq
    replace hq := hq.set (i := 4) (by simp) (.int .i64 0)
    simp only [List.set_cons_zero, List.set_cons_succ] at hq
    replace hq := hq.set (i := 5) (by simp) (.int .i64 0)
    simp only [List.set_cons_zero, List.set_cons_succ] at hq
    replace hq := hq.set (i := 6) (by simp) (.slice none 0 0)
    simp only [List.set_cons_zero, List.set_cons_succ] at hq
    replace hq := hq.set (i := 7) (by simp) (.slice none 0 0)
    simp only [List.set_cons_zero, List.set_cons_succ] at hq
    replace hq := hq.set (i := 8) (by simp) (.int .i64 0)
    simp only [List.set_cons_zero, List.set_cons_succ] at hq
    replace hq := hq.set (i := 9) (by simp) (.slice none 0 0)
    simp only [List.set_cons_zero, List.set_cons_succ] at hq
    clear q0 k0 q1 k1 q2 k2 q3 k3 q4 k4 q5 k5 q6 k6 q7 k7 q8 k8 q9 k9
    obtain ⟨y0, _⟩ := hq 0 _ rfl
    obtain ⟨y1, _⟩ := hq 1 _ rfl
    obtain ⟨y2, _⟩ := hq 2 _ rfl
    obtain ⟨y3, _⟩ := hq 3 _ rfl
    obtain ⟨y4, _⟩ := hq 4 _ rfl
    obtain ⟨y5, _⟩ := hq 5 _ rfl
    obtain ⟨y6, _⟩ := hq 6 _ rfl
    obtain ⟨y7, _⟩ := hq 7 _ rfl
    obtain ⟨y8, _⟩ := hq 8 _ rfl
    obtain ⟨y9, _⟩ := hq 9 _ rfl
    refine bodyPost_ret (v := .tuple #[.agg #[.int .i64 0, .int .i64 0, .int .i64 0, .int .i64 0, .int .i64 0, .int .i64 0, .slice none 0 0, .slice none 0 0, .int .i64 0, .slice none 0 0], .iface 73 (.pointer (some ⟨b, 0, none⟩))]) (by simp [results, Tryd.results13, go_sem, y0, y1, y2, y3, y4, y5, y6, y7, y8, y9]) rfl ?_
    exact ⟨_, rfl, err_ten HX.out HE.out h00, below_ten hV3 (Nat.le_refl _) _ _ _ _ _ _ _ _ _ _⟩

set_option maxRecDepth 100000 in
set_option maxHeartbeats 2000000 in
theorem decode_good (a : Option Addr) (cap : Nat) (bs : List Int) (w : World) (hrow : 0 < bs.length → ∃ b off, a = some ⟨b, off, none⟩ ∧ b < w.heap.size ∧ ∀ j (h : j < bs.length), w.cell? ⟨b, off + j, none⟩ = some (.int .u8 bs[j])) (hby : ∀ x ∈ bs, 0 ≤ x ∧ x < 256) (hcap : bs.length ≤ cap) (hlen : bs.length ≤ 2000) (hS : endSt (some bs) = some []) (st : St) (hst : st = some bs) (hit : Nat → Bool) (pw E I : Int) (hpw : (2 : Int) ^ (nth st 0).toNat = pw) (hhit : ∀ j, 0 ≤ (fun j => nth (nx (rowsSt 3 32 (stAt st 6))).2 (4 * j)) j → (fun j => nth (nx (rowsSt 3 32 (stAt st 6))).2 (4 * j)) j ≤ 15 → hit j = (bits BinOp.and .i64 ((fun j => nth (nx (rowsSt 3 32 (stAt st 6))).2 (4 * j + 1)) j) (2 ^ ((fun j => nth (nx (rowsSt 3 32 (stAt st 6))).2 (4 * j)) j).toNat) != 0)) (hC : CheckIs (nth st 0) (nth st 1) (nth st 2) (nth st 3) (nth st 4) (nth st 5) (nx (rowsSt 4 8 (rowsSt 3 32 (stAt st 6)))).1 (rowsN 32 (stAt st 6)) (rowsN 8 (rowsSt 3 32 (stAt st 6))) (rowsN 32 ((nx (rowsSt 4 8 (rowsSt 3 32 (stAt st 6)))).2)) (fun j => nth (nx (stAt st 6)).2 (3 * j)) (fun j => nth (nx (stAt st 6)).2 (3 * j + 1)) (fun j => nth (nx (stAt st 6)).2 (3 * j + 2)) (fun j => nth (nx (rowsSt 3 32 (stAt st 6))).2 (4 * j)) (fun j => nth (nx (rowsSt 3 32 (stAt st 6))).2 (4 * j + 1)) (fun j => nth (nx (rowsSt 3 32 (stAt st 6))).2 (4 * j + 2)) (fun j => nth (nx (rowsSt 3 32 (stAt st 6))).2 (4 * j + 3)) hit pw (fun j => nth (nx ((nx (rowsSt 4 8 (rowsSt 3 32 (stAt st 6)))).2)).2 (3 * j)) (fun j => nth (nx ((nx (rowsSt 4 8 (rowsSt 3 32 (stAt st 6)))).2)).2 (3 * j + 1)) (fun j => nth (nx ((nx (rowsSt 4 8 (rowsSt 3 32 (stAt st 6)))).2)).2 (3 * j + 2)) E I) (hE : E = 0) :
    Calls Tryd.prog 13 #[.slice a bs.length cap] w fun ev w' => ∃ sa sc la lc wa wc, ev = .returned (.tuple #[.agg #[.int .i64 (nth st 0), .int .i64 (nth st 1), .int .i64 (nth st 2), .int .i64 (nth st 3), .int .i64 (nth st 4), .int .i64 (nth st 5), .slice sa (rowsN 32 (stAt st 6)) sc, .slice la (rowsN 8 (rowsSt 3 32 (stAt st 6))) lc, .int .i64 (nx (rowsSt 4 8 (rowsSt 3 32 (stAt st 6)))).1, .slice wa (rowsN 32 ((nx (rowsSt 4 8 (rowsSt 3 32 (stAt st 6)))).2)) wc], .nilIface]) ∧ Rows3 w' sa (rowsN 32 (stAt st 6)) (fun j => nth (nx (stAt st 6)).2 (3 * j)) (fun j => nth (nx (stAt st 6)).2 (3 * j + 1)) (fun j => nth (nx (stAt st 6)).2 (3 * j + 2)) ∧ Rows4 w' la (rowsN 8 (rowsSt 3 32 (stAt st 6))) (fun j => nth (nx (rowsSt 3 32 (stAt st 6))).2 (4 * j)) (fun j => nth (nx (rowsSt 3 32 (stAt st 6))).2 (4 * j + 1)) (fun j => nth (nx (rowsSt 3 32 (stAt st 6))).2 (4 * j + 2)) (fun j => nth (nx (rowsSt 3 32 (stAt st 6))).2 (4 * j + 3)) ∧ Rows3 w' wa (rowsN 32 ((nx (rowsSt 4 8 (rowsSt 3 32 (stAt st 6)))).2)) (fun j => nth (nx ((nx (rowsSt 4 8 (rowsSt 3 32 (stAt st 6)))).2)).2 (3 * j)) (fun j => nth (nx ((nx (rowsSt 4 8 (rowsSt 3 32 (stAt st 6)))).2)).2 (3 * j + 1)) (fun j => nth (nx ((nx (rowsSt 4 8 (rowsSt 3 32 (stAt st 6)))).2)).2 (3 * j + 2)) ∧ Below w.heap.size w w' := by
  obtain ⟨V, hVe⟩ : ∃ V, V = (w.alloc (.cells #[.int .i64 0, .int .i64 0, .int .i64 0, .int .i64 0, .int .i64 0, .int .i64 0, .slice none 0 0, .slice none 0 0, .int .i64 0, .slice none 0 0] 26)).alloc (.cells #[.slice a bs.length cap, .bool false] 70) := ⟨_, rfl⟩
  have hRS : RS V (w.heap.size + 1) st := by
    rw [hst, hVe]
    refine ⟨⟨by simp, by simp⟩, ⟨a, cap, by simp, hcap, fun h0 => ?_⟩, by simp, hby, hlen⟩
    obtain ⟨b, off, e, hb, hc⟩ := hrow h0
    exact ⟨b, off, e, by omega, fun j h => by rw [World.cell?_alloc_lt _ _ _ (by simp; omega), World.cell?_alloc_lt _ _ _ hb]; exact hc j h⟩
  have hq : PCells w.heap.size [.int .i64 0, .int .i64 0, .int .i64 0, .int .i64 0, .int .i64 0, .int .i64 0, .slice none 0 0, .slice none 0 0, .int .i64 0, .slice none 0 0] V := by
    rw [hVe]
    exact (pcells_new w #[.int .i64 0, .int .i64 0, .int .i64 0, .int .i64 0, .int .i64 0, .int .i64 0, .slice none 0 0, .slice none 0 0, .int .i64 0, .slice none 0 0] 26).alloc _ (by simp)
  have hV : Below w.heap.size w V := by rw [hVe]; exact ((Below.refl _ _).alloc (Nat.le_refl _) _).alloc (by simp) _
  have hVs : V.heap.size = w.heap.size + 2 := by rw [hVe]; simp
  have h1 : decide ((2000 : Int) < (bs.length : Int)) = false := decide_eq_false (by omega)
  have HS : Hid (endSt (some bs) = endSt st) := by rw [hst]; rfl
  have HST : Hid (st = some bs) := hst
  clear hst
  obtain ⟨n, hn⟩ : ∃ n, bs.length = n := ⟨_, rfl⟩
  rw [hn] at hVe h1 ⊢
  go_enter Tryd.func13, Tryd.ntmps13
  go_wp2_with fail
  rw [← hVe]
  clear hVe hrow hcap h1
  refine (plan_st (w.heap.size + 1) st V hRS).mono ?_
  rintro ev w2 ⟨sa, sc, la, lc, wa, wc, rfl, ⟨fs, fl, fw⟩, rs, rl, rw', hR2, hg⟩
  replace hq := hq.but hg (by omega)
  have hV2 : Below w.heap.size w w2 := hV.grown hg (by omega) (fun k e => by cases e; omega)
  have hws : w.heap.size + 2 ≤ w2.heap.size := by have := hg.size; omega
  change RS w2 (w.heap.size + 1) (endSt st) at hR2
  rw [HS.out] at hS
  have HC : Hid (CheckIs (nth st 0) (nth st 1) (nth st 2) (nth st 3) (nth st 4) (nth st 5) (nx (rowsSt 4 8 (rowsSt 3 32 (stAt st 6)))).1 (rowsN 32 (stAt st 6)) (rowsN 8 (rowsSt 3 32 (stAt st 6))) (rowsN 32 ((nx (rowsSt 4 8 (rowsSt 3 32 (stAt st 6)))).2)) (fun j => nth (nx (stAt st 6)).2 (3 * j)) (fun j => nth (nx (stAt st 6)).2 (3 * j + 1)) (fun j => nth (nx (stAt st 6)).2 (3 * j + 2)) (fun j => nth (nx (rowsSt 3 32 (stAt st 6))).2 (4 * j)) (fun j => nth (nx (rowsSt 3 32 (stAt st 6))).2 (4 * j + 1)) (fun j => nth (nx (rowsSt 3 32 (stAt st 6))).2 (4 * j + 2)) (fun j => nth (nx (rowsSt 3 32 (stAt st 6))).2 (4 * j + 3)) hit pw (fun j => nth (nx ((nx (rowsSt 4 8 (rowsSt 3 32 (stAt st 6)))).2)).2 (3 * j)) (fun j => nth (nx ((nx (rowsSt 4 8 (rowsSt 3 32 (stAt st 6)))).2)).2 (3 * j + 1)) (fun j => nth (nx ((nx (rowsSt 4 8 (rowsSt 3 32 (stAt st 6)))).2)).2 (3 * j + 2)) E I) := hC
  have HH : Hid (∀ j, 0 ≤ (fun j => nth (nx (rowsSt 3 32 (stAt st 6))).2 (4 * j)) j → (fun j => nth (nx (rowsSt 3 32 (stAt st 6))).2 (4 * j)) j ≤ 15 → hit j = (bits BinOp.and .i64 ((fun j => nth (nx (rowsSt 3 32 (stAt st 6))).2 (4 * j + 1)) j) (2 ^ ((fun j => nth (nx (rowsSt 3 32 (stAt st 6))).2 (4 * j)) j).toNat) != 0)) := hhit
  clear hC hhit
  have hz : w.heap.size ≠ w2.heap.size := by omega
  have hz2 : w.heap.size < w2.heap.size := by omega
  have hz3 : w.heap.size + 1 < w2.heap.size := by omega
  obtain ⟨_, hR2⟩ := hR2
  rw [hS] at hR2
  obtain ⟨⟨a', cap', c0, _, _⟩, c1, _, _⟩ := hR2
  obtain ⟨U, hUe⟩ : ∃ U, U = w2.alloc (.cells #[.int .i64 (nth st 0), .int .i64 (nth st 1), .int .i64 (nth st 2), .int .i64 (nth st 3), .int .i64 (nth st 4), .int .i64 (nth st 5), .slice sa (rowsN 32 (stAt st 6)) sc, .slice la (rowsN 8 (rowsSt 3 32 (stAt st 6))) lc, .int .i64 (nx (rowsSt 4 8 (rowsSt 3 32 (stAt st 6)))).1, .slice wa (rowsN 32 ((nx (rowsSt 4 8 (rowsSt 3 32 (stAt st 6)))).2)) wc] 26) := ⟨_, rfl⟩
  have hU : Below w2.heap.size w2 U := by rw [hUe]; exact (Below.refl _ _).alloc (Nat.le_refl _) _
  have hpU : PCells w2.heap.size [.int .i64 (nth st 0), .int .i64 (nth st 1), .int .i64 (nth st 2), .int .i64 (nth st 3), .int .i64 (nth st 4), .int .i64 (nth st 5), .slice sa (rowsN 32 (stAt st 6)) sc, .slice la (rowsN 8 (rowsSt 3 32 (stAt st 6))) lc, .int .i64 (nx (rowsSt 4 8 (rowsSt 3 32 (stAt st 6)))).1, .slice wa (rowsN 32 ((nx (rowsSt 4 8 (rowsSt 3 32 (stAt st 6)))).2)) wc] U := by rw [hUe]; exact pcells_new w2 #[.int .i64 (nth st 0), .int .i64 (nth st 1), .int .i64 (nth st 2), .int .i64 (nth st 3), .int .i64 (nth st 4), .int .i64 (nth st 5), .slice sa (rowsN 32 (stAt st 6)) sc, .slice la (rowsN 8 (rowsSt 3 32 (stAt st 6))) lc, .int .i64 (nx (rowsSt 4 8 (rowsSt 3 32 (stAt st 6)))).1, .slice wa (rowsN 32 ((nx (rowsSt 4 8 (rowsSt 3 32 (stAt st 6)))).2)) wc] 26
  have hqU : PCells w.heap.size [.int .i64 0, .int .i64 0, .int .i64 0, .int .i64 0, .int .i64 0, .int .i64 0, .slice none 0 0, .slice none 0 0, .int .i64 0, .slice none 0 0] U := by rw [hUe]; exact hq.alloc _ hz2
  have hck := check_any (nth st 0) (nth st 1) (nth st 2) (nth st 3) (nth st 4) (nth st 5) (nx (rowsSt 4 8 (rowsSt 3 32 (stAt st 6)))).1 sa la wa (rowsN 32 (stAt st 6)) sc (rowsN 8 (rowsSt 3 32 (stAt st 6))) lc (rowsN 32 ((nx (rowsSt 4 8 (rowsSt 3 32 (stAt st 6)))).2)) wc (fun j => nth (nx (stAt st 6)).2 (3 * j)) (fun j => nth (nx (stAt st 6)).2 (3 * j + 1)) (fun j => nth (nx (stAt st 6)).2 (3 * j + 2)) (fun j => nth (nx (rowsSt 3 32 (stAt st 6))).2 (4 * j)) (fun j => nth (nx (rowsSt 3 32 (stAt st 6))).2 (4 * j + 1)) (fun j => nth (nx (rowsSt 3 32 (stAt st 6))).2 (4 * j + 2)) (fun j => nth (nx (rowsSt 3 32 (stAt st 6))).2 (4 * j + 3)) hit pw (fun j => nth (nx ((nx (rowsSt 4 8 (rowsSt 3 32 (stAt st 6)))).2)).2 (3 * j)) (fun j => nth (nx ((nx (rowsSt 4 8 (rowsSt 3 32 (stAt st 6)))).2)).2 (3 * j + 1)) (fun j => nth (nx ((nx (rowsSt 4 8 (rowsSt 3 32 (stAt st 6)))).2)).2 (3 * j + 2)) E I U (rs.below hU) (rl.below hU) (rw'.below hU) hpw HH.out HC.out
  go_wp2_with fail
  rw [← hUe]
  clear hUe c0 c1 hq
  refine hck.mono ?_
  clear hck
  rintro ev w3 ⟨X, rfl, hX, hb3⟩
  have hV3 : Below w.heap.size w w3 := (hV2.trans (hU.mono hV2.size)).trans (hb3.mono (by have := hU.size; omega))
  have hUs := hU.size
  have hw3 := hb3.size
  have hlt : w.heap.size < U.heap.size := by omega
  have hq := hqU.below hb3
  have hp := hpU.below hb3
  subst hE
  obtain rfl : X = .nilIface := by
    rcases hX with ⟨h, _⟩ | ⟨_, h, _⟩ | ⟨_, _, h, _⟩
    · exact h
    · exact absurd rfl h
    · exact absurd rfl h
  clear hX
  obtain ⟨q0, k0⟩ := hq 0 _ rfl
  obtain ⟨q1, k1⟩ := hq 1 _ rfl
  obtain ⟨q2, k2⟩ := hq 2 _ rfl
  obtain ⟨q3, k3⟩ := hq 3 _ rfl
  obtain ⟨q4, k4⟩ := hq 4 _ rfl
  obtain ⟨q5, k5⟩ := hq 5 _ rfl
  obtain ⟨q6, k6⟩ := hq 6 _ rfl
  obtain ⟨q7, k7⟩ := hq 7 _ rfl
  obtain ⟨q8, k8⟩ := hq 8 _ rfl
  obtain ⟨q9, k9⟩ := hq 9 _ rfl
  obtain ⟨p0, _⟩ := hp 0 _ rfl
  obtain ⟨p1, _⟩ := hp 1 _ rfl
  obtain ⟨p2, _⟩ := hp 2 _ rfl
  obtain ⟨p3, _⟩ := hp 3 _ rfl
  obtain ⟨p4, _⟩ := hp 4 _ rfl
  obtain ⟨p5, _⟩ := hp 5 _ rfl
  obtain ⟨p6, _⟩ := hp 6 _ rfl
  obtain ⟨p7, _⟩ := hp 7 _ rfl
  obtain ⟨p8, _⟩ := hp 8 _ rfl
  obtain ⟨p9, _⟩ := hp 9 _ rfl
  have hUW := hU.trans (hb3.mono hU.size)
  replace rs := rs.below hUW
  replace rl := rl.below hUW
  replace rw' := rw'.below hUW
  go_wp2
  replace hq := hq.set (i := 0) (by simp) (.int .i64 (nth st 0))
  simp only [List.set_cons_zero] at hq
  replace hq := hq.set (i := 1) (by simp) (.int .i64 (nth st 1))
  simp only [List.set_cons_zero, List.set_cons_succ] at hq
  replace hq := hq.set (i := 2) (by simp) (.int .i64 (nth st 2))
  simp only [List.set_cons_zero, List.set_cons_succ] at hq
  replace hq := hq.set (i := 3) (by simp) (.int .i64 (nth st 3))
  simp only [List.set_cons_zero, List.set_cons_succ] at hq
  replace hq := hq.set (i := 4) (by simp) (.int .i64 (nth st 4))
  simp only [List.set_cons_zero, List.set_cons_succ] at hq
  replace hq := hq.set (i := 5) (by simp) (.int .i64 (nth st 5))
  simp only [List.set_cons_zero, List.set_cons_succ] at hq
  replace hq := hq.set (i := 6) (by simp) (.slice sa (rowsN 32 (stAt st 6)) sc)
  simp only [List.set_cons_zero, List.set_cons_succ] at hq
  replace hq := hq.set (i := 7) (by simp) (.slice la (rowsN 8 (rowsSt 3 32 (stAt st 6))) lc)
  simp only [List.set_cons_zero, List.set_cons_succ] at hq
  replace hq := hq.set (i := 8) (by simp) (.int .i64 (nx (rowsSt 4 8 (rowsSt 3 32 (stAt st 6)))).1)
  simp only [List.set_cons_zero, List.set_cons_succ] at hq
  replace hq := hq.set (i := 9) (by simp) (.slice wa (rowsN 32 ((nx (rowsSt 4 8 (rowsSt 3 32 (stAt st 6)))).2)) wc)
  simp only [List.set_cons_zero, List.set_cons_succ] at hq
  clear p0 p1 p2 p3 p4 p5 p6 p7 p8 p9 q0 k0 q1 k1 q2 k2 q3 k3 q4 k4 q5 k5 q6 k6 q7 k7 q8 k8 q9 k9
  obtain ⟨y0, _⟩ := hq 0 _ rfl
  obtain ⟨y1, _⟩ := hq 1 _ rfl
  obtain ⟨y2, _⟩ := hq 2 _ rfl
  obtain ⟨y3, _⟩ := hq 3 _ rfl
  obtain ⟨y4, _⟩ := hq 4 _ rfl
  obtain ⟨y5, _⟩ := hq 5 _ rfl
  obtain ⟨y6, _⟩ := hq 6 _ rfl
  obtain ⟨y7, _⟩ := hq 7 _ rfl
  obtain ⟨y8, _⟩ := hq 8 _ rfl
  obtain ⟨y9, _⟩ := hq 9 _ rfl
  refine bodyPost_ret (v := .tuple #[.agg #[.int .i64 (nth st 0), .int .i64 (nth st 1), .int .i64 (nth st 2), .int .i64 (nth st 3), .int .i64 (nth st 4), .int .i64 (nth st 5), .slice sa (rowsN 32 (stAt st 6)) sc, .slice la (rowsN 8 (rowsSt 3 32 (stAt st 6))) lc, .int .i64 (nx (rowsSt 4 8 (rowsSt 3 32 (stAt st 6)))).1, .slice wa (rowsN 32 ((nx (rowsSt 4 8 (rowsSt 3 32 (stAt st 6)))).2)) wc], .nilIface]) (by simp [results, Tryd.results13, go_sem, y0, y1, y2, y3, y4, y5, y6, y7, y8, y9]) rfl ?_
  exact ⟨sa, sc, la, lc, wa, wc, rfl, rows3_ten rs (fun b off e => by have := fs b off e; omega) _ _ _ _ _ _ _ _ _ _, rows4_ten rl (fun b off e => by have := fl b off e; omega) _ _ _ _ _ _ _ _ _ _, rows3_ten rw' (fun b off e => by have := fw b off e; omega) _ _ _ _ _ _ _ _ _ _, below_ten hV3 (Nat.le_refl _) _ _ _ _ _ _ _ _ _ _⟩
end Go.Proofs.YtlpojkehbhkdiaaDoor
