/- The program's checkLink: what is wrong with a link; new memory alone is made. (Made by tools/gen_planlink.py.) -/
import Derived.Test.YtdmokcnoljlogaaGreatDoorWordsH
import Derived.Test.YtdmokcnoljlogaaGreatDoorWordsA
namespace Go.Proofs.YtdmokcnoljlogaaGreatDoor
open Go.RowKit

def Cells4 (b : Nat) (p q r s : Int) (u : World) : Prop :=
  u.cell? ⟨b, 0, none⟩ = some (.int .i64 p) ∧ u.cell? ⟨b, 1, none⟩ = some (.int .i64 q) ∧ u.cell? ⟨b, 2, none⟩ = some (.int .i64 r) ∧ u.cell? ⟨b, 3, none⟩ = some (.int .i64 s)
theorem Cells4.below {b : Nat} {p q r s : Int} {u u' : World} (h : Cells4 b p q r s u) (hb : Below u.heap.size u u') : Cells4 b p q r s u' := by
  obtain ⟨h0, h1, h2, h3⟩ := h
  exact ⟨keep_cell h0 hb, keep_cell h1 hb, keep_cell h2 hb, keep_cell h3 hb⟩
theorem boxL (p q r s : Int) (w : World) (t : TypeId) : Cells4 w.heap.size p q r s (w.alloc (.cells #[.int .i64 p, .int .i64 q, .int .i64 r, .int .i64 s] t)) ∧ Below w.heap.size w (w.alloc (.cells #[.int .i64 p, .int .i64 q, .int .i64 r, .int .i64 s] t)) :=
  ⟨⟨by simp, by simp, by simp, by simp⟩, (Below.refl _ _).alloc (Nat.le_refl _) _⟩

set_option maxRecDepth 100000 in
set_option maxHeartbeats 4000000 in
theorem link_any (lf lt lb lq nodes pw : Int) (hit : Bool) (w : World) (n1 : 1 ≤ nodes) (n2 : nodes ≤ 16) (hpw : (2 : Int) ^ nodes.toNat = pw) (p1 : 2 ≤ pw) (p2 : pw ≤ 65536) (hhit : 0 ≤ lf → lf ≤ 15 → hit = (bits BinOp.and .i64 lt (2 ^ lf.toNat) != 0)) :
    Calls Tryz.prog 64 #[.agg #[.int .i64 lf, .int .i64 lt, .int .i64 lb, .int .i64 lq], .int .i64 nodes] w fun ev w' => ev = .returned (.int .i64 (linkErr (fun _ => lf) (fun _ => lt) (fun _ => lb) (fun _ => lq) (fun _ => hit) nodes pw 0)) ∧ Below w.heap.size w w' := by
  have HE : Hid (∀ c, linkErr (fun _ => lf) (fun _ => lt) (fun _ => lb) (fun _ => lq) (fun _ => hit) nodes pw 0 = c → Ending.returned (.int .i64 c) = .returned (.int .i64 (linkErr (fun _ => lf) (fun _ => lt) (fun _ => lb) (fun _ => lq) (fun _ => hit) nodes pw 0))) := fun c h => by rw [h]
  have HH : Hid (0 ≤ lf → lf ≤ 15 → hit = (bits BinOp.and .i64 lt (2 ^ lf.toNat) != 0)) := hhit
  have HPW : Hid ((2 : Int) ^ nodes.toNat = pw) := hpw
  clear hhit hpw
  obtain ⟨hc, hV⟩ := boxL lf lt lb lq w 54
  go_enter Tryz.func64, Tryz.ntmps64
  go_wp2_with fail
  generalize w.alloc (.cells #[.int .i64 lf, .int .i64 lt, .int .i64 lb, .int .i64 lq] 54) = V at hc hV ⊢
  have hW : Below V.heap.size V V := Below.refl _ _
  obtain ⟨c0, c1, c2, c3⟩ := hc.below hW
  have wn : IntKind.i64.wrap (nodes - 1) = nodes - 1 := wrap_smallP _ (by omega) (by omega)
  by_cases a1 : 0 ≤ lf ∧ lf ≤ nodes - 1
  rotate_left
  · have hd : decide (0 ≤ lf ∧ lf ≤ nodes - 1) = false := decide_eq_false a1
    have hE : Hid (linkErr (fun _ => lf) (fun _ => lt) (fun _ => lb) (fun _ => lq) (fun _ => hit) nodes pw 0 = 7) := linkErr_7 (by omega)
    clear a1
    refine wp_region_held_drew (S := fun u => u.cell? ⟨w.heap.size, 0, none⟩ = some (.int .i64 lf)) (by kernel_rfl) (by (try dsimp only); go_keep) (fun hHeld => ?_)
    refine tk 0 hHeld ?_
    refine tk 1 hHeld ?_
    refine tk 3 hHeld ?_
    refine tk 4 hHeld ?_
    refine rd2 2 5 (fun K hK => ?_) fun K hK => ?_
    · go_simp
      (go_at_call 61; refine (between_any _ _ _).mono ?_; rintro e u0 ⟨fv, rfl, hB, hu⟩; have hW := stepD hW hu; obtain ⟨c0, c1, c2, c3⟩ := hc.below hW)
      refine kp hK fun hHeld => ?_
      clear hK K
      refine rdy 5 fun K hK => ?_
      go_simp
      refine kp hK fun hHeld => ?_
      clear hK K
      refine rdy 6 fun K hK => ?_
      go_simp
      (go_at_call 60; refine (all_1b false fv _ _ (lf) u0.heap.size _ _ (hB.alloc _) (by simp) hd).mono ?_; rintro e x0 ⟨rfl, hu2⟩; have hW := stepA hW hu2; obtain ⟨c0, c1, c2, c3⟩ := hc.below hW)
      refine kp hK fun hHeld => ?_
      clear hK K
      refine tk 7 hHeld ?_
      refine dn ?_
      go_wp2
      go_ret
      exact ⟨HE.out _ hE.out, hV.trans (hW.mono hV.size)⟩
    · go_simp
      refine kp hK fun hHeld => ?_
      clear hK K
      refine rdy 2 fun K hK => ?_
      go_simp
      (go_at_call 61; refine (between_any _ _ _).mono ?_; rintro e u0 ⟨fv, rfl, hB, hu⟩; have hX0 := keep_cell (a := ⟨V.heap.size, 0, none⟩) (v := .int .i64 lf) (by simp) hu; have hW := stepDA hW hu; obtain ⟨c0, c1, c2, c3⟩ := hc.below hW)
      refine kp hK fun hHeld => ?_
      clear hK K
      refine rdy 6 fun K hK => ?_
      go_simp
      (go_at_call 60; refine (all_1b false fv _ _ (lf) V.heap.size _ _ hB hX0 hd).mono ?_; rintro e x0 ⟨rfl, hu2⟩; have hW := stepB hW hu2; obtain ⟨c0, c1, c2, c3⟩ := hc.below hW)
      refine kp hK fun hHeld => ?_
      clear hK K
      refine tk 7 hHeld ?_
      refine dn ?_
      go_wp2
      go_ret
      exact ⟨HE.out _ hE.out, hV.trans (hW.mono hV.size)⟩
  have hd1 : decide (0 ≤ lf ∧ lf ≤ nodes - 1) = true := decide_eq_true a1
  obtain ⟨a2, a3⟩ := a1
  rename_i Q1 K2 k2 K1 k1
  have cont1 : ∀ (t5 t6 t7 t8 t9 t10 t11 : Value) (u : World), Below V.heap.size V u → Exit.then K1 (Exit.then K2 Q1) .normal ⟨#[.agg #[.int .i64 lf, .int .i64 lt, .int .i64 lb, .int .i64 lq], .int .i64 nodes, .pointer (some ⟨w.heap.size, 0, none⟩), undef, .int .i64 0, t5, t6, t7, t8, t9, t10, t11, .bool false, undef, undef, undef, undef, undef, undef, undef, undef, undef, undef, undef, undef, undef, undef, undef, undef, undef, undef, undef, undef, undef, undef, undef, undef, undef, undef, undef, undef, undef, undef, undef, undef], []⟩ u := by
    intro t5 t6 t7 t8 t9 t10 t11 u hW
    clear c0 c1 c2 c3 hd1
    obtain ⟨c0, c1, c2, c3⟩ := hc.below hW
    go_wp2_with fail
    have pe := HPW.out
    have wpw : IntKind.i64.wrap pw = pw := wrap_smallP _ (by omega) (by omega)
    have wp1 : IntKind.i64.wrap (pw - 1) = pw - 1 := wrap_smallP _ (by omega) (by omega)
    by_cases b1 : 1 ≤ lt ∧ lt ≤ pw - 1
    rotate_left
    · have hd : decide (1 ≤ lt ∧ lt ≤ pw - 1) = false := decide_eq_false b1
      have hE : Hid (linkErr (fun _ => lf) (fun _ => lt) (fun _ => lb) (fun _ => lq) (fun _ => hit) nodes pw 0 = 1) := linkErr_1 a2 a3 (by omega)
      clear b1
      refine wp_region_held_drew (S := fun u => u.cell? ⟨w.heap.size, 0, none⟩ = some (.int .i64 lf) ∧ u.cell? ⟨w.heap.size, 1, none⟩ = some (.int .i64 lt)) (by kernel_rfl) (by (try dsimp only); go_keep) (fun hHeld => ?_)
      refine tk 0 hHeld ?_
      refine tk 1 hHeld ?_
      refine tk 2 hHeld ?_
      refine tk 4 hHeld ?_
      refine tk 5 hHeld ?_
      refine rd2 3 6 (fun K hK => ?_) fun K hK => ?_
      · go_simp
        (go_at_call 61; refine (between_any _ _ _).mono ?_; rintro e u0 ⟨fv, rfl, hB, hu⟩; have hW := stepD hW hu; obtain ⟨c0, c1, c2, c3⟩ := hc.below hW)
        refine kp hK fun hHeld => ?_
        clear hK K
        refine rdy 6 fun K hK => ?_
        go_simp
        refine kp hK fun hHeld => ?_
        clear hK K
        refine rdy 7 fun K hK => ?_
        go_simp
        (go_at_call 60; refine (all_1b false fv _ _ (lt) u0.heap.size _ _ (hB.alloc _) (by simp) hd).mono ?_; rintro e x0 ⟨rfl, hu2⟩; have hW := stepA hW hu2; obtain ⟨c0, c1, c2, c3⟩ := hc.below hW)
        refine kp hK fun hHeld => ?_
        clear hK K
        refine tk 8 hHeld ?_
        refine tk 9 hHeld ?_
        refine wpAnyH_skips (fuel := 1) (by kernel_rfl) (fun _ _ _ _ h => h) hHeld [(10, 23), (11, 24), (12, 25), (13, 26), (14, 27), (15, 28), (16, 29)] (by kernel_rfl) ?_
        simp only [skipA, List.foldl_cons, List.foldl_nil, Act.put, zA, zB, zC]
        refine tk 17 hHeld ?_
        refine dn ?_
        go_wp2
        go_ret
        exact ⟨HE.out _ hE.out, hV.trans (hW.mono hV.size)⟩
      · go_simp
        refine kp hK fun hHeld => ?_
        clear hK K
        refine rdy 3 fun K hK => ?_
        go_simp
        (go_at_call 61; refine (between_any _ _ _).mono ?_; rintro e u0 ⟨fv, rfl, hB, hu⟩; have hX0 := keep_cell (a := ⟨u.heap.size, 0, none⟩) (v := .int .i64 lt) (by simp) hu; have hW := stepDA hW hu; obtain ⟨c0, c1, c2, c3⟩ := hc.below hW)
        refine kp hK fun hHeld => ?_
        clear hK K
        refine rdy 7 fun K hK => ?_
        go_simp
        (go_at_call 60; refine (all_1b false fv _ _ (lt) u.heap.size _ _ hB hX0 hd).mono ?_; rintro e x0 ⟨rfl, hu2⟩; have hW := stepB hW hu2; obtain ⟨c0, c1, c2, c3⟩ := hc.below hW)
        refine kp hK fun hHeld => ?_
        clear hK K
        refine tk 8 hHeld ?_
        refine tk 9 hHeld ?_
        refine wpAnyH_skips (fuel := 1) (by kernel_rfl) (fun _ _ _ _ h => h) hHeld [(10, 23), (11, 24), (12, 25), (13, 26), (14, 27), (15, 28), (16, 29)] (by kernel_rfl) ?_
        simp only [skipA, List.foldl_cons, List.foldl_nil, Act.put, zA, zB, zC]
        refine tk 17 hHeld ?_
        refine dn ?_
        go_wp2
        go_ret
        exact ⟨HE.out _ hE.out, hV.trans (hW.mono hV.size)⟩
    have hd1 : decide (1 ≤ lt ∧ lt ≤ pw - 1) = true := decide_eq_true b1
    have w2 := HH.out a2 (by omega)
    have w3 := pow_smallP lf.toNat (by omega)
    obtain ⟨pf, hpf⟩ : ∃ pf, (2 : Int) ^ lf.toNat = pf := ⟨_, rfl⟩
    rw [hpf] at w2 w3
    have u5 : IntKind.i64.wrap pf = pf := wrap_smallP pf (by omega) (by omega)
    cases u6 : (bits BinOp.and .i64 lt pf != 0)
    rotate_left
    · rw [u6] at w2
      have hE : Hid (linkErr (fun _ => lf) (fun _ => lt) (fun _ => lb) (fun _ => lq) (fun _ => hit) nodes pw 0 = 1) := linkErr_1 a2 a3 (.inr (.inr w2))
      clear b1 w2 w3
      refine wp_region_held_drew (S := fun u => u.cell? ⟨w.heap.size, 0, none⟩ = some (.int .i64 lf) ∧ u.cell? ⟨w.heap.size, 1, none⟩ = some (.int .i64 lt)) (by kernel_rfl) (by (try dsimp only); go_keep) (fun hHeld => ?_)
      refine tk 0 hHeld ?_
      refine tk 1 hHeld ?_
      refine tk 2 hHeld ?_
      refine tk 4 hHeld ?_
      refine tk 5 hHeld ?_
      refine rd2 3 6 (fun K hK => ?_) fun K hK => ?_
      · go_simp
        (go_at_call 61; refine (between_any _ _ _).mono ?_; rintro e u0 ⟨fv, rfl, hB, hu⟩; have hW := stepD hW hu; obtain ⟨c0, c1, c2, c3⟩ := hc.below hW)
        refine kp hK fun hHeld => ?_
        clear hK K
        refine rdy 6 fun K hK => ?_
        go_simp
        refine kp hK fun hHeld => ?_
        clear hK K
        refine rdy 7 fun K hK => ?_
        go_simp
        (go_at_call 60; refine (all_1b true fv _ _ (lt) u0.heap.size _ _ (hB.alloc _) (by simp) hd1).mono ?_; rintro e x0 ⟨rfl, hu2⟩; have hW := stepA hW hu2; obtain ⟨c0, c1, c2, c3⟩ := hc.below hW)
        refine kp hK fun hHeld => ?_
        clear hK K
        refine tk 8 hHeld ?_
        refine tk 9 hHeld ?_
        refine tk 10 hHeld ?_
        refine tk 11 hHeld ?_
        refine tk 12 hHeld ?_
        refine tk 13 hHeld ?_
        refine tk 14 hHeld ?_
        refine tk 15 hHeld ?_
        refine tk 16 hHeld ?_
        refine tk 17 hHeld ?_
        refine dn ?_
        go_wp2
        go_ret
        exact ⟨HE.out _ hE.out, hV.trans (hW.mono hV.size)⟩
      · go_simp
        refine kp hK fun hHeld => ?_
        clear hK K
        refine rdy 3 fun K hK => ?_
        go_simp
        (go_at_call 61; refine (between_any _ _ _).mono ?_; rintro e u0 ⟨fv, rfl, hB, hu⟩; have hX0 := keep_cell (a := ⟨u.heap.size, 0, none⟩) (v := .int .i64 lt) (by simp) hu; have hW := stepDA hW hu; obtain ⟨c0, c1, c2, c3⟩ := hc.below hW)
        refine kp hK fun hHeld => ?_
        clear hK K
        refine rdy 7 fun K hK => ?_
        go_simp
        (go_at_call 60; refine (all_1b true fv _ _ (lt) u.heap.size _ _ hB hX0 hd1).mono ?_; rintro e x0 ⟨rfl, hu2⟩; have hW := stepB hW hu2; obtain ⟨c0, c1, c2, c3⟩ := hc.below hW)
        refine kp hK fun hHeld => ?_
        clear hK K
        refine tk 8 hHeld ?_
        refine tk 9 hHeld ?_
        refine tk 10 hHeld ?_
        refine tk 11 hHeld ?_
        refine tk 12 hHeld ?_
        refine tk 13 hHeld ?_
        refine tk 14 hHeld ?_
        refine tk 15 hHeld ?_
        refine tk 16 hHeld ?_
        refine tk 17 hHeld ?_
        refine dn ?_
        go_wp2
        go_ret
        exact ⟨HE.out _ hE.out, hV.trans (hW.mono hV.size)⟩
    rw [u6] at w2
    have w1 : Hid (¬ (lt < 1 ∨ pw - 1 < lt ∨ hit = true)) := by
      show ¬ _
      rw [w2]; simp; omega
    clear b1 w2 w3
    rename_i K3 k3 K4 k4
    have cont3 : ∀ (t5 t6 t7 t8 t9 t10 t11 t12 t13 t14 t15 t16 t17 t18 t19 t20 t21 t22 t23 t24 t25 t26 t27 t28 t29 : Value) (u : World), Below V.heap.size V u → Exit.then K4 (Exit.then K3 Q1) .normal ⟨#[.agg #[.int .i64 lf, .int .i64 lt, .int .i64 lb, .int .i64 lq], .int .i64 nodes, .pointer (some ⟨w.heap.size, 0, none⟩), undef, .int .i64 0, t5, t6, t7, t8, t9, t10, t11, t12, t13, t14, t15, t16, t17, t18, t19, t20, t21, t22, t23, t24, t25, t26, t27, t28, t29, .bool false, undef, undef, undef, undef, undef, undef, undef, undef, undef, undef, undef, undef, undef, undef], []⟩ u := by
      clear hd1 c0 c1 c2 c3 hW pe wpw wp1 hpf u5 u6 wn
      intro t5 t6 t7 t8 t9 t10 t11 t12 t13 t14 t15 t16 t17 t18 t19 t20 t21 t22 t23 t24 t25 t26 t27 t28 t29 u hW
      obtain ⟨c0, c1, c2, c3⟩ := hc.below hW
      go_wp2_with fail
      by_cases e1 : 1 ≤ lb ∧ lb ≤ 137438953472
      rotate_left
      · have hd : decide (1 ≤ lb ∧ lb ≤ 137438953472) = false := decide_eq_false e1
        have hE : Hid (linkErr (fun _ => lf) (fun _ => lt) (fun _ => lb) (fun _ => lq) (fun _ => hit) nodes pw 0 = 2) := linkErr_2 a2 a3 w1.out (by omega)
        clear e1
        refine wp_region_held_drew (S := fun u => u.cell? ⟨w.heap.size, 2, none⟩ = some (.int .i64 lb) ∧ u.cell? ⟨w.heap.size, 3, none⟩ = some (.int .i64 lq)) (by kernel_rfl) (by (try dsimp only); go_keep) (fun hHeld => ?_)
        refine tk 1 hHeld ?_
        refine tk 2 hHeld ?_
        refine rd2 0 3 (fun K hK => ?_) fun K hK => ?_
        · go_simp
          (go_at_call 61; refine (between_any _ _ _).mono ?_; rintro e u0 ⟨fv, rfl, hB, hu⟩; have hW := stepD hW hu; obtain ⟨c0, c1, c2, c3⟩ := hc.below hW)
          refine kp hK fun hHeld => ?_
          clear hK K
          refine rdy 3 fun K hK => ?_
          go_simp
          refine kp hK fun hHeld => ?_
          clear hK K
          refine rdy 4 fun K hK => ?_
          go_simp
          (go_at_call 60; refine (all_1b false fv _ _ (lb) u0.heap.size _ _ (hB.alloc _) (by simp) hd).mono ?_; rintro e x0 ⟨rfl, hu2⟩; have hW := stepA hW hu2; obtain ⟨c0, c1, c2, c3⟩ := hc.below hW)
          refine kp hK fun hHeld => ?_
          clear hK K
          refine tk 5 hHeld ?_
          refine tk 6 hHeld ?_
          refine wpAnyH_skips (fuel := 1) (by kernel_rfl) (fun _ _ _ _ h => h) hHeld [(7, 38), (8, 39), (9, 40), (10, 41), (11, 42), (12, 43)] (by kernel_rfl) ?_
          simp only [skipA, List.foldl_cons, List.foldl_nil, Act.put, zA, zB, zC]
          refine tk 13 hHeld ?_
          refine dn ?_
          go_wp2
          go_ret
          exact ⟨HE.out _ hE.out, hV.trans (hW.mono hV.size)⟩
        · go_simp
          refine kp hK fun hHeld => ?_
          clear hK K
          refine rdy 0 fun K hK => ?_
          go_simp
          (go_at_call 61; refine (between_any _ _ _).mono ?_; rintro e u0 ⟨fv, rfl, hB, hu⟩; have hX0 := keep_cell (a := ⟨u.heap.size, 0, none⟩) (v := .int .i64 lb) (by simp) hu; have hW := stepDA hW hu; obtain ⟨c0, c1, c2, c3⟩ := hc.below hW)
          refine kp hK fun hHeld => ?_
          clear hK K
          refine rdy 4 fun K hK => ?_
          go_simp
          (go_at_call 60; refine (all_1b false fv _ _ (lb) u.heap.size _ _ hB hX0 hd).mono ?_; rintro e x0 ⟨rfl, hu2⟩; have hW := stepB hW hu2; obtain ⟨c0, c1, c2, c3⟩ := hc.below hW)
          refine kp hK fun hHeld => ?_
          clear hK K
          refine tk 5 hHeld ?_
          refine tk 6 hHeld ?_
          refine wpAnyH_skips (fuel := 1) (by kernel_rfl) (fun _ _ _ _ h => h) hHeld [(7, 38), (8, 39), (9, 40), (10, 41), (11, 42), (12, 43)] (by kernel_rfl) ?_
          simp only [skipA, List.foldl_cons, List.foldl_nil, Act.put, zA, zB, zC]
          refine tk 13 hHeld ?_
          refine dn ?_
          go_wp2
          go_ret
          exact ⟨HE.out _ hE.out, hV.trans (hW.mono hV.size)⟩
      have hd1 : decide (1 ≤ lb ∧ lb ≤ 137438953472) = true := decide_eq_true e1
      by_cases e2 : 1 ≤ lq ∧ lq ≤ 16
      rotate_left
      · have hd2 : decide (1 ≤ lq ∧ lq ≤ 16) = false := decide_eq_false e2
        have hE : Hid (linkErr (fun _ => lf) (fun _ => lt) (fun _ => lb) (fun _ => lq) (fun _ => hit) nodes pw 0 = 2) := linkErr_2 a2 a3 w1.out (by omega)
        clear e1 e2
        refine wp_region_held_drew (S := fun u => u.cell? ⟨w.heap.size, 2, none⟩ = some (.int .i64 lb) ∧ u.cell? ⟨w.heap.size, 3, none⟩ = some (.int .i64 lq)) (by kernel_rfl) (by (try dsimp only); go_keep) (fun hHeld => ?_)
        refine tk 1 hHeld ?_
        refine tk 2 hHeld ?_
        refine rd2 0 3 (fun K hK => ?_) fun K hK => ?_
        · go_simp
          (go_at_call 61; refine (between_any _ _ _).mono ?_; rintro e u0 ⟨fv, rfl, hB, hu⟩; have hW := stepD hW hu; obtain ⟨c0, c1, c2, c3⟩ := hc.below hW)
          refine kp hK fun hHeld => ?_
          clear hK K
          refine rdy 3 fun K hK => ?_
          go_simp
          refine kp hK fun hHeld => ?_
          clear hK K
          refine rdy 4 fun K hK => ?_
          go_simp
          (go_at_call 60; refine (all_1b true fv _ _ (lb) u0.heap.size _ _ (hB.alloc _) (by simp) hd1).mono ?_; rintro e x0 ⟨rfl, hu2⟩; have hW := stepA hW hu2; obtain ⟨c0, c1, c2, c3⟩ := hc.below hW)
          refine kp hK fun hHeld => ?_
          clear hK K
          refine tk 5 hHeld ?_
          refine tk 6 hHeld ?_
          refine tk 8 hHeld ?_
          refine tk 9 hHeld ?_
          refine rd2 7 10 (fun K hK => ?_) fun K hK => ?_
          · go_simp
            (go_at_call 61; refine (between_any _ _ _).mono ?_; rintro e u1 ⟨fv, rfl, hB, hu⟩; have hW := stepB hW hu; obtain ⟨c0, c1, c2, c3⟩ := hc.below hW)
            refine kp hK fun hHeld => ?_
            clear hK K
            refine rdy 10 fun K hK => ?_
            go_simp
            refine kp hK fun hHeld => ?_
            clear hK K
            refine rdy 11 fun K hK => ?_
            go_simp
            (go_at_call 60; refine (all_1b false fv _ _ (lq) u1.heap.size _ _ (hB.alloc _) (by simp) hd2).mono ?_; rintro e x1 ⟨rfl, hu2⟩; have hW := stepA hW hu2; obtain ⟨c0, c1, c2, c3⟩ := hc.below hW)
            refine kp hK fun hHeld => ?_
            clear hK K
            refine tk 12 hHeld ?_
            refine tk 13 hHeld ?_
            refine dn ?_
            go_wp2
            go_ret
            exact ⟨HE.out _ hE.out, hV.trans (hW.mono hV.size)⟩
          · go_simp
            refine kp hK fun hHeld => ?_
            clear hK K
            refine rdy 7 fun K hK => ?_
            go_simp
            (go_at_call 61; refine (between_any _ _ _).mono ?_; rintro e u1 ⟨fv, rfl, hB, hu⟩; have hX0 := keep_cell (a := ⟨x0.heap.size, 0, none⟩) (v := .int .i64 lq) (by simp) hu; have hW := stepA hW hu; obtain ⟨c0, c1, c2, c3⟩ := hc.below hW)
            refine kp hK fun hHeld => ?_
            clear hK K
            refine rdy 11 fun K hK => ?_
            go_simp
            (go_at_call 60; refine (all_1b false fv _ _ (lq) x0.heap.size _ _ hB hX0 hd2).mono ?_; rintro e x1 ⟨rfl, hu2⟩; have hW := stepB hW hu2; obtain ⟨c0, c1, c2, c3⟩ := hc.below hW)
            refine kp hK fun hHeld => ?_
            clear hK K
            refine tk 12 hHeld ?_
            refine tk 13 hHeld ?_
            refine dn ?_
            go_wp2
            go_ret
            exact ⟨HE.out _ hE.out, hV.trans (hW.mono hV.size)⟩
        · go_simp
          refine kp hK fun hHeld => ?_
          clear hK K
          refine rdy 0 fun K hK => ?_
          go_simp
          (go_at_call 61; refine (between_any _ _ _).mono ?_; rintro e u0 ⟨fv, rfl, hB, hu⟩; have hX0 := keep_cell (a := ⟨u.heap.size, 0, none⟩) (v := .int .i64 lb) (by simp) hu; have hW := stepDA hW hu; obtain ⟨c0, c1, c2, c3⟩ := hc.below hW)
          refine kp hK fun hHeld => ?_
          clear hK K
          refine rdy 4 fun K hK => ?_
          go_simp
          (go_at_call 60; refine (all_1b true fv _ _ (lb) u.heap.size _ _ hB hX0 hd1).mono ?_; rintro e x0 ⟨rfl, hu2⟩; have hW := stepB hW hu2; obtain ⟨c0, c1, c2, c3⟩ := hc.below hW)
          refine kp hK fun hHeld => ?_
          clear hK K
          refine tk 5 hHeld ?_
          refine tk 6 hHeld ?_
          refine tk 8 hHeld ?_
          refine tk 9 hHeld ?_
          refine rd2 7 10 (fun K hK => ?_) fun K hK => ?_
          · go_simp
            (go_at_call 61; refine (between_any _ _ _).mono ?_; rintro e u1 ⟨fv, rfl, hB, hu⟩; have hW := stepB hW hu; obtain ⟨c0, c1, c2, c3⟩ := hc.below hW)
            refine kp hK fun hHeld => ?_
            clear hK K
            refine rdy 10 fun K hK => ?_
            go_simp
            refine kp hK fun hHeld => ?_
            clear hK K
            refine rdy 11 fun K hK => ?_
            go_simp
            (go_at_call 60; refine (all_1b false fv _ _ (lq) u1.heap.size _ _ (hB.alloc _) (by simp) hd2).mono ?_; rintro e x1 ⟨rfl, hu2⟩; have hW := stepA hW hu2; obtain ⟨c0, c1, c2, c3⟩ := hc.below hW)
            refine kp hK fun hHeld => ?_
            clear hK K
            refine tk 12 hHeld ?_
            refine tk 13 hHeld ?_
            refine dn ?_
            go_wp2
            go_ret
            exact ⟨HE.out _ hE.out, hV.trans (hW.mono hV.size)⟩
          · go_simp
            refine kp hK fun hHeld => ?_
            clear hK K
            refine rdy 7 fun K hK => ?_
            go_simp
            (go_at_call 61; refine (between_any _ _ _).mono ?_; rintro e u1 ⟨fv, rfl, hB, hu⟩; have hX0 := keep_cell (a := ⟨x0.heap.size, 0, none⟩) (v := .int .i64 lq) (by simp) hu; have hW := stepA hW hu; obtain ⟨c0, c1, c2, c3⟩ := hc.below hW)
            refine kp hK fun hHeld => ?_
            clear hK K
            refine rdy 11 fun K hK => ?_
            go_simp
            (go_at_call 60; refine (all_1b false fv _ _ (lq) x0.heap.size _ _ hB hX0 hd2).mono ?_; rintro e x1 ⟨rfl, hu2⟩; have hW := stepB hW hu2; obtain ⟨c0, c1, c2, c3⟩ := hc.below hW)
            refine kp hK fun hHeld => ?_
            clear hK K
            refine tk 12 hHeld ?_
            refine tk 13 hHeld ?_
            refine dn ?_
            go_wp2
            go_ret
            exact ⟨HE.out _ hE.out, hV.trans (hW.mono hV.size)⟩
      have hd2 : decide (1 ≤ lq ∧ lq ≤ 16) = true := decide_eq_true e2
      have hE : Hid (linkErr (fun _ => lf) (fun _ => lt) (fun _ => lb) (fun _ => lq) (fun _ => hit) nodes pw 0 = 0) := linkErr_0 a2 a3 w1.out e1 e2
      clear e1 e2
      refine wp_region_held_drew (S := fun u => u.cell? ⟨w.heap.size, 2, none⟩ = some (.int .i64 lb) ∧ u.cell? ⟨w.heap.size, 3, none⟩ = some (.int .i64 lq)) (by kernel_rfl) (by (try dsimp only); go_keep) (fun hHeld => ?_)
      refine tk 1 hHeld ?_
      refine tk 2 hHeld ?_
      refine rd2 0 3 (fun K hK => ?_) fun K hK => ?_
      · go_simp
        (go_at_call 61; refine (between_any _ _ _).mono ?_; rintro e u0 ⟨fv, rfl, hB, hu⟩; have hW := stepD hW hu; obtain ⟨c0, c1, c2, c3⟩ := hc.below hW)
        refine kp hK fun hHeld => ?_
        clear hK K
        refine rdy 3 fun K hK => ?_
        go_simp
        refine kp hK fun hHeld => ?_
        clear hK K
        refine rdy 4 fun K hK => ?_
        go_simp
        (go_at_call 60; refine (all_1b true fv _ _ (lb) u0.heap.size _ _ (hB.alloc _) (by simp) hd1).mono ?_; rintro e x0 ⟨rfl, hu2⟩; have hW := stepA hW hu2; obtain ⟨c0, c1, c2, c3⟩ := hc.below hW)
        refine kp hK fun hHeld => ?_
        clear hK K
        refine tk 5 hHeld ?_
        refine tk 6 hHeld ?_
        refine tk 8 hHeld ?_
        refine tk 9 hHeld ?_
        refine rd2 7 10 (fun K hK => ?_) fun K hK => ?_
        · go_simp
          (go_at_call 61; refine (between_any _ _ _).mono ?_; rintro e u1 ⟨fv, rfl, hB, hu⟩; have hW := stepB hW hu; obtain ⟨c0, c1, c2, c3⟩ := hc.below hW)
          refine kp hK fun hHeld => ?_
          clear hK K
          refine rdy 10 fun K hK => ?_
          go_simp
          refine kp hK fun hHeld => ?_
          clear hK K
          refine rdy 11 fun K hK => ?_
          go_simp
          (go_at_call 60; refine (all_1b true fv _ _ (lq) u1.heap.size _ _ (hB.alloc _) (by simp) hd2).mono ?_; rintro e x1 ⟨rfl, hu2⟩; have hW := stepA hW hu2; obtain ⟨c0, c1, c2, c3⟩ := hc.below hW)
          refine kp hK fun hHeld => ?_
          clear hK K
          refine tk 12 hHeld ?_
          refine tk 13 hHeld ?_
          refine dn ?_
          go_wp2
          go_ret
          exact ⟨HE.out _ hE.out, hV.trans (hW.mono hV.size)⟩
        · go_simp
          refine kp hK fun hHeld => ?_
          clear hK K
          refine rdy 7 fun K hK => ?_
          go_simp
          (go_at_call 61; refine (between_any _ _ _).mono ?_; rintro e u1 ⟨fv, rfl, hB, hu⟩; have hX0 := keep_cell (a := ⟨x0.heap.size, 0, none⟩) (v := .int .i64 lq) (by simp) hu; have hW := stepA hW hu; obtain ⟨c0, c1, c2, c3⟩ := hc.below hW)
          refine kp hK fun hHeld => ?_
          clear hK K
          refine rdy 11 fun K hK => ?_
          go_simp
          (go_at_call 60; refine (all_1b true fv _ _ (lq) x0.heap.size _ _ hB hX0 hd2).mono ?_; rintro e x1 ⟨rfl, hu2⟩; have hW := stepB hW hu2; obtain ⟨c0, c1, c2, c3⟩ := hc.below hW)
          refine kp hK fun hHeld => ?_
          clear hK K
          refine tk 12 hHeld ?_
          refine tk 13 hHeld ?_
          refine dn ?_
          go_wp2
          go_ret
          exact ⟨HE.out _ hE.out, hV.trans (hW.mono hV.size)⟩
      · go_simp
        refine kp hK fun hHeld => ?_
        clear hK K
        refine rdy 0 fun K hK => ?_
        go_simp
        (go_at_call 61; refine (between_any _ _ _).mono ?_; rintro e u0 ⟨fv, rfl, hB, hu⟩; have hX0 := keep_cell (a := ⟨u.heap.size, 0, none⟩) (v := .int .i64 lb) (by simp) hu; have hW := stepDA hW hu; obtain ⟨c0, c1, c2, c3⟩ := hc.below hW)
        refine kp hK fun hHeld => ?_
        clear hK K
        refine rdy 4 fun K hK => ?_
        go_simp
        (go_at_call 60; refine (all_1b true fv _ _ (lb) u.heap.size _ _ hB hX0 hd1).mono ?_; rintro e x0 ⟨rfl, hu2⟩; have hW := stepB hW hu2; obtain ⟨c0, c1, c2, c3⟩ := hc.below hW)
        refine kp hK fun hHeld => ?_
        clear hK K
        refine tk 5 hHeld ?_
        refine tk 6 hHeld ?_
        refine tk 8 hHeld ?_
        refine tk 9 hHeld ?_
        refine rd2 7 10 (fun K hK => ?_) fun K hK => ?_
        · go_simp
          (go_at_call 61; refine (between_any _ _ _).mono ?_; rintro e u1 ⟨fv, rfl, hB, hu⟩; have hW := stepB hW hu; obtain ⟨c0, c1, c2, c3⟩ := hc.below hW)
          refine kp hK fun hHeld => ?_
          clear hK K
          refine rdy 10 fun K hK => ?_
          go_simp
          refine kp hK fun hHeld => ?_
          clear hK K
          refine rdy 11 fun K hK => ?_
          go_simp
          (go_at_call 60; refine (all_1b true fv _ _ (lq) u1.heap.size _ _ (hB.alloc _) (by simp) hd2).mono ?_; rintro e x1 ⟨rfl, hu2⟩; have hW := stepA hW hu2; obtain ⟨c0, c1, c2, c3⟩ := hc.below hW)
          refine kp hK fun hHeld => ?_
          clear hK K
          refine tk 12 hHeld ?_
          refine tk 13 hHeld ?_
          refine dn ?_
          go_wp2
          go_ret
          exact ⟨HE.out _ hE.out, hV.trans (hW.mono hV.size)⟩
        · go_simp
          refine kp hK fun hHeld => ?_
          clear hK K
          refine rdy 7 fun K hK => ?_
          go_simp
          (go_at_call 61; refine (between_any _ _ _).mono ?_; rintro e u1 ⟨fv, rfl, hB, hu⟩; have hX0 := keep_cell (a := ⟨x0.heap.size, 0, none⟩) (v := .int .i64 lq) (by simp) hu; have hW := stepA hW hu; obtain ⟨c0, c1, c2, c3⟩ := hc.below hW)
          refine kp hK fun hHeld => ?_
          clear hK K
          refine rdy 11 fun K hK => ?_
          go_simp
          (go_at_call 60; refine (all_1b true fv _ _ (lq) x0.heap.size _ _ hB hX0 hd2).mono ?_; rintro e x1 ⟨rfl, hu2⟩; have hW := stepB hW hu2; obtain ⟨c0, c1, c2, c3⟩ := hc.below hW)
          refine kp hK fun hHeld => ?_
          clear hK K
          refine tk 12 hHeld ?_
          refine tk 13 hHeld ?_
          refine dn ?_
          go_wp2
          go_ret
          exact ⟨HE.out _ hE.out, hV.trans (hW.mono hV.size)⟩
    refine wp_region_held_drew (S := fun u => u.cell? ⟨w.heap.size, 0, none⟩ = some (.int .i64 lf) ∧ u.cell? ⟨w.heap.size, 1, none⟩ = some (.int .i64 lt)) (by kernel_rfl) (by (try dsimp only); go_keep) (fun hHeld => ?_)
    refine tk 0 hHeld ?_
    refine tk 1 hHeld ?_
    refine tk 2 hHeld ?_
    refine tk 4 hHeld ?_
    refine tk 5 hHeld ?_
    refine rd2 3 6 (fun K hK => ?_) fun K hK => ?_
    · go_simp
      (go_at_call 61; refine (between_any _ _ _).mono ?_; rintro e u0 ⟨fv, rfl, hB, hu⟩; have hW := stepD hW hu; obtain ⟨c0, c1, c2, c3⟩ := hc.below hW)
      refine kp hK fun hHeld => ?_
      clear hK K
      refine rdy 6 fun K hK => ?_
      go_simp
      refine kp hK fun hHeld => ?_
      clear hK K
      refine rdy 7 fun K hK => ?_
      go_simp
      (go_at_call 60; refine (all_1b true fv _ _ (lt) u0.heap.size _ _ (hB.alloc _) (by simp) hd1).mono ?_; rintro e x0 ⟨rfl, hu2⟩; have hW := stepA hW hu2; obtain ⟨c0, c1, c2, c3⟩ := hc.below hW)
      refine kp hK fun hHeld => ?_
      clear hK K
      refine tk 8 hHeld ?_
      refine tk 9 hHeld ?_
      refine tk 10 hHeld ?_
      refine tk 11 hHeld ?_
      refine tk 12 hHeld ?_
      refine tk 13 hHeld ?_
      refine tk 14 hHeld ?_
      refine tk 15 hHeld ?_
      refine tk 16 hHeld ?_
      refine tk 17 hHeld ?_
      refine dn ?_
      exact cont3 _ _ _ _ _ _ _ _ _ _ _ _ _ _ _ _ _ _ _ _ _ _ _ _ _ _ hW
    · go_simp
      refine kp hK fun hHeld => ?_
      clear hK K
      refine rdy 3 fun K hK => ?_
      go_simp
      (go_at_call 61; refine (between_any _ _ _).mono ?_; rintro e u0 ⟨fv, rfl, hB, hu⟩; have hX0 := keep_cell (a := ⟨u.heap.size, 0, none⟩) (v := .int .i64 lt) (by simp) hu; have hW := stepDA hW hu; obtain ⟨c0, c1, c2, c3⟩ := hc.below hW)
      refine kp hK fun hHeld => ?_
      clear hK K
      refine rdy 7 fun K hK => ?_
      go_simp
      (go_at_call 60; refine (all_1b true fv _ _ (lt) u.heap.size _ _ hB hX0 hd1).mono ?_; rintro e x0 ⟨rfl, hu2⟩; have hW := stepB hW hu2; obtain ⟨c0, c1, c2, c3⟩ := hc.below hW)
      refine kp hK fun hHeld => ?_
      clear hK K
      refine tk 8 hHeld ?_
      refine tk 9 hHeld ?_
      refine tk 10 hHeld ?_
      refine tk 11 hHeld ?_
      refine tk 12 hHeld ?_
      refine tk 13 hHeld ?_
      refine tk 14 hHeld ?_
      refine tk 15 hHeld ?_
      refine tk 16 hHeld ?_
      refine tk 17 hHeld ?_
      refine dn ?_
      exact cont3 _ _ _ _ _ _ _ _ _ _ _ _ _ _ _ _ _ _ _ _ _ _ _ _ _ _ hW
  refine wp_region_held_drew (S := fun u => u.cell? ⟨w.heap.size, 0, none⟩ = some (.int .i64 lf)) (by kernel_rfl) (by (try dsimp only); go_keep) (fun hHeld => ?_)
  refine tk 0 hHeld ?_
  refine tk 1 hHeld ?_
  refine tk 3 hHeld ?_
  refine tk 4 hHeld ?_
  refine rd2 2 5 (fun K hK => ?_) fun K hK => ?_
  · go_simp
    (go_at_call 61; refine (between_any _ _ _).mono ?_; rintro e u0 ⟨fv, rfl, hB, hu⟩; have hW := stepD hW hu; obtain ⟨c0, c1, c2, c3⟩ := hc.below hW)
    refine kp hK fun hHeld => ?_
    clear hK K
    refine rdy 5 fun K hK => ?_
    go_simp
    refine kp hK fun hHeld => ?_
    clear hK K
    refine rdy 6 fun K hK => ?_
    go_simp
    (go_at_call 60; refine (all_1b true fv _ _ (lf) u0.heap.size _ _ (hB.alloc _) (by simp) hd1).mono ?_; rintro e x0 ⟨rfl, hu2⟩; have hW := stepA hW hu2; obtain ⟨c0, c1, c2, c3⟩ := hc.below hW)
    refine kp hK fun hHeld => ?_
    clear hK K
    refine tk 7 hHeld ?_
    refine dn ?_
    exact cont1 _ _ _ _ _ _ _ _ hW
  · go_simp
    refine kp hK fun hHeld => ?_
    clear hK K
    refine rdy 2 fun K hK => ?_
    go_simp
    (go_at_call 61; refine (between_any _ _ _).mono ?_; rintro e u0 ⟨fv, rfl, hB, hu⟩; have hX0 := keep_cell (a := ⟨V.heap.size, 0, none⟩) (v := .int .i64 lf) (by simp) hu; have hW := stepDA hW hu; obtain ⟨c0, c1, c2, c3⟩ := hc.below hW)
    refine kp hK fun hHeld => ?_
    clear hK K
    refine rdy 6 fun K hK => ?_
    go_simp
    (go_at_call 60; refine (all_1b true fv _ _ (lf) V.heap.size _ _ hB hX0 hd1).mono ?_; rintro e x0 ⟨rfl, hu2⟩; have hW := stepB hW hu2; obtain ⟨c0, c1, c2, c3⟩ := hc.below hW)
    refine kp hK fun hHeld => ?_
    clear hK K
    refine tk 7 hHeld ?_
    refine dn ?_
    exact cont1 _ _ _ _ _ _ _ _ hW
end Go.Proofs.YtdmokcnoljlogaaGreatDoor
