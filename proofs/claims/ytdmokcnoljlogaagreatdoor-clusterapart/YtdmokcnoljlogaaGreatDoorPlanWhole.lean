/- The program's checkWhole: what is wrong with the whole of a plan; new memory alone is made. -/
import Derived.Test.YtdmokcnoljlogaaGreatDoorWordsH
import Derived.Test.YtdmokcnoljlogaaGreatDoorWordsA
namespace Go.Proofs.YtdmokcnoljlogaaGreatDoor
open Go.RowKit

theorem quoN (n : Int) (h1 : 1 ≤ n) (h2 : n ≤ 16) : IntKind.i64.wrap ((IntKind.i64.wrap (n - 1)).tdiv 3) = (n - 1) / 3 := by
  have : n = 1 ∨ n = 2 ∨ n = 3 ∨ n = 4 ∨ n = 5 ∨ n = 6 ∨ n = 7 ∨ n = 8 ∨ n = 9 ∨ n = 10 ∨ n = 11 ∨ n = 12 ∨ n = 13 ∨ n = 14 ∨ n = 15 ∨ n = 16 := by omega
  rcases this with rfl | rfl | rfl | rfl | rfl | rfl | rfl | rfl | rfl | rfl | rfl | rfl | rfl | rfl | rfl | rfl <;> decide

set_option maxRecDepth 100000 in
set_option maxHeartbeats 4000000 in
theorem whole_any (nodes faulty skew jitter drift round frame : Int) (sa la wa : Option Addr) (ns sc nl lc nw wc : Nat) (w : World) :
    Calls Tryz.prog 36 #[.agg #[.int .i64 nodes, .int .i64 faulty, .int .i64 skew, .int .i64 jitter, .int .i64 drift, .int .i64 round, .slice sa ns sc, .slice la nl lc, .int .i64 frame, .slice wa nw wc]] w fun ev w' => ev = .returned (.int .i64 (headErr nodes faulty skew jitter drift round frame ns nl nw)) ∧ Below w.heap.size w w' := by
  have HE : Hid (∀ c, headErr nodes faulty skew jitter drift round frame ns nl nw = c → Ending.returned (.int .i64 c) = .returned (.int .i64 (headErr nodes faulty skew jitter drift round frame ns nl nw))) := fun c h => by rw [h]
  obtain ⟨hc, hV⟩ := box10 nodes faulty skew jitter drift round frame sa la wa ns sc nl lc nw wc w 26
  go_enter Tryz.func36, Tryz.ntmps36
  go_wp2_with fail
  generalize w.alloc (.cells #[.int .i64 nodes, .int .i64 faulty, .int .i64 skew, .int .i64 jitter, .int .i64 drift, .int .i64 round, .slice sa ns sc, .slice la nl lc, .int .i64 frame, .slice wa nw wc] 26) = V at hc hV ⊢
  have hW : Below V.heap.size V V := Below.refl _ _
  obtain ⟨c0, c1, c2, c3, c4, c5, c6, c7, c8, c9⟩ := hc.below hW
  by_cases n1 : 1 ≤ nodes ∧ nodes ≤ 16
  rotate_left
  · have hd : decide (1 ≤ nodes ∧ nodes ≤ 16) = false := decide_eq_false n1
    have hE : Hid (headErr nodes faulty skew jitter drift round frame ns nl nw = 1) := headErr_1 (by omega)
    clear n1
    refine wp_region_held_drew (S := fun u => u.cell? ⟨w.heap.size, 0, none⟩ = some (.int .i64 nodes) ∧ u.cell? ⟨w.heap.size, 1, none⟩ = some (.int .i64 faulty)) (by kernel_rfl) (by (try dsimp only); go_keep) (fun hHeld => ?_)
    refine tk 1 hHeld ?_
    refine tk 2 hHeld ?_
    refine rd2 0 3 (fun K hK => ?_) fun K hK => ?_
    · go_simp
      (go_at_call 61; refine (between_any _ _ _).mono ?_; rintro e u0 ⟨fv, rfl, hB, hu⟩; have hW := stepD hW hu; obtain ⟨c0, c1, c2, c3, c4, c5, c6, c7, c8, c9⟩ := hc.below hW)
      refine kp hK fun hHeld => ?_
      clear hK K
      refine rdy 3 fun K hK => ?_
      go_simp
      refine kp hK fun hHeld => ?_
      clear hK K
      refine rdy 4 fun K hK => ?_
      go_simp
      (go_at_call 60; refine (all_1b false fv _ _ (nodes) u0.heap.size _ _ (hB.alloc _) (by simp) hd).mono ?_; rintro e x0 ⟨rfl, hu2⟩; have hW := stepA hW hu2; obtain ⟨c0, c1, c2, c3, c4, c5, c6, c7, c8, c9⟩ := hc.below hW)
      refine kp hK fun hHeld => ?_
      clear hK K
      refine tk 5 hHeld ?_
      refine tk 6 hHeld ?_
      refine wpAnyH_skips (fuel := 1) (by kernel_rfl) (fun _ _ _ _ h => h) hHeld [(7, 10), (8, 11), (9, 12), (10, 13), (11, 14), (12, 15), (13, 16), (14, 17), (15, 18), (16, 19)] (by kernel_rfl) ?_
      simp only [skipA, List.foldl_cons, List.foldl_nil, Act.put, zA, zB, zC]
      refine tk 17 hHeld ?_
      refine dn ?_
      go_wp2
      go_ret
      exact ⟨HE.out _ hE.out, hV.trans (hW.mono hV.size)⟩
    · go_simp
      refine kp hK fun hHeld => ?_
      clear hK K
      refine rdy 0 fun K hK => ?_
      go_simp
      (go_at_call 61; refine (between_any _ _ _).mono ?_; rintro e u0 ⟨fv, rfl, hB, hu⟩; have hX0 := keep_cell (a := ⟨V.heap.size, 0, none⟩) (v := .int .i64 nodes) (by simp) hu; have hW := stepDA hW hu; obtain ⟨c0, c1, c2, c3, c4, c5, c6, c7, c8, c9⟩ := hc.below hW)
      refine kp hK fun hHeld => ?_
      clear hK K
      refine rdy 4 fun K hK => ?_
      go_simp
      (go_at_call 60; refine (all_1b false fv _ _ (nodes) V.heap.size _ _ hB hX0 hd).mono ?_; rintro e x0 ⟨rfl, hu2⟩; have hW := stepB hW hu2; obtain ⟨c0, c1, c2, c3, c4, c5, c6, c7, c8, c9⟩ := hc.below hW)
      refine kp hK fun hHeld => ?_
      clear hK K
      refine tk 5 hHeld ?_
      refine tk 6 hHeld ?_
      refine wpAnyH_skips (fuel := 1) (by kernel_rfl) (fun _ _ _ _ h => h) hHeld [(7, 10), (8, 11), (9, 12), (10, 13), (11, 14), (12, 15), (13, 16), (14, 17), (15, 18), (16, 19)] (by kernel_rfl) ?_
      simp only [skipA, List.foldl_cons, List.foldl_nil, Act.put, zA, zB, zC]
      refine tk 17 hHeld ?_
      refine dn ?_
      go_wp2
      go_ret
      exact ⟨HE.out _ hE.out, hV.trans (hW.mono hV.size)⟩
  have hd1 : decide (1 ≤ nodes ∧ nodes ≤ 16) = true := decide_eq_true n1
  obtain ⟨n2, n3⟩ := n1
  by_cases n4 : 0 ≤ faulty ∧ faulty ≤ (nodes - 1) / 3
  rotate_left
  · have hd2 : decide (0 ≤ faulty ∧ faulty ≤ (nodes - 1) / 3) = false := decide_eq_false n4
    rw [← quoN nodes n2 n3] at hd2
    have hE : Hid (headErr nodes faulty skew jitter drift round frame ns nl nw = 1) := headErr_1 (by omega)
    clear n4
    refine wp_region_held_drew (S := fun u => u.cell? ⟨w.heap.size, 0, none⟩ = some (.int .i64 nodes) ∧ u.cell? ⟨w.heap.size, 1, none⟩ = some (.int .i64 faulty)) (by kernel_rfl) (by (try dsimp only); go_keep) (fun hHeld => ?_)
    refine tk 1 hHeld ?_
    refine tk 2 hHeld ?_
    refine rd2 0 3 (fun K hK => ?_) fun K hK => ?_
    · go_simp
      (go_at_call 61; refine (between_any _ _ _).mono ?_; rintro e u0 ⟨fv, rfl, hB, hu⟩; have hW := stepD hW hu; obtain ⟨c0, c1, c2, c3, c4, c5, c6, c7, c8, c9⟩ := hc.below hW)
      refine kp hK fun hHeld => ?_
      clear hK K
      refine rdy 3 fun K hK => ?_
      go_simp
      refine kp hK fun hHeld => ?_
      clear hK K
      refine rdy 4 fun K hK => ?_
      go_simp
      (go_at_call 60; refine (all_1b true fv _ _ (nodes) u0.heap.size _ _ (hB.alloc _) (by simp) hd1).mono ?_; rintro e x0 ⟨rfl, hu2⟩; have hW := stepA hW hu2; obtain ⟨c0, c1, c2, c3, c4, c5, c6, c7, c8, c9⟩ := hc.below hW)
      refine kp hK fun hHeld => ?_
      clear hK K
      refine tk 5 hHeld ?_
      refine tk 6 hHeld ?_
      refine tk 7 hHeld ?_
      refine tk 8 hHeld ?_
      refine tk 9 hHeld ?_
      refine tk 10 hHeld ?_
      refine tk 12 hHeld ?_
      refine tk 13 hHeld ?_
      refine rd2 11 14 (fun K hK => ?_) fun K hK => ?_
      · go_simp
        (go_at_call 61; refine (between_any _ _ _).mono ?_; rintro e u1 ⟨fv, rfl, hB, hu⟩; have hW := stepB hW hu; obtain ⟨c0, c1, c2, c3, c4, c5, c6, c7, c8, c9⟩ := hc.below hW)
        refine kp hK fun hHeld => ?_
        clear hK K
        refine rdy 14 fun K hK => ?_
        go_simp
        refine kp hK fun hHeld => ?_
        clear hK K
        refine rdy 15 fun K hK => ?_
        go_simp
        (go_at_call 60; refine (all_1b false fv _ _ (faulty) u1.heap.size _ _ (hB.alloc _) (by simp) hd2).mono ?_; rintro e x1 ⟨rfl, hu2⟩; have hW := stepA hW hu2; obtain ⟨c0, c1, c2, c3, c4, c5, c6, c7, c8, c9⟩ := hc.below hW)
        refine kp hK fun hHeld => ?_
        clear hK K
        refine tk 16 hHeld ?_
        refine tk 17 hHeld ?_
        refine dn ?_
        go_wp2
        go_ret
        exact ⟨HE.out _ hE.out, hV.trans (hW.mono hV.size)⟩
      · go_simp
        refine kp hK fun hHeld => ?_
        clear hK K
        refine rdy 11 fun K hK => ?_
        go_simp
        (go_at_call 61; refine (between_any _ _ _).mono ?_; rintro e u1 ⟨fv, rfl, hB, hu⟩; have hX0 := keep_cell (a := ⟨x0.heap.size, 0, none⟩) (v := .int .i64 faulty) (by simp) hu; have hW := stepA hW hu; obtain ⟨c0, c1, c2, c3, c4, c5, c6, c7, c8, c9⟩ := hc.below hW)
        refine kp hK fun hHeld => ?_
        clear hK K
        refine rdy 15 fun K hK => ?_
        go_simp
        (go_at_call 60; refine (all_1b false fv _ _ (faulty) x0.heap.size _ _ hB hX0 hd2).mono ?_; rintro e x1 ⟨rfl, hu2⟩; have hW := stepB hW hu2; obtain ⟨c0, c1, c2, c3, c4, c5, c6, c7, c8, c9⟩ := hc.below hW)
        refine kp hK fun hHeld => ?_
        clear hK K
        refine tk 16 hHeld ?_
        refine tk 17 hHeld ?_
        refine dn ?_
        go_wp2
        go_ret
        exact ⟨HE.out _ hE.out, hV.trans (hW.mono hV.size)⟩
    · go_simp
      refine kp hK fun hHeld => ?_
      clear hK K
      refine rdy 0 fun K hK => ?_
      go_simp
      (go_at_call 61; refine (between_any _ _ _).mono ?_; rintro e u0 ⟨fv, rfl, hB, hu⟩; have hX0 := keep_cell (a := ⟨V.heap.size, 0, none⟩) (v := .int .i64 nodes) (by simp) hu; have hW := stepDA hW hu; obtain ⟨c0, c1, c2, c3, c4, c5, c6, c7, c8, c9⟩ := hc.below hW)
      refine kp hK fun hHeld => ?_
      clear hK K
      refine rdy 4 fun K hK => ?_
      go_simp
      (go_at_call 60; refine (all_1b true fv _ _ (nodes) V.heap.size _ _ hB hX0 hd1).mono ?_; rintro e x0 ⟨rfl, hu2⟩; have hW := stepB hW hu2; obtain ⟨c0, c1, c2, c3, c4, c5, c6, c7, c8, c9⟩ := hc.below hW)
      refine kp hK fun hHeld => ?_
      clear hK K
      refine tk 5 hHeld ?_
      refine tk 6 hHeld ?_
      refine tk 7 hHeld ?_
      refine tk 8 hHeld ?_
      refine tk 9 hHeld ?_
      refine tk 10 hHeld ?_
      refine tk 12 hHeld ?_
      refine tk 13 hHeld ?_
      refine rd2 11 14 (fun K hK => ?_) fun K hK => ?_
      · go_simp
        (go_at_call 61; refine (between_any _ _ _).mono ?_; rintro e u1 ⟨fv, rfl, hB, hu⟩; have hW := stepB hW hu; obtain ⟨c0, c1, c2, c3, c4, c5, c6, c7, c8, c9⟩ := hc.below hW)
        refine kp hK fun hHeld => ?_
        clear hK K
        refine rdy 14 fun K hK => ?_
        go_simp
        refine kp hK fun hHeld => ?_
        clear hK K
        refine rdy 15 fun K hK => ?_
        go_simp
        (go_at_call 60; refine (all_1b false fv _ _ (faulty) u1.heap.size _ _ (hB.alloc _) (by simp) hd2).mono ?_; rintro e x1 ⟨rfl, hu2⟩; have hW := stepA hW hu2; obtain ⟨c0, c1, c2, c3, c4, c5, c6, c7, c8, c9⟩ := hc.below hW)
        refine kp hK fun hHeld => ?_
        clear hK K
        refine tk 16 hHeld ?_
        refine tk 17 hHeld ?_
        refine dn ?_
        go_wp2
        go_ret
        exact ⟨HE.out _ hE.out, hV.trans (hW.mono hV.size)⟩
      · go_simp
        refine kp hK fun hHeld => ?_
        clear hK K
        refine rdy 11 fun K hK => ?_
        go_simp
        (go_at_call 61; refine (between_any _ _ _).mono ?_; rintro e u1 ⟨fv, rfl, hB, hu⟩; have hX0 := keep_cell (a := ⟨x0.heap.size, 0, none⟩) (v := .int .i64 faulty) (by simp) hu; have hW := stepA hW hu; obtain ⟨c0, c1, c2, c3, c4, c5, c6, c7, c8, c9⟩ := hc.below hW)
        refine kp hK fun hHeld => ?_
        clear hK K
        refine rdy 15 fun K hK => ?_
        go_simp
        (go_at_call 60; refine (all_1b false fv _ _ (faulty) x0.heap.size _ _ hB hX0 hd2).mono ?_; rintro e x1 ⟨rfl, hu2⟩; have hW := stepB hW hu2; obtain ⟨c0, c1, c2, c3, c4, c5, c6, c7, c8, c9⟩ := hc.below hW)
        refine kp hK fun hHeld => ?_
        clear hK K
        refine tk 16 hHeld ?_
        refine tk 17 hHeld ?_
        refine dn ?_
        go_wp2
        go_ret
        exact ⟨HE.out _ hE.out, hV.trans (hW.mono hV.size)⟩
  have hd2 : decide (0 ≤ faulty ∧ faulty ≤ (nodes - 1) / 3) = true := decide_eq_true n4
  rw [← quoN nodes n2 n3] at hd2
  have h1 : Hid (¬ (nodes < 1 ∨ 16 < nodes ∨ faulty < 0 ∨ nodes < faulty * 3 + 1)) := by rintro (h | h | h | h) <;> omega
  clear n4
  rename_i Q1 K2 k2 K1 k1
  have cont1 : ∀ (t3 t4 t5 t6 t7 t8 t9 t10 t11 t12 t13 t14 t15 t16 t17 t18 t19 : Value) (u : World), Below V.heap.size V u → Exit.then K1 (Exit.then K2 Q1) .normal ⟨#[.agg #[.int .i64 nodes, .int .i64 faulty, .int .i64 skew, .int .i64 jitter, .int .i64 drift, .int .i64 round, .slice sa ns sc, .slice la nl lc, .int .i64 frame, .slice wa nw wc], .pointer (some ⟨w.heap.size, 0, none⟩), .int .i64 0, t3, t4, t5, t6, t7, t8, t9, t10, t11, t12, t13, t14, t15, t16, t17, t18, t19, .bool false, undef, undef, undef, undef, undef, undef, undef, undef, undef, undef, undef, undef, undef, undef, undef, undef, undef, undef, undef, undef, undef, undef, undef, undef, undef, undef, undef, undef, undef, undef, undef, undef, undef, undef, undef, undef, undef, undef, undef, undef, undef, undef, undef, undef, undef, undef, undef, undef, undef, undef, undef], []⟩ u := by
    intro t3 t4 t5 t6 t7 t8 t9 t10 t11 t12 t13 t14 t15 t16 t17 t18 t19 u hW
    clear c0 c1 c2 c3 c4 c5 c6 c7 c8 c9
    obtain ⟨c0, c1, c2, c3, c4, c5, c6, c7, c8, c9⟩ := hc.below hW
    clear hd1 hd2
    go_wp2_with fail
    by_cases s1 : (0 ≤ skew ∧ skew ≤ 137438953472) ∧ (0 ≤ jitter ∧ jitter ≤ 137438953472) ∧ 0 ≤ drift ∧ drift ≤ 137438953472
    rotate_left
    · have hd : decide ((0 ≤ skew ∧ skew ≤ 137438953472) ∧ (0 ≤ jitter ∧ jitter ≤ 137438953472) ∧ 0 ≤ drift ∧ drift ≤ 137438953472) = false := decide_eq_false s1
      have hE : Hid (headErr nodes faulty skew jitter drift round frame ns nl nw = 2) := headErr_2 h1.out (by omega)
      clear s1
      refine wp_region_held_drew (S := fun u => u.cell? ⟨w.heap.size, 2, none⟩ = some (.int .i64 skew) ∧ u.cell? ⟨w.heap.size, 3, none⟩ = some (.int .i64 jitter) ∧ u.cell? ⟨w.heap.size, 4, none⟩ = some (.int .i64 drift) ∧ u.cell? ⟨w.heap.size, 5, none⟩ = some (.int .i64 round) ∧ u.cell? ⟨w.heap.size, 8, none⟩ = some (.int .i64 frame)) (by kernel_rfl) (by (try dsimp only); go_keep) (fun hHeld => ?_)
      refine tk 1 hHeld ?_
      refine tk 2 hHeld ?_
      refine tk 3 hHeld ?_
      refine tk 4 hHeld ?_
      refine tk 5 hHeld ?_
      refine tk 6 hHeld ?_
      refine rd2 0 7 (fun K hK => ?_) fun K hK => ?_
      · go_simp
        (go_at_call 61; refine (between_any _ _ _).mono ?_; rintro e u0 ⟨fv, rfl, hB, hu⟩; have hW := stepD hW hu; obtain ⟨c0, c1, c2, c3, c4, c5, c6, c7, c8, c9⟩ := hc.below hW)
        refine kp hK fun hHeld => ?_
        clear hK K
        refine rdy 7 fun K hK => ?_
        go_simp
        refine kp hK fun hHeld => ?_
        clear hK K
        refine rdy 8 fun K hK => ?_
        go_simp
        (go_at_call 60; refine (all_3b false fv _ _ (skew) (jitter) (drift) u0.heap.size _ _ (hB.alloc _) (by simp) (by simp) (by simp) hd).mono ?_; rintro e x0 ⟨rfl, hu2⟩; have hW := stepA hW hu2; obtain ⟨c0, c1, c2, c3, c4, c5, c6, c7, c8, c9⟩ := hc.below hW)
        refine kp hK fun hHeld => ?_
        clear hK K
        refine tk 9 hHeld ?_
        refine tk 10 hHeld ?_
        refine wpAnyH_skips (fuel := 1) (by kernel_rfl) (fun _ _ _ _ h => h) hHeld [(11, 32), (12, 33), (13, 34), (14, 35), (15, 36), (16, 37), (17, 38), (18, 39)] (by kernel_rfl) ?_
        simp only [skipA, List.foldl_cons, List.foldl_nil, Act.put, zA, zB, zC]
        refine tk 19 hHeld ?_
        refine dn ?_
        go_wp2
        go_ret
        exact ⟨HE.out _ hE.out, hV.trans (hW.mono hV.size)⟩
      · go_simp
        refine kp hK fun hHeld => ?_
        clear hK K
        refine rdy 0 fun K hK => ?_
        go_simp
        (go_at_call 61; refine (between_any _ _ _).mono ?_; rintro e u0 ⟨fv, rfl, hB, hu⟩; have hX0 := keep_cell (a := ⟨u.heap.size, 0, none⟩) (v := .int .i64 skew) (by simp) hu; have hX1 := keep_cell (a := ⟨u.heap.size, 1, none⟩) (v := .int .i64 jitter) (by simp) hu; have hX2 := keep_cell (a := ⟨u.heap.size, 2, none⟩) (v := .int .i64 drift) (by simp) hu; have hW := stepDA hW hu; obtain ⟨c0, c1, c2, c3, c4, c5, c6, c7, c8, c9⟩ := hc.below hW)
        refine kp hK fun hHeld => ?_
        clear hK K
        refine rdy 8 fun K hK => ?_
        go_simp
        (go_at_call 60; refine (all_3b false fv _ _ (skew) (jitter) (drift) u.heap.size _ _ hB hX0 hX1 hX2 hd).mono ?_; rintro e x0 ⟨rfl, hu2⟩; have hW := stepB hW hu2; obtain ⟨c0, c1, c2, c3, c4, c5, c6, c7, c8, c9⟩ := hc.below hW)
        refine kp hK fun hHeld => ?_
        clear hK K
        refine tk 9 hHeld ?_
        refine tk 10 hHeld ?_
        refine wpAnyH_skips (fuel := 1) (by kernel_rfl) (fun _ _ _ _ h => h) hHeld [(11, 32), (12, 33), (13, 34), (14, 35), (15, 36), (16, 37), (17, 38), (18, 39)] (by kernel_rfl) ?_
        simp only [skipA, List.foldl_cons, List.foldl_nil, Act.put, zA, zB, zC]
        refine tk 19 hHeld ?_
        refine dn ?_
        go_wp2
        go_ret
        exact ⟨HE.out _ hE.out, hV.trans (hW.mono hV.size)⟩
    have hd1 : decide ((0 ≤ skew ∧ skew ≤ 137438953472) ∧ (0 ≤ jitter ∧ jitter ≤ 137438953472) ∧ 0 ≤ drift ∧ drift ≤ 137438953472) = true := decide_eq_true s1
    have h2 : Hid (¬ (skew < 0 ∨ 137438953472 < skew ∨ jitter < 0 ∨ 137438953472 < jitter ∨ drift < 0 ∨ 137438953472 < drift)) := by rintro (h | h | h | h | h | h) <;> omega
    by_cases s2 : (1 ≤ round ∧ round ≤ 137438953472) ∧ 1 ≤ frame ∧ frame ≤ 137438953472
    rotate_left
    · have hd2 : decide ((1 ≤ round ∧ round ≤ 137438953472) ∧ 1 ≤ frame ∧ frame ≤ 137438953472) = false := decide_eq_false s2
      have hE : Hid (headErr nodes faulty skew jitter drift round frame ns nl nw = 2) := headErr_3 h1.out h2.out (by omega)
      clear s1 s2
      refine wp_region_held_drew (S := fun u => u.cell? ⟨w.heap.size, 2, none⟩ = some (.int .i64 skew) ∧ u.cell? ⟨w.heap.size, 3, none⟩ = some (.int .i64 jitter) ∧ u.cell? ⟨w.heap.size, 4, none⟩ = some (.int .i64 drift) ∧ u.cell? ⟨w.heap.size, 5, none⟩ = some (.int .i64 round) ∧ u.cell? ⟨w.heap.size, 8, none⟩ = some (.int .i64 frame)) (by kernel_rfl) (by (try dsimp only); go_keep) (fun hHeld => ?_)
      refine tk 1 hHeld ?_
      refine tk 2 hHeld ?_
      refine tk 3 hHeld ?_
      refine tk 4 hHeld ?_
      refine tk 5 hHeld ?_
      refine tk 6 hHeld ?_
      refine rd2 0 7 (fun K hK => ?_) fun K hK => ?_
      · go_simp
        (go_at_call 61; refine (between_any _ _ _).mono ?_; rintro e u0 ⟨fv, rfl, hB, hu⟩; have hW := stepD hW hu; obtain ⟨c0, c1, c2, c3, c4, c5, c6, c7, c8, c9⟩ := hc.below hW)
        refine kp hK fun hHeld => ?_
        clear hK K
        refine rdy 7 fun K hK => ?_
        go_simp
        refine kp hK fun hHeld => ?_
        clear hK K
        refine rdy 8 fun K hK => ?_
        go_simp
        (go_at_call 60; refine (all_3b true fv _ _ (skew) (jitter) (drift) u0.heap.size _ _ (hB.alloc _) (by simp) (by simp) (by simp) hd1).mono ?_; rintro e x0 ⟨rfl, hu2⟩; have hW := stepA hW hu2; obtain ⟨c0, c1, c2, c3, c4, c5, c6, c7, c8, c9⟩ := hc.below hW)
        refine kp hK fun hHeld => ?_
        clear hK K
        refine tk 9 hHeld ?_
        refine tk 10 hHeld ?_
        refine tk 12 hHeld ?_
        refine tk 13 hHeld ?_
        refine tk 14 hHeld ?_
        refine tk 15 hHeld ?_
        refine rd2 11 16 (fun K hK => ?_) fun K hK => ?_
        · go_simp
          (go_at_call 61; refine (between_any _ _ _).mono ?_; rintro e u1 ⟨fv, rfl, hB, hu⟩; have hW := stepB hW hu; obtain ⟨c0, c1, c2, c3, c4, c5, c6, c7, c8, c9⟩ := hc.below hW)
          refine kp hK fun hHeld => ?_
          clear hK K
          refine rdy 16 fun K hK => ?_
          go_simp
          refine kp hK fun hHeld => ?_
          clear hK K
          refine rdy 17 fun K hK => ?_
          go_simp
          (go_at_call 60; refine (all_2b false fv _ _ (round) (frame) u1.heap.size _ _ (hB.alloc _) (by simp) (by simp) hd2).mono ?_; rintro e x1 ⟨rfl, hu2⟩; have hW := stepA hW hu2; obtain ⟨c0, c1, c2, c3, c4, c5, c6, c7, c8, c9⟩ := hc.below hW)
          refine kp hK fun hHeld => ?_
          clear hK K
          refine tk 18 hHeld ?_
          refine tk 19 hHeld ?_
          refine dn ?_
          go_wp2
          go_ret
          exact ⟨HE.out _ hE.out, hV.trans (hW.mono hV.size)⟩
        · go_simp
          refine kp hK fun hHeld => ?_
          clear hK K
          refine rdy 11 fun K hK => ?_
          go_simp
          (go_at_call 61; refine (between_any _ _ _).mono ?_; rintro e u1 ⟨fv, rfl, hB, hu⟩; have hX0 := keep_cell (a := ⟨x0.heap.size, 0, none⟩) (v := .int .i64 round) (by simp) hu; have hX1 := keep_cell (a := ⟨x0.heap.size, 1, none⟩) (v := .int .i64 frame) (by simp) hu; have hW := stepA hW hu; obtain ⟨c0, c1, c2, c3, c4, c5, c6, c7, c8, c9⟩ := hc.below hW)
          refine kp hK fun hHeld => ?_
          clear hK K
          refine rdy 17 fun K hK => ?_
          go_simp
          (go_at_call 60; refine (all_2b false fv _ _ (round) (frame) x0.heap.size _ _ hB hX0 hX1 hd2).mono ?_; rintro e x1 ⟨rfl, hu2⟩; have hW := stepB hW hu2; obtain ⟨c0, c1, c2, c3, c4, c5, c6, c7, c8, c9⟩ := hc.below hW)
          refine kp hK fun hHeld => ?_
          clear hK K
          refine tk 18 hHeld ?_
          refine tk 19 hHeld ?_
          refine dn ?_
          go_wp2
          go_ret
          exact ⟨HE.out _ hE.out, hV.trans (hW.mono hV.size)⟩
      · go_simp
        refine kp hK fun hHeld => ?_
        clear hK K
        refine rdy 0 fun K hK => ?_
        go_simp
        (go_at_call 61; refine (between_any _ _ _).mono ?_; rintro e u0 ⟨fv, rfl, hB, hu⟩; have hX0 := keep_cell (a := ⟨u.heap.size, 0, none⟩) (v := .int .i64 skew) (by simp) hu; have hX1 := keep_cell (a := ⟨u.heap.size, 1, none⟩) (v := .int .i64 jitter) (by simp) hu; have hX2 := keep_cell (a := ⟨u.heap.size, 2, none⟩) (v := .int .i64 drift) (by simp) hu; have hW := stepDA hW hu; obtain ⟨c0, c1, c2, c3, c4, c5, c6, c7, c8, c9⟩ := hc.below hW)
        refine kp hK fun hHeld => ?_
        clear hK K
        refine rdy 8 fun K hK => ?_
        go_simp
        (go_at_call 60; refine (all_3b true fv _ _ (skew) (jitter) (drift) u.heap.size _ _ hB hX0 hX1 hX2 hd1).mono ?_; rintro e x0 ⟨rfl, hu2⟩; have hW := stepB hW hu2; obtain ⟨c0, c1, c2, c3, c4, c5, c6, c7, c8, c9⟩ := hc.below hW)
        refine kp hK fun hHeld => ?_
        clear hK K
        refine tk 9 hHeld ?_
        refine tk 10 hHeld ?_
        refine tk 12 hHeld ?_
        refine tk 13 hHeld ?_
        refine tk 14 hHeld ?_
        refine tk 15 hHeld ?_
        refine rd2 11 16 (fun K hK => ?_) fun K hK => ?_
        · go_simp
          (go_at_call 61; refine (between_any _ _ _).mono ?_; rintro e u1 ⟨fv, rfl, hB, hu⟩; have hW := stepB hW hu; obtain ⟨c0, c1, c2, c3, c4, c5, c6, c7, c8, c9⟩ := hc.below hW)
          refine kp hK fun hHeld => ?_
          clear hK K
          refine rdy 16 fun K hK => ?_
          go_simp
          refine kp hK fun hHeld => ?_
          clear hK K
          refine rdy 17 fun K hK => ?_
          go_simp
          (go_at_call 60; refine (all_2b false fv _ _ (round) (frame) u1.heap.size _ _ (hB.alloc _) (by simp) (by simp) hd2).mono ?_; rintro e x1 ⟨rfl, hu2⟩; have hW := stepA hW hu2; obtain ⟨c0, c1, c2, c3, c4, c5, c6, c7, c8, c9⟩ := hc.below hW)
          refine kp hK fun hHeld => ?_
          clear hK K
          refine tk 18 hHeld ?_
          refine tk 19 hHeld ?_
          refine dn ?_
          go_wp2
          go_ret
          exact ⟨HE.out _ hE.out, hV.trans (hW.mono hV.size)⟩
        · go_simp
          refine kp hK fun hHeld => ?_
          clear hK K
          refine rdy 11 fun K hK => ?_
          go_simp
          (go_at_call 61; refine (between_any _ _ _).mono ?_; rintro e u1 ⟨fv, rfl, hB, hu⟩; have hX0 := keep_cell (a := ⟨x0.heap.size, 0, none⟩) (v := .int .i64 round) (by simp) hu; have hX1 := keep_cell (a := ⟨x0.heap.size, 1, none⟩) (v := .int .i64 frame) (by simp) hu; have hW := stepA hW hu; obtain ⟨c0, c1, c2, c3, c4, c5, c6, c7, c8, c9⟩ := hc.below hW)
          refine kp hK fun hHeld => ?_
          clear hK K
          refine rdy 17 fun K hK => ?_
          go_simp
          (go_at_call 60; refine (all_2b false fv _ _ (round) (frame) x0.heap.size _ _ hB hX0 hX1 hd2).mono ?_; rintro e x1 ⟨rfl, hu2⟩; have hW := stepB hW hu2; obtain ⟨c0, c1, c2, c3, c4, c5, c6, c7, c8, c9⟩ := hc.below hW)
          refine kp hK fun hHeld => ?_
          clear hK K
          refine tk 18 hHeld ?_
          refine tk 19 hHeld ?_
          refine dn ?_
          go_wp2
          go_ret
          exact ⟨HE.out _ hE.out, hV.trans (hW.mono hV.size)⟩
    have hd2 : decide ((1 ≤ round ∧ round ≤ 137438953472) ∧ 1 ≤ frame ∧ frame ≤ 137438953472) = true := decide_eq_true s2
    have h3 : Hid (¬ (round < 1 ∨ 137438953472 < round ∨ frame < 1 ∨ 137438953472 < frame)) := by rintro (h | h | h | h) <;> omega
    obtain ⟨⟨s3, s4⟩, ⟨s5, s6⟩, s7, s8⟩ := s1
    clear s2
    rename_i K3 k3 K4 k4
    have cont3 : ∀ (t3 t4 t5 t6 t7 t8 t9 t10 t11 t12 t13 t14 t15 t16 t17 t18 t19 t20 t21 t22 t23 t24 t25 t26 t27 t28 t29 t30 t31 t32 t33 t34 t35 t36 t37 t38 t39 : Value) (u : World), Below V.heap.size V u → Exit.then K4 (Exit.then K3 Q1) .normal ⟨#[.agg #[.int .i64 nodes, .int .i64 faulty, .int .i64 skew, .int .i64 jitter, .int .i64 drift, .int .i64 round, .slice sa ns sc, .slice la nl lc, .int .i64 frame, .slice wa nw wc], .pointer (some ⟨w.heap.size, 0, none⟩), .int .i64 0, t3, t4, t5, t6, t7, t8, t9, t10, t11, t12, t13, t14, t15, t16, t17, t18, t19, t20, t21, t22, t23, t24, t25, t26, t27, t28, t29, t30, t31, t32, t33, t34, t35, t36, t37, t38, t39, .bool false, undef, undef, undef, undef, undef, undef, undef, undef, undef, undef, undef, undef, undef, undef, undef, undef, undef, undef, undef, undef, undef, undef, undef, undef, undef, undef, undef, undef, undef, undef, undef], []⟩ u := by
      clear hd1 hd2 c0 c1 c2 c3 c4 c5 c6 c7 c8 c9 hW
      intro t3 t4 t5 t6 t7 t8 t9 t10 t11 t12 t13 t14 t15 t16 t17 t18 t19 t20 t21 t22 t23 t24 t25 t26 t27 t28 t29 t30 t31 t32 t33 t34 t35 t36 t37 t38 t39 u hW
      obtain ⟨c0, c1, c2, c3, c4, c5, c6, c7, c8, c9⟩ := hc.below hW
      by_cases d1 : ns ≤ 32
      rotate_left
      · have hn : decide ((32 : Int) < (ns : Int)) = true := decide_eq_true (by omega)
        have hE : Hid (headErr nodes faulty skew jitter drift round frame ns nl nw = 4) := headErr_4 h1.out h2.out h3.out (by omega)
        clear d1
        go_wp2
        go_ret
        exact ⟨HE.out _ hE.out, hV.trans (hW.mono hV.size)⟩
      by_cases d2 : nl ≤ 8
      rotate_left
      · have hn : decide ((8 : Int) < (nl : Int)) = true := decide_eq_true (by omega)
        have hE : Hid (headErr nodes faulty skew jitter drift round frame ns nl nw = 4) := headErr_4 h1.out h2.out h3.out (by omega)
        clear d2
        go_wp2
        go_ret
        exact ⟨HE.out _ hE.out, hV.trans (hW.mono hV.size)⟩
      by_cases d3 : nw ≤ 32
      rotate_left
      · have hn : decide ((32 : Int) < (nw : Int)) = true := decide_eq_true (by omega)
        have hE : Hid (headErr nodes faulty skew jitter drift round frame ns nl nw = 4) := headErr_4 h1.out h2.out h3.out (by omega)
        clear d3
        go_wp2
        go_ret
        exact ⟨HE.out _ hE.out, hV.trans (hW.mono hV.size)⟩
      have h4 : Hid (¬ (32 < ns ∨ 8 < nl ∨ 32 < nw)) := by rintro (h | h | h) <;> omega
      by_cases f1 : skew / 2 + 2 * jitter + 1 + 2 * drift ≤ skew
      · have hE : Hid (headErr nodes faulty skew jitter drift round frame ns nl nw = 0) := headErr_0 h1.out h2.out h3.out h4.out (by omega)
        go_wp2
        go_ret
        exact ⟨HE.out _ hE.out, hV.trans (hW.mono hV.size)⟩
      · have hn : decide (skew < skew / 2 + 2 * jitter + 1 + 2 * drift) = true := decide_eq_true (by omega)
        have hE : Hid (headErr nodes faulty skew jitter drift round frame ns nl nw = 13) := headErr_13 h1.out h2.out h3.out h4.out (by omega)
        clear f1
        go_wp2
        go_ret
        exact ⟨HE.out _ hE.out, hV.trans (hW.mono hV.size)⟩
    refine wp_region_held_drew (S := fun u => u.cell? ⟨w.heap.size, 2, none⟩ = some (.int .i64 skew) ∧ u.cell? ⟨w.heap.size, 3, none⟩ = some (.int .i64 jitter) ∧ u.cell? ⟨w.heap.size, 4, none⟩ = some (.int .i64 drift) ∧ u.cell? ⟨w.heap.size, 5, none⟩ = some (.int .i64 round) ∧ u.cell? ⟨w.heap.size, 8, none⟩ = some (.int .i64 frame)) (by kernel_rfl) (by (try dsimp only); go_keep) (fun hHeld => ?_)
    refine tk 1 hHeld ?_
    refine tk 2 hHeld ?_
    refine tk 3 hHeld ?_
    refine tk 4 hHeld ?_
    refine tk 5 hHeld ?_
    refine tk 6 hHeld ?_
    refine rd2 0 7 (fun K hK => ?_) fun K hK => ?_
    · go_simp
      (go_at_call 61; refine (between_any _ _ _).mono ?_; rintro e u0 ⟨fv, rfl, hB, hu⟩; have hW := stepD hW hu; obtain ⟨c0, c1, c2, c3, c4, c5, c6, c7, c8, c9⟩ := hc.below hW)
      refine kp hK fun hHeld => ?_
      clear hK K
      refine rdy 7 fun K hK => ?_
      go_simp
      refine kp hK fun hHeld => ?_
      clear hK K
      refine rdy 8 fun K hK => ?_
      go_simp
      (go_at_call 60; refine (all_3b true fv _ _ (skew) (jitter) (drift) u0.heap.size _ _ (hB.alloc _) (by simp) (by simp) (by simp) hd1).mono ?_; rintro e x0 ⟨rfl, hu2⟩; have hW := stepA hW hu2; obtain ⟨c0, c1, c2, c3, c4, c5, c6, c7, c8, c9⟩ := hc.below hW)
      refine kp hK fun hHeld => ?_
      clear hK K
      refine tk 9 hHeld ?_
      refine tk 10 hHeld ?_
      refine tk 12 hHeld ?_
      refine tk 13 hHeld ?_
      refine tk 14 hHeld ?_
      refine tk 15 hHeld ?_
      refine rd2 11 16 (fun K hK => ?_) fun K hK => ?_
      · go_simp
        (go_at_call 61; refine (between_any _ _ _).mono ?_; rintro e u1 ⟨fv, rfl, hB, hu⟩; have hW := stepB hW hu; obtain ⟨c0, c1, c2, c3, c4, c5, c6, c7, c8, c9⟩ := hc.below hW)
        refine kp hK fun hHeld => ?_
        clear hK K
        refine rdy 16 fun K hK => ?_
        go_simp
        refine kp hK fun hHeld => ?_
        clear hK K
        refine rdy 17 fun K hK => ?_
        go_simp
        (go_at_call 60; refine (all_2b true fv _ _ (round) (frame) u1.heap.size _ _ (hB.alloc _) (by simp) (by simp) hd2).mono ?_; rintro e x1 ⟨rfl, hu2⟩; have hW := stepA hW hu2; obtain ⟨c0, c1, c2, c3, c4, c5, c6, c7, c8, c9⟩ := hc.below hW)
        refine kp hK fun hHeld => ?_
        clear hK K
        refine tk 18 hHeld ?_
        refine tk 19 hHeld ?_
        refine dn ?_
        exact cont3 _ _ _ _ _ _ _ _ _ _ _ _ _ _ _ _ _ _ _ _ _ _ _ _ _ _ _ _ _ _ _ _ _ _ _ _ _ _ hW
      · go_simp
        refine kp hK fun hHeld => ?_
        clear hK K
        refine rdy 11 fun K hK => ?_
        go_simp
        (go_at_call 61; refine (between_any _ _ _).mono ?_; rintro e u1 ⟨fv, rfl, hB, hu⟩; have hX0 := keep_cell (a := ⟨x0.heap.size, 0, none⟩) (v := .int .i64 round) (by simp) hu; have hX1 := keep_cell (a := ⟨x0.heap.size, 1, none⟩) (v := .int .i64 frame) (by simp) hu; have hW := stepA hW hu; obtain ⟨c0, c1, c2, c3, c4, c5, c6, c7, c8, c9⟩ := hc.below hW)
        refine kp hK fun hHeld => ?_
        clear hK K
        refine rdy 17 fun K hK => ?_
        go_simp
        (go_at_call 60; refine (all_2b true fv _ _ (round) (frame) x0.heap.size _ _ hB hX0 hX1 hd2).mono ?_; rintro e x1 ⟨rfl, hu2⟩; have hW := stepB hW hu2; obtain ⟨c0, c1, c2, c3, c4, c5, c6, c7, c8, c9⟩ := hc.below hW)
        refine kp hK fun hHeld => ?_
        clear hK K
        refine tk 18 hHeld ?_
        refine tk 19 hHeld ?_
        refine dn ?_
        exact cont3 _ _ _ _ _ _ _ _ _ _ _ _ _ _ _ _ _ _ _ _ _ _ _ _ _ _ _ _ _ _ _ _ _ _ _ _ _ _ hW
    · go_simp
      refine kp hK fun hHeld => ?_
      clear hK K
      refine rdy 0 fun K hK => ?_
      go_simp
      (go_at_call 61; refine (between_any _ _ _).mono ?_; rintro e u0 ⟨fv, rfl, hB, hu⟩; have hX0 := keep_cell (a := ⟨u.heap.size, 0, none⟩) (v := .int .i64 skew) (by simp) hu; have hX1 := keep_cell (a := ⟨u.heap.size, 1, none⟩) (v := .int .i64 jitter) (by simp) hu; have hX2 := keep_cell (a := ⟨u.heap.size, 2, none⟩) (v := .int .i64 drift) (by simp) hu; have hW := stepDA hW hu; obtain ⟨c0, c1, c2, c3, c4, c5, c6, c7, c8, c9⟩ := hc.below hW)
      refine kp hK fun hHeld => ?_
      clear hK K
      refine rdy 8 fun K hK => ?_
      go_simp
      (go_at_call 60; refine (all_3b true fv _ _ (skew) (jitter) (drift) u.heap.size _ _ hB hX0 hX1 hX2 hd1).mono ?_; rintro e x0 ⟨rfl, hu2⟩; have hW := stepB hW hu2; obtain ⟨c0, c1, c2, c3, c4, c5, c6, c7, c8, c9⟩ := hc.below hW)
      refine kp hK fun hHeld => ?_
      clear hK K
      refine tk 9 hHeld ?_
      refine tk 10 hHeld ?_
      refine tk 12 hHeld ?_
      refine tk 13 hHeld ?_
      refine tk 14 hHeld ?_
      refine tk 15 hHeld ?_
      refine rd2 11 16 (fun K hK => ?_) fun K hK => ?_
      · go_simp
        (go_at_call 61; refine (between_any _ _ _).mono ?_; rintro e u1 ⟨fv, rfl, hB, hu⟩; have hW := stepB hW hu; obtain ⟨c0, c1, c2, c3, c4, c5, c6, c7, c8, c9⟩ := hc.below hW)
        refine kp hK fun hHeld => ?_
        clear hK K
        refine rdy 16 fun K hK => ?_
        go_simp
        refine kp hK fun hHeld => ?_
        clear hK K
        refine rdy 17 fun K hK => ?_
        go_simp
        (go_at_call 60; refine (all_2b true fv _ _ (round) (frame) u1.heap.size _ _ (hB.alloc _) (by simp) (by simp) hd2).mono ?_; rintro e x1 ⟨rfl, hu2⟩; have hW := stepA hW hu2; obtain ⟨c0, c1, c2, c3, c4, c5, c6, c7, c8, c9⟩ := hc.below hW)
        refine kp hK fun hHeld => ?_
        clear hK K
        refine tk 18 hHeld ?_
        refine tk 19 hHeld ?_
        refine dn ?_
        exact cont3 _ _ _ _ _ _ _ _ _ _ _ _ _ _ _ _ _ _ _ _ _ _ _ _ _ _ _ _ _ _ _ _ _ _ _ _ _ _ hW
      · go_simp
        refine kp hK fun hHeld => ?_
        clear hK K
        refine rdy 11 fun K hK => ?_
        go_simp
        (go_at_call 61; refine (between_any _ _ _).mono ?_; rintro e u1 ⟨fv, rfl, hB, hu⟩; have hX0 := keep_cell (a := ⟨x0.heap.size, 0, none⟩) (v := .int .i64 round) (by simp) hu; have hX1 := keep_cell (a := ⟨x0.heap.size, 1, none⟩) (v := .int .i64 frame) (by simp) hu; have hW := stepA hW hu; obtain ⟨c0, c1, c2, c3, c4, c5, c6, c7, c8, c9⟩ := hc.below hW)
        refine kp hK fun hHeld => ?_
        clear hK K
        refine rdy 17 fun K hK => ?_
        go_simp
        (go_at_call 60; refine (all_2b true fv _ _ (round) (frame) x0.heap.size _ _ hB hX0 hX1 hd2).mono ?_; rintro e x1 ⟨rfl, hu2⟩; have hW := stepB hW hu2; obtain ⟨c0, c1, c2, c3, c4, c5, c6, c7, c8, c9⟩ := hc.below hW)
        refine kp hK fun hHeld => ?_
        clear hK K
        refine tk 18 hHeld ?_
        refine tk 19 hHeld ?_
        refine dn ?_
        exact cont3 _ _ _ _ _ _ _ _ _ _ _ _ _ _ _ _ _ _ _ _ _ _ _ _ _ _ _ _ _ _ _ _ _ _ _ _ _ _ hW
  refine wp_region_held_drew (S := fun u => u.cell? ⟨w.heap.size, 0, none⟩ = some (.int .i64 nodes) ∧ u.cell? ⟨w.heap.size, 1, none⟩ = some (.int .i64 faulty)) (by kernel_rfl) (by (try dsimp only); go_keep) (fun hHeld => ?_)
  refine tk 1 hHeld ?_
  refine tk 2 hHeld ?_
  refine rd2 0 3 (fun K hK => ?_) fun K hK => ?_
  · go_simp
    (go_at_call 61; refine (between_any _ _ _).mono ?_; rintro e u0 ⟨fv, rfl, hB, hu⟩; have hW := stepD hW hu; obtain ⟨c0, c1, c2, c3, c4, c5, c6, c7, c8, c9⟩ := hc.below hW)
    refine kp hK fun hHeld => ?_
    clear hK K
    refine rdy 3 fun K hK => ?_
    go_simp
    refine kp hK fun hHeld => ?_
    clear hK K
    refine rdy 4 fun K hK => ?_
    go_simp
    (go_at_call 60; refine (all_1b true fv _ _ (nodes) u0.heap.size _ _ (hB.alloc _) (by simp) hd1).mono ?_; rintro e x0 ⟨rfl, hu2⟩; have hW := stepA hW hu2; obtain ⟨c0, c1, c2, c3, c4, c5, c6, c7, c8, c9⟩ := hc.below hW)
    refine kp hK fun hHeld => ?_
    clear hK K
    refine tk 5 hHeld ?_
    refine tk 6 hHeld ?_
    refine tk 7 hHeld ?_
    refine tk 8 hHeld ?_
    refine tk 9 hHeld ?_
    refine tk 10 hHeld ?_
    refine tk 12 hHeld ?_
    refine tk 13 hHeld ?_
    refine rd2 11 14 (fun K hK => ?_) fun K hK => ?_
    · go_simp
      (go_at_call 61; refine (between_any _ _ _).mono ?_; rintro e u1 ⟨fv, rfl, hB, hu⟩; have hW := stepB hW hu; obtain ⟨c0, c1, c2, c3, c4, c5, c6, c7, c8, c9⟩ := hc.below hW)
      refine kp hK fun hHeld => ?_
      clear hK K
      refine rdy 14 fun K hK => ?_
      go_simp
      refine kp hK fun hHeld => ?_
      clear hK K
      refine rdy 15 fun K hK => ?_
      go_simp
      (go_at_call 60; refine (all_1b true fv _ _ (faulty) u1.heap.size _ _ (hB.alloc _) (by simp) hd2).mono ?_; rintro e x1 ⟨rfl, hu2⟩; have hW := stepA hW hu2; obtain ⟨c0, c1, c2, c3, c4, c5, c6, c7, c8, c9⟩ := hc.below hW)
      refine kp hK fun hHeld => ?_
      clear hK K
      refine tk 16 hHeld ?_
      refine tk 17 hHeld ?_
      refine dn ?_
      exact cont1 _ _ _ _ _ _ _ _ _ _ _ _ _ _ _ _ _ _ hW
    · go_simp
      refine kp hK fun hHeld => ?_
      clear hK K
      refine rdy 11 fun K hK => ?_
      go_simp
      (go_at_call 61; refine (between_any _ _ _).mono ?_; rintro e u1 ⟨fv, rfl, hB, hu⟩; have hX0 := keep_cell (a := ⟨x0.heap.size, 0, none⟩) (v := .int .i64 faulty) (by simp) hu; have hW := stepA hW hu; obtain ⟨c0, c1, c2, c3, c4, c5, c6, c7, c8, c9⟩ := hc.below hW)
      refine kp hK fun hHeld => ?_
      clear hK K
      refine rdy 15 fun K hK => ?_
      go_simp
      (go_at_call 60; refine (all_1b true fv _ _ (faulty) x0.heap.size _ _ hB hX0 hd2).mono ?_; rintro e x1 ⟨rfl, hu2⟩; have hW := stepB hW hu2; obtain ⟨c0, c1, c2, c3, c4, c5, c6, c7, c8, c9⟩ := hc.below hW)
      refine kp hK fun hHeld => ?_
      clear hK K
      refine tk 16 hHeld ?_
      refine tk 17 hHeld ?_
      refine dn ?_
      exact cont1 _ _ _ _ _ _ _ _ _ _ _ _ _ _ _ _ _ _ hW
  · go_simp
    refine kp hK fun hHeld => ?_
    clear hK K
    refine rdy 0 fun K hK => ?_
    go_simp
    (go_at_call 61; refine (between_any _ _ _).mono ?_; rintro e u0 ⟨fv, rfl, hB, hu⟩; have hX0 := keep_cell (a := ⟨V.heap.size, 0, none⟩) (v := .int .i64 nodes) (by simp) hu; have hW := stepDA hW hu; obtain ⟨c0, c1, c2, c3, c4, c5, c6, c7, c8, c9⟩ := hc.below hW)
    refine kp hK fun hHeld => ?_
    clear hK K
    refine rdy 4 fun K hK => ?_
    go_simp
    (go_at_call 60; refine (all_1b true fv _ _ (nodes) V.heap.size _ _ hB hX0 hd1).mono ?_; rintro e x0 ⟨rfl, hu2⟩; have hW := stepB hW hu2; obtain ⟨c0, c1, c2, c3, c4, c5, c6, c7, c8, c9⟩ := hc.below hW)
    refine kp hK fun hHeld => ?_
    clear hK K
    refine tk 5 hHeld ?_
    refine tk 6 hHeld ?_
    refine tk 7 hHeld ?_
    refine tk 8 hHeld ?_
    refine tk 9 hHeld ?_
    refine tk 10 hHeld ?_
    refine tk 12 hHeld ?_
    refine tk 13 hHeld ?_
    refine rd2 11 14 (fun K hK => ?_) fun K hK => ?_
    · go_simp
      (go_at_call 61; refine (between_any _ _ _).mono ?_; rintro e u1 ⟨fv, rfl, hB, hu⟩; have hW := stepB hW hu; obtain ⟨c0, c1, c2, c3, c4, c5, c6, c7, c8, c9⟩ := hc.below hW)
      refine kp hK fun hHeld => ?_
      clear hK K
      refine rdy 14 fun K hK => ?_
      go_simp
      refine kp hK fun hHeld => ?_
      clear hK K
      refine rdy 15 fun K hK => ?_
      go_simp
      (go_at_call 60; refine (all_1b true fv _ _ (faulty) u1.heap.size _ _ (hB.alloc _) (by simp) hd2).mono ?_; rintro e x1 ⟨rfl, hu2⟩; have hW := stepA hW hu2; obtain ⟨c0, c1, c2, c3, c4, c5, c6, c7, c8, c9⟩ := hc.below hW)
      refine kp hK fun hHeld => ?_
      clear hK K
      refine tk 16 hHeld ?_
      refine tk 17 hHeld ?_
      refine dn ?_
      exact cont1 _ _ _ _ _ _ _ _ _ _ _ _ _ _ _ _ _ _ hW
    · go_simp
      refine kp hK fun hHeld => ?_
      clear hK K
      refine rdy 11 fun K hK => ?_
      go_simp
      (go_at_call 61; refine (between_any _ _ _).mono ?_; rintro e u1 ⟨fv, rfl, hB, hu⟩; have hX0 := keep_cell (a := ⟨x0.heap.size, 0, none⟩) (v := .int .i64 faulty) (by simp) hu; have hW := stepA hW hu; obtain ⟨c0, c1, c2, c3, c4, c5, c6, c7, c8, c9⟩ := hc.below hW)
      refine kp hK fun hHeld => ?_
      clear hK K
      refine rdy 15 fun K hK => ?_
      go_simp
      (go_at_call 60; refine (all_1b true fv _ _ (faulty) x0.heap.size _ _ hB hX0 hd2).mono ?_; rintro e x1 ⟨rfl, hu2⟩; have hW := stepB hW hu2; obtain ⟨c0, c1, c2, c3, c4, c5, c6, c7, c8, c9⟩ := hc.below hW)
      refine kp hK fun hHeld => ?_
      clear hK K
      refine tk 16 hHeld ?_
      refine tk 17 hHeld ?_
      refine dn ?_
      exact cont1 _ _ _ _ _ _ _ _ _ _ _ _ _ _ _ _ _ _ hW
end Go.Proofs.YtdmokcnoljlogaaGreatDoor
