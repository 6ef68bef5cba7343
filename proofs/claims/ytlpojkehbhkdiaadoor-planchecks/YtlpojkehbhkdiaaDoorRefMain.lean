/- The document's answer's Check behind what it says of the whole: which slot, link or window is wrong first; new memory alone is made. -/
import Derived.Test.YtlpojkehbhkdiaaDoorRefHead
import Derived.Test.YtlpojkehbhkdiaaDoorRefWinAny
import Derived.Test.YtlpojkehbhkdiaaDoorPlanPlain
import Derived.Test.YtlpojkehbhkdiaaDoorOpenRows
import Derived.Test.YtlpojkehbhkdiaaDoorFine0
namespace Go.Proofs.YtlpojkehbhkdiaaDoor
open Go.RowKit


def inB (n lo hi : Int) : Bool := decide (lo ≤ n ∧ n ≤ hi)
set_option maxHeartbeats 400000 in
theorem in_any (n lo hi : Int) (w : World) : Calls Tryd.prog 20 #[.int .i64 n, .int .i64 lo, .int .i64 hi] w fun e w' => e = .returned (.bool (inB n lo hi)) ∧ w' = w := by
  by_cases h1 : lo ≤ n
  · by_cases h2 : n ≤ hi
    · have hb : inB n lo hi = true := by simp [inB, h1, h2]
      rw [hb]
      go_enter Tryd.func20, Tryd.ntmps20
      go_wp2
      go_ret
      exact ⟨rfl, rfl⟩
    · have hb : inB n lo hi = false := by simp [inB, h2]
      have h3 : decide (n ≤ hi) = false := decide_eq_false h2
      rw [hb]
      go_enter Tryd.func20, Tryd.ntmps20
      go_wp2
      go_ret
      exact ⟨rfl, rfl⟩
  · have hb : inB n lo hi = false := by simp [inB, h1]
    have h3 : decide (lo ≤ n) = false := decide_eq_false h1
    rw [hb]
    go_enter Tryd.func20, Tryd.ntmps20
    go_wp2
    go_ret
    exact ⟨rfl, rfl⟩

theorem pow_small15 (n : Nat) (h : n ≤ 15) : 1 ≤ (2 : Int) ^ n ∧ (2 : Int) ^ n ≤ 32768 := by
  have : n = 0 ∨ n = 1 ∨ n = 2 ∨ n = 3 ∨ n = 4 ∨ n = 5 ∨ n = 6 ∨ n = 7 ∨ n = 8 ∨ n = 9 ∨ n = 10 ∨ n = 11 ∨ n = 12 ∨ n = 13 ∨ n = 14 ∨ n = 15 := by omega
  rcases this with rfl | rfl | rfl | rfl | rfl | rfl | rfl | rfl | rfl | rfl | rfl | rfl | rfl | rfl | rfl | rfl <;> decide
theorem wrap_small (n : Int) (h0 : 0 ≤ n) (h : n ≤ 1000000) : IntKind.i64.wrap n = n := by
  simp [IntKind.wrap, IntKind.bits, IntKind.signed]
  omega
theorem ret_fault {a b c d : Int} (h : c = a ∧ d = b) : Ending.returned (.agg #[.int .i64 a, .int .i64 b]) = .returned (.agg #[.int .i64 c, .int .i64 d]) := by rw [h.1, h.2]

theorem below_res {w V wr : World} (hB : Below w.heap.size w V) (hbe : Below V.heap.size V wr) (x y : Value) (o : Obj) : Below w.heap.size w (((wr.setCell ⟨w.heap.size + 1, 0, none⟩ x).setCell ⟨w.heap.size + 1, 1, none⟩ y).alloc o) := by
  have h : Below w.heap.size w wr := hB.trans (hbe.mono hB.size)
  have h2 : Below w.heap.size w ((wr.setCell ⟨w.heap.size + 1, 0, none⟩ x).setCell ⟨w.heap.size + 1, 1, none⟩ y) := (h.setCell (p := ⟨w.heap.size + 1, 0, none⟩) (Nat.le_succ _) x).setCell (p := ⟨w.heap.size + 1, 1, none⟩) (Nat.le_succ _) y
  exact h2.alloc h2.size o

theorem below_resd {w V wr : World} (hB : Below w.heap.size w V) (hbe : Below V.heap.size V wr) (x y : Value) (o : Obj) (n : Nat) : Below w.heap.size w ((((wr.alloc o).drewN n).setCell ⟨w.heap.size + 1, 0, none⟩ x).setCell ⟨w.heap.size + 1, 1, none⟩ y) := by
  have h : Below w.heap.size w wr := hB.trans (hbe.mono hB.size)
  exact ((below_drewN (h.alloc h.size o) n).setCell (p := ⟨w.heap.size + 1, 0, none⟩) (Nat.le_succ _) x).setCell (p := ⟨w.heap.size + 1, 1, none⟩) (Nat.le_succ _) y

theorem first_of3 {w : World} {o1 o2 o3 : Obj} (i : Nat) : (((w.alloc o1).alloc o2).alloc o3).cell? ⟨w.heap.size, i, none⟩ = (w.alloc o1).cell? ⟨w.heap.size, i, none⟩ := by
  rw [World.cell?_alloc_lt _ _ _ (by simp; omega), World.cell?_alloc_lt _ _ _ (by simp)]
theorem second_of3 {w : World} {o1 o2 o3 : Obj} (i : Nat) : (((w.alloc o1).alloc o2).alloc o3).cell? ⟨w.heap.size + 1, i, none⟩ = ((w.alloc o1).alloc o2).cell? ⟨w.heap.size + 1, i, none⟩ := by
  rw [World.cell?_alloc_lt _ _ _ (by simp)]
theorem second_frozen {w : World} {o1 o2 o3 : Obj} (i : Nat) : (((w.alloc o1).alloc o2).alloc o3).frozen? ⟨w.heap.size + 1, i, none⟩ = ((w.alloc o1).alloc o2).frozen? ⟨w.heap.size + 1, i, none⟩ := by
  rw [World.frozen?_alloc_old _ _ _ (by simp)]

set_option maxRecDepth 100000 in
set_option maxHeartbeats 4000000 in
theorem refMain (nodes faulty skew jitter drift round frame : Int) (sa la wa : Option Addr) (ns sc nl lc nw wc : Nat) (w : World)
    (a1 : 1 ≤ nodes) (a2 : nodes ≤ 16) (a3 : 0 ≤ faulty) (a4 : faulty ≤ 100) (a5 : faulty * 3 + 1 ≤ nodes)
    (b1 : 0 ≤ skew) (b2 : skew ≤ 137438953472) (b3 : 0 ≤ jitter) (b4 : jitter ≤ 137438953472) (b5 : 0 ≤ drift) (b6 : drift ≤ 137438953472)
    (c1 : 1 ≤ round) (c2 : round ≤ 137438953472) (c3 : 1 ≤ frame) (c4 : frame ≤ 137438953472) (d1 : ns ≤ 32) (d2 : nl ≤ 8) (d3 : nw ≤ 32) (f1 : skew / 2 + jitter * 2 + drift * 2 + 1 ≤ skew)
    (nd fr tq : Nat → Int) (hs : Rows3 w sa ns nd fr tq) (lf lt lb lq : Nat → Int) (hl : Rows4 w la nl lf lt lb lq) (hit : Nat → Bool) (pw : Int) (hpw : (2 : Int) ^ nodes.toNat = pw) (hp1 : 2 ≤ pw) (hp2 : pw ≤ 65536) (hhit : ∀ j, 0 ≤ lf j → lf j ≤ 15 → hit j = (bits BinOp.and .i64 (lt j) (2 ^ (lf j).toNat) != 0)) (e1 i1 e2 i2 e3 i3 E I : Int) (hF1 : FirstBad (slotErr nd fr tq nodes skew round) ns e1 i1) (wp wf wt : Nat → Int) (hw : Rows3 w wa nw wp wf wt) (hfine : Fine0 w) (hF3 : FirstBad (winErr wp wf wt frame) nw e3 i3) (hF2 : FirstBad (linkErr lf lt lb lq hit nodes pw) nl e2 i2) (hR : PlanRes e1 i1 e2 i2 e3 i3 E I) :
    Calls Tryd.prog 9 #[.agg #[.int .i64 nodes, .int .i64 faulty, .int .i64 skew, .int .i64 jitter, .int .i64 drift, .int .i64 round, .slice sa ns sc, .slice la nl lc, .int .i64 frame, .slice wa nw wc]] w fun ev w' => ev = .returned (.agg #[.int .i64 E, .int .i64 I]) ∧ Below w.heap.size w w' := by
  have HF1 : Hid (FirstBad (slotErr nd fr tq nodes skew round) ns e1 i1) := hF1
  have HF2 : Hid (FirstBad (linkErr lf lt lb lq hit nodes pw) nl e2 i2) := hF2
  have HH : Hid (∀ j, 0 ≤ lf j → lf j ≤ 15 → hit j = (bits BinOp.and .i64 (lt j) (2 ^ (lf j).toNat) != 0)) := hhit
  have HPW : Hid ((2 : Int) ^ nodes.toNat = pw) := hpw
  clear hF2 hhit hpw
  have HF3 : Hid (FirstBad (winErr wp wf wt frame) nw e3 i3) := hF3
  clear hF3
  have HR : Hid (PlanRes e1 i1 e2 i2 e3 i3 E I) := hR
  clear hF1 hR
  have n1 : decide (faulty < 0) = false := decide_eq_false (by omega)
  have n2 : decide (100 < faulty) = false := decide_eq_false (by omega)
  have n3 : decide (nodes < faulty * 3 + 1) = false := decide_eq_false (by omega)
  have n4 : decide (skew < skew / 2 + jitter * 2 + drift * 2 + 1) = false := decide_eq_false (by omega)
  have n5 : decide (32 < ns) = false := decide_eq_false (by omega)
  have n6 : decide (8 < nl) = false := decide_eq_false (by omega)
  have n7 : decide (32 < nw) = false := decide_eq_false (by omega)
  have n8 : decide ((32 : Int) < (ns : Int)) = false := decide_eq_false (by omega)
  have n9 : decide ((8 : Int) < (nl : Int)) = false := decide_eq_false (by omega)
  have n10 : decide ((32 : Int) < (nw : Int)) = false := decide_eq_false (by omega)
  go_enter Tryd.func9, Tryd.ntmps9
  go_wp2_with (first | (go_at_call 21; refine (bareH_any _ _).mono ?_; rintro e w' ⟨rfl, rfl⟩) | go_in)
  refine wp_loop_rounds 4 ?_
  rw [rounds_succ]
  go_wp2_with (first | (go_at_call 21; refine (bareH_any _ _).mono ?_; rintro e w' ⟨rfl, rfl⟩) | go_in)
  rw [rounds_succ]
  go_wp2_with (first | (go_at_call 21; refine (bareH_any _ _).mono ?_; rintro e w' ⟨rfl, rfl⟩) | go_in)
  rw [rounds_succ]
  go_wp2_with (first | (go_at_call 21; refine (bareH_any _ _).mono ?_; rintro e w' ⟨rfl, rfl⟩) | go_in)
  rw [rounds_succ]
  go_wp2_with (first | (go_at_call 21; refine (bareH_any _ _).mono ?_; rintro e w' ⟨rfl, rfl⟩) | go_in)
  obtain ⟨V, hV⟩ : ∃ V, V = ((w.alloc (.cells #[.int .i64 nodes, .int .i64 faulty, .int .i64 skew, .int .i64 jitter, .int .i64 drift, .int .i64 round, .slice sa ns sc, .slice la nl lc, .int .i64 frame, .slice wa nw wc] 26)).alloc (.cells #[.int .i64 0, .int .i64 0] 34)).alloc (.cells #[.int .i64 skew, .int .i64 jitter, .int .i64 drift] 3) := ⟨_, rfl⟩
  rw [← hV]
  have hB : Below w.heap.size w V := by
    rw [hV]; exact (((Below.refl _ _).alloc (Nat.le_refl _) _).alloc (by simp) _).alloc (by simp; omega) _
  have hz : w.heap.size + 1 < V.heap.size := by rw [hV]; simp
  have p0 : V.cell? ⟨w.heap.size, 0, none⟩ = some (.int .i64 nodes) := by rw [hV, first_of3]; simp
  have p2 : V.cell? ⟨w.heap.size, 2, none⟩ = some (.int .i64 skew) := by rw [hV, first_of3]; simp
  have p5 : V.cell? ⟨w.heap.size, 5, none⟩ = some (.int .i64 round) := by rw [hV, first_of3]; simp
  have p6 : V.cell? ⟨w.heap.size, 6, none⟩ = some (.slice sa ns sc) := by rw [hV, first_of3]; simp
  have p7 : V.cell? ⟨w.heap.size, 7, none⟩ = some (.slice la nl lc) := by rw [hV, first_of3]; simp
  have p8 : V.cell? ⟨w.heap.size, 8, none⟩ = some (.int .i64 frame) := by rw [hV, first_of3]; simp
  have p9 : V.cell? ⟨w.heap.size, 9, none⟩ = some (.slice wa nw wc) := by rw [hV, first_of3]; simp
  have r0 : V.cell? ⟨w.heap.size + 1, 0, none⟩ = some (.int .i64 0) := by rw [hV, second_of3]; simp
  have r1 : V.cell? ⟨w.heap.size + 1, 1, none⟩ = some (.int .i64 0) := by rw [hV, second_of3]; simp
  have z0 : V.frozen? ⟨w.heap.size + 1, 0, none⟩ = false := by rw [hV, second_frozen]; simp
  have z1 : V.frozen? ⟨w.heap.size + 1, 1, none⟩ = false := by rw [hV, second_frozen]; simp
  replace hs := hs.below hB
  replace hl := hl.below hB
  replace hw := hw.below hB
  replace hfine := hfine.below hB
  clear hV
  clear n1 n2 n3 n4 n5 n6 n7 n8 n9 n10 a3 a4 a5 b3 b4 b5 b6 f1
  go_loopw [101] (fun t wr => ∃ k : Nat, k ≤ ns ∧ t = .int .i64 k ∧ Hid (∀ j, j < k → slotErr nd fr tq nodes skew round j = 0) ∧ Below V.heap.size V wr) (fun t _ => ns - (intOf t).toNat)
  case atStart => exact ⟨0, Nat.zero_le _, rfl, fun j hj => absurd hj (Nat.not_lt_zero _), Below.refl _ _⟩
  case round =>
    obtain ⟨k, hk, rfl, h0, hbe⟩ := hrel
    have hzr : w.heap.size + 1 < wr.heap.size := Nat.lt_of_lt_of_le hz hbe.size
    have hzr0 : w.heap.size < wr.heap.size := by omega
    have q0 := (hbe.cell (p := ⟨w.heap.size, 0, none⟩) (by simp; omega)).trans p0
    have q2 := (hbe.cell (p := ⟨w.heap.size, 2, none⟩) (by simp; omega)).trans p2
    have q5 := (hbe.cell (p := ⟨w.heap.size, 5, none⟩) (by simp; omega)).trans p5
    have q6 := (hbe.cell (p := ⟨w.heap.size, 6, none⟩) (by simp; omega)).trans p6
    have q7 := (hbe.cell (p := ⟨w.heap.size, 7, none⟩) (by simp; omega)).trans p7
    have q8 := (hbe.cell (p := ⟨w.heap.size, 8, none⟩) (by simp; omega)).trans p8
    have q9 := (hbe.cell (p := ⟨w.heap.size, 9, none⟩) (by simp; omega)).trans p9
    have s0 := (hbe.cell (p := ⟨w.heap.size + 1, 0, none⟩) hz).trans r0
    have s1 := (hbe.cell (p := ⟨w.heap.size + 1, 1, none⟩) hz).trans r1
    have y0 := (hbe.frozen (p := ⟨w.heap.size + 1, 0, none⟩) hz).trans z0
    have y1 := (hbe.frozen (p := ⟨w.heap.size + 1, 1, none⟩) hz).trans z1
    replace hl := hl.below hbe
    replace hw := hw.below hbe
    replace hfine := hfine.below hbe
    clear p0 p2 p5 p6 p7 p8 p9 r0 r1 z0 z1
    by_cases hlt : k < ns
    · obtain ⟨b, off, rfl, hb, hc⟩ := hs (by omega)
      have HC : Hid (∀ j, j < ns → V.cell? ⟨b, off + j * 3, none⟩ = some (.int .i64 (nd j)) ∧ V.cell? ⟨b, off + j * 3 + 1, none⟩ = some (.int .i64 (fr j)) ∧ V.cell? ⟨b, off + j * 3 + 2, none⟩ = some (.int .i64 (tq j))) := hc
      clear hc hs
      obtain ⟨x0, x1, x2⟩ := HC.out k hlt
      replace x0 := (hbe.cell (p := ⟨b, off + k * 3, none⟩) hb).trans x0
      replace x1 := (hbe.cell (p := ⟨b, off + k * 3 + 1, none⟩) hb).trans x1
      replace x2 := (hbe.cell (p := ⟨b, off + k * 3 + 2, none⟩) hb).trans x2
      have hbr : b < wr.heap.size := Nat.lt_of_lt_of_le hb hbe.size
      by_cases c1 : tq k ≤ fr k
      · go_wp2
        refine bodyPost_ret (v := .agg #[.int .i64 1, .int .i64 k]) (by simp [results, Tryd.results9, go_sem, s0, s1, hzr]) rfl ⟨ret_fault (HR.out.slot (HF1.out.is hlt h0.out (slotErr_1 c1) (by decide)) (by decide)), ?_⟩
        exact below_res hB hbe _ _ _
      · have c1' : decide (tq k ≤ fr k) = false := decide_eq_false c1
        by_cases ck : k = 0
        · have k1 : ((k : Int) == 0) = true := by rw [ck]; rfl
          have k2 : decide (0 < k) = false := by rw [ck]; rfl
          have k3 : decide ((0 : Int) < (k : Int)) = false := by rw [ck]; rfl
          have CK : Hid (k = 0) := ck
          clear ck
          by_cases c2 : fr k < 0
          · go_wp2
            refine bodyPost_ret (v := .agg #[.int .i64 10, .int .i64 k]) (by simp [results, Tryd.results9, go_sem, s0, s1, hzr]) rfl ⟨ret_fault (HR.out.slot (HF1.out.is hlt h0.out (slotErr_10 c1 (.inl ⟨CK.out, c2⟩)) (by decide)) (by decide)), ?_⟩
            exact below_res hB hbe _ _ _
          · have c2' : decide (fr k < 0) = false := decide_eq_false c2
            have g3 : Hid (¬ ((k = 0 ∧ fr k < 0) ∨ (0 < k ∧ fr k ≤ tq (k - 1) + skew))) := by
              have := CK.out
              rintro (⟨_, h⟩ | ⟨h, _⟩)
              · exact c2 h
              · omega
            go_wp2
            go_quiet (fail)
            go_wp2
            · refine bodyPost_ret (v := .agg #[.int .i64 2, .int .i64 k]) (by simp [results, Tryd.results9, go_sem, s0, s1, hzr]) rfl ⟨ret_fault (HR.out.slot (HF1.out.is hlt h0.out (slotErr_2 c1 g3.out (by assumption)) (by decide)) (by decide)), ?_⟩
              exact below_resd hB hbe _ _ _ _
            · refine bodyPost_ret (v := .agg #[.int .i64 7, .int .i64 k]) (by simp [results, Tryd.results9, go_sem, s0, s1, hzr]) rfl ⟨ret_fault (HR.out.slot (HF1.out.is hlt h0.out (slotErr_7 c1 g3.out (by assumption) (.inr (by simp_all))) (by decide)) (by decide)), ?_⟩
              exact below_resd hB hbe _ _ _ _
            · have hlast : slotErr nd fr tq nodes skew round k = 0 := slotErr_0 c1 g3.out (by assumption) (by assumption) (by simp_all)
              go_roundw
              case rel => ((repeat apply Exists.intro); exact ⟨⟨k + 1, by omega, by go_num, next_zero h0.out hlast, below_drewN (hbe.alloc hbe.size _) _⟩, rfl⟩)
              case measure => simp [intOf]; omega
            · refine bodyPost_ret (v := .agg #[.int .i64 7, .int .i64 k]) (by simp [results, Tryd.results9, go_sem, s0, s1, hzr]) rfl ⟨ret_fault (HR.out.slot (HF1.out.is hlt h0.out (slotErr_7 c1 g3.out (by assumption) (.inl (by assumption))) (by decide)) (by decide)), ?_⟩
              exact below_resd hB hbe _ _ _ _
        · have hk0 : 0 < k := Nat.pos_of_ne_zero ck
          have k1 : ((k : Int) == 0) = false := by simp; omega
          have k2 : (0 : Int) < (k : Int) := by omega
          have k5 : (k : Int) - 1 < (ns : Int) := by omega
          have k6 : (0 : Int) ≤ (k : Int) - 1 := by omega
          have k7 : IntKind.i64.wrap ((k : Int) - 1) = (k : Int) - 1 := wrap_back k (by omega) (by omega)
          have k8 : ((k : Int) - 1).toNat = k - 1 := by omega
          have x3 := (hbe.cell (p := ⟨b, off + (k - 1) * 3 + 2, none⟩) hb).trans (HC.out (k - 1) (by omega)).2.2
          have up := slots_up b1 h0.out (k - 1) (by omega)
          have u1 : 0 ≤ tq (k - 1) := by omega
          have u2 : tq (k - 1) ≤ 137438953472 := by omega
          clear up
          have CK : Hid (0 < k) := hk0
          have g3 : Hid (tq (k - 1) + skew < fr k → ¬ ((k = 0 ∧ fr k < 0) ∨ (0 < k ∧ fr k ≤ tq (k - 1) + skew))) := by
            have := CK.out
            rintro g (⟨h, _⟩ | ⟨_, h⟩) <;> omega
          clear ck
          go_wp2
          go_quiet (fail)
          go_wp2
          · refine bodyPost_ret (v := .agg #[.int .i64 10, .int .i64 k]) (by simp [results, Tryd.results9, go_sem, s0, s1, hzr]) rfl ⟨ret_fault (HR.out.slot (HF1.out.is hlt h0.out (slotErr_10 c1 (.inr ⟨CK.out, by assumption⟩)) (by decide)) (by decide)), ?_⟩
            exact below_resd hB hbe _ _ _ _
          · refine bodyPost_ret (v := .agg #[.int .i64 2, .int .i64 k]) (by simp [results, Tryd.results9, go_sem, s0, s1, hzr]) rfl ⟨ret_fault (HR.out.slot (HF1.out.is hlt h0.out (slotErr_2 c1 (g3.out (by assumption)) (by assumption)) (by decide)) (by decide)), ?_⟩
            exact below_resd hB hbe _ _ _ _
          · refine bodyPost_ret (v := .agg #[.int .i64 7, .int .i64 k]) (by simp [results, Tryd.results9, go_sem, s0, s1, hzr]) rfl ⟨ret_fault (HR.out.slot (HF1.out.is hlt h0.out (slotErr_7 c1 (g3.out (by assumption)) (by assumption) (.inr (by simp_all))) (by decide)) (by decide)), ?_⟩
            exact below_resd hB hbe _ _ _ _
          · have hlast : slotErr nd fr tq nodes skew round k = 0 := slotErr_0 c1 (g3.out (by assumption)) (by assumption) (by assumption) (by simp_all)
            go_roundw
            case rel => ((repeat apply Exists.intro); exact ⟨⟨k + 1, by omega, by go_num, next_zero h0.out hlast, below_drewN (hbe.alloc hbe.size _) _⟩, rfl⟩)
            case measure => simp [intOf]; omega
          · refine bodyPost_ret (v := .agg #[.int .i64 7, .int .i64 k]) (by simp [results, Tryd.results9, go_sem, s0, s1, hzr]) rfl ⟨ret_fault (HR.out.slot (HF1.out.is hlt h0.out (slotErr_7 c1 (g3.out (by assumption)) (by assumption) (.inl (by assumption))) (by decide)) (by decide)), ?_⟩
            exact below_resd hB hbe _ _ _ _
    · have hall : Hid (∀ j, j < ns → slotErr nd fr tq nodes skew round j = 0) := fun j hj => h0.out j (by omega)
      have hzz : Hid (e1 = 0 ∧ i1 = 0) := HF1.out.at_end hall.out
      have hB2 : Below w.heap.size w wr := hB.trans (hbe.mono hB.size)
      rename World => wq
      go_wp2_with fail
      go_loopw [170] (fun t wv => ∃ k : Nat, k ≤ nl ∧ t = .int .i64 k ∧ Hid (∀ j, j < k → linkErr lf lt lb lq hit nodes pw j = 0) ∧ Below wq.heap.size wq wv) (fun t _ => nl - (intOf t).toNat)
      case atStart => exact ⟨0, Nat.zero_le _, rfl, fun j hj => absurd hj (Nat.not_lt_zero _), Below.refl _ _⟩
      case round =>
        obtain ⟨m, hm, rfl, g0, hbf⟩ := hrel
        have hzv : w.heap.size + 1 < wr.heap.size := Nat.lt_of_lt_of_le hzr hbf.size
        have hzv0 : w.heap.size < wr.heap.size := by omega
        have t0 := (hbf.cell (p := ⟨w.heap.size, 0, none⟩) (by simp; omega)).trans q0
        have t8 := (hbf.cell (p := ⟨w.heap.size, 8, none⟩) (by simp; omega)).trans q8
        have t9 := (hbf.cell (p := ⟨w.heap.size, 9, none⟩) (by simp; omega)).trans q9
        have v0 := (hbf.cell (p := ⟨w.heap.size + 1, 0, none⟩) hzr).trans s0
        have v1 := (hbf.cell (p := ⟨w.heap.size + 1, 1, none⟩) hzr).trans s1
        have f0 := (hbf.frozen (p := ⟨w.heap.size + 1, 0, none⟩) hzr).trans y0
        have f1 := (hbf.frozen (p := ⟨w.heap.size + 1, 1, none⟩) hzr).trans y1
        clear q0 q2 q5 q6 q7 q8 q9 s0 s1 y0 y1
        by_cases hml : m < nl
        · obtain ⟨b, off, rfl, hb, hc⟩ := hl (by omega)
          obtain ⟨x0, x1, x2, x3⟩ := hc m hml
          clear hc hl
          replace x0 := (hbf.cell (p := ⟨b, off + m * 4, none⟩) hb).trans x0
          replace x1 := (hbf.cell (p := ⟨b, off + m * 4 + 1, none⟩) hb).trans x1
          replace x2 := (hbf.cell (p := ⟨b, off + m * 4 + 2, none⟩) hb).trans x2
          replace x3 := (hbf.cell (p := ⟨b, off + m * 4 + 3, none⟩) hb).trans x3
          by_cases m1 : 0 ≤ lf m
          · by_cases m2 : lf m ≤ nodes - 1
            · have u1 : (2 : Int) ^ nodes.toNat = pw := HPW.out
              have u2 : IntKind.i64.wrap pw = pw := wrap_small pw (by omega) (by omega)
              have u3 : IntKind.i64.wrap (pw - 1) = pw - 1 := wrap_small (pw - 1) (by omega) (by omega)
              cases u4 : inB (lt m) 1 (pw - 1)
              · have w1 : Hid (lt m < 1 ∨ pw - 1 < lt m ∨ hit m = true) := by
                  have := of_decide_eq_false u4
                  show _ ∨ _ ∨ _
                  omega
                go_wp2
                go_quiet ((go_at_call 20; refine Calls.quiet_of_same (in_any _ _ _ _)))
                go_wp2
                refine bodyPost_ret (v := .agg #[.int .i64 1, .int .i64 (1000 + (m : Int))]) (by simp [results, Tryd.results9, go_sem, v0, v1, hzv]) rfl ⟨ret_fault (HR.out.link hzz.out.1 (HF2.out.is hml g0.out (linkErr_1 m1 m2 w1.out) (by decide)) (by decide)), below_resd hB2 hbf _ _ _ _⟩
              · have w0 := of_decide_eq_true u4
                have w2 := HH.out m m1 (by omega)
                have w3 := pow_small15 (lf m).toNat (by omega)
                obtain ⟨pf, hpf⟩ : ∃ pf, (2 : Int) ^ (lf m).toNat = pf := ⟨_, rfl⟩
                rw [hpf] at w2 w3
                have u5 : IntKind.i64.wrap pf = pf := wrap_small pf (by omega) (by omega)
                cases u6 : (bits BinOp.and .i64 (lt m) pf != 0)
                · rw [u6] at w2
                  have w1 : Hid (¬ (lt m < 1 ∨ pw - 1 < lt m ∨ hit m = true)) := by
                    show ¬ _
                    rw [w2]; simp; omega
                  clear w0 w2 w3
                  go_wp2
                  go_quiet ((go_at_call 20; refine Calls.quiet_of_same (in_any _ _ _ _)))
                  go_wp2
                  · refine bodyPost_ret (v := .agg #[.int .i64 2, .int .i64 (1000 + (m : Int))]) (by simp [results, Tryd.results9, go_sem, v0, v1, hzv]) rfl ⟨ret_fault (HR.out.link hzz.out.1 (HF2.out.is hml g0.out (linkErr_2 m1 m2 w1.out (.inr (.inr (by simp_all)))) (by decide)) (by decide)), below_resd hB2 hbf _ _ _ _⟩
                  · have hlast : linkErr lf lt lb lq hit nodes pw m = 0 := linkErr_0 m1 m2 w1.out ⟨by assumption, by assumption⟩ ⟨by assumption, by simp_all⟩
                    go_roundw
                    case rel => ((repeat apply Exists.intro); exact ⟨⟨m + 1, by omega, by go_num, next_zero g0.out hlast, below_drewN (hbf.alloc hbf.size _) _⟩, rfl⟩)
                    case measure => simp [intOf]; omega
                  · refine bodyPost_ret (v := .agg #[.int .i64 2, .int .i64 (1000 + (m : Int))]) (by simp [results, Tryd.results9, go_sem, v0, v1, hzv]) rfl ⟨ret_fault (HR.out.link hzz.out.1 (HF2.out.is hml g0.out (linkErr_2 m1 m2 w1.out (.inr (.inl (by assumption)))) (by decide)) (by decide)), below_resd hB2 hbf _ _ _ _⟩
                  · refine bodyPost_ret (v := .agg #[.int .i64 2, .int .i64 (1000 + (m : Int))]) (by simp [results, Tryd.results9, go_sem, v0, v1, hzv]) rfl ⟨ret_fault (HR.out.link hzz.out.1 (HF2.out.is hml g0.out (linkErr_2 m1 m2 w1.out (.inl (.inr (by assumption)))) (by decide)) (by decide)), below_resd hB2 hbf _ _ _ _⟩
                  · refine bodyPost_ret (v := .agg #[.int .i64 2, .int .i64 (1000 + (m : Int))]) (by simp [results, Tryd.results9, go_sem, v0, v1, hzv]) rfl ⟨ret_fault (HR.out.link hzz.out.1 (HF2.out.is hml g0.out (linkErr_2 m1 m2 w1.out (.inl (.inl (by assumption)))) (by decide)) (by decide)), below_resd hB2 hbf _ _ _ _⟩
                · rw [u6] at w2
                  have w1 : Hid (lt m < 1 ∨ pw - 1 < lt m ∨ hit m = true) := .inr (.inr w2)
                  clear w0 w2 w3
                  go_wp2
                  go_quiet ((go_at_call 20; refine Calls.quiet_of_same (in_any _ _ _ _)))
                  go_wp2
                  refine bodyPost_ret (v := .agg #[.int .i64 1, .int .i64 (1000 + (m : Int))]) (by simp [results, Tryd.results9, go_sem, v0, v1, hzv]) rfl ⟨ret_fault (HR.out.link hzz.out.1 (HF2.out.is hml g0.out (linkErr_1 m1 m2 w1.out) (by decide)) (by decide)), below_resd hB2 hbf _ _ _ _⟩
            · have m3 : decide (lf m ≤ nodes - 1) = false := decide_eq_false m2
              go_wp2
              refine bodyPost_ret (v := .agg #[.int .i64 7, .int .i64 (1000 + (m : Int))]) (by simp [results, Tryd.results9, go_sem, v0, v1, hzv]) rfl ⟨ret_fault (HR.out.link hzz.out.1 (HF2.out.is hml g0.out (linkErr_7 (.inr (by omega))) (by decide)) (by decide)), below_res hB2 hbf _ _ _⟩
          · have m3 : decide (0 ≤ lf m) = false := decide_eq_false m1
            go_wp2
            refine bodyPost_ret (v := .agg #[.int .i64 7, .int .i64 (1000 + (m : Int))]) (by simp [results, Tryd.results9, go_sem, v0, v1, hzv]) rfl ⟨ret_fault (HR.out.link hzz.out.1 (HF2.out.is hml g0.out (linkErr_7 (.inl (by omega))) (by decide)) (by decide)), below_res hB2 hbf _ _ _⟩
        · have gall : Hid (∀ j, j < nl → linkErr lf lt lb lq hit nodes pw j = 0) := fun j hj => g0.out j (by omega)
          have gzz : Hid (e2 = 0 ∧ i2 = 0) := HF2.out.at_end gall.out
          replace hw := hw.below hbf
          replace hfine := hfine.below hbf
          clear hl
          have hB3 : Below w.heap.size w wr := hB2.trans (hbf.mono hB2.size)
          go_wp2_with fail
          refine (windows_any wp wf wt frame e3 i3 wa nw wc wr (by omega) hw HF3.out).mono ?_
          rintro ev ws ⟨rfl, hbg⟩
          have hzs : w.heap.size + 1 < ws.heap.size := Nat.lt_of_lt_of_le hzv hbg.size
          have r0 := (hbg.cell (p := ⟨w.heap.size + 1, 0, none⟩) hzv).trans v0
          have r1 := (hbg.cell (p := ⟨w.heap.size + 1, 1, none⟩) hzv).trans v1
          have z0 := (hbg.frozen (p := ⟨w.heap.size + 1, 0, none⟩) hzv).trans f0
          have z1 := (hbg.frozen (p := ⟨w.heap.size + 1, 1, none⟩) hzv).trans f1
          obtain ⟨_, k0, k1⟩ := hfine.below hbg
          clear t0 t8 t9 v0 v1 f0 f1 hw hfine
          by_cases he : e3 = 0
          · have e3b : (e3 != 0) = false := by simp [he]
            have HE : Hid (e3 = 0) := he
            clear he
            go_wp2
            refine bodyPost_ret (v := .agg #[.int .i64 0, .int .i64 (-1)]) (by simp [results, Tryd.results9, go_sem, r0, r1]) rfl ⟨ret_fault (HR.out.fine hzz.out.1 gzz.out.1 HE.out), ?_⟩
            exact ((hB3.trans (hbg.mono hB3.size)).setCell (p := ⟨w.heap.size + 1, 0, none⟩) (Nat.le_succ _) _).setCell (p := ⟨w.heap.size + 1, 1, none⟩) (Nat.le_succ _) _
          · have e3b : (e3 != 0) = true := by simp [he]
            have HE : Hid (e3 ≠ 0) := he
            clear he
            obtain ⟨j1, j2⟩ := HF3.out.bound
            have j3 : i3 ≤ 32 := by omega
            clear j2
            go_wp2
            refine bodyPost_ret (v := .agg #[.int .i64 e3, .int .i64 (2000 + i3)]) (by simp [results, Tryd.results9, go_sem, r0, r1]) rfl ⟨ret_fault (HR.out.win hzz.out.1 gzz.out.1 HE.out), ?_⟩
            exact ((hB3.trans (hbg.mono hB3.size)).setCell (p := ⟨w.heap.size + 1, 0, none⟩) (Nat.le_succ _) _).setCell (p := ⟨w.heap.size + 1, 1, none⟩) (Nat.le_succ _) _
end Go.Proofs.YtlpojkehbhkdiaaDoor
