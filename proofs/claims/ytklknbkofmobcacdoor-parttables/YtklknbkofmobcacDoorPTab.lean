/- The program's table of windows: where it lies, and its words New and At (9.1). New memory alone is made. -/
import Derived.Test.YtklknbkofmobcacDoorPTabB
namespace Go.Proofs.YtklknbkofmobcacDoor
open Go.RowKit

/-- The program's table: its blocks O, its struct at P. -/
def Tab (w : World) (O : List Nat) (P : Nat) (frame : Int) (n : Nat) (pt fr to : Nat → Int) : Prop :=
  ∃ a cap, w.cell? ⟨P, 0, none⟩ = some (.int .i64 frame) ∧ w.cell? ⟨P, 1, none⟩ = some (.slice a n cap) ∧ Rows3 w a n pt fr to ∧ P < w.heap.size ∧ (∀ b off, 0 < n → a = some ⟨b, off, none⟩ → b ∈ O) ∧ P ∈ O ∧ ∀ c, c ∈ O → c < w.heap.size
theorem Tab.lt {w : World} {O : List Nat} {P : Nat} {frame : Int} {n : Nat} {pt fr to : Nat → Int} (h : Tab w O P frame n pt fr to) : ∀ c, c ∈ O → c < w.heap.size := by
  obtain ⟨_, _, _, _, _, _, _, _, h⟩ := h
  exact h
theorem Tab.keep {w' : World} {w : World} {O : List Nat} {P : Nat} {frame : Int} {n : Nat} {pt fr to : Nat → Int} (h : Tab w O P frame n pt fr to) (k : Same O w w') : Tab w' O P frame n pt fr to := by
  obtain ⟨a, cap, h0, h1, h2, h3, h4, h5, h6⟩ := h
  refine ⟨a, cap, (k.cell (p := ⟨P, 0, none⟩) h5).trans h0, (k.cell (p := ⟨P, 1, none⟩) h5).trans h1, fun hn => ?_, Nat.lt_of_lt_of_le h3 k.1, h4, h5, fun c hc => Nat.lt_of_lt_of_le (h6 c hc) k.1⟩
  obtain ⟨b, off, e, hb, hc⟩ := h2 hn
  have hbO := h4 b off hn e
  exact ⟨b, off, e, Nat.lt_of_lt_of_le hb k.1, fun j hj => ⟨(k.cell (p := ⟨b, off + j * 3, none⟩) hbO).trans (hc j hj).1, (k.cell (p := ⟨b, off + j * 3 + 1, none⟩) hbO).trans (hc j hj).2.1, (k.cell (p := ⟨b, off + j * 3 + 2, none⟩) hbO).trans (hc j hj).2.2⟩⟩


set_option maxRecDepth 100000 in
set_option maxHeartbeats 1000000 in
theorem new_frame (frame : Int) (v : Value) (w : World) (hf : ¬ (1 ≤ frame ∧ frame ≤ 1099511627776)) :
    Calls Tryd.prog 4 #[.int .i64 frame, v] w fun ev w' => ev = .returned (.tuple #[.pointer none, errV 2]) ∧ Below w.heap.size w w' := by
  by_cases k1 : frame < 1
  · clear hf
    go_enter Tryd.func4, Tryd.ntmps4
    go_wp2
    go_ret2
    exact ⟨rfl, Below.refl _ _⟩
  · have k1' : decide (frame < 1) = false := decide_eq_false k1
    have k2 : 1099511627776 < frame := by omega
    clear hf k1
    go_enter Tryd.func4, Tryd.ntmps4
    go_wp2
    go_ret2
    exact ⟨rfl, Below.refl _ _⟩
set_option maxRecDepth 100000 in
set_option maxHeartbeats 1000000 in
theorem new_limit (frame : Int) (a : Option Addr) (n cap : Nat) (w : World) (hf : 1 ≤ frame ∧ frame ≤ 1099511627776) (hn : 32 < n) (hm : n ≤ 1000) :
    Calls Tryd.prog 4 #[.int .i64 frame, .slice a n cap] w fun ev w' => ev = .returned (.tuple #[.pointer none, errV 4]) ∧ Below w.heap.size w w' := by
  have k1 : decide (frame < 1) = false := decide_eq_false (by omega)
  have k2 : decide (1099511627776 < frame) = false := decide_eq_false (by omega)
  have k3 : (32 : Int) < (n : Int) := by omega
  clear hf hn
  go_enter Tryd.func4, Tryd.ntmps4
  go_wp2
  go_ret2
  exact ⟨rfl, Below.refl _ _⟩

set_option maxRecDepth 100000 in
set_option maxHeartbeats 2000000 in
theorem new_wins (pt fr to : Nat → Int) (frame e i : Int) (a : Option Addr) (n cap : Nat) (w : World) (hn : n ≤ 32) (hr : Rows3 w a n pt fr to) (hf : 1 ≤ frame ∧ frame ≤ 1099511627776) (hF : FirstBad (winErr pt fr to frame) n e i) :
    Calls Tryd.prog 4 #[.int .i64 frame, .slice a n cap] w fun ev w' => Below w.heap.size w w' ∧ ((e ≠ 0 ∧ ∃ b, ev = .returned (.tuple #[.pointer none, .iface 46 (.pointer (some ⟨b, 0, none⟩))]) ∧ w'.cell? ⟨b, 0, none⟩ = some (.int .i64 e) ∧ w'.cell? ⟨b, 1, none⟩ = some (.int .i64 i)) ∨ (e = 0 ∧ ∃ O P, ev = .returned (.tuple #[.pointer (some ⟨P, 0, none⟩), .nilIface]) ∧ Tab w' O P frame n pt fr to)) := by
  have k1 : decide (frame < 1) = false := decide_eq_false (by omega)
  have k2 : decide (1099511627776 < frame) = false := decide_eq_false (by omega)
  have k3 : decide ((32 : Int) < (n : Int)) = false := decide_eq_false (by omega)
  have HF : Hid (FirstBad (winErr pt fr to frame) n e i) := hF
  have HR : Hid (Rows3 w a n pt fr to) := hr
  clear hF hr
  go_enter Tryd.func4, Tryd.ntmps4
  go_wp2_with fail
  go_loopw [6, 23] (fun lv t wr => ∃ k : Nat, k ≤ n ∧ t = .int .i64 k ∧ lv = .int .i64 (leastP to k) ∧ Hid (∀ j, j < k → winErr pt fr to frame j = 0) ∧ Hid (Below w.heap.size w wr)) (fun _ t _ => n - (intOf t).toNat)
  case atStart => exact ⟨0, Nat.zero_le _, rfl, rfl, fun j hj => absurd hj (Nat.not_lt_zero _), Below.refl _ _⟩
  case round =>
    obtain ⟨k, hk, rfl, rfl, h0, hbe⟩ := hrel
    by_cases hlt : k < n
    · obtain ⟨b, off, rfl, hb, hc⟩ := HR.out (by omega)
      obtain ⟨x0, x1, x2⟩ := hc k hlt
      have y0 := (hbe.out.cell (p := ⟨b, off + k * 3, none⟩) hb).trans x0
      have y1 := (hbe.out.cell (p := ⟨b, off + k * 3 + 1, none⟩) hb).trans x1
      have y2 := (hbe.out.cell (p := ⟨b, off + k * 3 + 2, none⟩) hb).trans x2
      clear x0 x1 x2 hc
      have hz : b < wr.heap.size := Nat.lt_of_lt_of_le hb hbe.out.size
      have kk : (k : Int) < (n : Int) := by omega
      have hch := fun u => chkWin_any (pt k) (fr k) (to k) (leastP to k) frame u
      have HE : Hid (winErr pt fr to frame k = chkErr (pt k) (fr k) (to k) (leastP to k) frame) := winErr_chk pt fr to frame k
      obtain ⟨se, hse⟩ : ∃ se, chkErr (pt k) (fr k) (to k) (leastP to k) frame = se := ⟨_, rfl⟩
      rw [hse] at hch HE
      have HL : Hid (leastP to (k + 1) = to k) := by
        show _ = _
        unfold leastP; rw [if_neg (by omega), Nat.add_sub_cancel]
      have HLT : Hid (k < n) := hlt
      clear hse
      generalize pt k = P at *
      generalize fr k = F at *
      generalize to k = T at *
      generalize leastP to k = LK at *
      go_wp2_with fail
      refine (hch _).mono ?_
      rintro ev w2 ⟨rfl, hb2⟩
      have s2 := keep_cell (show (wr.alloc (.cells #[.int .i64 P, .int .i64 F, .int .i64 T] 37)).cell? ⟨wr.heap.size, 2, none⟩ = some (.int .i64 T) from by simp) hb2
      have HB2 : Hid (Below w.heap.size w w2) := (hbe.out.alloc hbe.out.size _).trans (hb2.mono (by have := hbe.out.size; simp; omega))
      have hs2 := HB2.out.size
      clear hch hb2 y0 y1 y2
      by_cases hz0 : se = 0
      rotate_left
      · have k4 : (se != 0) = true := by simpa using hz0
        have HZ : Hid (se ≠ 0) := hz0
        clear hz0
        go_wp2
        go_ret2
        obtain ⟨rfl, rfl⟩ := HF.out.is HLT.out h0.out HE.out HZ.out
        exact ⟨HB2.out.alloc hs2 _, .inl ⟨HZ.out, _, rfl, by simp, by simp⟩⟩
      · subst hz0
        go_wp2
        go_roundw
        case rel => exact ⟨k + 1, by omega, by go_num, by rw [HL.out], next_zero h0.out HE.out, HB2⟩
        case measure => simp [intOf]; omega
    · have hkn : k = n := by omega
      have HZ : Hid (e = 0 ∧ i = 0) := HF.out.at_end (fun j hj => h0.out j (by omega))
      have hcl := cloneW pt fr to a n cap wr (by omega) (HR.out.below hbe.out)
      have kk : decide (k < n) = false := decide_eq_false (by omega)
      clear hkn hlt
      go_wp2_with fail
      refine hcl.mono ?_
      rintro ev w2 ⟨a2, cap2, rfl, hr2, ha2, hb2⟩
      have HB2 : Hid (Below w.heap.size w w2) := hbe.out.trans (hb2.mono hbe.out.size)
      have hs2 := HB2.out.size
      have HB3 : Hid (Below w.heap.size w (w2.alloc (.cells #[.int .i64 frame, .slice a2 n cap2] 50))) := HB2.out.alloc hs2 _
      have HT : Hid (∃ O, Tab (w2.alloc (.cells #[.int .i64 frame, .slice a2 n cap2] 50)) O w2.heap.size frame n pt fr to) := by
        have hBe : Below w2.heap.size w2 (w2.alloc (.cells #[.int .i64 frame, .slice a2 n cap2] 50)) := (Below.refl _ _).alloc (Nat.le_refl _) _
        have hR3 := hr2.below hBe
        by_cases h0 : 0 < n
        · obtain ⟨b, off, ea, hb, _⟩ := hr2 h0
          exact ⟨[w2.heap.size, b], a2, cap2, by simp, by simp, hR3, by simp, (fun b' off' _ e => by rw [ea] at e; cases e; simp), by simp, fun c hc => by
            have : c = w2.heap.size ∨ c = b := by simpa using hc
            have e2 : (w2.alloc (.cells #[.int .i64 frame, .slice a2 n cap2] 50)).heap.size = w2.heap.size + 1 := by simp
            rw [e2]
            omega⟩
        · exact ⟨[w2.heap.size], a2, cap2, by simp, by simp, hR3, by simp, fun _ _ q => absurd q h0, by simp, fun c hc => by
            have : c = w2.heap.size := by simpa using hc
            subst this
            simp⟩
      clear hcl hr2 ha2 hb2
      go_wp2
      go_ret2
      obtain ⟨O, hT⟩ := HT.out
      exact ⟨HB3.out, .inr ⟨HZ.out.1, O, _, rfl, hT⟩⟩

theorem tabNew_bad (pt fr to : Nat → Int) (frame e i : Int) (a : Option Addr) (n cap : Nat) (w : World) (hn : n ≤ 1000) (hr : Rows3 w a n pt fr to) (_ : NewOk w) (hF : FirstBad (winErr pt fr to frame) n e i) (hK : winK frame n e ≠ 0) :
    Calls Tryd.prog 4 #[.int .i64 frame, .slice a n cap] w fun ev w' => ∃ E, ev = .returned (.tuple #[.pointer none, E]) ∧ ErrIs w' E (winK frame n e) (winP frame n e i) ∧ Below w.heap.size w w' := by
  by_cases h1 : 1 ≤ frame ∧ frame ≤ 1099511627776
  · by_cases h2 : 32 < n
    · rw [show winK frame n e = 4 by unfold winK; rw [if_neg (by omega), if_pos h2], show winP frame n e i = -1 by unfold winP; rw [if_neg (by omega), if_pos h2]]
      refine (new_limit frame a n cap w h1 h2 hn).mono ?_
      rintro ev w' ⟨rfl, hb⟩
      exact ⟨_, rfl, .inr (.inl ⟨rfl, by decide, rfl⟩), hb⟩
    · have eK : winK frame n e = e := by unfold winK; rw [if_neg (by omega), if_neg h2]
      rw [eK] at hK
      rw [eK, show winP frame n e i = i by unfold winP; rw [if_neg (by omega), if_neg h2, if_neg hK]]
      refine (new_wins pt fr to frame e i a n cap w (by omega) hr h1 hF).mono ?_
      rintro ev w' ⟨hb, h | h⟩
      · obtain ⟨h3, b, rfl, q0, q1⟩ := h
        exact ⟨_, rfl, .inr (.inr ⟨b, rfl, h3, q0, q1⟩), hb⟩
      · exact absurd h.1 hK
  · rw [show winK frame n e = 2 by unfold winK; rw [if_pos h1], show winP frame n e i = -1 by unfold winP; rw [if_pos h1]]
    refine (new_frame frame _ w h1).mono ?_
    rintro ev w' ⟨rfl, hb⟩
    exact ⟨_, rfl, .inr (.inl ⟨rfl, by decide, rfl⟩), hb⟩

theorem tabNew_good (pt fr to : Nat → Int) (frame : Int) (a : Option Addr) (n cap : Nat) (w : World) (hn : n ≤ 32) (hr : Rows3 w a n pt fr to) (_ : NewOk w) (hf : 1 ≤ frame ∧ frame ≤ 1099511627776) (hw : WinsOk pt fr to frame n) :
    Calls Tryd.prog 4 #[.int .i64 frame, .slice a n cap] w fun ev w' => ∃ O P, ev = .returned (.tuple #[.pointer (some ⟨P, 0, none⟩), .nilIface]) ∧ Tab w' O P frame n pt fr to ∧ Below w.heap.size w w' := by
  obtain ⟨e, i, hF⟩ := FirstBad.any (winErr pt fr to frame) n
  obtain ⟨rfl, rfl⟩ := hF.at_end hw
  refine (new_wins pt fr to frame 0 0 a n cap w hn hr hf hF).mono ?_
  rintro ev w' ⟨hb, h | h⟩
  · exact absurd rfl h.1
  · obtain ⟨_, O, P, rfl, hT⟩ := h
    exact ⟨O, P, rfl, hT, hb⟩

set_option maxRecDepth 100000 in
set_option maxHeartbeats 1000000 in
theorem tabAt_bad {w : World} {O : List Nat} {P : Nat} {frame : Int} {n : Nat} {pt fr to : Nat → Int} (_ : Tab w O P frame n pt fr to) (now : Int) (hn : ¬ (0 ≤ now ∧ now ≤ 1099511627776)) :
    Calls Tryd.prog 8 #[.pointer (some ⟨P, 0, none⟩), .int .i64 now] w fun ev w' => ev = .returned (.tuple #[.int .i64 0, .int .i64 0, errV 2]) ∧ Below w.heap.size w w' := by
  by_cases k1 : now < 0
  · clear hn
    go_enter Tryd.func8, Tryd.ntmps8
    go_wp2
    exact bodyPost_ret (v := .tuple #[.int .i64 0, .int .i64 0, errV 2]) (by simp [results, Tryd.results8, go_sem]; rfl) rfl ⟨rfl, Below.refl _ _⟩
  · have k1' : decide (now < 0) = false := decide_eq_false k1
    have k2 : 1099511627776 < now := by omega
    clear hn k1
    go_enter Tryd.func8, Tryd.ntmps8
    go_wp2
    exact bodyPost_ret (v := .tuple #[.int .i64 0, .int .i64 0, errV 2]) (by simp [results, Tryd.results8, go_sem]; rfl) rfl ⟨rfl, Below.refl _ _⟩

/-- The first window that is not over is the one that runs, or the next one. -/
theorem FirstTo.runs {pt fr to : Nat → Int} {frame x i : Int} {n : Nat} (h : FirstTo to n x i) (hw : WinsOk pt fr to frame n) (hn : 0 < n) (_ : 0 ≤ x) (_ : x < frame) :
    (i = -1 ∧ RunsAt pt fr to frame n x (-1) (frame - x + fr 0)) ∨ ∃ k : Nat, k < n ∧ i = k ∧ x < to k ∧ (fr k ≤ x → RunsAt pt fr to frame n x (pt k) (to k - x)) ∧ (x < fr k → RunsAt pt fr to frame n x (-1) (fr k - x)) := by
  rcases h with ⟨rfl, h⟩ | ⟨k, hk, rfl, h1, h2⟩
  · refine .inl ⟨rfl, .inr ⟨fun j hj => ?_, rfl, .inr ⟨⟨0, hn, ?_⟩, fun j hj => ?_⟩⟩⟩
    · have := h j hj; omega
    · have := h 0 hn
      have := hw.up 0 hn
      unfold distW
      rw [if_pos (by omega)]
      omega
    · have := h j hj
      have := hw.up j hj
      unfold distW
      rw [if_pos (by omega)]
      rcases Nat.eq_zero_or_pos j with rfl | q
      · omega
      · have := hw.apart q hj
        have := hw.up 0 hn
        omega
  · refine .inr ⟨k, hk, rfl, h1, fun h3 => .inl ⟨k, hk, h3, h1, rfl, rfl⟩, fun h3 => .inr ⟨fun j hj => ?_, rfl, .inr ⟨⟨k, hk, ?_⟩, fun j hj => ?_⟩⟩⟩
    · rcases Nat.lt_or_ge j k with q | q
      · have := h2 j q; omega
      · rcases Nat.eq_or_lt_of_le q with rfl | q
        · omega
        · have := hw.apart q hj
          have := hw.up k hk
          omega
    · unfold distW
      rw [if_neg (by omega)]
    · have := hw.up j hj
      have := hw.up k hk
      unfold distW
      rcases Nat.lt_or_ge j k with q | q
      · have := h2 j q
        rw [if_pos (by omega)]
        omega
      · rcases Nat.eq_or_lt_of_le q with rfl | q
        · rw [if_neg (by omega)]; omega
        · have := hw.apart q hj
          rw [if_neg (by omega)]; omega

set_option maxRecDepth 100000 in
set_option maxHeartbeats 2000000 in
theorem tabAt_good {w : World} {O : List Nat} {P : Nat} {frame : Int} {n : Nat} {pt fr to : Nat → Int} (h : Tab w O P frame n pt fr to) (now : Int) (hn : 0 ≤ now ∧ now ≤ 1099511627776) (hf : 1 ≤ frame ∧ frame ≤ 1099511627776) (hw : WinsOk pt fr to frame n) (hn1 : n ≤ 1000) :
    Calls Tryd.prog 8 #[.pointer (some ⟨P, 0, none⟩), .int .i64 now] w fun ev w' => ∃ p l, ev = .returned (.tuple #[.int .i64 p, .int .i64 l, .nilIface]) ∧ RunsAt pt fr to frame n (now % frame) p l ∧ Below w.heap.size w w' := by
  obtain ⟨a, cap, c0, c1, hr, lp, _, _, _⟩ := h
  have k1 : decide (now < 0) = false := decide_eq_false (by omega)
  have k2 : decide (1099511627776 < now) = false := decide_eq_false (by omega)
  have hf0 : (frame == 0) = false := by simp; omega
  have hf1 : (frame == -1) = false := by simp; omega
  obtain ⟨x, hx⟩ : ∃ x, Int.tmod now frame = x := ⟨_, rfl⟩
  have hxe : now % frame = x := by rw [← hx, Int.tmod_eq_emod_of_nonneg hn.1]
  have hx0 : 0 ≤ x := by rw [← hxe]; exact Int.emod_nonneg _ (by omega)
  have hx1 : x < frame := by rw [← hxe]; exact Int.emod_lt_of_pos _ (by omega)
  rw [hxe]
  clear hxe
  have HR : Hid (Rows3 w a n pt fr to) := hr
  have HW : Hid (WinsOk pt fr to frame n) := hw
  clear hr hw
  rcases Nat.eq_zero_or_pos n with h0 | h0
  · subst h0
    have HRun : Hid (RunsAt pt fr to frame 0 x (-1) (-1)) := .inr ⟨fun j hj => absurd hj (Nat.not_lt_zero _), rfl, .inl ⟨rfl, rfl⟩⟩
    go_enter Tryd.func8, Tryd.ntmps8
    go_wp2
    exact bodyPost_ret (v := .tuple #[.int .i64 (-1), .int .i64 (-1), .nilIface]) (by simp [results, Tryd.results8, go_sem]) rfl ⟨_, _, rfl, HRun.out, Below.refl _ _⟩
  · have k3 : ((n : Int) == 0) = false := by simp; omega
    go_enter Tryd.func8, Tryd.ntmps8
    go_wp2_with fail
    obtain ⟨V, hV⟩ : ∃ V, w.alloc (.cells #[.int .i64 x] 3) = V := ⟨_, rfl⟩
    have hBV : Below w.heap.size w V := by rw [← hV]; exact (Below.refl _ _).alloc (Nat.le_refl _) _
    have hXV : V.cell? ⟨w.heap.size, 0, none⟩ = some (.int .i64 x) := by rw [← hV]; simp
    rw [hV]
    refine (findW pt fr to x w.heap.size a n cap V (by omega) (HR.out.below hBV) hXV).mono ?_
    rintro ev W ⟨i, rfl, hFT, hW⟩
    have HB : Hid (Below w.heap.size w W) := hBV.trans (hW.mono hBV.size)
    have wx : W.cell? ⟨w.heap.size, 0, none⟩ = some (.int .i64 x) := keep_cell hXV hW
    have w0 := (HB.out.cell (p := ⟨P, 0, none⟩) lp).trans c0
    have w1 := (HB.out.cell (p := ⟨P, 1, none⟩) lp).trans c1
    have lx := lt_of_cell wx
    have lP := lt_of_cell w0
    obtain ⟨b, off, rfl, hb, hc⟩ := HR.out h0
    have hbW : b < W.heap.size := Nat.lt_of_lt_of_le hb HB.out.size
    have HC : Hid (∀ j, j < n → W.cell? ⟨b, off + j * 3, none⟩ = some (.int .i64 (pt j)) ∧ W.cell? ⟨b, off + j * 3 + 1, none⟩ = some (.int .i64 (fr j)) ∧ W.cell? ⟨b, off + j * 3 + 2, none⟩ = some (.int .i64 (to j))) := fun j hj => ⟨(HB.out.cell (p := ⟨b, off + j * 3, none⟩) hb).trans (hc j hj).1, (HB.out.cell (p := ⟨b, off + j * 3 + 1, none⟩) hb).trans (hc j hj).2.1, (HB.out.cell (p := ⟨b, off + j * 3 + 2, none⟩) hb).trans (hc j hj).2.2⟩
    have HD : Hid (∀ q, Below w.heap.size w (W.drewN q)) := fun q => ⟨HB.out.os, HB.out.tape, HB.out.output, HB.out.size, HB.out.block⟩
    have HD2 : Hid (∀ q v, Below w.heap.size w ((W.alloc v).drewN q)) := fun q v => ⟨HB.out.os, HB.out.tape, HB.out.output, (HB.out.alloc HB.out.size v).size, (HB.out.alloc HB.out.size v).block⟩
    rcases hFT.runs HW.out h0 hx0 hx1 with ⟨rfl, hrun⟩ | ⟨k, hk, rfl, hxt, hrun1, hrun2⟩
    · have HRun : Hid (RunsAt pt fr to frame n x (-1) (frame - x + fr 0)) := hrun
      have hup := HW.out.up 0 h0
      obtain ⟨y0, y1, y2⟩ := HC.out 0 h0
      rw [Nat.zero_mul] at y0 y1 y2
      clear hc hrun hFT hXV hBV hW c0 c1 hV hx
      generalize fr 0 = F at *
      generalize pt 0 = P0 at *
      generalize to 0 = T at *
      go_wp2_with fail
      go_quiet (fail)
      go_wp2
      exact bodyPost_ret (v := .tuple #[.int .i64 (-1), .int .i64 (frame - x + F), .nilIface]) (by simp [results, Tryd.results8, go_sem]) rfl ⟨_, _, rfl, HRun.out, HD.out _⟩
    · have HRun1 : Hid (fr k ≤ x → RunsAt pt fr to frame n x (pt k) (to k - x)) := hrun1
      have HRun2 : Hid (x < fr k → RunsAt pt fr to frame n x (-1) (fr k - x)) := hrun2
      have hup := HW.out.up k hk
      obtain ⟨y0, y1, y2⟩ := HC.out k hk
      have k4 : decide ((k : Int) < 0) = false := decide_eq_false (by omega)
      have k5 : (k : Int) < (n : Int) := by omega
      clear hc hrun1 hrun2 hFT hXV hBV hW c0 c1 hV hx
      generalize fr k = F at *
      generalize pt k = P0 at *
      generalize to k = T at *
      by_cases hlt : x < F
      · have HR2 : Hid (RunsAt pt fr to frame n x (-1) (F - x)) := HRun2.out hlt
        go_wp2_with fail
        go_quiet (fail)
        go_wp2
        exact bodyPost_ret (v := .tuple #[.int .i64 (-1), .int .i64 (F - x), .nilIface]) (by simp [results, Tryd.results8, go_sem]) rfl ⟨_, _, rfl, HR2.out, HD2.out _ _⟩
      · have HR2 : Hid (RunsAt pt fr to frame n x P0 (T - x)) := HRun1.out (by omega)
        have k6 : decide (x < F) = false := decide_eq_false hlt
        go_wp2_with fail
        go_quiet (fail)
        go_wp2
        exact bodyPost_ret (v := .tuple #[.int .i64 P0, .int .i64 (T - x), .nilIface]) (by simp [results, Tryd.results8, go_sem]) rfl ⟨_, _, rfl, HR2.out, HD2.out _ _⟩
end Go.Proofs.YtklknbkofmobcacDoor
