/- The program's checkLinks: which link is wrong first; new memory alone is made. -/
import Derived.Test.YtlpojkehbhkdiaaDoorPlanSlots
import Derived.Test.YtlpojkehbhkdiaaDoorPlanLink
namespace Go.Proofs.YtlpojkehbhkdiaaDoor
open Go.RowKit

set_option maxRecDepth 100000 in
set_option maxHeartbeats 4000000 in
theorem links_any (nodes faulty skew jitter drift round frame : Int) (sa la wa : Option Addr) (ns sc nl lc nw wc : Nat) (w : World)
    (a1 : 1 ≤ nodes) (a2 : nodes ≤ 16) (d2 : nl ≤ 8) (lf lt lb lq : Nat → Int) (hs : Rows4 w la nl lf lt lb lq) (hit : Nat → Bool) (pw : Int) (hpw : (2 : Int) ^ nodes.toNat = pw) (p1 : 2 ≤ pw) (p2 : pw ≤ 65536) (hhit : ∀ j, 0 ≤ lf j → lf j ≤ 15 → hit j = (bits BinOp.and .i64 (lt j) (2 ^ (lf j).toNat) != 0))
    (e i : Int) (hF : FirstBad (linkErr lf lt lb lq hit nodes pw) nl e i) :
    Calls Tryd.prog 18 #[.agg #[.int .i64 nodes, .int .i64 faulty, .int .i64 skew, .int .i64 jitter, .int .i64 drift, .int .i64 round, .slice sa ns sc, .slice la nl lc, .int .i64 frame, .slice wa nw wc]] w fun ev w' => ∃ E, ev = .returned E ∧ AtIs w' E e (1000 + i) ∧ Below w.heap.size w w' := by
  have HF : Hid (FirstBad (linkErr lf lt lb lq hit nodes pw) nl e i) := hF
  have HL : Hid (∀ j (u : World), Calls Tryd.prog 34 #[.agg #[.int .i64 (lf j), .int .i64 (lt j), .int .i64 (lb j), .int .i64 (lq j)], .int .i64 nodes] u fun ev w' => ev = .returned (.int .i64 (linkErr lf lt lb lq hit nodes pw j)) ∧ Below u.heap.size u w') :=
    fun j u => link_any (lf j) (lt j) (lb j) (lq j) nodes pw (hit j) u a1 a2 hpw p1 p2 (hhit j)
  clear hF hhit hpw p1 p2
  obtain ⟨hc, hV⟩ := box10 nodes faulty skew jitter drift round frame sa la wa ns sc nl lc nw wc w 26
  replace hs := hs.below hV
  go_enter Tryd.func18, Tryd.ntmps18
  go_wp2_with fail
  generalize w.alloc (.cells #[.int .i64 nodes, .int .i64 faulty, .int .i64 skew, .int .i64 jitter, .int .i64 drift, .int .i64 round, .slice sa ns sc, .slice la nl lc, .int .i64 frame, .slice wa nw wc] 26) = V at hc hV hs ⊢
  obtain ⟨x0, x1, x2, x3, x4, x5, x6, x7, x8, x9⟩ := hc
  go_loopw [9] (fun t wr => ∃ k : Nat, k ≤ nl ∧ t = .int .i64 k ∧ Hid (∀ j, j < k → linkErr lf lt lb lq hit nodes pw j = 0) ∧ Below V.heap.size V wr) (fun t _ => nl - (intOf t).toNat)
  case atStart => exact ⟨0, Nat.zero_le _, rfl, fun j hj => absurd hj (Nat.not_lt_zero _), Below.refl _ _⟩
  case round =>
    obtain ⟨k, hk, rfl, h0, hbe⟩ := hrel
    have y0 := keep_cell x0 hbe
    clear x0 x1 x2 x3 x4 x5 x6 x7 x8 x9
    by_cases hlt : k < nl
    · obtain ⟨b, off, rfl, hb, hcc⟩ := hs (by omega)
      obtain ⟨r0, r1, r2, r3⟩ := hcc k hlt
      replace r0 := keep_cell r0 hbe
      replace r1 := keep_cell r1 hbe
      replace r2 := keep_cell r2 hbe
      replace r3 := keep_cell r3 hbe
      clear hcc hs
      have hwr : w.heap.size < wr.heap.size := lt_of_cell y0
      have hbr : b < wr.heap.size := lt_of_cell r0
      go_wp2_with fail
      refine (HL.out k _).mono ?_
      rintro ev w2 ⟨rfl, hb2⟩
      have hbt : Below V.heap.size V w2 := stepA hbe hb2
      clear y0 r0 r1 r2 r3
      obtain ⟨le, hle⟩ : ∃ le, linkErr lf lt lb lq hit nodes pw k = le := ⟨_, rfl⟩
      rw [hle]
      have HLE : Hid (linkErr lf lt lb lq hit nodes pw k = le) := hle
      clear hle
      go_wp2_with fail
      by_cases hz : le = 0
      · subst hz
        refine (at_none _ _).mono ?_
        rintro ev w3 ⟨rfl, hb3⟩
        have hbu := stepB hbt hb3
        go_wp2
        go_roundw
        case rel => exact ⟨k + 1, by omega, by go_num, next_zero h0.out HLE.out, hbu⟩
        case measure => simp [intOf]; omega
      · have HZ : Hid (le ≠ 0) := hz
        clear hz
        refine (at_some le (1000 + k) HZ.out _).mono ?_
        rintro ev w3 ⟨b3, rfl, q0, q1, hb3⟩
        go_wp2
        go_ret
        obtain ⟨rfl, rfl⟩ := HF.out.is hlt h0.out HLE.out HZ.out
        exact ⟨_, rfl, .inr ⟨b3, rfl, HZ.out, q0, q1⟩, hV.trans ((stepB hbt hb3).mono hV.size)⟩
    · go_wp2
      go_ret
      obtain ⟨rfl, rfl⟩ := HF.out.at_end (fun j hj => h0.out j (by omega))
      exact ⟨_, rfl, .inl ⟨rfl, rfl⟩, hV.trans (hbe.mono hV.size)⟩
end Go.Proofs.YtlpojkehbhkdiaaDoor
