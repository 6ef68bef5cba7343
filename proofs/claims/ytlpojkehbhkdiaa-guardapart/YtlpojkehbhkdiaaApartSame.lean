/- GuardApart, walked: the same node twice. (Made by tools/gen_guardapart.py.) -/
import Derived.Test.YtlpojkehbhkdiaaApartWords
import Derived.Deep.QuietTactic
import Derived.BigQuiet
namespace Go.Proofs.Ytlpojkehbhkdiaa
open Go.RowKit

set_option maxRecDepth 100000 in
set_option maxHeartbeats 4000000 in
theorem ga_same (nodes faulty skew jitter drift R frame : Int) (sa la wa : Option Addr) (ns sc nl lc nw wc : Nat) (fa sA na da fb sB nb db : Int) (i k : Int) (x0 x1 y0 y1 : Int) (frm to : Int) (w : World) (hBG : decide (100 < wrap64 (wrap64 ((ns : Int) + (nl : Int)) + (nw : Int))) = false) (hn1 : 1 ≤ nodes) (hn2 : nodes ≤ 16) (hik : pk i nodes = pk k nodes) (hN : ∀ u : World, Below w.heap.size w u → Calls Try.prog 11 #[.agg #[.int .i64 nodes, .int .i64 faulty, .int .i64 skew, .int .i64 jitter, .int .i64 drift, .int .i64 R, .slice sa ns sc, .slice la nl lc, .int .i64 frame, .slice wa nw wc]] u fun ev w' => ev = .returned .nilIface ∧ Below u.heap.size u w') :
    Calls Try.prog 4 #[.agg #[.int .i64 nodes, .int .i64 faulty, .int .i64 skew, .int .i64 jitter, .int .i64 drift, .int .i64 R, .slice sa ns sc, .slice la nl lc, .int .i64 frame, .slice wa nw wc], .agg #[.int .i64 fa, .int .i64 sA, .int .i64 na, .int .i64 da], .agg #[.int .i64 fb, .int .i64 sB, .int .i64 nb, .int .i64 db], .int .i64 i, .int .i64 k, .agg #[.int .i64 x0, .int .i64 x1], .agg #[.int .i64 y0, .int .i64 y1], .int .i64 frm, .int .i64 to] w fun ev w' => ev = .returned (.bool true) ∧ Below w.heap.size w w' := by
  have HNN : Hid (∀ u : World, Below w.heap.size w u → Calls Try.prog 11 #[.agg #[.int .i64 nodes, .int .i64 faulty, .int .i64 skew, .int .i64 jitter, .int .i64 drift, .int .i64 R, .slice sa ns sc, .slice la nl lc, .int .i64 frame, .slice wa nw wc]] u fun ev w' => ev = .returned .nilIface ∧ Below u.heap.size u w') := hN
  clear hN
  obtain ⟨V, hVe⟩ : ∃ V, V = ((((w.alloc (.cells #[.int .i64 nodes, .int .i64 faulty, .int .i64 skew, .int .i64 jitter, .int .i64 drift, .int .i64 R, .slice sa ns sc, .slice la nl lc, .int .i64 frame, .slice wa nw wc] 26)).alloc (.cells #[.int .i64 fa, .int .i64 sA, .int .i64 na, .int .i64 da] 39)).alloc (.cells #[.int .i64 fb, .int .i64 sB, .int .i64 nb, .int .i64 db] 39)).alloc (.cells #[.int .i64 x0, .int .i64 x1] 41)).alloc (.cells #[.int .i64 y0, .int .i64 y1] 41) := ⟨_, rfl⟩
  have hV : Below w.heap.size w V := by rw [hVe]; exact five_new
  have HB : Hid (ABox w.heap.size nodes faulty skew jitter drift R frame sa la wa ns sc nl lc nw wc fa sA na da fb sB nb db x0 x1 y0 y1 V) := by rw [hVe]; exact aBox_new nodes faulty skew jitter drift R frame sa la wa ns sc nl lc nw wc fa sA na da fb sB nb db x0 x1 y0 y1 w
  have hVs : V.heap.size = w.heap.size + 5 := by rw [hVe]; simp
  have hg := guarded_any V
  have hn0 : 0 < nodes := by omega
  have hn9 : nodes ≤ 9223372036854775807 := by omega
  have HPI : Hid (∀ (a : Int) (u : World), Calls Try.prog 8 #[.int .i64 a, .int .i64 nodes] u fun e w' => e = .returned (.int .i64 (pk a nodes)) ∧ w' = u) := fun a u => pick_any a nodes hn0 hn9 u
  clear hn0 hn9
  go_enter Try.func4, Try.ntmps4
  go_wp2_with fail
  rw [← hVe]
  clear hVe
  refine hg.mono ?_
  rintro ev w1 ⟨rfl, hb1⟩
  have hB1 : Below w.heap.size w w1 := hV.trans (hb1.mono hV.size)
  obtain ⟨h0, h1, h2, h3, h4, h5, h6, h7, h8, h9, h10, h11, h12, h13, h14, h15, h16, h17, h18, h19, h20, h21⟩ := HB.out.below hb1 (by omega)
  clear hg
  go_wp2_with fail
  refine (HNN.out _ hB1).mono ?_
  rintro ev w2 ⟨rfl, hb2⟩
  have hVw : Below V.heap.size V w2 := hb1.trans (hb2.mono hb1.size)
  have hB2 : Below w.heap.size w w2 := hB1.trans (hb2.mono hB1.size)
  have hs2 := hVw.size
  clear h0 h1 h2 h3 h4 h5 h6 h7 h8 h9 h10 h11 h12 h13 h14 h15 h16 h17 h18 h19 h20 h21 HNN hB1 hb1 hb2
  obtain ⟨h0, h1, h2, h3, h4, h5, h6, h7, h8, h9, h10, h11, h12, h13, h14, h15, h16, h17, h18, h19, h20, h21⟩ := HB.out.below hVw (by omega)
  go_wp2_with fail
  go_quiet ((go_at_call 8; refine Calls.quiet_of_same (HPI.out _ _)))
  have hik2 : (pk i nodes == pk k nodes) = true := by simpa using hik
  clear hik
  go_wp2
  go_ret
  exact ⟨rfl, below_drewN hB2 _⟩
end Go.Proofs.Ytlpojkehbhkdiaa
