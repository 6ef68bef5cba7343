/- GuardApart, walked: nothing passes one of both, or not at one time. (Made by tools/gen_guardapart.py.) -/
import Derived.Test.YtlpojkehbhkdiaaApartWords
import Derived.Deep.QuietTactic
import Derived.BigQuiet
namespace Go.Proofs.Ytlpojkehbhkdiaa
open Go.RowKit

set_option maxRecDepth 100000 in
set_option maxHeartbeats 4000000 in
theorem ga_one (nodes faulty skew jitter drift R frame : Int) (sa la wa : Option Addr) (ns sc nl lc nw wc : Nat) (fa sA na da fb sB nb db : Int) (i k : Int) (x0 x1 y0 y1 : Int) (frm to : Int) (w : World) (hBG : decide (100 < wrap64 (wrap64 ((ns : Int) + (nl : Int)) + (nw : Int))) = false) (hn1 : 1 ≤ nodes) (hn2 : nodes ≤ 16) (hik : pk i nodes ≠ pk k nodes) (hN : ∀ u : World, Below w.heap.size w u → Calls Try.prog 11 #[.agg #[.int .i64 nodes, .int .i64 faulty, .int .i64 skew, .int .i64 jitter, .int .i64 drift, .int .i64 R, .slice sa ns sc, .slice la nl lc, .int .i64 frame, .slice wa nw wc]] u fun ev w' => ev = .returned .nilIface ∧ Below u.heap.size u w') (s0 s1 t0 t1 : Int) (ok2 : Bool) (h1 : ∀ u : World, Below w.heap.size w u → Calls Try.prog 12 #[.agg #[.int .i64 nodes, .int .i64 faulty, .int .i64 skew, .int .i64 jitter, .int .i64 drift, .int .i64 R, .slice sa ns sc, .slice la nl lc, .int .i64 frame, .slice wa nw wc, .int .i64 fa, .int .i64 sA, .int .i64 na, .int .i64 da, .int .i64 (pk i nodes)], .agg #[.int .i64 x0, .int .i64 x1], .int .i64 frm, .int .i64 to] u fun ev w' => ev = .returned (.tuple #[.agg #[.int .i64 s0, .int .i64 s1], .bool false]) ∧ Below u.heap.size u w') (h2 : ∀ u : World, Below w.heap.size w u → Calls Try.prog 12 #[.agg #[.int .i64 nodes, .int .i64 faulty, .int .i64 skew, .int .i64 jitter, .int .i64 drift, .int .i64 R, .slice sa ns sc, .slice la nl lc, .int .i64 frame, .slice wa nw wc, .int .i64 fb, .int .i64 sB, .int .i64 nb, .int .i64 db, .int .i64 (pk k nodes)], .agg #[.int .i64 y0, .int .i64 y1], .int .i64 frm, .int .i64 to] u fun ev w' => ev = .returned (.tuple #[.agg #[.int .i64 t0, .int .i64 t1], .bool ok2]) ∧ Below u.heap.size u w') :
    Calls Try.prog 4 #[.agg #[.int .i64 nodes, .int .i64 faulty, .int .i64 skew, .int .i64 jitter, .int .i64 drift, .int .i64 R, .slice sa ns sc, .slice la nl lc, .int .i64 frame, .slice wa nw wc], .agg #[.int .i64 fa, .int .i64 sA, .int .i64 na, .int .i64 da], .agg #[.int .i64 fb, .int .i64 sB, .int .i64 nb, .int .i64 db], .int .i64 i, .int .i64 k, .agg #[.int .i64 x0, .int .i64 x1], .agg #[.int .i64 y0, .int .i64 y1], .int .i64 frm, .int .i64 to] w fun ev w' => ev = .returned (.bool true) ∧ Below w.heap.size w w' := by
  have H1 : Hid (∀ u : World, Below w.heap.size w u → Calls Try.prog 12 #[.agg #[.int .i64 nodes, .int .i64 faulty, .int .i64 skew, .int .i64 jitter, .int .i64 drift, .int .i64 R, .slice sa ns sc, .slice la nl lc, .int .i64 frame, .slice wa nw wc, .int .i64 fa, .int .i64 sA, .int .i64 na, .int .i64 da, .int .i64 (pk i nodes)], .agg #[.int .i64 x0, .int .i64 x1], .int .i64 frm, .int .i64 to] u fun ev w' => ev = .returned (.tuple #[.agg #[.int .i64 s0, .int .i64 s1], .bool false]) ∧ Below u.heap.size u w') := h1
  have H2 : Hid (∀ u : World, Below w.heap.size w u → Calls Try.prog 12 #[.agg #[.int .i64 nodes, .int .i64 faulty, .int .i64 skew, .int .i64 jitter, .int .i64 drift, .int .i64 R, .slice sa ns sc, .slice la nl lc, .int .i64 frame, .slice wa nw wc, .int .i64 fb, .int .i64 sB, .int .i64 nb, .int .i64 db, .int .i64 (pk k nodes)], .agg #[.int .i64 y0, .int .i64 y1], .int .i64 frm, .int .i64 to] u fun ev w' => ev = .returned (.tuple #[.agg #[.int .i64 t0, .int .i64 t1], .bool ok2]) ∧ Below u.heap.size u w') := h2
  clear h1 h2
  have HNN : Hid (∀ u : World, Below w.heap.size w u → Calls Try.prog 11 #[.agg #[.int .i64 nodes, .int .i64 faulty, .int .i64 skew, .int .i64 jitter, .int .i64 drift, .int .i64 R, .slice sa ns sc, .slice la nl lc, .int .i64 frame, .slice wa nw wc]] u fun ev w' => ev = .returned .nilIface ∧ Below u.heap.size u w') := hN
  clear hN
  obtain ⟨V, hVe⟩ : ∃ V, V = ((((w.alloc (.cells #[.int .i64 nodes, .int .i64 faulty, .int .i64 skew, .int .i64 jitter, .int .i64 drift, .int .i64 R, .slice sa ns sc, .slice la nl lc, .int .i64 frame, .slice wa nw wc] 26)).alloc (.cells #[.int .i64 fa, .int .i64 sA, .int .i64 na, .int .i64 da] 39)).alloc (.cells #[.int .i64 fb, .int .i64 sB, .int .i64 nb, .int .i64 db] 39)).alloc (.cells #[.int .i64 x0, .int .i64 x1] 41)).alloc (.cells #[.int .i64 y0, .int .i64 y1] 41) := ⟨_, rfl⟩
  have hV : Below w.heap.size w V := by rw [hVe]; exact five_new
  have HB : Hid (ABox w.heap.size nodes faulty skew jitter drift R frame sa la wa ns sc nl lc nw wc fa sA na da fb sB nb db x0 x1 y0 y1 V) := by rw [hVe]; exact aBox_new nodes faulty skew jitter drift R frame sa la wa ns sc nl lc nw wc fa sA na da fb sB nb db x0 x1 y0 y1 w
  have hVs : V.heap.size = w.heap.size + 5 := by rw [hVe]; simp
  have hg := guarded_any V
  have hn0 : 0 < nodes := by omega
  have hn9 : nodes ≤ 9223372036854775807 := by omega
  have HPI : Hid (∀ (a : Int) (u : World), Calls Try.prog 8 #[.int .i64 a, .int .i64 nodes] u fun e w' => e = .returned (.int .i64 (pk a nodes)) ∧ w' = u) := fun a u => pick_any a nodes hn0 hn9 u
  clear hn0 hn9
  go_enter Try.func4, Try.ntmps4
  go_wp2_with fail
  rw [← hVe]
  clear hVe
  refine hg.mono ?_
  rintro ev w1 ⟨rfl, hb1⟩
  have hB1 : Below w.heap.size w w1 := hV.trans (hb1.mono hV.size)
  obtain ⟨h0, h1, h2, h3, h4, h5, h6, h7, h8, h9, h10, h11, h12, h13, h14, h15, h16, h17, h18, h19, h20, h21⟩ := HB.out.below hb1 (by omega)
  clear hg
  go_wp2_with fail
  refine (HNN.out _ hB1).mono ?_
  rintro ev w2 ⟨rfl, hb2⟩
  have hVw : Below V.heap.size V w2 := hb1.trans (hb2.mono hb1.size)
  have hB2 : Below w.heap.size w w2 := hB1.trans (hb2.mono hB1.size)
  have hs2 := hVw.size
  clear h0 h1 h2 h3 h4 h5 h6 h7 h8 h9 h10 h11 h12 h13 h14 h15 h16 h17 h18 h19 h20 h21 HNN hB1 hb1 hb2
  obtain ⟨h0, h1, h2, h3, h4, h5, h6, h7, h8, h9, h10, h11, h12, h13, h14, h15, h16, h17, h18, h19, h20, h21⟩ := HB.out.below hVw (by omega)
  go_wp2_with fail
  go_quiet ((go_at_call 8; refine Calls.quiet_of_same (HPI.out _ _)))
  have hik2 : (pk i nodes == pk k nodes) = false := by simpa using hik
  clear hik HPI
  have hq : Below w2.heap.size w2 (w2.drewN nq) := below_drewN (Below.refl _ _) _
  have hBq : Below w.heap.size w (w2.drewN nq) := below_drewN hB2 _
  have hl0 : w.heap.size < w2.heap.size := by omega
  have hl1 : w.heap.size + 1 < w2.heap.size := by omega
  have hl2 : w.heap.size + 1 + 1 < w2.heap.size := by omega
  have hl3 : w.heap.size + 1 + 1 + 1 < w2.heap.size := by omega
  have hl4 : w.heap.size + 1 + 1 + 1 + 1 < w2.heap.size := by omega
  go_wp2_with fail
  refine (H1.out _ hBq).mono ?_
  rintro ev w3 ⟨rfl, hb3⟩
  have hV3 : Below V.heap.size V w3 := hVw.trans ((hq.trans (hb3.mono hq.size)).mono hs2)
  clear h0 h1 h2 h3 h4 h5 h6 h7 h8 h9 h10 h11 h12 h13 h14 h15 h16 h17 h18 h19 h20 h21 hb3 hq hBq
  have hs3 := hV3.size
  obtain ⟨h0, h1, h2, h3, h4, h5, h6, h7, h8, h9, h10, h11, h12, h13, h14, h15, h16, h17, h18, h19, h20, h21⟩ := HB.out.below hV3 (by omega)
  have hB3 : Below w.heap.size w (w3.alloc (.cells #[.int .i64 s0, .int .i64 s1] 41)) := (hV.trans (hV3.mono hV.size)).alloc (by omega) _
  have hm0 : w.heap.size < w3.heap.size := by omega
  have hm1 : w.heap.size + 1 < w3.heap.size := by omega
  have hm2 : w.heap.size + 1 + 1 < w3.heap.size := by omega
  have hm3 : w.heap.size + 1 + 1 + 1 < w3.heap.size := by omega
  have hm4 : w.heap.size + 1 + 1 + 1 + 1 < w3.heap.size := by omega
  go_wp2_with fail
  refine (H2.out _ hB3).mono ?_
  rintro ev w4 ⟨rfl, hb4⟩
  have hA4 : Below w3.heap.size w3 w4 := below_box hb4
  have hV4 : Below V.heap.size V w4 := hV3.trans (hA4.mono hs3)
  have hB4 : Below w.heap.size w w4 := hV.trans (hV4.mono hV.size)
  have hs4 := hV4.size
  have hz4 := hA4.size
  have HS : Hid (Ends w3.heap.size s0 s1 w4) := ends_new.below hb4
  clear h0 h1 h2 h3 h4 h5 h6 h7 h8 h9 h10 h11 h12 h13 h14 h15 h16 h17 h18 h19 h20 h21
  obtain ⟨c0, c1, c2, c3, c4⟩ := HS.out
  go_wp2
  go_ret
  exact ⟨rfl, hB4.alloc (by omega) _⟩

set_option maxRecDepth 100000 in
set_option maxHeartbeats 4000000 in
theorem ga_other (nodes faulty skew jitter drift R frame : Int) (sa la wa : Option Addr) (ns sc nl lc nw wc : Nat) (fa sA na da fb sB nb db : Int) (i k : Int) (x0 x1 y0 y1 : Int) (frm to : Int) (w : World) (hBG : decide (100 < wrap64 (wrap64 ((ns : Int) + (nl : Int)) + (nw : Int))) = false) (hn1 : 1 ≤ nodes) (hn2 : nodes ≤ 16) (hik : pk i nodes ≠ pk k nodes) (hN : ∀ u : World, Below w.heap.size w u → Calls Try.prog 11 #[.agg #[.int .i64 nodes, .int .i64 faulty, .int .i64 skew, .int .i64 jitter, .int .i64 drift, .int .i64 R, .slice sa ns sc, .slice la nl lc, .int .i64 frame, .slice wa nw wc]] u fun ev w' => ev = .returned .nilIface ∧ Below u.heap.size u w') (s0 s1 t0 t1 : Int)  (h1 : ∀ u : World, Below w.heap.size w u → Calls Try.prog 12 #[.agg #[.int .i64 nodes, .int .i64 faulty, .int .i64 skew, .int .i64 jitter, .int .i64 drift, .int .i64 R, .slice sa ns sc, .slice la nl lc, .int .i64 frame, .slice wa nw wc, .int .i64 fa, .int .i64 sA, .int .i64 na, .int .i64 da, .int .i64 (pk i nodes)], .agg #[.int .i64 x0, .int .i64 x1], .int .i64 frm, .int .i64 to] u fun ev w' => ev = .returned (.tuple #[.agg #[.int .i64 s0, .int .i64 s1], .bool true]) ∧ Below u.heap.size u w') (h2 : ∀ u : World, Below w.heap.size w u → Calls Try.prog 12 #[.agg #[.int .i64 nodes, .int .i64 faulty, .int .i64 skew, .int .i64 jitter, .int .i64 drift, .int .i64 R, .slice sa ns sc, .slice la nl lc, .int .i64 frame, .slice wa nw wc, .int .i64 fb, .int .i64 sB, .int .i64 nb, .int .i64 db, .int .i64 (pk k nodes)], .agg #[.int .i64 y0, .int .i64 y1], .int .i64 frm, .int .i64 to] u fun ev w' => ev = .returned (.tuple #[.agg #[.int .i64 t0, .int .i64 t1], .bool false]) ∧ Below u.heap.size u w') :
    Calls Try.prog 4 #[.agg #[.int .i64 nodes, .int .i64 faulty, .int .i64 skew, .int .i64 jitter, .int .i64 drift, .int .i64 R, .slice sa ns sc, .slice la nl lc, .int .i64 frame, .slice wa nw wc], .agg #[.int .i64 fa, .int .i64 sA, .int .i64 na, .int .i64 da], .agg #[.int .i64 fb, .int .i64 sB, .int .i64 nb, .int .i64 db], .int .i64 i, .int .i64 k, .agg #[.int .i64 x0, .int .i64 x1], .agg #[.int .i64 y0, .int .i64 y1], .int .i64 frm, .int .i64 to] w fun ev w' => ev = .returned (.bool true) ∧ Below w.heap.size w w' := by
  have H1 : Hid (∀ u : World, Below w.heap.size w u → Calls Try.prog 12 #[.agg #[.int .i64 nodes, .int .i64 faulty, .int .i64 skew, .int .i64 jitter, .int .i64 drift, .int .i64 R, .slice sa ns sc, .slice la nl lc, .int .i64 frame, .slice wa nw wc, .int .i64 fa, .int .i64 sA, .int .i64 na, .int .i64 da, .int .i64 (pk i nodes)], .agg #[.int .i64 x0, .int .i64 x1], .int .i64 frm, .int .i64 to] u fun ev w' => ev = .returned (.tuple #[.agg #[.int .i64 s0, .int .i64 s1], .bool true]) ∧ Below u.heap.size u w') := h1
  have H2 : Hid (∀ u : World, Below w.heap.size w u → Calls Try.prog 12 #[.agg #[.int .i64 nodes, .int .i64 faulty, .int .i64 skew, .int .i64 jitter, .int .i64 drift, .int .i64 R, .slice sa ns sc, .slice la nl lc, .int .i64 frame, .slice wa nw wc, .int .i64 fb, .int .i64 sB, .int .i64 nb, .int .i64 db, .int .i64 (pk k nodes)], .agg #[.int .i64 y0, .int .i64 y1], .int .i64 frm, .int .i64 to] u fun ev w' => ev = .returned (.tuple #[.agg #[.int .i64 t0, .int .i64 t1], .bool false]) ∧ Below u.heap.size u w') := h2
  clear h1 h2
  have HNN : Hid (∀ u : World, Below w.heap.size w u → Calls Try.prog 11 #[.agg #[.int .i64 nodes, .int .i64 faulty, .int .i64 skew, .int .i64 jitter, .int .i64 drift, .int .i64 R, .slice sa ns sc, .slice la nl lc, .int .i64 frame, .slice wa nw wc]] u fun ev w' => ev = .returned .nilIface ∧ Below u.heap.size u w') := hN
  clear hN
  obtain ⟨V, hVe⟩ : ∃ V, V = ((((w.alloc (.cells #[.int .i64 nodes, .int .i64 faulty, .int .i64 skew, .int .i64 jitter, .int .i64 drift, .int .i64 R, .slice sa ns sc, .slice la nl lc, .int .i64 frame, .slice wa nw wc] 26)).alloc (.cells #[.int .i64 fa, .int .i64 sA, .int .i64 na, .int .i64 da] 39)).alloc (.cells #[.int .i64 fb, .int .i64 sB, .int .i64 nb, .int .i64 db] 39)).alloc (.cells #[.int .i64 x0, .int .i64 x1] 41)).alloc (.cells #[.int .i64 y0, .int .i64 y1] 41) := ⟨_, rfl⟩
  have hV : Below w.heap.size w V := by rw [hVe]; exact five_new
  have HB : Hid (ABox w.heap.size nodes faulty skew jitter drift R frame sa la wa ns sc nl lc nw wc fa sA na da fb sB nb db x0 x1 y0 y1 V) := by rw [hVe]; exact aBox_new nodes faulty skew jitter drift R frame sa la wa ns sc nl lc nw wc fa sA na da fb sB nb db x0 x1 y0 y1 w
  have hVs : V.heap.size = w.heap.size + 5 := by rw [hVe]; simp
  have hg := guarded_any V
  have hn0 : 0 < nodes := by omega
  have hn9 : nodes ≤ 9223372036854775807 := by omega
  have HPI : Hid (∀ (a : Int) (u : World), Calls Try.prog 8 #[.int .i64 a, .int .i64 nodes] u fun e w' => e = .returned (.int .i64 (pk a nodes)) ∧ w' = u) := fun a u => pick_any a nodes hn0 hn9 u
  clear hn0 hn9
  go_enter Try.func4, Try.ntmps4
  go_wp2_with fail
  rw [← hVe]
  clear hVe
  refine hg.mono ?_
  rintro ev w1 ⟨rfl, hb1⟩
  have hB1 : Below w.heap.size w w1 := hV.trans (hb1.mono hV.size)
  obtain ⟨h0, h1, h2, h3, h4, h5, h6, h7, h8, h9, h10, h11, h12, h13, h14, h15, h16, h17, h18, h19, h20, h21⟩ := HB.out.below hb1 (by omega)
  clear hg
  go_wp2_with fail
  refine (HNN.out _ hB1).mono ?_
  rintro ev w2 ⟨rfl, hb2⟩
  have hVw : Below V.heap.size V w2 := hb1.trans (hb2.mono hb1.size)
  have hB2 : Below w.heap.size w w2 := hB1.trans (hb2.mono hB1.size)
  have hs2 := hVw.size
  clear h0 h1 h2 h3 h4 h5 h6 h7 h8 h9 h10 h11 h12 h13 h14 h15 h16 h17 h18 h19 h20 h21 HNN hB1 hb1 hb2
  obtain ⟨h0, h1, h2, h3, h4, h5, h6, h7, h8, h9, h10, h11, h12, h13, h14, h15, h16, h17, h18, h19, h20, h21⟩ := HB.out.below hVw (by omega)
  go_wp2_with fail
  go_quiet ((go_at_call 8; refine Calls.quiet_of_same (HPI.out _ _)))
  have hik2 : (pk i nodes == pk k nodes) = false := by simpa using hik
  clear hik HPI
  have hq : Below w2.heap.size w2 (w2.drewN nq) := below_drewN (Below.refl _ _) _
  have hBq : Below w.heap.size w (w2.drewN nq) := below_drewN hB2 _
  have hl0 : w.heap.size < w2.heap.size := by omega
  have hl1 : w.heap.size + 1 < w2.heap.size := by omega
  have hl2 : w.heap.size + 1 + 1 < w2.heap.size := by omega
  have hl3 : w.heap.size + 1 + 1 + 1 < w2.heap.size := by omega
  have hl4 : w.heap.size + 1 + 1 + 1 + 1 < w2.heap.size := by omega
  go_wp2_with fail
  refine (H1.out _ hBq).mono ?_
  rintro ev w3 ⟨rfl, hb3⟩
  have hV3 : Below V.heap.size V w3 := hVw.trans ((hq.trans (hb3.mono hq.size)).mono hs2)
  clear h0 h1 h2 h3 h4 h5 h6 h7 h8 h9 h10 h11 h12 h13 h14 h15 h16 h17 h18 h19 h20 h21 hb3 hq hBq
  have hs3 := hV3.size
  obtain ⟨h0, h1, h2, h3, h4, h5, h6, h7, h8, h9, h10, h11, h12, h13, h14, h15, h16, h17, h18, h19, h20, h21⟩ := HB.out.below hV3 (by omega)
  have hB3 : Below w.heap.size w (w3.alloc (.cells #[.int .i64 s0, .int .i64 s1] 41)) := (hV.trans (hV3.mono hV.size)).alloc (by omega) _
  have hm0 : w.heap.size < w3.heap.size := by omega
  have hm1 : w.heap.size + 1 < w3.heap.size := by omega
  have hm2 : w.heap.size + 1 + 1 < w3.heap.size := by omega
  have hm3 : w.heap.size + 1 + 1 + 1 < w3.heap.size := by omega
  have hm4 : w.heap.size + 1 + 1 + 1 + 1 < w3.heap.size := by omega
  go_wp2_with fail
  refine (H2.out _ hB3).mono ?_
  rintro ev w4 ⟨rfl, hb4⟩
  have hA4 : Below w3.heap.size w3 w4 := below_box hb4
  have hV4 : Below V.heap.size V w4 := hV3.trans (hA4.mono hs3)
  have hB4 : Below w.heap.size w w4 := hV.trans (hV4.mono hV.size)
  have hs4 := hV4.size
  have hz4 := hA4.size
  have HS : Hid (Ends w3.heap.size s0 s1 w4) := ends_new.below hb4
  clear h0 h1 h2 h3 h4 h5 h6 h7 h8 h9 h10 h11 h12 h13 h14 h15 h16 h17 h18 h19 h20 h21
  obtain ⟨c0, c1, c2, c3, c4⟩ := HS.out
  go_wp2
  go_ret
  exact ⟨rfl, hB4.alloc (by omega) _⟩

set_option maxRecDepth 100000 in
set_option maxHeartbeats 4000000 in
theorem ga_apart (nodes faulty skew jitter drift R frame : Int) (sa la wa : Option Addr) (ns sc nl lc nw wc : Nat) (fa sA na da fb sB nb db : Int) (i k : Int) (x0 x1 y0 y1 : Int) (frm to : Int) (w : World) (hBG : decide (100 < wrap64 (wrap64 ((ns : Int) + (nl : Int)) + (nw : Int))) = false) (hn1 : 1 ≤ nodes) (hn2 : nodes ≤ 16) (hik : pk i nodes ≠ pk k nodes) (hN : ∀ u : World, Below w.heap.size w u → Calls Try.prog 11 #[.agg #[.int .i64 nodes, .int .i64 faulty, .int .i64 skew, .int .i64 jitter, .int .i64 drift, .int .i64 R, .slice sa ns sc, .slice la nl lc, .int .i64 frame, .slice wa nw wc]] u fun ev w' => ev = .returned .nilIface ∧ Below u.heap.size u w') (s0 s1 t0 t1 : Int) (hcm : comB s0 s1 t0 t1 = false) (h1 : ∀ u : World, Below w.heap.size w u → Calls Try.prog 12 #[.agg #[.int .i64 nodes, .int .i64 faulty, .int .i64 skew, .int .i64 jitter, .int .i64 drift, .int .i64 R, .slice sa ns sc, .slice la nl lc, .int .i64 frame, .slice wa nw wc, .int .i64 fa, .int .i64 sA, .int .i64 na, .int .i64 da, .int .i64 (pk i nodes)], .agg #[.int .i64 x0, .int .i64 x1], .int .i64 frm, .int .i64 to] u fun ev w' => ev = .returned (.tuple #[.agg #[.int .i64 s0, .int .i64 s1], .bool true]) ∧ Below u.heap.size u w') (h2 : ∀ u : World, Below w.heap.size w u → Calls Try.prog 12 #[.agg #[.int .i64 nodes, .int .i64 faulty, .int .i64 skew, .int .i64 jitter, .int .i64 drift, .int .i64 R, .slice sa ns sc, .slice la nl lc, .int .i64 frame, .slice wa nw wc, .int .i64 fb, .int .i64 sB, .int .i64 nb, .int .i64 db, .int .i64 (pk k nodes)], .agg #[.int .i64 y0, .int .i64 y1], .int .i64 frm, .int .i64 to] u fun ev w' => ev = .returned (.tuple #[.agg #[.int .i64 t0, .int .i64 t1], .bool true]) ∧ Below u.heap.size u w') :
    Calls Try.prog 4 #[.agg #[.int .i64 nodes, .int .i64 faulty, .int .i64 skew, .int .i64 jitter, .int .i64 drift, .int .i64 R, .slice sa ns sc, .slice la nl lc, .int .i64 frame, .slice wa nw wc], .agg #[.int .i64 fa, .int .i64 sA, .int .i64 na, .int .i64 da], .agg #[.int .i64 fb, .int .i64 sB, .int .i64 nb, .int .i64 db], .int .i64 i, .int .i64 k, .agg #[.int .i64 x0, .int .i64 x1], .agg #[.int .i64 y0, .int .i64 y1], .int .i64 frm, .int .i64 to] w fun ev w' => ev = .returned (.bool true) ∧ Below w.heap.size w w' := by
  have H1 : Hid (∀ u : World, Below w.heap.size w u → Calls Try.prog 12 #[.agg #[.int .i64 nodes, .int .i64 faulty, .int .i64 skew, .int .i64 jitter, .int .i64 drift, .int .i64 R, .slice sa ns sc, .slice la nl lc, .int .i64 frame, .slice wa nw wc, .int .i64 fa, .int .i64 sA, .int .i64 na, .int .i64 da, .int .i64 (pk i nodes)], .agg #[.int .i64 x0, .int .i64 x1], .int .i64 frm, .int .i64 to] u fun ev w' => ev = .returned (.tuple #[.agg #[.int .i64 s0, .int .i64 s1], .bool true]) ∧ Below u.heap.size u w') := h1
  have H2 : Hid (∀ u : World, Below w.heap.size w u → Calls Try.prog 12 #[.agg #[.int .i64 nodes, .int .i64 faulty, .int .i64 skew, .int .i64 jitter, .int .i64 drift, .int .i64 R, .slice sa ns sc, .slice la nl lc, .int .i64 frame, .slice wa nw wc, .int .i64 fb, .int .i64 sB, .int .i64 nb, .int .i64 db, .int .i64 (pk k nodes)], .agg #[.int .i64 y0, .int .i64 y1], .int .i64 frm, .int .i64 to] u fun ev w' => ev = .returned (.tuple #[.agg #[.int .i64 t0, .int .i64 t1], .bool true]) ∧ Below u.heap.size u w') := h2
  clear h1 h2
  have HNN : Hid (∀ u : World, Below w.heap.size w u → Calls Try.prog 11 #[.agg #[.int .i64 nodes, .int .i64 faulty, .int .i64 skew, .int .i64 jitter, .int .i64 drift, .int .i64 R, .slice sa ns sc, .slice la nl lc, .int .i64 frame, .slice wa nw wc]] u fun ev w' => ev = .returned .nilIface ∧ Below u.heap.size u w') := hN
  clear hN
  obtain ⟨V, hVe⟩ : ∃ V, V = ((((w.alloc (.cells #[.int .i64 nodes, .int .i64 faulty, .int .i64 skew, .int .i64 jitter, .int .i64 drift, .int .i64 R, .slice sa ns sc, .slice la nl lc, .int .i64 frame, .slice wa nw wc] 26)).alloc (.cells #[.int .i64 fa, .int .i64 sA, .int .i64 na, .int .i64 da] 39)).alloc (.cells #[.int .i64 fb, .int .i64 sB, .int .i64 nb, .int .i64 db] 39)).alloc (.cells #[.int .i64 x0, .int .i64 x1] 41)).alloc (.cells #[.int .i64 y0, .int .i64 y1] 41) := ⟨_, rfl⟩
  have hV : Below w.heap.size w V := by rw [hVe]; exact five_new
  have HB : Hid (ABox w.heap.size nodes faulty skew jitter drift R frame sa la wa ns sc nl lc nw wc fa sA na da fb sB nb db x0 x1 y0 y1 V) := by rw [hVe]; exact aBox_new nodes faulty skew jitter drift R frame sa la wa ns sc nl lc nw wc fa sA na da fb sB nb db x0 x1 y0 y1 w
  have hVs : V.heap.size = w.heap.size + 5 := by rw [hVe]; simp
  have hg := guarded_any V
  have hn0 : 0 < nodes := by omega
  have hn9 : nodes ≤ 9223372036854775807 := by omega
  have HPI : Hid (∀ (a : Int) (u : World), Calls Try.prog 8 #[.int .i64 a, .int .i64 nodes] u fun e w' => e = .returned (.int .i64 (pk a nodes)) ∧ w' = u) := fun a u => pick_any a nodes hn0 hn9 u
  clear hn0 hn9
  go_enter Try.func4, Try.ntmps4
  go_wp2_with fail
  rw [← hVe]
  clear hVe
  refine hg.mono ?_
  rintro ev w1 ⟨rfl, hb1⟩
  have hB1 : Below w.heap.size w w1 := hV.trans (hb1.mono hV.size)
  obtain ⟨h0, h1, h2, h3, h4, h5, h6, h7, h8, h9, h10, h11, h12, h13, h14, h15, h16, h17, h18, h19, h20, h21⟩ := HB.out.below hb1 (by omega)
  clear hg
  go_wp2_with fail
  refine (HNN.out _ hB1).mono ?_
  rintro ev w2 ⟨rfl, hb2⟩
  have hVw : Below V.heap.size V w2 := hb1.trans (hb2.mono hb1.size)
  have hB2 : Below w.heap.size w w2 := hB1.trans (hb2.mono hB1.size)
  have hs2 := hVw.size
  clear h0 h1 h2 h3 h4 h5 h6 h7 h8 h9 h10 h11 h12 h13 h14 h15 h16 h17 h18 h19 h20 h21 HNN hB1 hb1 hb2
  obtain ⟨h0, h1, h2, h3, h4, h5, h6, h7, h8, h9, h10, h11, h12, h13, h14, h15, h16, h17, h18, h19, h20, h21⟩ := HB.out.below hVw (by omega)
  go_wp2_with fail
  go_quiet ((go_at_call 8; refine Calls.quiet_of_same (HPI.out _ _)))
  have hik2 : (pk i nodes == pk k nodes) = false := by simpa using hik
  clear hik HPI
  have hq : Below w2.heap.size w2 (w2.drewN nq) := below_drewN (Below.refl _ _) _
  have hBq : Below w.heap.size w (w2.drewN nq) := below_drewN hB2 _
  have hl0 : w.heap.size < w2.heap.size := by omega
  have hl1 : w.heap.size + 1 < w2.heap.size := by omega
  have hl2 : w.heap.size + 1 + 1 < w2.heap.size := by omega
  have hl3 : w.heap.size + 1 + 1 + 1 < w2.heap.size := by omega
  have hl4 : w.heap.size + 1 + 1 + 1 + 1 < w2.heap.size := by omega
  go_wp2_with fail
  refine (H1.out _ hBq).mono ?_
  rintro ev w3 ⟨rfl, hb3⟩
  have hV3 : Below V.heap.size V w3 := hVw.trans ((hq.trans (hb3.mono hq.size)).mono hs2)
  clear h0 h1 h2 h3 h4 h5 h6 h7 h8 h9 h10 h11 h12 h13 h14 h15 h16 h17 h18 h19 h20 h21 hb3 hq hBq
  have hs3 := hV3.size
  obtain ⟨h0, h1, h2, h3, h4, h5, h6, h7, h8, h9, h10, h11, h12, h13, h14, h15, h16, h17, h18, h19, h20, h21⟩ := HB.out.below hV3 (by omega)
  have hB3 : Below w.heap.size w (w3.alloc (.cells #[.int .i64 s0, .int .i64 s1] 41)) := (hV.trans (hV3.mono hV.size)).alloc (by omega) _
  have hm0 : w.heap.size < w3.heap.size := by omega
  have hm1 : w.heap.size + 1 < w3.heap.size := by omega
  have hm2 : w.heap.size + 1 + 1 < w3.heap.size := by omega
  have hm3 : w.heap.size + 1 + 1 + 1 < w3.heap.size := by omega
  have hm4 : w.heap.size + 1 + 1 + 1 + 1 < w3.heap.size := by omega
  go_wp2_with fail
  refine (H2.out _ hB3).mono ?_
  rintro ev w4 ⟨rfl, hb4⟩
  have hA4 : Below w3.heap.size w3 w4 := below_box hb4
  have hV4 : Below V.heap.size V w4 := hV3.trans (hA4.mono hs3)
  have hB4 : Below w.heap.size w w4 := hV.trans (hV4.mono hV.size)
  have hs4 := hV4.size
  have hz4 := hA4.size
  have HS : Hid (Ends w3.heap.size s0 s1 w4) := ends_new.below hb4
  clear h0 h1 h2 h3 h4 h5 h6 h7 h8 h9 h10 h11 h12 h13 h14 h15 h16 h17 h18 h19 h20 h21
  obtain ⟨c0, c1, c2, c3, c4⟩ := HS.out
  have hmt := meet_any s0 s1 t0 t1 (w4.alloc (.cells #[.int .i64 t0, .int .i64 t1] 41))
  rw [hcm] at hmt
  go_wp2_with fail
  refine hmt.mono ?_
  rintro ev w5 ⟨rfl, hb5⟩
  have hA5 : Below w4.heap.size w4 w5 := below_box hb5
  go_wp2
  go_ret
  exact ⟨rfl, hB4.trans (hA5.mono hB4.size)⟩

end Go.Proofs.Ytlpojkehbhkdiaa
