/- GuardApart, walked: both pass at one time: clocks are asked at both ends. (Made by tools/gen_guardapart.py.) -/
import Derived.Test.YtlpojkehbhkdiaaApartWords
import Derived.Deep.QuietTactic
import Derived.BigQuiet
namespace Go.Proofs.Ytlpojkehbhkdiaa
open Go.RowKit

set_option maxRecDepth 100000 in
set_option maxHeartbeats 4000000 in
theorem ga_both (nodes faulty skew jitter drift R frame : Int) (sa la wa : Option Addr) (ns sc nl lc nw wc : Nat) (fa sA na da fb sB nb db : Int) (i k : Int) (x0 x1 y0 y1 : Int) (frm to : Int) (w : World) (hBG : decide (100 < wrap64 (wrap64 ((ns : Int) + (nl : Int)) + (nw : Int))) = false) (hn1 : 1 ≤ nodes) (hn2 : nodes ≤ 16) (hik : pk i nodes ≠ pk k nodes) (hN : ∀ u : World, Below w.heap.size w u → Calls Try.prog 11 #[.agg #[.int .i64 nodes, .int .i64 faulty, .int .i64 skew, .int .i64 jitter, .int .i64 drift, .int .i64 R, .slice sa ns sc, .slice la nl lc, .int .i64 frame, .slice wa nw wc]] u fun ev w' => ev = .returned .nilIface ∧ Below u.heap.size u w') (s0 s1 t0 t1 : Int) (hcm : comB s0 s1 t0 t1 = true) (hk0 : 0 ≤ skew) (hk1 : skew ≤ 137438953472) (u v : Int) (hu : (if fa < fb then fb else fa) = u) (hv : (if s1 < t1 then t1 else s1) = v) (hF : Near fa sA na da fb sB nb db skew u → Near fa sA na da fb sB nb db skew v → False) (h1 : ∀ u : World, Below w.heap.size w u → Calls Try.prog 12 #[.agg #[.int .i64 nodes, .int .i64 faulty, .int .i64 skew, .int .i64 jitter, .int .i64 drift, .int .i64 R, .slice sa ns sc, .slice la nl lc, .int .i64 frame, .slice wa nw wc, .int .i64 fa, .int .i64 sA, .int .i64 na, .int .i64 da, .int .i64 (pk i nodes)], .agg #[.int .i64 x0, .int .i64 x1], .int .i64 frm, .int .i64 to] u fun ev w' => ev = .returned (.tuple #[.agg #[.int .i64 s0, .int .i64 s1], .bool true]) ∧ Below u.heap.size u w') (h2 : ∀ u : World, Below w.heap.size w u → Calls Try.prog 12 #[.agg #[.int .i64 nodes, .int .i64 faulty, .int .i64 skew, .int .i64 jitter, .int .i64 drift, .int .i64 R, .slice sa ns sc, .slice la nl lc, .int .i64 frame, .slice wa nw wc, .int .i64 fb, .int .i64 sB, .int .i64 nb, .int .i64 db, .int .i64 (pk k nodes)], .agg #[.int .i64 y0, .int .i64 y1], .int .i64 frm, .int .i64 to] u fun ev w' => ev = .returned (.tuple #[.agg #[.int .i64 t0, .int .i64 t1], .bool true]) ∧ Below u.heap.size u w') :
    Calls Try.prog 4 #[.agg #[.int .i64 nodes, .int .i64 faulty, .int .i64 skew, .int .i64 jitter, .int .i64 drift, .int .i64 R, .slice sa ns sc, .slice la nl lc, .int .i64 frame, .slice wa nw wc], .agg #[.int .i64 fa, .int .i64 sA, .int .i64 na, .int .i64 da], .agg #[.int .i64 fb, .int .i64 sB, .int .i64 nb, .int .i64 db], .int .i64 i, .int .i64 k, .agg #[.int .i64 x0, .int .i64 x1], .agg #[.int .i64 y0, .int .i64 y1], .int .i64 frm, .int .i64 to] w fun ev w' => ev = .returned (.bool true) ∧ Below w.heap.size w w' := by
  have H1 : Hid (∀ u : World, Below w.heap.size w u → Calls Try.prog 12 #[.agg #[.int .i64 nodes, .int .i64 faulty, .int .i64 skew, .int .i64 jitter, .int .i64 drift, .int .i64 R, .slice sa ns sc, .slice la nl lc, .int .i64 frame, .slice wa nw wc, .int .i64 fa, .int .i64 sA, .int .i64 na, .int .i64 da, .int .i64 (pk i nodes)], .agg #[.int .i64 x0, .int .i64 x1], .int .i64 frm, .int .i64 to] u fun ev w' => ev = .returned (.tuple #[.agg #[.int .i64 s0, .int .i64 s1], .bool true]) ∧ Below u.heap.size u w') := h1
  have H2 : Hid (∀ u : World, Below w.heap.size w u → Calls Try.prog 12 #[.agg #[.int .i64 nodes, .int .i64 faulty, .int .i64 skew, .int .i64 jitter, .int .i64 drift, .int .i64 R, .slice sa ns sc, .slice la nl lc, .int .i64 frame, .slice wa nw wc, .int .i64 fb, .int .i64 sB, .int .i64 nb, .int .i64 db, .int .i64 (pk k nodes)], .agg #[.int .i64 y0, .int .i64 y1], .int .i64 frm, .int .i64 to] u fun ev w' => ev = .returned (.tuple #[.agg #[.int .i64 t0, .int .i64 t1], .bool true]) ∧ Below u.heap.size u w') := h2
  clear h1 h2
  have HNN : Hid (∀ u : World, Below w.heap.size w u → Calls Try.prog 11 #[.agg #[.int .i64 nodes, .int .i64 faulty, .int .i64 skew, .int .i64 jitter, .int .i64 drift, .int .i64 R, .slice sa ns sc, .slice la nl lc, .int .i64 frame, .slice wa nw wc]] u fun ev w' => ev = .returned .nilIface ∧ Below u.heap.size u w') := hN
  clear hN
  obtain ⟨V, hVe⟩ : ∃ V, V = ((((w.alloc (.cells #[.int .i64 nodes, .int .i64 faulty, .int .i64 skew, .int .i64 jitter, .int .i64 drift, .int .i64 R, .slice sa ns sc, .slice la nl lc, .int .i64 frame, .slice wa nw wc] 26)).alloc (.cells #[.int .i64 fa, .int .i64 sA, .int .i64 na, .int .i64 da] 39)).alloc (.cells #[.int .i64 fb, .int .i64 sB, .int .i64 nb, .int .i64 db] 39)).alloc (.cells #[.int .i64 x0, .int .i64 x1] 41)).alloc (.cells #[.int .i64 y0, .int .i64 y1] 41) := ⟨_, rfl⟩
  have hV : Below w.heap.size w V := by rw [hVe]; exact five_new
  have HB : Hid (ABox w.heap.size nodes faulty skew jitter drift R frame sa la wa ns sc nl lc nw wc fa sA na da fb sB nb db x0 x1 y0 y1 V) := by rw [hVe]; exact aBox_new nodes faulty skew jitter drift R frame sa la wa ns sc nl lc nw wc fa sA na da fb sB nb db x0 x1 y0 y1 w
  have hVs : V.heap.size = w.heap.size + 5 := by rw [hVe]; simp
  have hg := guarded_any V
  have hn0 : 0 < nodes := by omega
  have hn9 : nodes ≤ 9223372036854775807 := by omega
  have HPI : Hid (∀ (a : Int) (u : World), Calls Try.prog 8 #[.int .i64 a, .int .i64 nodes] u fun e w' => e = .returned (.int .i64 (pk a nodes)) ∧ w' = u) := fun a u => pick_any a nodes hn0 hn9 u
  clear hn0 hn9
  go_enter Try.func4, Try.ntmps4
  go_wp2_with fail
  rw [← hVe]
  clear hVe
  refine hg.mono ?_
  rintro ev w1 ⟨rfl, hb1⟩
  have hB1 : Below w.heap.size w w1 := hV.trans (hb1.mono hV.size)
  obtain ⟨h0, h1, h2, h3, h4, h5, h6, h7, h8, h9, h10, h11, h12, h13, h14, h15, h16, h17, h18, h19, h20, h21⟩ := HB.out.below hb1 (by omega)
  clear hg
  go_wp2_with fail
  refine (HNN.out _ hB1).mono ?_
  rintro ev w2 ⟨rfl, hb2⟩
  have hVw : Below V.heap.size V w2 := hb1.trans (hb2.mono hb1.size)
  have hB2 : Below w.heap.size w w2 := hB1.trans (hb2.mono hB1.size)
  have hs2 := hVw.size
  clear h0 h1 h2 h3 h4 h5 h6 h7 h8 h9 h10 h11 h12 h13 h14 h15 h16 h17 h18 h19 h20 h21 HNN hB1 hb1 hb2
  obtain ⟨h0, h1, h2, h3, h4, h5, h6, h7, h8, h9, h10, h11, h12, h13, h14, h15, h16, h17, h18, h19, h20, h21⟩ := HB.out.below hVw (by omega)
  go_wp2_with fail
  go_quiet ((go_at_call 8; refine Calls.quiet_of_same (HPI.out _ _)))
  have hik2 : (pk i nodes == pk k nodes) = false := by simpa using hik
  clear hik HPI
  have hq : Below w2.heap.size w2 (w2.drewN nq) := below_drewN (Below.refl _ _) _
  have hBq : Below w.heap.size w (w2.drewN nq) := below_drewN hB2 _
  have hl0 : w.heap.size < w2.heap.size := by omega
  have hl1 : w.heap.size + 1 < w2.heap.size := by omega
  have hl2 : w.heap.size + 1 + 1 < w2.heap.size := by omega
  have hl3 : w.heap.size + 1 + 1 + 1 < w2.heap.size := by omega
  have hl4 : w.heap.size + 1 + 1 + 1 + 1 < w2.heap.size := by omega
  go_wp2_with fail
  refine (H1.out _ hBq).mono ?_
  rintro ev w3 ⟨rfl, hb3⟩
  have hV3 : Below V.heap.size V w3 := hVw.trans ((hq.trans (hb3.mono hq.size)).mono hs2)
  clear h0 h1 h2 h3 h4 h5 h6 h7 h8 h9 h10 h11 h12 h13 h14 h15 h16 h17 h18 h19 h20 h21 hb3 hq hBq
  have hs3 := hV3.size
  obtain ⟨h0, h1, h2, h3, h4, h5, h6, h7, h8, h9, h10, h11, h12, h13, h14, h15, h16, h17, h18, h19, h20, h21⟩ := HB.out.below hV3 (by omega)
  have hB3 : Below w.heap.size w (w3.alloc (.cells #[.int .i64 s0, .int .i64 s1] 41)) := (hV.trans (hV3.mono hV.size)).alloc (by omega) _
  have hm0 : w.heap.size < w3.heap.size := by omega
  have hm1 : w.heap.size + 1 < w3.heap.size := by omega
  have hm2 : w.heap.size + 1 + 1 < w3.heap.size := by omega
  have hm3 : w.heap.size + 1 + 1 + 1 < w3.heap.size := by omega
  have hm4 : w.heap.size + 1 + 1 + 1 + 1 < w3.heap.size := by omega
  go_wp2_with fail
  refine (H2.out _ hB3).mono ?_
  rintro ev w4 ⟨rfl, hb4⟩
  have hA4 : Below w3.heap.size w3 w4 := below_box hb4
  have hV4 : Below V.heap.size V w4 := hV3.trans (hA4.mono hs3)
  have hB4 : Below w.heap.size w w4 := hV.trans (hV4.mono hV.size)
  have hs4 := hV4.size
  have hz4 := hA4.size
  have HS : Hid (Ends w3.heap.size s0 s1 w4) := ends_new.below hb4
  clear h0 h1 h2 h3 h4 h5 h6 h7 h8 h9 h10 h11 h12 h13 h14 h15 h16 h17 h18 h19 h20 h21
  obtain ⟨c0, c1, c2, c3, c4⟩ := HS.out
  have hmt := meet_any s0 s1 t0 t1 (w4.alloc (.cells #[.int .i64 t0, .int .i64 t1] 41))
  rw [hcm] at hmt
  have HFF : Hid (Near fa sA na da fb sB nb db skew u → Near fa sA na da fb sB nb db skew v → False) := hF
  clear hcm hF
  go_wp2_with fail
  refine hmt.mono ?_
  rintro ev w5 ⟨rfl, hb5⟩
  have hA5 : Below w4.heap.size w4 w5 := below_box hb5
  have hV5 : Below V.heap.size V w5 := hV4.trans (hA5.mono hs4)
  have hB5 : Below w.heap.size w w5 := hB4.trans (hA5.mono hB4.size)
  have hs5 := hV5.size
  have HB5 : Hid (ABox w.heap.size nodes faulty skew jitter drift R frame sa la wa ns sc nl lc nw wc fa sA na da fb sB nb db x0 x1 y0 y1 w5) := HB.out.below hV5 (by omega)
  obtain ⟨d0, d1, d2, d3, d4⟩ := (ends_new (w := w4) (t := 41) (x := t0) (y := t1)).below hb5
  clear c0 c1 c2 c3 c4
  obtain ⟨c0, c1, c2, c3, c4⟩ := HS.out.below hA5
  obtain ⟨h0, h1, h2, h3, h4, h5, h6, h7, h8, h9, h10, h11, h12, h13, h14, h15, h16, h17, h18, h19, h20, h21⟩ := HB5.out
  clear hmt hb5 hA5 HB
  go_wp2_with fail
  obtain ⟨Z, hZe⟩ : ∃ Z, Z = w5.alloc (.cells #[.int .i64 u, .int .i64 v] 3) := ⟨_, rfl⟩
  have HZE : Hid (Ends w5.heap.size u v Z) := by rw [hZe]; exact ends_new
  have h5Z : Below w5.heap.size w5 Z := by rw [hZe]; exact (Below.refl _ _).alloc (Nat.le_refl _) _
  rw [← hZe]
  clear hZe hu hv h0 h1 h2 h3 h4 h5 h6 h7 h8 h9 h10 h11 h12 h13 h14 h15 h16 h17 h18 h19 h20 h21 c0 c1 c2 c3 c4 d0 d1 d2 d3 d4 HS H1 H2 hV3 hA4 hV4 hB4 hB3 hB2 hVw hV hb4
  have HLA : Hid (∀ (r : Int) (z : World), Calls Try.prog 14 #[.agg #[.int .i64 fa, .int .i64 sA, .int .i64 na, .int .i64 da], .int .i64 r] z fun e w' => e = .returned (.tuple #[.int .i64 (localV fa sA na da r), errV (localE fa sA na da r)]) ∧ Below z.heap.size z w') := fun r z => local_any fa sA na da r z
  have HLB : Hid (∀ (r : Int) (z : World), Calls Try.prog 14 #[.agg #[.int .i64 fb, .int .i64 sB, .int .i64 nb, .int .i64 db], .int .i64 r] z fun e w' => e = .returned (.tuple #[.int .i64 (localV fb sB nb db r), errV (localE fb sB nb db r)]) ∧ Below z.heap.size z w') := fun r z => local_any fb sB nb db r z
  go_loopw [103] (fun t wr => ∃ q : Nat, q ≤ 2 ∧ t = .int .i64 q ∧ Hid (0 < q → Near fa sA na da fb sB nb db skew u) ∧ Hid (1 < q → Near fa sA na da fb sB nb db skew v) ∧ Below Z.heap.size Z wr) (fun t _ => 2 - (intOf t).toNat)
  case atStart => exact ⟨0, Nat.zero_le _, rfl, fun h => absurd h (Nat.lt_irrefl _), fun h => absurd h (by decide), Below.refl _ _⟩
  case round =>
    obtain ⟨q, hq2, rfl, n0, n1, hbe⟩ := hrel
    have h5r : Below w5.heap.size w5 wr := h5Z.trans (hbe.mono h5Z.size)
    have hwr : Below w.heap.size w wr := hB5.trans (h5r.mono hB5.size)
    have hsr := h5r.size
    have HBR : Hid (ABox w.heap.size nodes faulty skew jitter drift R frame sa la wa ns sc nl lc nw wc fa sA na da fb sB nb db x0 x1 y0 y1 wr) := HB5.out.below h5r (by omega)
    obtain ⟨e0, e1, e2, e3, e4⟩ := HZE.out.below hbe
    have hc : q = 0 ∨ q = 1 ∨ q = 2 := by omega
    rcases hc with rfl | rfl | rfl
    · clear n0 n1
      by_cases ea : localE fa sA na da u = 0
      rotate_left
      · obtain ⟨h0, h1, h2, h3, h4, h5, h6, h7, h8, h9, h10, h11, h12, h13, h14, h15, h16, h17, h18, h19, h20, h21⟩ := HBR.out
        have HA : Hid (∀ z : World, Calls Try.prog 14 #[.agg #[.int .i64 fa, .int .i64 sA, .int .i64 na, .int .i64 da], .int .i64 u] z fun e w' => e = .returned (.tuple #[.int .i64 (localV fa sA na da u), .iface 59 (.int .i64 (localE fa sA na da u))]) ∧ Below z.heap.size z w') := fun z => by have := HLA.out u z; rwa [errV_some ea] at this
        have HB_ : Hid (∀ z : World, Calls Try.prog 14 #[.agg #[.int .i64 fb, .int .i64 sB, .int .i64 nb, .int .i64 db], .int .i64 u] z fun e w' => e = .returned (.tuple #[.int .i64 (localV fb sB nb db u), errV (localE fb sB nb db u)]) ∧ Below z.heap.size z w') := fun z => HLB.out u z
        clear ea
        generalize localE fa sA na da u = qa at *
        generalize localV fa sA na da u = m at *
        generalize errV (localE fb sB nb db u) = qb at *
        generalize localV fb sB nb db u = n at *
        clear h0 h1 h2 h3 h4 h5 h6 h7 h8 h9 h14 h15 h16 h17 h18 h19 h20 h21
        go_wp2_with fail
        refine (HA.out _).mono ?_
        rintro ev wA ⟨rfl, hbA⟩
        have hbA2 : Below w5.heap.size w5 wA := h5r.trans (hbA.mono hsr)
        have hsA := hbA2.size
        clear h10 h11 h12 h13
        obtain ⟨h0, h1, h2, h3, h4, h5, h6, h7, h8, h9, h10, h11, h12, h13, h14, h15, h16, h17, h18, h19, h20, h21⟩ := HB5.out.below hbA2 (by omega)
        clear h0 h1 h2 h3 h4 h5 h6 h7 h8 h9 h10 h11 h12 h13 h18 h19 h20 h21
        go_wp2_with fail
        refine (HB_.out _).mono ?_
        rintro ev wB ⟨rfl, hbB⟩
        have hbB2 : Below w5.heap.size w5 wB := hbA2.trans (hbB.mono hsA)
        have hsB := hbB2.size
        have hwB : Below w.heap.size w wB := hB5.trans (hbB2.mono hB5.size)
        have hZB : Below Z.heap.size Z wB := (hbe.trans (hbA.mono hbe.size)).trans (hbB.mono (hbe.trans (hbA.mono hbe.size)).size)
        clear h14 h15 h16 h17
        have hsk : wB.cell? ⟨w.heap.size, 2, none⟩ = some (.int .i64 skew) := (HB5.out.below hbB2 (by omega)).2.2.1
        clear HLA HLB HBR HZE hbA hbB
        go_wp2
        go_ret
        exact ⟨rfl, hwB⟩
      · by_cases eb : localE fb sB nb db u = 0
        rotate_left
        · obtain ⟨h0, h1, h2, h3, h4, h5, h6, h7, h8, h9, h10, h11, h12, h13, h14, h15, h16, h17, h18, h19, h20, h21⟩ := HBR.out
          have HA : Hid (∀ z : World, Calls Try.prog 14 #[.agg #[.int .i64 fa, .int .i64 sA, .int .i64 na, .int .i64 da], .int .i64 u] z fun e w' => e = .returned (.tuple #[.int .i64 (localV fa sA na da u), .nilIface]) ∧ Below z.heap.size z w') := fun z => by have := HLA.out u z; rwa [ea, errV_0] at this
          have HB_ : Hid (∀ z : World, Calls Try.prog 14 #[.agg #[.int .i64 fb, .int .i64 sB, .int .i64 nb, .int .i64 db], .int .i64 u] z fun e w' => e = .returned (.tuple #[.int .i64 (localV fb sB nb db u), .iface 59 (.int .i64 (localE fb sB nb db u))]) ∧ Below z.heap.size z w') := fun z => by have := HLB.out u z; rwa [errV_some eb] at this
          clear ea eb
          generalize localE fb sB nb db u = qb at *
          generalize localV fa sA na da u = m at *
          generalize localV fb sB nb db u = n at *
          clear h0 h1 h2 h3 h4 h5 h6 h7 h8 h9 h14 h15 h16 h17 h18 h19 h20 h21
          go_wp2_with fail
          refine (HA.out _).mono ?_
          rintro ev wA ⟨rfl, hbA⟩
          have hbA2 : Below w5.heap.size w5 wA := h5r.trans (hbA.mono hsr)
          have hsA := hbA2.size
          clear h10 h11 h12 h13
          obtain ⟨h0, h1, h2, h3, h4, h5, h6, h7, h8, h9, h10, h11, h12, h13, h14, h15, h16, h17, h18, h19, h20, h21⟩ := HB5.out.below hbA2 (by omega)
          clear h0 h1 h2 h3 h4 h5 h6 h7 h8 h9 h10 h11 h12 h13 h18 h19 h20 h21
          go_wp2_with fail
          refine (HB_.out _).mono ?_
          rintro ev wB ⟨rfl, hbB⟩
          have hbB2 : Below w5.heap.size w5 wB := hbA2.trans (hbB.mono hsA)
          have hsB := hbB2.size
          have hwB : Below w.heap.size w wB := hB5.trans (hbB2.mono hB5.size)
          have hZB : Below Z.heap.size Z wB := (hbe.trans (hbA.mono hbe.size)).trans (hbB.mono (hbe.trans (hbA.mono hbe.size)).size)
          clear h14 h15 h16 h17
          have hsk : wB.cell? ⟨w.heap.size, 2, none⟩ = some (.int .i64 skew) := (HB5.out.below hbB2 (by omega)).2.2.1
          clear HLA HLB HBR HZE hbA hbB
          go_wp2
          go_ret
          exact ⟨rfl, hwB⟩
        · have la := (local_in ea).2
          have lb := (local_in eb).2
          by_cases c1 : skew - 2 < localV fa sA na da u - localV fb sB nb db u
          · obtain ⟨h0, h1, h2, h3, h4, h5, h6, h7, h8, h9, h10, h11, h12, h13, h14, h15, h16, h17, h18, h19, h20, h21⟩ := HBR.out
            have HA : Hid (∀ z : World, Calls Try.prog 14 #[.agg #[.int .i64 fa, .int .i64 sA, .int .i64 na, .int .i64 da], .int .i64 u] z fun e w' => e = .returned (.tuple #[.int .i64 (localV fa sA na da u), .nilIface]) ∧ Below z.heap.size z w') := fun z => by have := HLA.out u z; rwa [ea, errV_0] at this
            have HB_ : Hid (∀ z : World, Calls Try.prog 14 #[.agg #[.int .i64 fb, .int .i64 sB, .int .i64 nb, .int .i64 db], .int .i64 u] z fun e w' => e = .returned (.tuple #[.int .i64 (localV fb sB nb db u), .nilIface]) ∧ Below z.heap.size z w') := fun z => by have := HLB.out u z; rwa [eb, errV_0] at this
            clear ea eb
            generalize localV fa sA na da u = m at *
            generalize localV fb sB nb db u = n at *
            have b1 : -9223372036854775808 ≤ m - n := by omega
            have b2 : m - n ≤ 9223372036854775807 := by omega
            have b3 : -9223372036854775808 ≤ n - m := by omega
            have b4 : n - m ≤ 9223372036854775807 := by omega
            clear h0 h1 h2 h3 h4 h5 h6 h7 h8 h9 h14 h15 h16 h17 h18 h19 h20 h21
            go_wp2_with fail
            refine (HA.out _).mono ?_
            rintro ev wA ⟨rfl, hbA⟩
            have hbA2 : Below w5.heap.size w5 wA := h5r.trans (hbA.mono hsr)
            have hsA := hbA2.size
            clear h10 h11 h12 h13
            obtain ⟨h0, h1, h2, h3, h4, h5, h6, h7, h8, h9, h10, h11, h12, h13, h14, h15, h16, h17, h18, h19, h20, h21⟩ := HB5.out.below hbA2 (by omega)
            clear h0 h1 h2 h3 h4 h5 h6 h7 h8 h9 h10 h11 h12 h13 h18 h19 h20 h21
            go_wp2_with fail
            refine (HB_.out _).mono ?_
            rintro ev wB ⟨rfl, hbB⟩
            have hbB2 : Below w5.heap.size w5 wB := hbA2.trans (hbB.mono hsA)
            have hsB := hbB2.size
            have hwB : Below w.heap.size w wB := hB5.trans (hbB2.mono hB5.size)
            have hZB : Below Z.heap.size Z wB := (hbe.trans (hbA.mono hbe.size)).trans (hbB.mono (hbe.trans (hbA.mono hbe.size)).size)
            clear h14 h15 h16 h17
            have hsk : wB.cell? ⟨w.heap.size, 2, none⟩ = some (.int .i64 skew) := (HB5.out.below hbB2 (by omega)).2.2.1
            clear HLA HLB HBR HZE hbA hbB
            go_wp2
            go_ret
            exact ⟨rfl, hwB⟩
          · by_cases c2 : skew - 2 < localV fb sB nb db u - localV fa sA na da u
            · have c3 : decide (skew - 2 < localV fa sA na da u - localV fb sB nb db u) = false := decide_eq_false c1
              clear c1
              obtain ⟨h0, h1, h2, h3, h4, h5, h6, h7, h8, h9, h10, h11, h12, h13, h14, h15, h16, h17, h18, h19, h20, h21⟩ := HBR.out
              have HA : Hid (∀ z : World, Calls Try.prog 14 #[.agg #[.int .i64 fa, .int .i64 sA, .int .i64 na, .int .i64 da], .int .i64 u] z fun e w' => e = .returned (.tuple #[.int .i64 (localV fa sA na da u), .nilIface]) ∧ Below z.heap.size z w') := fun z => by have := HLA.out u z; rwa [ea, errV_0] at this
              have HB_ : Hid (∀ z : World, Calls Try.prog 14 #[.agg #[.int .i64 fb, .int .i64 sB, .int .i64 nb, .int .i64 db], .int .i64 u] z fun e w' => e = .returned (.tuple #[.int .i64 (localV fb sB nb db u), .nilIface]) ∧ Below z.heap.size z w') := fun z => by have := HLB.out u z; rwa [eb, errV_0] at this
              clear ea eb
              generalize localV fa sA na da u = m at *
              generalize localV fb sB nb db u = n at *
              have b1 : -9223372036854775808 ≤ m - n := by omega
              have b2 : m - n ≤ 9223372036854775807 := by omega
              have b3 : -9223372036854775808 ≤ n - m := by omega
              have b4 : n - m ≤ 9223372036854775807 := by omega
              clear h0 h1 h2 h3 h4 h5 h6 h7 h8 h9 h14 h15 h16 h17 h18 h19 h20 h21
              go_wp2_with fail
              refine (HA.out _).mono ?_
              rintro ev wA ⟨rfl, hbA⟩
              have hbA2 : Below w5.heap.size w5 wA := h5r.trans (hbA.mono hsr)
              have hsA := hbA2.size
              clear h10 h11 h12 h13
              obtain ⟨h0, h1, h2, h3, h4, h5, h6, h7, h8, h9, h10, h11, h12, h13, h14, h15, h16, h17, h18, h19, h20, h21⟩ := HB5.out.below hbA2 (by omega)
              clear h0 h1 h2 h3 h4 h5 h6 h7 h8 h9 h10 h11 h12 h13 h18 h19 h20 h21
              go_wp2_with fail
              refine (HB_.out _).mono ?_
              rintro ev wB ⟨rfl, hbB⟩
              have hbB2 : Below w5.heap.size w5 wB := hbA2.trans (hbB.mono hsA)
              have hsB := hbB2.size
              have hwB : Below w.heap.size w wB := hB5.trans (hbB2.mono hB5.size)
              have hZB : Below Z.heap.size Z wB := (hbe.trans (hbA.mono hbe.size)).trans (hbB.mono (hbe.trans (hbA.mono hbe.size)).size)
              clear h14 h15 h16 h17
              have hsk : wB.cell? ⟨w.heap.size, 2, none⟩ = some (.int .i64 skew) := (HB5.out.below hbB2 (by omega)).2.2.1
              clear HLA HLB HBR HZE hbA hbB
              go_wp2
              go_ret
              exact ⟨rfl, hwB⟩
            · have c3 : decide (skew - 2 < localV fa sA na da u - localV fb sB nb db u) = false := decide_eq_false c1
              have c4 : decide (skew - 2 < localV fb sB nb db u - localV fa sA na da u) = false := decide_eq_false c2
              have HN : Hid (Near fa sA na da fb sB nb db skew u) := ⟨ea, eb, by omega, by omega⟩
              clear c1 c2
              obtain ⟨h0, h1, h2, h3, h4, h5, h6, h7, h8, h9, h10, h11, h12, h13, h14, h15, h16, h17, h18, h19, h20, h21⟩ := HBR.out
              have HA : Hid (∀ z : World, Calls Try.prog 14 #[.agg #[.int .i64 fa, .int .i64 sA, .int .i64 na, .int .i64 da], .int .i64 u] z fun e w' => e = .returned (.tuple #[.int .i64 (localV fa sA na da u), .nilIface]) ∧ Below z.heap.size z w') := fun z => by have := HLA.out u z; rwa [ea, errV_0] at this
              have HB_ : Hid (∀ z : World, Calls Try.prog 14 #[.agg #[.int .i64 fb, .int .i64 sB, .int .i64 nb, .int .i64 db], .int .i64 u] z fun e w' => e = .returned (.tuple #[.int .i64 (localV fb sB nb db u), .nilIface]) ∧ Below z.heap.size z w') := fun z => by have := HLB.out u z; rwa [eb, errV_0] at this
              clear ea eb
              generalize localV fa sA na da u = m at *
              generalize localV fb sB nb db u = n at *
              have b1 : -9223372036854775808 ≤ m - n := by omega
              have b2 : m - n ≤ 9223372036854775807 := by omega
              have b3 : -9223372036854775808 ≤ n - m := by omega
              have b4 : n - m ≤ 9223372036854775807 := by omega
              clear h0 h1 h2 h3 h4 h5 h6 h7 h8 h9 h14 h15 h16 h17 h18 h19 h20 h21
              go_wp2_with fail
              refine (HA.out _).mono ?_
              rintro ev wA ⟨rfl, hbA⟩
              have hbA2 : Below w5.heap.size w5 wA := h5r.trans (hbA.mono hsr)
              have hsA := hbA2.size
              clear h10 h11 h12 h13
              obtain ⟨h0, h1, h2, h3, h4, h5, h6, h7, h8, h9, h10, h11, h12, h13, h14, h15, h16, h17, h18, h19, h20, h21⟩ := HB5.out.below hbA2 (by omega)
              clear h0 h1 h2 h3 h4 h5 h6 h7 h8 h9 h10 h11 h12 h13 h18 h19 h20 h21
              go_wp2_with fail
              refine (HB_.out _).mono ?_
              rintro ev wB ⟨rfl, hbB⟩
              have hbB2 : Below w5.heap.size w5 wB := hbA2.trans (hbB.mono hsA)
              have hsB := hbB2.size
              have hwB : Below w.heap.size w wB := hB5.trans (hbB2.mono hB5.size)
              have hZB : Below Z.heap.size Z wB := (hbe.trans (hbA.mono hbe.size)).trans (hbB.mono (hbe.trans (hbA.mono hbe.size)).size)
              clear h14 h15 h16 h17
              have hsk : wB.cell? ⟨w.heap.size, 2, none⟩ = some (.int .i64 skew) := (HB5.out.below hbB2 (by omega)).2.2.1
              clear HLA HLB HBR HZE hbA hbB
              go_wp2_with fail
              exact ⟨⟨1, by omega, rfl, fun _ => HN.out, fun h => absurd h (by decide), hZB⟩, by simp [intOf]⟩
    · have HN0 : Hid (Near fa sA na da fb sB nb db skew u) := n0.out (by decide)
      clear n0 n1
      by_cases ea : localE fa sA na da v = 0
      rotate_left
      · obtain ⟨h0, h1, h2, h3, h4, h5, h6, h7, h8, h9, h10, h11, h12, h13, h14, h15, h16, h17, h18, h19, h20, h21⟩ := HBR.out
        have HA : Hid (∀ z : World, Calls Try.prog 14 #[.agg #[.int .i64 fa, .int .i64 sA, .int .i64 na, .int .i64 da], .int .i64 v] z fun e w' => e = .returned (.tuple #[.int .i64 (localV fa sA na da v), .iface 59 (.int .i64 (localE fa sA na da v))]) ∧ Below z.heap.size z w') := fun z => by have := HLA.out v z; rwa [errV_some ea] at this
        have HB_ : Hid (∀ z : World, Calls Try.prog 14 #[.agg #[.int .i64 fb, .int .i64 sB, .int .i64 nb, .int .i64 db], .int .i64 v] z fun e w' => e = .returned (.tuple #[.int .i64 (localV fb sB nb db v), errV (localE fb sB nb db v)]) ∧ Below z.heap.size z w') := fun z => HLB.out v z
        clear ea
        generalize localE fa sA na da v = qa at *
        generalize localV fa sA na da v = m at *
        generalize errV (localE fb sB nb db v) = qb at *
        generalize localV fb sB nb db v = n at *
        clear h0 h1 h2 h3 h4 h5 h6 h7 h8 h9 h14 h15 h16 h17 h18 h19 h20 h21
        go_wp2_with fail
        refine (HA.out _).mono ?_
        rintro ev wA ⟨rfl, hbA⟩
        have hbA2 : Below w5.heap.size w5 wA := h5r.trans (hbA.mono hsr)
        have hsA := hbA2.size
        clear h10 h11 h12 h13
        obtain ⟨h0, h1, h2, h3, h4, h5, h6, h7, h8, h9, h10, h11, h12, h13, h14, h15, h16, h17, h18, h19, h20, h21⟩ := HB5.out.below hbA2 (by omega)
        clear h0 h1 h2 h3 h4 h5 h6 h7 h8 h9 h10 h11 h12 h13 h18 h19 h20 h21
        go_wp2_with fail
        refine (HB_.out _).mono ?_
        rintro ev wB ⟨rfl, hbB⟩
        have hbB2 : Below w5.heap.size w5 wB := hbA2.trans (hbB.mono hsA)
        have hsB := hbB2.size
        have hwB : Below w.heap.size w wB := hB5.trans (hbB2.mono hB5.size)
        have hZB : Below Z.heap.size Z wB := (hbe.trans (hbA.mono hbe.size)).trans (hbB.mono (hbe.trans (hbA.mono hbe.size)).size)
        clear h14 h15 h16 h17
        have hsk : wB.cell? ⟨w.heap.size, 2, none⟩ = some (.int .i64 skew) := (HB5.out.below hbB2 (by omega)).2.2.1
        clear HLA HLB HBR HZE hbA hbB
        go_wp2
        go_ret
        exact ⟨rfl, hwB⟩
      · by_cases eb : localE fb sB nb db v = 0
        rotate_left
        · obtain ⟨h0, h1, h2, h3, h4, h5, h6, h7, h8, h9, h10, h11, h12, h13, h14, h15, h16, h17, h18, h19, h20, h21⟩ := HBR.out
          have HA : Hid (∀ z : World, Calls Try.prog 14 #[.agg #[.int .i64 fa, .int .i64 sA, .int .i64 na, .int .i64 da], .int .i64 v] z fun e w' => e = .returned (.tuple #[.int .i64 (localV fa sA na da v), .nilIface]) ∧ Below z.heap.size z w') := fun z => by have := HLA.out v z; rwa [ea, errV_0] at this
          have HB_ : Hid (∀ z : World, Calls Try.prog 14 #[.agg #[.int .i64 fb, .int .i64 sB, .int .i64 nb, .int .i64 db], .int .i64 v] z fun e w' => e = .returned (.tuple #[.int .i64 (localV fb sB nb db v), .iface 59 (.int .i64 (localE fb sB nb db v))]) ∧ Below z.heap.size z w') := fun z => by have := HLB.out v z; rwa [errV_some eb] at this
          clear ea eb
          generalize localE fb sB nb db v = qb at *
          generalize localV fa sA na da v = m at *
          generalize localV fb sB nb db v = n at *
          clear h0 h1 h2 h3 h4 h5 h6 h7 h8 h9 h14 h15 h16 h17 h18 h19 h20 h21
          go_wp2_with fail
          refine (HA.out _).mono ?_
          rintro ev wA ⟨rfl, hbA⟩
          have hbA2 : Below w5.heap.size w5 wA := h5r.trans (hbA.mono hsr)
          have hsA := hbA2.size
          clear h10 h11 h12 h13
          obtain ⟨h0, h1, h2, h3, h4, h5, h6, h7, h8, h9, h10, h11, h12, h13, h14, h15, h16, h17, h18, h19, h20, h21⟩ := HB5.out.below hbA2 (by omega)
          clear h0 h1 h2 h3 h4 h5 h6 h7 h8 h9 h10 h11 h12 h13 h18 h19 h20 h21
          go_wp2_with fail
          refine (HB_.out _).mono ?_
          rintro ev wB ⟨rfl, hbB⟩
          have hbB2 : Below w5.heap.size w5 wB := hbA2.trans (hbB.mono hsA)
          have hsB := hbB2.size
          have hwB : Below w.heap.size w wB := hB5.trans (hbB2.mono hB5.size)
          have hZB : Below Z.heap.size Z wB := (hbe.trans (hbA.mono hbe.size)).trans (hbB.mono (hbe.trans (hbA.mono hbe.size)).size)
          clear h14 h15 h16 h17
          have hsk : wB.cell? ⟨w.heap.size, 2, none⟩ = some (.int .i64 skew) := (HB5.out.below hbB2 (by omega)).2.2.1
          clear HLA HLB HBR HZE hbA hbB
          go_wp2
          go_ret
          exact ⟨rfl, hwB⟩
        · have la := (local_in ea).2
          have lb := (local_in eb).2
          by_cases c1 : skew - 2 < localV fa sA na da v - localV fb sB nb db v
          · obtain ⟨h0, h1, h2, h3, h4, h5, h6, h7, h8, h9, h10, h11, h12, h13, h14, h15, h16, h17, h18, h19, h20, h21⟩ := HBR.out
            have HA : Hid (∀ z : World, Calls Try.prog 14 #[.agg #[.int .i64 fa, .int .i64 sA, .int .i64 na, .int .i64 da], .int .i64 v] z fun e w' => e = .returned (.tuple #[.int .i64 (localV fa sA na da v), .nilIface]) ∧ Below z.heap.size z w') := fun z => by have := HLA.out v z; rwa [ea, errV_0] at this
            have HB_ : Hid (∀ z : World, Calls Try.prog 14 #[.agg #[.int .i64 fb, .int .i64 sB, .int .i64 nb, .int .i64 db], .int .i64 v] z fun e w' => e = .returned (.tuple #[.int .i64 (localV fb sB nb db v), .nilIface]) ∧ Below z.heap.size z w') := fun z => by have := HLB.out v z; rwa [eb, errV_0] at this
            clear ea eb
            generalize localV fa sA na da v = m at *
            generalize localV fb sB nb db v = n at *
            have b1 : -9223372036854775808 ≤ m - n := by omega
            have b2 : m - n ≤ 9223372036854775807 := by omega
            have b3 : -9223372036854775808 ≤ n - m := by omega
            have b4 : n - m ≤ 9223372036854775807 := by omega
            clear h0 h1 h2 h3 h4 h5 h6 h7 h8 h9 h14 h15 h16 h17 h18 h19 h20 h21
            go_wp2_with fail
            refine (HA.out _).mono ?_
            rintro ev wA ⟨rfl, hbA⟩
            have hbA2 : Below w5.heap.size w5 wA := h5r.trans (hbA.mono hsr)
            have hsA := hbA2.size
            clear h10 h11 h12 h13
            obtain ⟨h0, h1, h2, h3, h4, h5, h6, h7, h8, h9, h10, h11, h12, h13, h14, h15, h16, h17, h18, h19, h20, h21⟩ := HB5.out.below hbA2 (by omega)
            clear h0 h1 h2 h3 h4 h5 h6 h7 h8 h9 h10 h11 h12 h13 h18 h19 h20 h21
            go_wp2_with fail
            refine (HB_.out _).mono ?_
            rintro ev wB ⟨rfl, hbB⟩
            have hbB2 : Below w5.heap.size w5 wB := hbA2.trans (hbB.mono hsA)
            have hsB := hbB2.size
            have hwB : Below w.heap.size w wB := hB5.trans (hbB2.mono hB5.size)
            have hZB : Below Z.heap.size Z wB := (hbe.trans (hbA.mono hbe.size)).trans (hbB.mono (hbe.trans (hbA.mono hbe.size)).size)
            clear h14 h15 h16 h17
            have hsk : wB.cell? ⟨w.heap.size, 2, none⟩ = some (.int .i64 skew) := (HB5.out.below hbB2 (by omega)).2.2.1
            clear HLA HLB HBR HZE hbA hbB
            go_wp2
            go_ret
            exact ⟨rfl, hwB⟩
          · by_cases c2 : skew - 2 < localV fb sB nb db v - localV fa sA na da v
            · have c3 : decide (skew - 2 < localV fa sA na da v - localV fb sB nb db v) = false := decide_eq_false c1
              clear c1
              obtain ⟨h0, h1, h2, h3, h4, h5, h6, h7, h8, h9, h10, h11, h12, h13, h14, h15, h16, h17, h18, h19, h20, h21⟩ := HBR.out
              have HA : Hid (∀ z : World, Calls Try.prog 14 #[.agg #[.int .i64 fa, .int .i64 sA, .int .i64 na, .int .i64 da], .int .i64 v] z fun e w' => e = .returned (.tuple #[.int .i64 (localV fa sA na da v), .nilIface]) ∧ Below z.heap.size z w') := fun z => by have := HLA.out v z; rwa [ea, errV_0] at this
              have HB_ : Hid (∀ z : World, Calls Try.prog 14 #[.agg #[.int .i64 fb, .int .i64 sB, .int .i64 nb, .int .i64 db], .int .i64 v] z fun e w' => e = .returned (.tuple #[.int .i64 (localV fb sB nb db v), .nilIface]) ∧ Below z.heap.size z w') := fun z => by have := HLB.out v z; rwa [eb, errV_0] at this
              clear ea eb
              generalize localV fa sA na da v = m at *
              generalize localV fb sB nb db v = n at *
              have b1 : -9223372036854775808 ≤ m - n := by omega
              have b2 : m - n ≤ 9223372036854775807 := by omega
              have b3 : -9223372036854775808 ≤ n - m := by omega
              have b4 : n - m ≤ 9223372036854775807 := by omega
              clear h0 h1 h2 h3 h4 h5 h6 h7 h8 h9 h14 h15 h16 h17 h18 h19 h20 h21
              go_wp2_with fail
              refine (HA.out _).mono ?_
              rintro ev wA ⟨rfl, hbA⟩
              have hbA2 : Below w5.heap.size w5 wA := h5r.trans (hbA.mono hsr)
              have hsA := hbA2.size
              clear h10 h11 h12 h13
              obtain ⟨h0, h1, h2, h3, h4, h5, h6, h7, h8, h9, h10, h11, h12, h13, h14, h15, h16, h17, h18, h19, h20, h21⟩ := HB5.out.below hbA2 (by omega)
              clear h0 h1 h2 h3 h4 h5 h6 h7 h8 h9 h10 h11 h12 h13 h18 h19 h20 h21
              go_wp2_with fail
              refine (HB_.out _).mono ?_
              rintro ev wB ⟨rfl, hbB⟩
              have hbB2 : Below w5.heap.size w5 wB := hbA2.trans (hbB.mono hsA)
              have hsB := hbB2.size
              have hwB : Below w.heap.size w wB := hB5.trans (hbB2.mono hB5.size)
              have hZB : Below Z.heap.size Z wB := (hbe.trans (hbA.mono hbe.size)).trans (hbB.mono (hbe.trans (hbA.mono hbe.size)).size)
              clear h14 h15 h16 h17
              have hsk : wB.cell? ⟨w.heap.size, 2, none⟩ = some (.int .i64 skew) := (HB5.out.below hbB2 (by omega)).2.2.1
              clear HLA HLB HBR HZE hbA hbB
              go_wp2
              go_ret
              exact ⟨rfl, hwB⟩
            · have c3 : decide (skew - 2 < localV fa sA na da v - localV fb sB nb db v) = false := decide_eq_false c1
              have c4 : decide (skew - 2 < localV fb sB nb db v - localV fa sA na da v) = false := decide_eq_false c2
              have HN : Hid (Near fa sA na da fb sB nb db skew v) := ⟨ea, eb, by omega, by omega⟩
              clear c1 c2
              obtain ⟨h0, h1, h2, h3, h4, h5, h6, h7, h8, h9, h10, h11, h12, h13, h14, h15, h16, h17, h18, h19, h20, h21⟩ := HBR.out
              have HA : Hid (∀ z : World, Calls Try.prog 14 #[.agg #[.int .i64 fa, .int .i64 sA, .int .i64 na, .int .i64 da], .int .i64 v] z fun e w' => e = .returned (.tuple #[.int .i64 (localV fa sA na da v), .nilIface]) ∧ Below z.heap.size z w') := fun z => by have := HLA.out v z; rwa [ea, errV_0] at this
              have HB_ : Hid (∀ z : World, Calls Try.prog 14 #[.agg #[.int .i64 fb, .int .i64 sB, .int .i64 nb, .int .i64 db], .int .i64 v] z fun e w' => e = .returned (.tuple #[.int .i64 (localV fb sB nb db v), .nilIface]) ∧ Below z.heap.size z w') := fun z => by have := HLB.out v z; rwa [eb, errV_0] at this
              clear ea eb
              generalize localV fa sA na da v = m at *
              generalize localV fb sB nb db v = n at *
              have b1 : -9223372036854775808 ≤ m - n := by omega
              have b2 : m - n ≤ 9223372036854775807 := by omega
              have b3 : -9223372036854775808 ≤ n - m := by omega
              have b4 : n - m ≤ 9223372036854775807 := by omega
              clear h0 h1 h2 h3 h4 h5 h6 h7 h8 h9 h14 h15 h16 h17 h18 h19 h20 h21
              go_wp2_with fail
              refine (HA.out _).mono ?_
              rintro ev wA ⟨rfl, hbA⟩
              have hbA2 : Below w5.heap.size w5 wA := h5r.trans (hbA.mono hsr)
              have hsA := hbA2.size
              clear h10 h11 h12 h13
              obtain ⟨h0, h1, h2, h3, h4, h5, h6, h7, h8, h9, h10, h11, h12, h13, h14, h15, h16, h17, h18, h19, h20, h21⟩ := HB5.out.below hbA2 (by omega)
              clear h0 h1 h2 h3 h4 h5 h6 h7 h8 h9 h10 h11 h12 h13 h18 h19 h20 h21
              go_wp2_with fail
              refine (HB_.out _).mono ?_
              rintro ev wB ⟨rfl, hbB⟩
              have hbB2 : Below w5.heap.size w5 wB := hbA2.trans (hbB.mono hsA)
              have hsB := hbB2.size
              have hwB : Below w.heap.size w wB := hB5.trans (hbB2.mono hB5.size)
              have hZB : Below Z.heap.size Z wB := (hbe.trans (hbA.mono hbe.size)).trans (hbB.mono (hbe.trans (hbA.mono hbe.size)).size)
              clear h14 h15 h16 h17
              have hsk : wB.cell? ⟨w.heap.size, 2, none⟩ = some (.int .i64 skew) := (HB5.out.below hbB2 (by omega)).2.2.1
              clear HLA HLB HBR HZE hbA hbB
              go_wp2_with fail
              exact ⟨⟨2, by omega, rfl, fun _ => HN0.out, fun _ => HN.out, hZB⟩, by simp [intOf]⟩
    · exact absurd (n1.out (by decide)) fun h => HFF.out (n0.out (by decide)) h
end Go.Proofs.Ytlpojkehbhkdiaa
