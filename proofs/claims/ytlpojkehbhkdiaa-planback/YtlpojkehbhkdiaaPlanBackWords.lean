/- PlanBack's words, walked: pick, planned, and the statement itself. (Made by tools/gen_planback.py.) -/
import Derived.Test.YtlpojkehbhkdiaaPlanWritten
namespace Go.Proofs.Ytlpojkehbhkdiaa
open Go.RowKit

theorem pick_val (a : Int) (n : Nat) (h1 : 1 ≤ n) (h2 : n ≤ 2000) : ∃ k : Nat, k < n ∧ wrap64 ((IntKind.u64.wrap a).tmod n) = (k : Int) := by
  have h0 : 0 ≤ IntKind.u64.wrap a := by
    simp [IntKind.wrap, IntKind.bits, IntKind.signed]
    omega
  have e : (IntKind.u64.wrap a).tmod n = IntKind.u64.wrap a % n := Int.tmod_eq_emod_of_nonneg h0
  have g1 : 0 ≤ IntKind.u64.wrap a % (n : Int) := Int.emod_nonneg _ (by omega)
  have g2 : IntKind.u64.wrap a % (n : Int) < n := Int.emod_lt_of_pos _ (by omega)
  refine ⟨(IntKind.u64.wrap a % (n : Int)).toNat, by omega, ?_⟩
  rw [e]
  generalize IntKind.u64.wrap a % (n : Int) = x at g1 g2 ⊢
  have : wrap64 x = x := by
    simp [wrap64]
    omega
  rw [this]; omega
set_option maxHeartbeats 1000000 in
theorem pick_any (a : Int) (n k : Nat) (h1 : 1 ≤ n) (h2 : n ≤ 2000) (hk : wrap64 ((IntKind.u64.wrap a).tmod n) = (k : Int)) (w : World) : Calls Try.prog 8 #[.int .i64 a, .int .i64 n] w fun ev w' => ev = .returned (.int .i64 k) ∧ w' = w := by
  have k1 : (1 : Int) ≤ (n : Int) := by omega
  have k2 : (n : Int) ≤ 2000 := by omega
  go_enter Try.func8, Try.ntmps8
  go_wp2
  go_ret
  exact ⟨by rw [← hk]; rfl, rfl⟩

theorem fact_check : CheckIs 2 0 2 0 0 100 7 1 0 0 (fun _ => 1) (fun _ => 3) (fun _ => 9) (fun _ => 0) (fun _ => 0) (fun _ => 0) (fun _ => 0) (fun j => bits BinOp.and .i64 ((fun _ => 0 : Nat → Int) j) (2 ^ ((fun _ => 0 : Nat → Int) j).toNat) != 0) ((2 : Int) ^ (2 : Int).toNat) (fun _ => 0) (fun _ => 0) (fun _ => 0) 0 (-1) :=
  .inr ⟨by decide, 0, 0, 0, 0, 0, 0, .inl ⟨fun j hj => by obtain rfl : j = 0 := by omega
                                                          rfl, rfl, rfl⟩, .inl ⟨fun j hj => absurd hj (Nat.not_lt_zero _), rfl, rfl⟩, .inl ⟨fun j hj => absurd hj (Nat.not_lt_zero _), rfl, rfl⟩, fun h => absurd rfl h, fun _ h => absurd rfl h, fun _ _ h => absurd rfl h, fun _ _ _ => ⟨rfl, rfl⟩⟩

/-- There is always an answer of Check. -/
theorem CheckIs.any (nodes faulty skew jitter drift round frame : Int) (ns nl nw : Nat) (nd fr to lf lt lb lq : Nat → Int) (hit : Nat → Bool) (pw : Int) (wp wf wt : Nat → Int) : ∃ E I, CheckIs nodes faulty skew jitter drift round frame ns nl nw nd fr to lf lt lb lq hit pw wp wf wt E I := by
  by_cases h : headErr nodes faulty skew jitter drift round frame ns nl nw = 0
  · obtain ⟨e1, i1, g1⟩ := FirstBad.any (slotErr nd fr to nodes skew round) ns
    obtain ⟨e2, i2, g2⟩ := FirstBad.any (linkErr lf lt lb lq hit nodes pw) nl
    obtain ⟨e3, i3, g3⟩ := FirstBad.any (winErr wp wf wt frame) nw
    by_cases z1 : e1 = 0
    · by_cases z2 : e2 = 0
      · by_cases z3 : e3 = 0
        · exact ⟨0, -1, .inr ⟨h, e1, i1, e2, i2, e3, i3, g1, g2, g3, fun q => absurd z1 q, fun _ q => absurd z2 q, fun _ _ q => absurd z3 q, fun _ _ _ => ⟨rfl, rfl⟩⟩⟩
        · exact ⟨e3, 2000 + i3, .inr ⟨h, e1, i1, e2, i2, e3, i3, g1, g2, g3, fun q => absurd z1 q, fun _ q => absurd z2 q, fun _ _ _ => ⟨rfl, rfl⟩, fun _ _ q => absurd q z3⟩⟩
      · exact ⟨e2, 1000 + i2, .inr ⟨h, e1, i1, e2, i2, e3, i3, g1, g2, g3, fun q => absurd z1 q, fun _ _ => ⟨rfl, rfl⟩, fun _ q => absurd q z2, fun _ q => absurd q z2⟩⟩
    · exact ⟨e1, i1, .inr ⟨h, e1, i1, e2, i2, e3, i3, g1, g2, g3, fun _ => ⟨rfl, rfl⟩, fun q => absurd q z1, fun q => absurd q z1, fun q => absurd q z1⟩⟩
  · exact ⟨_, -1, .inl ⟨h, rfl, rfl⟩⟩

/-- Encode, where nothing is wrong. -/
theorem encode_fine (nodes faulty skew jitter drift round frame : Int) (sa la wa : Option Addr) (ns sc nl lc nw wc : Nat) (nd fr to lf lt lb lq wp wf wt : Nat → Int) (I : Int) (w : World) (hs : Rows3 w sa ns nd fr to) (hl : Rows4 w la nl lf lt lb lq) (hw : Rows3 w wa nw wp wf wt)
    (hC : CheckIs nodes faulty skew jitter drift round frame ns nl nw nd fr to lf lt lb lq (fun j => bits BinOp.and .i64 (lt j) (2 ^ (lf j).toNat) != 0) ((2 : Int) ^ nodes.toNat) wp wf wt 0 I) :
    Calls Try.prog 6 #[.agg #[.int .i64 nodes, .int .i64 faulty, .int .i64 skew, .int .i64 jitter, .int .i64 drift, .int .i64 round, .slice sa ns sc, .slice la nl lc, .int .i64 frame, .slice wa nw wc]] w fun ev w' => ∃ v, ev = .returned (.tuple #[v, .nilIface]) ∧ w'.ownsRow w.heap.size 5 1 v (bytesOf (planNums nodes faulty skew jitter drift round frame ns nl nw nd fr to lf lt lb lq wp wf wt)).length ((bytesOf (planNums nodes faulty skew jitter drift round frame ns nl nw nd fr to lf lt lb lq wp wf wt)).map (Value.int .u8)) ∧ Below w.heap.size w w' := by
  obtain ⟨⟨d1, d2, d3⟩, hnn⟩ := nums_ok rfl hC
  obtain rfl := hC.zero.1
  exact encode_ok nodes faulty skew jitter drift round frame sa la wa ns sc nl lc nw wc nd fr to lf lt lb lq wp wf wt w hs hl hw d1 d2 d3 hnn (fun u hu =>
    check_any nodes faulty skew jitter drift round frame sa la wa ns sc nl lc nw wc nd fr to lf lt lb lq _ _ wp wf wt 0 (-1) u (hs.below hu) (hl.below hu) (hw.below hu) rfl (fun _ _ _ => rfl) hC)

set_option maxRecDepth 100000 in
set_option maxHeartbeats 4000000 in
theorem planned_any (w : World) : Calls Try.prog 5 #[] w fun ev w' => ev = .returned (.bool true) ∧ Below w.heap.size w w' := by
  obtain ⟨V, hVe⟩ : ∃ V, V = (w.alloc (.cells #[.int .i64 1, .int .i64 3, .int .i64 9] 53)).alloc (.cells #[.int .i64 2, .int .i64 0, .int .i64 2, .int .i64 0, .int .i64 0, .int .i64 100, .slice (some ⟨w.heap.size, 0, none⟩) 1 1, .slice none 0 0, .int .i64 7, .slice none 0 0] 26) := ⟨_, rfl⟩
  have hV : Below w.heap.size w V := by rw [hVe]; exact ((Below.refl _ _).alloc (Nat.le_refl _) _).alloc (by simp) _
  have hs : Rows3 V (some ⟨w.heap.size, 0, none⟩) 1 (fun _ => 1) (fun _ => 3) (fun _ => 9) := by
    intro _
    refine ⟨w.heap.size, 0, rfl, by rw [hVe]; simp; omega, fun j hj => ?_⟩
    obtain rfl : j = 0 := by omega
    rw [hVe]
    refine ⟨?_, ?_, ?_⟩
    · rw [World.cell?_alloc_lt _ _ _ (by simp)]; simp
    · rw [World.cell?_alloc_lt _ _ _ (by simp)]; simp
    · rw [World.cell?_alloc_lt _ _ _ (by simp)]; simp
  have hl : Rows4 V none 0 (fun _ => 0) (fun _ => 0) (fun _ => 0) (fun _ => 0) := fun h => absurd h (Nat.lt_irrefl _)
  have hw : Rows3 V none 0 (fun _ => 0) (fun _ => 0) (fun _ => 0) := fun h => absurd h (Nat.lt_irrefl _)
  have hc : Cells10 (w.heap.size + 1) 2 0 2 0 0 100 7 (some ⟨w.heap.size, 0, none⟩) none none 1 1 0 0 0 0 V := by
    rw [hVe]
    have := (box10 2 0 2 0 0 100 7 (some ⟨w.heap.size, 0, none⟩) none none 1 1 0 0 0 0 (w.alloc (.cells #[.int .i64 1, .int .i64 3, .int .i64 9] 53)) 26).1
    simpa using this
  have HE := encode_fine 2 0 2 0 0 100 7 (some ⟨w.heap.size, 0, none⟩) none none 1 1 0 0 0 0 _ _ _ _ _ _ _ _ _ _ (-1) V hs hl hw fact_check
  go_enter Try.func5, Try.ntmps5
  go_wp2_with fail
  rw [← hVe]
  clear hVe
  refine HE.mono ?_
  clear HE
  rintro ev w1 ⟨v, rfl, ho, hb1⟩
  have HD := decode_written 2 0 2 0 0 100 7 1 0 0 _ _ _ _ _ _ _ _ _ _ (-1) _ v w1 fact_check ho
  replace hs := hs.below hb1
  replace hl := hl.below hb1
  replace hw := hw.below hb1
  replace hc := hc.below hb1
  replace hV := hV.trans (hb1.mono hV.size)
  clear ho hb1
  go_wp2_with fail
  refine HD.mono ?_
  clear HD
  rintro ev w2 ⟨sb, sd, ln, ld, wn, we, rfl, rs, rl, rw', hb2⟩
  replace hs := hs.below hb2
  replace hl := hl.below hb2
  replace hw := hw.below hb2
  replace hc := hc.below hb2
  replace hV := hV.trans (hb2.mono hV.size)
  clear hb2
  have hU : Below w2.heap.size w2 (w2.alloc (.cells #[.int .i64 2, .int .i64 0, .int .i64 2, .int .i64 0, .int .i64 0, .int .i64 100, .slice sb 1 sd, .slice ln 0 ld, .int .i64 7, .slice wn 0 we] 26)) := (Below.refl _ _).alloc (Nat.le_refl _) _
  obtain ⟨x0, x1, x2, x3, x4, x5, x6, x7, x8, x9⟩ := hc.below hU
  have hlt : w.heap.size + 1 < w2.heap.size := lt_of_cell hc.1
  have HS := same_any 2 0 2 0 0 100 7 (some ⟨w.heap.size, 0, none⟩) none none sb ln wn 1 1 sd 0 0 ld 0 0 we _ _ _ _ _ _ _ _ _ _ _ (by decide) (by decide) (by decide) (hs.below hU) (hl.below hU) (hw.below hU) (rs.below hU) (rl.below hU) (rw'.below hU)
  clear hs hl hw rs rl rw' hc
  go_wp2_with fail
  refine HS.mono ?_
  clear HS x0 x1 x2 x3 x4 x5 x6 x7 x8 x9
  rintro ev w3 ⟨rfl, hb3⟩
  go_wp2
  go_ret
  exact ⟨rfl, (hV.trans (hU.mono hV.size)).trans (hb3.mono (by have := hU.size; have := hV.size; omega))⟩

set_option maxRecDepth 100000 in
set_option maxHeartbeats 4000000 in
theorem back_any (nodes faulty skew jitter drift round frame : Int) (sa la wa : Option Addr) (ns sc nl lc nw wc : Nat) (nd fr to lf lt lb lq wp wf wt : Nat → Int) (cut : Int) (w : World) (hs : Rows3 w sa ns nd fr to) (hl : Rows4 w la nl lf lt lb lq) (hw : Rows3 w wa nw wp wf wt) :
    Calls Try.prog 3 #[.agg #[.int .i64 nodes, .int .i64 faulty, .int .i64 skew, .int .i64 jitter, .int .i64 drift, .int .i64 round, .slice sa ns sc, .slice la nl lc, .int .i64 frame, .slice wa nw wc], .int .i64 cut] w fun ev w' => ev = .returned (.bool true) ∧ Below w.heap.size w w' := by
  obtain ⟨hc, hV⟩ := box10 nodes faulty skew jitter drift round frame sa la wa ns sc nl lc nw wc w 26
  obtain ⟨E, I, hC⟩ := CheckIs.any nodes faulty skew jitter drift round frame ns nl nw nd fr to lf lt lb lq (fun j => bits BinOp.and .i64 (lt j) (2 ^ (lf j).toNat) != 0) ((2 : Int) ^ nodes.toNat) wp wf wt
  have HC : Hid (CheckIs nodes faulty skew jitter drift round frame ns nl nw nd fr to lf lt lb lq (fun j => bits BinOp.and .i64 (lt j) (2 ^ (lf j).toNat) != 0) ((2 : Int) ^ nodes.toNat) wp wf wt E I) := hC
  clear hC
  replace hs := hs.below hV
  replace hl := hl.below hV
  replace hw := hw.below hV
  go_enter Try.func3, Try.ntmps3
  cases hB : decide (100 < wrap64 (wrap64 ((ns : Int) + (nl : Int)) + (nw : Int)))
  rotate_left
  · go_wp2
    go_ret
    exact ⟨rfl, hV⟩
  go_wp2_with fail
  generalize w.alloc (.cells #[.int .i64 nodes, .int .i64 faulty, .int .i64 skew, .int .i64 jitter, .int .i64 drift, .int .i64 round, .slice sa ns sc, .slice la nl lc, .int .i64 frame, .slice wa nw wc] 26) = V at hc hV hs hl hw ⊢
  refine (planned_any V).mono ?_
  rintro ev w1 ⟨rfl, hb1⟩
  replace hs := hs.below hb1
  replace hl := hl.below hb1
  replace hw := hw.below hb1
  replace hc := hc.below hb1
  replace hV := hV.trans (hb1.mono hV.size)
  clear hb1 hB
  by_cases hE : E = 0
  rotate_left
  · have HE := encode_bad nodes faulty skew jitter drift round frame sa la wa ns sc nl lc nw wc E I w1 hE (fun u hu => check_any nodes faulty skew jitter drift round frame sa la wa ns sc nl lc nw wc nd fr to lf lt lb lq _ _ wp wf wt E I u (hs.below hu) (hl.below hu) (hw.below hu) rfl (fun _ _ _ => rfl) HC.out)
    obtain ⟨x0, x1, x2, x3, x4, x5, x6, x7, x8, x9⟩ := hc
    go_wp2_with fail
    refine HE.mono ?_
    clear HE x0 x1 x2 x3 x4 x5 x6 x7 x8 x9
    rintro ev w2 ⟨X, rfl, hX, hb2⟩
    rcases hX with ⟨_, h0, _⟩ | ⟨rfl, _, _⟩ | ⟨b, rfl, _⟩
    · exact absurd h0 hE
    · go_wp2
      go_ret
      exact ⟨rfl, hV.trans (hb2.mono hV.size)⟩
    · go_wp2
      go_ret
      exact ⟨rfl, hV.trans (hb2.mono hV.size)⟩
  subst hE
  obtain ⟨⟨d1, d2, d3⟩, hnn⟩ := nums_ok rfl HC.out
  have hl0 := planNums_len nodes faulty skew jitter drift round frame ns nl nw nd fr to lf lt lb lq wp wf wt
  have HE := encode_fine nodes faulty skew jitter drift round frame sa la wa ns sc nl lc nw wc nd fr to lf lt lb lq wp wf wt I w1 hs hl hw HC.out
  have HPX : Hid (∀ k, k < (bytesOf (planNums nodes faulty skew jitter drift round frame ns nl nw nd fr to lf lt lb lq wp wf wt)).length → endSt (some ((bytesOf (planNums nodes faulty skew jitter drift round frame ns nl nw nd fr to lf lt lb lq wp wf wt)).take k)) ≠ some []) := fun k hk => prefix_bad (bytesOf_byte hnn) (places_complete d1 d2 d3 hnn).2.1 hk
  have HBY : Hid (∀ x ∈ bytesOf (planNums nodes faulty skew jitter drift round frame ns nl nw nd fr to lf lt lb lq wp wf wt), 0 ≤ x ∧ x < 256) := bytesOf_byte hnn
  have hpos : 1 ≤ (bytesOf (planNums nodes faulty skew jitter drift round frame ns nl nw nd fr to lf lt lb lq wp wf wt)).length := bytesOf_pos _ (by omega)
  have hmax : (bytesOf (planNums nodes faulty skew jitter drift round frame ns nl nw nd fr to lf lt lb lq wp wf wt)).length ≤ 2000 := Nat.le_trans (bytesOf_len _) (by omega)
  have HD : Hid (∀ (base : Nat) (v : Value) (u : World), u.ownsRow base 5 1 v (bytesOf (planNums nodes faulty skew jitter drift round frame ns nl nw nd fr to lf lt lb lq wp wf wt)).length ((bytesOf (planNums nodes faulty skew jitter drift round frame ns nl nw nd fr to lf lt lb lq wp wf wt)).map (Value.int .u8)) → Calls Try.prog 7 #[v] u fun ev w' => ∃ sb sd ln ld wn we, ev = .returned (.tuple #[.agg #[.int .i64 nodes, .int .i64 faulty, .int .i64 skew, .int .i64 jitter, .int .i64 drift, .int .i64 round, .slice sb ns sd, .slice ln nl ld, .int .i64 frame, .slice wn nw we], .nilIface]) ∧ Rows3 w' sb ns nd fr to ∧ Rows4 w' ln nl lf lt lb lq ∧ Rows3 w' wn nw wp wf wt ∧ Below u.heap.size u w') := fun base v u ho => decode_written nodes faulty skew jitter drift round frame ns nl nw nd fr to lf lt lb lq wp wf wt I base v u HC.out ho
  generalize bytesOf (planNums nodes faulty skew jitter drift round frame ns nl nw nd fr to lf lt lb lq wp wf wt) = bs at HE HPX HBY hpos hmax HD
  clear hnn hl0 HC
  obtain ⟨x0, x1, x2, x3, x4, x5, x6, x7, x8, x9⟩ := hc.below (Below.refl _ _)
  go_wp2_with fail
  refine HE.mono ?_
  clear HE x0 x1 x2 x3 x4 x5 x6 x7 x8 x9
  rintro ev w2 ⟨v, rfl, ho, hb2⟩
  replace hs := hs.below hb2
  replace hl := hl.below hb2
  replace hw := hw.below hb2
  replace hc := hc.below hb2
  replace hV := hV.trans (hb2.mono hV.size)
  clear hb2
  have HDD := HD.out _ v w2 ho
  obtain ⟨g, cap, rfl, hcap, hg, hcell⟩ := owns_row_cap ho hpos
  clear HD ho
  go_wp2_with fail
  refine HDD.mono ?_
  clear HDD
  rintro ev w3 ⟨sb, sd, ln, ld, wn, we, rfl, rs, rl, rw', hb3⟩
  replace hs := hs.below hb3
  replace hl := hl.below hb3
  replace hw := hw.below hb3
  replace hc := hc.below hb3
  replace hV := hV.trans (hb3.mono hV.size)
  have hcell3 : Hid (∀ j (hj : j < bs.length), w3.cell? ⟨g, 0 + j, none⟩ = some (.int .u8 bs[j])) := fun j hj => keep_cell (hcell j hj) hb3
  have hg3 : g < w3.heap.size := Nat.lt_of_lt_of_le hg hb3.size
  clear hb3 hcell hg
  obtain ⟨k, hk, hkv⟩ := pick_val cut bs.length hpos hmax
  obtain ⟨n, hn⟩ : ∃ n, bs.length = n := ⟨_, rfl⟩
  have HN : Hid (bs.length = n) := hn
  rw [hn] at hk hkv hcap hpos hmax
  rw [hn]
  clear hn
  have hlt : w.heap.size < w3.heap.size := lt_of_cell hc.1
  obtain ⟨U, hUe⟩ : ∃ U, U = w3.alloc (.cells #[.int .i64 nodes, .int .i64 faulty, .int .i64 skew, .int .i64 jitter, .int .i64 drift, .int .i64 round, .slice sb ns sd, .slice ln nl ld, .int .i64 frame, .slice wn nw we] 26) := ⟨_, rfl⟩
  have hU : Below w3.heap.size w3 U := by rw [hUe]; exact (Below.refl _ _).alloc (Nat.le_refl _) _
  have hcU : Cells10 w3.heap.size nodes faulty skew jitter drift round frame sb ln wn ns sd nl ld nw we U := by rw [hUe]; exact (box10 nodes faulty skew jitter drift round frame sb ln wn ns sd nl ld nw we w3 26).1
  go_wp2_with fail
  rw [← hUe]
  clear hUe
  refine (pick_any cut n k hpos hmax hkv U).mono ?_
  rintro ev w4 ⟨rfl, rfl⟩
  have k1 : (k : Int) ≤ (cap : Int) := by omega
  have k2 : (0 : Int) ≤ (k : Int) := by omega
  go_wp2_with fail
  have hkl : (bs.take k).length = k := by simp [HN.out]; omega
  have HF := decode_form (some ⟨g, 0, none⟩) cap (bs.take k) w4 (fun h0 => ⟨g, 0, rfl, Nat.lt_of_lt_of_le hg3 hU.size, fun j h => by
    have h' : j < bs.length := by rw [List.length_take] at h; omega
    rw [List.getElem_take]; exact keep_cell (hcell3.out j h') hU⟩) (fun x hx => HBY.out x (List.mem_of_mem_take hx)) (by rw [hkl]; omega) (by rw [hkl]; omega) (HPX.out k (by rw [HN.out]; exact hk))
  rw [hkl] at HF
  refine HF.mono ?_
  clear HF
  rintro ev w5 ⟨rfl, hb5⟩
  have h35 : Below w3.heap.size w3 w5 := hU.trans (hb5.mono hU.size)
  have hX : Below w5.heap.size w5 (w5.alloc (.cells #[.int .i64 0, .int .i64 0, .int .i64 0, .int .i64 0, .int .i64 0, .int .i64 0, .slice none 0 0, .slice none 0 0, .int .i64 0, .slice none 0 0] 26)) := (Below.refl _ _).alloc (Nat.le_refl _) _
  have h3X := h35.trans (hX.mono h35.size)
  have h4X := hb5.trans (hX.mono hb5.size)
  obtain ⟨x0, x1, x2, x3, x4, x5, x6, x7, x8, x9⟩ := hc.below h3X
  obtain ⟨y0, y1, y2, y3, y4, y5, y6, y7, y8, y9⟩ := hcU.below h4X
  have hl1 : w.heap.size < w5.heap.size := Nat.lt_of_lt_of_le hlt h35.size
  have hl2 : w3.heap.size < w5.heap.size := lt_of_cell (hcU.below hb5).1
  have HS := same_any nodes faulty skew jitter drift round frame sa la wa sb ln wn ns sc sd nl lc ld nw wc we nd fr to lf lt lb lq wp wf wt _ (by omega) (by omega) (by omega) (hs.below h3X) (hl.below h3X) (hw.below h3X) (rs.below h3X) (rl.below h3X) (rw'.below h3X)
  clear hs hl hw rs rl rw' hcU
  go_wp2_with fail
  refine HS.mono ?_
  clear HS x0 x1 x2 x3 x4 x5 x6 x7 x8 x9 y0 y1 y2 y3 y4 y5 y6 y7 y8 y9
  rintro ev w6 ⟨rfl, hb6⟩
  go_wp2
  go_ret
  exact ⟨rfl, (hV.trans (h3X.mono hV.size)).trans (hb6.mono (by have := h3X.size; have := hV.size; omega))⟩
end Go.Proofs.Ytlpojkehbhkdiaa
