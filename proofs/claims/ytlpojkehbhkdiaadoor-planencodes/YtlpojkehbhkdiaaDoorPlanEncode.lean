/- The program's Encode: Check's error; else the plan's numbers' bytes, in new memory. -/
import Derived.Test.YtlpojkehbhkdiaaDoorPlanWrite
import Derived.Test.YtlpojkehbhkdiaaDoorPlanCheck
namespace Go.Proofs.YtlpojkehbhkdiaaDoor
open Go.RowKit

set_option maxRecDepth 100000 in
set_option maxHeartbeats 1000000 in
theorem encode_bad (nodes faulty skew jitter drift round frame : Int) (sa la wa : Option Addr) (ns sc nl lc nw wc : Nat) (E I : Int) (w : World) (hE : E ≠ 0)
    (hc : ∀ v : World, Below w.heap.size w v → Calls Tryd.prog 8 #[.agg #[.int .i64 nodes, .int .i64 faulty, .int .i64 skew, .int .i64 jitter, .int .i64 drift, .int .i64 round, .slice sa ns sc, .slice la nl lc, .int .i64 frame, .slice wa nw wc]] v fun ev w' => ∃ X, ev = .returned X ∧ ErrIs w' X E I ∧ Below v.heap.size v w') :
    Calls Tryd.prog 11 #[.agg #[.int .i64 nodes, .int .i64 faulty, .int .i64 skew, .int .i64 jitter, .int .i64 drift, .int .i64 round, .slice sa ns sc, .slice la nl lc, .int .i64 frame, .slice wa nw wc]] w fun ev w' => ∃ X, ev = .returned (.tuple #[.slice none 0 0, X]) ∧ ErrIs w' X E I ∧ Below w.heap.size w w' := by
  obtain ⟨hcc, hV⟩ := box10 nodes faulty skew jitter drift round frame sa la wa ns sc nl lc nw wc w 26
  have HE : Hid (E ≠ 0) := hE
  clear hE
  go_enter Tryd.func11, Tryd.ntmps11
  go_wp2_with fail
  generalize w.alloc (.cells #[.int .i64 nodes, .int .i64 faulty, .int .i64 skew, .int .i64 jitter, .int .i64 drift, .int .i64 round, .slice sa ns sc, .slice la nl lc, .int .i64 frame, .slice wa nw wc] 26) = V at hcc hV ⊢
  refine (hc V hV).mono ?_
  rintro ev w1 ⟨X, rfl, hX, hb1⟩
  have HX : Hid (ErrIs w1 X E I) := hX
  rcases hX with ⟨_, h0, _⟩ | ⟨rfl, _, _⟩ | ⟨b, rfl, _⟩
  · exact absurd h0 HE.out
  · go_wp2
    go_ret2
    exact ⟨_, rfl, HX.out, hV.trans (hb1.mono hV.size)⟩
  · go_wp2
    go_ret2
    exact ⟨_, rfl, HX.out, hV.trans (hb1.mono hV.size)⟩

theorem bytesOf_pos (L : List Int) (h : 1 ≤ L.length) : 1 ≤ (bytesOf L).length := by
  cases L with
  | nil => simp at h
  | cons x r =>
    have := numB_len 5 x.toNat
    simp [bytesOf]; omega
section
variable {nodes faulty skew jitter drift round frame : Int} {ns nl nw : Nat} {nd fr to lf lt lb lq wp wf wt : Nat → Int} {k : Nat} {x : Int}
theorem mem_slotsTo {f g h : Nat → Int} {n : Nat} (hk : k < n) (hx : x ∈ [f k, g k, h k]) : x ∈ slotsTo f g h n := by
  unfold slotsTo; exact List.mem_flatMap.2 ⟨k, List.mem_range.2 hk, hx⟩
theorem mem_linksTo {f g h i : Nat → Int} {n : Nat} (hk : k < n) (hx : x ∈ [f k, g k, h k, i k]) : x ∈ linksN f g h i n := by
  unfold linksN; exact List.mem_flatMap.2 ⟨k, List.mem_range.2 hk, hx⟩
theorem mem_slot (hk : k < ns) (hx : x ∈ [nd k, fr k, to k]) : x ∈ planNums nodes faulty skew jitter drift round frame ns nl nw nd fr to lf lt lb lq wp wf wt := by
  unfold planNums; simp only [List.mem_append]; exact .inl (.inl (.inl (.inl (.inr (mem_slotsTo hk hx)))))
theorem mem_link (hk : k < nl) (hx : x ∈ [lf k, lt k, lb k, lq k]) : x ∈ planNums nodes faulty skew jitter drift round frame ns nl nw nd fr to lf lt lb lq wp wf wt := by
  unfold planNums; simp only [List.mem_append]; exact .inl (.inl (.inr (mem_linksTo hk hx)))
theorem mem_win (hk : k < nw) (hx : x ∈ [wp k, wf k, wt k]) : x ∈ planNums nodes faulty skew jitter drift round frame ns nl nw nd fr to lf lt lb lq wp wf wt := by
  unfold planNums; simp only [List.mem_append]; exact .inr (mem_slotsTo hk hx)
theorem mem_other (hx : x ∈ [(nl : Int), frame, (nw : Int)]) : x ∈ planNums nodes faulty skew jitter drift round frame ns nl nw nd fr to lf lt lb lq wp wf wt := by
  unfold planNums; simp only [List.mem_append]
  simp at hx
  rcases hx with rfl | rfl | rfl
  · exact .inl (.inl (.inl (.inr (by simp))))
  · exact .inl (.inr (by simp))
  · exact .inl (.inr (by simp))
end

set_option maxRecDepth 100000 in
set_option maxHeartbeats 1000000 in
theorem encode_ok (nodes faulty skew jitter drift round frame : Int) (sa la wa : Option Addr) (ns sc nl lc nw wc : Nat) (nd fr to lf lt lb lq wp wf wt : Nat → Int) (w : World)
    (hs : Rows3 w sa ns nd fr to) (hl : Rows4 w la nl lf lt lb lq) (hw : Rows3 w wa nw wp wf wt) (d1 : ns ≤ 32) (d2 : nl ≤ 8) (d3 : nw ≤ 32)
    (hnn : ∀ x ∈ planNums nodes faulty skew jitter drift round frame ns nl nw nd fr to lf lt lb lq wp wf wt, 0 ≤ x ∧ x ≤ 1099511627776)
    (hc : ∀ v : World, Below w.heap.size w v → Calls Tryd.prog 8 #[.agg #[.int .i64 nodes, .int .i64 faulty, .int .i64 skew, .int .i64 jitter, .int .i64 drift, .int .i64 round, .slice sa ns sc, .slice la nl lc, .int .i64 frame, .slice wa nw wc]] v fun ev w' => ∃ X, ev = .returned X ∧ ErrIs w' X 0 (-1) ∧ Below v.heap.size v w') :
    Calls Tryd.prog 11 #[.agg #[.int .i64 nodes, .int .i64 faulty, .int .i64 skew, .int .i64 jitter, .int .i64 drift, .int .i64 round, .slice sa ns sc, .slice la nl lc, .int .i64 frame, .slice wa nw wc]] w fun ev w' => ∃ v, ev = .returned (.tuple #[v, .nilIface]) ∧
      w'.ownsRow w.heap.size 5 1 v (bytesOf (planNums nodes faulty skew jitter drift round frame ns nl nw nd fr to lf lt lb lq wp wf wt)).length ((bytesOf (planNums nodes faulty skew jitter drift round frame ns nl nw nd fr to lf lt lb lq wp wf wt)).map (Value.int .u8)) ∧ Below w.heap.size w w' := by
  obtain ⟨hcc, hV⟩ := box10 nodes faulty skew jitter drift round frame sa la wa ns sc nl lc nw wc w 26
  have HNN : Hid (∀ x ∈ planNums nodes faulty skew jitter drift round frame ns nl nw nd fr to lf lt lb lq wp wf wt, 0 ≤ x ∧ x ≤ 1099511627776) := hnn
  clear hnn
  replace hs := hs.below hV
  replace hl := hl.below hV
  replace hw := hw.below hV
  go_enter Tryd.func11, Tryd.ntmps11
  go_wp2_with fail
  generalize w.alloc (.cells #[.int .i64 nodes, .int .i64 faulty, .int .i64 skew, .int .i64 jitter, .int .i64 drift, .int .i64 round, .slice sa ns sc, .slice la nl lc, .int .i64 frame, .slice wa nw wc] 26) = V at hcc hV hs hl hw ⊢
  refine (hc V hV).mono ?_
  clear hc
  rintro ev w1 ⟨X, rfl, hX, hb1⟩
  obtain rfl : X = .nilIface := by
    rcases hX with ⟨h, _⟩ | ⟨_, h, _⟩ | ⟨_, _, h, _⟩
    · exact h
    · exact absurd rfl h
    · exact absurd rfl h
  clear hX
  replace hs := hs.below hb1
  replace hl := hl.below hb1
  replace hw := hw.below hb1
  replace hcc := hcc.below hb1
  replace hV := hV.trans (hb1.mono hV.size)
  clear hb1
  obtain ⟨x0, x1, x2, x3, x4, x5, x6, x7, x8, x9⟩ := hcc.below (Below.refl _ _)
  go_wp2_with fail
  refine (write_new w1.heap.size _ [] [nodes, faulty, skew, jitter, drift, round] _ _ w1 _ rfl rfl (World.ownsRow_nil _ _ _ _) (Nat.le_refl _) (fun x hx => HNN.out x (by simp [planNums]; simp at hx; omega)) (by simp) (by simp)).mono ?_
  rintro ev w2 ⟨v2, rfl, ho2, hB2, hz2⟩
  rw [List.nil_append] at ho2
  have ho2' : Hid (w2.ownsRow w1.heap.size 5 1 v2 (bytesOf ([nodes, faulty, skew, jitter, drift, round])).length ((bytesOf ([nodes, faulty, skew, jitter, drift, round])).map (Value.int .u8))) := ho2
  clear ho2 x0 x1 x2 x3 x4 x5 x6 x7 x8 x9
  obtain ⟨x0, x1, x2, x3, x4, x5, x6, x7, x8, x9⟩ := hcc.below hB2
  clear x0 x1 x2 x3 x4 x5 x7 x8 x9
  go_wp2_with fail
  refine (write_new w1.heap.size _ _ [(ns : Int)] _ _ w2 _ rfl rfl ho2'.out (by omega) (fun x hx => HNN.out x (by simp [planNums]; simp at hx; omega)) (by have := bytesOf_len [nodes, faulty, skew, jitter, drift, round]; simp at this; omega) (by simp)).mono ?_
  rintro ev w3 ⟨v3, rfl, ho3, hB3, hz3⟩
  replace hB3 := hB2.trans hB3
  have ho3' : Hid (w3.ownsRow w1.heap.size 5 1 v3 (bytesOf ([nodes, faulty, skew, jitter, drift, round, (ns : Int)] ++ slotsTo nd fr to 0)).length ((bytesOf ([nodes, faulty, skew, jitter, drift, round, (ns : Int)] ++ slotsTo nd fr to 0)).map (Value.int .u8))) := by
    show World.ownsRow _ _ _ _ _ _ _
    rw [← bytesOf_append] at ho3; simpa [slotsTo] using ho3
  clear ho2' ho3 x6 hB2 hz2 hz3
  obtain ⟨x0, x1, x2, x3, x4, x5, x6, x7, x8, x9⟩ := hcc.below hB3
  clear x0 x1 x2 x3 x4 x5 x7 x8 x9
  have MS : Hid (∀ k, k < ns → ∀ x ∈ [nd k, fr k, to k], 0 ≤ x ∧ x ≤ 1099511627776) := fun k hk x hx => HNN.out x (mem_slot hk hx)
  have ML : Hid (∀ k, k < nl → ∀ x ∈ [lf k, lt k, lb k, lq k], 0 ≤ x ∧ x ≤ 1099511627776) := fun k hk x hx => HNN.out x (mem_link hk hx)
  have MW : Hid (∀ k, k < nw → ∀ x ∈ [wp k, wf k, wt k], 0 ≤ x ∧ x ≤ 1099511627776) := fun k hk x hx => HNN.out x (mem_win hk hx)
  have MO : Hid (∀ x ∈ [(nl : Int), frame, (nw : Int)], 0 ≤ x ∧ x ≤ 1099511627776) := fun x hx => HNN.out x (mem_other hx)
  clear HNN
  go_wp2_with fail
  go_loopw [5, 40] (fun v t wr => ∃ k : Nat, k ≤ ns ∧ t = .int .i64 k ∧ Hid (wr.ownsRow w1.heap.size 5 1 v (bytesOf ([nodes, faulty, skew, jitter, drift, round, (ns : Int)] ++ slotsTo nd fr to k)).length ((bytesOf ([nodes, faulty, skew, jitter, drift, round, (ns : Int)] ++ slotsTo nd fr to k)).map (Value.int .u8))) ∧ Below w1.heap.size w1 wr) (fun _ t _ => ns - (intOf t).toNat)
  case atStart => exact ⟨0, Nat.zero_le _, rfl, ho3', hB3⟩
  case round =>
    obtain ⟨k, hk, rfl, ho, hbe⟩ := hrel
    have hbz := hbe.size
    rcases (show k < ns ∨ ns = k by omega) with hlt | hkk
    · obtain ⟨b, off, rfl, hb, hcl⟩ := hs (by omega)
      obtain ⟨r0, r1, r2⟩ := hcl k hlt
      replace r0 := keep_cell r0 hbe
      replace r1 := keep_cell r1 hbe
      replace r2 := keep_cell r2 hbe
      have hbr : b < wr.heap.size := lt_of_cell r0
      clear hcl
      go_wp2_with fail
      refine (write_new w1.heap.size _ _ [nd k, fr k, to k] _ _ (wr.alloc (.cells #[.int .i64 (nd k), .int .i64 (fr k), .int .i64 (to k)] 56)) (wr.heap.size + 1) (by simp) rfl (owns_below ho.out ((Below.refl _ _).alloc (Nat.le_refl _) _)) (by simp; omega) (MS.out k hlt) (Nat.le_trans (bytesOf_len _) (by simp [slotsTo_len]; omega)) (by simp)).mono ?_
      rintro ev w3 ⟨v3, rfl, ho3, hB3, hz3⟩
      have hb4 : Below w1.heap.size w1 w3 := (hbe.alloc hbe.size _).trans hB3
      have ho4 : Hid (w3.ownsRow w1.heap.size 5 1 v3 (bytesOf ([nodes, faulty, skew, jitter, drift, round, (ns : Int)] ++ slotsTo nd fr to (k + 1))).length ((bytesOf ([nodes, faulty, skew, jitter, drift, round, (ns : Int)] ++ slotsTo nd fr to (k + 1))).map (Value.int .u8))) := by
        show World.ownsRow _ _ _ _ _ _ _
        rw [slotsTo_succ, ← List.append_assoc, bytesOf_append]; exact ho3
      clear ho ho3 r0 r1 r2
      go_wp2
      go_roundw
      case rel => exact ⟨k + 1, by omega, by go_num, ho4, hb4⟩
      case measure => simp [intOf]; omega
    · subst hkk
      clear hk
      obtain ⟨x0, x1, x2, x3, x4, x5, x6, x7, x8, x9⟩ := hcc.below hbe
      clear x0 x1 x2 x3 x4 x5 x6 x8 x9
      go_wp2_with fail
      refine (write_new w1.heap.size _ _ [(nl : Int)] _ _ wr _ rfl rfl ho.out (by omega) (fun x hx => MO.out x (by simp at hx ⊢; omega)) (Nat.le_trans (bytesOf_len _) (by simp [slotsTo_len]; omega)) (by simp)).mono ?_
      rintro ev w5 ⟨v5, rfl, ho5, hB5, hz5⟩
      replace hB5 := hbe.trans hB5
      have ho5' : Hid (w5.ownsRow w1.heap.size 5 1 v5 (bytesOf ([nodes, faulty, skew, jitter, drift, round, (ns : Int)] ++ slotsTo nd fr to ns ++ [(nl : Int)] ++ linksN lf lt lb lq 0)).length ((bytesOf ([nodes, faulty, skew, jitter, drift, round, (ns : Int)] ++ slotsTo nd fr to ns ++ [(nl : Int)] ++ linksN lf lt lb lq 0)).map (Value.int .u8))) := by
        show World.ownsRow _ _ _ _ _ _ _
        rw [← bytesOf_append] at ho5; simpa [linksN] using ho5
      clear ho ho5 x7 hbe hbz hz5
      obtain ⟨x0, x1, x2, x3, x4, x5, x6, x7, x8, x9⟩ := hcc.below hB5
      clear x0 x1 x2 x3 x4 x5 x6 x8 x9
      go_wp2_with fail
      rename World => wy
      go_loopw [5, 65] (fun v t wr => ∃ k : Nat, k ≤ nl ∧ t = .int .i64 k ∧ Hid (wr.ownsRow w1.heap.size 5 1 v (bytesOf ([nodes, faulty, skew, jitter, drift, round, (ns : Int)] ++ slotsTo nd fr to ns ++ [(nl : Int)] ++ linksN lf lt lb lq k)).length ((bytesOf ([nodes, faulty, skew, jitter, drift, round, (ns : Int)] ++ slotsTo nd fr to ns ++ [(nl : Int)] ++ linksN lf lt lb lq k)).map (Value.int .u8))) ∧ Below w1.heap.size w1 wr) (fun _ t _ => nl - (intOf t).toNat)
      case atStart => exact ⟨0, Nat.zero_le _, rfl, ho5', hB5⟩
      case round =>
        obtain ⟨k, hk, rfl, ho, hbe⟩ := hrel
        have hbz := hbe.size
        rcases (show k < nl ∨ nl = k by omega) with hlt | hkk
        · obtain ⟨b, off, rfl, hb, hcl⟩ := hl (by omega)
          obtain ⟨r0, r1, r2, r3⟩ := hcl k hlt
          replace r0 := keep_cell r0 hbe
          replace r1 := keep_cell r1 hbe
          replace r2 := keep_cell r2 hbe
          replace r3 := keep_cell r3 hbe
          have hbr : b < wr.heap.size := lt_of_cell r0
          clear hcl
          go_wp2_with fail
          refine (write_new w1.heap.size _ _ [lf k, lt k, lb k, lq k] _ _ (wr.alloc (.cells #[.int .i64 (lf k), .int .i64 (lt k), .int .i64 (lb k), .int .i64 (lq k)] 58)) (wr.heap.size + 1) (by simp) rfl (owns_below ho.out ((Below.refl _ _).alloc (Nat.le_refl _) _)) (by simp; omega) (ML.out k hlt) (Nat.le_trans (bytesOf_len _) (by simp [slotsTo_len, linksN_len]; omega)) (by simp)).mono ?_
          rintro ev w3 ⟨v3, rfl, ho3, hB3, hz3⟩
          have hb4 : Below w1.heap.size w1 w3 := (hbe.alloc hbe.size _).trans hB3
          have ho4 : Hid (w3.ownsRow w1.heap.size 5 1 v3 (bytesOf ([nodes, faulty, skew, jitter, drift, round, (ns : Int)] ++ slotsTo nd fr to ns ++ [(nl : Int)] ++ linksN lf lt lb lq (k + 1))).length ((bytesOf ([nodes, faulty, skew, jitter, drift, round, (ns : Int)] ++ slotsTo nd fr to ns ++ [(nl : Int)] ++ linksN lf lt lb lq (k + 1))).map (Value.int .u8))) := by
            show World.ownsRow _ _ _ _ _ _ _
            rw [linksN_succ, ← List.append_assoc, bytesOf_append]; exact ho3
          clear ho ho3 r0 r1 r2 r3
          go_wp2
          go_roundw
          case rel => exact ⟨k + 1, by omega, by go_num, ho4, hb4⟩
          case measure => simp [intOf]; omega
        · subst hkk
          clear hk
          obtain ⟨x0, x1, x2, x3, x4, x5, x6, x7, x8, x9⟩ := hcc.below hbe
          clear x0 x1 x2 x3 x4 x5 x6 x7
          go_wp2_with fail
          refine (write_new w1.heap.size _ _ [frame, (nw : Int)] _ _ wr _ rfl rfl ho.out (by omega) (fun x hx => MO.out x (by simp at hx ⊢; omega)) (Nat.le_trans (bytesOf_len _) (by simp [slotsTo_len, linksN_len]; omega)) (by simp)).mono ?_
          rintro ev w6 ⟨v6, rfl, ho6, hB6, hz6⟩
          replace hB6 := hbe.trans hB6
          have ho6' : Hid (w6.ownsRow w1.heap.size 5 1 v6 (bytesOf ([nodes, faulty, skew, jitter, drift, round, (ns : Int)] ++ slotsTo nd fr to ns ++ [(nl : Int)] ++ linksN lf lt lb lq nl ++ [frame, (nw : Int)] ++ slotsTo wp wf wt 0)).length ((bytesOf ([nodes, faulty, skew, jitter, drift, round, (ns : Int)] ++ slotsTo nd fr to ns ++ [(nl : Int)] ++ linksN lf lt lb lq nl ++ [frame, (nw : Int)] ++ slotsTo wp wf wt 0)).map (Value.int .u8))) := by
            show World.ownsRow _ _ _ _ _ _ _
            rw [← bytesOf_append] at ho6; simpa [slotsTo] using ho6
          clear ho ho6 x8 x9 hbe hbz hz6
          obtain ⟨x0, x1, x2, x3, x4, x5, x6, x7, x8, x9⟩ := hcc.below hB6
          clear x0 x1 x2 x3 x4 x5 x6 x7 x8
          go_wp2_with fail
          rename World => wz
          go_loopw [5, 92] (fun v t wr => ∃ k : Nat, k ≤ nw ∧ t = .int .i64 k ∧ Hid (wr.ownsRow w1.heap.size 5 1 v (bytesOf ([nodes, faulty, skew, jitter, drift, round, (ns : Int)] ++ slotsTo nd fr to ns ++ [(nl : Int)] ++ linksN lf lt lb lq nl ++ [frame, (nw : Int)] ++ slotsTo wp wf wt k)).length ((bytesOf ([nodes, faulty, skew, jitter, drift, round, (ns : Int)] ++ slotsTo nd fr to ns ++ [(nl : Int)] ++ linksN lf lt lb lq nl ++ [frame, (nw : Int)] ++ slotsTo wp wf wt k)).map (Value.int .u8))) ∧ Below w1.heap.size w1 wr) (fun _ t _ => nw - (intOf t).toNat)
          case atStart => exact ⟨0, Nat.zero_le _, rfl, ho6', hB6⟩
          case round =>
            obtain ⟨k, hk, rfl, ho, hbe⟩ := hrel
            have hbz := hbe.size
            rcases (show k < nw ∨ nw = k by omega) with hlt | hkk
            · obtain ⟨b, off, rfl, hb, hcl⟩ := hw (by omega)
              obtain ⟨r0, r1, r2⟩ := hcl k hlt
              replace r0 := keep_cell r0 hbe
              replace r1 := keep_cell r1 hbe
              replace r2 := keep_cell r2 hbe
              have hbr : b < wr.heap.size := lt_of_cell r0
              clear hcl
              go_wp2_with fail
              refine (write_new w1.heap.size _ _ [wp k, wf k, wt k] _ _ (wr.alloc (.cells #[.int .i64 (wp k), .int .i64 (wf k), .int .i64 (wt k)] 61)) (wr.heap.size + 1) (by simp) rfl (owns_below ho.out ((Below.refl _ _).alloc (Nat.le_refl _) _)) (by simp; omega) (MW.out k hlt) (Nat.le_trans (bytesOf_len _) (by simp [slotsTo_len, linksN_len]; omega)) (by simp)).mono ?_
              rintro ev w3 ⟨v3, rfl, ho3, hB3, hz3⟩
              have hb4 : Below w1.heap.size w1 w3 := (hbe.alloc hbe.size _).trans hB3
              have ho4 : Hid (w3.ownsRow w1.heap.size 5 1 v3 (bytesOf ([nodes, faulty, skew, jitter, drift, round, (ns : Int)] ++ slotsTo nd fr to ns ++ [(nl : Int)] ++ linksN lf lt lb lq nl ++ [frame, (nw : Int)] ++ slotsTo wp wf wt (k + 1))).length ((bytesOf ([nodes, faulty, skew, jitter, drift, round, (ns : Int)] ++ slotsTo nd fr to ns ++ [(nl : Int)] ++ linksN lf lt lb lq nl ++ [frame, (nw : Int)] ++ slotsTo wp wf wt (k + 1))).map (Value.int .u8))) := by
                show World.ownsRow _ _ _ _ _ _ _
                rw [slotsTo_succ, ← List.append_assoc, bytesOf_append]; exact ho3
              clear ho ho3 r0 r1 r2
              go_wp2
              go_roundw
              case rel => exact ⟨k + 1, by omega, by go_num, ho4, hb4⟩
              case measure => simp [intOf]; omega
            · subst hkk
              clear hk
              have hbl := bytesOf_len ([nodes, faulty, skew, jitter, drift, round, (ns : Int)] ++ slotsTo nd fr to ns ++ [(nl : Int)] ++ linksN lf lt lb lq nl ++ [frame, (nw : Int)] ++ slotsTo wp wf wt nw)
              simp only [List.length_append, slotsTo_len, linksN_len, List.length_cons, List.length_nil] at hbl
              have hbp : 1 ≤ (bytesOf ([nodes, faulty, skew, jitter, drift, round, (ns : Int)] ++ slotsTo nd fr to ns ++ [(nl : Int)] ++ linksN lf lt lb lq nl ++ [frame, (nw : Int)] ++ slotsTo wp wf wt nw)).length := bytesOf_pos _ (by simp)
              obtain ⟨N, hN⟩ : ∃ N, (bytesOf ([nodes, faulty, skew, jitter, drift, round, (ns : Int)] ++ slotsTo nd fr to ns ++ [(nl : Int)] ++ linksN lf lt lb lq nl ++ [frame, (nw : Int)] ++ slotsTo wp wf wt nw)).length = N := ⟨_, rfl⟩
              have hoN := ho.out
              rw [hN] at hoN hbp hbl
              have HNL : Hid ((bytesOf ([nodes, faulty, skew, jitter, drift, round, (ns : Int)] ++ slotsTo nd fr to ns ++ [(nl : Int)] ++ linksN lf lt lb lq nl ++ [frame, (nw : Int)] ++ slotsTo wp wf wt nw)).length = N) := hN
              obtain ⟨g1, cap1, rfl, hg1, hc1⟩ := owns_some hoN hbp
              have HON : Hid (World.ownsRow _ _ _ _ _ _ _) := hoN
              have hdec : decide ((2000 : Int) < (N : Int)) = false := decide_eq_false (by omega)
              clear hc1 ho hN hoN
              go_wp2
              go_ret2
              refine ⟨_, rfl, ?_, hV.trans (hbe.mono hV.size)⟩
              have e : planNums nodes faulty skew jitter drift round frame ns nl nw nd fr to lf lt lb lq wp wf wt = [nodes, faulty, skew, jitter, drift, round, (ns : Int)] ++ slotsTo nd fr to ns ++ [(nl : Int)] ++ linksN lf lt lb lq nl ++ [frame, (nw : Int)] ++ slotsTo wp wf wt nw := rfl
              rw [e, HNL.out]
              exact owns_mono HON.out hV.size
end Go.Proofs.YtlpojkehbhkdiaaDoor
