/- PlanChecks, walked: of every plan it answers true. Conditions: package errors' own variable and the document's answer's variable Fine hold what their texts say. -/
import Derived.Test.YtlpojkehbhkdiaaDoorPlanCheck
import Derived.Test.YtlpojkehbhkdiaaDoorRefCheck
import Derived.Test.YtlpojkehbhkdiaaDoorTell
import Derived.Test.YtlpojkehbhkdiaaDoorPlaceErr
import Derived.Test.YtlpojkehbhkdiaaDoorOpenPlan
namespace Go.Proofs.YtlpojkehbhkdiaaDoor
open Go.RowKit

/-- What the word 'small' reckons (lengths so great that their sum wraps round count as they come out). -/
def smallB (ns nl nw : Nat) : Bool := decide (wrap64 (wrap64 ((ns : Int) + (nl : Int)) + (nw : Int)) ≤ 120)
set_option maxRecDepth 100000 in
set_option maxHeartbeats 1000000 in
theorem small_any (nodes faulty skew jitter drift round frame : Int) (sa la wa : Option Addr) (ns sc nl lc nw wc : Nat) (w : World) :
    Calls Tryd.prog 6 #[.agg #[.int .i64 nodes, .int .i64 faulty, .int .i64 skew, .int .i64 jitter, .int .i64 drift, .int .i64 round, .slice sa ns sc, .slice la nl lc, .int .i64 frame, .slice wa nw wc]] w fun ev w' => ev = .returned (.bool (smallB ns nl nw)) ∧ Below w.heap.size w w' := by
  go_enter Tryd.func6, Tryd.ntmps6
  go_wp2
  go_ret
  exact ⟨rfl, (Below.refl _ _).alloc (Nat.le_refl _) _⟩

set_option maxRecDepth 100000 in
set_option maxHeartbeats 4000000 in
theorem planChecks_small (nodes faulty skew jitter drift round frame : Int) (sa la wa : Option Addr) (ns sc nl lc nw wc : Nat) (nd fr to lf lt lb lq : Nat → Int) (hit : Nat → Bool) (pw : Int) (wp wf wt : Nat → Int) (E I : Int) (w : World)
    (hs : Rows3 w sa ns nd fr to) (hl : Rows4 w la nl lf lt lb lq) (hw : Rows3 w wa nw wp wf wt) (hpw : (2 : Int) ^ nodes.toNat = pw) (hhit : ∀ j, 0 ≤ lf j → lf j ≤ 15 → hit j = (bits BinOp.and .i64 (lt j) (2 ^ (lf j).toNat) != 0))
    (hC : CheckIs nodes faulty skew jitter drift round frame ns nl nw nd fr to lf lt lb lq hit pw wp wf wt E I) (hT : Told w) (hfine : Fine0 w) (hsm : smallB ns nl nw = true) :
    Calls Tryd.prog 3 #[.agg #[.int .i64 nodes, .int .i64 faulty, .int .i64 skew, .int .i64 jitter, .int .i64 drift, .int .i64 round, .slice sa ns sc, .slice la nl lc, .int .i64 frame, .slice wa nw wc]] w fun ev w' => ev = .returned (.bool true) ∧ Below w.heap.size w w' := by
  obtain ⟨hc, hV⟩ := box10 nodes faulty skew jitter drift round frame sa la wa ns sc nl lc nw wc w 26
  have H1 : Hid (∀ u : World, Calls Tryd.prog 6 #[.agg #[.int .i64 nodes, .int .i64 faulty, .int .i64 skew, .int .i64 jitter, .int .i64 drift, .int .i64 round, .slice sa ns sc, .slice la nl lc, .int .i64 frame, .slice wa nw wc]] u fun ev w' => ev = .returned (.bool true) ∧ Below u.heap.size u w') := fun u => hsm ▸ small_any nodes faulty skew jitter drift round frame sa la wa ns sc nl lc nw wc u
  have H2 : Hid (∀ u : World, Below w.heap.size w u → Calls Tryd.prog 8 #[.agg #[.int .i64 nodes, .int .i64 faulty, .int .i64 skew, .int .i64 jitter, .int .i64 drift, .int .i64 round, .slice sa ns sc, .slice la nl lc, .int .i64 frame, .slice wa nw wc]] u fun ev w' => ∃ X, ev = .returned X ∧ ErrIs w' X E I ∧ Below u.heap.size u w') := fun u hu =>
    check_any nodes faulty skew jitter drift round frame sa la wa ns sc nl lc nw wc nd fr to lf lt lb lq hit pw wp wf wt E I u (hs.below hu) (hl.below hu) (hw.below hu) hpw hhit hC
  have H3 : Hid (∀ u : World, Below w.heap.size w u → Calls Tryd.prog 9 #[.agg #[.int .i64 nodes, .int .i64 faulty, .int .i64 skew, .int .i64 jitter, .int .i64 drift, .int .i64 round, .slice sa ns sc, .slice la nl lc, .int .i64 frame, .slice wa nw wc]] u fun ev w' => ev = .returned (.agg #[.int .i64 E, .int .i64 I]) ∧ Below u.heap.size u w') := fun u hu =>
    refCheck_any nodes faulty skew jitter drift round frame sa la wa ns sc nl lc nw wc nd fr to lf lt lb lq hit pw wp wf wt E I u (hs.below hu) (hl.below hu) (hw.below hu) hpw hhit (hfine.below hu) hC
  clear hs hl hw hpw hhit hC hsm hfine
  go_enter Tryd.func3, Tryd.ntmps3
  go_wp2_with fail
  generalize w.alloc (.cells #[.int .i64 nodes, .int .i64 faulty, .int .i64 skew, .int .i64 jitter, .int .i64 drift, .int .i64 round, .slice sa ns sc, .slice la nl lc, .int .i64 frame, .slice wa nw wc] 26) = V at hc hV ⊢
  have hW : Below V.heap.size V V := Below.refl _ _
  have hV2 : Below w.heap.size w V := hV
  obtain ⟨c0, c1, c2, c3, c4, c5, c6, c7, c8, c9⟩ := hc.below hW
  go_region_held3 (fun u => u.cell? ⟨w.heap.size, 0, none⟩ = some (.int .i64 nodes) ∧ u.cell? ⟨w.heap.size, 1, none⟩ = some (.int .i64 faulty) ∧ u.cell? ⟨w.heap.size, 2, none⟩ = some (.int .i64 skew) ∧ u.cell? ⟨w.heap.size, 3, none⟩ = some (.int .i64 jitter) ∧ u.cell? ⟨w.heap.size, 4, none⟩ = some (.int .i64 drift) ∧ u.cell? ⟨w.heap.size, 5, none⟩ = some (.int .i64 round) ∧ u.cell? ⟨w.heap.size, 6, none⟩ = some (.slice sa ns sc) ∧ u.cell? ⟨w.heap.size, 7, none⟩ = some (.slice la nl lc) ∧ u.cell? ⟨w.heap.size, 8, none⟩ = some (.int .i64 frame) ∧ u.cell? ⟨w.heap.size, 9, none⟩ = some (.slice wa nw wc)) (go_keep) (first
    | (go_at_call 6; refine (H1.out _).mono ?_; rintro e u1 ⟨rfl, hu1⟩; have hW1 := stepD hW hu1; obtain ⟨c0, c1, c2, c3, c4, c5, c6, c7, c8, c9⟩ := hc.below hW1)
    | (go_at_call 8; refine (H2.out _ (hV2.trans (hW1.mono hV2.size))).mono ?_; rintro e u2 ⟨X, rfl, hX, hu2⟩; have hW2 := stepB hW1 hu2; obtain ⟨c0, c1, c2, c3, c4, c5, c6, c7, c8, c9⟩ := hc.below hW2)
    | (go_at_call 9; refine (H3.out _ (hV2.trans (hW2.mono hV2.size))).mono ?_; rintro e u3 ⟨rfl, hu3⟩; have hW3 := stepB hW2 hu3; have hX3 := hX.below hu3; obtain ⟨c0, c1, c2, c3, c4, c5, c6, c7, c8, c9⟩ := hc.below hW3)
    | (go_at_call 7; refine (is_any X E I _ (place_err hX3) (hT.below (hV2.trans (hW3.mono hV2.size)))).mono ?_; rintro e u4 ⟨rfl, hu4⟩; have hW4 := stepB hW3 hu4; obtain ⟨c0, c1, c2, c3, c4, c5, c6, c7, c8, c9⟩ := hc.below hW4))
  go_wp2
  go_ret
  exact ⟨rfl, hV2.trans (hW4.mono hV2.size)⟩
end Go.Proofs.YtlpojkehbhkdiaaDoor
