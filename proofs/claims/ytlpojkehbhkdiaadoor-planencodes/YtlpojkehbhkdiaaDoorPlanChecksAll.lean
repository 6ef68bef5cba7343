/- PlanChecks, walked: of every plan it answers true (a plan that is too great, and any other). (Made by tools/gen_planchecks.py.) -/
import Derived.Test.YtlpojkehbhkdiaaDoorSteps
import Derived.Test.YtlpojkehbhkdiaaDoorPlanChecksLaw
namespace Go.Proofs.YtlpojkehbhkdiaaDoor
open Go.RowKit

set_option maxRecDepth 100000 in
set_option maxHeartbeats 4000000 in
theorem planChecks_great (nodes faulty skew jitter drift round frame : Int) (sa la wa : Option Addr) (ns sc nl lc nw wc : Nat) (w : World) (hsm : smallB ns nl nw = false) :
    Calls Tryd.prog 3 #[.agg #[.int .i64 nodes, .int .i64 faulty, .int .i64 skew, .int .i64 jitter, .int .i64 drift, .int .i64 round, .slice sa ns sc, .slice la nl lc, .int .i64 frame, .slice wa nw wc]] w fun ev w' => ev = .returned (.bool true) ∧ Below w.heap.size w w' := by
  obtain ⟨hc, hV⟩ := box10 nodes faulty skew jitter drift round frame sa la wa ns sc nl lc nw wc w 26
  have H1 : Hid (∀ u : World, Calls Tryd.prog 6 #[.agg #[.int .i64 nodes, .int .i64 faulty, .int .i64 skew, .int .i64 jitter, .int .i64 drift, .int .i64 round, .slice sa ns sc, .slice la nl lc, .int .i64 frame, .slice wa nw wc]] u fun ev w' => ev = .returned (.bool false) ∧ Below u.heap.size u w') := fun u => hsm ▸ small_any nodes faulty skew jitter drift round frame sa la wa ns sc nl lc nw wc u
  clear hsm
  go_enter Tryd.func3, Tryd.ntmps3
  go_wp2_with fail
  generalize w.alloc (.cells #[.int .i64 nodes, .int .i64 faulty, .int .i64 skew, .int .i64 jitter, .int .i64 drift, .int .i64 round, .slice sa ns sc, .slice la nl lc, .int .i64 frame, .slice wa nw wc] 26) = V at hc hV ⊢
  have hW : Below V.heap.size V V := Below.refl _ _
  obtain ⟨c0, c1, c2, c3, c4, c5, c6, c7, c8, c9⟩ := hc.below hW
  refine wp_region_held_drew (S := fun u => u.cell? ⟨w.heap.size, 0, none⟩ = some (.int .i64 nodes) ∧ u.cell? ⟨w.heap.size, 1, none⟩ = some (.int .i64 faulty) ∧ u.cell? ⟨w.heap.size, 2, none⟩ = some (.int .i64 skew) ∧ u.cell? ⟨w.heap.size, 3, none⟩ = some (.int .i64 jitter) ∧ u.cell? ⟨w.heap.size, 4, none⟩ = some (.int .i64 drift) ∧ u.cell? ⟨w.heap.size, 5, none⟩ = some (.int .i64 round) ∧ u.cell? ⟨w.heap.size, 6, none⟩ = some (.slice sa ns sc) ∧ u.cell? ⟨w.heap.size, 7, none⟩ = some (.slice la nl lc) ∧ u.cell? ⟨w.heap.size, 8, none⟩ = some (.int .i64 frame) ∧ u.cell? ⟨w.heap.size, 9, none⟩ = some (.slice wa nw wc)) (by kernel_rfl) (by (try dsimp only); go_keep) (fun hHeld => ?_)
  refine tk 0 hHeld ?_
  refine rdy 1 fun K hK => ?_
  go_simp
  (go_at_call 6; refine (H1.out _).mono ?_; rintro e u1 ⟨rfl, hu1⟩; have hW1 := stepD hW hu1; obtain ⟨c0, c1, c2, c3, c4, c5, c6, c7, c8, c9⟩ := hc.below hW1)
  refine kp hK fun hHeld => ?_
  clear hK K
  refine tk 2 hHeld ?_
  refine tk 3 hHeld ?_
  refine wpAnyH_skips (fuel := 2) (by kernel_rfl) (fun _ _ _ _ h => h) hHeld [(4, 7), (5, 8), (6, 9), (7, 10), (8, 11)] (by kernel_rfl) ?_
  simp only [skipA, List.foldl_cons, List.foldl_nil, Act.put, zA, zB, zC]
  refine tk 9 hHeld ?_
  refine tk 10 hHeld ?_
  refine dn ?_
  go_wp2
  go_ret
  exact ⟨rfl, hV.trans (hW1.mono hV.size)⟩

/-- There is always an answer of Check. -/
theorem CheckIs.any (nodes faulty skew jitter drift round frame : Int) (ns nl nw : Nat) (nd fr to lf lt lb lq : Nat → Int) (hit : Nat → Bool) (pw : Int) (wp wf wt : Nat → Int) : ∃ E I, CheckIs nodes faulty skew jitter drift round frame ns nl nw nd fr to lf lt lb lq hit pw wp wf wt E I := by
  by_cases h : headErr nodes faulty skew jitter drift round frame ns nl nw = 0
  · obtain ⟨e1, i1, g1⟩ := FirstBad.any (slotErr nd fr to nodes skew round) ns
    obtain ⟨e2, i2, g2⟩ := FirstBad.any (linkErr lf lt lb lq hit nodes pw) nl
    obtain ⟨e3, i3, g3⟩ := FirstBad.any (winErr wp wf wt frame) nw
    by_cases z1 : e1 = 0
    · by_cases z2 : e2 = 0
      · by_cases z3 : e3 = 0
        · exact ⟨0, -1, .inr ⟨h, e1, i1, e2, i2, e3, i3, g1, g2, g3, fun q => absurd z1 q, fun _ q => absurd z2 q, fun _ _ q => absurd z3 q, fun _ _ _ => ⟨rfl, rfl⟩⟩⟩
        · exact ⟨e3, 2000 + i3, .inr ⟨h, e1, i1, e2, i2, e3, i3, g1, g2, g3, fun q => absurd z1 q, fun _ q => absurd z2 q, fun _ _ _ => ⟨rfl, rfl⟩, fun _ _ q => absurd q z3⟩⟩
      · exact ⟨e2, 1000 + i2, .inr ⟨h, e1, i1, e2, i2, e3, i3, g1, g2, g3, fun q => absurd z1 q, fun _ _ => ⟨rfl, rfl⟩, fun _ q => absurd q z2, fun _ q => absurd q z2⟩⟩
    · exact ⟨e1, i1, .inr ⟨h, e1, i1, e2, i2, e3, i3, g1, g2, g3, fun _ => ⟨rfl, rfl⟩, fun q => absurd q z1, fun q => absurd q z1, fun q => absurd q z1⟩⟩
  · exact ⟨_, -1, .inl ⟨h, rfl, rfl⟩⟩

theorem planChecks_any (nodes faulty skew jitter drift round frame : Int) (sa la wa : Option Addr) (ns sc nl lc nw wc : Nat) (nd fr to lf lt lb lq wp wf wt : Nat → Int) (w : World)
    (hs : Rows3 w sa ns nd fr to) (hl : Rows4 w la nl lf lt lb lq) (hw : Rows3 w wa nw wp wf wt) (hT : Told w) (hfine : Fine0 w) :
    Calls Tryd.prog 3 #[.agg #[.int .i64 nodes, .int .i64 faulty, .int .i64 skew, .int .i64 jitter, .int .i64 drift, .int .i64 round, .slice sa ns sc, .slice la nl lc, .int .i64 frame, .slice wa nw wc]] w fun ev w' => ev = .returned (.bool true) ∧ Below w.heap.size w w' := by
  cases h : smallB ns nl nw
  · exact planChecks_great nodes faulty skew jitter drift round frame sa la wa ns sc nl lc nw wc w h
  · obtain ⟨E, I, hC⟩ := CheckIs.any nodes faulty skew jitter drift round frame ns nl nw nd fr to lf lt lb lq (fun j => bits BinOp.and .i64 (lt j) (2 ^ (lf j).toNat) != 0) ((2 : Int) ^ nodes.toNat) wp wf wt
    exact planChecks_small nodes faulty skew jitter drift round frame sa la wa ns sc nl lc nw wc nd fr to lf lt lb lq _ _ wp wf wt E I w hs hl hw rfl (fun _ _ _ => rfl) hC hT hfine h
end Go.Proofs.YtlpojkehbhkdiaaDoor
