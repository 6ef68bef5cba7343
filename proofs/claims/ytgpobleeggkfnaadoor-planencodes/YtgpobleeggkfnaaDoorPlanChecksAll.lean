/- PlanChecks, walked: of every plan it answers true (a plan that is too great, and any other). (Made by tools/gen_planchecks.py.) -/
import Derived.Test.YtgpobleeggkfnaaDoorPlanChecksLaw
namespace Go.Proofs.YtgpobleeggkfnaaDoor
open Go.RowKit

set_option maxRecDepth 100000 in
set_option maxHeartbeats 4000000 in
theorem planChecks_great (nodes faulty skew jitter drift round frame : Int) (sa la wa : Option Addr) (ns sc nl lc nw wc : Nat) (w : World) (hsm : smallB ns nl nw = false) :
    Calls Tryd.prog 6 #[.agg #[.int .i64 nodes, .int .i64 faulty, .int .i64 skew, .int .i64 jitter, .int .i64 drift, .int .i64 round, .slice sa ns sc, .slice la nl lc, .int .i64 frame, .slice wa nw wc]] w fun ev w' => ev = .returned (.bool true) ∧ Below w.heap.size w w' := by
  obtain ⟨hc, hV⟩ := box10 nodes faulty skew jitter drift round frame sa la wa ns sc nl lc nw wc w 48
  have H1 : Hid (∀ u : World, Calls Tryd.prog 22 #[.agg #[.int .i64 nodes, .int .i64 faulty, .int .i64 skew, .int .i64 jitter, .int .i64 drift, .int .i64 round, .slice sa ns sc, .slice la nl lc, .int .i64 frame, .slice wa nw wc]] u fun ev w' => ev = .returned (.bool false) ∧ Below u.heap.size u w') := fun u => hsm ▸ small_any nodes faulty skew jitter drift round frame sa la wa ns sc nl lc nw wc u
  clear hsm
  go_enter Tryd.func6, Tryd.ntmps6
  go_wp2_with fail
  generalize w.alloc (.cells #[.int .i64 nodes, .int .i64 faulty, .int .i64 skew, .int .i64 jitter, .int .i64 drift, .int .i64 round, .slice sa ns sc, .slice la nl lc, .int .i64 frame, .slice wa nw wc] 48) = V at hc hV ⊢
  have hW : Below V.heap.size V V := Below.refl _ _
  obtain ⟨c0, c1, c2, c3, c4, c5, c6, c7, c8, c9⟩ := hc.below hW
  refine wp_region_held_drew (S := fun u => u.cell? ⟨w.heap.size, 0, none⟩ = some (.int .i64 nodes) ∧ u.cell? ⟨w.heap.size, 1, none⟩ = some (.int .i64 faulty) ∧ u.cell? ⟨w.heap.size, 2, none⟩ = some (.int .i64 skew) ∧ u.cell? ⟨w.heap.size, 3, none⟩ = some (.int .i64 jitter) ∧ u.cell? ⟨w.heap.size, 4, none⟩ = some (.int .i64 drift) ∧ u.cell? ⟨w.heap.size, 5, none⟩ = some (.int .i64 round) ∧ u.cell? ⟨w.heap.size, 6, none⟩ = some (.slice sa ns sc) ∧ u.cell? ⟨w.heap.size, 7, none⟩ = some (.slice la nl lc) ∧ u.cell? ⟨w.heap.size, 8, none⟩ = some (.int .i64 frame) ∧ u.cell? ⟨w.heap.size, 9, none⟩ = some (.slice wa nw wc)) (by kernel_rfl) (by (try dsimp only); go_keep) (fun hHeld => ?_)
  refine wpAnyH_take (i := 0) (oi := { dst := some 3, op := Op.load 48 (Operand.tmp 1), type := 48, pos := "law.go:73", after := #[], guard := none }) (v := ?_) rfl (by kernel_rfl) (by kernel_rfl) (by kernel_rfl) (fun _ _ _ h => h) (Or.inl ⟨by rfl, ?_⟩) hHeld ?_
  rotate_left
  · (intro w hSw; (try dsimp only at hSw); go_simp <;> with_reducible rfl)
  simp only [Act.put, List.setIfInBounds_toArray, List.set_cons_zero, List.set_cons_succ]
  refine wpAnyH_ready (rs := [1]) (by kernel_rfl) (by simp) ?_
  refine AllReadyH.cons (o := { dst := some 4, op := Op.call { callee := Callee.value (Operand.func 22), args := #[Operand.tmp 3], argTypes := #[48] }, type := 4, pos := "law.go:73", after := #[{ on := 0, ground := Ground.data }], guard := none }) rfl (fun K hK => ?_) AllReadyH.nil
  go_simp
  (go_at_call 22; refine (H1.out _).mono ?_; rintro e u1 ⟨rfl, hu1⟩; have hW1 := stepD hW hu1; obtain ⟨c0, c1, c2, c3, c4, c5, c6, c7, c8, c9⟩ := hc.below hW1)
  refine hK.out _ _ (by (try dsimp only); go_keep) (fun hHeld => ?_)
  clear hK K
  try simp only [Act.put, List.setIfInBounds_toArray, List.set_cons_zero, List.set_cons_succ]
  refine wpAnyH_take (i := 2) (oi := { dst := some 5, op := Op.unOp UnOp.not 4 (Operand.tmp 4), type := 4, pos := "law.go:73", after := #[{ on := 1, ground := Ground.data }], guard := none }) (v := ?_) rfl (by kernel_rfl) (by kernel_rfl) (by kernel_rfl) (fun _ _ _ h => h) (Or.inl ⟨by rfl, ?_⟩) hHeld ?_
  rotate_left
  · (intro w hSw; (try dsimp only at hSw); go_simp <;> with_reducible rfl)
  simp only [Act.put, List.setIfInBounds_toArray, List.set_cons_zero, List.set_cons_succ]
  refine wpAnyH_take (i := 3) (oi := { dst := some 6, op := Op.move (Operand.tmp 5), type := 4, pos := "law.go:73", after := #[{ on := 2, ground := Ground.data }, { on := 1, ground := Ground.chain }], guard := none }) (v := ?_) rfl (by kernel_rfl) (by kernel_rfl) (by kernel_rfl) (fun _ _ _ h => h) (Or.inl ⟨by rfl, ?_⟩) hHeld ?_
  rotate_left
  · (intro w hSw; (try dsimp only at hSw); go_simp <;> with_reducible rfl)
  simp only [Act.put, List.setIfInBounds_toArray, List.set_cons_zero, List.set_cons_succ]
  refine wpAnyH_skips (fuel := 2) (by kernel_rfl) (fun _ _ _ _ h => h) hHeld [(4, 7), (5, 8), (6, 9), (7, 10), (8, 11)] (by kernel_rfl) ?_
  simp only [skipA, List.foldl_cons, List.foldl_nil, Act.put, List.setIfInBounds_toArray, List.set_cons_zero, List.set_cons_succ]
  refine wpAnyH_take (i := 9) (oi := { dst := some 12, op := Op.pick (Operand.tmp 6) (Operand.const (Value.bool true)) (Operand.tmp 11), type := 4, pos := "law.go:73", after := #[{ on := 3, ground := Ground.data }, { on := 8, ground := Ground.data }], guard := none }) (v := ?_) rfl (by kernel_rfl) (by kernel_rfl) (by kernel_rfl) (fun _ _ _ h => h) (Or.inl ⟨by rfl, ?_⟩) hHeld ?_
  rotate_left
  · (intro w hSw; (try dsimp only at hSw); go_simp <;> with_reducible rfl)
  simp only [Act.put, List.setIfInBounds_toArray, List.set_cons_zero, List.set_cons_succ]
  refine wpAnyH_take (i := 10) (oi := { dst := some 2, op := Op.assign (Operand.tmp 12), type := 4, pos := "law.go:73", after := #[{ on := 9, ground := Ground.data }, { on := 8, ground := Ground.chain }, { on := 0, ground := Ground.phase }, { on := 1, ground := Ground.phase }, { on := 2, ground := Ground.phase }, { on := 3, ground := Ground.phase }, { on := 4, ground := Ground.phase }, { on := 5, ground := Ground.phase }, { on := 6, ground := Ground.phase }, { on := 7, ground := Ground.phase }, { on := 8, ground := Ground.phase }, { on := 9, ground := Ground.phase }], guard := none }) (v := ?_) rfl (by kernel_rfl) (by kernel_rfl) (by kernel_rfl) (fun _ _ _ h => h) (Or.inl ⟨by rfl, ?_⟩) hHeld ?_
  rotate_left
  · (intro w hSw; (try dsimp only at hSw); go_simp <;> with_reducible rfl)
  simp only [Act.put, List.setIfInBounds_toArray, List.set_cons_zero, List.set_cons_succ]
  refine wpAnyH_done (by kernel_rfl) ?_ _
  go_wp2
  go_ret
  exact ⟨rfl, hV.trans (hW1.mono hV.size)⟩

/-- There is always an answer of Check. -/
theorem CheckIs.any (nodes faulty skew jitter drift round frame : Int) (ns nl nw : Nat) (nd fr to lf lt lb lq : Nat → Int) (hit : Nat → Bool) (pw : Int) (wp wf wt : Nat → Int) : ∃ E I, CheckIs nodes faulty skew jitter drift round frame ns nl nw nd fr to lf lt lb lq hit pw wp wf wt E I := by
  by_cases h : headErr nodes faulty skew jitter drift round frame ns nl nw = 0
  · obtain ⟨e1, i1, g1⟩ := FirstBad.any (slotErr nd fr to nodes skew round) ns
    obtain ⟨e2, i2, g2⟩ := FirstBad.any (linkErr lf lt lb lq hit nodes pw) nl
    obtain ⟨e3, i3, g3⟩ := FirstBad.any (winErr wp wf wt frame) nw
    by_cases z1 : e1 = 0
    · by_cases z2 : e2 = 0
      · by_cases z3 : e3 = 0
        · exact ⟨0, -1, .inr ⟨h, e1, i1, e2, i2, e3, i3, g1, g2, g3, fun q => absurd z1 q, fun _ q => absurd z2 q, fun _ _ q => absurd z3 q, fun _ _ _ => ⟨rfl, rfl⟩⟩⟩
        · exact ⟨e3, 2000 + i3, .inr ⟨h, e1, i1, e2, i2, e3, i3, g1, g2, g3, fun q => absurd z1 q, fun _ q => absurd z2 q, fun _ _ _ => ⟨rfl, rfl⟩, fun _ _ q => absurd q z3⟩⟩
      · exact ⟨e2, 1000 + i2, .inr ⟨h, e1, i1, e2, i2, e3, i3, g1, g2, g3, fun q => absurd z1 q, fun _ _ => ⟨rfl, rfl⟩, fun _ q => absurd q z2, fun _ q => absurd q z2⟩⟩
    · exact ⟨e1, i1, .inr ⟨h, e1, i1, e2, i2, e3, i3, g1, g2, g3, fun _ => ⟨rfl, rfl⟩, fun q => absurd q z1, fun q => absurd q z1, fun q => absurd q z1⟩⟩
  · exact ⟨_, -1, .inl ⟨h, rfl, rfl⟩⟩

theorem planChecks_any (nodes faulty skew jitter drift round frame : Int) (sa la wa : Option Addr) (ns sc nl lc nw wc : Nat) (nd fr to lf lt lb lq wp wf wt : Nat → Int) (w : World)
    (hs : Rows3 w sa ns nd fr to) (hl : Rows4 w la nl lf lt lb lq) (hw : Rows3 w wa nw wp wf wt) (hT : Told w) (hfine : Fine0 w) :
    Calls Tryd.prog 6 #[.agg #[.int .i64 nodes, .int .i64 faulty, .int .i64 skew, .int .i64 jitter, .int .i64 drift, .int .i64 round, .slice sa ns sc, .slice la nl lc, .int .i64 frame, .slice wa nw wc]] w fun ev w' => ev = .returned (.bool true) ∧ Below w.heap.size w w' := by
  cases h : smallB ns nl nw
  · exact planChecks_great nodes faulty skew jitter drift round frame sa la wa ns sc nl lc nw wc w h
  · obtain ⟨E, I, hC⟩ := CheckIs.any nodes faulty skew jitter drift round frame ns nl nw nd fr to lf lt lb lq (fun j => bits BinOp.and .i64 (lt j) (2 ^ (lf j).toNat) != 0) ((2 : Int) ^ nodes.toNat) wp wf wt
    exact planChecks_small nodes faulty skew jitter drift round frame sa la wa ns sc nl lc nw wc nd fr to lf lt lb lq _ _ wp wf wt E I w hs hl hw rfl (fun _ _ _ => rfl) hC hT hfine h
end Go.Proofs.YtgpobleeggkfnaaDoor
