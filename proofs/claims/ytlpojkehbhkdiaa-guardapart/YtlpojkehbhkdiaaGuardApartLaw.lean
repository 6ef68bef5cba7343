/- GuardApart, walked: it answers true, whatever it is asked. (Made by tools/gen_guardapart.py.) -/
import Derived.Test.YtlpojkehbhkdiaaApartStart
import Derived.Test.YtlpojkehbhkdiaaApartSame
import Derived.Test.YtlpojkehbhkdiaaApartPass
import Derived.Test.YtlpojkehbhkdiaaApartBoth
namespace Go.Proofs.Ytlpojkehbhkdiaa
open Go.RowKit

theorem max_is {a b : Int} : (if a < b then b else a) = max a b := by
  split <;> omega

theorem ga_any (nodes faulty skew jitter drift R frame : Int) (sa la wa : Option Addr) (ns sc nl lc nw wc : Nat) (fa sA na da fb sB nb db : Int) (i k : Int) (x0 x1 y0 y1 : Int) (frm to : Int) (w : World) (nd fr tt lf lt lb lq wp wf wt : Nat → Int) (hs : Rows3 w sa ns nd fr tt) (hl : Rows4 w la nl lf lt lb lq) (hw : Rows3 w wa nw wp wf wt) (hns : ns ≤ 9223372036854775807) (hto : to ≤ 9223372036854775807) :
    Calls Try.prog 4 #[.agg #[.int .i64 nodes, .int .i64 faulty, .int .i64 skew, .int .i64 jitter, .int .i64 drift, .int .i64 R, .slice sa ns sc, .slice la nl lc, .int .i64 frame, .slice wa nw wc], .agg #[.int .i64 fa, .int .i64 sA, .int .i64 na, .int .i64 da], .agg #[.int .i64 fb, .int .i64 sB, .int .i64 nb, .int .i64 db], .int .i64 i, .int .i64 k, .agg #[.int .i64 x0, .int .i64 x1], .agg #[.int .i64 y0, .int .i64 y1], .int .i64 frm, .int .i64 to] w fun ev w' => ev = .returned (.bool true) ∧ Below w.heap.size w w' := by
  cases hB : decide (100 < wrap64 (wrap64 ((ns : Int) + (nl : Int)) + (nw : Int)))
  rotate_left
  · exact ga_great nodes faulty skew jitter drift R frame sa la wa ns sc nl lc nw wc fa sA na da fb sB nb db i k x0 x1 y0 y1 frm to w hB
  obtain ⟨E, I, hC⟩ := check_is nodes faulty skew jitter drift R frame ns nl nw nd fr tt lf lt lb lq (fun j => bits BinOp.and .i64 (lt j) (2 ^ (lf j).toNat) != 0) ((2 : Int) ^ nodes.toNat) wp wf wt
  have hchk : ∀ u : World, Below w.heap.size w u → Calls Try.prog 11 #[.agg #[.int .i64 nodes, .int .i64 faulty, .int .i64 skew, .int .i64 jitter, .int .i64 drift, .int .i64 R, .slice sa ns sc, .slice la nl lc, .int .i64 frame, .slice wa nw wc]] u fun ev w' => ∃ V, ev = .returned V ∧ ErrIs w' V E I ∧ Below u.heap.size u w' := fun u hu => check_any nodes faulty skew jitter drift R frame sa la wa ns sc nl lc nw wc nd fr tt lf lt lb lq _ _ wp wf wt E I u (hs.below hu) (hl.below hu) (hw.below hu) rfl (fun _ _ _ => rfl) hC
  by_cases hE : E = 0
  rotate_left
  · exact ga_bad nodes faulty skew jitter drift R frame sa la wa ns sc nl lc nw wc fa sA na da fb sB nb db i k x0 x1 y0 y1 frm to w hB E I hE hchk
  subst hE
  obtain ⟨⟨n1, n2⟩, ⟨k0, k1⟩, hsl⟩ := check_ok hC
  have hN : ∀ u : World, Below w.heap.size w u → Calls Try.prog 11 #[.agg #[.int .i64 nodes, .int .i64 faulty, .int .i64 skew, .int .i64 jitter, .int .i64 drift, .int .i64 R, .slice sa ns sc, .slice la nl lc, .int .i64 frame, .slice wa nw wc]] u fun ev w' => ev = .returned .nilIface ∧ Below u.heap.size u w' := fun u hu => (hchk u hu).mono fun ev w' ⟨V, h1, h2, h3⟩ => ⟨by rw [h1, errIs_nil h2], h3⟩
  by_cases hik : pk i nodes = pk k nodes
  · exact ga_same nodes faulty skew jitter drift R frame sa la wa ns sc nl lc nw wc fa sA na da fb sB nb db i k x0 x1 y0 y1 frm to w hB n1 n2 hik hN
  obtain ⟨r1, hr1⟩ := FirstHit.any (hitB fa sA na da ns nd fr tt R (pk i nodes) x0 x1 (max frm 0)) (roundsK (max frm 0) to) ns
  obtain ⟨r2, hr2⟩ := FirstHit.any (hitB fb sB nb db ns nd fr tt R (pk k nodes) y0 y1 (max frm 0)) (roundsK (max frm 0) to) ns
  have g1 := fun (u : World) (hu : Below w.heap.size w u) => gpasses_any nodes faulty skew jitter drift R frame sa la wa ns sc nl lc nw wc fa sA na da (pk i nodes) x0 x1 frm to (max frm 0) rfl u hns nd fr tt (hs.below hu) hto r1 hr1
  have g2 := fun (u : World) (hu : Below w.heap.size w u) => gpasses_any nodes faulty skew jitter drift R frame sa la wa ns sc nl lc nw wc fb sB nb db (pk k nodes) y0 y1 frm to (max frm 0) rfl u hns nd fr tt (hs.below hu) hto r2 hr2
  rcases r1 with _ | ⟨q1, j1⟩
  · exact ga_one nodes faulty skew jitter drift R frame sa la wa ns sc nl lc nw wc fa sA na da fb sB nb db i k x0 x1 y0 y1 frm to w hB n1 n2 hik hN _ _ _ _ _ g1 g2
  rcases r2 with _ | ⟨q2, j2⟩
  · exact ga_other nodes faulty skew jitter drift R frame sa la wa ns sc nl lc nw wc fa sA na da fb sB nb db i k x0 x1 y0 y1 frm to w hB n1 n2 hik hN _ _ _ _ g1 g2
  obtain ⟨s0, e0⟩ : ∃ s0, passF fa sA na da ns fr tt R x0 x1 (max frm 0) (some (q1, j1)) = s0 := ⟨_, rfl⟩
  obtain ⟨s1, e1⟩ : ∃ s1, passT fa sA na da ns fr tt R x0 x1 (max frm 0) (some (q1, j1)) = s1 := ⟨_, rfl⟩
  obtain ⟨t0, e2⟩ : ∃ t0, passF fb sB nb db ns fr tt R y0 y1 (max frm 0) (some (q2, j2)) = t0 := ⟨_, rfl⟩
  obtain ⟨t1, e3⟩ : ∃ t1, passT fb sB nb db ns fr tt R y0 y1 (max frm 0) (some (q2, j2)) = t1 := ⟨_, rfl⟩
  rw [e0, e1] at g1
  rw [e2, e3] at g2
  cases hcm : comB s0 s1 t0 t1
  · exact ga_apart nodes faulty skew jitter drift R frame sa la wa ns sc nl lc nw wc fa sA na da fb sB nb db i k x0 x1 y0 y1 frm to w hB n1 n2 hik hN s0 s1 t0 t1 hcm g1 g2
  · refine ga_both nodes faulty skew jitter drift R frame sa la wa ns sc nl lc nw wc fa sA na da fb sB nb db i k x0 x1 y0 y1 frm to w hB n1 n2 hik hN s0 s1 t0 t1 hcm k0 k1 (max fa fb) (max s1 t1) max_is max_is (fun a b => ?_) g1 g2
    obtain ⟨a1, a2, a3, a4⟩ := a
    obtain ⟨b1, b2, b3, b4⟩ := b
    rw [(local_in a1).1, (local_in a2).1] at a3 a4
    rw [(local_in b1).1, (local_in b2).1] at b3 b4
    exact no_two k0 hsl hr1.2.1 hr2.2.1 hr1.2.2.1 hr2.2.2.1 hik e0 e1 e2 e3 hcm rfl rfl a3 a4 b3 b4
end Go.Proofs.Ytlpojkehbhkdiaa
