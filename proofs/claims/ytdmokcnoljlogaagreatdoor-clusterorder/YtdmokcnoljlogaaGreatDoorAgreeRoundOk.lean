/- The program's Round where nothing is wrong: what all clocks show behind it; new memory alone is made. -/
import Derived.Test.YtdmokcnoljlogaaGreatDoorAgreeStep
import Derived.Test.YtdmokcnoljlogaaGreatDoorWordsA
import Derived.Test.YtdmokcnoljlogaaGreatDoorWordsB
import Derived.OwnWalk
namespace Go.Proofs.YtdmokcnoljlogaaGreatDoor
open Go.RowKit Go.Shelf Go.Sort

set_option maxRecDepth 100000 in
set_option maxHeartbeats 4000000 in
theorem round_ok (a ra : Option Addr) (cap rcap : Nat) (cs : List Int) (rows : List (List Int)) (f : Int) (w : World) (hr : IntRow w a cs) (ht : TabRow w ra rows) (hlen : rows.length = cs.length) (hn : cs.length ≤ 1000) (hrn : ∀ r ∈ rows, r.length ≤ 1000)
    (hF : ∀ j, j < cs.length → stepErr cs.length (cs.getD j 0) (rows.getD j []) f = 0) :
    Calls Tryz.prog 40 #[.slice a cs.length cap, .slice ra rows.length rcap, .int .i64 f] w fun ev w' => ∃ v, ev = .returned (.tuple #[v, .nilIface]) ∧ w'.ownsRow w.heap.size 3 1 v cs.length ((setTo cs rows f cs.length).map (Value.int .i64)) ∧ Below w.heap.size w w' := by
  obtain ⟨n, hcl⟩ : ∃ n, cs.length = n := ⟨_, rfl⟩
  have HL : Hid (cs.length = n ∧ rows.length = n) := ⟨hcl, by rw [hlen, hcl]⟩
  have HF : Hid (∀ j, j < n → stepErr n (cs.getD j 0) (rows.getD j []) f = 0) := hcl ▸ hF
  have HR : Hid (IntRow w a cs) := hr
  have HT : Hid (TabRow w ra rows) := ht
  have HRN : Hid (∀ r ∈ rows, r.length ≤ 1000) := hrn
  rw [hcl] at hn
  rw [hlen, hcl]
  clear hF hr ht hlen hrn hcl
  obtain ⟨i0, hi, hz0, hz1, hz2⟩ := info_parts Tryz.infoInt
  have k1 : ((n : Int) != (n : Int)) = false := by simp
  go_enter Tryz.func40, Tryz.ntmps40
  go_wp2_with (at_make; refine wpList_make_own _ rfl _ _ 27 rfl w.heap.size 3 i0 (.int .i64 0) 1 Tryz.underlying27 hi hz0 hz1 .i64 .i64 _ n rfl rfl rfl (by rw [hz2]; omega) (by unfold maxLen; omega) (Nat.le_refl _) ?_; intro w0 hown0 hgrow0)
  have hb0 : Below w.heap.size w w0 := (Below.refl _ _).grown hgrow0 (Nat.le_refl _) (fun k h => by cases h)
  clear hgrow0
  go_loopw [8, 24] (fun v t wr => ∃ k : Nat, k ≤ n ∧ t = .int .i64 k ∧ Hid (∀ j, j < k → stepErr n (cs.getD j 0) (rows.getD j []) f = 0) ∧ wr.ownsRow w.heap.size 3 1 v k ((setTo cs rows f k).map (Value.int .i64)) ∧ Below w.heap.size w wr) (fun _ t _ => n - (intOf t).toNat)
  case atStart => exact ⟨0, Nat.zero_le _, rfl, fun j hj => absurd hj (Nat.not_lt_zero _), by simpa [setTo] using hown0, hb0⟩
  case round =>
    obtain ⟨k, hk, rfl, h0, hown, hbe⟩ := hrel
    by_cases hlt : k < n
    · obtain ⟨b, off, rfl, hb, hc⟩ := HR.out (by rw [HL.out.1]; omega)
      obtain ⟨tb, toff, rfl, htb, htc⟩ := HT.out (by rw [HL.out.2]; omega)
      have y0 := (hbe.cell (p := ⟨b, off + k, none⟩) hb).trans (hc k (by rw [HL.out.1]; exact hlt))
      obtain ⟨rx, rc, y1, hrow⟩ := htc k (by rw [HL.out.2]; exact hlt)
      replace y1 := (hbe.cell (p := ⟨tb, toff + k, none⟩) htb).trans y1
      have hrl : (rows.getD k []).length ≤ 1000 := HRN.out _ (by
        have : k < rows.length := by rw [HL.out.2]; exact hlt
        simp [List.getD, this])
      have HS : Hid (Calls Tryz.prog 65 #[.int .i64 (cs.getD k 0), .slice rx (rows.getD k []).length rc, .int .i64 n, .int .i64 f] wr fun e w' => e = .returned (.tuple #[.int .i64 (stepVal n (cs.getD k 0) (rows.getD k []) f), errV (stepErr n (cs.getD k 0) (rows.getD k []) f)]) ∧ Below wr.heap.size wr w') := step_any rx rc (rows.getD k []) n (cs.getD k 0) f wr (hrow.below hbe) hrl
      have HSE : Hid (setTo cs rows f (k + 1) = setTo cs rows f k ++ [cs.getD k 0 + midVal (rows.getD k []) f]) := setTo_succ ..
      clear hc htc hrow hrl
      obtain ⟨se, hse⟩ : ∃ se, stepErr n (cs.getD k 0) (rows.getD k []) f = se := ⟨_, rfl⟩
      have HE : Hid (stepErr n (cs.getD k 0) (rows.getD k []) f = se) := hse
      rw [hse] at HS
      have hz : se = 0 := by rw [← hse]; exact HF.out k hlt
      subst hz
      obtain ⟨z1, z2, z3⟩ := stepErr_zero HE.out
      have hcr := far_false.1 z2
      have hmr := midVal_in (rows.getD k []) f
      rw [stepVal_ok HE.out, errV_0] at HS
      have HZ1 : Hid (stepErr n (cs.getD k 0) (rows.getD k []) f = 0) := HE.out
      clear hse HE z1 z2 z3
      obtain ⟨c, hcc⟩ : ∃ c, cs.getD k 0 = c := ⟨_, rfl⟩
      obtain ⟨rl, hrl⟩ : ∃ rl, (rows.getD k []).length = rl := ⟨_, rfl⟩
      obtain ⟨x, hx⟩ : ∃ x, midVal (rows.getD k []) f = x := ⟨_, rfl⟩
      rw [hcc] at y0 HS hcr HSE
      rw [hrl] at y1 HS
      rw [hx] at HS hmr HSE
      clear hcc hrl hx
      go_wp2_with fail
      refine HS.out.mono ?_
      rintro ev w2 ⟨rfl, hb2⟩
      have hb2' := hbe.trans (hb2.mono hbe.size)
      have hown2 := owns_below hown hb2
      have hw2 := hb2'.size
      go_wp2_with (at_builtin; refine wpList_append_own _ rfl _ _ 27 rfl w.heap.size 3 i0 (.int .i64 0) 1 8 Tryz.underlying27 hi hz0 hz1 hz2 rfl (by decide) u8 _ _ rfl (hown2.alloc _) ⟨w2.heap.size, 0, none⟩ 1 1 [.int .i64 (c + x)] rfl rfl (cell_one_new _ _ _) (ints_one [c + x]) (by unfold maxLen; omega) (by omega) (by simp; omega) ?_; intro v' w3 hown' hgrow hnil)
      have hb3 : Below w.heap.size w w3 := (hb2'.alloc hw2 _).grown hgrow (by simp; omega) (fun g hg => (hown2.lt g hg).1)
      refine ⟨⟨k + 1, by omega, by go_num, next_zero h0.out HZ1.out, by rw [HSE.out, List.map_append]; exact hown', hb3⟩, ?_⟩
      simp [intOf]; omega
    · have : k = n := by omega
      subst this
      go_wp2
      go_ret2
      exact ⟨_, rfl, hown, hbe⟩
end Go.Proofs.YtdmokcnoljlogaaGreatDoor
