/- The program's Passes, whatever it is asked; new memory alone is made. (Made by tools/gen_guardpasses.py.) -/
import Derived.Test.YtlpojkehbhkdiaaGuardIn
namespace Go.Proofs.Ytlpojkehbhkdiaa
open Go.RowKit

theorem hit_is {f s n d : Int} {ns : Nat} {nd fr tt : Nat → Int} {R node p q lo : Int} {k i : Nat} : hitB f s n d ns nd fr tt R node p q lo k i = hitR f s n d ns nd fr tt R node p q (lo + (k : Int)) i := rfl
theorem three_box {w : World} {a b c : Obj} : Below w.heap.size w (((w.alloc a).alloc b).alloc c) := two_new.alloc (by simp; omega) _

set_option maxRecDepth 100000 in
set_option maxHeartbeats 4000000 in
theorem gpasses_neg_few (nodes faulty skew jitter drift R frame : Int) (sa la wa : Option Addr) (ns sc nl lc nw wc : Nat) (f s n d node : Int) (p q frm to : Int) (hneg : frm < 0) (w : World) (hns : ns ≤ 9223372036854775807) (nd fr tt : Nat → Int) (hs : Rows3 w sa ns nd fr tt) (hto : 0 ≤ to) (ht1 : to ≤ 9223372036854775807) (K : Nat) (hK0 : K ≤ 50) (hK : (K : Int) = to + 1) (r : Option (Nat × Nat)) (hF : FirstHit (hitB f s n d ns nd fr tt R node p q 0) K ns r) (G : Ending → World → Prop) (hG : ∀ w', Below w.heap.size w w' → G (.returned (.tuple #[.agg #[.int .i64 (passF f s n d ns fr tt R p q 0 r), .int .i64 (passT f s n d ns fr tt R p q 0 r)], .bool r.isSome])) w') :
    Calls Try.prog 12 #[.agg #[.int .i64 nodes, .int .i64 faulty, .int .i64 skew, .int .i64 jitter, .int .i64 drift, .int .i64 R, .slice sa ns sc, .slice la nl lc, .int .i64 frame, .slice wa nw wc, .int .i64 f, .int .i64 s, .int .i64 n, .int .i64 d, .int .i64 node], .agg #[.int .i64 p, .int .i64 q], .int .i64 frm, .int .i64 to] w G := by
  have HG : Hid _ := hG
  have HF : Hid (FirstHit (hitB f s n d ns nd fr tt R node p q 0) K ns r) := hF
  clear hG hF
  obtain ⟨V, hVe⟩ : ∃ V, V = ((w.alloc (.cells #[.int .i64 nodes, .int .i64 faulty, .int .i64 skew, .int .i64 jitter, .int .i64 drift, .int .i64 R, .slice sa ns sc, .slice la nl lc, .int .i64 frame, .slice wa nw wc, .int .i64 f, .int .i64 s, .int .i64 n, .int .i64 d, .int .i64 node] 45)).alloc (.cells #[.int .i64 p, .int .i64 q] 41)).alloc (.cells #[.int .i64 0, .int .i64 0] 41) := ⟨_, rfl⟩
  have hV : Below w.heap.size w V := by rw [hVe]; exact three_box
  have HB : Hid (InBox w.heap.size nodes faulty skew jitter drift R frame sa la wa ns sc nl lc nw wc f s n d node p q V) := by rw [hVe]; exact inBox_new nodes faulty skew jitter drift R frame sa la wa ns sc nl lc nw wc f s n d node p q _ _ _ w
  have hVs : V.heap.size = w.heap.size + 3 := by rw [hVe]; simp
  have HS : Hid (Rows3 V sa ns nd fr tt) := hs.below hV
  clear hs
  have HI : Hid (∀ (k : Nat) (u : World) (ri : Option Nat), Below V.heap.size V u → InHit (hitR f s n d ns nd fr tt R node p q ((0 : Int) + (k : Int))) ns ri → Calls Try.prog 21 #[.agg #[.int .i64 nodes, .int .i64 faulty, .int .i64 skew, .int .i64 jitter, .int .i64 drift, .int .i64 R, .slice sa ns sc, .slice la nl lc, .int .i64 frame, .slice wa nw wc, .int .i64 f, .int .i64 s, .int .i64 n, .int .i64 d, .int .i64 node], .int .i64 ((0 : Int) + (k : Int)), .agg #[.int .i64 p, .int .i64 q]] u fun ev w' => ev = .returned (.tuple #[.agg #[.int .i64 (inF f s n d ns fr tt R p q ((0 : Int) + (k : Int)) ri), .int .i64 (inT f s n d ns fr tt R p q ((0 : Int) + (k : Int)) ri)], .bool ri.isSome]) ∧ Below u.heap.size u w') := fun k u ri hu hr => in_any nodes faulty skew jitter drift R frame sa la wa ns sc nl lc nw wc f s n d node p q ((0 : Int) + (k : Int)) u hns nd fr tt (HS.out.below hu) ri hr
  have g1 : 0 ≤ to := hto
  have g2 : decide (to < 0) = false := decide_eq_false (by omega)
  have g3 : to ≤ 49 := by omega
  go_enter Try.func12, Try.ntmps12
  go_wp2_with fail
  rw [← hVe]
  clear hVe
  have hKe : to + 1 = (K : Int) := by omega
  rw [hKe]
  have HKK : Hid ((K : Int) = to + 1) := hK
  clear hKe hK
  go_loopw [24] (fun t wr => ∃ k : Nat, k ≤ K ∧ t = .int .i64 k ∧ Hid (∀ k', k' < k → ∀ i, i < ns → hitB f s n d ns nd fr tt R node p q 0 k' i = false) ∧ Below V.heap.size V wr) (fun t _ => 50 - (intOf t).toNat)
  case atStart => exact ⟨0, Nat.zero_le _, rfl, fun k' hk => absurd hk (Nat.not_lt_zero _), Below.refl _ _⟩
  case round =>
    obtain ⟨k, hkK, rfl, h0, hbe⟩ := hrel
    obtain ⟨wk, hwke⟩ : ∃ x, x = wr := ⟨wr, rfl⟩
    subst hwke
    have HB1 : Hid (InBox w.heap.size nodes faulty skew jitter drift R frame sa la wa ns sc nl lc nw wc f s n d node p q wk) := HB.out.below hbe (by omega)
    have hsz := hbe.size
    have hww : Below w.heap.size w wk := hV.trans (hbe.mono hV.size)
    obtain ⟨⟨q0, q1, q2, q3, q4, q5, q6, q7, q8, q9, q10, q11, q12, q13, q14⟩, s0, s1, r0, r1, z0, z1⟩ := HB1.out
    have hl0 : w.heap.size < wk.heap.size := by omega
    have hl1 : w.heap.size + 1 < wk.heap.size := by omega
    have hl2 : w.heap.size + 1 + 1 < wk.heap.size := by omega
    by_cases hkk : k < K
    · obtain ⟨ri, hri⟩ := InHit.any (hitR f s n d ns nd fr tt R node p q ((0 : Int) + (k : Int))) ns
      have hI := HI.out k wk ri hbe hri
      have HRI : Hid (InHit (hitR f s n d ns nd fr tt R node p q ((0 : Int) + (k : Int))) ns ri) := hri
      have HFX : Hid (∀ i, passF f s n d ns fr tt R p q 0 (some (k, i)) = inF f s n d ns fr tt R p q ((0 : Int) + (k : Int)) (some i) ∧ passT f s n d ns fr tt R p q 0 (some (k, i)) = inT f s n d ns fr tt R p q ((0 : Int) + (k : Int)) (some i)) := fun i => ⟨rfl, rfl⟩
      clear hri HI
      have kk1 : (k : Int) < (K : Int) := by omega
      have hlk : 0 + (k : Int) ≤ 9223372036854775807 := by have := HKK.out; omega
      have hlk0 : 0 ≤ 0 + (k : Int) := by omega
      rw [Int.zero_add] at hI hlk hlk0
      rcases ri with _ | i
      · have HZ : Hid (∀ k', k' < k + 1 → ∀ i, i < ns → hitB f s n d ns nd fr tt R node p q 0 k' i = false) := fun k' hk' => by
          rcases Nat.lt_succ_iff_lt_or_eq.1 hk' with z | z
          · exact h0.out k' z
          · rw [z]; exact HRI.out
        clear HRI HFX
        go_wp2_with fail
        refine hI.mono ?_
        rintro e w3 ⟨rfl, hb3⟩
        have hV3 : Below V.heap.size V w3 := hbe.trans (hb3.mono hsz)
        have hs3 := hV3.size
        clear hI hb3 q0 q1 q2 q3 q4 q5 q6 q7 q8 q9 q10 q11 q12 q13 q14 s0 s1 r0 r1 z0 z1
        go_wp2_with fail
        exact ⟨⟨k + 1, by omega, by go_num, HZ, hV3.alloc (by omega) _⟩, by simp [intOf]; omega⟩
      · have ht : r = some (k, i) := HF.out.one hkk HRI.out.1 HRI.out.2.1 h0.out HRI.out.2.2
        subst ht
        obtain ⟨cf, hcf⟩ : ∃ cf, inF f s n d ns fr tt R p q ((k : Int)) (some i) = cf := ⟨_, rfl⟩
        obtain ⟨ct, hct⟩ : ∃ ct, inT f s n d ns fr tt R p q ((k : Int)) (some i) = ct := ⟨_, rfl⟩
        rw [(HFX.out i).1, (HFX.out i).2, Int.zero_add, hcf, hct] at HG
        rw [hcf, hct] at hI
        have hIs : (some i).isSome = true := rfl
        rw [hIs] at hI
        have HG2 : Hid (∀ w', Below w.heap.size w w' → G (.returned (.tuple #[.agg #[.int .i64 cf, .int .i64 ct], .bool true])) w') := HG.out
        clear HRI HFX hcf hct HF h0 hIs HG
        go_wp2_with fail
        refine hI.mono ?_
        rintro e w3 ⟨rfl, hb3⟩
        have hV3 : Below V.heap.size V w3 := hbe.trans (hb3.mono hsz)
        have hw3 : Below w.heap.size w w3 := hV.trans (hV3.mono hV.size)
        have hs3 := hV3.size
        have hb0 : w.heap.size + 1 + 1 < w3.heap.size := by omega
        clear hI hb3 q0 q1 q2 q3 q4 q5 q6 q7 q8 q9 q10 q11 q12 q13 q14 s0 s1 r0 r1 z0 z1
        obtain ⟨_, _, _, r0, r1, z0, z1⟩ := HB.out.below hV3 (by omega)
        go_wp2
        exact bodyPost_ret (v := .tuple #[.agg #[.int .i64 cf, .int .i64 ct], .bool true]) (by simp [results, Try.results12, go_sem, r0, r1, hb0]) rfl (HG2.out _ (((hw3.setCell (p := ⟨w.heap.size + 1 + 1, 0, none⟩) (by show w.heap.size ≤ w.heap.size + 1 + 1; omega) _).setCell (p := ⟨w.heap.size + 1 + 1, 1, none⟩) (by show w.heap.size ≤ w.heap.size + 1 + 1; omega) _).alloc (by simp; omega) _))
    · have hke : k = K := by omega
      subst hke
      obtain rfl : r = none := HF.out.no h0.out
      have HGN : Hid (∀ w', Below w.heap.size w w' → G (.returned (.tuple #[.agg #[.int .i64 0, .int .i64 0], .bool false])) w') := HG.out
      clear HG HF HB HB1 HS h0 HI s0 s1 q0 q1 q2 q3 q4 q5 q6 q7 q8 q9 q10 q11 q12 q13 q14
      go_wp2
      exact bodyPost_ret (v := .tuple #[.agg #[.int .i64 0, .int .i64 0], .bool false]) (by simp [results, Try.results12, go_sem, r0, r1]) rfl (HGN.out _ ((hww.setCell (p := ⟨w.heap.size + 1 + 1, 0, none⟩) (by show w.heap.size ≤ w.heap.size + 1 + 1; omega) _).setCell (p := ⟨w.heap.size + 1 + 1, 1, none⟩) (by show w.heap.size ≤ w.heap.size + 1 + 1; omega) _))

set_option maxRecDepth 100000 in
set_option maxHeartbeats 4000000 in
theorem gpasses_neg_many (nodes faulty skew jitter drift R frame : Int) (sa la wa : Option Addr) (ns sc nl lc nw wc : Nat) (f s n d node : Int) (p q frm to : Int) (hneg : frm < 0) (w : World) (hns : ns ≤ 9223372036854775807) (nd fr tt : Nat → Int) (hs : Rows3 w sa ns nd fr tt) (hto : 0 ≤ to) (ht1 : to ≤ 9223372036854775807) (K : Nat) (hK0 : K ≤ 50) (hK : K = 50) (hfar : 49 < to) (r : Option (Nat × Nat)) (hF : FirstHit (hitB f s n d ns nd fr tt R node p q 0) K ns r) (G : Ending → World → Prop) (hG : ∀ w', Below w.heap.size w w' → G (.returned (.tuple #[.agg #[.int .i64 (passF f s n d ns fr tt R p q 0 r), .int .i64 (passT f s n d ns fr tt R p q 0 r)], .bool r.isSome])) w') :
    Calls Try.prog 12 #[.agg #[.int .i64 nodes, .int .i64 faulty, .int .i64 skew, .int .i64 jitter, .int .i64 drift, .int .i64 R, .slice sa ns sc, .slice la nl lc, .int .i64 frame, .slice wa nw wc, .int .i64 f, .int .i64 s, .int .i64 n, .int .i64 d, .int .i64 node], .agg #[.int .i64 p, .int .i64 q], .int .i64 frm, .int .i64 to] w G := by
  have HG : Hid _ := hG
  have HF : Hid (FirstHit (hitB f s n d ns nd fr tt R node p q 0) K ns r) := hF
  clear hG hF
  obtain ⟨V, hVe⟩ : ∃ V, V = ((w.alloc (.cells #[.int .i64 nodes, .int .i64 faulty, .int .i64 skew, .int .i64 jitter, .int .i64 drift, .int .i64 R, .slice sa ns sc, .slice la nl lc, .int .i64 frame, .slice wa nw wc, .int .i64 f, .int .i64 s, .int .i64 n, .int .i64 d, .int .i64 node] 45)).alloc (.cells #[.int .i64 p, .int .i64 q] 41)).alloc (.cells #[.int .i64 0, .int .i64 0] 41) := ⟨_, rfl⟩
  have hV : Below w.heap.size w V := by rw [hVe]; exact three_box
  have HB : Hid (InBox w.heap.size nodes faulty skew jitter drift R frame sa la wa ns sc nl lc nw wc f s n d node p q V) := by rw [hVe]; exact inBox_new nodes faulty skew jitter drift R frame sa la wa ns sc nl lc nw wc f s n d node p q _ _ _ w
  have hVs : V.heap.size = w.heap.size + 3 := by rw [hVe]; simp
  have HS : Hid (Rows3 V sa ns nd fr tt) := hs.below hV
  clear hs
  have HI : Hid (∀ (k : Nat) (u : World) (ri : Option Nat), Below V.heap.size V u → InHit (hitR f s n d ns nd fr tt R node p q ((0 : Int) + (k : Int))) ns ri → Calls Try.prog 21 #[.agg #[.int .i64 nodes, .int .i64 faulty, .int .i64 skew, .int .i64 jitter, .int .i64 drift, .int .i64 R, .slice sa ns sc, .slice la nl lc, .int .i64 frame, .slice wa nw wc, .int .i64 f, .int .i64 s, .int .i64 n, .int .i64 d, .int .i64 node], .int .i64 ((0 : Int) + (k : Int)), .agg #[.int .i64 p, .int .i64 q]] u fun ev w' => ev = .returned (.tuple #[.agg #[.int .i64 (inF f s n d ns fr tt R p q ((0 : Int) + (k : Int)) ri), .int .i64 (inT f s n d ns fr tt R p q ((0 : Int) + (k : Int)) ri)], .bool ri.isSome]) ∧ Below u.heap.size u w') := fun k u ri hu hr => in_any nodes faulty skew jitter drift R frame sa la wa ns sc nl lc nw wc f s n d node p q ((0 : Int) + (k : Int)) u hns nd fr tt (HS.out.below hu) ri hr
  have g1 : 0 ≤ to := hto
  have g2 : decide (to < 0) = false := decide_eq_false (by omega)
  have g3 : 49 < to := by omega
  go_enter Try.func12, Try.ntmps12
  go_wp2_with fail
  rw [← hVe]
  clear hVe
  subst hK
  go_loopw [24] (fun t wr => ∃ k : Nat, k ≤ 50 ∧ t = .int .i64 k ∧ Hid (∀ k', k' < k → ∀ i, i < ns → hitB f s n d ns nd fr tt R node p q 0 k' i = false) ∧ Below V.heap.size V wr) (fun t _ => 50 - (intOf t).toNat)
  case atStart => exact ⟨0, Nat.zero_le _, rfl, fun k' hk => absurd hk (Nat.not_lt_zero _), Below.refl _ _⟩
  case round =>
    obtain ⟨k, hkK, rfl, h0, hbe⟩ := hrel
    obtain ⟨wk, hwke⟩ : ∃ x, x = wr := ⟨wr, rfl⟩
    subst hwke
    have HB1 : Hid (InBox w.heap.size nodes faulty skew jitter drift R frame sa la wa ns sc nl lc nw wc f s n d node p q wk) := HB.out.below hbe (by omega)
    have hsz := hbe.size
    have hww : Below w.heap.size w wk := hV.trans (hbe.mono hV.size)
    obtain ⟨⟨q0, q1, q2, q3, q4, q5, q6, q7, q8, q9, q10, q11, q12, q13, q14⟩, s0, s1, r0, r1, z0, z1⟩ := HB1.out
    have hl0 : w.heap.size < wk.heap.size := by omega
    have hl1 : w.heap.size + 1 < wk.heap.size := by omega
    have hl2 : w.heap.size + 1 + 1 < wk.heap.size := by omega
    by_cases hkk : k < 50
    · obtain ⟨ri, hri⟩ := InHit.any (hitR f s n d ns nd fr tt R node p q ((0 : Int) + (k : Int))) ns
      have hI := HI.out k wk ri hbe hri
      have HRI : Hid (InHit (hitR f s n d ns nd fr tt R node p q ((0 : Int) + (k : Int))) ns ri) := hri
      have HFX : Hid (∀ i, passF f s n d ns fr tt R p q 0 (some (k, i)) = inF f s n d ns fr tt R p q ((0 : Int) + (k : Int)) (some i) ∧ passT f s n d ns fr tt R p q 0 (some (k, i)) = inT f s n d ns fr tt R p q ((0 : Int) + (k : Int)) (some i)) := fun i => ⟨rfl, rfl⟩
      clear hri HI
      have kk1 : (k : Int) < 50 := by omega
      have hlk : 0 + (k : Int) ≤ 9223372036854775807 := by omega
      have hlk0 : 0 ≤ 0 + (k : Int) := by omega
      rw [Int.zero_add] at hI hlk hlk0
      rcases ri with _ | i
      · have HZ : Hid (∀ k', k' < k + 1 → ∀ i, i < ns → hitB f s n d ns nd fr tt R node p q 0 k' i = false) := fun k' hk' => by
          rcases Nat.lt_succ_iff_lt_or_eq.1 hk' with z | z
          · exact h0.out k' z
          · rw [z]; exact HRI.out
        clear HRI HFX
        go_wp2_with fail
        refine hI.mono ?_
        rintro e w3 ⟨rfl, hb3⟩
        have hV3 : Below V.heap.size V w3 := hbe.trans (hb3.mono hsz)
        have hs3 := hV3.size
        clear hI hb3 q0 q1 q2 q3 q4 q5 q6 q7 q8 q9 q10 q11 q12 q13 q14 s0 s1 r0 r1 z0 z1
        go_wp2_with fail
        exact ⟨⟨k + 1, by omega, by go_num, HZ, hV3.alloc (by omega) _⟩, by simp [intOf]; omega⟩
      · have ht : r = some (k, i) := HF.out.one hkk HRI.out.1 HRI.out.2.1 h0.out HRI.out.2.2
        subst ht
        obtain ⟨cf, hcf⟩ : ∃ cf, inF f s n d ns fr tt R p q ((k : Int)) (some i) = cf := ⟨_, rfl⟩
        obtain ⟨ct, hct⟩ : ∃ ct, inT f s n d ns fr tt R p q ((k : Int)) (some i) = ct := ⟨_, rfl⟩
        rw [(HFX.out i).1, (HFX.out i).2, Int.zero_add, hcf, hct] at HG
        rw [hcf, hct] at hI
        have hIs : (some i).isSome = true := rfl
        rw [hIs] at hI
        have HG2 : Hid (∀ w', Below w.heap.size w w' → G (.returned (.tuple #[.agg #[.int .i64 cf, .int .i64 ct], .bool true])) w') := HG.out
        clear HRI HFX hcf hct HF h0 hIs HG
        go_wp2_with fail
        refine hI.mono ?_
        rintro e w3 ⟨rfl, hb3⟩
        have hV3 : Below V.heap.size V w3 := hbe.trans (hb3.mono hsz)
        have hw3 : Below w.heap.size w w3 := hV.trans (hV3.mono hV.size)
        have hs3 := hV3.size
        have hb0 : w.heap.size + 1 + 1 < w3.heap.size := by omega
        clear hI hb3 q0 q1 q2 q3 q4 q5 q6 q7 q8 q9 q10 q11 q12 q13 q14 s0 s1 r0 r1 z0 z1
        obtain ⟨_, _, _, r0, r1, z0, z1⟩ := HB.out.below hV3 (by omega)
        go_wp2
        exact bodyPost_ret (v := .tuple #[.agg #[.int .i64 cf, .int .i64 ct], .bool true]) (by simp [results, Try.results12, go_sem, r0, r1, hb0]) rfl (HG2.out _ (((hw3.setCell (p := ⟨w.heap.size + 1 + 1, 0, none⟩) (by show w.heap.size ≤ w.heap.size + 1 + 1; omega) _).setCell (p := ⟨w.heap.size + 1 + 1, 1, none⟩) (by show w.heap.size ≤ w.heap.size + 1 + 1; omega) _).alloc (by simp; omega) _))
    · have hke : k = 50 := by omega
      subst hke
      obtain rfl : r = none := HF.out.no h0.out
      have HGN : Hid (∀ w', Below w.heap.size w w' → G (.returned (.tuple #[.agg #[.int .i64 0, .int .i64 0], .bool false])) w') := HG.out
      clear HG HF HB HB1 HS h0 HI s0 s1 q0 q1 q2 q3 q4 q5 q6 q7 q8 q9 q10 q11 q12 q13 q14
      go_wp2
      exact bodyPost_ret (v := .tuple #[.agg #[.int .i64 0, .int .i64 0], .bool false]) (by simp [results, Try.results12, go_sem, r0, r1]) rfl (HGN.out _ ((hww.setCell (p := ⟨w.heap.size + 1 + 1, 0, none⟩) (by show w.heap.size ≤ w.heap.size + 1 + 1; omega) _).setCell (p := ⟨w.heap.size + 1 + 1, 1, none⟩) (by show w.heap.size ≤ w.heap.size + 1 + 1; omega) _))

set_option maxRecDepth 100000 in
set_option maxHeartbeats 4000000 in
theorem gpasses_pos_few (nodes faulty skew jitter drift R frame : Int) (sa la wa : Option Addr) (ns sc nl lc nw wc : Nat) (f s n d node : Int) (p q to lo : Int) (hpos : 0 ≤ lo) (w : World) (hns : ns ≤ 9223372036854775807) (nd fr tt : Nat → Int) (hs : Rows3 w sa ns nd fr tt) (hto : lo ≤ to) (ht1 : to ≤ 9223372036854775807) (K : Nat) (hK0 : K ≤ 50) (hK : (K : Int) = to - lo + 1) (r : Option (Nat × Nat)) (hF : FirstHit (hitB f s n d ns nd fr tt R node p q lo) K ns r) (G : Ending → World → Prop) (hG : ∀ w', Below w.heap.size w w' → G (.returned (.tuple #[.agg #[.int .i64 (passF f s n d ns fr tt R p q lo r), .int .i64 (passT f s n d ns fr tt R p q lo r)], .bool r.isSome])) w') :
    Calls Try.prog 12 #[.agg #[.int .i64 nodes, .int .i64 faulty, .int .i64 skew, .int .i64 jitter, .int .i64 drift, .int .i64 R, .slice sa ns sc, .slice la nl lc, .int .i64 frame, .slice wa nw wc, .int .i64 f, .int .i64 s, .int .i64 n, .int .i64 d, .int .i64 node], .agg #[.int .i64 p, .int .i64 q], .int .i64 lo, .int .i64 to] w G := by
  have HG : Hid _ := hG
  have HF : Hid (FirstHit (hitB f s n d ns nd fr tt R node p q lo) K ns r) := hF
  clear hG hF
  obtain ⟨V, hVe⟩ : ∃ V, V = ((w.alloc (.cells #[.int .i64 nodes, .int .i64 faulty, .int .i64 skew, .int .i64 jitter, .int .i64 drift, .int .i64 R, .slice sa ns sc, .slice la nl lc, .int .i64 frame, .slice wa nw wc, .int .i64 f, .int .i64 s, .int .i64 n, .int .i64 d, .int .i64 node] 45)).alloc (.cells #[.int .i64 p, .int .i64 q] 41)).alloc (.cells #[.int .i64 0, .int .i64 0] 41) := ⟨_, rfl⟩
  have hV : Below w.heap.size w V := by rw [hVe]; exact three_box
  have HB : Hid (InBox w.heap.size nodes faulty skew jitter drift R frame sa la wa ns sc nl lc nw wc f s n d node p q V) := by rw [hVe]; exact inBox_new nodes faulty skew jitter drift R frame sa la wa ns sc nl lc nw wc f s n d node p q _ _ _ w
  have hVs : V.heap.size = w.heap.size + 3 := by rw [hVe]; simp
  have HS : Hid (Rows3 V sa ns nd fr tt) := hs.below hV
  clear hs
  have HI : Hid (∀ (k : Nat) (u : World) (ri : Option Nat), Below V.heap.size V u → InHit (hitR f s n d ns nd fr tt R node p q (lo + (k : Int))) ns ri → Calls Try.prog 21 #[.agg #[.int .i64 nodes, .int .i64 faulty, .int .i64 skew, .int .i64 jitter, .int .i64 drift, .int .i64 R, .slice sa ns sc, .slice la nl lc, .int .i64 frame, .slice wa nw wc, .int .i64 f, .int .i64 s, .int .i64 n, .int .i64 d, .int .i64 node], .int .i64 (lo + (k : Int)), .agg #[.int .i64 p, .int .i64 q]] u fun ev w' => ev = .returned (.tuple #[.agg #[.int .i64 (inF f s n d ns fr tt R p q (lo + (k : Int)) ri), .int .i64 (inT f s n d ns fr tt R p q (lo + (k : Int)) ri)], .bool ri.isSome]) ∧ Below u.heap.size u w') := fun k u ri hu hr => in_any nodes faulty skew jitter drift R frame sa la wa ns sc nl lc nw wc f s n d node p q (lo + (k : Int)) u hns nd fr tt (HS.out.below hu) ri hr
  have g0 : decide (lo < 0) = false := decide_eq_false (by omega)
  have g2 : decide (to < lo) = false := decide_eq_false (by omega)
  have g4 : 0 ≤ to - lo := by omega
  have g5 : to - lo ≤ 9223372036854775807 := by omega
  have g3 : to - lo ≤ 49 := by omega
  go_enter Try.func12, Try.ntmps12
  go_wp2_with fail
  rw [← hVe]
  clear hVe
  have hKe : to - lo + 1 = (K : Int) := by omega
  rw [hKe]
  have HKK : Hid ((K : Int) = to - lo + 1) := hK
  clear hKe hK
  go_loopw [24] (fun t wr => ∃ k : Nat, k ≤ K ∧ t = .int .i64 k ∧ Hid (∀ k', k' < k → ∀ i, i < ns → hitB f s n d ns nd fr tt R node p q lo k' i = false) ∧ Below V.heap.size V wr) (fun t _ => 50 - (intOf t).toNat)
  case atStart => exact ⟨0, Nat.zero_le _, rfl, fun k' hk => absurd hk (Nat.not_lt_zero _), Below.refl _ _⟩
  case round =>
    obtain ⟨k, hkK, rfl, h0, hbe⟩ := hrel
    obtain ⟨wk, hwke⟩ : ∃ x, x = wr := ⟨wr, rfl⟩
    subst hwke
    have HB1 : Hid (InBox w.heap.size nodes faulty skew jitter drift R frame sa la wa ns sc nl lc nw wc f s n d node p q wk) := HB.out.below hbe (by omega)
    have hsz := hbe.size
    have hww : Below w.heap.size w wk := hV.trans (hbe.mono hV.size)
    obtain ⟨⟨q0, q1, q2, q3, q4, q5, q6, q7, q8, q9, q10, q11, q12, q13, q14⟩, s0, s1, r0, r1, z0, z1⟩ := HB1.out
    have hl0 : w.heap.size < wk.heap.size := by omega
    have hl1 : w.heap.size + 1 < wk.heap.size := by omega
    have hl2 : w.heap.size + 1 + 1 < wk.heap.size := by omega
    by_cases hkk : k < K
    · obtain ⟨ri, hri⟩ := InHit.any (hitR f s n d ns nd fr tt R node p q (lo + (k : Int))) ns
      have hI := HI.out k wk ri hbe hri
      have HRI : Hid (InHit (hitR f s n d ns nd fr tt R node p q (lo + (k : Int))) ns ri) := hri
      have HFX : Hid (∀ i, passF f s n d ns fr tt R p q lo (some (k, i)) = inF f s n d ns fr tt R p q (lo + (k : Int)) (some i) ∧ passT f s n d ns fr tt R p q lo (some (k, i)) = inT f s n d ns fr tt R p q (lo + (k : Int)) (some i)) := fun i => ⟨rfl, rfl⟩
      clear hri HI
      have kk1 : (k : Int) < (K : Int) := by omega
      have hlk : lo + (k : Int) ≤ 9223372036854775807 := by have := HKK.out; omega
      have hlk0 : 0 ≤ lo + (k : Int) := by omega
      rcases ri with _ | i
      · have HZ : Hid (∀ k', k' < k + 1 → ∀ i, i < ns → hitB f s n d ns nd fr tt R node p q lo k' i = false) := fun k' hk' => by
          rcases Nat.lt_succ_iff_lt_or_eq.1 hk' with z | z
          · exact h0.out k' z
          · rw [z]; exact HRI.out
        clear HRI HFX
        go_wp2_with fail
        refine hI.mono ?_
        rintro e w3 ⟨rfl, hb3⟩
        have hV3 : Below V.heap.size V w3 := hbe.trans (hb3.mono hsz)
        have hs3 := hV3.size
        clear hI hb3 q0 q1 q2 q3 q4 q5 q6 q7 q8 q9 q10 q11 q12 q13 q14 s0 s1 r0 r1 z0 z1
        go_wp2_with fail
        exact ⟨⟨k + 1, by omega, by go_num, HZ, hV3.alloc (by omega) _⟩, by simp [intOf]; omega⟩
      · have ht : r = some (k, i) := HF.out.one hkk HRI.out.1 HRI.out.2.1 h0.out HRI.out.2.2
        subst ht
        obtain ⟨cf, hcf⟩ : ∃ cf, inF f s n d ns fr tt R p q (lo + (k : Int)) (some i) = cf := ⟨_, rfl⟩
        obtain ⟨ct, hct⟩ : ∃ ct, inT f s n d ns fr tt R p q (lo + (k : Int)) (some i) = ct := ⟨_, rfl⟩
        rw [(HFX.out i).1, (HFX.out i).2, hcf, hct] at HG
        rw [hcf, hct] at hI
        have hIs : (some i).isSome = true := rfl
        rw [hIs] at hI
        have HG2 : Hid (∀ w', Below w.heap.size w w' → G (.returned (.tuple #[.agg #[.int .i64 cf, .int .i64 ct], .bool true])) w') := HG.out
        clear HRI HFX hcf hct HF h0 hIs HG
        go_wp2_with fail
        refine hI.mono ?_
        rintro e w3 ⟨rfl, hb3⟩
        have hV3 : Below V.heap.size V w3 := hbe.trans (hb3.mono hsz)
        have hw3 : Below w.heap.size w w3 := hV.trans (hV3.mono hV.size)
        have hs3 := hV3.size
        have hb0 : w.heap.size + 1 + 1 < w3.heap.size := by omega
        clear hI hb3 q0 q1 q2 q3 q4 q5 q6 q7 q8 q9 q10 q11 q12 q13 q14 s0 s1 r0 r1 z0 z1
        obtain ⟨_, _, _, r0, r1, z0, z1⟩ := HB.out.below hV3 (by omega)
        go_wp2
        exact bodyPost_ret (v := .tuple #[.agg #[.int .i64 cf, .int .i64 ct], .bool true]) (by simp [results, Try.results12, go_sem, r0, r1, hb0]) rfl (HG2.out _ (((hw3.setCell (p := ⟨w.heap.size + 1 + 1, 0, none⟩) (by show w.heap.size ≤ w.heap.size + 1 + 1; omega) _).setCell (p := ⟨w.heap.size + 1 + 1, 1, none⟩) (by show w.heap.size ≤ w.heap.size + 1 + 1; omega) _).alloc (by simp; omega) _))
    · have hke : k = K := by omega
      subst hke
      obtain rfl : r = none := HF.out.no h0.out
      have HGN : Hid (∀ w', Below w.heap.size w w' → G (.returned (.tuple #[.agg #[.int .i64 0, .int .i64 0], .bool false])) w') := HG.out
      clear HG HF HB HB1 HS h0 HI s0 s1 q0 q1 q2 q3 q4 q5 q6 q7 q8 q9 q10 q11 q12 q13 q14
      go_wp2
      exact bodyPost_ret (v := .tuple #[.agg #[.int .i64 0, .int .i64 0], .bool false]) (by simp [results, Try.results12, go_sem, r0, r1]) rfl (HGN.out _ ((hww.setCell (p := ⟨w.heap.size + 1 + 1, 0, none⟩) (by show w.heap.size ≤ w.heap.size + 1 + 1; omega) _).setCell (p := ⟨w.heap.size + 1 + 1, 1, none⟩) (by show w.heap.size ≤ w.heap.size + 1 + 1; omega) _))

set_option maxRecDepth 100000 in
set_option maxHeartbeats 4000000 in
theorem gpasses_pos_many (nodes faulty skew jitter drift R frame : Int) (sa la wa : Option Addr) (ns sc nl lc nw wc : Nat) (f s n d node : Int) (p q to lo : Int) (hpos : 0 ≤ lo) (w : World) (hns : ns ≤ 9223372036854775807) (nd fr tt : Nat → Int) (hs : Rows3 w sa ns nd fr tt) (ht1 : to ≤ 9223372036854775807) (K : Nat) (hK0 : K ≤ 50) (hK : K = 50) (hfar : 49 < to - lo) (r : Option (Nat × Nat)) (hF : FirstHit (hitB f s n d ns nd fr tt R node p q lo) K ns r) (G : Ending → World → Prop) (hG : ∀ w', Below w.heap.size w w' → G (.returned (.tuple #[.agg #[.int .i64 (passF f s n d ns fr tt R p q lo r), .int .i64 (passT f s n d ns fr tt R p q lo r)], .bool r.isSome])) w') :
    Calls Try.prog 12 #[.agg #[.int .i64 nodes, .int .i64 faulty, .int .i64 skew, .int .i64 jitter, .int .i64 drift, .int .i64 R, .slice sa ns sc, .slice la nl lc, .int .i64 frame, .slice wa nw wc, .int .i64 f, .int .i64 s, .int .i64 n, .int .i64 d, .int .i64 node], .agg #[.int .i64 p, .int .i64 q], .int .i64 lo, .int .i64 to] w G := by
  have HG : Hid _ := hG
  have HF : Hid (FirstHit (hitB f s n d ns nd fr tt R node p q lo) K ns r) := hF
  clear hG hF
  obtain ⟨V, hVe⟩ : ∃ V, V = ((w.alloc (.cells #[.int .i64 nodes, .int .i64 faulty, .int .i64 skew, .int .i64 jitter, .int .i64 drift, .int .i64 R, .slice sa ns sc, .slice la nl lc, .int .i64 frame, .slice wa nw wc, .int .i64 f, .int .i64 s, .int .i64 n, .int .i64 d, .int .i64 node] 45)).alloc (.cells #[.int .i64 p, .int .i64 q] 41)).alloc (.cells #[.int .i64 0, .int .i64 0] 41) := ⟨_, rfl⟩
  have hV : Below w.heap.size w V := by rw [hVe]; exact three_box
  have HB : Hid (InBox w.heap.size nodes faulty skew jitter drift R frame sa la wa ns sc nl lc nw wc f s n d node p q V) := by rw [hVe]; exact inBox_new nodes faulty skew jitter drift R frame sa la wa ns sc nl lc nw wc f s n d node p q _ _ _ w
  have hVs : V.heap.size = w.heap.size + 3 := by rw [hVe]; simp
  have HS : Hid (Rows3 V sa ns nd fr tt) := hs.below hV
  clear hs
  have HI : Hid (∀ (k : Nat) (u : World) (ri : Option Nat), Below V.heap.size V u → InHit (hitR f s n d ns nd fr tt R node p q (lo + (k : Int))) ns ri → Calls Try.prog 21 #[.agg #[.int .i64 nodes, .int .i64 faulty, .int .i64 skew, .int .i64 jitter, .int .i64 drift, .int .i64 R, .slice sa ns sc, .slice la nl lc, .int .i64 frame, .slice wa nw wc, .int .i64 f, .int .i64 s, .int .i64 n, .int .i64 d, .int .i64 node], .int .i64 (lo + (k : Int)), .agg #[.int .i64 p, .int .i64 q]] u fun ev w' => ev = .returned (.tuple #[.agg #[.int .i64 (inF f s n d ns fr tt R p q (lo + (k : Int)) ri), .int .i64 (inT f s n d ns fr tt R p q (lo + (k : Int)) ri)], .bool ri.isSome]) ∧ Below u.heap.size u w') := fun k u ri hu hr => in_any nodes faulty skew jitter drift R frame sa la wa ns sc nl lc nw wc f s n d node p q (lo + (k : Int)) u hns nd fr tt (HS.out.below hu) ri hr
  have g0 : decide (lo < 0) = false := decide_eq_false (by omega)
  have g2 : decide (to < lo) = false := decide_eq_false (by omega)
  have g4 : 0 ≤ to - lo := by omega
  have g5 : to - lo ≤ 9223372036854775807 := by omega
  have g3 : 49 < to - lo := by omega
  go_enter Try.func12, Try.ntmps12
  go_wp2_with fail
  rw [← hVe]
  clear hVe
  subst hK
  go_loopw [24] (fun t wr => ∃ k : Nat, k ≤ 50 ∧ t = .int .i64 k ∧ Hid (∀ k', k' < k → ∀ i, i < ns → hitB f s n d ns nd fr tt R node p q lo k' i = false) ∧ Below V.heap.size V wr) (fun t _ => 50 - (intOf t).toNat)
  case atStart => exact ⟨0, Nat.zero_le _, rfl, fun k' hk => absurd hk (Nat.not_lt_zero _), Below.refl _ _⟩
  case round =>
    obtain ⟨k, hkK, rfl, h0, hbe⟩ := hrel
    obtain ⟨wk, hwke⟩ : ∃ x, x = wr := ⟨wr, rfl⟩
    subst hwke
    have HB1 : Hid (InBox w.heap.size nodes faulty skew jitter drift R frame sa la wa ns sc nl lc nw wc f s n d node p q wk) := HB.out.below hbe (by omega)
    have hsz := hbe.size
    have hww : Below w.heap.size w wk := hV.trans (hbe.mono hV.size)
    obtain ⟨⟨q0, q1, q2, q3, q4, q5, q6, q7, q8, q9, q10, q11, q12, q13, q14⟩, s0, s1, r0, r1, z0, z1⟩ := HB1.out
    have hl0 : w.heap.size < wk.heap.size := by omega
    have hl1 : w.heap.size + 1 < wk.heap.size := by omega
    have hl2 : w.heap.size + 1 + 1 < wk.heap.size := by omega
    by_cases hkk : k < 50
    · obtain ⟨ri, hri⟩ := InHit.any (hitR f s n d ns nd fr tt R node p q (lo + (k : Int))) ns
      have hI := HI.out k wk ri hbe hri
      have HRI : Hid (InHit (hitR f s n d ns nd fr tt R node p q (lo + (k : Int))) ns ri) := hri
      have HFX : Hid (∀ i, passF f s n d ns fr tt R p q lo (some (k, i)) = inF f s n d ns fr tt R p q (lo + (k : Int)) (some i) ∧ passT f s n d ns fr tt R p q lo (some (k, i)) = inT f s n d ns fr tt R p q (lo + (k : Int)) (some i)) := fun i => ⟨rfl, rfl⟩
      clear hri HI
      have kk1 : (k : Int) < 50 := by omega
      have hlk : lo + (k : Int) ≤ 9223372036854775807 := by omega
      have hlk0 : 0 ≤ lo + (k : Int) := by omega
      rcases ri with _ | i
      · have HZ : Hid (∀ k', k' < k + 1 → ∀ i, i < ns → hitB f s n d ns nd fr tt R node p q lo k' i = false) := fun k' hk' => by
          rcases Nat.lt_succ_iff_lt_or_eq.1 hk' with z | z
          · exact h0.out k' z
          · rw [z]; exact HRI.out
        clear HRI HFX
        go_wp2_with fail
        refine hI.mono ?_
        rintro e w3 ⟨rfl, hb3⟩
        have hV3 : Below V.heap.size V w3 := hbe.trans (hb3.mono hsz)
        have hs3 := hV3.size
        clear hI hb3 q0 q1 q2 q3 q4 q5 q6 q7 q8 q9 q10 q11 q12 q13 q14 s0 s1 r0 r1 z0 z1
        go_wp2_with fail
        exact ⟨⟨k + 1, by omega, by go_num, HZ, hV3.alloc (by omega) _⟩, by simp [intOf]; omega⟩
      · have ht : r = some (k, i) := HF.out.one hkk HRI.out.1 HRI.out.2.1 h0.out HRI.out.2.2
        subst ht
        obtain ⟨cf, hcf⟩ : ∃ cf, inF f s n d ns fr tt R p q (lo + (k : Int)) (some i) = cf := ⟨_, rfl⟩
        obtain ⟨ct, hct⟩ : ∃ ct, inT f s n d ns fr tt R p q (lo + (k : Int)) (some i) = ct := ⟨_, rfl⟩
        rw [(HFX.out i).1, (HFX.out i).2, hcf, hct] at HG
        rw [hcf, hct] at hI
        have hIs : (some i).isSome = true := rfl
        rw [hIs] at hI
        have HG2 : Hid (∀ w', Below w.heap.size w w' → G (.returned (.tuple #[.agg #[.int .i64 cf, .int .i64 ct], .bool true])) w') := HG.out
        clear HRI HFX hcf hct HF h0 hIs HG
        go_wp2_with fail
        refine hI.mono ?_
        rintro e w3 ⟨rfl, hb3⟩
        have hV3 : Below V.heap.size V w3 := hbe.trans (hb3.mono hsz)
        have hw3 : Below w.heap.size w w3 := hV.trans (hV3.mono hV.size)
        have hs3 := hV3.size
        have hb0 : w.heap.size + 1 + 1 < w3.heap.size := by omega
        clear hI hb3 q0 q1 q2 q3 q4 q5 q6 q7 q8 q9 q10 q11 q12 q13 q14 s0 s1 r0 r1 z0 z1
        obtain ⟨_, _, _, r0, r1, z0, z1⟩ := HB.out.below hV3 (by omega)
        go_wp2
        exact bodyPost_ret (v := .tuple #[.agg #[.int .i64 cf, .int .i64 ct], .bool true]) (by simp [results, Try.results12, go_sem, r0, r1, hb0]) rfl (HG2.out _ (((hw3.setCell (p := ⟨w.heap.size + 1 + 1, 0, none⟩) (by show w.heap.size ≤ w.heap.size + 1 + 1; omega) _).setCell (p := ⟨w.heap.size + 1 + 1, 1, none⟩) (by show w.heap.size ≤ w.heap.size + 1 + 1; omega) _).alloc (by simp; omega) _))
    · have hke : k = 50 := by omega
      subst hke
      obtain rfl : r = none := HF.out.no h0.out
      have HGN : Hid (∀ w', Below w.heap.size w w' → G (.returned (.tuple #[.agg #[.int .i64 0, .int .i64 0], .bool false])) w') := HG.out
      clear HG HF HB HB1 HS h0 HI s0 s1 q0 q1 q2 q3 q4 q5 q6 q7 q8 q9 q10 q11 q12 q13 q14
      go_wp2
      exact bodyPost_ret (v := .tuple #[.agg #[.int .i64 0, .int .i64 0], .bool false]) (by simp [results, Try.results12, go_sem, r0, r1]) rfl (HGN.out _ ((hww.setCell (p := ⟨w.heap.size + 1 + 1, 0, none⟩) (by show w.heap.size ≤ w.heap.size + 1 + 1; omega) _).setCell (p := ⟨w.heap.size + 1 + 1, 1, none⟩) (by show w.heap.size ≤ w.heap.size + 1 + 1; omega) _))

set_option maxRecDepth 100000 in
set_option maxHeartbeats 2000000 in
theorem gpasses_less (nodes faulty skew jitter drift R frame : Int) (sa la wa : Option Addr) (ns sc nl lc nw wc : Nat) (f s n d node : Int) (p q frm to lo : Int) (hlo : lo = max frm 0) (w : World) (hto : to < lo) :
    Calls Try.prog 12 #[.agg #[.int .i64 nodes, .int .i64 faulty, .int .i64 skew, .int .i64 jitter, .int .i64 drift, .int .i64 R, .slice sa ns sc, .slice la nl lc, .int .i64 frame, .slice wa nw wc, .int .i64 f, .int .i64 s, .int .i64 n, .int .i64 d, .int .i64 node], .agg #[.int .i64 p, .int .i64 q], .int .i64 frm, .int .i64 to] w fun ev w' => ev = .returned (.tuple #[.agg #[.int .i64 0, .int .i64 0], .bool false]) ∧ Below w.heap.size w w' := by
  by_cases hneg : frm < 0
  · have g2 : to < 0 := by omega
    clear hlo hto
    go_enter Try.func12, Try.ntmps12
    go_wp2
    exact bodyPost_ret (v := .tuple #[.agg #[.int .i64 0, .int .i64 0], .bool false]) (by simp [results, Try.results12, go_sem]) rfl ⟨rfl, three_box⟩
  · have g1 : decide (frm < 0) = false := decide_eq_false hneg
    have g2 : to < frm := by omega
    clear hlo hto
    go_enter Try.func12, Try.ntmps12
    go_wp2
    exact bodyPost_ret (v := .tuple #[.agg #[.int .i64 0, .int .i64 0], .bool false]) (by simp [results, Try.results12, go_sem]) rfl ⟨rfl, three_box⟩


/-- The program's Passes, whatever it is asked. -/
theorem gpasses_any (nodes faulty skew jitter drift R frame : Int) (sa la wa : Option Addr) (ns sc nl lc nw wc : Nat) (f s n d node : Int) (p q frm to lo : Int) (hlo : lo = max frm 0) (w : World) (hns : ns ≤ 9223372036854775807) (nd fr tt : Nat → Int) (hs : Rows3 w sa ns nd fr tt) (ht1 : to ≤ 9223372036854775807) (r : Option (Nat × Nat)) (hF : FirstHit (hitB f s n d ns nd fr tt R node p q lo) (roundsK lo to) ns r) :
    Calls Try.prog 12 #[.agg #[.int .i64 nodes, .int .i64 faulty, .int .i64 skew, .int .i64 jitter, .int .i64 drift, .int .i64 R, .slice sa ns sc, .slice la nl lc, .int .i64 frame, .slice wa nw wc, .int .i64 f, .int .i64 s, .int .i64 n, .int .i64 d, .int .i64 node], .agg #[.int .i64 p, .int .i64 q], .int .i64 frm, .int .i64 to] w fun ev w' => ev = .returned (.tuple #[.agg #[.int .i64 (passF f s n d ns fr tt R p q lo r), .int .i64 (passT f s n d ns fr tt R p q lo r)], .bool r.isSome]) ∧ Below w.heap.size w w' := by
  by_cases hto : to < lo
  · have hk : roundsK lo to = 0 := by unfold roundsK; rw [if_pos hto]
    rw [hk] at hF
    obtain rfl : r = none := hF.no fun k hk => absurd hk (Nat.not_lt_zero _)
    exact gpasses_less nodes faulty skew jitter drift R frame sa la wa ns sc nl lc nw wc f s n d node p q frm to lo hlo w hto
  · have hk : roundsK lo to = min 50 (to - lo + 1).toNat := by unfold roundsK; rw [if_neg hto]
    rw [hk] at hF
    by_cases hfew : to - lo ≤ 49
    · have hm : min 50 (to - lo + 1).toNat = (to - lo + 1).toNat := by omega
      rw [hm] at hF
      by_cases hneg : frm < 0
      · obtain rfl : lo = 0 := by omega
        exact gpasses_neg_few nodes faulty skew jitter drift R frame sa la wa ns sc nl lc nw wc f s n d node p q frm to hneg w hns nd fr tt hs (by omega) ht1 _ (by omega) (by omega) r hF _ fun w' hb => ⟨rfl, hb⟩
      · obtain rfl : lo = frm := by omega
        exact gpasses_pos_few nodes faulty skew jitter drift R frame sa la wa ns sc nl lc nw wc f s n d node p q to lo (by omega) w hns nd fr tt hs (by omega) ht1 _ (by omega) (by omega) r hF _ fun w' hb => ⟨rfl, hb⟩
    · have hm : min 50 (to - lo + 1).toNat = 50 := by omega
      rw [hm] at hF
      by_cases hneg : frm < 0
      · obtain rfl : lo = 0 := by omega
        exact gpasses_neg_many nodes faulty skew jitter drift R frame sa la wa ns sc nl lc nw wc f s n d node p q frm to hneg w hns nd fr tt hs (by omega) ht1 _ (by omega) rfl (by omega) r hF _ fun w' hb => ⟨rfl, hb⟩
      · obtain rfl : lo = frm := by omega
        exact gpasses_pos_many nodes faulty skew jitter drift R frame sa la wa ns sc nl lc nw wc f s n d node p q to lo (by omega) w hns nd fr tt hs ht1 _ (by omega) rfl (by omega) r hF _ fun w' hb => ⟨rfl, hb⟩
end Go.Proofs.Ytlpojkehbhkdiaa
