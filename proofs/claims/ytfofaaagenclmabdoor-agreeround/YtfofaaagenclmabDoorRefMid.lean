/-
  The document's answer's Midpoint: of every readings and every f: its error, or the middle; new memory alone is made.
-/
import Derived.Test.YtfofaaagenclmabDoorAgreeMid
import Derived.Laws.AppendOwn
import Derived.Test.YtfofaaagenclmabDoorOwnInts
import Derived.BigQuiet
namespace Go.Proofs.YtfofaaagenclmabDoor
open Go.RowKit Go.Shelf Go.Sort

theorem tmod_two {x : Int} (h : x < 0) : x.tmod 2 = -((-x) % 2) := by
  obtain ⟨y, rfl⟩ : ∃ y : Nat, x = -(y : Int) := ⟨(-x).toNat, by omega⟩
  rw [Int.neg_tmod, Int.neg_neg, Int.tmod_eq_emod_of_nonneg (by omega)]
theorem tdiv_two {x : Int} (h : x < 0) : x.tdiv 2 = -((-x) / 2) := by
  obtain ⟨y, rfl⟩ : ∃ y : Nat, x = -(y : Int) := ⟨(-x).toNat, by omega⟩
  rw [Int.neg_tdiv, Int.neg_neg, Int.tdiv_eq_ediv_of_nonneg (by omega)]

theorem in_far (x : Int) (w : World) : Calls Tryd.prog 17 #[.int .i64 x, .int .i64 (-1099511627776), .int .i64 1099511627776] w fun e w' => e = .returned (.bool (!far x)) ∧ w' = w := by
  by_cases h1 : -1099511627776 ≤ x
  · by_cases h2 : x ≤ 1099511627776
    · rw [far_false.2 ⟨h1, h2⟩]
      go_enter Tryd.func17, Tryd.ntmps17
      go_wp2
      go_ret
      exact ⟨rfl, rfl⟩
    · rw [far_true.2 (by omega)]
      have h3 : decide (x ≤ 1099511627776) = false := decide_eq_false h2
      go_enter Tryd.func17, Tryd.ntmps17
      go_wp2
      go_ret
      exact ⟨rfl, rfl⟩
  · rw [far_true.2 (by omega)]
    have h3 : decide (-1099511627776 ≤ x) = false := decide_eq_false h1
    go_enter Tryd.func17, Tryd.ntmps17
    go_wp2
    go_ret
    exact ⟨rfl, rfl⟩

set_option maxHeartbeats 1000000 in
theorem refMid_arg (a : Option Addr) (n cap : Nat) (f : Int) (w : World) (h : f < 0 ∨ (n : Int) < 2 * f + 1) :
    Calls Tryd.prog 6 #[.slice a n cap, .int .i64 f] w fun e w' => e = .returned (.tuple #[.int .i64 0, .int .i64 1]) ∧ Below w.heap.size w w' := by
  by_cases hf : f < 0
  · clear h
    go_enter Tryd.func6, Tryd.ntmps6
    go_wp2
    go_ret2
    exact ⟨rfl, Below.refl _ _⟩
  · have k1 : decide (f < 0) = false := decide_eq_false hf
    by_cases h0 : 1000 < f
    · clear h hf
      go_enter Tryd.func6, Tryd.ntmps6
      go_wp2
      go_ret2
      exact ⟨rfl, Below.refl _ _⟩
    · have k2 : decide (1000 < f) = false := decide_eq_false h0
      have k3 : (n : Int) < 2 * f + 1 := by omega
      have k4 : 0 ≤ f := by omega
      have k5 : f ≤ 1000 := by omega
      clear h hf h0
      go_enter Tryd.func6, Tryd.ntmps6
      go_wp2
      go_ret2
      exact ⟨rfl, Below.refl _ _⟩

set_option maxRecDepth 100000 in
set_option maxHeartbeats 4000000 in
theorem refMid_in (a : Option Addr) (cap : Nat) (l : List Int) (f : Nat) (w : World) (hr : IntRow w a l) (hn : l.length ≤ 1000) (h : 2 * f + 1 ≤ l.length) :
    Calls Tryd.prog 6 #[.slice a l.length cap, .int .i64 f] w fun e w' => e = .returned (.tuple #[.int .i64 (midVal l f), .int .i64 (midErr l f)]) ∧ Below w.heap.size w w' := by
  obtain ⟨b, off, rfl, hb, hc⟩ := hr (by omega)
  obtain ⟨n, hl⟩ : ∃ n, l.length = n := ⟨_, rfl⟩
  have HL : Hid (l.length = n) := hl
  have HCC : Hid (∀ j, j < n → w.cell? ⟨b, off + j, none⟩ = some (.int .i64 (l.getD j 0))) := hl ▸ hc
  rw [hl] at hn h ⊢
  have k1 : decide ((f : Int) < 0) = false := decide_eq_false (by omega)
  have k2 : decide (1000 < (f : Int)) = false := decide_eq_false (by omega)
  have k3 : decide ((n : Int) < 2 * (f : Int) + 1) = false := decide_eq_false (by omega)
  clear hc hr hl
  go_enter Tryd.func6, Tryd.ntmps6
  go_wp2
  go_loop [26] (fun i => ∃ k : Nat, k ≤ n ∧ i = .int .i64 k ∧ Hid (∀ j, j < k → far (l.getD j 0) = false)) (fun i => n - (intOf i).toNat)
  case atStart => exact ⟨0, Nat.zero_le _, rfl, fun j hj => absurd hj (Nat.not_lt_zero _)⟩
  case round =>
    obtain ⟨k, hk, rfl, h0⟩ := hrel
    by_cases hlt : k < n
    · have y0 := HCC.out k hlt
      obtain ⟨x, hx⟩ : ∃ x, l.getD k 0 = x := ⟨_, rfl⟩
      have HX : Hid (l.getD k 0 = x) := hx
      rw [hx] at y0
      clear hx
      have hif := in_far x
      cases hfx : far x
      · rw [hfx] at hif
        have HF : Hid (far x = false) := hfx
        clear hfx
        go_wp2_with (go_at_call 17; refine (hif _).mono ?_; rintro e w' ⟨rfl, rfl⟩)
        refine ⟨⟨k + 1, by omega, by go_num, fun j hj => ?_⟩, by simp [intOf]; omega⟩
        rcases Nat.lt_succ_iff_lt_or_eq.1 hj with q | q
        · exact h0.out j q
        · rw [q, HX.out]; exact HF.out
      · rw [hfx] at hif
        have HF : Hid (far x = true) := hfx
        clear hfx
        go_wp2_with (go_at_call 17; refine (hif _).mono ?_; rintro e w' ⟨rfl, rfl⟩)
        have HE : midErr l f = 2 := midErr_2 (by rw [HL.out]; omega) (by
          rw [List.any_eq_true]
          exact ⟨x, by rw [← HX.out, getD_at (by rw [HL.out]; exact hlt)]; exact List.getElem_mem _, HF.out⟩)
        go_ret2
        rw [HE, midVal_bad (by rw [HE]; decide)]
        exact ⟨rfl, Below.refl _ _⟩
    · have : k = n := by omega
      subst this
      have hin : l.any far = false := by
        rw [List.any_eq_false]
        intro x hx
        obtain ⟨j, hj, rfl⟩ := List.getElem_of_mem hx
        have := h0.out j (by rw [← HL.out]; exact hj)
        rw [getD_at hj] at this
        simp [this]
      have hA := rank_in hin (k := f) (by rw [HL.out]; omega)
      have hZ := rank_in hin (k := k - 1 - f) (by rw [HL.out]; omega)
      have HM : Hid (midVal l f = (rank l f + rank l (k - 1 - f)) / 2 ∧ midErr l f = 0) := by
        have h0' : midErr l f = 0 := midErr_0 (by rw [HL.out]; omega) hin
        exact ⟨by rw [midVal_ok h0', midOf, HL.out]; rfl, h0'⟩
      obtain ⟨p, hp⟩ : ∃ p, rank l f = p := ⟨_, rfl⟩
      obtain ⟨q, hq⟩ : ∃ q, rank l (k - 1 - f) = q := ⟨_, rfl⟩
      rw [hp] at hA HM
      rw [hq] at hZ HM
      have HP : Hid (rank l f = p) := hp
      have HQ : Hid (rank l (k - 1 - f) = q) := hq
      clear hp hq hin h0
      have hnews : ∀ (j : Nat) (u : Value), (l.map (Value.int .i64))[j]? = some u → (w.alloc (.cells #[] 3)).cell? ((⟨b, off, none⟩ : Addr).add j) = some u := fun j u hj => by
        rw [add_at, World.cell?_alloc_lt _ _ _ hb]
        rw [List.getElem?_map] at hj
        have hjl : j < l.length := by
          rcases Nat.lt_or_ge j l.length with q | q
          · exact q
          · rw [List.getElem?_eq_none q] at hj; cases hj
        rw [List.getElem?_eq_getElem hjl] at hj
        rw [HCC.out j (by rw [← HL.out]; exact hjl), getD_at hjl]
        exact hj
      have HN := (show Hid _ from hnews)
      clear hnews
      obtain ⟨i0, hi, hz0, hz1, hz2⟩ := info_parts Tryd.infoInt
      have hmt := owns_row w #[] 3 0 rfl (Nat.zero_le _) w.heap.size (Nat.le_refl _)
      go_wp2_with (at_builtin; refine wpList_append_own _ rfl _ _ 22 rfl w.heap.size 3 i0 (.int .i64 0) 1 8 Tryd.underlying22 hi hz0 hz1 hz2 rfl (by decide) _ 0 [] rfl hmt ⟨b, off, none⟩ k cap (l.map (Value.int .i64)) rfl (by rw [List.length_map, HL.out]; omega) HN.out (ints_one l) (by unfold maxLen; omega) (by omega) (by simp) ?_; intro v' w2 hown' hgrow hnil; apply Hid.out)
      unfold Hid
      have hnn : v' ≠ .slice none 0 0 := fun e => by
        have := (hnil.1 e).1
        cases this
      have hB2 : Below w.heap.size w w2 := ((Below.refl _ _).alloc (Nat.le_refl _) _).grown hgrow (by simp) (fun j hj => by cases hj; exact Nat.le_refl _)
      rw [List.nil_append, Nat.zero_add] at hown'
      obtain ⟨g, cp, rfl, hbg, hgl, hcp, hcm, _, hH⟩ := Lib.holds_of_ownsRow hown' hnn
      have hS := Tryd.sort_Ints g 0 cp l w2 hH hgl (by rw [HL.out]; omega)
      rw [HL.out] at hS
      have HX : Hid (Holds (Value.int .i64) w2 g 0 l.toArray) := hH
      clear hH hown' hgrow hnil hnn hmt HN hi hz0 hz1 hz2
      go_wp2_with fail
      refine hS.mono ?_
      rintro e w4 ⟨rfl, nn, os, hw4⟩
      obtain ⟨hcs, hb4⟩ := sorted_row hB2 hbg hgl HX.out hw4
      have c1 : w4.cell? ⟨g, f, none⟩ = some (.int .i64 p) := by rw [hcs f (by rw [HL.out]; omega), HP.out]
      have c2 : w4.cell? ⟨g, k - 1 - f, none⟩ = some (.int .i64 q) := by rw [hcs (k - 1 - f) (by rw [HL.out]; omega), HQ.out]
      clear hcs hw4 HX hS hB2
      obtain ⟨m, hm⟩ : ∃ m, k - f = m := ⟨_, rfl⟩
      have k4 : (k : Int) - (f : Int) = (m : Int) := by omega
      have k5 : (f : Int) ≤ (m : Int) := by omega
      have k6 : (m : Int) ≤ (cp : Int) := by omega
      obtain ⟨r, hr⟩ : ∃ r, m - f = r := ⟨_, rfl⟩
      obtain ⟨j, hj⟩ : ∃ j, r - 1 = j := ⟨_, rfl⟩
      rw [show k - 1 - f = f + j from by omega] at c2
      have k7 : (r : Int) - 1 = (j : Int) := by omega
      have k8 : (j : Int) < (r : Int) := by omega
      have k9 : 0 < r := by omega
      have k10 : r ≤ 1000 := by omega
      go_wp2_with fail
      clear hm hr hj
      go_quiet (fail)
      obtain ⟨x, hx⟩ : ∃ x, p + q = x := ⟨_, rfl⟩
      have hx1 : -2199023255552 ≤ x := by omega
      have hx2 : x ≤ 2199023255552 := by omega
      rw [hx] at HM
      simp only [hx]
      clear hx
      by_cases hs : x < 0
      · by_cases ho : x % 2 = 0
        · have ho2 : (x.tmod 2 != 0) = false := by rw [tmod_two hs]; simp; omega
          go_wp2
          have he : x.tdiv 2 = x / 2 := by rw [tdiv_two hs]; omega
          rw [he]
          go_ret2
          rw [HM.out.1, HM.out.2]
          exact ⟨rfl, below_drewN' hb4 _⟩
        · have ho2 : (x.tmod 2 != 0) = true := by rw [tmod_two hs]; simp; omega
          go_wp2
          have he : (x - 1).tdiv 2 = x / 2 := by rw [tdiv_two (by omega)]; omega
          rw [he]
          go_ret2
          rw [HM.out.1, HM.out.2]
          exact ⟨rfl, below_drewN' hb4 _⟩
      · have hs2 : decide (x < 0) = false := decide_eq_false hs
        go_wp2
        go_ret2
        rw [HM.out.1, HM.out.2]
        exact ⟨rfl, below_drewN' hb4 _⟩

/-- The document's answer's Midpoint, whatever it is asked. -/
theorem refMid_any (a : Option Addr) (cap : Nat) (l : List Int) (f : Int) (w : World) (hr : IntRow w a l) (hn : l.length ≤ 1000) :
    Calls Tryd.prog 6 #[.slice a l.length cap, .int .i64 f] w fun e w' => e = .returned (.tuple #[.int .i64 (midVal l f), .int .i64 (midErr l f)]) ∧ Below w.heap.size w w' := by
  by_cases h : f < 0 ∨ (l.length : Int) < 2 * f + 1
  · rw [midVal_bad (by rw [midErr_1 h]; decide), midErr_1 h]
    exact refMid_arg a l.length cap f w h
  · obtain ⟨k, rfl⟩ : ∃ k : Nat, f = (k : Int) := ⟨f.toNat, by omega⟩
    exact refMid_in a cap l k w hr hn (by omega)
end Go.Proofs.YtfofaaagenclmabDoor
