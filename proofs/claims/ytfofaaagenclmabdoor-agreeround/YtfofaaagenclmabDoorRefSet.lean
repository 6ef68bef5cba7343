/- The document's answer's Round: which clock is wrong first, or what all show behind it; new memory alone is made. -/
import Derived.Test.YtfofaaagenclmabDoorAgreeRoundWalk
import Derived.Test.YtfofaaagenclmabDoorRefMid
import Derived.Test.YtfofaaagenclmabDoorBareAt
import Derived.RegionTactic
namespace Go.Proofs.YtfofaaagenclmabDoor
open Go.RowKit Go.Shelf Go.Sort

/-- The document's answer's variable Fine holds what its text says. -/
def Fine0 (w : World) : Prop := 0 < w.heap.size ∧ w.cell? ⟨0, 0, none⟩ = some (.int .i64 0) ∧ w.cell? ⟨0, 1, none⟩ = some (.int .i64 (-1))
theorem Fine0.below {w w' : World} (h : Fine0 w) (hb : Below w.heap.size w w') : Fine0 w' :=
  ⟨Nat.lt_of_lt_of_le h.1 hb.size, (hb.cell (p := ⟨_, 0, none⟩) h.1).trans h.2.1, (hb.cell (p := ⟨_, 1, none⟩) h.1).trans h.2.2⟩

set_option maxHeartbeats 1000000 in
theorem set_len (a ra : Option Addr) (n m cap rcap : Nat) (f : Int) (w : World) (h : m ≠ n) :
    Calls Tryd.prog 9 #[.slice a n cap, .slice ra m rcap, .int .i64 f] w fun e w' => e = .returned (.tuple #[.slice none 0 0, .agg #[.int .i64 1, .int .i64 (-1)]]) ∧ Below w.heap.size w w' := by
  have k1 : ((m : Int) != (n : Int)) = true := by simp; omega
  have hA : Below w.heap.size w (w.alloc (.cells #[.int .i64 0, .int .i64 0] 34)) := (Below.refl _ _).alloc (Nat.le_refl _) _
  go_enter Tryd.func9, Tryd.ntmps9
  go_wp2_with fail
  refine (bareF_any _ _).mono ?_
  rintro e w1 ⟨rfl, hb1⟩
  have c0 : w1.cell? ⟨w.heap.size, 0, none⟩ = some (.int .i64 0) := by rw [hb1.cell (by simp)]; simp
  have c1 : w1.cell? ⟨w.heap.size, 1, none⟩ = some (.int .i64 0) := by rw [hb1.cell (by simp)]; simp
  have z0 : w1.frozen? ⟨w.heap.size, 0, none⟩ = false := by rw [hb1.frozen (by simp)]; simp
  have z1 : w1.frozen? ⟨w.heap.size, 1, none⟩ = false := by rw [hb1.frozen (by simp)]; simp
  have hB := hA.trans (hb1.mono (by simp))
  clear hb1 hA
  go_wp2
  exact bodyPost_ret (v := .tuple #[.slice none 0 0, .agg #[.int .i64 1, .int .i64 (-1)]]) (by simp [results, Tryd.results9, go_sem, c0, c1]) rfl ⟨rfl, (hB.setCell (p := ⟨w.heap.size, 0, none⟩) (Nat.le_refl _) _).setCell (p := ⟨w.heap.size, 1, none⟩) (Nat.le_refl _) _⟩

theorem owns_set {w : World} {base : Nat} {e : TypeId} {size : Nat} {v : Value} {n : Nat} {xs : List Value} {b i : Nat} {x : Value} (h : w.ownsRow base e size v n xs) (hb : b < base) : (w.setCell ⟨b, i, none⟩ x).ownsRow base e size v n xs := by
  obtain ⟨h1, h2⟩ := h
  refine ⟨h1, ?_⟩
  rcases h2 with h2 | ⟨g, cap, cur, rfl, hg, hh, r⟩
  · exact .inl h2
  · refine .inr ⟨g, cap, cur, rfl, hg, ?_, r⟩
    rw [← hh]
    have : b ≠ g := by omega
    simp [World.setCell, Array.getElem?_modify, this]
theorem owns_drew {w : World} {base : Nat} {e : TypeId} {size : Nat} {v : Value} {n : Nat} {xs : List Value} (h : w.ownsRow base e size v n xs) : w.drew.ownsRow base e size v n xs := h

/-- What a store into the answer leaves. -/
theorem fault_end {w V wr : World} {x y : Int} (hV : V = w.alloc (.cells #[.int .i64 0, .int .i64 0] 34)) (hbe : Below V.heap.size V wr) :
    wr.cell? ⟨w.heap.size, 0, none⟩ = some (.int .i64 0) ∧ wr.cell? ⟨w.heap.size, 1, none⟩ = some (.int .i64 0) ∧ wr.frozen? ⟨w.heap.size, 0, none⟩ = false ∧ wr.frozen? ⟨w.heap.size, 1, none⟩ = false ∧ Below w.heap.size w ((wr.setCell ⟨w.heap.size, 0, none⟩ (.int .i64 x)).setCell ⟨w.heap.size, 1, none⟩ (.int .i64 y)) ∧ Below w.heap.size w wr := by
  subst hV
  have hA : Below w.heap.size w (w.alloc (.cells #[.int .i64 0, .int .i64 0] 34)) := (Below.refl _ _).alloc (Nat.le_refl _) _
  have hB := hA.trans (hbe.mono (by simp))
  exact ⟨by rw [hbe.cell (by simp)]; simp, by rw [hbe.cell (by simp)]; simp, by rw [hbe.frozen (by simp)]; simp, by rw [hbe.frozen (by simp)]; simp, (hB.setCell (p := ⟨w.heap.size, 0, none⟩) (Nat.le_refl _) _).setCell (p := ⟨w.heap.size, 1, none⟩) (Nat.le_refl _) _, hB⟩

set_option maxRecDepth 100000 in
set_option maxHeartbeats 4000000 in
theorem set_any (a ra : Option Addr) (cap rcap : Nat) (cs : List Int) (rows : List (List Int)) (f : Int) (w : World) (hfine : Fine0 w) (hr : IntRow w a cs) (ht : TabRow w ra rows) (hlen : rows.length = cs.length) (hn : cs.length ≤ 1000) (hrn : ∀ r ∈ rows, r.length ≤ 1000)
    (e i p : Int) (hF : FirstBad (fun j => stepErr cs.length (cs.getD j 0) (rows.getD j []) f) cs.length e i) (hp : p = if e = 0 then -1 else i) :
    Calls Tryd.prog 9 #[.slice a cs.length cap, .slice ra rows.length rcap, .int .i64 f] w fun ev w' => ∃ v, ev = .returned (.tuple #[v, .agg #[.int .i64 e, .int .i64 p]]) ∧ (e = 0 → w'.ownsRow w.heap.size 3 1 v cs.length ((setTo cs rows f cs.length).map (Value.int .i64))) ∧ (e ≠ 0 → v = .slice none 0 0) ∧ Below w.heap.size w w' := by
  obtain ⟨n, hcl⟩ : ∃ n, cs.length = n := ⟨_, rfl⟩
  have HL : Hid (cs.length = n ∧ rows.length = n) := ⟨hcl, by rw [hlen, hcl]⟩
  have HF : Hid (FirstBad (fun j => stepErr n (cs.getD j 0) (rows.getD j []) f) n e i) := hcl ▸ hF
  have HPP : Hid (p = if e = 0 then -1 else i) := hp
  have hVB : Below w.heap.size w (w.alloc (.cells #[.int .i64 0, .int .i64 0] 34)) := (Below.refl _ _).alloc (Nat.le_refl _) _
  obtain ⟨V, hV⟩ : ∃ V, V = w.alloc (.cells #[.int .i64 0, .int .i64 0] 34) := ⟨_, rfl⟩
  rw [← hV] at hVB
  have HR : Hid (IntRow V a cs) := hr.below hVB
  have HT : Hid (TabRow V ra rows) := ht.below hVB
  have HRN : Hid (∀ r ∈ rows, r.length ≤ 1000) := hrn
  have HFI : Hid (Fine0 V) := hfine.below hVB
  have HV : Hid (V = w.alloc (.cells #[.int .i64 0, .int .i64 0] 34)) := hV
  have hVs : w.heap.size < V.heap.size := by rw [hV]; simp
  rw [hcl] at hn
  rw [hlen, hcl]
  clear hF hr ht hlen hrn hcl hp hfine
  obtain ⟨i0, hi, hz0, hz1, hz2⟩ := info_parts Tryd.infoInt
  have k1 : ((n : Int) != (n : Int)) = false := by simp
  go_enter Tryd.func9, Tryd.ntmps9
  go_wp2_with fail
  rw [← hV]
  clear hV
  go_loopw [8, 21] (fun v t wr => ∃ k : Nat, k ≤ n ∧ t = .int .i64 k ∧ Hid (∀ j, j < k → stepErr n (cs.getD j 0) (rows.getD j []) f = 0) ∧ wr.ownsRow V.heap.size 3 1 v k ((setTo cs rows f k).map (Value.int .i64)) ∧ Below V.heap.size V wr) (fun _ t _ => n - (intOf t).toNat)
  case atStart => exact ⟨0, Nat.zero_le _, rfl, fun j hj => absurd hj (Nat.not_lt_zero _), by simpa [setTo] using World.ownsRow_nil _ _ _ _, Below.refl _ _⟩
  case round =>
    obtain ⟨k, hk, rfl, h0, hown, hbe⟩ := hrel
    by_cases hlt : k < n
    · obtain ⟨b, off, rfl, hb, hc⟩ := HR.out (by rw [HL.out.1]; omega)
      obtain ⟨tb, toff, rfl, htb, htc⟩ := HT.out (by rw [HL.out.2]; omega)
      have y0 := (hbe.cell (p := ⟨b, off + k, none⟩) hb).trans (hc k (by rw [HL.out.1]; exact hlt))
      obtain ⟨rx, rc, y1, hrow⟩ := htc k (by rw [HL.out.2]; exact hlt)
      replace y1 := (hbe.cell (p := ⟨tb, toff + k, none⟩) htb).trans y1
      have hrl : (rows.getD k []).length ≤ 1000 := HRN.out _ (by
        have : k < rows.length := by rw [HL.out.2]; exact hlt
        simp [List.getD, this])
      have HSE : Hid (setTo cs rows f (k + 1) = setTo cs rows f k ++ [cs.getD k 0 + midVal (rows.getD k []) f]) := setTo_succ ..
      have HM : Hid (∀ u : World, Below V.heap.size V u → Calls Tryd.prog 6 #[.slice rx (rows.getD k []).length rc, .int .i64 f] u fun e w' => e = .returned (.tuple #[.int .i64 (midVal (rows.getD k []) f), .int .i64 (midErr (rows.getD k []) f)]) ∧ Below u.heap.size u w') := fun u hu => refMid_any rx rc _ f u (hrow.below hu) hrl
      clear hc htc hrow
      obtain ⟨c, hcc⟩ : ∃ c, cs.getD k 0 = c := ⟨_, rfl⟩
      obtain ⟨rl, hrl2⟩ : ∃ rl, (rows.getD k []).length = rl := ⟨_, rfl⟩
      have HC : Hid (cs.getD k 0 = c ∧ (rows.getD k []).length = rl) := ⟨hcc, hrl2⟩
      rw [hcc] at y0 HSE
      rw [hrl2] at y1 HM hrl
      clear hcc hrl2
      by_cases h1 : rl = n
      rotate_left
      · have HE : Hid (stepErr n (cs.getD k 0) (rows.getD k []) f = 1) := stepErr_1 (by rw [HC.out.2]; exact h1)
        have k2 : ((rl : Int) != (n : Int)) = true := by simp; omega
        obtain ⟨c0, c1, q0, q1, hB, _⟩ := fault_end (x := 1) (y := (k : Int)) HV.out hbe
        clear HM h1
        go_wp2
        obtain ⟨rfl, rfl⟩ := HF.out.is hlt h0.out HE.out (by decide)
        obtain rfl := HPP.out
        exact bodyPost_ret (v := .tuple #[.slice none 0 0, .agg #[.int .i64 1, .int .i64 k]]) (by simp [results, Tryd.results9, go_sem, c0, c1]) rfl ⟨_, rfl, fun h => absurd h (by decide), fun _ => rfl, hB⟩
      · have k2 : ((rl : Int) != (n : Int)) = false := by simp; omega
        have hif := in_far c wr
        cases h2 : far c
        rotate_left
        · rw [h2] at hif
          have HE : Hid (stepErr n (cs.getD k 0) (rows.getD k []) f = 2) := stepErr_2 (by rw [HC.out.2]; exact h1) (by rw [HC.out.1]; exact h2)
          obtain ⟨c0, c1, q0, q1, hB, _⟩ := fault_end (x := 2) (y := (k : Int)) HV.out hbe
          clear HM h2 h1
          go_wp2_with fail
          refine hif.mono ?_
          rintro ev w2 ⟨rfl, rfl⟩
          go_wp2
          obtain ⟨rfl, rfl⟩ := HF.out.is hlt h0.out HE.out (by decide)
          obtain rfl := HPP.out
          exact bodyPost_ret (v := .tuple #[.slice none 0 0, .agg #[.int .i64 2, .int .i64 k]]) (by simp [results, Tryd.results9, go_sem, c0, c1]) rfl ⟨_, rfl, fun h => absurd h (by decide), fun _ => rfl, hB⟩
        · rw [h2] at hif
          have hcr := far_false.1 h2
          have HE : Hid (stepErr n (cs.getD k 0) (rows.getD k []) f = midErr (rows.getD k []) f) := stepErr_mid (by rw [HC.out.2]; exact h1) (by rw [HC.out.1]; exact h2)
          have hmr := midVal_in (rows.getD k []) f
          obtain ⟨x, hx⟩ : ∃ x, midVal (rows.getD k []) f = x := ⟨_, rfl⟩
          obtain ⟨se, hse⟩ : ∃ se, midErr (rows.getD k []) f = se := ⟨_, rfl⟩
          rw [hx] at HM hmr HSE
          rw [hse] at HM HE
          clear hx hse h2 h1
          go_wp2_with fail
          refine hif.mono ?_
          rintro ev w2 ⟨rfl, rfl⟩
          go_wp2_with fail
          refine (HM.out _ hbe).mono ?_
          rintro ev w2 ⟨rfl, hb2⟩
          have hb2' := below_then hbe hb2
          replace y0 := (hb2.cell (p := ⟨b, off + k, none⟩) (Nat.lt_of_lt_of_le hb hbe.size)).trans y0
          have hown2 := owns_below hown hb2
          have hw2 := hb2'.size
          clear HM hb2
          by_cases hz : se = 0
          rotate_left
          · have HZ : Hid (se ≠ 0) := hz
            have k3 : (se != 0) = true := by simpa using hz
            obtain ⟨c0, c1, q0, q1, hB, _⟩ := fault_end (x := se) (y := (k : Int)) HV.out hb2'
            clear hz
            go_wp2
            obtain ⟨rfl, rfl⟩ := HF.out.is hlt h0.out HE.out HZ.out
            have hpe := HPP.out
            rw [if_neg HZ.out] at hpe
            subst hpe
            exact bodyPost_ret (v := .tuple #[.slice none 0 0, .agg #[.int .i64 _, .int .i64 k]]) (by simp [results, Tryd.results9, go_sem, c0, c1]) rfl ⟨_, rfl, fun h => absurd h HZ.out, fun _ => rfl, hB⟩
          · subst hz
            go_wp2_with (at_builtin; refine wpList_append_own _ rfl _ _ 22 rfl V.heap.size 3 i0 (.int .i64 0) 1 8 Tryd.underlying22 hi hz0 hz1 hz2 rfl (by decide) u8 _ _ rfl (hown2.alloc _) ⟨w2.heap.size, 0, none⟩ 1 1 [.int .i64 (c + x)] rfl rfl (cell_one_new _ _ _) (ints_one [c + x]) (by unfold maxLen; omega) (by omega) (by simp; omega) ?_; intro v' w3 hown' hgrow hnil)
            have hb3 : Below V.heap.size V w3 := (hb2'.alloc hw2 _).grown hgrow (by simp; omega) (fun g hg => (hown2.lt g hg).1)
            refine ⟨⟨k + 1, by omega, by go_num, next_zero h0.out HE.out, by rw [HSE.out, List.map_append]; exact hown', hb3⟩, ?_⟩
            simp [intOf]; omega
    · have : k = n := by omega
      subst this
      obtain ⟨g0, g1, g2⟩ := HFI.out.below hbe
      obtain ⟨c0, c1, q0, q1, hB, _⟩ := fault_end (x := 0) (y := -1) HV.out hbe
      go_wp2_with fail
      go_region
      go_wp2
      obtain ⟨rfl, rfl⟩ := HF.out.at_end h0.out
      obtain rfl := HPP.out
      exact bodyPost_ret (v := .tuple #[u8, .agg #[.int .i64 0, .int .i64 (-1)]]) (by simp [results, Tryd.results9, go_sem, c0, c1]) rfl ⟨_, rfl, fun _ => owns_drew (owns_mono (owns_set (owns_set hown hVs) hVs) (Nat.le_of_lt hVs)), fun h => absurd rfl h, hB.drew⟩
end Go.Proofs.YtfofaaagenclmabDoor
