/- The program's cluster: agreed, what clocks show behind a round (10.2). -/
import Derived.Test.YtdmokcnoljlogaaGreatDoorPCluR
import Derived.Test.YtdmokcnoljlogaaGreatDoorWordsB
import Derived.Test.YtdmokcnoljlogaaGreatDoorAgreeRoundOk
import Derived.Deep.RegionWith
namespace Go.Proofs.YtdmokcnoljlogaaGreatDoor
open Go.RowKit Go.Shelf Go.Sort

/-- All readings are within bounds. -/
theorem readAll_in {n : Nat} {lies : Nat → Bool} {jitter : Int} {now : Nat → Int} (hj0 : 0 ≤ jitter) (hj1 : jitter ≤ 137438953472) (hnow : ∀ i, i < n → -274877906944 ≤ now i ∧ now i ≤ 274877906944) (l : List ReadS) : ∀ i k, i < n → k < n → -1099511627776 ≤ readAll n lies jitter now l i k ∧ readAll n lies jitter now l i k ≤ 1099511627776 := by
  have key : ∀ (l : List ReadS) (row : Nat → Nat → Int), (∀ i k, i < n → k < n → -1099511627776 ≤ row i k ∧ row i k ≤ 1099511627776) → ∀ i k, i < n → k < n → -1099511627776 ≤ l.foldl (fun row x => readOne n lies jitter now x row) row i k ∧ l.foldl (fun row x => readOne n lies jitter now x row) row i k ≤ 1099511627776 := by
    intro l
    induction l with
    | nil => intro row h; exact h
    | cons x l ih =>
      intro row h
      refine ih _ fun i k hi hk => ?_
      show -1099511627776 ≤ readOne n lies jitter now x row i k ∧ readOne n lies jitter now x row i k ≤ 1099511627776
      unfold readOne
      split
      · have a := hnow i hi
        have b := hnow k hk
        have c := cutV_in (x := x.is_) hj0
        have d := cutV_in (x := x.is_) (most := 549755813888) (by decide)
        split <;> omega
      · exact h i k hi hk
  refine key l _ fun i k hi hk => ?_
  have a := hnow i hi
  have b := hnow k hk
  show -1099511627776 ≤ now k - now i ∧ now k - now i ≤ 1099511627776
  omega

def rowsOf (n : Nat) (f : Nat → Nat → Int) : List (List Int) := (List.range n).map fun i => (List.range n).map (f i)
theorem rowsOf_len (n : Nat) (f : Nat → Nat → Int) : (rowsOf n f).length = n := by simp [rowsOf]
theorem rowsOf_at (n : Nat) (f : Nat → Nat → Int) {i : Nat} (hi : i < n) : (rowsOf n f).getD i [] = (List.range n).map (f i) := by simp [rowsOf, hi]
theorem RTab.tab {w : World} {base R n Bi : Nat} {f : Nat → Nat → Int} {G cap : Nat → Nat} {v : Value} (h : RTab w base R n n f G cap Bi v) : TabRow w (some ⟨R, 0, none⟩) (rowsOf n f) := fun _ => by
  refine ⟨R, 0, rfl, Nat.lt_of_lt_of_le h.lR h.lB, fun j hj => ?_⟩
  rw [rowsOf_len] at hj
  rw [rowsOf_at n f hj]
  refine ⟨_, cap j, ?_, fun _ => ⟨G j, 0, rfl, Nat.lt_of_lt_of_le (h.lt j hj) h.lB, fun k hk => ?_⟩⟩
  · rw [Nat.zero_add, List.length_map, List.length_range]; exact h.row j hj
  · rw [List.length_map, List.length_range] at hk
    rw [Nat.zero_add, h.cel j k hj hk]
    simp [hk]

set_option maxHeartbeats 1000000 in
theorem cof_any (a : Option Addr) (cap : Nat) (l : List Int) (j n : Nat) (hl : l.length = n) (hn : n ≤ 9223372036854775807) (w : World) (hr : IntRow w a l) : Calls Tryz.prog 20 #[.slice a n cap, .int .i64 j] w fun e w' => e = .returned (.int .i64 (if j < n then l.getD j 0 else 0)) ∧ w' = w := by
  by_cases h : j < n
  · rw [if_pos h]
    obtain ⟨b, off, rfl, hb, hc⟩ := hr (by omega)
    have y := hc j (by omega)
    have k1 : decide (n ≤ j) = false := decide_eq_false (by omega)
    have k1' : decide ((n : Int) ≤ (j : Int)) = false := decide_eq_false (by omega)
    have k2 : (j : Int) < (n : Int) := by omega
    generalize l.getD j 0 = X at *
    clear hc hr
    go_enter Tryz.func20, Tryz.ntmps20
    go_wp2
    go_ret
    exact ⟨rfl, rfl⟩
  · rw [if_neg h]
    have k1 : n ≤ j := by omega
    have k1' : (n : Int) ≤ (j : Int) := by omega
    go_enter Tryz.func20, Tryz.ntmps20
    go_wp2
    go_ret
    exact ⟨rfl, rfl⟩
theorem drift_is (l : List Int) (d : Int) (j : Nat) (hd : 0 ≤ d) : cutV (if j < l.length then l.getD j 0 else 0) d = driftV l d j := by
  unfold driftV
  split
  · rfl
  · unfold cutV; omega

/-- What agreed answers. -/
def AgreedIs (w w' : World) (n : Nat) (BY : Bool) (CT : Nat → Int) (e : Ending) : Prop :=
  (BY = true ∧ e = .returned (.tuple #[.slice none 0 0, errV 6])) ∨ (BY = false ∧ ∃ g cap, e = .returned (.tuple #[.slice (some ⟨g, 0, none⟩) n cap, .nilIface]) ∧ (w.heap.size ≤ g ∧ g < w'.heap.size) ∧ ∀ j, j < n → w'.cell? ⟨g, j, none⟩ = some (.int .i64 (CT j)))
/-- The box of what happens in a round. -/
theorem box4 (w : World) (a b c d : Value) (t : TypeId) : ((w.alloc (.cells #[a, b, c, d] t)).cell? ⟨w.heap.size, 0, none⟩ = some a ∧ (w.alloc (.cells #[a, b, c, d] t)).cell? ⟨w.heap.size, 1, none⟩ = some b ∧ (w.alloc (.cells #[a, b, c, d] t)).cell? ⟨w.heap.size, 2, none⟩ = some c ∧ (w.alloc (.cells #[a, b, c, d] t)).cell? ⟨w.heap.size, 3, none⟩ = some d) ∧ Below w.heap.size w (w.alloc (.cells #[a, b, c, d] t)) ∧ (w.alloc (.cells #[a, b, c, d] t)).heap.size = w.heap.size + 1 :=
  ⟨⟨by simp, by simp, by simp, by simp⟩, (Below.refl _ _).alloc (Nat.le_refl _) _, by simp⟩

set_option maxRecDepth 100000 in
set_option maxHeartbeats 4000000 in
theorem cagreed_any (C cb n ccap f : Nat) (fa jitter drift : Int) (cs : List Int) (hcl : cs.length = n) (w : World) (c0 : w.cell? ⟨C, 0, none⟩ = some (.int .i64 n)) (c1 : w.cell? ⟨C, 1, none⟩ = some (.int .i64 f)) (c3 : w.cell? ⟨C, 3, none⟩ = some (.int .i64 jitter)) (c4 : w.cell? ⟨C, 4, none⟩ = some (.int .i64 drift)) (c10 : w.cell? ⟨C, 10, none⟩ = some (.int .i64 fa)) (c11 : w.cell? ⟨C, 11, none⟩ = some (.slice (some ⟨cb, 0, none⟩) n ccap)) (ck : ∀ j, j < cs.length → w.cell? ⟨cb, j, none⟩ = some (.int .i64 (cs.getD j 0))) (hin : ∀ x ∈ cs, -274877906944 ≤ x ∧ x ≤ 274877906944) (hf3 : 3 * f + 1 ≤ n) (hn : n ≤ 16) (hji0 : 0 ≤ jitter) (hji : jitter ≤ 137438953472) (hd0 : 0 ≤ drift) (hd1 : drift ≤ 137438953472) (r : RoundN) (a : RoundAt) (hr : r.In a w) :
    Calls Tryz.prog 17 #[.pointer (some ⟨C, 0, none⟩), r.val a] w fun e w' => Below w.heap.size w w' ∧ AgreedIs w w' n (beyondB n (clocksTo n f (bitI fa) jitter drift (fun i => cs.getD i 0) r.reads r.drifts)) (clocksTo n f (bitI fa) jitter drift (fun i => cs.getD i 0) r.reads r.drifts) e := by
  have hlC := lt_of_cell9 c11
  have hlcb := lt_of_cell9 (ck 0 (by omega))
  have hnow : ∀ i, i < n → -274877906944 ≤ cs.getD i 0 ∧ cs.getD i 0 ≤ 274877906944 := fun i hi => hin _ (getD_mem9 (by omega))
  have HRI : Hid (r.In a w) := hr
  have HRE : Hid (∀ v, Below w.heap.size w v → Calls Tryz.prog 41 #[.pointer (some ⟨C, 0, none⟩), .slice a.ra r.nR a.rc] v fun e w' => ∃ R G gcap Bi, e = .returned (.slice (some ⟨R, 0, none⟩) n n) ∧ RTab w' v.heap.size R n n (readAll n (bitI fa) jitter (fun i => cs.getD i 0) r.reads) G gcap Bi (.slice none 0 0) ∧ Below v.heap.size v w') := fun v hv => cread_any C cb n ccap fa jitter cs hcl v ((hv.cell (p := ⟨C, 0, none⟩) hlC).trans c0) ((hv.cell (p := ⟨C, 3, none⟩) hlC).trans c3) ((hv.cell (p := ⟨C, 10, none⟩) hlC).trans c10) ((hv.cell (p := ⟨C, 11, none⟩) hlC).trans c11) (fun j hj => (hv.cell (p := ⟨cb, j, none⟩) hlcb).trans (ck j hj)) hin (by omega) hn hji0 hji r a.ra a.rc (hr.reads.below hv) hr.lR
  have HRO : Hid (∀ v base R G gcap Bi, Below w.heap.size w v → RTab v base R n n (readAll n (bitI fa) jitter (fun i => cs.getD i 0) r.reads) G gcap Bi (.slice none 0 0) → Calls Tryz.prog 40 #[.slice (some ⟨cb, 0, none⟩) n ccap, .slice (some ⟨R, 0, none⟩) n n, .int .i64 f] v fun ev w' => ∃ g cap, ev = .returned (.tuple #[.slice (some ⟨g, 0, none⟩) n cap, .nilIface]) ∧ (v.heap.size ≤ g ∧ g < w'.heap.size ∧ (∀ j, j < n → w'.cell? ⟨g, j, none⟩ = some (.int .i64 (setOn n f (fun i => cs.getD i 0) (readAll n (bitI fa) jitter (fun i => cs.getD i 0) r.reads) j))) ∧ ∀ j, w'.frozen? ⟨g, j, none⟩ = false) ∧ Below v.heap.size v w') := by
    intro v base R G gcap Bi hv hT
    have hro := round_ok (some ⟨cb, 0, none⟩) (some ⟨R, 0, none⟩) ccap n cs (rowsOf n (readAll n (bitI fa) jitter (fun i => cs.getD i 0) r.reads)) f v (fun _ => ⟨cb, 0, rfl, Nat.lt_of_lt_of_le hlcb hv.size, fun j hj => by rw [Nat.zero_add]; exact (hv.cell (p := ⟨cb, j, none⟩) hlcb).trans (ck j hj)⟩) hT.tab (by rw [rowsOf_len, hcl]) (by omega) (fun q hq => by
      obtain ⟨i, _, rfl⟩ := List.mem_map.1 hq
      simp; omega) (fun j hj => by
      rw [rowsOf_at n _ (by omega)]
      rw [stepErr_mid (by simp [hcl]) (by rw [far_false]; have := hnow j (by omega); omega)]
      refine midErr_0 (by rw [List.length_map, List.length_range]; omega) ?_
      rw [Bool.eq_false_iff]
      intro hx
      obtain ⟨y, hy, hy2⟩ := List.any_eq_true.1 hx
      obtain ⟨k, hk, rfl⟩ := List.mem_map.1 hy
      have hk := List.mem_range.1 hk
      have := readAll_in (lies := bitI fa) hji0 hji hnow r.reads j k (by omega) hk
      rw [far_true] at hy2
      omega)
    rw [rowsOf_len, hcl] at hro
    refine hro.mono ?_
    rintro e w' ⟨x, he, ho, hb⟩
    rcases ho.2 with ⟨_, e0⟩ | ⟨g, cap, cur, hx, hg, hh, _⟩
    · omega
    · have hgl : g < w'.heap.size := by
        rcases Nat.lt_or_ge g w'.heap.size with q | q
        · exact q
        · rw [Array.getElem?_eq_none q] at hh; cases hh
      refine ⟨g, cap, by rw [he, hx], ⟨hg, hgl, fun j hj => ?_, fun j => by simp [World.frozen?, hh]⟩, ⟨hb.os, hb.tape, hb.output, hb.size, hb.block⟩⟩
      have := ho.cells (g := g) (by rw [hx]; rfl) j (.int .i64 (setOn n f (fun i => cs.getD i 0) (readAll n (bitI fa) jitter (fun i => cs.getD i 0) r.reads) j)) (by
        have hlj : j < (setTo cs (rowsOf n (readAll n (bitI fa) jitter (fun i => cs.getD i 0) r.reads)) f n).length := by rw [setTo_len]; exact hj
        rw [List.getElem?_map, List.getElem?_eq_getElem hlj]
        simp only [setTo, List.getElem_map, List.getElem_range, Option.map_some]
        rw [rowsOf_at n _ hj, midVal_ok]
        · rw [Int.toNat_natCast]; rfl
        · refine midErr_0 (by rw [List.length_map, List.length_range]; omega) ?_
          rw [Bool.eq_false_iff]
          intro hx
          obtain ⟨y, hy, hy2⟩ := List.any_eq_true.1 hx
          obtain ⟨k, hk, rfl⟩ := List.mem_map.1 hy
          have hk := List.mem_range.1 hk
          have := readAll_in (lies := bitI fa) hji0 hji hnow r.reads j k hj hk
          rw [far_true] at hy2
          omega)
      rwa [add_at, Nat.zero_add] at this
  have HCUT : Hid (∀ v, Calls Tryz.prog 42 #[.int .i64 drift] v fun e w' => ∃ L, e = .returned (.func (.func 67) #[] #[.pointer (some ⟨L, 0, none⟩)]) ∧ v.heap.size ≤ L ∧ w'.cell? ⟨L, 0, none⟩ = some (.int .i64 drift) ∧ L < w'.heap.size ∧ Below v.heap.size v w') := fun v => ccutF drift v
  have HCO : Hid (∀ L (v : World) (x : Int), v.cell? ⟨L, 0, none⟩ = some (.int .i64 drift) → Calls Tryz.prog 67 #[.int .i64 x, .pointer (some ⟨L, 0, none⟩)] v fun e w' => e = .returned (.int .i64 (cutV x drift)) ∧ w' = v) := fun L v x hv => ccut1_any x drift L hd0 (by omega) v hv
  have HOF : Hid (∀ v (j : Nat), Below w.heap.size w v → Calls Tryz.prog 20 #[.slice a.da r.drifts.length a.dc, .int .i64 j] v fun e w' => e = .returned (.int .i64 (if j < r.drifts.length then r.drifts.getD j 0 else 0)) ∧ w' = v) := fun v j hv => cof_any a.da a.dc r.drifts j r.drifts.length rfl hr.lD v (hr.drifts.below hv)
  have HDI : Hid (∀ j, cutV (if j < r.drifts.length then r.drifts.getD j 0 else 0) drift = driftV r.drifts drift j ∧ -drift ≤ driftV r.drifts drift j ∧ driftV r.drifts drift j ≤ drift) := fun j => ⟨drift_is _ _ _ hd0, driftV_in hd0 j⟩
  have HMI : Hid (∀ j, j < n → -1374389534720 ≤ setOn n f (fun i => cs.getD i 0) (readAll n (bitI fa) jitter (fun i => cs.getD i 0) r.reads) j ∧ setOn n f (fun i => cs.getD i 0) (readAll n (bitI fa) jitter (fun i => cs.getD i 0) r.reads) j ≤ 1374389534720) := fun j hj => by
    have h1 := hnow j hj
    have h2 := midVal_in ((List.range n).map (readAll n (bitI fa) jitter (fun i => cs.getD i 0) r.reads j)) f
    rw [midVal_ok (midErr_0 (by rw [List.length_map, List.length_range]; omega) (by
      rw [Bool.eq_false_iff]
      intro hx
      obtain ⟨y, hy, hy2⟩ := List.any_eq_true.1 hx
      obtain ⟨k, hk, rfl⟩ := List.mem_map.1 hy
      have hk := List.mem_range.1 hk
      have := readAll_in (lies := bitI fa) hji0 hji hnow r.reads j k hj hk
      rw [far_true] at hy2
      omega)), Int.toNat_natCast] at h2
    show -1374389534720 ≤ cs.getD j 0 + midOf ((List.range n).map (readAll n (bitI fa) jitter (fun i => cs.getD i 0) r.reads j)) f ∧ cs.getD j 0 + midOf ((List.range n).map (readAll n (bitI fa) jitter (fun i => cs.getD i 0) r.reads j)) f ≤ 1374389534720
    omega
  have HTO : Hid (∀ j, clocksTo n f (bitI fa) jitter drift (fun i => cs.getD i 0) r.reads r.drifts j = setOn n f (fun i => cs.getD i 0) (readAll n (bitI fa) jitter (fun i => cs.getD i 0) r.reads) j + driftV r.drifts drift j) := fun j => rfl
  have HBY : Hid (beyondB n (clocksTo n f (bitI fa) jitter drift (fun i => cs.getD i 0) r.reads r.drifts) = ((List.range n).map (clocksTo n f (bitI fa) jitter drift (fun i => cs.getD i 0) r.reads r.drifts)).any tooFarB) := by
    show _ = _
    rw [List.any_map]
    rfl
  generalize setOn n f (fun i => cs.getD i 0) (readAll n (bitI fa) jitter (fun i => cs.getD i 0) r.reads) = ST at *
  generalize readAll n (bitI fa) jitter (fun i => cs.getD i 0) r.reads = RA at *
  generalize clocksTo n f (bitI fa) jitter drift (fun i => cs.getD i 0) r.reads r.drifts = CT at *
  generalize beyondB n CT = BY at *
  generalize driftV r.drifts drift = DV at *
  unfold RoundN.val
  obtain ⟨nL, hnL⟩ : ∃ nL, r.nL = nL := ⟨_, rfl⟩
  obtain ⟨nR, hnR⟩ : ∃ nR, r.nR = nR := ⟨_, rfl⟩
  obtain ⟨nD, hnD⟩ : ∃ nD, r.drifts.length = nD := ⟨_, rfl⟩
  obtain ⟨nM, hnM⟩ : ∃ nM, r.modes.length = nM := ⟨_, rfl⟩
  rw [hnR] at HRE
  rw [hnD] at HOF HDI
  rw [hnL, hnR, hnD, hnM]
  obtain ⟨⟨q0, q1, q2, q3⟩, qB, qS⟩ := box4 w (.slice a.la nL a.lc) (.slice a.ra nR a.rc) (.slice a.da nD a.dc) (.slice a.ma nM a.mc) 35
  have HQB : Hid (Below w.heap.size w (w.alloc (.cells #[.slice a.la nL a.lc, .slice a.ra nR a.rc, .slice a.da nD a.dc, .slice a.ma nM a.mc] 35))) := qB
  have HQS : Hid ((w.alloc (.cells #[.slice a.la nL a.lc, .slice a.ra nR a.rc, .slice a.da nD a.dc, .slice a.ma nM a.mc] 35)).heap.size = w.heap.size + 1) := qS
  have d11 := (qB.cell (p := ⟨C, 11, none⟩) hlC).trans c11
  have d1 := (qB.cell (p := ⟨C, 1, none⟩) hlC).trans c1
  have d4 := (qB.cell (p := ⟨C, 4, none⟩) hlC).trans c4
  have hl0 : C < (w.alloc (.cells #[.slice a.la nL a.lc, .slice a.ra nR a.rc, .slice a.da nD a.dc, .slice a.ma nM a.mc] 35)).heap.size := by rw [qS]; omega
  have hl1 : w.heap.size < (w.alloc (.cells #[.slice a.la nL a.lc, .slice a.ra nR a.rc, .slice a.da nD a.dc, .slice a.ma nM a.mc] 35)).heap.size := by rw [qS]; omega
  clear qB qS hin ck hcl hr hnL hnR hnD hnM c0 c1 c3 c4 c10 c11 hnow HRI q0 q3
  go_enter Tryz.func17, Tryz.ntmps17
  go_wp2_with fail
  generalize (w.alloc (.cells #[.slice a.la nL a.lc, .slice a.ra nR a.rc, .slice a.da nD a.dc, .slice a.ma nM a.mc] 35)) = V at *
  go_region_held3 (fun u => u.cell? ⟨C, 11, none⟩ = some (.slice (some ⟨cb, 0, none⟩) n ccap) ∧ u.cell? ⟨C, 1, none⟩ = some (.int .i64 f) ∧ u.cell? ⟨w.heap.size, 1, none⟩ = some (.slice a.ra nR a.rc)) (go_keep) (first
    | (go_at_call 40; refine (HRO.out v1 _ _ _ _ _ HR1.out.1 HR1.out.2.1).mono ?_; rintro e v2 ⟨g, gc, rfl, hg, hb2⟩; have HG2 : Hid ((w.heap.size < g ∧ g < v2.heap.size ∧ (∀ j, j < n → v2.cell? ⟨g, j, none⟩ = some (.int .i64 (ST j))) ∧ ∀ j, v2.frozen? ⟨g, j, none⟩ = false) ∧ Below V.heap.size V v2) := ⟨⟨Nat.lt_of_lt_of_le (Nat.lt_of_lt_of_le hl1 HR1.out.2.2.size) hg.1, hg.2⟩, HR1.out.2.2.trans (hb2.mono HR1.out.2.2.size)⟩; have x11 := (HG2.out.2.cell (p := ⟨C, 11, none⟩) hl0).trans d11; have x1 := (HG2.out.2.cell (p := ⟨C, 1, none⟩) hl0).trans d1; have xq := (HG2.out.2.cell (p := ⟨w.heap.size, 1, none⟩) hl1).trans q1; clear hg hb2)
    | (go_at_call 41; refine (HRE.out V.drew ⟨HQB.out.os, HQB.out.tape, HQB.out.output, HQB.out.size, HQB.out.block⟩).mono ?_; rintro e v1 ⟨R, G, gcap, Bi, rfl, hT, hb1⟩; have HR1 : Hid (Below w.heap.size w v1 ∧ RTab v1 _ R n n RA G gcap Bi (.slice none 0 0) ∧ Below V.heap.size V v1) := ⟨HQB.out.trans ⟨hb1.os, hb1.tape, hb1.output, hb1.size, fun c hc => hb1.block c (Nat.lt_of_lt_of_le hc HQB.out.size)⟩, hT, ⟨hb1.os, hb1.tape, hb1.output, hb1.size, hb1.block⟩⟩; have x11 := (HR1.out.2.2.cell (p := ⟨C, 11, none⟩) hl0).trans d11; have x1 := (HR1.out.2.2.cell (p := ⟨C, 1, none⟩) hl0).trans d1; have xq := (HR1.out.2.2.cell (p := ⟨w.heap.size, 1, none⟩) hl1).trans q1; clear hT hb1))
  have hl2 : C < v2.heap.size := Nat.lt_of_lt_of_le hl0 HG2.out.2.size
  have x4 := (HG2.out.2.cell (p := ⟨C, 4, none⟩) hl0).trans d4
  clear x11 x1 xq HR1 HRO HRE d11 d1 d4 q1
  go_wp2_with fail
  refine (HCUT.out _).mono ?_
  rintro e v3 ⟨L, rfl, c1, c2, c3, c4⟩
  have HS : Hid ((V.heap.size ≤ g ∧ g < v3.heap.size ∧ (∀ j, j < n → v3.cell? ⟨g, j, none⟩ = some (.int .i64 (if j < 0 then CT j else ST j))) ∧ ∀ j, v3.frozen? ⟨g, j, none⟩ = false) ∧ (v3.cell? ⟨L, 0, none⟩ = some (.int .i64 drift) ∧ L ≠ g) ∧ Below V.heap.size V v3) := by
    obtain ⟨⟨a1, a2, a3, a4⟩, a5⟩ := HG2.out
    have := HQS.out
    refine ⟨⟨by omega, Nat.lt_of_lt_of_le a2 c4.size, fun j hj => ?_, fun j => (c4.frozen (p := ⟨g, j, none⟩) a2).trans (a4 j)⟩, ⟨c2, by omega⟩, a5.trans (c4.mono a5.size)⟩
    rw [if_neg (Nat.not_lt_zero _)]
    exact (c4.cell (p := ⟨g, j, none⟩) a2).trans (a3 j hj)
  clear HG2 HCUT c1 c2 c3 c4 x4 hl2
  go_wp2_with fail
  go_loopw [38] (fun t wr => ∃ k : Nat, k ≤ n ∧ t = .int .i64 k ∧ Hid ((V.heap.size ≤ g ∧ g < wr.heap.size ∧ (∀ j, j < n → wr.cell? ⟨g, j, none⟩ = some (.int .i64 (if j < k then CT j else ST j))) ∧ ∀ j, wr.frozen? ⟨g, j, none⟩ = false) ∧ (wr.cell? ⟨L, 0, none⟩ = some (.int .i64 drift) ∧ L ≠ g) ∧ Below V.heap.size V wr)) (fun t _ => n - (intOf t).toNat)
  case atStart => exact ⟨0, Nat.zero_le _, rfl, HS⟩
  case round =>
    clear HS
    obtain ⟨k, hk, rfl, HI⟩ := hrel
    by_cases hlt : k < n
    · have kk : (k : Int) < (n : Int) := by omega
      have y0 := HI.out.1.2.2.1 k hlt
      rw [if_neg (Nat.lt_irrefl _)] at y0
      have yz := HI.out.1.2.2.2 k
      have hgl : g < wr.heap.size := HI.out.1.2.1
      have q2' := (HI.out.2.2.cell (p := ⟨w.heap.size, 2, none⟩) hl1).trans q2
      have hwl : w.heap.size < wr.heap.size := Nat.lt_of_lt_of_le hl1 HI.out.2.2.size
      have lc := HI.out.2.1.1
      have hof := fun (u : Nat) => HOF.out (wr.drewN u) k (HQB.out.trans ⟨HI.out.2.2.os, HI.out.2.2.tape, HI.out.2.2.output, HI.out.2.2.size, fun c hc => HI.out.2.2.block c (Nat.lt_of_lt_of_le hc HQB.out.size)⟩)
      have hdi := HDI.out k
      generalize (if k < nD then r.drifts.getD k 0 else 0) = OV at hof hdi
      have hco := fun (u : Nat) => HCO.out L (wr.drewN u) OV lc
      rw [hdi.1] at hco
      have hmi := HMI.out k hlt
      have hto := HTO.out k
      have hdb := hdi.2
      have HN : Hid (∀ u, ((V.heap.size ≤ g ∧ g < ((wr.setCell ⟨g, k, none⟩ (.int .i64 (ST k + DV k))).drewN u).heap.size ∧ (∀ j, j < n → ((wr.setCell ⟨g, k, none⟩ (.int .i64 (ST k + DV k))).drewN u).cell? ⟨g, j, none⟩ = some (.int .i64 (if j < k + 1 then CT j else ST j))) ∧ ∀ j, ((wr.setCell ⟨g, k, none⟩ (.int .i64 (ST k + DV k))).drewN u).frozen? ⟨g, j, none⟩ = false) ∧ (((wr.setCell ⟨g, k, none⟩ (.int .i64 (ST k + DV k))).drewN u).cell? ⟨L, 0, none⟩ = some (.int .i64 drift) ∧ L ≠ g) ∧ Below V.heap.size V ((wr.setCell ⟨g, k, none⟩ (.int .i64 (ST k + DV k))).drewN u))) := fun u => by
        obtain ⟨⟨a1, a2, a3, a4⟩, ⟨a5, a6⟩, a7⟩ := HI.out
        refine ⟨⟨a1, ?_, fun j hj => ?_, fun j => soft_set.trans (a4 j)⟩, ⟨(cell_other (.inl a6)).trans a5, a6⟩, ?_⟩
        · show g < (wr.setCell ⟨g, k, none⟩ (.int .i64 (ST k + DV k))).heap.size
          simpa using a2
        · show (wr.setCell ⟨g, k, none⟩ (.int .i64 (ST k + DV k))).cell? ⟨g, j, none⟩ = _
          by_cases e : j = k
          · subst e
            rw [if_pos (Nat.lt_succ_self _), hto]
            exact cell_set (a3 j hj)
          · have h2 := a3 j hj
            have e2 : (if j < k + 1 then CT j else ST j) = if j < k then CT j else ST j := by
              by_cases q : j < k
              · rw [if_pos q, if_pos (by omega)]
              · rw [if_neg q, if_neg (by omega)]
            rw [e2]
            exact (cell_other (.inr e)).trans h2
        · exact a7.trans ((((Turns.refl g g wr).set (p := ⟨g, k, none⟩) (.inl rfl) _).trans (Turns.drawn u)).below a7.size a1 a1)
      clear hdi HI hto
      generalize ST k = SK at *
      generalize DV k = DK at *
      have hwr : IntKind.i64.wrap (SK + DK) = SK + DK := by simp [IntKind.wrap, IntKind.bits, IntKind.signed]; omega
      go_wp2_with fail
      go_region_with (first | (go_at_call 20; refine (hof _).mono ?_; rintro e v4 ⟨rfl, rfl⟩) | (go_at_call 67; refine (hco _).mono ?_; rintro e v4 ⟨rfl, rfl⟩))
      all_goals
        go_wp2
        go_roundw
        case rel => exact ⟨k + 1, by omega, by go_num, HN.out 1⟩
        case measure => simp [intOf]; omega
    · have hkn : k = n := by omega
      have HD : Hid (IntRow wr (some ⟨g, 0, none⟩) ((List.range n).map CT) ∧ (w.heap.size ≤ g ∧ g < wr.heap.size) ∧ (∀ j, j < n → wr.cell? ⟨g, j, none⟩ = some (.int .i64 (CT j))) ∧ Below w.heap.size w wr) := by
        obtain ⟨⟨a1, a2, a3, a4⟩, ⟨a5, a6⟩, a7⟩ := HI.out
        rw [hkn] at a3
        have a3' : ∀ j, j < n → wr.cell? ⟨g, j, none⟩ = some (.int .i64 (CT j)) := fun j hj => by
          have := a3 j hj
          rwa [if_pos hj] at this
        refine ⟨fun _ => ⟨g, 0, rfl, a2, fun j hj => ?_⟩, ⟨by have := HQS.out; omega, a2⟩, a3', HQB.out.trans ⟨a7.os, a7.tape, a7.output, a7.size, fun c hc => a7.block c (Nat.lt_of_lt_of_le hc HQB.out.size)⟩⟩
        rw [List.length_map, List.length_range] at hj
        rw [Nat.zero_add, a3' j hj]
        simp [hj]
      have kk : decide (k < n) = false := decide_eq_false hlt
      have hfar := cfar_any (some ⟨g, 0, none⟩) gc n ((List.range n).map CT) (by simp) wr HD.out.1 (by omega)
      rw [← HBY.out] at hfar
      clear hkn hlt HI
      go_wp2_with fail
      refine hfar.mono ?_
      rintro e v5 ⟨rfl, hb5⟩
      have HD5 : Hid (Below w.heap.size w v5 ∧ g < v5.heap.size ∧ ∀ j, j < n → v5.cell? ⟨g, j, none⟩ = some (.int .i64 (CT j))) := by
        obtain ⟨_, ⟨_, b2⟩, b3, b4⟩ := HD.out
        exact ⟨b4.trans (hb5.mono b4.size), Nat.lt_of_lt_of_le b2 hb5.size, fun j hj => (hb5.cell (p := ⟨g, j, none⟩) b2).trans (b3 j hj)⟩
      have HDg : Hid (w.heap.size ≤ g) := HD.out.2.1.1
      clear hfar hb5 HD HBY
      cases BY
      · go_wp2
        go_ret2
        exact ⟨HD5.out.1, .inr ⟨rfl, _, _, rfl, ⟨HDg.out, HD5.out.2.1⟩, HD5.out.2.2⟩⟩
      · go_wp2
        go_ret2
        exact ⟨HD5.out.1, .inl ⟨rfl, rfl⟩⟩
end Go.Proofs.YtdmokcnoljlogaaGreatDoor
