/- The document's answer's Opens, whatever it is asked; new memory alone is made. (Made by tools/gen_refopens.py.) -/
import Derived.Test.YtpefdjdebglafabDoorRefRealG
import Derived.Test.YtpefdjdebglafabDoorRefAdd
import Derived.Test.YtpefdjdebglafabDoorInAny
import Derived.Test.YtpefdjdebglafabDoorOwnInts
import Derived.Test.YtpefdjdebglafabDoorOpenRows
import Derived.RegionTactic
namespace Go.Proofs.YtpefdjdebglafabDoor
open Go.RowKit

theorem new_cell {w : World} {cs : Array Value} {t : TypeId} {i : Nat} {v : Value} (h : cs[i]? = some v) : (w.alloc (.cells cs t)).cell? ⟨w.heap.size, i, none⟩ = some v := by
  simp
  simpa using h
theorem new_soft {w : World} {cs : Array Value} {t : TypeId} {i : Nat} : (w.alloc (.cells cs t)).frozen? ⟨w.heap.size, i, none⟩ = false := by
  simp
theorem box_a {w : World} {A : Array Value} {t : TypeId} {o1 o2 : Obj} {i : Nat} {v : Value} (h : A[i]? = some v) : (((w.alloc (.cells A t)).alloc o1).alloc o2).cell? ⟨w.heap.size, i, none⟩ = some v := by
  rw [World.cell?_alloc_lt _ _ _ (by simp; omega), World.cell?_alloc_lt _ _ _ (by simp)]
  exact new_cell h
theorem box_b {w : World} {A : Array Value} {t : TypeId} {o1 o2 : Obj} {i : Nat} {v : Value} (h : A[i]? = some v) : (((w.alloc o1).alloc (.cells A t)).alloc o2).cell? ⟨w.heap.size + 1, i, none⟩ = some v := by
  rw [World.cell?_alloc_lt _ _ _ (by simp)]
  have := new_cell (w := w.alloc o1) (t := t) h
  rwa [World.size_alloc] at this
theorem box_c {w : World} {A : Array Value} {t : TypeId} {o1 o2 : Obj} {i : Nat} {v : Value} (h : A[i]? = some v) : (((w.alloc o1).alloc o2).alloc (.cells A t)).cell? ⟨w.heap.size + 1 + 1, i, none⟩ = some v ∧ (((w.alloc o1).alloc o2).alloc (.cells A t)).frozen? ⟨w.heap.size + 1 + 1, i, none⟩ = false := by
  have h1 := new_cell (w := (w.alloc o1).alloc o2) (t := t) h
  have h2 := new_soft (w := (w.alloc o1).alloc o2) (cs := A) (t := t) (i := i)
  rw [World.size_alloc, World.size_alloc] at h1 h2
  exact ⟨h1, h2⟩

/-- What is wrong first of two ends. -/
theorem ends_err {f s n d a x0 x1 e : Int} {xs : Nat → Int} {k : Nat} (h0 : ∀ i, i < k → endE f s n d a (xs i) = 0) (hk : k < 2) (hx : xs 0 = x0 ∧ xs 1 = x1) (he : endE f s n d a (xs k) = e) (hne : e ≠ 0) : e = if endE f s n d a x0 = 0 then endE f s n d a x1 else endE f s n d a x0 := by
  have h : k = 0 ∨ k = 1 := by omega
  rcases h with rfl | rfl
  · rw [hx.1] at he
    rw [if_neg (by rw [he]; exact hne), he]
  · have := h0 0 (by decide)
    rw [hx.1] at this
    rw [hx.2] at he
    rw [if_pos this, he]

theorem three_new {w : World} {a b c : Obj} : Below w.heap.size w (((w.alloc a).alloc b).alloc c) := (((Below.refl _ _).alloc (Nat.le_refl _) _).alloc (by simp) _).alloc (by simp; omega) _

set_option maxRecDepth 100000 in
set_option maxHeartbeats 2000000 in
theorem opens_none (nodes faulty skew jitter drift R frame : Int) (sa la wa : Option Addr) (ns sc nl lc nw wc : Nat) (f s n d round slot : Int) (w : World) (h : slot < 0 ∨ (ns : Int) ≤ slot) (hns : ns ≤ 9223372036854775807) :
    Calls Tryd.prog 19 #[.agg #[.int .i64 nodes, .int .i64 faulty, .int .i64 skew, .int .i64 jitter, .int .i64 drift, .int .i64 R, .slice sa ns sc, .slice la nl lc, .int .i64 frame, .slice wa nw wc], .agg #[.int .i64 f, .int .i64 s, .int .i64 n, .int .i64 d], .int .i64 round, .int .i64 slot] w fun ev w' => ev = .returned (.tuple #[.agg #[.int .i64 0, .int .i64 0], .int .i64 7]) ∧ Below w.heap.size w w' := by
  have hi := in_is slot 0 ((ns : Int) - 1)
  rw [decide_eq_false (show ¬ (0 ≤ slot ∧ slot ≤ (ns : Int) - 1) by omega)] at hi
  clear h
  go_enter Tryd.func19, Tryd.ntmps19
  go_wp2_with fail
  refine (hi _).mono ?_
  rintro e w1 ⟨rfl, hw1⟩
  replace hw1 := hw1.symm
  subst hw1
  go_wp2
  exact bodyPost_ret (v := .tuple #[.agg #[.int .i64 0, .int .i64 0], .int .i64 7]) (by simp [results, Tryd.results19, go_sem]) rfl ⟨rfl, three_new⟩

set_option maxRecDepth 100000 in
set_option maxHeartbeats 2000000 in
theorem opens_range (nodes faulty skew jitter drift R frame : Int) (sa la wa : Option Addr) (ns sc nl lc nw wc : Nat) (f s n d round slot : Int) (w : World) (h1 : 0 ≤ slot) (h2 : slot < ns) (hns : ns ≤ 9223372036854775807) (h : R < 1 ∨ round < 0 ∨ 1099511627776 / R < round) :
    Calls Tryd.prog 19 #[.agg #[.int .i64 nodes, .int .i64 faulty, .int .i64 skew, .int .i64 jitter, .int .i64 drift, .int .i64 R, .slice sa ns sc, .slice la nl lc, .int .i64 frame, .slice wa nw wc], .agg #[.int .i64 f, .int .i64 s, .int .i64 n, .int .i64 d], .int .i64 round, .int .i64 slot] w fun ev w' => ev = .returned (.tuple #[.agg #[.int .i64 0, .int .i64 0], .int .i64 2]) ∧ Below w.heap.size w w' := by
  have hi := in_is slot 0 ((ns : Int) - 1)
  rw [decide_eq_true (show 0 ≤ slot ∧ slot ≤ (ns : Int) - 1 by omega)] at hi
  by_cases hR : R < 1
  · clear h
    go_enter Tryd.func19, Tryd.ntmps19
    go_wp2_with fail
    refine (hi _).mono ?_
    rintro e w1 ⟨rfl, hw1⟩
    replace hw1 := hw1.symm
    subst hw1
    go_wp2
    exact bodyPost_ret (v := .tuple #[.agg #[.int .i64 0, .int .i64 0], .int .i64 2]) (by simp [results, Tryd.results19, go_sem]) rfl ⟨rfl, three_new⟩
  · have hR1 : 1 ≤ R := by omega
    have hR2 : decide (R < 1) = false := decide_eq_false hR
    have hj := in_is round 0 (1099511627776 / R)
    rw [decide_eq_false (show ¬ (0 ≤ round ∧ round ≤ 1099511627776 / R) by omega)] at hj
    clear h hR
    go_enter Tryd.func19, Tryd.ntmps19
    go_wp2_with fail
    refine (hi _).mono ?_
    rintro e w1 ⟨rfl, hw1⟩
    replace hw1 := hw1.symm
    subst hw1
    go_wp2_with fail
    refine (hj _).mono ?_
    rintro e w1 ⟨rfl, hw1⟩
    replace hw1 := hw1.symm
    subst hw1
    go_wp2
    exact bodyPost_ret (v := .tuple #[.agg #[.int .i64 0, .int .i64 0], .int .i64 2]) (by simp [results, Tryd.results19, go_sem]) rfl ⟨rfl, three_new⟩

set_option maxRecDepth 100000 in
set_option maxHeartbeats 4000000 in
theorem opens_in (nodes faulty skew jitter drift R frame : Int) (sa la wa : Option Addr) (ns sc nl lc nw wc : Nat) (f s n d round slot : Int) (w : World) (j : Nat) (hj : slot = j) (h2 : j < ns) (hns : ns ≤ 9223372036854775807) (hR1 : 1 ≤ R) (hr0 : 0 ≤ round) (hr1 : round ≤ 1099511627776 / R) (nd fr to : Nat → Int) (hs : Rows3 w sa ns nd fr to) (G : Ending → World → Prop)
    (hG : ∀ x y e w', e = (if endE f s n d (round * R) (fr j) = 0 then endE f s n d (round * R) (to j) else endE f s n d (round * R) (fr j)) → x = (if e = 0 then endT f s n d (round * R) (fr j) else 0) → y = (if e = 0 then endT f s n d (round * R) (to j) else 0) → Below w.heap.size w w' → G (.returned (.tuple #[.agg #[.int .i64 x, .int .i64 y], .int .i64 e])) w') :
    Calls Tryd.prog 19 #[.agg #[.int .i64 nodes, .int .i64 faulty, .int .i64 skew, .int .i64 jitter, .int .i64 drift, .int .i64 R, .slice sa ns sc, .slice la nl lc, .int .i64 frame, .slice wa nw wc], .agg #[.int .i64 f, .int .i64 s, .int .i64 n, .int .i64 d], .int .i64 round, .int .i64 slot] w G := by
  subst hj
  have hi := in_is (j : Int) 0 ((ns : Int) - 1)
  rw [decide_eq_true (show 0 ≤ (j : Int) ∧ (j : Int) ≤ (ns : Int) - 1 by omega)] at hi
  have hR2 : decide (R < 1) = false := decide_eq_false (by omega)
  have hk := in_is round 0 (1099511627776 / R)
  rw [decide_eq_true (show 0 ≤ round ∧ round ≤ 1099511627776 / R by omega)] at hk
  have ha : 0 ≤ round * R ∧ round * R ≤ 1099511627776 := ⟨Int.mul_nonneg hr0 (by omega), by
    have h1 := Int.mul_le_mul_of_nonneg_right hr1 (show 0 ≤ R by omega)
    have h2 := Int.ediv_mul_le 1099511627776 (show R ≠ 0 by omega)
    omega⟩
  obtain ⟨a0, ha0⟩ : ∃ a0, round * R = a0 := ⟨_, rfl⟩
  rw [ha0] at ha hG
  have HG := (show Hid _ from hG)
  clear hG
  have HS : Hid (Rows3 w sa ns nd fr to) := hs
  obtain ⟨b, off, rfl, hb, hcc⟩ := hs (by omega)
  obtain ⟨_, x1, x2⟩ := hcc j h2
  obtain ⟨V, hVe⟩ : ∃ V, V = ((w.alloc (.cells #[.int .i64 nodes, .int .i64 faulty, .int .i64 skew, .int .i64 jitter, .int .i64 drift, .int .i64 R, .slice (some ⟨b, off, none⟩) ns sc, .slice la nl lc, .int .i64 frame, .slice wa nw wc] 51)).alloc (.cells #[.int .i64 f, .int .i64 s, .int .i64 n, .int .i64 d] 59)).alloc (.cells #[.int .i64 0, .int .i64 0] 56) := ⟨_, rfl⟩
  have hV : Below w.heap.size w V := by rw [hVe]; exact three_new
  replace x1 := (hV.cell (p := ⟨b, off + j * 3 + 1, none⟩) hb).trans x1
  replace x2 := (hV.cell (p := ⟨b, off + j * 3 + 2, none⟩) hb).trans x2
  have p5 : V.cell? ⟨w.heap.size, 5, none⟩ = some (.int .i64 R) := by rw [hVe]; exact box_a rfl
  have p6 : V.cell? ⟨w.heap.size, 6, none⟩ = some (.slice (some ⟨b, off, none⟩) ns sc) := by rw [hVe]; exact box_a rfl
  have c0 : V.cell? ⟨w.heap.size + 1, 0, none⟩ = some (.int .i64 f) := by rw [hVe]; exact box_b rfl
  have c1 : V.cell? ⟨w.heap.size + 1, 1, none⟩ = some (.int .i64 s) := by rw [hVe]; exact box_b rfl
  have c2 : V.cell? ⟨w.heap.size + 1, 2, none⟩ = some (.int .i64 n) := by rw [hVe]; exact box_b rfl
  have c3 : V.cell? ⟨w.heap.size + 1, 3, none⟩ = some (.int .i64 d) := by rw [hVe]; exact box_b rfl
  have r0 : V.cell? ⟨w.heap.size + 1 + 1, 0, none⟩ = some (.int .i64 0) := by rw [hVe]; exact (box_c (A := #[.int .i64 0, .int .i64 0]) (i := 0) rfl).1
  have r1 : V.cell? ⟨w.heap.size + 1 + 1, 1, none⟩ = some (.int .i64 0) := by rw [hVe]; exact (box_c (A := #[.int .i64 0, .int .i64 0]) (i := 1) rfl).1
  have z0 : V.frozen? ⟨w.heap.size + 1 + 1, 0, none⟩ = false := by rw [hVe]; exact (box_c (A := #[.int .i64 0, .int .i64 0]) (i := 0) rfl).2
  have z1 : V.frozen? ⟨w.heap.size + 1 + 1, 1, none⟩ = false := by rw [hVe]; exact (box_c (A := #[.int .i64 0, .int .i64 0]) (i := 1) rfl).2
  have hVs : V.heap.size = w.heap.size + 3 := by rw [hVe]; simp
  clear hcc hs
  have hjn : (j : Int) < (ns : Int) := by omega
  go_enter Tryd.func19, Tryd.ntmps19
  go_wp2_with fail
  refine (hi _).mono ?_
  rintro e w1 ⟨rfl, hw1⟩
  replace hw1 := hw1.symm
  subst hw1
  go_wp2_with fail
  refine (hk _).mono ?_
  rintro e w1 ⟨rfl, hw1⟩
  replace hw1 := hw1.symm
  subst hw1
  clear hi hk
  rw [← hVe]
  clear hVe
  go_wp2_with fail
  go_region
  obtain ⟨Y, hYe⟩ : ∃ Y, Y = V.alloc (.cells #[.int .i64 (fr j), .int .i64 (to j)] 3) := ⟨_, rfl⟩
  rw [← hYe]
  have hVY : Below V.heap.size V Y := by rw [hYe]; exact (Below.refl _ _).alloc (Nat.le_refl _) _
  have l0 : Y.cell? ⟨V.heap.size, 0, none⟩ = some (.int .i64 (fr j)) := by rw [hYe]; exact new_cell rfl
  have l1 : Y.cell? ⟨V.heap.size, 1, none⟩ = some (.int .i64 (to j)) := by rw [hYe]; exact new_cell rfl
  have hYs : V.heap.size < Y.heap.size := by rw [hYe]; simp
  rw [hVs] at l0 l1 hYs
  have HP : Hid (V.cell? ⟨w.heap.size, 5, none⟩ = some (.int .i64 R) ∧ V.cell? ⟨w.heap.size + 1, 0, none⟩ = some (.int .i64 f) ∧ V.cell? ⟨w.heap.size + 1, 1, none⟩ = some (.int .i64 s) ∧ V.cell? ⟨w.heap.size + 1, 2, none⟩ = some (.int .i64 n) ∧ V.cell? ⟨w.heap.size + 1, 3, none⟩ = some (.int .i64 d) ∧ V.cell? ⟨w.heap.size + 1 + 1, 0, none⟩ = some (.int .i64 0) ∧ V.cell? ⟨w.heap.size + 1 + 1, 1, none⟩ = some (.int .i64 0) ∧ V.frozen? ⟨w.heap.size + 1 + 1, 0, none⟩ = false ∧ V.frozen? ⟨w.heap.size + 1 + 1, 1, none⟩ = false) := ⟨p5, c0, c1, c2, c3, r0, r1, z0, z1⟩
  have HY : Hid (Y.cell? ⟨w.heap.size + 3, 0, none⟩ = some (.int .i64 (fr j)) ∧ Y.cell? ⟨w.heap.size + 3, 1, none⟩ = some (.int .i64 (to j))) := ⟨l0, l1⟩
  clear hYe p5 p6 c0 c1 c2 c3 r0 r1 z0 z1 l0 l1 x1 x2 HS
  obtain ⟨i0, gi, gz0, gz1, gz2⟩ := info_parts Tryd.infoInt
  obtain ⟨xs, hxs⟩ : ∃ xs : Nat → Int, xs = fun k => if k = 0 then fr j else to j := ⟨_, rfl⟩
  have HX : Hid (xs 0 = fr j ∧ xs 1 = to j) := by rw [hxs]; exact ⟨rfl, rfl⟩
  clear hxs
  go_wp2_with fail
  go_loopw [52, 10] (fun t v wr => ∃ k : Nat, k ≤ 2 ∧ t = .int .i64 k ∧ Hid (∀ i, i < k → endE f s n d a0 (xs i) = 0) ∧ wr.ownsRow Y.heap.size 3 1 v k (((List.range k).map fun i => endT f s n d a0 (xs i)).map (Value.int .i64)) ∧ Below Y.heap.size Y wr) (fun t _ _ => 2 - (intOf t).toNat)
  case atStart => exact ⟨0, Nat.zero_le _, rfl, fun i hi => absurd hi (Nat.not_lt_zero _), by simpa using World.ownsRow_nil _ _ _ _, ⟨rfl, rfl, rfl, Nat.le_refl _, fun _ _ => rfl⟩⟩
  case round =>
    obtain ⟨k, hk2, rfl, h0, hown, hbe⟩ := hrel
    have hVw : Below V.heap.size V wr := hVY.trans (hbe.mono (by omega))
    have hww : Below w.heap.size w wr := hV.trans (hVw.mono hV.size)
    have hsz := hbe.size
    obtain ⟨p5, c0, c1, c2, c3, r0, r1, z0, z1⟩ := HP.out
    replace r0 := (hVw.cell (p := ⟨w.heap.size + 1 + 1, 0, none⟩) (by show w.heap.size + 1 + 1 < V.heap.size; omega)).trans r0
    replace r1 := (hVw.cell (p := ⟨w.heap.size + 1 + 1, 1, none⟩) (by show w.heap.size + 1 + 1 < V.heap.size; omega)).trans r1
    replace z0 := (hVw.frozen (p := ⟨w.heap.size + 1 + 1, 0, none⟩) (by show w.heap.size + 1 + 1 < V.heap.size; omega)).trans z0
    replace z1 := (hVw.frozen (p := ⟨w.heap.size + 1 + 1, 1, none⟩) (by show w.heap.size + 1 + 1 < V.heap.size; omega)).trans z1
    by_cases hlt : k < 2
    · replace p5 := (hVw.cell (p := ⟨w.heap.size, 5, none⟩) (by show w.heap.size < V.heap.size; omega)).trans p5
      have y0 : wr.cell? ⟨w.heap.size + 3, k, none⟩ = some (.int .i64 (xs k)) := by
        rw [hbe.cell (p := ⟨w.heap.size + 3, k, none⟩) (by show w.heap.size + 3 < Y.heap.size; omega)]
        have : k = 0 ∨ k = 1 := by omega
        rcases this with rfl | rfl
        · rw [HY.out.1, HX.out.1]
        · rw [HY.out.2, HX.out.2]
      have HL : Hid (((List.range (k + 1)).map fun i => endT f s n d a0 (xs i)) = ((List.range k).map fun i => endT f s n d a0 (xs i)) ++ [endT f s n d a0 (xs k)]) := by
        show _ = _
        rw [List.range_succ, List.map_append]; rfl
      have HE : Hid (endE f s n d a0 (xs k) = if addE a0 (xs k) = 0 then realE f s n d (a0 + xs k) else addE a0 (xs k)) := rfl
      have HT : Hid (endT f s n d a0 (xs k) = realT f s n d (a0 + xs k)) := rfl
      obtain ⟨x, hx⟩ : ∃ x, xs k = x := ⟨_, rfl⟩
      have HXK : Hid (xs k = x) := hx
      rw [hx] at y0 HL HE HT
      clear hx
      have hadd := refAdd_any a0 x wr
      have kk : (k : Int) < 2 := by omega
      by_cases hae : addE a0 x = 0
      rotate_left
      · have hae2 : (addE a0 x != 0) = true := by simpa using hae
        have HEE : Hid (endE f s n d a0 (xs k) = addE a0 x ∧ addE a0 x ≠ 0) := ⟨by rw [HXK.out, HE.out, if_neg hae], hae⟩
        generalize addE a0 x = ee at *
        generalize addV a0 x = av at *
        clear hae
        go_wp2_with fail
        refine hadd.mono ?_
        rintro e w2 ⟨rfl, hb2⟩
        replace z0 := (hb2.frozen (p := ⟨w.heap.size + 1 + 1, 0, none⟩) (by show w.heap.size + 1 + 1 < wr.heap.size; omega)).trans z0
        replace z1 := (hb2.frozen (p := ⟨w.heap.size + 1 + 1, 1, none⟩) (by show w.heap.size + 1 + 1 < wr.heap.size; omega)).trans z1
        replace r0 := (hb2.cell (p := ⟨w.heap.size + 1 + 1, 0, none⟩) (by show w.heap.size + 1 + 1 < wr.heap.size; omega)).trans r0
        replace r1 := (hb2.cell (p := ⟨w.heap.size + 1 + 1, 1, none⟩) (by show w.heap.size + 1 + 1 < wr.heap.size; omega)).trans r1
        have hw2 : Below w.heap.size w w2 := hww.trans (hb2.mono hww.size)
        go_wp2
        exact bodyPost_ret (v := .tuple #[.agg #[.int .i64 0, .int .i64 0], .int .i64 ee]) (by simp [results, Tryd.results19, go_sem, r0, r1]) rfl (HG.out 0 0 ee _ (ends_err h0.out hlt HX.out HEE.out.1 HEE.out.2) (by rw [if_neg HEE.out.2]) (by rw [if_neg HEE.out.2]) ((hw2.setCell (p := ⟨w.heap.size + 1 + 1, 0, none⟩) (by show w.heap.size ≤ w.heap.size + 1 + 1; omega) _).setCell (p := ⟨w.heap.size + 1 + 1, 1, none⟩) (by show w.heap.size ≤ w.heap.size + 1 + 1; omega) _))
      · have hae2 : (addE a0 x != 0) = false := by simpa using hae
        have hav : addV a0 x = a0 + x := addV_ok hae
        replace c0 := (hVw.cell (p := ⟨w.heap.size + 1, 0, none⟩) (by show w.heap.size + 1 < V.heap.size; omega)).trans c0
        replace c1 := (hVw.cell (p := ⟨w.heap.size + 1, 1, none⟩) (by show w.heap.size + 1 < V.heap.size; omega)).trans c1
        replace c2 := (hVw.cell (p := ⟨w.heap.size + 1, 2, none⟩) (by show w.heap.size + 1 < V.heap.size; omega)).trans c2
        replace c3 := (hVw.cell (p := ⟨w.heap.size + 1, 3, none⟩) (by show w.heap.size + 1 < V.heap.size; omega)).trans c3
        rw [hav, hae] at hadd
        have HE2 : Hid (endE f s n d a0 (xs k) = realE f s n d (a0 + x)) := by show _ = _; rw [HXK.out, HE.out, if_pos hae]
        clear hae hae2 hav HE
        have HRL : Hid (∀ u : World, Calls Tryd.prog 35 #[.agg #[.int .i64 f, .int .i64 s, .int .i64 n, .int .i64 d], .int .i64 (a0 + x)] u fun e w' => e = .returned (.tuple #[.int .i64 (realV f s n d (a0 + x)), .int .i64 (realE f s n d (a0 + x))]) ∧ Below u.heap.size u w') := fun u => refReal_any f s n d (a0 + x) u
        obtain ⟨ax, hax⟩ : ∃ ax, a0 + x = ax := ⟨_, rfl⟩
        rw [hax] at hadd HRL HE2 HT
        clear hax
        go_wp2_with fail
        refine hadd.mono ?_
        rintro e w2 ⟨rfl, hb2⟩
        have hB2 : w.heap.size + 3 < wr.heap.size := by omega
        replace c0 := (hb2.cell (p := ⟨w.heap.size + 1, 0, none⟩) (by show w.heap.size + 1 < wr.heap.size; omega)).trans c0
        replace c1 := (hb2.cell (p := ⟨w.heap.size + 1, 1, none⟩) (by show w.heap.size + 1 < wr.heap.size; omega)).trans c1
        replace c2 := (hb2.cell (p := ⟨w.heap.size + 1, 2, none⟩) (by show w.heap.size + 1 < wr.heap.size; omega)).trans c2
        replace c3 := (hb2.cell (p := ⟨w.heap.size + 1, 3, none⟩) (by show w.heap.size + 1 < wr.heap.size; omega)).trans c3
        go_wp2_with fail
        refine (HRL.out _).mono ?_
        rintro e w3 ⟨rfl, hb3⟩
        have hb23 : Below wr.heap.size wr w3 := hb2.trans (hb3.mono hb2.size)
        have hw3 : Below w.heap.size w w3 := hww.trans (hb23.mono hww.size)
        replace z0 := (hb23.frozen (p := ⟨w.heap.size + 1 + 1, 0, none⟩) (by show w.heap.size + 1 + 1 < wr.heap.size; omega)).trans z0
        replace z1 := (hb23.frozen (p := ⟨w.heap.size + 1 + 1, 1, none⟩) (by show w.heap.size + 1 + 1 < wr.heap.size; omega)).trans z1
        replace r0 := (hb23.cell (p := ⟨w.heap.size + 1 + 1, 0, none⟩) (by show w.heap.size + 1 + 1 < wr.heap.size; omega)).trans r0
        replace r1 := (hb23.cell (p := ⟨w.heap.size + 1 + 1, 1, none⟩) (by show w.heap.size + 1 + 1 < wr.heap.size; omega)).trans r1
        clear c0 c1 c2 c3
        by_cases hre : realE f s n d ax = 0
        rotate_left
        · have hre2 : (realE f s n d ax != 0) = true := by simpa using hre
          have HEE : Hid (endE f s n d a0 (xs k) = realE f s n d ax ∧ realE f s n d ax ≠ 0) := ⟨HE2.out, hre⟩
          clear hre HE2 HRL HT
          generalize realE f s n d ax = ee at *
          generalize realV f s n d ax = rv at *
          go_wp2
          exact bodyPost_ret (v := .tuple #[.agg #[.int .i64 0, .int .i64 0], .int .i64 ee]) (by simp [results, Tryd.results19, go_sem, r0, r1]) rfl (HG.out 0 0 ee _ (ends_err h0.out hlt HX.out HEE.out.1 HEE.out.2) (by rw [if_neg HEE.out.2]) (by rw [if_neg HEE.out.2]) ((hw3.setCell (p := ⟨w.heap.size + 1 + 1, 0, none⟩) (by show w.heap.size ≤ w.heap.size + 1 + 1; omega) _).setCell (p := ⟨w.heap.size + 1 + 1, 1, none⟩) (by show w.heap.size ≤ w.heap.size + 1 + 1; omega) _))
        · have hre2 : (realE f s n d ax != 0) = false := by simpa using hre
          have hrv : realV f s n d ax = realT f s n d ax := realV_ok hre
          have HZ : Hid (endE f s n d a0 (xs k) = 0) := by show _ = _; rw [HE2.out]; exact hre
          have HL2 : Hid (((List.range (k + 1)).map fun i => endT f s n d a0 (xs i)) = ((List.range k).map fun i => endT f s n d a0 (xs i)) ++ [realT f s n d ax]) := by show _ = _; rw [HL.out, HT.out]
          rw [hrv]
          rw [hre] at hre2 ⊢
          clear hre HE2 HRL HT HL hrv hadd
          generalize realT f s n d ax = rv at *
          have hown2 := owns_below hown hb23
          have hbe3 : Below Y.heap.size Y w3 := hbe.trans (hb23.mono hbe.size)
          have hs3 := hb23.size
          go_wp2_with (at_builtin; refine wpList_append_own _ rfl _ _ 22 rfl Y.heap.size 3 i0 (.int .i64 0) 1 8 Tryd.underlying22 gi gz0 gz1 gz2 rfl (by decide) u10 _ _ rfl (hown2.alloc _) ⟨w3.heap.size, 0, none⟩ 1 1 [.int .i64 rv] rfl rfl (cell_one_new _ _ _) (ints_one [rv]) (by unfold maxLen; omega) (by omega) (by simp; omega) ?_; intro v' w4 hown' hgrow hnil)
          have hb4 : Below Y.heap.size Y w4 := (hbe3.alloc (by omega) _).grown hgrow (by simp; omega) (fun g hg => (hown2.lt g hg).1)
          refine ⟨⟨k + 1, by omega, by go_num, fun i hi => ?_, by rw [HL2.out, List.map_append]; exact hown', hb4⟩, by simp [intOf]; omega⟩
          rcases Nat.lt_succ_iff_lt_or_eq.1 hi with q | q
          · exact h0.out i q
          · rw [q]; exact HZ.out
    · have hke : k = 2 := by omega
      subst hke
      obtain ⟨g, cg, hv, hg, hcs⟩ := owns_some hown (by decide)
      have g0 := hcs 0 (.int .i64 (endT f s n d a0 (xs 0))) rfl
      have g1 := hcs 1 (.int .i64 (endT f s n d a0 (xs 1))) rfl
      rw [add_at] at g0 g1
      rw [HX.out.1] at g0
      rw [HX.out.2] at g1
      subst hv
      have e0 := h0.out 0 (by decide)
      have e1 := h0.out 1 (by decide)
      rw [HX.out.1] at e0
      rw [HX.out.2] at e1
      have HEE : Hid (endE f s n d a0 (fr j) = 0 ∧ endE f s n d a0 (to j) = 0) := ⟨e0, e1⟩
      clear e0 e1 hcs hown h0 HX HY HP p5 c0 c1 c2 c3
      generalize hq0 : endT f s n d a0 (fr j) = t0 at *
      generalize hq1 : endT f s n d a0 (to j) = t1 at *
      have hgn : g ≠ w.heap.size + 1 + 1 := by omega
      have hgn2 : w.heap.size + 1 + 1 ≠ g := by omega
      go_wp2_with fail
      go_region
      all_goals go_wp2_with fail
      all_goals exact bodyPost_ret (v := .tuple #[.agg #[.int .i64 t0, .int .i64 t1], .int .i64 0]) (by simp [results, Tryd.results19, go_sem, r0, r1]) rfl (HG.out t0 t1 0 _ (by rw [if_pos HEE.out.1, HEE.out.2]) (by rw [if_pos rfl]) (by rw [if_pos rfl]) ((hww.setCell (p := ⟨w.heap.size + 1 + 1, 0, none⟩) (by show w.heap.size ≤ w.heap.size + 1 + 1; omega) _).setCell (p := ⟨w.heap.size + 1 + 1, 1, none⟩) (by show w.heap.size ≤ w.heap.size + 1 + 1; omega) _).drew)

/-- The document's answer's Opens, whatever it is asked. -/
theorem refOpens_any (nodes faulty skew jitter drift R frame : Int) (sa la wa : Option Addr) (ns sc nl lc nw wc : Nat) (f s n d round slot : Int) (w : World) (hns : ns ≤ 9223372036854775807) (nd fr to : Nat → Int) (hs : Rows3 w sa ns nd fr to) :
    Calls Tryd.prog 19 #[.agg #[.int .i64 nodes, .int .i64 faulty, .int .i64 skew, .int .i64 jitter, .int .i64 drift, .int .i64 R, .slice sa ns sc, .slice la nl lc, .int .i64 frame, .slice wa nw wc], .agg #[.int .i64 f, .int .i64 s, .int .i64 n, .int .i64 d], .int .i64 round, .int .i64 slot] w fun ev w' => ev = .returned (.tuple #[.agg #[.int .i64 (openF f s n d ns fr to R round slot), .int .i64 (openT f s n d ns fr to R round slot)], .int .i64 (openE f s n d ns fr to R round slot)]) ∧ Below w.heap.size w w' := by
  by_cases h1 : slot < 0 ∨ (ns : Int) ≤ slot
  · have e : openE f s n d ns fr to R round slot = 7 := by unfold openE; rw [if_pos h1]
    unfold openF openT
    rw [e]
    exact opens_none nodes faulty skew jitter drift R frame sa la wa ns sc nl lc nw wc f s n d round slot w h1 hns
  · by_cases h2 : R < 1 ∨ round < 0 ∨ 1099511627776 / R < round
    · have e : openE f s n d ns fr to R round slot = 2 := by unfold openE; rw [if_neg h1, if_pos h2]
      unfold openF openT
      rw [e]
      exact opens_range nodes faulty skew jitter drift R frame sa la wa ns sc nl lc nw wc f s n d round slot w (by omega) (by omega) hns h2
    · refine opens_in nodes faulty skew jitter drift R frame sa la wa ns sc nl lc nw wc f s n d round slot w slot.toNat (by omega) (by omega) hns (by omega) (by omega) (by omega) nd fr to hs _ (fun x y e w' he hx hy hb => ?_)
      have e2 : openE f s n d ns fr to R round slot = e := by unfold openE; rw [if_neg h1, if_neg h2, he]
      refine ⟨?_, hb⟩
      unfold openF openT
      rw [e2, hx, hy]
end Go.Proofs.YtpefdjdebglafabDoor
