/- The program's Opens, whatever it is asked; new memory alone is made. (Made by tools/gen_guardopens.py.) -/
import Derived.Test.YtlpojkehbhkdiaaGuardWhen
import Derived.Test.YtlpojkehbhkdiaaOpenRows
import Derived.RegionTactic
namespace Go.Proofs.Ytlpojkehbhkdiaa
open Go.RowKit

theorem two_new {w : World} {a b : Obj} : Below w.heap.size w ((w.alloc a).alloc b) := ((Below.refl _ _).alloc (Nat.le_refl _) _).alloc (by simp) _
theorem errV_some {k : Int} (h : k ≠ 0) : errV k = .iface 59 (.int .i64 k) := by unfold errV; rw [if_neg h]

set_option maxRecDepth 100000 in
set_option maxHeartbeats 2000000 in
theorem gopens_none (nodes faulty skew jitter drift R frame : Int) (sa la wa : Option Addr) (ns sc nl lc nw wc : Nat) (f s n d node round slot : Int) (w : World) (h : slot < 0 ∨ (ns : Int) ≤ slot) :
    Calls Try.prog 36 #[.agg #[.int .i64 nodes, .int .i64 faulty, .int .i64 skew, .int .i64 jitter, .int .i64 drift, .int .i64 R, .slice sa ns sc, .slice la nl lc, .int .i64 frame, .slice wa nw wc, .int .i64 f, .int .i64 s, .int .i64 n, .int .i64 d, .int .i64 node], .int .i64 round, .int .i64 slot] w fun ev w' => ev = .returned (.tuple #[.agg #[.int .i64 0, .int .i64 0], errV 7]) ∧ Below w.heap.size w w' := by
  rw [errV_7]
  by_cases h0 : slot < 0
  · clear h
    go_enter Try.func36, Try.ntmps36
    go_wp2
    exact bodyPost_ret (v := .tuple #[.agg #[.int .i64 0, .int .i64 0], .iface 59 (.int .i64 7)]) (by simp [results, Try.results36, go_sem]) rfl ⟨rfl, two_new⟩
  · have h1 : (ns : Int) ≤ slot := by omega
    have h2 : decide (slot < 0) = false := decide_eq_false h0
    clear h h0
    go_enter Try.func36, Try.ntmps36
    go_wp2
    exact bodyPost_ret (v := .tuple #[.agg #[.int .i64 0, .int .i64 0], .iface 59 (.int .i64 7)]) (by simp [results, Try.results36, go_sem]) rfl ⟨rfl, two_new⟩

set_option maxRecDepth 100000 in
set_option maxHeartbeats 2000000 in
theorem gopens_range (nodes faulty skew jitter drift R frame : Int) (sa la wa : Option Addr) (ns sc nl lc nw wc : Nat) (f s n d node round slot : Int) (w : World) (h1 : 0 ≤ slot) (h2 : slot < ns) (h : R < 1 ∨ round < 0 ∨ 1099511627776 / R < round) :
    Calls Try.prog 36 #[.agg #[.int .i64 nodes, .int .i64 faulty, .int .i64 skew, .int .i64 jitter, .int .i64 drift, .int .i64 R, .slice sa ns sc, .slice la nl lc, .int .i64 frame, .slice wa nw wc, .int .i64 f, .int .i64 s, .int .i64 n, .int .i64 d, .int .i64 node], .int .i64 round, .int .i64 slot] w fun ev w' => ev = .returned (.tuple #[.agg #[.int .i64 0, .int .i64 0], errV 2]) ∧ Below w.heap.size w w' := by
  rw [errV_2]
  have g1 : decide (slot < 0) = false := decide_eq_false (by omega)
  have g2 : decide ((ns : Int) ≤ slot) = false := decide_eq_false (by omega)
  by_cases hR : R ≤ 0
  · clear h
    go_enter Try.func36, Try.ntmps36
    go_wp2
    exact bodyPost_ret (v := .tuple #[.agg #[.int .i64 0, .int .i64 0], .iface 59 (.int .i64 2)]) (by simp [results, Try.results36, go_sem]) rfl ⟨rfl, two_new⟩
  · have hR1 : 1 ≤ R := by omega
    have hR2 : decide (R ≤ 0) = false := decide_eq_false hR
    by_cases hr : round < 0
    · clear h hR
      go_enter Try.func36, Try.ntmps36
      go_wp2
      exact bodyPost_ret (v := .tuple #[.agg #[.int .i64 0, .int .i64 0], .iface 59 (.int .i64 2)]) (by simp [results, Try.results36, go_sem]) rfl ⟨rfl, two_new⟩
    · have hr1 : 1099511627776 / R < round := by omega
      have hr2 : decide (round < 0) = false := decide_eq_false hr
      clear h hR
      go_enter Try.func36, Try.ntmps36
      go_wp2
      exact bodyPost_ret (v := .tuple #[.agg #[.int .i64 0, .int .i64 0], .iface 59 (.int .i64 2)]) (by simp [results, Try.results36, go_sem]) rfl ⟨rfl, two_new⟩

set_option maxRecDepth 100000 in
theorem idx0 (x y : Int) (w : World) : (Instr.index 86 (.agg #[.int .i64 x, .int .i64 y]) (.int .i64 0)).run Try.prog w = .ok (.int .i64 x) w := rfl
set_option maxRecDepth 100000 in
theorem idx1 (x y : Int) (w : World) : (Instr.index 86 (.agg #[.int .i64 x, .int .i64 y]) (.int .i64 1)).run Try.prog w = .ok (.int .i64 y) w := rfl
/-- Both ends of a slot, as they lie in an array. -/
def Ends (b : Nat) (x y : Int) (u : World) : Prop := u.cell? ⟨b, 0, none⟩ = some (.int .i64 x) ∧ u.cell? ⟨b, 1, none⟩ = some (.int .i64 y) ∧ u.frozen? ⟨b, 0, none⟩ = false ∧ u.frozen? ⟨b, 1, none⟩ = false ∧ b < u.heap.size
theorem ends_new {w : World} {t : TypeId} {x y : Int} : Ends w.heap.size x y (w.alloc (.cells #[.int .i64 x, .int .i64 y] t)) := ⟨by simp, by simp, by simp, by simp, by simp⟩
theorem Ends.below {b : Nat} {x y : Int} {u v : World} (h : Ends b x y u) (hb : Below u.heap.size u v) : Ends b x y v := ⟨(hb.cell (p := ⟨b, 0, none⟩) h.2.2.2.2).trans h.1, (hb.cell (p := ⟨b, 1, none⟩) h.2.2.2.2).trans h.2.1, (hb.frozen (p := ⟨b, 0, none⟩) h.2.2.2.2).trans h.2.2.1, (hb.frozen (p := ⟨b, 1, none⟩) h.2.2.2.2).trans h.2.2.2.1, Nat.lt_of_lt_of_le h.2.2.2.2 hb.size⟩
theorem Ends.set0 {b : Nat} {x y z z' : Int} {u : World} (h : Ends b x y u) (e : z = z') : Ends b z y (u.setCell ⟨b, 0, none⟩ (.int .i64 z')) := by
  subst e
  exact ⟨World.cell?_setCell_same _ _ _ h.1, by rw [World.cell?_setCell_other _ _ _ _ (by simp)]; exact h.2.1, by simpa using h.2.2.1, by simpa using h.2.2.2.1, by simpa using h.2.2.2.2⟩
theorem Ends.set1 {b : Nat} {x y z z' : Int} {u : World} (h : Ends b x y u) (e : z = z') : Ends b x z (u.setCell ⟨b, 1, none⟩ (.int .i64 z')) := by
  subst e
  exact ⟨by rw [World.cell?_setCell_other _ _ _ _ (by simp)]; exact h.1, World.cell?_setCell_same _ _ _ h.2.1, by simpa using h.2.2.1, by simpa using h.2.2.2.1, by simpa using h.2.2.2.2⟩

set_option maxRecDepth 100000 in
set_option maxHeartbeats 4000000 in
theorem gopens_in (nodes faulty skew jitter drift R frame : Int) (sa la wa : Option Addr) (ns sc nl lc nw wc : Nat) (f s n d node round slot : Int) (w : World) (j : Nat) (hj : slot = j) (h2 : j < ns) (hns : ns ≤ 9223372036854775807) (hR1 : 1 ≤ R) (hr0 : 0 ≤ round) (hr1 : round ≤ 1099511627776 / R) (nd fr to : Nat → Int) (hs : Rows3 w sa ns nd fr to) (G : Ending → World → Prop)
    (hG : ∀ x y e w', e = (if endE f s n d (round * R) (fr j) = 0 then endE f s n d (round * R) (to j) else endE f s n d (round * R) (fr j)) → x = (if e = 0 then endT f s n d (round * R) (fr j) else 0) → y = (if e = 0 then endT f s n d (round * R) (to j) else 0) → Below w.heap.size w w' → G (.returned (.tuple #[.agg #[.int .i64 x, .int .i64 y], errV e])) w') :
    Calls Try.prog 36 #[.agg #[.int .i64 nodes, .int .i64 faulty, .int .i64 skew, .int .i64 jitter, .int .i64 drift, .int .i64 R, .slice sa ns sc, .slice la nl lc, .int .i64 frame, .slice wa nw wc, .int .i64 f, .int .i64 s, .int .i64 n, .int .i64 d, .int .i64 node], .int .i64 round, .int .i64 slot] w G := by
  subst hj
  have g1 : decide ((j : Int) < 0) = false := decide_eq_false (by omega)
  have g2 : decide (ns ≤ j) = false := decide_eq_false (by omega)
  have hR2 : decide (R ≤ 0) = false := decide_eq_false (by omega)
  have hr2 : decide (round < 0) = false := decide_eq_false (by omega)
  have hr3 : decide (1099511627776 / R < round) = false := decide_eq_false (by omega)
  have ha : 0 ≤ round * R ∧ round * R ≤ 1099511627776 := ⟨Int.mul_nonneg hr0 (by omega), by
    have h1 := Int.mul_le_mul_of_nonneg_right hr1 (show 0 ≤ R by omega)
    have h2 := Int.ediv_mul_le 1099511627776 (show R ≠ 0 by omega)
    omega⟩
  have HG : Hid _ := hG
  clear hG
  obtain ⟨b, off, rfl, hb, hcc⟩ := hs (by omega)
  obtain ⟨x0, x1, x2⟩ := hcc j h2
  obtain ⟨V, hVe⟩ : ∃ V, V = (w.alloc (.cells #[.int .i64 nodes, .int .i64 faulty, .int .i64 skew, .int .i64 jitter, .int .i64 drift, .int .i64 R, .slice (some ⟨b, off, none⟩) ns sc, .slice la nl lc, .int .i64 frame, .slice wa nw wc, .int .i64 f, .int .i64 s, .int .i64 n, .int .i64 d, .int .i64 node] 45)).alloc (.cells #[.int .i64 0, .int .i64 0] 41) := ⟨_, rfl⟩
  have hV : Below w.heap.size w V := by rw [hVe]; exact two_new
  have hGB : GuardBox w.heap.size nodes faulty skew jitter drift R frame (some ⟨b, off, none⟩) la wa ns sc nl lc nw wc f s n d node V := by
    rw [hVe]
    exact (guard_new nodes faulty skew jitter drift R frame (some ⟨b, off, none⟩) la wa ns sc nl lc nw wc f s n d node _ w).below ((Below.refl _ _).alloc (Nat.le_refl _) _) (by simp)
  have r0 : V.cell? ⟨w.heap.size + 1, 0, none⟩ = some (.int .i64 0) := by rw [hVe]; simp
  have r1 : V.cell? ⟨w.heap.size + 1, 1, none⟩ = some (.int .i64 0) := by rw [hVe]; simp
  have z0 : V.frozen? ⟨w.heap.size + 1, 0, none⟩ = false := by rw [hVe]; simp
  have z1 : V.frozen? ⟨w.heap.size + 1, 1, none⟩ = false := by rw [hVe]; simp
  have hVs : V.heap.size = w.heap.size + 2 := by rw [hVe]; simp
  have hjn : (j : Int) < (ns : Int) := by omega
  clear hcc hs
  obtain ⟨a0, ha0⟩ : ∃ a0, round * R = a0 := ⟨_, rfl⟩
  rw [ha0] at ha HG
  obtain ⟨U, hUe⟩ : ∃ U, U = ((w.alloc (.cells #[.int .i64 nodes, .int .i64 faulty, .int .i64 skew, .int .i64 jitter, .int .i64 drift, .int .i64 R, .slice (some ⟨b, off, none⟩) ns sc, .slice la nl lc, .int .i64 frame, .slice wa nw wc, .int .i64 f, .int .i64 s, .int .i64 n, .int .i64 d, .int .i64 node] 45)).alloc (.cells #[.int .i64 0, .int .i64 0] 41)).alloc (.cells #[.int .i64 (nd j), .int .i64 (fr j), .int .i64 (to j)] 53) := ⟨_, rfl⟩
  have hVU : Below V.heap.size V U := by rw [hUe, ← hVe]; exact (Below.refl _ _).alloc (Nat.le_refl _) _
  have hUs : U.heap.size = w.heap.size + 3 := by rw [hUe, ← hVe]; simp [hVs]
  obtain ⟨Y, hYe⟩ : ∃ Y, Y = U.alloc (.cells #[.int .i64 (fr j), .int .i64 (to j)] 86) := ⟨_, rfl⟩
  have hY : Ends (w.heap.size + 1 + 1 + 1) (fr j) (to j) Y := by
    have := ends_new (w := U) (t := 86) (x := fr j) (y := to j)
    rw [hUs] at this
    rw [hYe]; exact this
  have hUY : Below U.heap.size U Y := by rw [hYe]; exact (Below.refl _ _).alloc (Nat.le_refl _) _
  have hwU : Below w.heap.size w U := hV.trans (hVU.mono hV.size)
  have HGU : Hid (GuardBox w.heap.size nodes faulty skew jitter drift R frame (some ⟨b, off, none⟩) la wa ns sc nl lc nw wc f s n d node U) := hGB.below hVU (by omega)
  have HRU : Hid (U.cell? ⟨w.heap.size + 1, 0, none⟩ = some (.int .i64 0) ∧ U.cell? ⟨w.heap.size + 1, 1, none⟩ = some (.int .i64 0) ∧ U.frozen? ⟨w.heap.size + 1, 0, none⟩ = false ∧ U.frozen? ⟨w.heap.size + 1, 1, none⟩ = false) :=
    ⟨(hVU.cell (p := ⟨w.heap.size + 1, 0, none⟩) (by show w.heap.size + 1 < V.heap.size; omega)).trans r0, (hVU.cell (p := ⟨w.heap.size + 1, 1, none⟩) (by show w.heap.size + 1 < V.heap.size; omega)).trans r1, (hVU.frozen (p := ⟨w.heap.size + 1, 0, none⟩) (by show w.heap.size + 1 < V.heap.size; omega)).trans z0, (hVU.frozen (p := ⟨w.heap.size + 1, 1, none⟩) (by show w.heap.size + 1 < V.heap.size; omega)).trans z1⟩
  have HW : Hid (∀ (x : Int) (u : World), Calls Try.prog 41 #[.agg #[.int .i64 nodes, .int .i64 faulty, .int .i64 skew, .int .i64 jitter, .int .i64 drift, .int .i64 R, .slice (some ⟨b, off, none⟩) ns sc, .slice la nl lc, .int .i64 frame, .slice wa nw wc, .int .i64 f, .int .i64 s, .int .i64 n, .int .i64 d, .int .i64 node], .int .i64 a0, .int .i64 x] u fun e w' => e = .returned (.tuple #[.int .i64 (whenV f s n d a0 x), errV (endE f s n d a0 x)]) ∧ Below u.heap.size u w') := fun x u => when_any nodes faulty skew jitter drift R frame (some ⟨b, off, none⟩) la wa ns sc nl lc nw wc f s n d node a0 x u
  have HY : Hid (Ends (w.heap.size + 1 + 1 + 1) (fr j) (to j) Y) := hY
  clear hGB hY hVU r0 r1 z0 z1 hV hVs
  go_enter Try.func36, Try.ntmps36
  go_wp2_with fail
  rw [← hUe, ← hYe]
  clear hUe hYe hVe V x0 x1 x2
  generalize nd j = nj
  generalize fr j = fj at *
  generalize to j = tj at *
  go_loopw [58] (fun t wr => ∃ k : Nat, k ≤ 2 ∧ t = .int .i64 k ∧ Hid (0 < k → endE f s n d a0 fj = 0) ∧ Hid (1 < k → endE f s n d a0 tj = 0) ∧ Hid (Ends (w.heap.size + 1 + 1 + 1) (if 0 < k then endT f s n d a0 fj else fj) (if 1 < k then endT f s n d a0 tj else tj) wr) ∧ Below U.heap.size U wr) (fun t _ => 2 - (intOf t).toNat)
  case atStart => exact ⟨0, Nat.zero_le _, rfl, fun h => absurd h (Nat.lt_irrefl _), fun h => absurd h (by decide), HY.out, hUY⟩
  case round =>
    obtain ⟨k, hk2, rfl, h0, h1, hE, hbe⟩ := hrel
    have hww : Below w.heap.size w wr := hwU.trans (hbe.mono hwU.size)
    have hsz := hbe.size
    obtain ⟨r0, r1, z0, z1⟩ := HRU.out
    replace r0 := (hbe.cell (p := ⟨w.heap.size + 1, 0, none⟩) (by show w.heap.size + 1 < U.heap.size; omega)).trans r0
    replace r1 := (hbe.cell (p := ⟨w.heap.size + 1, 1, none⟩) (by show w.heap.size + 1 < U.heap.size; omega)).trans r1
    replace z0 := (hbe.frozen (p := ⟨w.heap.size + 1, 0, none⟩) (by show w.heap.size + 1 < U.heap.size; omega)).trans z0
    replace z1 := (hbe.frozen (p := ⟨w.heap.size + 1, 1, none⟩) (by show w.heap.size + 1 < U.heap.size; omega)).trans z1
    have hc : k = 0 ∨ k = 1 ∨ k = 2 := by omega
    rcases hc with rfl | rfl | rfl
    · have HE : Hid (Ends (w.heap.size + 1 + 1 + 1) fj tj wr) := hE.out
      clear hE h0 h1
      obtain ⟨q0, q1, q2, q3, q4, q5, q6, q7, q8, q9, q10, q11, q12, q13, q14⟩ := HGU.out.below hbe (by omega)
      have hix := idx0
      have hwk : ∀ u : World, Calls Try.prog 41 #[.agg #[.int .i64 nodes, .int .i64 faulty, .int .i64 skew, .int .i64 jitter, .int .i64 drift, .int .i64 R, .slice (some ⟨b, off, none⟩) ns sc, .slice la nl lc, .int .i64 frame, .slice wa nw wc, .int .i64 f, .int .i64 s, .int .i64 n, .int .i64 d, .int .i64 node], .int .i64 a0, .int .i64 fj] u fun e w' => e = .returned (.tuple #[.int .i64 (whenV f s n d a0 fj), errV (endE f s n d a0 fj)]) ∧ Below u.heap.size u w' := fun u => HW.out fj u
      by_cases hz : endE f s n d a0 fj = 0
      · have hwv : whenV f s n d a0 fj = endT f s n d a0 fj := by unfold whenV; rw [if_pos hz]
        have HZ : Hid (endE f s n d a0 fj = 0) := hz
        rw [hwv, hz, errV_0] at hwk
        clear hz hwv
        have HK : Hid (∀ u : World, Calls Try.prog 41 #[.agg #[.int .i64 nodes, .int .i64 faulty, .int .i64 skew, .int .i64 jitter, .int .i64 drift, .int .i64 R, .slice (some ⟨b, off, none⟩) ns sc, .slice la nl lc, .int .i64 frame, .slice wa nw wc, .int .i64 f, .int .i64 s, .int .i64 n, .int .i64 d, .int .i64 node], .int .i64 a0, .int .i64 fj] u fun e w' => e = .returned (.tuple #[.int .i64 (endT f s n d a0 fj), .nilIface]) ∧ Below u.heap.size u w') := hwk
        clear hwk
        go_wp2_with fail
        refine (HK.out _).mono ?_
        rintro e w2 ⟨rfl, hb2⟩
        obtain ⟨e0, e1, y0, y1, ey⟩ := HE.out.below hb2
        clear q0 q1 q2 q3 q4 q5 q6 q7 q8 q9 q10 q11 q12 q13 q14 HK r0 r1 z0 z1
        have hb3 : Below U.heap.size U w2 := hbe.trans (hb2.mono hsz)
        generalize hq : endT f s n d a0 fj = tx
        go_wp2
        exact ⟨⟨1, by omega, rfl, fun _ => HZ.out, fun h => absurd h (by decide), (HE.out.below hb2).set0 hq, ((hb3.setCell (p := ⟨w.heap.size + 1 + 1 + 1, 0, none⟩) (by show U.heap.size ≤ w.heap.size + 1 + 1 + 1; omega) _))⟩, by simp [intOf]⟩
      · have hwv : whenV f s n d a0 fj = 0 := by unfold whenV; rw [if_neg hz]
        have HZ : Hid (endE f s n d a0 fj ≠ 0) := hz
        have HGE : Hid (∀ w', Below w.heap.size w w' → G (.returned (.tuple #[.agg #[.int .i64 0, .int .i64 0], .iface 59 (.int .i64 (endE f s n d a0 fj))])) w') := fun w' hb' => by
          have := HG.out 0 0 (endE f s n d a0 fj) w' (by rw [if_neg hz]) (by rw [if_neg hz]) (by rw [if_neg hz]) hb'
          rwa [errV_some hz] at this
        rw [hwv, errV_some hz] at hwk
        clear hz hwv HG
        have HK : Hid (∀ u : World, Calls Try.prog 41 #[.agg #[.int .i64 nodes, .int .i64 faulty, .int .i64 skew, .int .i64 jitter, .int .i64 drift, .int .i64 R, .slice (some ⟨b, off, none⟩) ns sc, .slice la nl lc, .int .i64 frame, .slice wa nw wc, .int .i64 f, .int .i64 s, .int .i64 n, .int .i64 d, .int .i64 node], .int .i64 a0, .int .i64 fj] u fun e w' => e = .returned (.tuple #[.int .i64 0, .iface 59 (.int .i64 (endE f s n d a0 fj))]) ∧ Below u.heap.size u w') := hwk
        clear hwk HW
        generalize endE f s n d a0 fj = ee at *
        go_wp2_with fail
        refine (HK.out _).mono ?_
        rintro e w2 ⟨rfl, hb2⟩
        clear q0 q1 q2 q3 q4 q5 q6 q7 q8 q9 q10 q11 q12 q13 q14 HK
        replace z0 := (hb2.frozen (p := ⟨w.heap.size + 1, 0, none⟩) (by show w.heap.size + 1 < wr.heap.size; omega)).trans z0
        replace z1 := (hb2.frozen (p := ⟨w.heap.size + 1, 1, none⟩) (by show w.heap.size + 1 < wr.heap.size; omega)).trans z1
        replace r0 := (hb2.cell (p := ⟨w.heap.size + 1, 0, none⟩) (by show w.heap.size + 1 < wr.heap.size; omega)).trans r0
        replace r1 := (hb2.cell (p := ⟨w.heap.size + 1, 1, none⟩) (by show w.heap.size + 1 < wr.heap.size; omega)).trans r1
        have hw2 : Below w.heap.size w w2 := hww.trans (hb2.mono hww.size)
        go_wp2
        exact bodyPost_ret (v := .tuple #[.agg #[.int .i64 0, .int .i64 0], .iface 59 (.int .i64 ee)]) (by simp [results, Try.results36, go_sem, r0, r1]) rfl (HGE.out _ ((hw2.setCell (p := ⟨w.heap.size + 1, 0, none⟩) (by show w.heap.size ≤ w.heap.size + 1; omega) _).setCell (p := ⟨w.heap.size + 1, 1, none⟩) (by show w.heap.size ≤ w.heap.size + 1; omega) _))
    · have HE : Hid (Ends (w.heap.size + 1 + 1 + 1) (endT f s n d a0 fj) tj wr) := hE.out
      have H0 : Hid (endE f s n d a0 fj = 0) := h0.out (by decide)
      clear hE h0 h1
      obtain ⟨q0, q1, q2, q3, q4, q5, q6, q7, q8, q9, q10, q11, q12, q13, q14⟩ := HGU.out.below hbe (by omega)
      have hix := idx1
      have hwk : ∀ u : World, Calls Try.prog 41 #[.agg #[.int .i64 nodes, .int .i64 faulty, .int .i64 skew, .int .i64 jitter, .int .i64 drift, .int .i64 R, .slice (some ⟨b, off, none⟩) ns sc, .slice la nl lc, .int .i64 frame, .slice wa nw wc, .int .i64 f, .int .i64 s, .int .i64 n, .int .i64 d, .int .i64 node], .int .i64 a0, .int .i64 tj] u fun e w' => e = .returned (.tuple #[.int .i64 (whenV f s n d a0 tj), errV (endE f s n d a0 tj)]) ∧ Below u.heap.size u w' := fun u => HW.out tj u
      by_cases hz : endE f s n d a0 tj = 0
      · have hwv : whenV f s n d a0 tj = endT f s n d a0 tj := by unfold whenV; rw [if_pos hz]
        have HZ : Hid (endE f s n d a0 tj = 0) := hz
        rw [hwv, hz, errV_0] at hwk
        clear hz hwv
        have HK : Hid (∀ u : World, Calls Try.prog 41 #[.agg #[.int .i64 nodes, .int .i64 faulty, .int .i64 skew, .int .i64 jitter, .int .i64 drift, .int .i64 R, .slice (some ⟨b, off, none⟩) ns sc, .slice la nl lc, .int .i64 frame, .slice wa nw wc, .int .i64 f, .int .i64 s, .int .i64 n, .int .i64 d, .int .i64 node], .int .i64 a0, .int .i64 tj] u fun e w' => e = .returned (.tuple #[.int .i64 (endT f s n d a0 tj), .nilIface]) ∧ Below u.heap.size u w') := hwk
        clear hwk
        go_wp2_with fail
        refine (HK.out _).mono ?_
        rintro e w2 ⟨rfl, hb2⟩
        obtain ⟨e0, e1, y0, y1, ey⟩ := HE.out.below hb2
        clear q0 q1 q2 q3 q4 q5 q6 q7 q8 q9 q10 q11 q12 q13 q14 HK r0 r1 z0 z1
        have hb3 : Below U.heap.size U w2 := hbe.trans (hb2.mono hsz)
        generalize hq : endT f s n d a0 tj = tx
        go_wp2
        exact ⟨⟨2, by omega, rfl, fun _ => H0.out, fun _ => HZ.out, (HE.out.below hb2).set1 hq, ((hb3.setCell (p := ⟨w.heap.size + 1 + 1 + 1, 1, none⟩) (by show U.heap.size ≤ w.heap.size + 1 + 1 + 1; omega) _))⟩, by simp [intOf]⟩
      · have hwv : whenV f s n d a0 tj = 0 := by unfold whenV; rw [if_neg hz]
        have HZ : Hid (endE f s n d a0 tj ≠ 0) := hz
        have HGE : Hid (∀ w', Below w.heap.size w w' → G (.returned (.tuple #[.agg #[.int .i64 0, .int .i64 0], .iface 59 (.int .i64 (endE f s n d a0 tj))])) w') := fun w' hb' => by
          have := HG.out 0 0 (endE f s n d a0 tj) w' (by rw [if_pos H0.out]) (by rw [if_neg hz]) (by rw [if_neg hz]) hb'
          rwa [errV_some hz] at this
        rw [hwv, errV_some hz] at hwk
        clear hz hwv HG
        have HK : Hid (∀ u : World, Calls Try.prog 41 #[.agg #[.int .i64 nodes, .int .i64 faulty, .int .i64 skew, .int .i64 jitter, .int .i64 drift, .int .i64 R, .slice (some ⟨b, off, none⟩) ns sc, .slice la nl lc, .int .i64 frame, .slice wa nw wc, .int .i64 f, .int .i64 s, .int .i64 n, .int .i64 d, .int .i64 node], .int .i64 a0, .int .i64 tj] u fun e w' => e = .returned (.tuple #[.int .i64 0, .iface 59 (.int .i64 (endE f s n d a0 tj))]) ∧ Below u.heap.size u w') := hwk
        clear hwk HW
        generalize endE f s n d a0 tj = ee at *
        go_wp2_with fail
        refine (HK.out _).mono ?_
        rintro e w2 ⟨rfl, hb2⟩
        clear q0 q1 q2 q3 q4 q5 q6 q7 q8 q9 q10 q11 q12 q13 q14 HK
        replace z0 := (hb2.frozen (p := ⟨w.heap.size + 1, 0, none⟩) (by show w.heap.size + 1 < wr.heap.size; omega)).trans z0
        replace z1 := (hb2.frozen (p := ⟨w.heap.size + 1, 1, none⟩) (by show w.heap.size + 1 < wr.heap.size; omega)).trans z1
        replace r0 := (hb2.cell (p := ⟨w.heap.size + 1, 0, none⟩) (by show w.heap.size + 1 < wr.heap.size; omega)).trans r0
        replace r1 := (hb2.cell (p := ⟨w.heap.size + 1, 1, none⟩) (by show w.heap.size + 1 < wr.heap.size; omega)).trans r1
        have hw2 : Below w.heap.size w w2 := hww.trans (hb2.mono hww.size)
        go_wp2
        exact bodyPost_ret (v := .tuple #[.agg #[.int .i64 0, .int .i64 0], .iface 59 (.int .i64 ee)]) (by simp [results, Try.results36, go_sem, r0, r1]) rfl (HGE.out _ ((hw2.setCell (p := ⟨w.heap.size + 1, 0, none⟩) (by show w.heap.size ≤ w.heap.size + 1; omega) _).setCell (p := ⟨w.heap.size + 1, 1, none⟩) (by show w.heap.size ≤ w.heap.size + 1; omega) _))
    · have HE : Hid (Ends (w.heap.size + 1 + 1 + 1) (endT f s n d a0 fj) (endT f s n d a0 tj) wr) := hE.out
      have H0 : Hid (endE f s n d a0 fj = 0 ∧ endE f s n d a0 tj = 0) := ⟨h0.out (by decide), h1.out (by decide)⟩
      clear hE h0 h1
      have HG0 : Hid (∀ w', Below w.heap.size w w' → G (.returned (.tuple #[.agg #[.int .i64 (endT f s n d a0 fj), .int .i64 (endT f s n d a0 tj)], errV 0])) w') := fun w' hb' => HG.out _ _ 0 w' (by rw [if_pos H0.out.1, H0.out.2]) (by rw [if_pos rfl]) (by rw [if_pos rfl]) hb'
      generalize endT f s n d a0 fj = t0 at *
      generalize endT f s n d a0 tj = t1 at *
      obtain ⟨e0, e1, y0, y1, ey⟩ := HE.out
      clear HE H0 HG
      go_wp2
      exact bodyPost_ret (v := .tuple #[.agg #[.int .i64 t0, .int .i64 t1], errV 0]) (by simp [results, Try.results36, go_sem, r0, r1, errV_0]) rfl (HG0.out _ ((hww.setCell (p := ⟨w.heap.size + 1, 0, none⟩) (by show w.heap.size ≤ w.heap.size + 1; omega) _).setCell (p := ⟨w.heap.size + 1, 1, none⟩) (by show w.heap.size ≤ w.heap.size + 1; omega) _))

/-- The program's Opens, whatever it is asked. -/
theorem gopens_any (nodes faulty skew jitter drift R frame : Int) (sa la wa : Option Addr) (ns sc nl lc nw wc : Nat) (f s n d node round slot : Int) (w : World) (hns : ns ≤ 9223372036854775807) (nd fr to : Nat → Int) (hs : Rows3 w sa ns nd fr to) :
    Calls Try.prog 36 #[.agg #[.int .i64 nodes, .int .i64 faulty, .int .i64 skew, .int .i64 jitter, .int .i64 drift, .int .i64 R, .slice sa ns sc, .slice la nl lc, .int .i64 frame, .slice wa nw wc, .int .i64 f, .int .i64 s, .int .i64 n, .int .i64 d, .int .i64 node], .int .i64 round, .int .i64 slot] w fun ev w' => ev = .returned (.tuple #[.agg #[.int .i64 (openF f s n d ns fr to R round slot), .int .i64 (openT f s n d ns fr to R round slot)], errV (openE f s n d ns fr to R round slot)]) ∧ Below w.heap.size w w' := by
  by_cases h1 : slot < 0 ∨ (ns : Int) ≤ slot
  · have e : openE f s n d ns fr to R round slot = 7 := by unfold openE; rw [if_pos h1]
    unfold openF openT
    rw [e]
    exact gopens_none nodes faulty skew jitter drift R frame sa la wa ns sc nl lc nw wc f s n d node round slot w h1
  · by_cases h2 : R < 1 ∨ round < 0 ∨ 1099511627776 / R < round
    · have e : openE f s n d ns fr to R round slot = 2 := by unfold openE; rw [if_neg h1, if_pos h2]
      unfold openF openT
      rw [e]
      exact gopens_range nodes faulty skew jitter drift R frame sa la wa ns sc nl lc nw wc f s n d node round slot w (by omega) (by omega) h2
    · refine gopens_in nodes faulty skew jitter drift R frame sa la wa ns sc nl lc nw wc f s n d node round slot w slot.toNat (by omega) (by omega) hns (by omega) (by omega) (by omega) nd fr to hs _ (fun x y e w' he hx hy hb => ?_)
      have e2 : openE f s n d ns fr to R round slot = e := by unfold openE; rw [if_neg h1, if_neg h2, he]
      refine ⟨?_, hb⟩
      unfold openF openT
      rw [e2, hx, hy]
end Go.Proofs.Ytlpojkehbhkdiaa
