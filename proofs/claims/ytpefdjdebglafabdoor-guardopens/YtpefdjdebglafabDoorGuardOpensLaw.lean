/- GuardOpens, walked: of every plan, clock, round and slot it answers true. (Made by tools/gen_guardopenslaw.py.) Condition: package errors' own variable holds what its text says. -/
import Derived.Test.YtpefdjdebglafabDoorRefOpens
import Derived.Test.YtpefdjdebglafabDoorGuardOpensP
import Derived.Test.YtpefdjdebglafabDoorSmall
import Derived.Test.YtpefdjdebglafabDoorBareAt
import Derived.Deep.RegionHeld3
namespace Go.Proofs.YtpefdjdebglafabDoor
open Go.RowKit

theorem onew_cell {w : World} {cs : Array Value} {t : TypeId} {i : Nat} {v : Value} (h : cs[i]? = some v) : (w.alloc (.cells cs t)).cell? ⟨w.heap.size, i, none⟩ = some v := by
  simp
  simpa using h
/-- What lies in the boxes of its arguments. -/
def LawBox (b : Nat) (nodes faulty skew jitter drift R frame : Int) (sa la wa : Option Addr) (ns sc nl lc nw wc : Nat) (f s n d : Int) (u : World) : Prop :=
  u.cell? ⟨b, 0, none⟩ = some (.int .i64 nodes) ∧ u.cell? ⟨b, 1, none⟩ = some (.int .i64 faulty) ∧ u.cell? ⟨b, 2, none⟩ = some (.int .i64 skew) ∧ u.cell? ⟨b, 3, none⟩ = some (.int .i64 jitter) ∧ u.cell? ⟨b, 4, none⟩ = some (.int .i64 drift) ∧ u.cell? ⟨b, 5, none⟩ = some (.int .i64 R) ∧ u.cell? ⟨b, 6, none⟩ = some (.slice sa ns sc) ∧ u.cell? ⟨b, 7, none⟩ = some (.slice la nl lc) ∧ u.cell? ⟨b, 8, none⟩ = some (.int .i64 frame) ∧ u.cell? ⟨b, 9, none⟩ = some (.slice wa nw wc) ∧ u.cell? ⟨b + 1, 0, none⟩ = some (.int .i64 f) ∧ u.cell? ⟨b + 1, 1, none⟩ = some (.int .i64 s) ∧ u.cell? ⟨b + 1, 2, none⟩ = some (.int .i64 n) ∧ u.cell? ⟨b + 1, 3, none⟩ = some (.int .i64 d)
theorem LawBox.below {b : Nat} {nodes faulty skew jitter drift R frame : Int} {sa la wa : Option Addr} {ns sc nl lc nw wc : Nat} {f s n d : Int} {u v : World} (h : LawBox b nodes faulty skew jitter drift R frame sa la wa ns sc nl lc nw wc f s n d u) (hb : Below u.heap.size u v) (hz : b + 1 < u.heap.size) : LawBox b nodes faulty skew jitter drift R frame sa la wa ns sc nl lc nw wc f s n d v := by
  obtain ⟨k0, k1, k2, k3, k4, k5, k6, k7, k8, k9, k10, k11, k12, k13⟩ := h
  exact ⟨(hb.cell (p := ⟨b, 0, none⟩) (by show b < u.heap.size; omega)).trans k0, (hb.cell (p := ⟨b, 1, none⟩) (by show b < u.heap.size; omega)).trans k1, (hb.cell (p := ⟨b, 2, none⟩) (by show b < u.heap.size; omega)).trans k2, (hb.cell (p := ⟨b, 3, none⟩) (by show b < u.heap.size; omega)).trans k3, (hb.cell (p := ⟨b, 4, none⟩) (by show b < u.heap.size; omega)).trans k4, (hb.cell (p := ⟨b, 5, none⟩) (by show b < u.heap.size; omega)).trans k5, (hb.cell (p := ⟨b, 6, none⟩) (by show b < u.heap.size; omega)).trans k6, (hb.cell (p := ⟨b, 7, none⟩) (by show b < u.heap.size; omega)).trans k7, (hb.cell (p := ⟨b, 8, none⟩) (by show b < u.heap.size; omega)).trans k8, (hb.cell (p := ⟨b, 9, none⟩) (by show b < u.heap.size; omega)).trans k9, (hb.cell (p := ⟨b + 1, 0, none⟩) (by show b + 1 < u.heap.size; omega)).trans k10, (hb.cell (p := ⟨b + 1, 1, none⟩) (by show b + 1 < u.heap.size; omega)).trans k11, (hb.cell (p := ⟨b + 1, 2, none⟩) (by show b + 1 < u.heap.size; omega)).trans k12, (hb.cell (p := ⟨b + 1, 3, none⟩) (by show b + 1 < u.heap.size; omega)).trans k13⟩
theorem ne_block {a b i j : Nat} (h : b ≠ a) : (⟨a, i, none⟩ : Addr) ≠ ⟨b, j, none⟩ := fun e => h (congrArg Addr.block e).symm
theorem LawBox.set {b : Nat} {nodes faulty skew jitter drift R frame : Int} {sa la wa : Option Addr} {ns sc nl lc nw wc : Nat} {f s n d : Int} {u : World} {c : Nat} {x y : Value} (h : LawBox b nodes faulty skew jitter drift R frame sa la wa ns sc nl lc nw wc f s n d u) (hz : b + 1 < c) : LawBox b nodes faulty skew jitter drift R frame sa la wa ns sc nl lc nw wc f s n d ((u.setCell ⟨c, 0, none⟩ x).setCell ⟨c, 1, none⟩ y) := by
  obtain ⟨k0, k1, k2, k3, k4, k5, k6, k7, k8, k9, k10, k11, k12, k13⟩ := h
  exact ⟨by rw [World.cell?_setCell_other _ _ _ _ (ne_block (by omega)), World.cell?_setCell_other _ _ _ _ (ne_block (by omega))]; exact k0, by rw [World.cell?_setCell_other _ _ _ _ (ne_block (by omega)), World.cell?_setCell_other _ _ _ _ (ne_block (by omega))]; exact k1, by rw [World.cell?_setCell_other _ _ _ _ (ne_block (by omega)), World.cell?_setCell_other _ _ _ _ (ne_block (by omega))]; exact k2, by rw [World.cell?_setCell_other _ _ _ _ (ne_block (by omega)), World.cell?_setCell_other _ _ _ _ (ne_block (by omega))]; exact k3, by rw [World.cell?_setCell_other _ _ _ _ (ne_block (by omega)), World.cell?_setCell_other _ _ _ _ (ne_block (by omega))]; exact k4, by rw [World.cell?_setCell_other _ _ _ _ (ne_block (by omega)), World.cell?_setCell_other _ _ _ _ (ne_block (by omega))]; exact k5, by rw [World.cell?_setCell_other _ _ _ _ (ne_block (by omega)), World.cell?_setCell_other _ _ _ _ (ne_block (by omega))]; exact k6, by rw [World.cell?_setCell_other _ _ _ _ (ne_block (by omega)), World.cell?_setCell_other _ _ _ _ (ne_block (by omega))]; exact k7, by rw [World.cell?_setCell_other _ _ _ _ (ne_block (by omega)), World.cell?_setCell_other _ _ _ _ (ne_block (by omega))]; exact k8, by rw [World.cell?_setCell_other _ _ _ _ (ne_block (by omega)), World.cell?_setCell_other _ _ _ _ (ne_block (by omega))]; exact k9, by rw [World.cell?_setCell_other _ _ _ _ (ne_block (by omega)), World.cell?_setCell_other _ _ _ _ (ne_block (by omega))]; exact k10, by rw [World.cell?_setCell_other _ _ _ _ (ne_block (by omega)), World.cell?_setCell_other _ _ _ _ (ne_block (by omega))]; exact k11, by rw [World.cell?_setCell_other _ _ _ _ (ne_block (by omega)), World.cell?_setCell_other _ _ _ _ (ne_block (by omega))]; exact k12, by rw [World.cell?_setCell_other _ _ _ _ (ne_block (by omega)), World.cell?_setCell_other _ _ _ _ (ne_block (by omega))]; exact k13⟩
theorem lawBox_new (nodes faulty skew jitter drift R frame : Int) (sa la wa : Option Addr) (ns sc nl lc nw wc : Nat) (f s n d : Int) (t1 t2 : TypeId) (w : World) : LawBox w.heap.size nodes faulty skew jitter drift R frame sa la wa ns sc nl lc nw wc f s n d ((w.alloc (.cells #[.int .i64 nodes, .int .i64 faulty, .int .i64 skew, .int .i64 jitter, .int .i64 drift, .int .i64 R, .slice sa ns sc, .slice la nl lc, .int .i64 frame, .slice wa nw wc] t1)).alloc (.cells #[.int .i64 f, .int .i64 s, .int .i64 n, .int .i64 d] t2)) :=
  ⟨by rw [World.cell?_alloc_lt _ _ _ (by simp)]; exact onew_cell (cs := #[.int .i64 nodes, .int .i64 faulty, .int .i64 skew, .int .i64 jitter, .int .i64 drift, .int .i64 R, .slice sa ns sc, .slice la nl lc, .int .i64 frame, .slice wa nw wc]) (i := 0) rfl, by rw [World.cell?_alloc_lt _ _ _ (by simp)]; exact onew_cell (cs := #[.int .i64 nodes, .int .i64 faulty, .int .i64 skew, .int .i64 jitter, .int .i64 drift, .int .i64 R, .slice sa ns sc, .slice la nl lc, .int .i64 frame, .slice wa nw wc]) (i := 1) rfl, by rw [World.cell?_alloc_lt _ _ _ (by simp)]; exact onew_cell (cs := #[.int .i64 nodes, .int .i64 faulty, .int .i64 skew, .int .i64 jitter, .int .i64 drift, .int .i64 R, .slice sa ns sc, .slice la nl lc, .int .i64 frame, .slice wa nw wc]) (i := 2) rfl, by rw [World.cell?_alloc_lt _ _ _ (by simp)]; exact onew_cell (cs := #[.int .i64 nodes, .int .i64 faulty, .int .i64 skew, .int .i64 jitter, .int .i64 drift, .int .i64 R, .slice sa ns sc, .slice la nl lc, .int .i64 frame, .slice wa nw wc]) (i := 3) rfl, by rw [World.cell?_alloc_lt _ _ _ (by simp)]; exact onew_cell (cs := #[.int .i64 nodes, .int .i64 faulty, .int .i64 skew, .int .i64 jitter, .int .i64 drift, .int .i64 R, .slice sa ns sc, .slice la nl lc, .int .i64 frame, .slice wa nw wc]) (i := 4) rfl, by rw [World.cell?_alloc_lt _ _ _ (by simp)]; exact onew_cell (cs := #[.int .i64 nodes, .int .i64 faulty, .int .i64 skew, .int .i64 jitter, .int .i64 drift, .int .i64 R, .slice sa ns sc, .slice la nl lc, .int .i64 frame, .slice wa nw wc]) (i := 5) rfl, by rw [World.cell?_alloc_lt _ _ _ (by simp)]; exact onew_cell (cs := #[.int .i64 nodes, .int .i64 faulty, .int .i64 skew, .int .i64 jitter, .int .i64 drift, .int .i64 R, .slice sa ns sc, .slice la nl lc, .int .i64 frame, .slice wa nw wc]) (i := 6) rfl, by rw [World.cell?_alloc_lt _ _ _ (by simp)]; exact onew_cell (cs := #[.int .i64 nodes, .int .i64 faulty, .int .i64 skew, .int .i64 jitter, .int .i64 drift, .int .i64 R, .slice sa ns sc, .slice la nl lc, .int .i64 frame, .slice wa nw wc]) (i := 7) rfl, by rw [World.cell?_alloc_lt _ _ _ (by simp)]; exact onew_cell (cs := #[.int .i64 nodes, .int .i64 faulty, .int .i64 skew, .int .i64 jitter, .int .i64 drift, .int .i64 R, .slice sa ns sc, .slice la nl lc, .int .i64 frame, .slice wa nw wc]) (i := 8) rfl, by rw [World.cell?_alloc_lt _ _ _ (by simp)]; exact onew_cell (cs := #[.int .i64 nodes, .int .i64 faulty, .int .i64 skew, .int .i64 jitter, .int .i64 drift, .int .i64 R, .slice sa ns sc, .slice la nl lc, .int .i64 frame, .slice wa nw wc]) (i := 9) rfl, by
    have := onew_cell (w := w.alloc (.cells #[.int .i64 nodes, .int .i64 faulty, .int .i64 skew, .int .i64 jitter, .int .i64 drift, .int .i64 R, .slice sa ns sc, .slice la nl lc, .int .i64 frame, .slice wa nw wc] t1)) (t := t2) (cs := #[.int .i64 f, .int .i64 s, .int .i64 n, .int .i64 d]) (i := 0) rfl
    rwa [World.size_alloc] at this, by
    have := onew_cell (w := w.alloc (.cells #[.int .i64 nodes, .int .i64 faulty, .int .i64 skew, .int .i64 jitter, .int .i64 drift, .int .i64 R, .slice sa ns sc, .slice la nl lc, .int .i64 frame, .slice wa nw wc] t1)) (t := t2) (cs := #[.int .i64 f, .int .i64 s, .int .i64 n, .int .i64 d]) (i := 1) rfl
    rwa [World.size_alloc] at this, by
    have := onew_cell (w := w.alloc (.cells #[.int .i64 nodes, .int .i64 faulty, .int .i64 skew, .int .i64 jitter, .int .i64 drift, .int .i64 R, .slice sa ns sc, .slice la nl lc, .int .i64 frame, .slice wa nw wc] t1)) (t := t2) (cs := #[.int .i64 f, .int .i64 s, .int .i64 n, .int .i64 d]) (i := 2) rfl
    rwa [World.size_alloc] at this, by
    have := onew_cell (w := w.alloc (.cells #[.int .i64 nodes, .int .i64 faulty, .int .i64 skew, .int .i64 jitter, .int .i64 drift, .int .i64 R, .slice sa ns sc, .slice la nl lc, .int .i64 frame, .slice wa nw wc] t1)) (t := t2) (cs := #[.int .i64 f, .int .i64 s, .int .i64 n, .int .i64 d]) (i := 3) rfl
    rwa [World.size_alloc] at this⟩
theorem undrewG {V u : World} (h : Below V.drew.heap.size V.drew u) : Below V.heap.size V u := ⟨h.os, h.tape, h.output, h.size, h.block⟩
theorem bare_errV (e : Int) : BareSays (errV e) e := by
  by_cases h : e = 0
  · subst h; exact bare_nil
  · rw [errV_some h]; exact bare_e e

set_option maxRecDepth 100000 in
set_option maxHeartbeats 2000000 in
theorem go_great (nodes faulty skew jitter drift R frame : Int) (sa la wa : Option Addr) (ns sc nl lc nw wc : Nat) (f s n d round slot : Int) (w : World) (h1 : ∀ u : World, Calls Tryd.prog 18 #[.agg #[.int .i64 nodes, .int .i64 faulty, .int .i64 skew, .int .i64 jitter, .int .i64 drift, .int .i64 R, .slice sa ns sc, .slice la nl lc, .int .i64 frame, .slice wa nw wc]] u fun ev w' => ev = .returned (.bool false) ∧ Below u.heap.size u w') :
    Calls Tryd.prog 6 #[.agg #[.int .i64 nodes, .int .i64 faulty, .int .i64 skew, .int .i64 jitter, .int .i64 drift, .int .i64 R, .slice sa ns sc, .slice la nl lc, .int .i64 frame, .slice wa nw wc], .agg #[.int .i64 f, .int .i64 s, .int .i64 n, .int .i64 d], .int .i64 round, .int .i64 slot] w fun ev w' => ev = .returned (.bool true) ∧ Below w.heap.size w w' := by
  go_enter Tryd.func6, Tryd.ntmps6
  go_wp2_with fail
  refine (h1 _).mono ?_
  rintro e w1 ⟨rfl, hb1⟩
  go_wp2
  go_ret
  exact ⟨rfl, two_new.trans (hb1.mono (by simp; omega))⟩

set_option maxRecDepth 100000 in
set_option maxHeartbeats 4000000 in
theorem go_walk (nodes faulty skew jitter drift R frame : Int) (sa la wa : Option Addr) (ns sc nl lc nw wc : Nat) (f s n d round slot : Int) (w : World) (hT : Told w) (x y e : Int) (E : Value) (hB : BareSays E e)
    (h1 : ∀ u : World, Calls Tryd.prog 18 #[.agg #[.int .i64 nodes, .int .i64 faulty, .int .i64 skew, .int .i64 jitter, .int .i64 drift, .int .i64 R, .slice sa ns sc, .slice la nl lc, .int .i64 frame, .slice wa nw wc]] u fun ev w' => ev = .returned (.bool true) ∧ Below u.heap.size u w')
    (h2 : ∀ u : World, Below w.heap.size w u → Calls Tryd.prog 19 #[.agg #[.int .i64 nodes, .int .i64 faulty, .int .i64 skew, .int .i64 jitter, .int .i64 drift, .int .i64 R, .slice sa ns sc, .slice la nl lc, .int .i64 frame, .slice wa nw wc], .agg #[.int .i64 f, .int .i64 s, .int .i64 n, .int .i64 d], .int .i64 round, .int .i64 slot] u fun ev w' => ev = .returned (.tuple #[.agg #[.int .i64 x, .int .i64 y], .int .i64 e]) ∧ Below u.heap.size u w')
    (h3 : ∀ u : World, Below w.heap.size w u → Calls Tryd.prog 21 #[.agg #[.int .i64 nodes, .int .i64 faulty, .int .i64 skew, .int .i64 jitter, .int .i64 drift, .int .i64 R, .slice sa ns sc, .slice la nl lc, .int .i64 frame, .slice wa nw wc, .int .i64 f, .int .i64 s, .int .i64 n, .int .i64 d, .int .i64 0], .int .i64 round, .int .i64 slot] u fun ev w' => ev = .returned (.tuple #[.agg #[.int .i64 x, .int .i64 y], E]) ∧ Below u.heap.size u w') :
    Calls Tryd.prog 6 #[.agg #[.int .i64 nodes, .int .i64 faulty, .int .i64 skew, .int .i64 jitter, .int .i64 drift, .int .i64 R, .slice sa ns sc, .slice la nl lc, .int .i64 frame, .slice wa nw wc], .agg #[.int .i64 f, .int .i64 s, .int .i64 n, .int .i64 d], .int .i64 round, .int .i64 slot] w fun ev w' => ev = .returned (.bool true) ∧ Below w.heap.size w w' := by
  have H2 : Hid (∀ u : World, Below w.heap.size w u → Calls Tryd.prog 19 #[.agg #[.int .i64 nodes, .int .i64 faulty, .int .i64 skew, .int .i64 jitter, .int .i64 drift, .int .i64 R, .slice sa ns sc, .slice la nl lc, .int .i64 frame, .slice wa nw wc], .agg #[.int .i64 f, .int .i64 s, .int .i64 n, .int .i64 d], .int .i64 round, .int .i64 slot] u fun ev w' => ev = .returned (.tuple #[.agg #[.int .i64 x, .int .i64 y], .int .i64 e]) ∧ Below u.heap.size u w') := h2
  have H3 : Hid (∀ u : World, Below w.heap.size w u → Calls Tryd.prog 21 #[.agg #[.int .i64 nodes, .int .i64 faulty, .int .i64 skew, .int .i64 jitter, .int .i64 drift, .int .i64 R, .slice sa ns sc, .slice la nl lc, .int .i64 frame, .slice wa nw wc, .int .i64 f, .int .i64 s, .int .i64 n, .int .i64 d, .int .i64 0], .int .i64 round, .int .i64 slot] u fun ev w' => ev = .returned (.tuple #[.agg #[.int .i64 x, .int .i64 y], E]) ∧ Below u.heap.size u w') := h3
  clear h2 h3
  obtain ⟨V, hVe⟩ : ∃ V, V = (w.alloc (.cells #[.int .i64 nodes, .int .i64 faulty, .int .i64 skew, .int .i64 jitter, .int .i64 drift, .int .i64 R, .slice sa ns sc, .slice la nl lc, .int .i64 frame, .slice wa nw wc] 51)).alloc (.cells #[.int .i64 f, .int .i64 s, .int .i64 n, .int .i64 d] 53) := ⟨_, rfl⟩
  have hV : Below w.heap.size w V := by rw [hVe]; exact two_new
  have HB : Hid (LawBox w.heap.size nodes faulty skew jitter drift R frame sa la wa ns sc nl lc nw wc f s n d V) := by rw [hVe]; exact lawBox_new nodes faulty skew jitter drift R frame sa la wa ns sc nl lc nw wc f s n d _ _ w
  have hVs : V.heap.size = w.heap.size + 2 := by rw [hVe]; simp
  have hv1 := h1 V
  clear h1
  go_enter Tryd.func6, Tryd.ntmps6
  go_wp2_with fail
  rw [← hVe]
  clear hVe
  refine hv1.mono ?_
  rintro ev w1 ⟨rfl, hb1⟩
  have hs1 := hb1.size
  have hB1 : Below w.heap.size w w1 := hV.trans (hb1.mono hV.size)
  have HB1 : Hid (LawBox w.heap.size nodes faulty skew jitter drift R frame sa la wa ns sc nl lc nw wc f s n d w1) := HB.out.below hb1 (by omega)
  clear hv1 hb1 HB
  obtain ⟨k0, k1, k2, k3, k4, k5, k6, k7, k8, k9, k10, k11, k12, k13⟩ := HB1.out
  have hl0 : w.heap.size < w1.heap.size := by omega
  have hl1 : w.heap.size + 1 < w1.heap.size := by omega
  go_wp2_with fail
  go_region_held3 (fun u => u.cell? ⟨w.heap.size, 0, none⟩ = some (.int .i64 nodes) ∧ u.cell? ⟨w.heap.size, 1, none⟩ = some (.int .i64 faulty) ∧ u.cell? ⟨w.heap.size, 2, none⟩ = some (.int .i64 skew) ∧ u.cell? ⟨w.heap.size, 3, none⟩ = some (.int .i64 jitter) ∧ u.cell? ⟨w.heap.size, 4, none⟩ = some (.int .i64 drift) ∧ u.cell? ⟨w.heap.size, 5, none⟩ = some (.int .i64 R) ∧ u.cell? ⟨w.heap.size, 6, none⟩ = some (.slice sa ns sc) ∧ u.cell? ⟨w.heap.size, 7, none⟩ = some (.slice la nl lc) ∧ u.cell? ⟨w.heap.size, 8, none⟩ = some (.int .i64 frame) ∧ u.cell? ⟨w.heap.size, 9, none⟩ = some (.slice wa nw wc) ∧ u.cell? ⟨w.heap.size + 1, 0, none⟩ = some (.int .i64 f) ∧ u.cell? ⟨w.heap.size + 1, 1, none⟩ = some (.int .i64 s) ∧ u.cell? ⟨w.heap.size + 1, 2, none⟩ = some (.int .i64 n) ∧ u.cell? ⟨w.heap.size + 1, 3, none⟩ = some (.int .i64 d)) (go_keep) (first
    | (go_at_call 20; refine (clock_any _ _ _ _ _).mono ?_; rintro ev u1 ⟨rfl, hu1⟩; have hx1 : Below w1.heap.size w1 u1 := undrewG hu1; have HB2 : Hid (LawBox w.heap.size nodes faulty skew jitter drift R frame sa la wa ns sc nl lc nw wc f s n d u1) := HB1.out.below hx1 (by omega); have hB2 : Below w.heap.size w u1 := hB1.trans (hx1.mono hB1.size); obtain ⟨j0, j1, j2, j3, j4, j5, j6, j7, j8, j9, j10, j11, j12, j13⟩ := HB2.out; have hs2 := hx1.size; have n0 : w.heap.size ≠ u1.heap.size := (by omega); have nr0 : u1.heap.size ≠ w.heap.size := (by omega); have n1 : w.heap.size + 1 ≠ u1.heap.size := (by omega); have nr1 : u1.heap.size ≠ w.heap.size + 1 := (by omega))
    | (go_at_call 20; refine (clock_any _ _ _ _ _).mono ?_; rintro ev u1 ⟨rfl, hu1⟩; have hx1 : Below w1.heap.size w1 u1 := undrewG (below_box hu1); have HO1 : Hid (Ends w1.heap.size 0 0 u1) := (ends_new (w := w1.drew) (t := 56) (x := 0) (y := 0)).below hu1; have HB2 : Hid (LawBox w.heap.size nodes faulty skew jitter drift R frame sa la wa ns sc nl lc nw wc f s n d u1) := HB1.out.below hx1 (by omega); have hB2 : Below w.heap.size w u1 := hB1.trans (hx1.mono hB1.size); obtain ⟨j0, j1, j2, j3, j4, j5, j6, j7, j8, j9, j10, j11, j12, j13⟩ := HB2.out; have hs2 := hx1.size; have n0 : w.heap.size ≠ u1.heap.size := (by omega); have nr0 : u1.heap.size ≠ w.heap.size := (by omega); have n1 : w.heap.size + 1 ≠ u1.heap.size := (by omega); have nr1 : u1.heap.size ≠ w.heap.size + 1 := (by omega); have z0 : w.heap.size ≠ w1.heap.size := (by omega); have zr0 : w1.heap.size ≠ w.heap.size := (by omega); have z1 : w.heap.size + 1 ≠ w1.heap.size := (by omega); have zr1 : w1.heap.size ≠ w.heap.size + 1 := (by omega))
    | (go_at_call 19; refine (H2.out _ hB2).mono ?_; rintro ev u2 ⟨rfl, hu2⟩; have hu3 : Below u1.heap.size u1 u2 := hu2; have HB3 : Hid (LawBox w.heap.size nodes faulty skew jitter drift R frame sa la wa ns sc nl lc nw wc f s n d u2) := HB2.out.below hu3 (by omega); have hB3 : Below w.heap.size w u2 := hB2.trans (hu3.mono hB2.size); have hs3 := hu3.size; have m0 : w.heap.size ≠ u2.heap.size := (by omega); have mr0 : u2.heap.size ≠ w.heap.size := (by omega); have m1 : w.heap.size + 1 ≠ u2.heap.size := (by omega); have mr1 : u2.heap.size ≠ w.heap.size + 1 := (by omega); obtain ⟨l0, l1, l2, l3, l4, l5, l6, l7, l8, l9, l10, l11, l12, l13⟩ := HB3.out; try (obtain ⟨o0, o1, o2, o3, o4⟩ := HO1.out.below hu2))
    | (go_at_call 19; refine (H2.out (u1.alloc _) (hB2.alloc (by omega) _)).mono ?_; rintro ev u2 ⟨rfl, hu2⟩; have hu3 : Below u1.heap.size u1 u2 := below_box hu2; have HB3 : Hid (LawBox w.heap.size nodes faulty skew jitter drift R frame sa la wa ns sc nl lc nw wc f s n d u2) := HB2.out.below hu3 (by omega); have hB3 : Below w.heap.size w u2 := hB2.trans (hu3.mono hB2.size); have hs3 := hu3.size; have m0 : w.heap.size ≠ u2.heap.size := (by omega); have mr0 : u2.heap.size ≠ w.heap.size := (by omega); have m1 : w.heap.size + 1 ≠ u2.heap.size := (by omega); have mr1 : u2.heap.size ≠ w.heap.size + 1 := (by omega); obtain ⟨l0, l1, l2, l3, l4, l5, l6, l7, l8, l9, l10, l11, l12, l13⟩ := HB3.out; obtain ⟨o0, o1, o2, o3, o4⟩ := (ends_new (w := u1) (t := 56) (x := 0) (y := 0)).below hu2))
  · obtain ⟨Z, hZe⟩ : ∃ Z, Z = u2.alloc (.cells #[.int .i64 x, .int .i64 y] 56) := ⟨_, rfl⟩
    have hZ : Below w.heap.size w Z := by rw [hZe]; exact hB3.alloc (by omega) _
    have HBZ : Hid (LawBox w.heap.size nodes faulty skew jitter drift R frame sa la wa ns sc nl lc nw wc f s n d Z) := by rw [hZe]; exact HB3.out.below ((Below.refl _ _).alloc (Nat.le_refl _) _) (by omega)
    have HZE : Hid (Ends u2.heap.size x y Z) := by rw [hZe]; exact ends_new
    have hZs : w.heap.size + 2 ≤ Z.heap.size := by rw [hZe]; simp; omega
    rw [← hZe]
    clear hZe
    obtain ⟨y0, y1, y2, y3, y4⟩ := HZE.out
    obtain ⟨g0, g1, g2, g3, g4, g5, g6, g7, g8, g9, g10, g11, g12, g13⟩ := HBZ.out
    have hz0 : w.heap.size < Z.heap.size := by omega
    have hz1 : w.heap.size + 1 < Z.heap.size := by omega
    clear H2
    go_wp2_with fail
    refine (H3.out _ ?_).mono ?_
    · first
        | exact hZ
        | exact hZ.alloc (by omega) _
    rintro ev w4 ⟨rfl, hb4⟩
    have hZ4 : Below Z.heap.size Z w4 := by first | exact hb4 | exact below_box hb4
    have h4 : Below w.heap.size w w4 := hZ.trans (hZ4.mono hZ.size)
    have hs4 := hZ4.size
    have hw4 := h4.size
    have hT4 : Told w4 := hT.below h4
    clear g0 g1 g2 g3 g4 g5 g6 g7 g8 g9 g10 g11 g12 g13 y0 y1 y2 y3 y4
    obtain ⟨y0, y1, y2, y3, y4⟩ := HZE.out.below hZ4
    go_wp2_with fail
    refine (hB _ (hT4.alloc _)).mono ?_
    rintro ev w5 ⟨rfl, hb5⟩
    have hA5 : Below w4.heap.size w4 w5 := below_box hb5
    have h5 : Below w.heap.size w w5 := h4.trans (hA5.mono h4.size)
    obtain ⟨v0, v1, v2, v3, v4⟩ := (ends_new (w := w4) (t := 56) (x := x) (y := y)).below hb5
    replace y0 := (hA5.cell y4).trans y0
    replace y1 := (hA5.cell y4).trans y1
    go_wp2
    go_ret
    exact ⟨rfl, h5⟩
  · obtain ⟨Z, hZe⟩ : ∃ Z, Z = (u2.setCell ⟨u1.heap.size, 0, none⟩ (.int .i64 x)).setCell ⟨u1.heap.size, 1, none⟩ (.int .i64 y) := ⟨_, rfl⟩
    have hZ : Below w.heap.size w Z := by rw [hZe]; exact (hB3.setCell (p := ⟨u1.heap.size, 0, none⟩) (by show w.heap.size ≤ u1.heap.size; omega) _).setCell (p := ⟨u1.heap.size, 1, none⟩) (by show w.heap.size ≤ u1.heap.size; omega) _
    have HBZ : Hid (LawBox w.heap.size nodes faulty skew jitter drift R frame sa la wa ns sc nl lc nw wc f s n d Z) := by rw [hZe]; exact HB3.out.set (by omega)
    have HZE : Hid (Ends u1.heap.size x y Z) := by rw [hZe]; exact (Ends.set1 (Ends.set0 (⟨o0, o1, o2, o3, o4⟩ : Ends u1.heap.size 0 0 u2) rfl) rfl)
    have hZs : w.heap.size + 2 ≤ Z.heap.size := by rw [hZe]; simp; omega
    rw [← hZe]
    clear hZe
    obtain ⟨y0, y1, y2, y3, y4⟩ := HZE.out
    obtain ⟨g0, g1, g2, g3, g4, g5, g6, g7, g8, g9, g10, g11, g12, g13⟩ := HBZ.out
    have hz0 : w.heap.size < Z.heap.size := by omega
    have hz1 : w.heap.size + 1 < Z.heap.size := by omega
    clear H2
    go_wp2_with fail
    refine (H3.out _ ?_).mono ?_
    · first
        | exact hZ
        | exact hZ.alloc (by omega) _
    rintro ev w4 ⟨rfl, hb4⟩
    have hZ4 : Below Z.heap.size Z w4 := by first | exact hb4 | exact below_box hb4
    have h4 : Below w.heap.size w w4 := hZ.trans (hZ4.mono hZ.size)
    have hs4 := hZ4.size
    have hw4 := h4.size
    have hT4 : Told w4 := hT.below h4
    clear g0 g1 g2 g3 g4 g5 g6 g7 g8 g9 g10 g11 g12 g13 y0 y1 y2 y3 y4
    obtain ⟨y0, y1, y2, y3, y4⟩ := HZE.out.below hZ4
    go_wp2_with fail
    refine (hB _ (hT4.alloc _)).mono ?_
    rintro ev w5 ⟨rfl, hb5⟩
    have hA5 : Below w4.heap.size w4 w5 := below_box hb5
    have h5 : Below w.heap.size w w5 := h4.trans (hA5.mono h4.size)
    obtain ⟨v0, v1, v2, v3, v4⟩ := (ends_new (w := w4) (t := 56) (x := x) (y := y)).below hb5
    replace y0 := (hA5.cell y4).trans y0
    replace y1 := (hA5.cell y4).trans y1
    go_wp2
    go_ret
    exact ⟨rfl, h5⟩
  · obtain ⟨Z, hZe⟩ : ∃ Z, Z = (u2.setCell ⟨w1.heap.size, 0, none⟩ (.int .i64 x)).setCell ⟨w1.heap.size, 1, none⟩ (.int .i64 y) := ⟨_, rfl⟩
    have hZ : Below w.heap.size w Z := by rw [hZe]; exact (hB3.setCell (p := ⟨w1.heap.size, 0, none⟩) (by show w.heap.size ≤ w1.heap.size; omega) _).setCell (p := ⟨w1.heap.size, 1, none⟩) (by show w.heap.size ≤ w1.heap.size; omega) _
    have HBZ : Hid (LawBox w.heap.size nodes faulty skew jitter drift R frame sa la wa ns sc nl lc nw wc f s n d Z) := by rw [hZe]; exact HB3.out.set (by omega)
    have HZE : Hid (Ends w1.heap.size x y Z) := by rw [hZe]; exact (Ends.set1 (Ends.set0 (⟨o0, o1, o2, o3, o4⟩ : Ends w1.heap.size 0 0 u2) rfl) rfl)
    have hZs : w.heap.size + 2 ≤ Z.heap.size := by rw [hZe]; simp; omega
    rw [← hZe]
    clear hZe
    obtain ⟨y0, y1, y2, y3, y4⟩ := HZE.out
    obtain ⟨g0, g1, g2, g3, g4, g5, g6, g7, g8, g9, g10, g11, g12, g13⟩ := HBZ.out
    have hz0 : w.heap.size < Z.heap.size := by omega
    have hz1 : w.heap.size + 1 < Z.heap.size := by omega
    clear H2
    go_wp2_with fail
    refine (H3.out _ ?_).mono ?_
    · first
        | exact hZ
        | exact hZ.alloc (by omega) _
    rintro ev w4 ⟨rfl, hb4⟩
    have hZ4 : Below Z.heap.size Z w4 := by first | exact hb4 | exact below_box hb4
    have h4 : Below w.heap.size w w4 := hZ.trans (hZ4.mono hZ.size)
    have hs4 := hZ4.size
    have hw4 := h4.size
    have hT4 : Told w4 := hT.below h4
    clear g0 g1 g2 g3 g4 g5 g6 g7 g8 g9 g10 g11 g12 g13 y0 y1 y2 y3 y4
    obtain ⟨y0, y1, y2, y3, y4⟩ := HZE.out.below hZ4
    go_wp2_with fail
    refine (hB _ (hT4.alloc _)).mono ?_
    rintro ev w5 ⟨rfl, hb5⟩
    have hA5 : Below w4.heap.size w4 w5 := below_box hb5
    have h5 : Below w.heap.size w w5 := h4.trans (hA5.mono h4.size)
    obtain ⟨v0, v1, v2, v3, v4⟩ := (ends_new (w := w4) (t := 56) (x := x) (y := y)).below hb5
    replace y0 := (hA5.cell y4).trans y0
    replace y1 := (hA5.cell y4).trans y1
    go_wp2
    go_ret
    exact ⟨rfl, h5⟩

/-- GuardOpens answers true, whatever it is asked. -/
theorem go_any (nodes faulty skew jitter drift R frame : Int) (sa la wa : Option Addr) (ns sc nl lc nw wc : Nat) (f s n d round slot : Int) (w : World) (nd fr tt : Nat → Int) (hs : Rows3 w sa ns nd fr tt) (hns : ns ≤ 9223372036854775807) (hT : Told w) :
    Calls Tryd.prog 6 #[.agg #[.int .i64 nodes, .int .i64 faulty, .int .i64 skew, .int .i64 jitter, .int .i64 drift, .int .i64 R, .slice sa ns sc, .slice la nl lc, .int .i64 frame, .slice wa nw wc], .agg #[.int .i64 f, .int .i64 s, .int .i64 n, .int .i64 d], .int .i64 round, .int .i64 slot] w fun ev w' => ev = .returned (.bool true) ∧ Below w.heap.size w w' := by
  have hsm := fun u => small_any nodes faulty skew jitter drift R frame sa la wa ns sc nl lc nw wc u
  cases h : smallB ns nl nw
  · rw [h] at hsm
    exact go_great nodes faulty skew jitter drift R frame sa la wa ns sc nl lc nw wc f s n d round slot w hsm
  · rw [h] at hsm
    exact go_walk nodes faulty skew jitter drift R frame sa la wa ns sc nl lc nw wc f s n d round slot w hT _ _ _ _ (bare_errV _) hsm
      (fun u hu => refOpens_any nodes faulty skew jitter drift R frame sa la wa ns sc nl lc nw wc f s n d round slot u hns nd fr tt (hs.below hu))
      (fun u hu => gopens_any nodes faulty skew jitter drift R frame sa la wa ns sc nl lc nw wc f s n d 0 round slot u hns nd fr tt (hs.below hu))
end Go.Proofs.YtpefdjdebglafabDoor
