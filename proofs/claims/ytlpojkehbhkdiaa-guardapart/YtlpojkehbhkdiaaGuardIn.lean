/- The program's passesIn and Passes, whatever they are asked; new memory alone is made. (Made by tools/gen_guardpasses.py.) -/
import Derived.Test.YtlpojkehbhkdiaaGuardOpensP
import Derived.Test.YtlpojkehbhkdiaaPassWords
import Derived.Test.YtlpojkehbhkdiaaTicksCommon
import Derived.Test.YtlpojkehbhkdiaaTicksMeet
namespace Go.Proofs.Ytlpojkehbhkdiaa
open Go.RowKit

/-- Whether something goes through in a slot of one round. -/
def hitR (f s n d : Int) (ns : Nat) (nd fr tt : Nat → Int) (R node p q round : Int) (i : Nat) : Bool :=
  decide (nd i = node) && decide (openE f s n d ns fr tt R round i = 0) && comB (openF f s n d ns fr tt R round i) (openT f s n d ns fr tt R round i) p q
/-- The first one, slot by slot, or none. -/
def InHit (hit : Nat → Bool) (ns : Nat) : Option Nat → Prop
  | none => ∀ i, i < ns → hit i = false
  | some i => i < ns ∧ hit i = true ∧ ∀ i', i' < i → hit i' = false
theorem InHit.one {hit : Nat → Bool} {ns : Nat} {r : Option Nat} (h : InHit hit ns r) {i : Nat} (hi : i < ns) (ht : hit i = true) (h2 : ∀ i', i' < i → hit i' = false) : r = some i := by
  rcases r with _ | i'
  · have := h i hi
    rw [ht] at this; cases this
  · obtain ⟨g2, g3, g5⟩ := h
    rcases Nat.lt_trichotomy i i' with z | z | z
    · have := g5 i z
      rw [ht] at this; cases this
    · rw [z]
    · have := h2 i' z
      rw [g3] at this; cases this
theorem InHit.no {hit : Nat → Bool} {ns : Nat} {r : Option Nat} (h : InHit hit ns r) (h1 : ∀ i, i < ns → hit i = false) : r = none := by
  rcases r with _ | i'
  · rfl
  · have := h1 i' h.1
    rw [h.2.1] at this; cases this
theorem InHit.any (hit : Nat → Bool) (ns : Nat) : ∃ r, InHit hit ns r := by
  by_cases g : ∃ i, i < ns ∧ hit i = true
  · obtain ⟨i0, g0⟩ := g
    obtain ⟨i, ⟨hi, ht⟩, hm⟩ := least_of (p := fun i => i < ns ∧ hit i = true) i0 g0
    refine ⟨some i, hi, ht, fun i' h1 => ?_⟩
    cases e : hit i'
    · rfl
    · exact absurd ⟨by omega, e⟩ (hm i' h1)
  · refine ⟨none, fun i h2 => ?_⟩
    cases e : hit i
    · rfl
    · exact absurd ⟨i, h2, e⟩ g
def inF (f s n d : Int) (ns : Nat) (fr tt : Nat → Int) (R p q round : Int) : Option Nat → Int
  | none => 0
  | some i => comF (openF f s n d ns fr tt R round i) (openT f s n d ns fr tt R round i) p q
def inT (f s n d : Int) (ns : Nat) (fr tt : Nat → Int) (R p q round : Int) : Option Nat → Int
  | none => 0
  | some i => comT (openF f s n d ns fr tt R round i) (openT f s n d ns fr tt R round i) p q

/-- What lies in its boxes: a guard, a span, and nothing yet in what it answers. -/
def InBox (b : Nat) (nodes faulty skew jitter drift R frame : Int) (sa la wa : Option Addr) (ns sc nl lc nw wc : Nat) (f s n d node : Int) (p q : Int) (u : World) : Prop :=
  GuardBox b nodes faulty skew jitter drift R frame sa la wa ns sc nl lc nw wc f s n d node u ∧ u.cell? ⟨b + 1, 0, none⟩ = some (.int .i64 p) ∧ u.cell? ⟨b + 1, 1, none⟩ = some (.int .i64 q) ∧ u.cell? ⟨b + 1 + 1, 0, none⟩ = some (.int .i64 0) ∧ u.cell? ⟨b + 1 + 1, 1, none⟩ = some (.int .i64 0) ∧ u.frozen? ⟨b + 1 + 1, 0, none⟩ = false ∧ u.frozen? ⟨b + 1 + 1, 1, none⟩ = false
theorem InBox.below {b : Nat} {nodes faulty skew jitter drift R frame : Int} {sa la wa : Option Addr} {ns sc nl lc nw wc : Nat} {f s n d node p q : Int} {u v : World} (h : InBox b nodes faulty skew jitter drift R frame sa la wa ns sc nl lc nw wc f s n d node p q u) (hb : Below u.heap.size u v) (hz : b + 2 < u.heap.size) : InBox b nodes faulty skew jitter drift R frame sa la wa ns sc nl lc nw wc f s n d node p q v :=
  ⟨h.1.below hb (by omega), (hb.cell (p := ⟨b + 1, 0, none⟩) (by show b + 1 < u.heap.size; omega)).trans h.2.1, (hb.cell (p := ⟨b + 1, 1, none⟩) (by show b + 1 < u.heap.size; omega)).trans h.2.2.1, (hb.cell (p := ⟨b + 1 + 1, 0, none⟩) (by show b + 1 + 1 < u.heap.size; omega)).trans h.2.2.2.1, (hb.cell (p := ⟨b + 1 + 1, 1, none⟩) (by show b + 1 + 1 < u.heap.size; omega)).trans h.2.2.2.2.1, (hb.frozen (p := ⟨b + 1 + 1, 0, none⟩) (by show b + 1 + 1 < u.heap.size; omega)).trans h.2.2.2.2.2.1, (hb.frozen (p := ⟨b + 1 + 1, 1, none⟩) (by show b + 1 + 1 < u.heap.size; omega)).trans h.2.2.2.2.2.2⟩
theorem gnew_cell {w : World} {cs : Array Value} {t : TypeId} {i : Nat} {v : Value} (h : cs[i]? = some v) : (w.alloc (.cells cs t)).cell? ⟨w.heap.size, i, none⟩ = some v := by
  simp
  simpa using h
theorem gnew_soft {w : World} {cs : Array Value} {t : TypeId} {i : Nat} : (w.alloc (.cells cs t)).frozen? ⟨w.heap.size, i, none⟩ = false := by
  simp
theorem inBox_new (nodes faulty skew jitter drift R frame : Int) (sa la wa : Option Addr) (ns sc nl lc nw wc : Nat) (f s n d node : Int) (p q : Int) (t1 t2 t3 : TypeId) (w : World) : InBox w.heap.size nodes faulty skew jitter drift R frame sa la wa ns sc nl lc nw wc f s n d node p q (((w.alloc (.cells #[.int .i64 nodes, .int .i64 faulty, .int .i64 skew, .int .i64 jitter, .int .i64 drift, .int .i64 R, .slice sa ns sc, .slice la nl lc, .int .i64 frame, .slice wa nw wc, .int .i64 f, .int .i64 s, .int .i64 n, .int .i64 d, .int .i64 node] t1)).alloc (.cells #[.int .i64 p, .int .i64 q] t2)).alloc (.cells #[.int .i64 0, .int .i64 0] t3)) := by
  refine ⟨(guard_new nodes faulty skew jitter drift R frame sa la wa ns sc nl lc nw wc f s n d node t1 w).below (((Below.refl _ _).alloc (Nat.le_refl _) _).alloc (by simp) _) (by simp), ?_, ?_, ?_, ?_, ?_, ?_⟩
  · rw [World.cell?_alloc_lt _ _ _ (by simp)]
    have := gnew_cell (w := w.alloc (.cells #[.int .i64 nodes, .int .i64 faulty, .int .i64 skew, .int .i64 jitter, .int .i64 drift, .int .i64 R, .slice sa ns sc, .slice la nl lc, .int .i64 frame, .slice wa nw wc, .int .i64 f, .int .i64 s, .int .i64 n, .int .i64 d, .int .i64 node] t1)) (t := t2) (cs := #[.int .i64 p, .int .i64 q]) (i := 0) rfl
    rwa [World.size_alloc] at this
  · rw [World.cell?_alloc_lt _ _ _ (by simp)]
    have := gnew_cell (w := w.alloc (.cells #[.int .i64 nodes, .int .i64 faulty, .int .i64 skew, .int .i64 jitter, .int .i64 drift, .int .i64 R, .slice sa ns sc, .slice la nl lc, .int .i64 frame, .slice wa nw wc, .int .i64 f, .int .i64 s, .int .i64 n, .int .i64 d, .int .i64 node] t1)) (t := t2) (cs := #[.int .i64 p, .int .i64 q]) (i := 1) rfl
    rwa [World.size_alloc] at this
  · have := gnew_cell (w := (w.alloc (.cells #[.int .i64 nodes, .int .i64 faulty, .int .i64 skew, .int .i64 jitter, .int .i64 drift, .int .i64 R, .slice sa ns sc, .slice la nl lc, .int .i64 frame, .slice wa nw wc, .int .i64 f, .int .i64 s, .int .i64 n, .int .i64 d, .int .i64 node] t1)).alloc (.cells #[.int .i64 p, .int .i64 q] t2)) (t := t3) (cs := #[.int .i64 0, .int .i64 0]) (i := 0) rfl
    rwa [World.size_alloc, World.size_alloc] at this
  · have := gnew_cell (w := (w.alloc (.cells #[.int .i64 nodes, .int .i64 faulty, .int .i64 skew, .int .i64 jitter, .int .i64 drift, .int .i64 R, .slice sa ns sc, .slice la nl lc, .int .i64 frame, .slice wa nw wc, .int .i64 f, .int .i64 s, .int .i64 n, .int .i64 d, .int .i64 node] t1)).alloc (.cells #[.int .i64 p, .int .i64 q] t2)) (t := t3) (cs := #[.int .i64 0, .int .i64 0]) (i := 1) rfl
    rwa [World.size_alloc, World.size_alloc] at this
  · have := gnew_soft (w := (w.alloc (.cells #[.int .i64 nodes, .int .i64 faulty, .int .i64 skew, .int .i64 jitter, .int .i64 drift, .int .i64 R, .slice sa ns sc, .slice la nl lc, .int .i64 frame, .slice wa nw wc, .int .i64 f, .int .i64 s, .int .i64 n, .int .i64 d, .int .i64 node] t1)).alloc (.cells #[.int .i64 p, .int .i64 q] t2)) (t := t3) (cs := #[.int .i64 0, .int .i64 0]) (i := 0)
    rwa [World.size_alloc, World.size_alloc] at this
  · have := gnew_soft (w := (w.alloc (.cells #[.int .i64 nodes, .int .i64 faulty, .int .i64 skew, .int .i64 jitter, .int .i64 drift, .int .i64 R, .slice sa ns sc, .slice la nl lc, .int .i64 frame, .slice wa nw wc, .int .i64 f, .int .i64 s, .int .i64 n, .int .i64 d, .int .i64 node] t1)).alloc (.cells #[.int .i64 p, .int .i64 q] t2)) (t := t3) (cs := #[.int .i64 0, .int .i64 0]) (i := 1)
    rwa [World.size_alloc, World.size_alloc] at this

set_option maxRecDepth 100000 in
set_option maxHeartbeats 4000000 in
theorem in_none (nodes faulty skew jitter drift R frame : Int) (sa la wa : Option Addr) (ns sc nl lc nw wc : Nat) (f s n d node : Int) (p q round : Int) (w : World) (hns0 : ns = 0) (nd fr tt : Nat → Int) (r : Option Nat) (hF : InHit (hitR f s n d ns nd fr tt R node p q round) ns r) (G : Ending → World → Prop) (hG : ∀ w', Below w.heap.size w w' → G (.returned (.tuple #[.agg #[.int .i64 (inF f s n d ns fr tt R p q round r), .int .i64 (inT f s n d ns fr tt R p q round r)], .bool r.isSome])) w') :
    Calls Try.prog 21 #[.agg #[.int .i64 nodes, .int .i64 faulty, .int .i64 skew, .int .i64 jitter, .int .i64 drift, .int .i64 R, .slice sa ns sc, .slice la nl lc, .int .i64 frame, .slice wa nw wc, .int .i64 f, .int .i64 s, .int .i64 n, .int .i64 d, .int .i64 node], .int .i64 round, .agg #[.int .i64 p, .int .i64 q]] w G := by
  have HG : Hid _ := hG
  have HF : Hid (InHit (hitR f s n d ns nd fr tt R node p q round) ns r) := hF
  clear hG hF
  obtain ⟨V, hVe⟩ : ∃ V, V = ((w.alloc (.cells #[.int .i64 nodes, .int .i64 faulty, .int .i64 skew, .int .i64 jitter, .int .i64 drift, .int .i64 R, .slice sa ns sc, .slice la nl lc, .int .i64 frame, .slice wa nw wc, .int .i64 f, .int .i64 s, .int .i64 n, .int .i64 d, .int .i64 node] 45)).alloc (.cells #[.int .i64 p, .int .i64 q] 41)).alloc (.cells #[.int .i64 0, .int .i64 0] 41) := ⟨_, rfl⟩
  have hV : Below w.heap.size w V := by rw [hVe]; exact (two_new.alloc (by simp; omega) _)
  have HB : Hid (InBox w.heap.size nodes faulty skew jitter drift R frame sa la wa ns sc nl lc nw wc f s n d node p q V) := by rw [hVe]; exact inBox_new nodes faulty skew jitter drift R frame sa la wa ns sc nl lc nw wc f s n d node p q _ _ _ w
  have hVs : V.heap.size = w.heap.size + 3 := by rw [hVe]; simp
  have HN0 : Hid (ns = 0) := hns0
  clear hns0
  go_enter Try.func21, Try.ntmps21
  go_wp2_with fail
  rw [← hVe]
  clear hVe
  go_loopw [16] (fun t wr => ∃ i : Nat, i ≤ ns ∧ t = .int .i64 i ∧ Hid (∀ i', i' < i → hitR f s n d ns nd fr tt R node p q round i' = false) ∧ Below V.heap.size V wr) (fun t _ => ns - (intOf t).toNat)
  case atStart => exact ⟨0, Nat.zero_le _, rfl, fun i' hi => absurd hi (Nat.not_lt_zero _), Below.refl _ _⟩
  case round =>
    obtain ⟨i, hin, rfl, g0, hbi⟩ := hrel
    obtain ⟨wi, hwie⟩ : ∃ x, x = wr := ⟨wr, rfl⟩
    subst hwie
    have hsi := hbi.size
    have HB2 : Hid (InBox w.heap.size nodes faulty skew jitter drift R frame sa la wa ns sc nl lc nw wc f s n d node p q wi) := HB.out.below hbi (by omega)
    have hwi : Below w.heap.size w wi := hV.trans (hbi.mono hV.size)
    by_cases hil : i < ns
    · exact absurd hil (by rw [HN0.out]; omega)
    · have hie : i = ns := by omega
      subst hie
      obtain rfl : r = none := HF.out.no g0.out
      obtain ⟨_, s0, s1, r0, r1, z0, z1⟩ := HB2.out
      have HGN : Hid (∀ w', Below w.heap.size w w' → G (.returned (.tuple #[.agg #[.int .i64 0, .int .i64 0], .bool false])) w') := HG.out
      clear HG HF HB HB2 g0 s0 s1
      go_wp2
      exact bodyPost_ret (v := .tuple #[.agg #[.int .i64 0, .int .i64 0], .bool false]) (by simp [results, Try.results21, go_sem, r0, r1]) rfl (HGN.out _ ((hwi.setCell (p := ⟨w.heap.size + 1 + 1, 0, none⟩) (by show w.heap.size ≤ w.heap.size + 1 + 1; omega) _).setCell (p := ⟨w.heap.size + 1 + 1, 1, none⟩) (by show w.heap.size ≤ w.heap.size + 1 + 1; omega) _))

set_option maxRecDepth 100000 in
set_option maxHeartbeats 4000000 in
theorem in_some (nodes faulty skew jitter drift R frame : Int) (b off : Nat) (la wa : Option Addr) (ns sc nl lc nw wc : Nat) (f s n d node : Int) (p q round : Int) (w : World) (hns : ns ≤ 9223372036854775807) (nd fr tt : Nat → Int) (hs : Rows3 w (some ⟨b, off, none⟩) ns nd fr tt) (r : Option Nat) (hF : InHit (hitR f s n d ns nd fr tt R node p q round) ns r) (G : Ending → World → Prop) (hG : ∀ w', Below w.heap.size w w' → G (.returned (.tuple #[.agg #[.int .i64 (inF f s n d ns fr tt R p q round r), .int .i64 (inT f s n d ns fr tt R p q round r)], .bool r.isSome])) w') :
    Calls Try.prog 21 #[.agg #[.int .i64 nodes, .int .i64 faulty, .int .i64 skew, .int .i64 jitter, .int .i64 drift, .int .i64 R, .slice (some ⟨b, off, none⟩) ns sc, .slice la nl lc, .int .i64 frame, .slice wa nw wc, .int .i64 f, .int .i64 s, .int .i64 n, .int .i64 d, .int .i64 node], .int .i64 round, .agg #[.int .i64 p, .int .i64 q]] w G := by
  have HG : Hid _ := hG
  have HF : Hid (InHit (hitR f s n d ns nd fr tt R node p q round) ns r) := hF
  clear hG hF
  obtain ⟨V, hVe⟩ : ∃ V, V = ((w.alloc (.cells #[.int .i64 nodes, .int .i64 faulty, .int .i64 skew, .int .i64 jitter, .int .i64 drift, .int .i64 R, .slice (some ⟨b, off, none⟩) ns sc, .slice la nl lc, .int .i64 frame, .slice wa nw wc, .int .i64 f, .int .i64 s, .int .i64 n, .int .i64 d, .int .i64 node] 45)).alloc (.cells #[.int .i64 p, .int .i64 q] 41)).alloc (.cells #[.int .i64 0, .int .i64 0] 41) := ⟨_, rfl⟩
  have hV : Below w.heap.size w V := by rw [hVe]; exact (two_new.alloc (by simp; omega) _)
  have HB : Hid (InBox w.heap.size nodes faulty skew jitter drift R frame (some ⟨b, off, none⟩) la wa ns sc nl lc nw wc f s n d node p q V) := by rw [hVe]; exact inBox_new nodes faulty skew jitter drift R frame (some ⟨b, off, none⟩) la wa ns sc nl lc nw wc f s n d node p q _ _ _ w
  have hVs : V.heap.size = w.heap.size + 3 := by rw [hVe]; simp
  have HS : Hid (Rows3 V (some ⟨b, off, none⟩) ns nd fr tt) := hs.below hV
  clear hs
  have HO : Hid (∀ (i : Nat) (u : World), Below V.heap.size V u → Calls Try.prog 36 #[.agg #[.int .i64 nodes, .int .i64 faulty, .int .i64 skew, .int .i64 jitter, .int .i64 drift, .int .i64 R, .slice (some ⟨b, off, none⟩) ns sc, .slice la nl lc, .int .i64 frame, .slice wa nw wc, .int .i64 f, .int .i64 s, .int .i64 n, .int .i64 d, .int .i64 node], .int .i64 round, .int .i64 i] u fun ev w' => ev = .returned (.tuple #[.agg #[.int .i64 (openF f s n d ns fr tt R round i), .int .i64 (openT f s n d ns fr tt R round i)], errV (openE f s n d ns fr tt R round i)]) ∧ Below u.heap.size u w') := fun i u hu => gopens_any nodes faulty skew jitter drift R frame (some ⟨b, off, none⟩) la wa ns sc nl lc nw wc f s n d node round i u hns nd fr tt (HS.out.below hu)
  go_enter Try.func21, Try.ntmps21
  go_wp2_with fail
  rw [← hVe]
  clear hVe
  go_loopw [16] (fun t wr => ∃ i : Nat, i ≤ ns ∧ t = .int .i64 i ∧ Hid (∀ i', i' < i → hitR f s n d ns nd fr tt R node p q round i' = false) ∧ Below V.heap.size V wr) (fun t _ => ns - (intOf t).toNat)
  case atStart => exact ⟨0, Nat.zero_le _, rfl, fun i' hi => absurd hi (Nat.not_lt_zero _), Below.refl _ _⟩
  case round =>
    obtain ⟨i, hin, rfl, g0, hbi⟩ := hrel
    obtain ⟨wi, hwie⟩ : ∃ x, x = wr := ⟨wr, rfl⟩
    subst hwie
    have hsi := hbi.size
    have HB2 : Hid (InBox w.heap.size nodes faulty skew jitter drift R frame (some ⟨b, off, none⟩) la wa ns sc nl lc nw wc f s n d node p q wi) := HB.out.below hbi (by omega)
    have hwi : Below w.heap.size w wi := hV.trans (hbi.mono hV.size)
    by_cases hil : i < ns
    · obtain ⟨b', off', hsa, hb, hcc⟩ := (HS.out.below hbi) (by omega)
      obtain ⟨x0, x1, x2⟩ := hcc i hil
      have hbo : b = b' ∧ off = off' := by simp at hsa; exact hsa
      obtain ⟨rfl, rfl⟩ := hbo
      clear hsa hcc
      obtain ⟨⟨q0, q1, q2, q3, q4, q5, q6, q7, q8, q9, q10, q11, q12, q13, q14⟩, s0, s1, r0, r1, z0, z1⟩ := HB2.out
      have hii : (i : Int) < (ns : Int) := by omega
      have hl0 : w.heap.size < wi.heap.size := by omega
      have hl1 : w.heap.size + 1 < wi.heap.size := by omega
      have hl2 : w.heap.size + 1 + 1 < wi.heap.size := by omega
      have HH : Hid (hitR f s n d ns nd fr tt R node p q round i = (decide (nd i = node) && decide (openE f s n d ns fr tt R round i = 0) && comB (openF f s n d ns fr tt R round i) (openT f s n d ns fr tt R round i) p q)) := by show _ = _; unfold hitR; rfl
      by_cases hnd : nd i = node
      rotate_left
      · have hnd2 : (nd i != node) = true := by simpa using hnd
        have HZ : Hid (hitR f s n d ns nd fr tt R node p q round i = false) := by show _ = _; rw [HH.out, decide_eq_false hnd]; rfl
        generalize nd i = ni at *
        generalize fr i = fi at *
        generalize tt i = ti at *
        clear hnd HH HO
        go_wp2_with fail
        exact ⟨⟨i + 1, by omega, by go_num, next_hit g0.out HZ.out, hbi.alloc (by omega) _⟩, by simp [intOf]; omega⟩
      · have hnd2 : (nd i != node) = false := by simpa using hnd
        rw [decide_eq_true hnd, Bool.true_and] at HH
        rw [hnd] at x0 hnd2
        obtain ⟨u, hue⟩ : ∃ u, u = wi.alloc (.cells #[.int .i64 node, .int .i64 (fr i), .int .i64 (tt i)] 53) := ⟨_, rfl⟩
        have hVu : Below V.heap.size V u := by rw [hue]; exact hbi.alloc (by omega) _
        have hus := hVu.size
        have hOp := HO.out i u hVu
        have HPF : Hid (inF f s n d ns fr tt R p q round (some i) = comF (openF f s n d ns fr tt R round i) (openT f s n d ns fr tt R round i) p q ∧ inT f s n d ns fr tt R p q round (some i) = comT (openF f s n d ns fr tt R round i) (openT f s n d ns fr tt R round i) p q) := ⟨rfl, rfl⟩
        clear HO
        generalize openE f s n d ns fr tt R round i = oe at *
        generalize openF f s n d ns fr tt R round i = of_ at *
        generalize openT f s n d ns fr tt R round i = ot at *
        clear hnd
        go_wp2_with fail
        rw [← hue]
        clear hue
        refine hOp.mono ?_
        rintro e w3 ⟨rfl, hb3⟩
        have hV3 : Below V.heap.size V w3 := hVu.trans (hb3.mono hus)
        have hs3 := hV3.size
        have HB3 : Hid (InBox w.heap.size nodes faulty skew jitter drift R frame (some ⟨b, off, none⟩) la wa ns sc nl lc nw wc f s n d node p q w3) := HB.out.below hV3 (by omega)
        have hw3 : Below w.heap.size w w3 := hV.trans (hV3.mono hV.size)
        clear hOp x0 x1 x2 hnd2 q0 q1 q2 q3 q4 q5 q6 q7 q8 q9 q10 q11 q12 q13 q14 s0 s1 r0 r1 z0 z1
        obtain ⟨_, s0, s1, r0, r1, z0, z1⟩ := HB3.out
        have hb0 : w.heap.size + 1 + 1 < w3.heap.size := by omega
        have hb1 : w.heap.size + 1 < w3.heap.size := by omega
        by_cases hoe : oe = 0
        rotate_left
        · rw [errV_some hoe]
          have HZ : Hid (hitR f s n d ns nd fr tt R node p q round i = false) := by show _ = _; rw [HH.out, decide_eq_false hoe]; rfl
          clear hoe HH HPF
          go_wp2_with fail
          exact ⟨⟨i + 1, by omega, by go_num, next_hit g0.out HZ.out, hV3.alloc (by omega) _⟩, by simp [intOf]; omega⟩
        · subst hoe
          rw [errV_0]
          rw [decide_eq_true rfl, Bool.true_and] at HH
          have HM : Hid (∀ u : World, Calls Try.prog 13 #[.agg #[.int .i64 of_, .int .i64 ot], .agg #[.int .i64 p, .int .i64 q]] u fun e w' => e = .returned (.bool (comB of_ ot p q)) ∧ Below u.heap.size u w') := fun u => meet_any of_ ot p q u
          have HC : Hid (∀ u : World, Calls Try.prog 37 #[.agg #[.int .i64 of_, .int .i64 ot], .agg #[.int .i64 p, .int .i64 q]] u fun e w' => e = .returned (.agg #[.int .i64 (comF of_ ot p q), .int .i64 (comT of_ ot p q)]) ∧ Below u.heap.size u w') := fun u => common_any of_ ot p q u
          cases hcb : comB of_ ot p q
          · have HZ : Hid (hitR f s n d ns nd fr tt R node p q round i = false) := by show _ = _; rw [HH.out, hcb]
            rw [hcb] at HM
            clear hcb HH HPF HC
            go_wp2_with fail
            refine (HM.out _).mono ?_
            rintro e w5 ⟨rfl, hb5⟩
            have hV5 : Below V.heap.size V w5 := (hV3.alloc (by omega) _).trans (hb5.mono (by simp; omega))
            clear HM hb5
            go_wp2_with fail
            exact ⟨⟨i + 1, by omega, by go_num, next_hit g0.out HZ.out, hV5⟩, by simp [intOf]; omega⟩
          · have HZ : Hid (hitR f s n d ns nd fr tt R node p q round i = true) := by show _ = _; rw [HH.out, hcb]
            rw [hcb] at HM
            obtain rfl : r = some i := HF.out.one hil HZ.out g0.out
            obtain ⟨cf, hcf⟩ : ∃ cf, comF of_ ot p q = cf := ⟨_, rfl⟩
            obtain ⟨ct, hct⟩ : ∃ ct, comT of_ ot p q = ct := ⟨_, rfl⟩
            rw [hcf, hct] at HC HPF
            rw [HPF.out.1, HPF.out.2] at HG
            clear hcb HH HPF hcf hct
            go_wp2_with fail
            refine (HM.out _).mono ?_
            rintro e w5 ⟨rfl, hb5⟩
            have hA3 : Below w3.heap.size w3 w5 := ((Below.refl _ _).alloc (Nat.le_refl _) _).trans (hb5.mono (by simp))
            have o0 : w5.cell? ⟨w3.heap.size, 0, none⟩ = some (.int .i64 of_) := (hb5.cell (p := ⟨w3.heap.size, 0, none⟩) (by simp)).trans (by simp)
            have o1 : w5.cell? ⟨w3.heap.size, 1, none⟩ = some (.int .i64 ot) := (hb5.cell (p := ⟨w3.heap.size, 1, none⟩) (by simp)).trans (by simp)
            have hs5 := hA3.size
            replace s0 := (hA3.cell (p := ⟨w.heap.size + 1, 0, none⟩) hb1).trans s0
            replace s1 := (hA3.cell (p := ⟨w.heap.size + 1, 1, none⟩) hb1).trans s1
            replace r0 := (hA3.cell (p := ⟨w.heap.size + 1 + 1, 0, none⟩) hb0).trans r0
            replace r1 := (hA3.cell (p := ⟨w.heap.size + 1 + 1, 1, none⟩) hb0).trans r1
            replace z0 := (hA3.frozen (p := ⟨w.heap.size + 1 + 1, 0, none⟩) hb0).trans z0
            replace z1 := (hA3.frozen (p := ⟨w.heap.size + 1 + 1, 1, none⟩) hb0).trans z1
            have hw5 : Below w.heap.size w w5 := hw3.trans (hA3.mono hw3.size)
            clear HM hb5 hA3
            go_wp2_with fail
            refine (HC.out _).mono ?_
            rintro e w6 ⟨rfl, hb6⟩
            have hb9 : w.heap.size + 1 + 1 < w5.heap.size := by omega
            replace r0 := (hb6.cell (p := ⟨w.heap.size + 1 + 1, 0, none⟩) hb9).trans r0
            replace r1 := (hb6.cell (p := ⟨w.heap.size + 1 + 1, 1, none⟩) hb9).trans r1
            replace z0 := (hb6.frozen (p := ⟨w.heap.size + 1 + 1, 0, none⟩) hb9).trans z0
            replace z1 := (hb6.frozen (p := ⟨w.heap.size + 1 + 1, 1, none⟩) hb9).trans z1
            have hw6 : Below w.heap.size w w6 := hw5.trans (hb6.mono hw5.size)
            clear HC hb6 s0 s1 o0 o1
            go_wp2
            exact bodyPost_ret (v := .tuple #[.agg #[.int .i64 cf, .int .i64 ct], .bool true]) (by simp [results, Try.results21, go_sem, r0, r1]) rfl (HG.out _ ((hw6.setCell (p := ⟨w.heap.size + 1 + 1, 0, none⟩) (by show w.heap.size ≤ w.heap.size + 1 + 1; omega) _).setCell (p := ⟨w.heap.size + 1 + 1, 1, none⟩) (by show w.heap.size ≤ w.heap.size + 1 + 1; omega) _))
    · have hie : i = ns := by omega
      subst hie
      obtain rfl : r = none := HF.out.no g0.out
      obtain ⟨_, s0, s1, r0, r1, z0, z1⟩ := HB2.out
      have HGN : Hid (∀ w', Below w.heap.size w w' → G (.returned (.tuple #[.agg #[.int .i64 0, .int .i64 0], .bool false])) w') := HG.out
      clear HG HF HB HB2 HS g0 HO s0 s1
      go_wp2
      exact bodyPost_ret (v := .tuple #[.agg #[.int .i64 0, .int .i64 0], .bool false]) (by simp [results, Try.results21, go_sem, r0, r1]) rfl (HGN.out _ ((hwi.setCell (p := ⟨w.heap.size + 1 + 1, 0, none⟩) (by show w.heap.size ≤ w.heap.size + 1 + 1; omega) _).setCell (p := ⟨w.heap.size + 1 + 1, 1, none⟩) (by show w.heap.size ≤ w.heap.size + 1 + 1; omega) _))

/-- The program's passesIn, whatever it is asked. -/
theorem in_any (nodes faulty skew jitter drift R frame : Int) (sa la wa : Option Addr) (ns sc nl lc nw wc : Nat) (f s n d node : Int) (p q round : Int) (w : World) (hns : ns ≤ 9223372036854775807) (nd fr tt : Nat → Int) (hs : Rows3 w sa ns nd fr tt) (r : Option Nat) (hF : InHit (hitR f s n d ns nd fr tt R node p q round) ns r) :
    Calls Try.prog 21 #[.agg #[.int .i64 nodes, .int .i64 faulty, .int .i64 skew, .int .i64 jitter, .int .i64 drift, .int .i64 R, .slice sa ns sc, .slice la nl lc, .int .i64 frame, .slice wa nw wc, .int .i64 f, .int .i64 s, .int .i64 n, .int .i64 d, .int .i64 node], .int .i64 round, .agg #[.int .i64 p, .int .i64 q]] w fun ev w' => ev = .returned (.tuple #[.agg #[.int .i64 (inF f s n d ns fr tt R p q round r), .int .i64 (inT f s n d ns fr tt R p q round r)], .bool r.isSome]) ∧ Below w.heap.size w w' := by
  rcases Nat.eq_zero_or_pos ns with h | h
  · exact in_none nodes faulty skew jitter drift R frame sa la wa ns sc nl lc nw wc f s n d node p q round w h nd fr tt r hF _ fun w' hb => ⟨rfl, hb⟩
  · obtain ⟨b, off, rfl, _⟩ := hs h
    exact in_some nodes faulty skew jitter drift R frame b off la wa ns sc nl lc nw wc f s n d node p q round w hns nd fr tt hs r hF _ fun w' hb => ⟨rfl, hb⟩

end Go.Proofs.Ytlpojkehbhkdiaa
