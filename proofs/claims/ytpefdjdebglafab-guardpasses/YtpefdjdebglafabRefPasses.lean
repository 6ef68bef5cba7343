/- The document's answer's Passes, whatever it is asked; new memory alone is made. (Made by tools/gen_refpasses.py.) -/
import Derived.Test.YtpefdjdebglafabRefOpens
import Derived.Test.YtpefdjdebglafabRefCommon
import Derived.Test.YtpefdjdebglafabPassWords
namespace Go.Proofs.Ytpefdjdebglafab
open Go.RowKit

/-- What lies in the boxes of its arguments, and of what it answers. -/
def Boxes (b : Nat) (nodes faulty skew jitter drift R frame : Int) (sa la wa : Option Addr) (ns sc nl lc nw wc : Nat) (f s n d p q : Int) (u : World) : Prop :=
  u.cell? ⟨b, 0, none⟩ = some (.int .i64 nodes) ∧ u.cell? ⟨b, 1, none⟩ = some (.int .i64 faulty) ∧ u.cell? ⟨b, 2, none⟩ = some (.int .i64 skew) ∧ u.cell? ⟨b, 3, none⟩ = some (.int .i64 jitter) ∧ u.cell? ⟨b, 4, none⟩ = some (.int .i64 drift) ∧ u.cell? ⟨b, 5, none⟩ = some (.int .i64 R) ∧ u.cell? ⟨b, 6, none⟩ = some (.slice sa ns sc) ∧ u.cell? ⟨b, 7, none⟩ = some (.slice la nl lc) ∧ u.cell? ⟨b, 8, none⟩ = some (.int .i64 frame) ∧ u.cell? ⟨b, 9, none⟩ = some (.slice wa nw wc) ∧ u.cell? ⟨b + 1, 0, none⟩ = some (.int .i64 f) ∧ u.cell? ⟨b + 1, 1, none⟩ = some (.int .i64 s) ∧ u.cell? ⟨b + 1, 2, none⟩ = some (.int .i64 n) ∧ u.cell? ⟨b + 1, 3, none⟩ = some (.int .i64 d) ∧ u.cell? ⟨b + 1 + 1, 0, none⟩ = some (.int .i64 p) ∧ u.cell? ⟨b + 1 + 1, 1, none⟩ = some (.int .i64 q) ∧ u.cell? ⟨b + 1 + 1 + 1, 0, none⟩ = some (.int .i64 0) ∧ u.cell? ⟨b + 1 + 1 + 1, 1, none⟩ = some (.int .i64 0) ∧ u.frozen? ⟨b + 1 + 1 + 1, 0, none⟩ = false ∧ u.frozen? ⟨b + 1 + 1 + 1, 1, none⟩ = false
theorem Boxes.below {b : Nat} {nodes faulty skew jitter drift R frame : Int} {sa la wa : Option Addr} {ns sc nl lc nw wc : Nat} {f s n d p q : Int} {u v : World} (h : Boxes b nodes faulty skew jitter drift R frame sa la wa ns sc nl lc nw wc f s n d p q u) (hb : Below u.heap.size u v) (hz : b + 3 < u.heap.size) : Boxes b nodes faulty skew jitter drift R frame sa la wa ns sc nl lc nw wc f s n d p q v := by
  obtain ⟨a0, a1, a2, a3, a4, a5, a6, a7, a8, a9, c0, c1, c2, c3, s0, s1, r0, r1, z0, z1⟩ := h
  exact ⟨(hb.cell (p := ⟨b, 0, none⟩) (by show b < u.heap.size; omega)).trans a0, (hb.cell (p := ⟨b, 1, none⟩) (by show b < u.heap.size; omega)).trans a1, (hb.cell (p := ⟨b, 2, none⟩) (by show b < u.heap.size; omega)).trans a2, (hb.cell (p := ⟨b, 3, none⟩) (by show b < u.heap.size; omega)).trans a3, (hb.cell (p := ⟨b, 4, none⟩) (by show b < u.heap.size; omega)).trans a4, (hb.cell (p := ⟨b, 5, none⟩) (by show b < u.heap.size; omega)).trans a5, (hb.cell (p := ⟨b, 6, none⟩) (by show b < u.heap.size; omega)).trans a6, (hb.cell (p := ⟨b, 7, none⟩) (by show b < u.heap.size; omega)).trans a7, (hb.cell (p := ⟨b, 8, none⟩) (by show b < u.heap.size; omega)).trans a8, (hb.cell (p := ⟨b, 9, none⟩) (by show b < u.heap.size; omega)).trans a9, (hb.cell (p := ⟨b + 1, 0, none⟩) (by show b + 1 < u.heap.size; omega)).trans c0, (hb.cell (p := ⟨b + 1, 1, none⟩) (by show b + 1 < u.heap.size; omega)).trans c1, (hb.cell (p := ⟨b + 1, 2, none⟩) (by show b + 1 < u.heap.size; omega)).trans c2, (hb.cell (p := ⟨b + 1, 3, none⟩) (by show b + 1 < u.heap.size; omega)).trans c3, (hb.cell (p := ⟨b + 1 + 1, 0, none⟩) (by show b + 1 + 1 < u.heap.size; omega)).trans s0, (hb.cell (p := ⟨b + 1 + 1, 1, none⟩) (by show b + 1 + 1 < u.heap.size; omega)).trans s1, (hb.cell (p := ⟨b + 1 + 1 + 1, 0, none⟩) (by show b + 1 + 1 + 1 < u.heap.size; omega)).trans r0, (hb.cell (p := ⟨b + 1 + 1 + 1, 1, none⟩) (by show b + 1 + 1 + 1 < u.heap.size; omega)).trans r1, (hb.frozen (p := ⟨b + 1 + 1 + 1, 0, none⟩) (by show b + 1 + 1 + 1 < u.heap.size; omega)).trans z0, (hb.frozen (p := ⟨b + 1 + 1 + 1, 1, none⟩) (by show b + 1 + 1 + 1 < u.heap.size; omega)).trans z1⟩

theorem boxes_new (nodes faulty skew jitter drift R frame : Int) (sa la wa : Option Addr) (ns sc nl lc nw wc : Nat) (f s n d p q : Int) (w : World) : Boxes w.heap.size nodes faulty skew jitter drift R frame sa la wa ns sc nl lc nw wc f s n d p q ((((w.alloc (.cells #[.int .i64 nodes, .int .i64 faulty, .int .i64 skew, .int .i64 jitter, .int .i64 drift, .int .i64 R, .slice sa ns sc, .slice la nl lc, .int .i64 frame, .slice wa nw wc] 26)).alloc (.cells #[.int .i64 f, .int .i64 s, .int .i64 n, .int .i64 d] 34)).alloc (.cells #[.int .i64 p, .int .i64 q] 30)).alloc (.cells #[.int .i64 0, .int .i64 0] 30)) := by
  have a : ∀ (i : Nat) (v : Value), (#[.int .i64 nodes, .int .i64 faulty, .int .i64 skew, .int .i64 jitter, .int .i64 drift, .int .i64 R, .slice sa ns sc, .slice la nl lc, .int .i64 frame, .slice wa nw wc] : Array Value)[i]? = some v → ((((w.alloc (.cells #[.int .i64 nodes, .int .i64 faulty, .int .i64 skew, .int .i64 jitter, .int .i64 drift, .int .i64 R, .slice sa ns sc, .slice la nl lc, .int .i64 frame, .slice wa nw wc] 26)).alloc (.cells #[.int .i64 f, .int .i64 s, .int .i64 n, .int .i64 d] 34)).alloc (.cells #[.int .i64 p, .int .i64 q] 30)).alloc (.cells #[.int .i64 0, .int .i64 0] 30)).cell? ⟨w.heap.size, i, none⟩ = some v := fun i v h => by
    rw [World.cell?_alloc_lt _ _ _ (by simp; omega)]; exact box_a h
  have b : ∀ (i : Nat) (v : Value), (#[.int .i64 f, .int .i64 s, .int .i64 n, .int .i64 d] : Array Value)[i]? = some v → ((((w.alloc (.cells #[.int .i64 nodes, .int .i64 faulty, .int .i64 skew, .int .i64 jitter, .int .i64 drift, .int .i64 R, .slice sa ns sc, .slice la nl lc, .int .i64 frame, .slice wa nw wc] 26)).alloc (.cells #[.int .i64 f, .int .i64 s, .int .i64 n, .int .i64 d] 34)).alloc (.cells #[.int .i64 p, .int .i64 q] 30)).alloc (.cells #[.int .i64 0, .int .i64 0] 30)).cell? ⟨w.heap.size + 1, i, none⟩ = some v := fun i v h => by
    rw [World.cell?_alloc_lt _ _ _ (by simp)]; exact box_b h
  have c : ∀ (i : Nat) (v : Value), (#[.int .i64 p, .int .i64 q] : Array Value)[i]? = some v → ((((w.alloc (.cells #[.int .i64 nodes, .int .i64 faulty, .int .i64 skew, .int .i64 jitter, .int .i64 drift, .int .i64 R, .slice sa ns sc, .slice la nl lc, .int .i64 frame, .slice wa nw wc] 26)).alloc (.cells #[.int .i64 f, .int .i64 s, .int .i64 n, .int .i64 d] 34)).alloc (.cells #[.int .i64 p, .int .i64 q] 30)).alloc (.cells #[.int .i64 0, .int .i64 0] 30)).cell? ⟨w.heap.size + 1 + 1, i, none⟩ = some v := fun i v h => by
    rw [World.cell?_alloc_lt _ _ _ (by simp)]; exact (box_c h).1
  have e : ∀ (i : Nat) (v : Value), (#[.int .i64 0, .int .i64 0] : Array Value)[i]? = some v → ((((w.alloc (.cells #[.int .i64 nodes, .int .i64 faulty, .int .i64 skew, .int .i64 jitter, .int .i64 drift, .int .i64 R, .slice sa ns sc, .slice la nl lc, .int .i64 frame, .slice wa nw wc] 26)).alloc (.cells #[.int .i64 f, .int .i64 s, .int .i64 n, .int .i64 d] 34)).alloc (.cells #[.int .i64 p, .int .i64 q] 30)).alloc (.cells #[.int .i64 0, .int .i64 0] 30)).cell? ⟨w.heap.size + 1 + 1 + 1, i, none⟩ = some v := fun i v h => by
    have := new_cell (w := ((w.alloc (.cells #[.int .i64 nodes, .int .i64 faulty, .int .i64 skew, .int .i64 jitter, .int .i64 drift, .int .i64 R, .slice sa ns sc, .slice la nl lc, .int .i64 frame, .slice wa nw wc] 26)).alloc (.cells #[.int .i64 f, .int .i64 s, .int .i64 n, .int .i64 d] 34)).alloc (.cells #[.int .i64 p, .int .i64 q] 30)) (t := 30) h
    rwa [World.size_alloc, World.size_alloc, World.size_alloc] at this
  have g : ∀ i : Nat, ((((w.alloc (.cells #[.int .i64 nodes, .int .i64 faulty, .int .i64 skew, .int .i64 jitter, .int .i64 drift, .int .i64 R, .slice sa ns sc, .slice la nl lc, .int .i64 frame, .slice wa nw wc] 26)).alloc (.cells #[.int .i64 f, .int .i64 s, .int .i64 n, .int .i64 d] 34)).alloc (.cells #[.int .i64 p, .int .i64 q] 30)).alloc (.cells #[.int .i64 0, .int .i64 0] 30)).frozen? ⟨w.heap.size + 1 + 1 + 1, i, none⟩ = false := fun i => by
    have := new_soft (w := ((w.alloc (.cells #[.int .i64 nodes, .int .i64 faulty, .int .i64 skew, .int .i64 jitter, .int .i64 drift, .int .i64 R, .slice sa ns sc, .slice la nl lc, .int .i64 frame, .slice wa nw wc] 26)).alloc (.cells #[.int .i64 f, .int .i64 s, .int .i64 n, .int .i64 d] 34)).alloc (.cells #[.int .i64 p, .int .i64 q] 30)) (cs := #[.int .i64 0, .int .i64 0]) (t := 30) (i := i)
    rwa [World.size_alloc, World.size_alloc, World.size_alloc] at this
  exact ⟨a 0 _ rfl, a 1 _ rfl, a 2 _ rfl, a 3 _ rfl, a 4 _ rfl, a 5 _ rfl, a 6 _ rfl, a 7 _ rfl, a 8 _ rfl, a 9 _ rfl, b 0 _ rfl, b 1 _ rfl, b 2 _ rfl, b 3 _ rfl, c 0 _ rfl, c 1 _ rfl, e 0 _ rfl, e 1 _ rfl, g 0, g 1⟩

set_option maxRecDepth 100000 in
set_option maxHeartbeats 4000000 in
theorem passes_none (nodes faulty skew jitter drift R frame : Int) (sa la wa : Option Addr) (ns sc nl lc nw wc : Nat) (f s n d node p q : Int) (lo frm to : Int) (hlo : lo = max frm 0) (w : World) (hns0 : ns = 0) (nd fr tt : Nat → Int) (hs : Rows3 w sa ns nd fr tt) (ht0 : -9223372036854775808 ≤ to) (ht1 : to ≤ 9223372036854775807) (r : Option (Nat × Nat)) (hF : FirstHit (hitB f s n d ns nd fr tt R node p q lo) (roundsK lo to) ns r) :
    Calls Try.prog 6 #[.agg #[.int .i64 nodes, .int .i64 faulty, .int .i64 skew, .int .i64 jitter, .int .i64 drift, .int .i64 R, .slice sa ns sc, .slice la nl lc, .int .i64 frame, .slice wa nw wc], .agg #[.int .i64 f, .int .i64 s, .int .i64 n, .int .i64 d], .int .i64 node, .agg #[.int .i64 p, .int .i64 q], .int .i64 frm, .int .i64 to] w fun ev w' => ev = .returned (.tuple #[.agg #[.int .i64 (passF f s n d ns fr tt R p q lo r), .int .i64 (passT f s n d ns fr tt R p q lo r)], .bool r.isSome]) ∧ Below w.heap.size w w' := by
  have HN0 : Hid (ns = 0) := hns0
  clear hns0
  obtain ⟨V, hVe⟩ : ∃ V, V = (((w.alloc (.cells #[.int .i64 nodes, .int .i64 faulty, .int .i64 skew, .int .i64 jitter, .int .i64 drift, .int .i64 R, .slice sa ns sc, .slice la nl lc, .int .i64 frame, .slice wa nw wc] 26)).alloc (.cells #[.int .i64 f, .int .i64 s, .int .i64 n, .int .i64 d] 34)).alloc (.cells #[.int .i64 p, .int .i64 q] 30)).alloc (.cells #[.int .i64 0, .int .i64 0] 30) := ⟨_, rfl⟩
  have hV : Below w.heap.size w V := by rw [hVe]; exact (three_new.alloc (by simp; omega) _)
  have hVs : V.heap.size = w.heap.size + 4 := by rw [hVe]; simp
  have HB : Hid (Boxes w.heap.size nodes faulty skew jitter drift R frame sa la wa ns sc nl lc nw wc f s n d p q V) := by rw [hVe]; exact boxes_new ..
  have HS : Hid (Rows3 V sa ns nd fr tt) := hs.below hV
  have HF : Hid (FirstHit (hitB f s n d ns nd fr tt R node p q lo) (roundsK lo to) ns r) := hF
  obtain ⟨K, hK⟩ : ∃ K, roundsK lo to = K := ⟨_, rfl⟩
  have hl0 : 0 ≤ lo := by omega
  have hK1 : K ≤ 50 := by rw [← hK]; unfold roundsK; split <;> omega
  have HK2 : Hid (∀ k : Nat, k ≤ 50 → (k < K ↔ k < 50 ∧ lo + k ≤ to)) := fun k hk => by
    rw [← hK]; unfold roundsK
    split
    · constructor
      · intro h; omega
      · rintro ⟨_, h⟩; omega
    · constructor
      · intro h; omega
      · intro h; omega
  rw [hK] at HF
  clear hK hF hs
  generalize hGe : (fun (ev : Ending) (w' : World) => ev = .returned (.tuple #[.agg #[.int .i64 (passF f s n d ns fr tt R p q lo r), .int .i64 (passT f s n d ns fr tt R p q lo r)], .bool r.isSome]) ∧ Below w.heap.size w w') = G
  have HG : Hid (∀ w', Below w.heap.size w w' → G (.returned (.tuple #[.agg #[.int .i64 (passF f s n d ns fr tt R p q lo r), .int .i64 (passT f s n d ns fr tt R p q lo r)], .bool r.isSome])) w') := fun w' hb => by rw [← hGe]; exact ⟨rfl, hb⟩
  clear hGe
  by_cases hneg : frm < 0
  · have hl : lo = 0 := by omega
    have HLK : Hid (∀ k : Nat, lo + (k : Int) = (k : Int)) := fun k => by omega
    clear hlo
    go_enter Try.func6, Try.ntmps6
    go_wp2_with fail
    rw [← hVe]
    clear hVe
    go_loopw [22] (fun t wr => ∃ k : Nat, k ≤ K ∧ t = .int .i64 k ∧ Hid (∀ k', k' < k → ∀ i, i < ns → hitB f s n d ns nd fr tt R node p q lo k' i = false) ∧ Below V.heap.size V wr) (fun t _ => 50 - (intOf t).toNat)
    case atStart => exact ⟨0, Nat.zero_le _, rfl, fun k' hk => absurd hk (Nat.not_lt_zero _), Below.refl _ _⟩
    case round =>
      obtain ⟨k, hkK, rfl, h0, hbe⟩ := hrel
      obtain ⟨wk, hwke⟩ : ∃ x, x = wr := ⟨wr, rfl⟩
      subst hwke
      have HB1 : Hid (Boxes w.heap.size nodes faulty skew jitter drift R frame sa la wa ns sc nl lc nw wc f s n d p q wk) := HB.out.below hbe (by omega)
      have hsz := hbe.size
      have hww : Below w.heap.size w wk := hV.trans (hbe.mono hV.size)
      obtain ⟨a0, a1, a2, a3, a4, a5, a6, a7, a8, a9, c0, c1, c2, c3, s0, s1, r0, r1, z0, z1⟩ := HB1.out
      by_cases hkk : k < K
      · have hk5 := (HK2.out k (by omega)).1 hkk
        have kk1 : (k : Int) < 50 := by omega
        have kk2 : decide (to - (k : Int) < 0) = false := decide_eq_false (by omega)
        have hlk : -9223372036854775808 ≤ to - (k : Int) ∧ to - (k : Int) ≤ 9223372036854775807 := by omega
        go_wp2_with fail
        clear a0 a1 a2 a3 a4 a5 a6 a7 a8 a9 c0 c1 c2 c3 s0 s1 r0 r1 z0 z1
        go_loopw [33] (fun t wr => ∃ i : Nat, i ≤ ns ∧ t = .int .i64 i ∧ Hid (∀ i', i' < i → hitB f s n d ns nd fr tt R node p q lo k i' = false) ∧ Below wk.heap.size wk wr) (fun t _ => ns - (intOf t).toNat)
        case atStart => exact ⟨0, Nat.zero_le _, rfl, fun i' hi => absurd hi (Nat.not_lt_zero _), Below.refl _ _⟩
        case round =>
          obtain ⟨i, hin, rfl, g0, hbi⟩ := hrel
          obtain ⟨wi, hwie⟩ : ∃ x, x = wr := ⟨wr, rfl⟩
          subst hwie
          have hsi := hbi.size
          have HB2 : Hid (Boxes w.heap.size nodes faulty skew jitter drift R frame sa la wa ns sc nl lc nw wc f s n d p q wi) := HB1.out.below hbi (by omega)
          have hVi : Below V.heap.size V wi := hbe.trans (hbi.mono hsz)
          have hwi : Below w.heap.size w wi := hww.trans (hbi.mono hww.size)
          by_cases hil : i < ns
          · exact absurd hil (by rw [HN0.out]; omega)
          · have hie : i = ns := by omega
            subst hie
            have hk5 := (HK2.out (k + 1) (by omega))
            have HZ : Hid (∀ k', k' < k + 1 → ∀ i', i' < i → hitB f s n d i nd fr tt R node p q lo k' i' = false) := fun k' hk' => by
              rcases Nat.lt_succ_iff_lt_or_eq.1 hk' with z | z
              · exact h0.out k' z
              · rw [z]; exact g0.out
            have hVi2 : Below V.heap.size V wi := hVi
            clear HK2 hk5
            go_wp2_with fail
            exact ⟨⟨k + 1, by omega, by go_num, HZ, hVi2⟩, by simp [intOf]; omega⟩
      · have hke : k = K := by omega
        subst hke
        obtain rfl : r = none := HF.out.no h0.out
        have hb9 : w.heap.size + 1 + 1 + 1 < wk.heap.size := by omega
        have HGN : Hid (∀ w', Below w.heap.size w w' → G (.returned (.tuple #[.agg #[.int .i64 0, .int .i64 0], .bool false])) w') := HG.out
        clear HG HF HB HB1 HS h0 a0 a1 a2 a3 a4 a5 a6 a7 a8 a9 c0 c1 c2 c3 s0 s1
        by_cases h50 : k = 50
        · subst h50
          go_wp2
          exact bodyPost_ret (v := .tuple #[.agg #[.int .i64 0, .int .i64 0], .bool false]) (by simp [results, Try.results6, go_sem, r0, r1]) rfl (HGN.out _ ((hww.setCell (p := ⟨w.heap.size + 1 + 1 + 1, 0, none⟩) (by show w.heap.size ≤ w.heap.size + 1 + 1 + 1; omega) _).setCell (p := ⟨w.heap.size + 1 + 1 + 1, 1, none⟩) (by show w.heap.size ≤ w.heap.size + 1 + 1 + 1; omega) _))
        · have kn := HK2.out k (by omega)
          have kk1 : (k : Int) < 50 := by omega
          have kz := HK2.out 0 (by omega)
          have kto : to < lo + (k : Int) := by omega
          have hlk : -9223372036854775808 ≤ to - (k : Int) := by omega
          have hlk2 : to - (k : Int) ≤ 9223372036854775807 := by omega
          have kk2 : to - (k : Int) < 0 := by omega
          clear HK2 kn kz
          go_wp2
          exact bodyPost_ret (v := .tuple #[.agg #[.int .i64 0, .int .i64 0], .bool false]) (by simp [results, Try.results6, go_sem, r0, r1]) rfl (HGN.out _ ((hww.setCell (p := ⟨w.heap.size + 1 + 1 + 1, 0, none⟩) (by show w.heap.size ≤ w.heap.size + 1 + 1 + 1; omega) _).setCell (p := ⟨w.heap.size + 1 + 1 + 1, 1, none⟩) (by show w.heap.size ≤ w.heap.size + 1 + 1 + 1; omega) _))
  · have hn : decide (frm < 0) = false := decide_eq_false hneg
    obtain rfl : lo = frm := by omega
    clear hlo
    have HLK : True := trivial
    go_enter Try.func6, Try.ntmps6
    go_wp2_with fail
    rw [← hVe]
    clear hVe
    go_loopw [22] (fun t wr => ∃ k : Nat, k ≤ K ∧ t = .int .i64 k ∧ Hid (∀ k', k' < k → ∀ i, i < ns → hitB f s n d ns nd fr tt R node p q lo k' i = false) ∧ Below V.heap.size V wr) (fun t _ => 50 - (intOf t).toNat)
    case atStart => exact ⟨0, Nat.zero_le _, rfl, fun k' hk => absurd hk (Nat.not_lt_zero _), Below.refl _ _⟩
    case round =>
      obtain ⟨k, hkK, rfl, h0, hbe⟩ := hrel
      obtain ⟨wk, hwke⟩ : ∃ x, x = wr := ⟨wr, rfl⟩
      subst hwke
      have HB1 : Hid (Boxes w.heap.size nodes faulty skew jitter drift R frame sa la wa ns sc nl lc nw wc f s n d p q wk) := HB.out.below hbe (by omega)
      have hsz := hbe.size
      have hww : Below w.heap.size w wk := hV.trans (hbe.mono hV.size)
      obtain ⟨a0, a1, a2, a3, a4, a5, a6, a7, a8, a9, c0, c1, c2, c3, s0, s1, r0, r1, z0, z1⟩ := HB1.out
      by_cases hkk : k < K
      · have hk5 := (HK2.out k (by omega)).1 hkk
        have kk1 : (k : Int) < 50 := by omega
        have kk2 : decide (to - (k : Int) < lo) = false := decide_eq_false (by omega)
        have hlk : -9223372036854775808 ≤ to - (k : Int) ∧ to - (k : Int) ≤ 9223372036854775807 := by omega
        go_wp2_with fail
        clear a0 a1 a2 a3 a4 a5 a6 a7 a8 a9 c0 c1 c2 c3 s0 s1 r0 r1 z0 z1
        go_loopw [33] (fun t wr => ∃ i : Nat, i ≤ ns ∧ t = .int .i64 i ∧ Hid (∀ i', i' < i → hitB f s n d ns nd fr tt R node p q lo k i' = false) ∧ Below wk.heap.size wk wr) (fun t _ => ns - (intOf t).toNat)
        case atStart => exact ⟨0, Nat.zero_le _, rfl, fun i' hi => absurd hi (Nat.not_lt_zero _), Below.refl _ _⟩
        case round =>
          obtain ⟨i, hin, rfl, g0, hbi⟩ := hrel
          obtain ⟨wi, hwie⟩ : ∃ x, x = wr := ⟨wr, rfl⟩
          subst hwie
          have hsi := hbi.size
          have HB2 : Hid (Boxes w.heap.size nodes faulty skew jitter drift R frame sa la wa ns sc nl lc nw wc f s n d p q wi) := HB1.out.below hbi (by omega)
          have hVi : Below V.heap.size V wi := hbe.trans (hbi.mono hsz)
          have hwi : Below w.heap.size w wi := hww.trans (hbi.mono hww.size)
          by_cases hil : i < ns
          · exact absurd hil (by rw [HN0.out]; omega)
          · have hie : i = ns := by omega
            subst hie
            have hk5 := (HK2.out (k + 1) (by omega))
            have HZ : Hid (∀ k', k' < k + 1 → ∀ i', i' < i → hitB f s n d i nd fr tt R node p q lo k' i' = false) := fun k' hk' => by
              rcases Nat.lt_succ_iff_lt_or_eq.1 hk' with z | z
              · exact h0.out k' z
              · rw [z]; exact g0.out
            have hVi2 : Below V.heap.size V wi := hVi
            clear HK2 hk5
            go_wp2_with fail
            exact ⟨⟨k + 1, by omega, by go_num, HZ, hVi2⟩, by simp [intOf]; omega⟩
      · have hke : k = K := by omega
        subst hke
        obtain rfl : r = none := HF.out.no h0.out
        have hb9 : w.heap.size + 1 + 1 + 1 < wk.heap.size := by omega
        have HGN : Hid (∀ w', Below w.heap.size w w' → G (.returned (.tuple #[.agg #[.int .i64 0, .int .i64 0], .bool false])) w') := HG.out
        clear HG HF HB HB1 HS h0 a0 a1 a2 a3 a4 a5 a6 a7 a8 a9 c0 c1 c2 c3 s0 s1
        by_cases h50 : k = 50
        · subst h50
          go_wp2
          exact bodyPost_ret (v := .tuple #[.agg #[.int .i64 0, .int .i64 0], .bool false]) (by simp [results, Try.results6, go_sem, r0, r1]) rfl (HGN.out _ ((hww.setCell (p := ⟨w.heap.size + 1 + 1 + 1, 0, none⟩) (by show w.heap.size ≤ w.heap.size + 1 + 1 + 1; omega) _).setCell (p := ⟨w.heap.size + 1 + 1 + 1, 1, none⟩) (by show w.heap.size ≤ w.heap.size + 1 + 1 + 1; omega) _))
        · have kn := HK2.out k (by omega)
          have kk1 : (k : Int) < 50 := by omega
          have kz := HK2.out 0 (by omega)
          have kto : to < lo + (k : Int) := by omega
          have hlk : -9223372036854775808 ≤ to - (k : Int) := by omega
          have hlk2 : to - (k : Int) ≤ 9223372036854775807 := by omega
          have kk2 : to - (k : Int) < lo := by omega
          clear HK2 kn kz
          go_wp2
          exact bodyPost_ret (v := .tuple #[.agg #[.int .i64 0, .int .i64 0], .bool false]) (by simp [results, Try.results6, go_sem, r0, r1]) rfl (HGN.out _ ((hww.setCell (p := ⟨w.heap.size + 1 + 1 + 1, 0, none⟩) (by show w.heap.size ≤ w.heap.size + 1 + 1 + 1; omega) _).setCell (p := ⟨w.heap.size + 1 + 1 + 1, 1, none⟩) (by show w.heap.size ≤ w.heap.size + 1 + 1 + 1; omega) _))

set_option maxRecDepth 100000 in
set_option maxHeartbeats 4000000 in
theorem passes_some (nodes faulty skew jitter drift R frame : Int) (b off : Nat) (la wa : Option Addr) (ns sc nl lc nw wc : Nat) (f s n d node p q : Int) (lo frm to : Int) (hlo : lo = max frm 0) (w : World) (hns : ns ≤ 9223372036854775807) (nd fr tt : Nat → Int) (hs : Rows3 w (some ⟨b, off, none⟩) ns nd fr tt) (ht0 : -9223372036854775808 ≤ to) (ht1 : to ≤ 9223372036854775807) (r : Option (Nat × Nat)) (hF : FirstHit (hitB f s n d ns nd fr tt R node p q lo) (roundsK lo to) ns r) :
    Calls Try.prog 6 #[.agg #[.int .i64 nodes, .int .i64 faulty, .int .i64 skew, .int .i64 jitter, .int .i64 drift, .int .i64 R, .slice (some ⟨b, off, none⟩) ns sc, .slice la nl lc, .int .i64 frame, .slice wa nw wc], .agg #[.int .i64 f, .int .i64 s, .int .i64 n, .int .i64 d], .int .i64 node, .agg #[.int .i64 p, .int .i64 q], .int .i64 frm, .int .i64 to] w fun ev w' => ev = .returned (.tuple #[.agg #[.int .i64 (passF f s n d ns fr tt R p q lo r), .int .i64 (passT f s n d ns fr tt R p q lo r)], .bool r.isSome]) ∧ Below w.heap.size w w' := by
  obtain ⟨V, hVe⟩ : ∃ V, V = (((w.alloc (.cells #[.int .i64 nodes, .int .i64 faulty, .int .i64 skew, .int .i64 jitter, .int .i64 drift, .int .i64 R, .slice (some ⟨b, off, none⟩) ns sc, .slice la nl lc, .int .i64 frame, .slice wa nw wc] 26)).alloc (.cells #[.int .i64 f, .int .i64 s, .int .i64 n, .int .i64 d] 34)).alloc (.cells #[.int .i64 p, .int .i64 q] 30)).alloc (.cells #[.int .i64 0, .int .i64 0] 30) := ⟨_, rfl⟩
  have hV : Below w.heap.size w V := by rw [hVe]; exact (three_new.alloc (by simp; omega) _)
  have hVs : V.heap.size = w.heap.size + 4 := by rw [hVe]; simp
  have HB : Hid (Boxes w.heap.size nodes faulty skew jitter drift R frame (some ⟨b, off, none⟩) la wa ns sc nl lc nw wc f s n d p q V) := by rw [hVe]; exact boxes_new ..
  have HS : Hid (Rows3 V (some ⟨b, off, none⟩) ns nd fr tt) := hs.below hV
  have HF : Hid (FirstHit (hitB f s n d ns nd fr tt R node p q lo) (roundsK lo to) ns r) := hF
  obtain ⟨K, hK⟩ : ∃ K, roundsK lo to = K := ⟨_, rfl⟩
  have hl0 : 0 ≤ lo := by omega
  have hK1 : K ≤ 50 := by rw [← hK]; unfold roundsK; split <;> omega
  have HK2 : Hid (∀ k : Nat, k ≤ 50 → (k < K ↔ k < 50 ∧ lo + k ≤ to)) := fun k hk => by
    rw [← hK]; unfold roundsK
    split
    · constructor
      · intro h; omega
      · rintro ⟨_, h⟩; omega
    · constructor
      · intro h; omega
      · intro h; omega
  rw [hK] at HF
  clear hK hF hs
  generalize hGe : (fun (ev : Ending) (w' : World) => ev = .returned (.tuple #[.agg #[.int .i64 (passF f s n d ns fr tt R p q lo r), .int .i64 (passT f s n d ns fr tt R p q lo r)], .bool r.isSome]) ∧ Below w.heap.size w w') = G
  have HG : Hid (∀ w', Below w.heap.size w w' → G (.returned (.tuple #[.agg #[.int .i64 (passF f s n d ns fr tt R p q lo r), .int .i64 (passT f s n d ns fr tt R p q lo r)], .bool r.isSome])) w') := fun w' hb => by rw [← hGe]; exact ⟨rfl, hb⟩
  clear hGe
  by_cases hneg : frm < 0
  · have hl : lo = 0 := by omega
    have HLK : Hid (∀ k : Nat, lo + (k : Int) = (k : Int)) := fun k => by omega
    clear hlo
    go_enter Try.func6, Try.ntmps6
    go_wp2_with fail
    rw [← hVe]
    clear hVe
    go_loopw [22] (fun t wr => ∃ k : Nat, k ≤ K ∧ t = .int .i64 k ∧ Hid (∀ k', k' < k → ∀ i, i < ns → hitB f s n d ns nd fr tt R node p q lo k' i = false) ∧ Below V.heap.size V wr) (fun t _ => 50 - (intOf t).toNat)
    case atStart => exact ⟨0, Nat.zero_le _, rfl, fun k' hk => absurd hk (Nat.not_lt_zero _), Below.refl _ _⟩
    case round =>
      obtain ⟨k, hkK, rfl, h0, hbe⟩ := hrel
      obtain ⟨wk, hwke⟩ : ∃ x, x = wr := ⟨wr, rfl⟩
      subst hwke
      have HB1 : Hid (Boxes w.heap.size nodes faulty skew jitter drift R frame (some ⟨b, off, none⟩) la wa ns sc nl lc nw wc f s n d p q wk) := HB.out.below hbe (by omega)
      have hsz := hbe.size
      have hww : Below w.heap.size w wk := hV.trans (hbe.mono hV.size)
      obtain ⟨a0, a1, a2, a3, a4, a5, a6, a7, a8, a9, c0, c1, c2, c3, s0, s1, r0, r1, z0, z1⟩ := HB1.out
      by_cases hkk : k < K
      · have hk5 := (HK2.out k (by omega)).1 hkk
        have kk1 : (k : Int) < 50 := by omega
        have kk2 : decide (to - (k : Int) < 0) = false := decide_eq_false (by omega)
        have hlk : -9223372036854775808 ≤ to - (k : Int) ∧ to - (k : Int) ≤ 9223372036854775807 := by omega
        go_wp2_with fail
        clear a0 a1 a2 a3 a4 a5 a6 a7 a8 a9 c0 c1 c2 c3 s0 s1 r0 r1 z0 z1
        go_loopw [33] (fun t wr => ∃ i : Nat, i ≤ ns ∧ t = .int .i64 i ∧ Hid (∀ i', i' < i → hitB f s n d ns nd fr tt R node p q lo k i' = false) ∧ Below wk.heap.size wk wr) (fun t _ => ns - (intOf t).toNat)
        case atStart => exact ⟨0, Nat.zero_le _, rfl, fun i' hi => absurd hi (Nat.not_lt_zero _), Below.refl _ _⟩
        case round =>
          obtain ⟨i, hin, rfl, g0, hbi⟩ := hrel
          obtain ⟨wi, hwie⟩ : ∃ x, x = wr := ⟨wr, rfl⟩
          subst hwie
          have hsi := hbi.size
          have HB2 : Hid (Boxes w.heap.size nodes faulty skew jitter drift R frame (some ⟨b, off, none⟩) la wa ns sc nl lc nw wc f s n d p q wi) := HB1.out.below hbi (by omega)
          have hVi : Below V.heap.size V wi := hbe.trans (hbi.mono hsz)
          have hwi : Below w.heap.size w wi := hww.trans (hbi.mono hww.size)
          by_cases hil : i < ns
          · have HSI : Hid (Rows3 wi (some ⟨b, off, none⟩) ns nd fr tt) := HS.out.below hVi
            obtain ⟨b', off', hsa, hb, hcc⟩ := HSI.out (by omega)
            have x0 := (hcc i hil).1
            have hbo : b = b' ∧ off = off' := by simp at hsa; exact hsa
            obtain ⟨rfl, rfl⟩ := hbo
            clear hsa
            obtain ⟨a0, a1, a2, a3, a4, a5, a6, a7, a8, a9, c0, c1, c2, c3, s0, s1, r0, r1, z0, z1⟩ := HB2.out
            clear hcc
            have hii : (i : Int) < (ns : Int) := by omega
            have HH : Hid (hitB f s n d ns nd fr tt R node p q lo k i = (decide (nd i = node) && decide (openE f s n d ns fr tt R ((k : Int)) i = 0) && comB (openF f s n d ns fr tt R ((k : Int)) i) (openT f s n d ns fr tt R ((k : Int)) i) p q)) := by show _ = _; unfold hitB; rw [HLK.out k]
            by_cases hnd : nd i = node
            rotate_left
            · have hnd2 : (nd i != node) = true := by simpa using hnd
              have HZ : Hid (hitB f s n d ns nd fr tt R node p q lo k i = false) := by show _ = _; rw [HH.out, decide_eq_false hnd]; rfl
              generalize nd i = ni at *
              clear hnd HH
              go_wp2_with fail
              exact ⟨⟨i + 1, by omega, by go_num, next_hit g0.out HZ.out, hbi⟩, by simp [intOf]; omega⟩
            · have hnd2 : (nd i != node) = false := by simpa using hnd
              rw [decide_eq_true hnd, Bool.true_and] at HH
              rw [hnd] at x0 hnd2
              have hOp := refOpens_any nodes faulty skew jitter drift R frame (some ⟨b, off, none⟩) la wa ns sc nl lc nw wc f s n d ((k : Int)) (i : Int) wi hns nd fr tt HSI.out
              have HPF : Hid (passF f s n d ns fr tt R p q lo (some (k, i)) = comF (openF f s n d ns fr tt R ((k : Int)) i) (openT f s n d ns fr tt R ((k : Int)) i) p q ∧ passT f s n d ns fr tt R p q lo (some (k, i)) = comT (openF f s n d ns fr tt R ((k : Int)) i) (openT f s n d ns fr tt R ((k : Int)) i) p q) := by refine ⟨?_, ?_⟩ <;> (show _ = _; simp only [passF, passT]; rw [HLK.out k])
              generalize openE f s n d ns fr tt R ((k : Int)) i = oe at *
              generalize openF f s n d ns fr tt R ((k : Int)) i = of_ at *
              generalize openT f s n d ns fr tt R ((k : Int)) i = ot at *
              clear hnd
              have hlk2 : (k : Int) ≤ 9223372036854775807 := by omega
              go_wp2_with fail
              refine hOp.mono ?_
              rintro e w3 ⟨rfl, hb3⟩
              have HB3 : Hid (Boxes w.heap.size nodes faulty skew jitter drift R frame (some ⟨b, off, none⟩) la wa ns sc nl lc nw wc f s n d p q w3) := HB2.out.below hb3 (by omega)
              have hs3 := hb3.size
              have hk3 : Below wk.heap.size wk w3 := hbi.trans (hb3.mono hsi)
              have hw3 : Below w.heap.size w w3 := hwi.trans (hb3.mono hwi.size)
              clear hOp x0 hnd2 a0 a1 a2 a3 a4 a5 a6 a7 a8 a9 c0 c1 c2 c3 s0 s1 r0 r1 z0 z1
              obtain ⟨a0, a1, a2, a3, a4, a5, a6, a7, a8, a9, c0, c1, c2, c3, s0, s1, r0, r1, z0, z1⟩ := HB3.out
              clear a0 a1 a2 a3 a4 a5 a6 a7 a8 a9 c0 c1 c2 c3
              have hb0 : w.heap.size + 1 + 1 + 1 < w3.heap.size := by omega
              have hb1 : w.heap.size + 1 + 1 < w3.heap.size := by omega
              by_cases hoe : oe = 0
              rotate_left
              · have hoe2 : (oe == 0) = false := by simpa using hoe
                have HZ : Hid (hitB f s n d ns nd fr tt R node p q lo k i = false) := by show _ = _; rw [HH.out, decide_eq_false hoe]; rfl
                clear hoe HH HPF
                go_wp2_with fail
                exact ⟨⟨i + 1, by omega, by go_num, next_hit g0.out HZ.out, hk3.alloc (by omega) _⟩, by simp [intOf]; omega⟩
              · subst hoe
                rw [decide_eq_true rfl, Bool.true_and] at HH
                have hCm := refCommon_any of_ ot p q (w3.alloc (.cells #[.int .i64 of_, .int .i64 ot] 30))
                cases hcb : comB of_ ot p q
                · have HZ : Hid (hitB f s n d ns nd fr tt R node p q lo k i = false) := by show _ = _; rw [HH.out, hcb]
                  rw [hcb] at hCm
                  generalize comF of_ ot p q = cf at *
                  generalize comT of_ ot p q = ct at *
                  clear hcb HH HPF
                  go_wp2_with fail
                  refine hCm.mono ?_
                  rintro e w5 ⟨rfl, hb5⟩
                  have hk5 : Below wk.heap.size wk w5 := (hk3.alloc (by omega) _).trans (hb5.mono (by simp; omega))
                  have hs5 := hb5.size
                  simp only [World.size_alloc] at hs5
                  clear hCm hb5
                  go_wp2_with fail
                  exact ⟨⟨i + 1, by omega, by go_num, next_hit g0.out HZ.out, hk5.alloc (by omega) _⟩, by simp [intOf]; omega⟩
                · have HZ : Hid (hitB f s n d ns nd fr tt R node p q lo k i = true) := by show _ = _; rw [HH.out, hcb]
                  rw [hcb] at hCm
                  obtain rfl : r = some (k, i) := HF.out.one hkk hil HZ.out h0.out g0.out
                  obtain ⟨cf, hcf⟩ : ∃ cf, comF of_ ot p q = cf := ⟨_, rfl⟩
                  obtain ⟨ct, hct⟩ : ∃ ct, comT of_ ot p q = ct := ⟨_, rfl⟩
                  rw [hcf, hct] at hCm HPF
                  rw [HPF.out.1, HPF.out.2] at HG
                  clear hcb HH HPF hcf hct
                  go_wp2_with fail
                  refine hCm.mono ?_
                  rintro e w5 ⟨rfl, hb5⟩
                  have hA3 : Below w3.heap.size w3 w5 := ((Below.refl _ _).alloc (Nat.le_refl _) _).trans (hb5.mono (by simp))
                  have hw5 : Below w.heap.size w w5 := hw3.trans (hA3.mono hw3.size)
                  have hs5 := hA3.size
                  replace r0 := (hA3.cell (p := ⟨w.heap.size + 1 + 1 + 1, 0, none⟩) hb0).trans r0
                  replace r1 := (hA3.cell (p := ⟨w.heap.size + 1 + 1 + 1, 1, none⟩) hb0).trans r1
                  replace z0 := (hA3.frozen (p := ⟨w.heap.size + 1 + 1 + 1, 0, none⟩) hb0).trans z0
                  replace z1 := (hA3.frozen (p := ⟨w.heap.size + 1 + 1 + 1, 1, none⟩) hb0).trans z1
                  have hb9 : w.heap.size + 1 + 1 + 1 < w5.heap.size := by omega
                  clear hCm hb5 s0 s1
                  go_wp2
                  obtain ⟨W9, hW9⟩ : ∃ W9, W9 = ((w5.setCell ⟨w.heap.size + 1 + 1 + 1, 0, none⟩ (.int .i64 cf)).setCell ⟨w.heap.size + 1 + 1 + 1, 1, none⟩ (.int .i64 ct)).alloc (.cells #[.int .i64 cf, .int .i64 ct] 30) := ⟨_, rfl⟩
                  have hB9 : Below w.heap.size w W9 := by rw [hW9]; exact ((hw5.setCell (p := ⟨w.heap.size + 1 + 1 + 1, 0, none⟩) (by show w.heap.size ≤ w.heap.size + 1 + 1 + 1; omega) _).setCell (p := ⟨w.heap.size + 1 + 1 + 1, 1, none⟩) (by show w.heap.size ≤ w.heap.size + 1 + 1 + 1; omega) _).alloc (by simp; omega) _
                  have q0 : W9.cell? ⟨w.heap.size + 1 + 1 + 1, 0, none⟩ = some (.int .i64 cf) := by rw [hW9, World.cell?_alloc_lt _ _ _ (by simp; omega), World.cell?_setCell_other _ _ _ _ (by simp)]; exact World.cell?_setCell_same _ _ _ r0
                  have q1 : W9.cell? ⟨w.heap.size + 1 + 1 + 1, 1, none⟩ = some (.int .i64 ct) := by rw [hW9, World.cell?_alloc_lt _ _ _ (by simp; omega)]; exact World.cell?_setCell_same _ _ _ (by rw [World.cell?_setCell_other _ _ _ _ (by simp)]; exact r1)
                  rw [← hW9]
                  clear hW9 r0 r1 z0 z1
                  exact bodyPost_ret (v := .tuple #[.agg #[.int .i64 cf, .int .i64 ct], .bool true]) (by simp [results, Try.results6, go_sem, q0, q1]) rfl (HG.out _ hB9)
          · have hie : i = ns := by omega
            subst hie
            have hk5 := (HK2.out (k + 1) (by omega))
            have HZ : Hid (∀ k', k' < k + 1 → ∀ i', i' < i → hitB f s n d i nd fr tt R node p q lo k' i' = false) := fun k' hk' => by
              rcases Nat.lt_succ_iff_lt_or_eq.1 hk' with z | z
              · exact h0.out k' z
              · rw [z]; exact g0.out
            have hVi2 : Below V.heap.size V wi := hVi
            clear HK2 hk5
            go_wp2_with fail
            exact ⟨⟨k + 1, by omega, by go_num, HZ, hVi2⟩, by simp [intOf]; omega⟩
      · have hke : k = K := by omega
        subst hke
        obtain rfl : r = none := HF.out.no h0.out
        have hb9 : w.heap.size + 1 + 1 + 1 < wk.heap.size := by omega
        have HGN : Hid (∀ w', Below w.heap.size w w' → G (.returned (.tuple #[.agg #[.int .i64 0, .int .i64 0], .bool false])) w') := HG.out
        clear HG HF HB HB1 HS h0 a0 a1 a2 a3 a4 a5 a6 a7 a8 a9 c0 c1 c2 c3 s0 s1
        by_cases h50 : k = 50
        · subst h50
          go_wp2
          exact bodyPost_ret (v := .tuple #[.agg #[.int .i64 0, .int .i64 0], .bool false]) (by simp [results, Try.results6, go_sem, r0, r1]) rfl (HGN.out _ ((hww.setCell (p := ⟨w.heap.size + 1 + 1 + 1, 0, none⟩) (by show w.heap.size ≤ w.heap.size + 1 + 1 + 1; omega) _).setCell (p := ⟨w.heap.size + 1 + 1 + 1, 1, none⟩) (by show w.heap.size ≤ w.heap.size + 1 + 1 + 1; omega) _))
        · have kn := HK2.out k (by omega)
          have kk1 : (k : Int) < 50 := by omega
          have kz := HK2.out 0 (by omega)
          have kto : to < lo + (k : Int) := by omega
          have hlk : -9223372036854775808 ≤ to - (k : Int) := by omega
          have hlk2 : to - (k : Int) ≤ 9223372036854775807 := by omega
          have kk2 : to - (k : Int) < 0 := by omega
          clear HK2 kn kz
          go_wp2
          exact bodyPost_ret (v := .tuple #[.agg #[.int .i64 0, .int .i64 0], .bool false]) (by simp [results, Try.results6, go_sem, r0, r1]) rfl (HGN.out _ ((hww.setCell (p := ⟨w.heap.size + 1 + 1 + 1, 0, none⟩) (by show w.heap.size ≤ w.heap.size + 1 + 1 + 1; omega) _).setCell (p := ⟨w.heap.size + 1 + 1 + 1, 1, none⟩) (by show w.heap.size ≤ w.heap.size + 1 + 1 + 1; omega) _))
  · have hn : decide (frm < 0) = false := decide_eq_false hneg
    obtain rfl : lo = frm := by omega
    clear hlo
    have HLK : True := trivial
    go_enter Try.func6, Try.ntmps6
    go_wp2_with fail
    rw [← hVe]
    clear hVe
    go_loopw [22] (fun t wr => ∃ k : Nat, k ≤ K ∧ t = .int .i64 k ∧ Hid (∀ k', k' < k → ∀ i, i < ns → hitB f s n d ns nd fr tt R node p q lo k' i = false) ∧ Below V.heap.size V wr) (fun t _ => 50 - (intOf t).toNat)
    case atStart => exact ⟨0, Nat.zero_le _, rfl, fun k' hk => absurd hk (Nat.not_lt_zero _), Below.refl _ _⟩
    case round =>
      obtain ⟨k, hkK, rfl, h0, hbe⟩ := hrel
      obtain ⟨wk, hwke⟩ : ∃ x, x = wr := ⟨wr, rfl⟩
      subst hwke
      have HB1 : Hid (Boxes w.heap.size nodes faulty skew jitter drift R frame (some ⟨b, off, none⟩) la wa ns sc nl lc nw wc f s n d p q wk) := HB.out.below hbe (by omega)
      have hsz := hbe.size
      have hww : Below w.heap.size w wk := hV.trans (hbe.mono hV.size)
      obtain ⟨a0, a1, a2, a3, a4, a5, a6, a7, a8, a9, c0, c1, c2, c3, s0, s1, r0, r1, z0, z1⟩ := HB1.out
      by_cases hkk : k < K
      · have hk5 := (HK2.out k (by omega)).1 hkk
        have kk1 : (k : Int) < 50 := by omega
        have kk2 : decide (to - (k : Int) < lo) = false := decide_eq_false (by omega)
        have hlk : -9223372036854775808 ≤ to - (k : Int) ∧ to - (k : Int) ≤ 9223372036854775807 := by omega
        go_wp2_with fail
        clear a0 a1 a2 a3 a4 a5 a6 a7 a8 a9 c0 c1 c2 c3 s0 s1 r0 r1 z0 z1
        go_loopw [33] (fun t wr => ∃ i : Nat, i ≤ ns ∧ t = .int .i64 i ∧ Hid (∀ i', i' < i → hitB f s n d ns nd fr tt R node p q lo k i' = false) ∧ Below wk.heap.size wk wr) (fun t _ => ns - (intOf t).toNat)
        case atStart => exact ⟨0, Nat.zero_le _, rfl, fun i' hi => absurd hi (Nat.not_lt_zero _), Below.refl _ _⟩
        case round =>
          obtain ⟨i, hin, rfl, g0, hbi⟩ := hrel
          obtain ⟨wi, hwie⟩ : ∃ x, x = wr := ⟨wr, rfl⟩
          subst hwie
          have hsi := hbi.size
          have HB2 : Hid (Boxes w.heap.size nodes faulty skew jitter drift R frame (some ⟨b, off, none⟩) la wa ns sc nl lc nw wc f s n d p q wi) := HB1.out.below hbi (by omega)
          have hVi : Below V.heap.size V wi := hbe.trans (hbi.mono hsz)
          have hwi : Below w.heap.size w wi := hww.trans (hbi.mono hww.size)
          by_cases hil : i < ns
          · have HSI : Hid (Rows3 wi (some ⟨b, off, none⟩) ns nd fr tt) := HS.out.below hVi
            obtain ⟨b', off', hsa, hb, hcc⟩ := HSI.out (by omega)
            have x0 := (hcc i hil).1
            have hbo : b = b' ∧ off = off' := by simp at hsa; exact hsa
            obtain ⟨rfl, rfl⟩ := hbo
            clear hsa
            obtain ⟨a0, a1, a2, a3, a4, a5, a6, a7, a8, a9, c0, c1, c2, c3, s0, s1, r0, r1, z0, z1⟩ := HB2.out
            clear hcc
            have hii : (i : Int) < (ns : Int) := by omega
            have HH : Hid (hitB f s n d ns nd fr tt R node p q lo k i = (decide (nd i = node) && decide (openE f s n d ns fr tt R (lo + (k : Int)) i = 0) && comB (openF f s n d ns fr tt R (lo + (k : Int)) i) (openT f s n d ns fr tt R (lo + (k : Int)) i) p q)) := by show _ = _; unfold hitB; rfl
            by_cases hnd : nd i = node
            rotate_left
            · have hnd2 : (nd i != node) = true := by simpa using hnd
              have HZ : Hid (hitB f s n d ns nd fr tt R node p q lo k i = false) := by show _ = _; rw [HH.out, decide_eq_false hnd]; rfl
              generalize nd i = ni at *
              clear hnd HH
              go_wp2_with fail
              exact ⟨⟨i + 1, by omega, by go_num, next_hit g0.out HZ.out, hbi⟩, by simp [intOf]; omega⟩
            · have hnd2 : (nd i != node) = false := by simpa using hnd
              rw [decide_eq_true hnd, Bool.true_and] at HH
              rw [hnd] at x0 hnd2
              have hOp := refOpens_any nodes faulty skew jitter drift R frame (some ⟨b, off, none⟩) la wa ns sc nl lc nw wc f s n d (lo + (k : Int)) (i : Int) wi hns nd fr tt HSI.out
              have HPF : Hid (passF f s n d ns fr tt R p q lo (some (k, i)) = comF (openF f s n d ns fr tt R (lo + (k : Int)) i) (openT f s n d ns fr tt R (lo + (k : Int)) i) p q ∧ passT f s n d ns fr tt R p q lo (some (k, i)) = comT (openF f s n d ns fr tt R (lo + (k : Int)) i) (openT f s n d ns fr tt R (lo + (k : Int)) i) p q) := by exact ⟨rfl, rfl⟩
              generalize openE f s n d ns fr tt R (lo + (k : Int)) i = oe at *
              generalize openF f s n d ns fr tt R (lo + (k : Int)) i = of_ at *
              generalize openT f s n d ns fr tt R (lo + (k : Int)) i = ot at *
              clear hnd
              have hlk2 : lo + (k : Int) ≤ 9223372036854775807 := by omega
              go_wp2_with fail
              refine hOp.mono ?_
              rintro e w3 ⟨rfl, hb3⟩
              have HB3 : Hid (Boxes w.heap.size nodes faulty skew jitter drift R frame (some ⟨b, off, none⟩) la wa ns sc nl lc nw wc f s n d p q w3) := HB2.out.below hb3 (by omega)
              have hs3 := hb3.size
              have hk3 : Below wk.heap.size wk w3 := hbi.trans (hb3.mono hsi)
              have hw3 : Below w.heap.size w w3 := hwi.trans (hb3.mono hwi.size)
              clear hOp x0 hnd2 a0 a1 a2 a3 a4 a5 a6 a7 a8 a9 c0 c1 c2 c3 s0 s1 r0 r1 z0 z1
              obtain ⟨a0, a1, a2, a3, a4, a5, a6, a7, a8, a9, c0, c1, c2, c3, s0, s1, r0, r1, z0, z1⟩ := HB3.out
              clear a0 a1 a2 a3 a4 a5 a6 a7 a8 a9 c0 c1 c2 c3
              have hb0 : w.heap.size + 1 + 1 + 1 < w3.heap.size := by omega
              have hb1 : w.heap.size + 1 + 1 < w3.heap.size := by omega
              by_cases hoe : oe = 0
              rotate_left
              · have hoe2 : (oe == 0) = false := by simpa using hoe
                have HZ : Hid (hitB f s n d ns nd fr tt R node p q lo k i = false) := by show _ = _; rw [HH.out, decide_eq_false hoe]; rfl
                clear hoe HH HPF
                go_wp2_with fail
                exact ⟨⟨i + 1, by omega, by go_num, next_hit g0.out HZ.out, hk3.alloc (by omega) _⟩, by simp [intOf]; omega⟩
              · subst hoe
                rw [decide_eq_true rfl, Bool.true_and] at HH
                have hCm := refCommon_any of_ ot p q (w3.alloc (.cells #[.int .i64 of_, .int .i64 ot] 30))
                cases hcb : comB of_ ot p q
                · have HZ : Hid (hitB f s n d ns nd fr tt R node p q lo k i = false) := by show _ = _; rw [HH.out, hcb]
                  rw [hcb] at hCm
                  generalize comF of_ ot p q = cf at *
                  generalize comT of_ ot p q = ct at *
                  clear hcb HH HPF
                  go_wp2_with fail
                  refine hCm.mono ?_
                  rintro e w5 ⟨rfl, hb5⟩
                  have hk5 : Below wk.heap.size wk w5 := (hk3.alloc (by omega) _).trans (hb5.mono (by simp; omega))
                  have hs5 := hb5.size
                  simp only [World.size_alloc] at hs5
                  clear hCm hb5
                  go_wp2_with fail
                  exact ⟨⟨i + 1, by omega, by go_num, next_hit g0.out HZ.out, hk5.alloc (by omega) _⟩, by simp [intOf]; omega⟩
                · have HZ : Hid (hitB f s n d ns nd fr tt R node p q lo k i = true) := by show _ = _; rw [HH.out, hcb]
                  rw [hcb] at hCm
                  obtain rfl : r = some (k, i) := HF.out.one hkk hil HZ.out h0.out g0.out
                  obtain ⟨cf, hcf⟩ : ∃ cf, comF of_ ot p q = cf := ⟨_, rfl⟩
                  obtain ⟨ct, hct⟩ : ∃ ct, comT of_ ot p q = ct := ⟨_, rfl⟩
                  rw [hcf, hct] at hCm HPF
                  rw [HPF.out.1, HPF.out.2] at HG
                  clear hcb HH HPF hcf hct
                  go_wp2_with fail
                  refine hCm.mono ?_
                  rintro e w5 ⟨rfl, hb5⟩
                  have hA3 : Below w3.heap.size w3 w5 := ((Below.refl _ _).alloc (Nat.le_refl _) _).trans (hb5.mono (by simp))
                  have hw5 : Below w.heap.size w w5 := hw3.trans (hA3.mono hw3.size)
                  have hs5 := hA3.size
                  replace r0 := (hA3.cell (p := ⟨w.heap.size + 1 + 1 + 1, 0, none⟩) hb0).trans r0
                  replace r1 := (hA3.cell (p := ⟨w.heap.size + 1 + 1 + 1, 1, none⟩) hb0).trans r1
                  replace z0 := (hA3.frozen (p := ⟨w.heap.size + 1 + 1 + 1, 0, none⟩) hb0).trans z0
                  replace z1 := (hA3.frozen (p := ⟨w.heap.size + 1 + 1 + 1, 1, none⟩) hb0).trans z1
                  have hb9 : w.heap.size + 1 + 1 + 1 < w5.heap.size := by omega
                  clear hCm hb5 s0 s1
                  go_wp2
                  obtain ⟨W9, hW9⟩ : ∃ W9, W9 = ((w5.setCell ⟨w.heap.size + 1 + 1 + 1, 0, none⟩ (.int .i64 cf)).setCell ⟨w.heap.size + 1 + 1 + 1, 1, none⟩ (.int .i64 ct)).alloc (.cells #[.int .i64 cf, .int .i64 ct] 30) := ⟨_, rfl⟩
                  have hB9 : Below w.heap.size w W9 := by rw [hW9]; exact ((hw5.setCell (p := ⟨w.heap.size + 1 + 1 + 1, 0, none⟩) (by show w.heap.size ≤ w.heap.size + 1 + 1 + 1; omega) _).setCell (p := ⟨w.heap.size + 1 + 1 + 1, 1, none⟩) (by show w.heap.size ≤ w.heap.size + 1 + 1 + 1; omega) _).alloc (by simp; omega) _
                  have q0 : W9.cell? ⟨w.heap.size + 1 + 1 + 1, 0, none⟩ = some (.int .i64 cf) := by rw [hW9, World.cell?_alloc_lt _ _ _ (by simp; omega), World.cell?_setCell_other _ _ _ _ (by simp)]; exact World.cell?_setCell_same _ _ _ r0
                  have q1 : W9.cell? ⟨w.heap.size + 1 + 1 + 1, 1, none⟩ = some (.int .i64 ct) := by rw [hW9, World.cell?_alloc_lt _ _ _ (by simp; omega)]; exact World.cell?_setCell_same _ _ _ (by rw [World.cell?_setCell_other _ _ _ _ (by simp)]; exact r1)
                  rw [← hW9]
                  clear hW9 r0 r1 z0 z1
                  exact bodyPost_ret (v := .tuple #[.agg #[.int .i64 cf, .int .i64 ct], .bool true]) (by simp [results, Try.results6, go_sem, q0, q1]) rfl (HG.out _ hB9)
          · have hie : i = ns := by omega
            subst hie
            have hk5 := (HK2.out (k + 1) (by omega))
            have HZ : Hid (∀ k', k' < k + 1 → ∀ i', i' < i → hitB f s n d i nd fr tt R node p q lo k' i' = false) := fun k' hk' => by
              rcases Nat.lt_succ_iff_lt_or_eq.1 hk' with z | z
              · exact h0.out k' z
              · rw [z]; exact g0.out
            have hVi2 : Below V.heap.size V wi := hVi
            clear HK2 hk5
            go_wp2_with fail
            exact ⟨⟨k + 1, by omega, by go_num, HZ, hVi2⟩, by simp [intOf]; omega⟩
      · have hke : k = K := by omega
        subst hke
        obtain rfl : r = none := HF.out.no h0.out
        have hb9 : w.heap.size + 1 + 1 + 1 < wk.heap.size := by omega
        have HGN : Hid (∀ w', Below w.heap.size w w' → G (.returned (.tuple #[.agg #[.int .i64 0, .int .i64 0], .bool false])) w') := HG.out
        clear HG HF HB HB1 HS h0 a0 a1 a2 a3 a4 a5 a6 a7 a8 a9 c0 c1 c2 c3 s0 s1
        by_cases h50 : k = 50
        · subst h50
          go_wp2
          exact bodyPost_ret (v := .tuple #[.agg #[.int .i64 0, .int .i64 0], .bool false]) (by simp [results, Try.results6, go_sem, r0, r1]) rfl (HGN.out _ ((hww.setCell (p := ⟨w.heap.size + 1 + 1 + 1, 0, none⟩) (by show w.heap.size ≤ w.heap.size + 1 + 1 + 1; omega) _).setCell (p := ⟨w.heap.size + 1 + 1 + 1, 1, none⟩) (by show w.heap.size ≤ w.heap.size + 1 + 1 + 1; omega) _))
        · have kn := HK2.out k (by omega)
          have kk1 : (k : Int) < 50 := by omega
          have kz := HK2.out 0 (by omega)
          have kto : to < lo + (k : Int) := by omega
          have hlk : -9223372036854775808 ≤ to - (k : Int) := by omega
          have hlk2 : to - (k : Int) ≤ 9223372036854775807 := by omega
          have kk2 : to - (k : Int) < lo := by omega
          clear HK2 kn kz
          go_wp2
          exact bodyPost_ret (v := .tuple #[.agg #[.int .i64 0, .int .i64 0], .bool false]) (by simp [results, Try.results6, go_sem, r0, r1]) rfl (HGN.out _ ((hww.setCell (p := ⟨w.heap.size + 1 + 1 + 1, 0, none⟩) (by show w.heap.size ≤ w.heap.size + 1 + 1 + 1; omega) _).setCell (p := ⟨w.heap.size + 1 + 1 + 1, 1, none⟩) (by show w.heap.size ≤ w.heap.size + 1 + 1 + 1; omega) _))

/-- The document's answer's Passes, whatever it is asked. -/
theorem refPasses_any (nodes faulty skew jitter drift R frame : Int) (sa la wa : Option Addr) (ns sc nl lc nw wc : Nat) (f s n d node p q : Int) (lo frm to : Int) (hlo : lo = max frm 0) (w : World) (hns : ns ≤ 9223372036854775807) (nd fr tt : Nat → Int) (hs : Rows3 w sa ns nd fr tt) (ht0 : -9223372036854775808 ≤ to) (ht1 : to ≤ 9223372036854775807) (r : Option (Nat × Nat)) (hF : FirstHit (hitB f s n d ns nd fr tt R node p q lo) (roundsK lo to) ns r) :
    Calls Try.prog 6 #[.agg #[.int .i64 nodes, .int .i64 faulty, .int .i64 skew, .int .i64 jitter, .int .i64 drift, .int .i64 R, .slice sa ns sc, .slice la nl lc, .int .i64 frame, .slice wa nw wc], .agg #[.int .i64 f, .int .i64 s, .int .i64 n, .int .i64 d], .int .i64 node, .agg #[.int .i64 p, .int .i64 q], .int .i64 frm, .int .i64 to] w fun ev w' => ev = .returned (.tuple #[.agg #[.int .i64 (passF f s n d ns fr tt R p q lo r), .int .i64 (passT f s n d ns fr tt R p q lo r)], .bool r.isSome]) ∧ Below w.heap.size w w' := by
  rcases Nat.eq_zero_or_pos ns with h | h
  · exact passes_none nodes faulty skew jitter drift R frame sa la wa ns sc nl lc nw wc f s n d node p q lo frm to hlo w h nd fr tt hs ht0 ht1 r hF
  · obtain ⟨b, off, rfl, _⟩ := hs h
    exact passes_some nodes faulty skew jitter drift R frame b off la wa ns sc nl lc nw wc f s n d node p q lo frm to hlo w hns nd fr tt hs ht0 ht1 r hF
end Go.Proofs.Ytpefdjdebglafab
