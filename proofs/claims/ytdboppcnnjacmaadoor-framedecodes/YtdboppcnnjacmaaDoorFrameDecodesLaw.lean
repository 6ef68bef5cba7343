/- FrameDecodes, walked: of every bytes it answers true. Conditions: package errors' own variable holds what its text says. -/
import Derived.Test.YtdboppcnnjacmaaDoorRefOpenAll
import Derived.Deep.RegionHeld3
namespace Go.Proofs.YtdboppcnnjacmaaDoor
open Go.RowKit Go.Lib

theorem undrewF {V u : World} (h : Below V.drew.heap.size V.drew u) : Below V.heap.size V u := ⟨h.os, h.tape, h.output, h.size, h.block⟩

set_option maxRecDepth 100000 in
set_option maxHeartbeats 8000000 in
theorem fdecodes_walk (a : Option Addr) (cap : Nat) (l : List Nat) (node slot members link seq : Int) (S : ByteArray) (E : Value) (k : Int) (w : World) (hT : Told w) (hr : ByteRow w a l) (hb : ∀ c ∈ l, c < 256) (hl : l.length ≤ 200) (hB : BareSays E k)
    (h2 : ∀ u : World, Below w.heap.size w u → Calls Tryd.prog 36 #[.slice a l.length cap] u fun e w' => e = .returned (.tuple #[.agg #[.int .i64 node, .int .i64 slot, .int .i64 members, .int .i64 link, .int .i64 seq, .string S], .int .i64 k]) ∧ Below u.heap.size u w')
    (h3 : ∀ u : World, Below w.heap.size w u → Calls Tryd.prog 37 #[.slice a l.length cap] u fun e w' => e = .returned (.tuple #[.agg #[.int .i64 node, .int .i64 slot, .int .i64 members, .int .i64 link, .int .i64 seq, .string S], E]) ∧ Below u.heap.size u w') :
    Calls Tryd.prog 10 #[.slice a l.length cap] w fun e w' => e = .returned (.bool true) ∧ Below w.heap.size w w' := by
  obtain ⟨n, hn⟩ : ∃ n, l.length = n := ⟨_, rfl⟩
  have HS1 : Hid (∀ u, Below w.heap.size w u → Calls Tryd.prog 38 #[.slice a n cap] u fun e w' => e = .returned (.int .i64 (crcOf 65535 l : Nat)) ∧ w' = u) := fun u hu => hn ▸ sum_any a cap l u (hr.below hu) hb (by omega)
  have HS2 : Hid (∀ u, Below w.heap.size w u → Calls Tryd.prog 39 #[.slice a n cap] u fun e w' => e = .returned (.int .i64 (crcOf 65535 l : Nat)) ∧ w' = u) := fun u hu => hn ▸ refSum_any a cap l u (hr.below hu) hb (by omega)
  have H2 : Hid (∀ u : World, Below w.heap.size w u → Calls Tryd.prog 36 #[.slice a n cap] u fun e w' => e = .returned (.tuple #[.agg #[.int .i64 node, .int .i64 slot, .int .i64 members, .int .i64 link, .int .i64 seq, .string S], .int .i64 k]) ∧ Below u.heap.size u w') := hn ▸ h2
  have H3 : Hid (∀ u : World, Below w.heap.size w u → Calls Tryd.prog 37 #[.slice a n cap] u fun e w' => e = .returned (.tuple #[.agg #[.int .i64 node, .int .i64 slot, .int .i64 members, .int .i64 link, .int .i64 seq, .string S], E]) ∧ Below u.heap.size u w') := hn ▸ h3
  rw [hn] at hl ⊢
  clear h2 h3 hr hb hn
  generalize crcOf 65535 l = q at HS1 HS2
  have k1 : decide ((200 : Int) < (n : Int)) = false := decide_eq_false (by omega)
  go_enter Tryd.func10, Tryd.ntmps10
  go_wp2_with fail
  refine (H2.out _ (Below.refl _ _)).mono ?_
  rintro e w1 ⟨rfl, hV⟩
  clear H2
  go_wp2_with fail
  have hA : Below w1.heap.size w1 (w1.alloc (.cells #[.int .i64 node, .int .i64 slot, .int .i64 members, .int .i64 link, .int .i64 seq, .string S] 69)) := (Below.refl _ _).alloc (Nat.le_refl _) _
  have hC := box6 node slot members link seq S w1 69
  replace hV := below_on hV hA
  clear hA
  generalize w1.alloc (.cells #[.int .i64 node, .int .i64 slot, .int .i64 members, .int .i64 link, .int .i64 seq, .string S] 69) = V at hV hC ⊢
  refine (H3.out _ hV).mono ?_
  rintro e w2 ⟨rfl, hb2⟩
  replace hC := hC.below hb2
  replace hV := below_on hV hb2
  clear H3 hb2
  go_wp2_with fail
  have hA : Below w2.heap.size w2 (w2.alloc (.cells #[.int .i64 node, .int .i64 slot, .int .i64 members, .int .i64 link, .int .i64 seq, .string S] 67)) := (Below.refl _ _).alloc (Nat.le_refl _) _
  have hD := box6 node slot members link seq S w2 67
  replace hC := hC.below hA
  replace hV := below_on hV hA
  clear hA
  generalize w2.alloc (.cells #[.int .i64 node, .int .i64 slot, .int .i64 members, .int .i64 link, .int .i64 seq, .string S] 67) = U at hV hC hD ⊢
  have hTU := hT.below hV
  obtain ⟨x0, x1, x2, x3, x4, x5⟩ := hC.below (Below.refl _ _)
  obtain ⟨z0, z1, z2, z3, z4, z5⟩ := hD.below (Below.refl _ _)
  go_wp2_with fail
  go_region_held3 (fun u => u.cell? ⟨w1.heap.size, 0, none⟩ = some (.int .i64 node) ∧ u.cell? ⟨w1.heap.size, 1, none⟩ = some (.int .i64 slot) ∧ u.cell? ⟨w1.heap.size, 2, none⟩ = some (.int .i64 members) ∧ u.cell? ⟨w1.heap.size, 3, none⟩ = some (.int .i64 link) ∧ u.cell? ⟨w1.heap.size, 4, none⟩ = some (.int .i64 seq) ∧ u.cell? ⟨w1.heap.size, 5, none⟩ = some (.string S) ∧ u.cell? ⟨w2.heap.size, 0, none⟩ = some (.int .i64 node) ∧ u.cell? ⟨w2.heap.size, 1, none⟩ = some (.int .i64 slot) ∧ u.cell? ⟨w2.heap.size, 2, none⟩ = some (.int .i64 members) ∧ u.cell? ⟨w2.heap.size, 3, none⟩ = some (.int .i64 link) ∧ u.cell? ⟨w2.heap.size, 4, none⟩ = some (.int .i64 seq) ∧ u.cell? ⟨w2.heap.size, 5, none⟩ = some (.string S)) (go_keep) (first
    | (go_at_call 14; refine (hB _ ?_).mono ?_; exact hTU; rintro e u1 ⟨rfl, hu1⟩; have hV1 := below_on hV (undrewF hu1); have hC1 := hC.below (undrewF hu1); have hD1 := hD.below (undrewF hu1); obtain ⟨a0, a1, a2, a3, a4, a5⟩ := hC1.below (Below.refl _ _); obtain ⟨b0, b1, b2, b3, b4, b5⟩ := hD1.below (Below.refl _ _))
    | (go_at_call 33; refine (framed_any node slot members link seq S _).mono ?_; rintro e u2 ⟨rfl, hu2⟩; have hV2 := below_on hV1 hu2; have hC2 := hC1.below hu2; have hD2 := hD1.below hu2; obtain ⟨c0, c1, c2, c3, c4, c5⟩ := hC2.below (Below.refl _ _); obtain ⟨d0, d1, d2, d3, d4, d5⟩ := hD2.below (Below.refl _ _))
    | (go_at_call 38; refine (HS1.out _ hV2).mono ?_; rintro e u3 ⟨rfl, rfl⟩)
    | (go_at_call 39; refine (HS2.out _ hV2).mono ?_; rintro e u4 ⟨rfl, rfl⟩))
  go_wp2_with fail
  go_ret
  exact ⟨rfl, hV2⟩

theorem fdecodes_any (a : Option Addr) (cap : Nat) (l : List Nat) (w : World) (hT : Told w) (hr : ByteRow w a l) (hb : ∀ c ∈ l, c < 256) (hcap : l.length ≤ cap) :
    Calls Tryd.prog 10 #[.slice a l.length cap] w fun e w' => e = .returned (.bool true) ∧ Below w.heap.size w w' := by
  by_cases h1 : 200 < l.length
  · generalize l.length = n at h1
    have h2 : (200 : Int) < (n : Int) := by omega
    go_enter Tryd.func10, Tryd.ntmps10
    go_wp2_with fail
    go_ret
    exact ⟨rfl, Below.refl _ _⟩
  · by_cases he : ∃ node slot members link seq S, Enc l node slot members link seq S
    · obtain ⟨node, slot, members, link, seq, S, he⟩ := he
      exact fdecodes_walk a cap l node slot members link seq S .nilIface 0 w hT hr hb (by omega) bare_nil (fun u hu => open_yes a cap l u (hr.below hu) hcap node slot members link seq S he) (fun u hu => decode_yes a cap l u (hr.below hu) hcap node slot members link seq S he)
    · have hno : ∀ node slot members link seq S, ¬ Enc l node slot members link seq S := fun a b c d e f h => he ⟨a, b, c, d, e, f, h⟩
      exact fdecodes_walk a cap l 0 0 0 0 0 ⟨#[]⟩ (.iface 24 (.int .i64 3)) 3 w hT hr hb (by omega) (bare_e 3) (fun u hu => open_no a cap l u (hr.below hu) hb hcap (by omega) hno) (fun u hu => decode_no a cap l u (hr.below hu) hb hcap (by omega) hno)
end Go.Proofs.YtdboppcnnjacmaaDoor
