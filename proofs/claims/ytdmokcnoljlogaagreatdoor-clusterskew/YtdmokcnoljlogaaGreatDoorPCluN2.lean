/- The program's cluster: newLink (10.1). -/
import Derived.Test.YtdmokcnoljlogaaGreatDoorWordsG
import Derived.Test.YtdmokcnoljlogaaGreatDoorPCluA
import Derived.Deep.RegionHeld3
import Derived.BigQuiet
namespace Go.Proofs.YtdmokcnoljlogaaGreatDoor
open Go.RowKit

set_option maxHeartbeats 1000000 in
theorem sdrNew_full (fr tq bag queue : Int) (w : World) (hb : (1 ≤ bag ∧ bag ≤ 1099511627776) ∧ 1 ≤ queue ∧ queue ≤ 16) :
    Calls Tryz.prog 79 #[.agg #[.int .i64 fr, .int .i64 tq, .int .i64 bag, .int .i64 queue]] w fun e w' => ∃ O P, e = .returned (.tuple #[.pointer (some ⟨P, 0, none⟩), .nilIface]) ∧ Sdr w' O P bag queue [] 0 0 0 ∧ Below w.heap.size w w' ∧ ∀ c, c ∈ O → w.heap.size ≤ c := by
  have k1 : decide (bag < 1) = false := decide_eq_false (by omega)
  have k2 : decide (1099511627776 < bag) = false := decide_eq_false (by omega)
  have k3 : decide (queue < 1) = false := decide_eq_false (by omega)
  have k4 : decide (16 < queue) = false := decide_eq_false (by omega)
  clear hb
  have hR := fun (V : World) => psdr_new (w := V) (bag := bag) (queue := queue)
  have HR : Hid _ := hR
  clear hR
  go_enter Tryz.func79, Tryz.ntmps79
  go_wp2
  have fin := HR.out (w.alloc (.cells #[.int .i64 fr, .int .i64 tq, .int .i64 bag, .int .i64 queue] 54))
  rw [show (w.alloc (.cells #[.int .i64 fr, .int .i64 tq, .int .i64 bag, .int .i64 queue] 54)).heap.size = w.heap.size + 1 by simp] at fin
  go_ret2
  exact ⟨_, _, rfl, fin, ((Below.refl _ _).alloc (Nat.le_refl _) _).alloc (by simp) _, fun c hc => by
    simp only [List.mem_cons, List.not_mem_nil, or_false] at hc
    omega⟩

theorem Tryz.infoEnd : (Tryz.prog.info? 88).map (fun i => (i.zero, i.size, i.bytes)) = some (some (.pointer none), 1, 8) := by kernel_rfl
theorem two_boxesN (w : World) (a b c d x y z : Value) (t u : TypeId) (V : World) (hV : (w.alloc (.cells #[a, b, c, d] t)).alloc (.cells #[x, y, z] u) = V) :
    (V.cell? ⟨w.heap.size, 0, none⟩ = some a ∧ V.cell? ⟨w.heap.size, 1, none⟩ = some b ∧ V.cell? ⟨w.heap.size, 2, none⟩ = some c ∧ V.cell? ⟨w.heap.size, 3, none⟩ = some d) ∧ (V.cell? ⟨w.heap.size + 1, 0, none⟩ = some x ∧ V.cell? ⟨w.heap.size + 1, 1, none⟩ = some y ∧ V.cell? ⟨w.heap.size + 1, 2, none⟩ = some z) ∧ (∀ i, V.frozen? ⟨w.heap.size + 1, i, none⟩ = false) ∧ Below w.heap.size w V ∧ V.heap.size = w.heap.size + 2 := by
  subst hV
  have hs : (w.alloc (.cells #[a, b, c, d] t)).heap.size = w.heap.size + 1 := by simp
  have k : Below (w.heap.size + 1) (w.alloc (.cells #[a, b, c, d] t)) ((w.alloc (.cells #[a, b, c, d] t)).alloc (.cells #[x, y, z] u)) := (Below.refl _ _).alloc (by omega) _
  have c1 : ∀ i, ((w.alloc (.cells #[a, b, c, d] t)).alloc (.cells #[x, y, z] u)).cell? ⟨w.heap.size, i, none⟩ = (w.alloc (.cells #[a, b, c, d] t)).cell? ⟨w.heap.size, i, none⟩ := fun i => k.cell (p := ⟨w.heap.size, i, none⟩) (by simp)
  refine ⟨⟨(c1 0).trans (by simp), (c1 1).trans (by simp), (c1 2).trans (by simp), (c1 3).trans (by simp)⟩, ⟨?_, ?_, ?_⟩, fun i => ?_, ((Below.refl _ _).alloc (Nat.le_refl _) _).alloc (by simp) _, by simp⟩
  · rw [← hs]; simp
  · rw [← hs]; simp
  · rw [← hs]; simp
  · rw [← hs]; simp

set_option maxRecDepth 100000 in
set_option maxHeartbeats 4000000 in
theorem newLink_any (kk n : Nat) (fr tq bag queue : Int) (w : World) (hn : n ≤ 16) (hb : (1 ≤ bag ∧ bag ≤ 1099511627776) ∧ 1 ≤ queue ∧ queue ≤ 16) :
    Calls Tryz.prog 59 #[.agg #[.int .i64 fr, .int .i64 tq, .int .i64 bag, .int .i64 queue], .int .i64 n] w fun e w' => Below w.heap.size w w' ∧ ∃ N S E D R Q, e = .returned (.tuple #[.agg #[.int .i64 fr, .pointer (some ⟨S, 0, none⟩), .slice (some ⟨E, 0, none⟩) n n], .nilIface]) ∧ LinkNew w.heap.size w' N kk n n tq bag queue S E D R Q := by
  obtain ⟨i0, hi, hz0, hz1, hz2⟩ := info_parts Tryz.infoEnd
  have hmk := fun (v : World) => run_makeSlice (P := Tryz.prog) v 84 88 i0 _ Tryz.underlying84 hi hz0 .i64 .i64 (n : Int) (n : Int) (by omega) (Int.le_refl _) (by rw [hz1]; simp; omega) (by rw [hz2]; omega) (by omega)
  rw [Int.toNat_natCast, hz1, Nat.mul_one] at hmk
  clear hi hz0 hz1 hz2
  obtain ⟨V, hV⟩ : ∃ V, (w.alloc (.cells #[.int .i64 fr, .int .i64 tq, .int .i64 bag, .int .i64 queue] 54)).alloc (.cells #[.int .i64 0, .pointer none, .slice none 0 0] 86) = V := ⟨_, rfl⟩
  obtain ⟨⟨l0, l1, l2, l3⟩, ⟨r0, r1, r2⟩, rz, hBV, hVs⟩ := two_boxesN w _ _ _ _ _ _ _ _ _ V hV
  have hs := sdrNew_full fr tq bag queue V hb
  have l0w : w.heap.size < V.heap.size := by omega
  have l1w : w.heap.size + 1 < V.heap.size := by omega
  have HBV : Hid (Below w.heap.size w V ∧ V.heap.size = w.heap.size + 2) := ⟨hBV, hVs⟩
  obtain ⟨L, hL⟩ : ∃ L, w.heap.size = L := ⟨_, rfl⟩
  have HLL : Hid (w.heap.size = L) := hL
  have HLR : Hid (V.cell? ⟨w.heap.size, 0, none⟩ = some (.int .i64 fr) ∧ V.cell? ⟨w.heap.size, 1, none⟩ = some (.int .i64 tq) ∧ (V.cell? ⟨w.heap.size + 1, 0, none⟩ = some (.int .i64 0) ∧ V.cell? ⟨w.heap.size + 1, 1, none⟩ = some (.pointer none) ∧ V.cell? ⟨w.heap.size + 1, 2, none⟩ = some (.slice none 0 0)) ∧ ∀ i, V.frozen? ⟨w.heap.size + 1, i, none⟩ = false) := ⟨l0, l1, ⟨r0, r1, r2⟩, rz⟩
  have HMK : Hid _ := hmk
  clear hmk hb hVs hBV r0 r1 r2 rz hL
  go_enter Tryz.func59, Tryz.ntmps59
  go_wp2_with fail
  refine hs.mono ?_
  rintro e w1 ⟨OS, S, rfl, hSd, hB1, hlo⟩
  have hmk1 := HMK.out w1
  obtain ⟨w2, hw2⟩ : ∃ w2, w1.alloc (.cells (madeCells #[.pointer none] n) 88) = w2 := ⟨_, rfl⟩
  have HF := LinkNew.first hSd hlo hB1 hw2 kk tq (fun _ => 0) (fun _ => 0) (fun _ => 0)
  have HF0 : Hid (∃ D R Q N, LinkNew V.heap.size w2 N kk n 0 tq bag queue S w1.heap.size D R Q ∧ Below V.heap.size V w2) := by
    obtain ⟨⟨N, hN⟩, hB⟩ := HF
    exact ⟨_, _, _, N, hN, hB⟩
  rw [show (Value.pointer none).cells = #[.pointer none] from rfl, hw2] at hmk1
  clear hs HF hSd hlo hB1 hw2 l0 l1 l2 l3 hV HMK
  go_wp2_with fail
  clear hmk1
  generalize w1.heap.size = E at *
  go_loopw [25] (fun t wr => ∃ J : Nat, J ≤ n ∧ t = .int .i64 J ∧ Hid (∃ D R Q N, LinkNew V.heap.size wr N kk n J tq bag queue S E D R Q ∧ Below V.heap.size V wr)) (fun t _ => n - (intOf t).toNat)
  case atStart => exact ⟨0, Nat.zero_le _, rfl, HF0⟩
  case round =>
    obtain ⟨J, hJ, rfl, HI⟩ := hrel
    clear HF0
    by_cases hlt : J < n
    · have jj : (J : Int) < (n : Int) := by omega
      have y1 := (HI.out.choose_spec.choose_spec.choose_spec.choose_spec.2.cell (p := ⟨w.heap.size, 1, none⟩) l0w).trans HLR.out.2.1
      have hl2 : w.heap.size < wr.heap.size := Nat.lt_of_lt_of_le l0w HI.out.choose_spec.choose_spec.choose_spec.choose_spec.2.size
      have hhas := chas_any tq J (by omega) wr
      by_cases hbit : bitI tq J = true
      · rw [hbit] at hhas
        have hque := queNew_good 16 wr (by omega)
        go_wp2_with fail
        refine hhas.mono ?_
        rintro e w' ⟨rfl, hw⟩
        rw [hw]
        clear hw
        go_wp2_with fail
        refine hque.mono ?_
        rintro e v1 ⟨OQ, PQ, rfl, hQ, hB1, hlq⟩
        have hrcv := rcvNew v1
        clear hque hhas y1
        go_wp2_with fail
        refine hrcv.mono ?_
        rintro e v2 ⟨OR, PR, rfl, hR, hB2, hlr⟩
        obtain ⟨D, R, Q, N, hN, hBB⟩ := HI.out
        obtain ⟨v3, hv3⟩ : ∃ v3, v2.alloc (.cells #[.pointer (some ⟨PR, 0, none⟩), .pointer (some ⟨PQ, 0, none⟩)] 92) = v3 := ⟨_, rfl⟩
        have hst := hN.step hbit hBB.size hBB hB1 hQ hlq hB2 hR hlr hv3 rfl
        have hE := hN.fam.lt _ _ hN.eX
        have hk3 : Below wr.heap.size wr v3 := by rw [← hv3]; exact (hB1.trans (hB2.mono hB1.size)).alloc (by have := hB1.size; have := hB2.size; omega) _
        have g := (hk3.cell (p := ⟨E, J, none⟩) hE).trans (hN.en J hlt)
        have gz := (hk3.frozen (p := ⟨E, J, none⟩) hE).trans (hN.zE J)
        have hE3 : E < v3.heap.size := Nat.lt_of_lt_of_le hE hk3.size
        have HST : Hid (∃ D R Q N, LinkNew V.heap.size (v3.setCell ⟨E, J, none⟩ (.pointer (some ⟨v2.heap.size, 0, none⟩))) N kk n (J + 1) tq bag queue S E D R Q ∧ Below V.heap.size V (v3.setCell ⟨E, J, none⟩ (.pointer (some ⟨v2.heap.size, 0, none⟩)))) := by
          obtain ⟨⟨N', h1⟩, h2⟩ := hst
          exact ⟨_, _, _, N', h1, h2⟩
        clear hst hk3 hE hN hBB hB1 hQ hlq hB2 hR hlr hrcv HI
        go_wp2
        go_roundw
        case rel => exact ⟨J + 1, by omega, by go_num, HST⟩
        case measure => simp [intOf]; omega
      · have hbf : bitI tq J = false := by simpa using hbit
        rw [hbf] at hhas
        have HN : Hid (∃ D R Q N, LinkNew V.heap.size wr N kk n (J + 1) tq bag queue S E D R Q ∧ Below V.heap.size V wr) := by
          obtain ⟨D, R, Q, N, h1, h2⟩ := HI.out
          exact ⟨D, R, Q, N, h1.skip hbf, h2⟩
        clear HI
        go_wp2_with fail
        refine hhas.mono ?_
        rintro e w' ⟨rfl, hw⟩
        rw [hw]
        clear hw
        go_wp2
        go_roundw
        case rel => exact ⟨J + 1, by omega, by go_num, HN⟩
        case measure => simp [intOf]; omega
    · have hJn : J = n := by omega
      have kj : decide (J < n) = false := decide_eq_false (by omega)
      obtain ⟨D, R, Q, N, hN, hBB⟩ := HI.out
      rw [hJn] at hN
      have x0 := (hBB.cell (p := ⟨w.heap.size, 0, none⟩) l0w).trans HLR.out.1
      have y0 := (hBB.cell (p := ⟨w.heap.size + 1, 0, none⟩) l1w).trans HLR.out.2.2.1.1
      have y1 := (hBB.cell (p := ⟨w.heap.size + 1, 1, none⟩) l1w).trans HLR.out.2.2.1.2.1
      have y2 := (hBB.cell (p := ⟨w.heap.size + 1, 2, none⟩) l1w).trans HLR.out.2.2.1.2.2
      have z0 := (hBB.frozen (p := ⟨w.heap.size + 1, 0, none⟩) l1w).trans (HLR.out.2.2.2 0)
      have z1 := (hBB.frozen (p := ⟨w.heap.size + 1, 1, none⟩) l1w).trans (HLR.out.2.2.2 1)
      have z2 := (hBB.frozen (p := ⟨w.heap.size + 1, 2, none⟩) l1w).trans (HLR.out.2.2.2 2)
      have h0r : w.heap.size < wr.heap.size := Nat.lt_of_lt_of_le l0w hBB.size
      have h1r : w.heap.size + 1 < wr.heap.size := Nat.lt_of_lt_of_le l1w hBB.size
      have HD : Hid (LinkNew V.heap.size wr N kk n n tq bag queue S E D R Q ∧ Below V.heap.size V wr) := ⟨hN, hBB⟩
      clear HI hN hBB hlt
      go_wp2
      obtain ⟨hN, hBB⟩ := HD.out
      have hB0 := HBV.out
      obtain ⟨W3, hW3⟩ : ∃ W3, ((wr.setCell ⟨w.heap.size + 1, 0, none⟩ (.int .i64 fr)).setCell ⟨w.heap.size + 1, 1, none⟩ (.pointer (some ⟨S, 0, none⟩))).setCell ⟨w.heap.size + 1, 2, none⟩ (.slice (some ⟨E, 0, none⟩) n n) = W3 := ⟨_, rfl⟩
      have q0 : W3.cell? ⟨w.heap.size + 1, 0, none⟩ = some (.int .i64 fr) := by rw [← hW3]; exact (cell_other (.inr (by decide))).trans ((cell_other (.inr (by decide))).trans (cell_set y0))
      have q1 : W3.cell? ⟨w.heap.size + 1, 1, none⟩ = some (.pointer (some ⟨S, 0, none⟩)) := by rw [← hW3]; exact (cell_other (.inr (by decide))).trans (cell_set ((cell_other (.inr (by decide))).trans y1))
      have q2 : W3.cell? ⟨w.heap.size + 1, 2, none⟩ = some (.slice (some ⟨E, 0, none⟩) n n) := by rw [← hW3]; exact cell_set ((cell_other (.inr (by decide))).trans ((cell_other (.inr (by decide))).trans y2))
      have hT : Turns (w.heap.size + 1) (w.heap.size + 1) wr W3 := by rw [← hW3]; exact (((Turns.refl _ _ wr).set (p := ⟨w.heap.size + 1, 0, none⟩) (.inl rfl) _).set (p := ⟨w.heap.size + 1, 1, none⟩) (.inl rfl) _).set (p := ⟨w.heap.size + 1, 2, none⟩) (.inl rfl) _
      rw [hW3]
      have hBw : Below w.heap.size w wr := hB0.1.trans (hBB.mono hB0.1.size)
      refine bodyPost_ret (v := .tuple #[.agg #[.int .i64 fr, .pointer (some ⟨S, 0, none⟩), .slice (some ⟨E, 0, none⟩) n n], .nilIface]) (by simp [results, Tryz.results59, go_sem, q0, q1, q2]) rfl ⟨hBw.trans (hT.below hBw.size (by omega) (by omega)), N, S, E, D, R, Q, rfl, (hN.same hT.size (fun c h1 h2 => hT.block c h2 (by omega) (by omega))).low (by omega)⟩
end Go.Proofs.YtdmokcnoljlogaaGreatDoor
