/- The program's cluster: Put and Receive (10.1). -/
import Derived.Test.YtdmokcnoljlogaaGreatDoorPCluM
import Derived.Test.YtdmokcnoljlogaaGreatDoorPCluB
namespace Go.Proofs.YtdmokcnoljlogaaGreatDoor
open Go.RowKit

section
variable {w : World} {O : List Nat} {C : Nat} {p : PlanN} {fa : Int} {cs : List Int} {s : ClS} {rd : Int} {B : Nat} {m : CMap}

set_option maxHeartbeats 1000000 in
theorem cput_bad (h : Cl w O C p fa cs s rd B m) (k : Int) (d : ByteArray) (hk : ¬ (0 ≤ k ∧ k < p.nl)) :
    Calls Tryz.prog 11 #[.pointer (some ⟨C, 0, none⟩), .int .i64 k, .string d] w fun e w' => e = .returned (errV 2) ∧ Below w.heap.size w w' := by
  have hi := cisLink_any C m.la p.nl m.lcap k w h.base.c14
  rw [decide_eq_false hk] at hi
  clear h hk
  go_enter Tryz.func11, Tryz.ntmps11
  go_wp2_with fail
  refine hi.mono ?_
  rintro e w1 ⟨rfl, hw⟩
  replace hw := hw.symm
  subst hw
  clear hi
  go_wp2
  go_ret
  exact ⟨rfl, Below.refl _ _⟩

set_option maxHeartbeats 1000000 in
theorem cput_any (h : Cl w O C p fa cs s rd B m) (k : Nat) (d : ByteArray) (hk : k < p.nl) (hB : B ≤ 10000000) :
    Calls Tryz.prog 11 #[.pointer (some ⟨C, 0, none⟩), .int .i64 k, .string d] w fun e w' => e = .returned (errV (s.putK p k d)) ∧ ∃ O', Foot O O' w w' ∧ Cl w' O' C p fa cs (s.put p k d) rd (B + 1) m := by
  have hi := cisLink_any C m.la p.nl m.lcap k w h.base.c14
  rw [decide_eq_true (by omega)] at hi
  obtain ⟨OS, hS, ⟨hS1, hS2, hS3⟩, hback⟩ := h.sdr hk
  have hp := sdrPut hS d (by omega)
  have HBK : Hid (∀ (w' : World) (OS' : List Nat), Sdr w' OS' (m.S k) (p.lb k) (p.lq k) (putAll (putK ((s.links k).all.length - (s.links k).went) (p.lq k) d) (s.links k).all d) (s.links k).went (s.links k).last (s.links k).now → Foot OS OS' w w' → ∃ O', Foot O O' w w' ∧ Cl w' O' C p fa cs (s.put p k d) rd (B + 1) m) := fun w' OS' q1 q2 => by
    refine hback w' OS' (B + 1) ⟨_, _, _, _⟩ q1 q2 ⟨?_, hS2, ?_⟩ (by omega)
    · show (putAll _ (s.links k).all d).length ≤ B + 1
      unfold putAll
      split
      · simp only [List.length_append, List.length_cons, List.length_nil]; omega
      · omega
    · show ∀ d' ∈ putAll _ (s.links k).all d, d'.size ≤ 40
      intro d' hd'
      unfold putAll at hd'
      by_cases hK : putK ((s.links k).all.length - (s.links k).went) (p.lq k) d = 0
      · rw [if_pos hK] at hd'
        have h1 : ¬ 40 < d.size := fun q => by unfold putK at hK; rw [if_pos q] at hK; cases hK
        rcases List.mem_append.1 hd' with q | q
        · exact hS3 d' q
        · simp only [List.mem_cons, List.not_mem_nil, or_false] at q
          subst q; omega
      · rw [if_neg hK] at hd'
        exact hS3 d' hd'
  have HK : Hid (s.putK p k d = putK ((s.links k).all.length - (s.links k).went) (p.lq k) d) := rfl
  rw [HK.out]
  generalize putK ((s.links k).all.length - (s.links k).went) (p.lq k) d = K at *
  obtain ⟨la1, la2⟩ := h.base.la (by omega)
  obtain ⟨l0, l1, l2⟩ := h.base.lk k hk
  have c14 := h.base.c14
  rw [la1] at c14
  have hll := h.base.lx _ la2
  have hlC := h.base.lc
  have kk : (k : Int) < (p.nl : Int) := by omega
  generalize errV K = EV at *
  clear hback hS hS1 hS2 hS3 h la1 la2 HK
  go_enter Tryz.func11, Tryz.ntmps11
  go_wp2_with fail
  refine hi.mono ?_
  rintro e w1 ⟨rfl, hw⟩
  replace hw := hw.symm
  subst hw
  clear hi
  go_wp2_with fail
  refine hp.mono ?_
  rintro e w1 ⟨rfl, OS', q1, q2⟩
  have HD := HBK.out w1 OS' q1 q2
  clear HBK q1 q2 hp c14 l0 l1 l2
  go_wp2
  go_ret
  exact ⟨rfl, HD⟩

set_option maxHeartbeats 1000000 in
theorem crecv_node (h : Cl w O C p fa cs s rd B m) (j k : Int) (hj : ¬ (0 ≤ j ∧ j < p.nodes)) :
    Calls Tryz.prog 12 #[.pointer (some ⟨C, 0, none⟩), .int .i64 j, .int .i64 k] w fun e w' => e = .returned (.tuple #[.string ByteArray.empty, errV 2]) ∧ Below w.heap.size w w' := by
  have hi := cisNode_any C p.nodes j w h.base.c0
  rw [decide_eq_false hj] at hi
  clear h hj
  go_enter Tryz.func12, Tryz.ntmps12
  go_wp2_with fail
  refine hi.mono ?_
  rintro e w1 ⟨rfl, hw⟩
  replace hw := hw.symm
  subst hw
  clear hi
  go_wp2
  go_ret2
  exact ⟨rfl, Below.refl _ _⟩
set_option maxHeartbeats 1000000 in
theorem crecv_link (h : Cl w O C p fa cs s rd B m) (j k : Int) (hj : 0 ≤ j ∧ j < p.nodes) (hk : ¬ (0 ≤ k ∧ k < p.nl)) :
    Calls Tryz.prog 12 #[.pointer (some ⟨C, 0, none⟩), .int .i64 j, .int .i64 k] w fun e w' => e = .returned (.tuple #[.string ByteArray.empty, errV 2]) ∧ Below w.heap.size w w' := by
  have hi := cisNode_any C p.nodes j w h.base.c0
  rw [decide_eq_true hj] at hi
  have hl := cisLink_any C m.la p.nl m.lcap k w h.base.c14
  rw [decide_eq_false hk] at hl
  clear h hj hk
  go_enter Tryz.func12, Tryz.ntmps12
  go_wp2_with fail
  refine hi.mono ?_
  rintro e w1 ⟨rfl, hw⟩
  replace hw := hw.symm
  subst hw
  clear hi
  go_wp2_with fail
  refine hl.mono ?_
  rintro e w1 ⟨rfl, hw⟩
  replace hw := hw.symm
  subst hw
  clear hl
  go_wp2
  go_ret2
  exact ⟨rfl, Below.refl _ _⟩
set_option maxHeartbeats 1000000 in
theorem crecv_end (h : Cl w O C p fa cs s rd B m) (j k : Nat) (hj : j < p.n) (hnn : p.nodes = p.n) (hk : k < p.nl) (hb : bitI (p.lt k) j = false) :
    Calls Tryz.prog 12 #[.pointer (some ⟨C, 0, none⟩), .int .i64 j, .int .i64 k] w fun e w' => e = .returned (.tuple #[.string ByteArray.empty, errV 2]) ∧ Below w.heap.size w w' := by
  have hi := cisNode_any C p.nodes j w h.base.c0
  rw [decide_eq_true (by omega)] at hi
  have hl := cisLink_any C m.la p.nl m.lcap k w h.base.c14
  rw [decide_eq_true (by omega)] at hl
  obtain ⟨la1, la2⟩ := h.base.la (by omega)
  obtain ⟨l0, l1, l2⟩ := h.base.lk k hk
  obtain ⟨e1, e2⟩ := h.base.en k hk
  have e3 := e2 j hj
  rw [hb, if_neg (by decide)] at e3
  have c14 := h.base.c14
  rw [la1] at c14
  have hll := h.base.lx _ la2
  have hel := h.base.lx _ e1
  have hlC := h.base.lc
  have kk : (k : Int) < (p.nl : Int) := by omega
  have jj : (j : Int) < (p.n : Int) := by omega
  generalize p.n = n at *
  clear h la1 la2 e2 hb
  go_enter Tryz.func12, Tryz.ntmps12
  go_wp2_with fail
  refine hi.mono ?_
  rintro e w1 ⟨rfl, hw⟩
  replace hw := hw.symm
  subst hw
  clear hi
  go_wp2_with fail
  refine hl.mono ?_
  rintro e w1 ⟨rfl, hw⟩
  replace hw := hw.symm
  subst hw
  clear hl
  go_wp2
  go_ret2
  exact ⟨rfl, Below.refl _ _⟩
theorem crecv_bad (h : Cl w O C p fa cs s rd B m) (hnn : p.nodes = p.n) (j k : Int) (hb : ¬ ((0 ≤ j ∧ j < p.nodes) ∧ (0 ≤ k ∧ k < p.nl) ∧ bitI (p.lt k.toNat) j.toNat = true)) :
    Calls Tryz.prog 12 #[.pointer (some ⟨C, 0, none⟩), .int .i64 j, .int .i64 k] w fun e w' => e = .returned (.tuple #[.string ByteArray.empty, errV 2]) ∧ Below w.heap.size w w' := by
  by_cases h1 : 0 ≤ j ∧ j < p.nodes
  · by_cases h2 : 0 ≤ k ∧ k < p.nl
    · obtain ⟨j, rfl⟩ : ∃ n : Nat, j = n := ⟨j.toNat, by omega⟩
      obtain ⟨k, rfl⟩ : ∃ n : Nat, k = n := ⟨k.toNat, by omega⟩
      refine crecv_end h j k (by omega) hnn (by omega) ?_
      cases q : bitI (p.lt k) j
      · rfl
      · exact absurd ⟨h1, h2, q⟩ hb
    · exact crecv_link h j k h1 h2
  · exact crecv_node h j k h1

set_option maxHeartbeats 1000000 in
theorem crecv_any (h : Cl w O C p fa cs s rd B m) (j k : Nat) (hj : j < p.n) (hnn : p.nodes = p.n) (hk : k < p.nl) (hb : bitI (p.lt k) j = true) :
    Calls Tryz.prog 12 #[.pointer (some ⟨C, 0, none⟩), .int .i64 j, .int .i64 k] w fun e w' => e = .returned (.tuple #[.string (recvD (s.ports k j)), errV (recvK (s.ports k j))]) ∧ ∃ O', Foot O O' w w' ∧ Cl w' O' C p fa cs (s.recv k j) rd B m := by
  have hi := cisNode_any C p.nodes j w h.base.c0
  rw [decide_eq_true (by omega)] at hi
  have hl := cisLink_any C m.la p.nl m.lcap k w h.base.c14
  rw [decide_eq_true (by omega)] at hl
  obtain ⟨OQ, lost, hQ, hQ1, hQ2, hback⟩ := h.que hk hj hb
  have hp := queReceive hQ (by omega)
  have HBK : Hid (∀ (w' : World) (OQ' : List Nat), Que w' OQ' (m.Q k j) 16 (s.ports k j).tail lost → Foot OQ OQ' w w' → ∃ O', Foot O O' w w' ∧ Cl w' O' C p fa cs (s.recv k j) rd B m) := fun w' OQ' q1 q2 => hback w' OQ' B (s.ports k j).tail lost q1 q2 hQ1 (by rw [List.length_tail]; omega) (Nat.le_refl _)
  obtain ⟨la1, la2⟩ := h.base.la (by omega)
  obtain ⟨l0, l1, l2⟩ := h.base.lk k hk
  obtain ⟨e1, e2⟩ := h.base.en k hk
  obtain ⟨d1, d2, d3⟩ := h.base.dn k j hk hj hb
  have e3 := e2 j hj
  rw [hb, if_pos rfl] at e3
  have c14 := h.base.c14
  rw [la1] at c14
  have hll := h.base.lx _ la2
  have hel := h.base.lx _ e1
  have hdl := h.base.lx _ d1
  have hlC := h.base.lc
  have kk : (k : Int) < (p.nl : Int) := by omega
  have jj : (j : Int) < (p.n : Int) := by omega
  generalize recvD (s.ports k j) = RD at *
  generalize errV (recvK (s.ports k j)) = RK at *
  obtain ⟨n, hn⟩ : ∃ n, p.n = n := ⟨_, rfl⟩
  rw [hn] at l2 jj
  clear hback hQ hQ1 hQ2 h la1 la2 e2 d1
  go_enter Tryz.func12, Tryz.ntmps12
  go_wp2_with fail
  refine hi.mono ?_
  rintro e w1 ⟨rfl, hw⟩
  replace hw := hw.symm
  subst hw
  clear hi
  go_wp2_with fail
  refine hl.mono ?_
  rintro e w1 ⟨rfl, hw⟩
  replace hw := hw.symm
  subst hw
  clear hl
  go_wp2_with fail
  refine hp.mono ?_
  rintro e w1 ⟨rfl, OQ', q1, q2⟩
  have HD := HBK.out w1 OQ' q1 q2
  clear HBK q1 q2 hp c14 l0 l1 l2
  go_wp2
  go_ret2
  exact ⟨rfl, HD⟩
end
end Go.Proofs.YtdmokcnoljlogaaGreatDoor
