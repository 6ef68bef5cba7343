/- VlinkTakes, walked: of every row of numbers it answers true. (Made by tools/gen_vlinktakes.py.) -/
import Derived.Test.YthcnhfjhppmmdabPRcv2
import Derived.Test.YthcnhfjhppmmdabRefRcv
import Derived.Test.YthcnhfjhppmmdabIntRow
import Derived.Deep.RegionHeld3
namespace Go.Proofs.Ythcnhfjhppmmdab
open Go.RowKit

set_option maxRecDepth 100000 in
set_option maxHeartbeats 1000000 in
theorem takes_great (a : Option Addr) (len cap : Nat) (w : World) (h : 300 < len) (hl : len ≤ 9223372036854775807) :
    Calls Try.prog 6 #[.slice a len cap] w fun e w' => e = .returned (.bool true) ∧ Below w.heap.size w w' := by
  have k : (300 : Int) < (len : Int) := by omega
  go_enter Try.func6, Try.ntmps6
  go_wp2
  go_ret
  exact ⟨rfl, Below.refl _ _⟩

/-- Both receivers, side by side. -/
structure Two (w0 w : World) (O : List Nat) (P PR : Nat) (nw a b : Int) : Prop where
  s : Rcv w O P nw a b
  r : RefRecv w PR nw a b
  ap : Apart O [PR]
  lo : ∀ c, c ∈ O → w0.heap.size ≤ c
  lr : w0.heap.size ≤ PR
  old : Below w0.heap.size w0 w
theorem Two.drawn {w0 w : World} {O : List Nat} {P PR : Nat} {nw a b : Int} (h : Two w0 w O P PR nw a b) (q : Nat) : Two w0 (w.drewN q) O P PR nw a b :=
  ⟨h.s.keep ⟨Nat.le_refl _, fun _ _ => rfl⟩, h.r.keep ⟨Nat.le_refl _, fun _ _ => rfl⟩, h.ap, h.lo, h.lr, ⟨h.old.os, h.old.tape, h.old.output, h.old.size, h.old.block⟩⟩
theorem Two.lrs {w0 w : World} {O : List Nat} {P PR : Nat} {nw a b : Int} (h : Two w0 w O P PR nw a b) : ∀ c, c ∈ [PR] → w0.heap.size ≤ c := fun c hc => by rw [List.mem_singleton.1 hc]; exact h.lr
theorem tk_in {nw seq : Int} (h : nw ≤ 255) : tkNew (takeB nw seq) seq nw ≤ 255 := by
  unfold tkNew
  split
  · next e => exact (takeB_in e).2
  · exact h

set_option maxRecDepth 100000 in
set_option maxHeartbeats 4000000 in
theorem takes_walk (a : Option Addr) (len cap : Nat) (l : List Int) (w : World) (hr : IntRow w a l) (hlen : l.length = len) (h : len ≤ 300) :
    Calls Try.prog 6 #[.slice a len cap] w fun e w' => e = .returned (.bool true) ∧ Below w.heap.size w w' := by
  have k : decide ((300 : Int) < (len : Int)) = false := decide_eq_false (by omega)
  have HR : Hid (IntRow w a l) := hr
  have HLen : Hid (l.length = len) := hlen
  clear hr hlen
  go_enter Try.func6, Try.ntmps6
  go_wp2_with fail
  refine (rcvNew _).mono ?_
  rintro e w1 ⟨O, P, rfl, hs, hb1, hlo⟩
  have hRn := refRcv_new (w := w1) (-1)
  obtain ⟨w2, hw2⟩ : ∃ v, w1.alloc (.cells #[.int .i64 (-1), .int .i64 0, .int .i64 0] 64) = v := ⟨_, rfl⟩
  have hA : Below w1.heap.size w1 w2 := by rw [← hw2]; exact (Below.refl _ _).alloc (Nat.le_refl _) _
  rw [hw2] at hRn
  obtain ⟨PR, hPR⟩ : ∃ x, w1.heap.size = x := ⟨_, rfl⟩
  have HP0 : Hid (Two w w2 O P PR (-1) 0 0) := by
    refine ⟨hs.keep (Same.of_below hA hs.lt), by rw [← hPR]; exact hRn, fun c hc hn => ?_, hlo, ?_, hb1.trans (hA.mono hb1.size)⟩
    · have := hs.lt c hc
      have : c = PR := by simpa using hn
      omega
    · have := hb1.size
      omega
  clear hs hRn hA hlo hb1
  go_wp2_with fail
  clear hw2 hPR
  go_loopw [5] (fun v wr => ∃ (q : Nat) (O : List Nat) (nw a b : Int), q ≤ len ∧ v = .int .i64 q ∧ Hid (Two w wr O P PR nw a b) ∧ Hid (nw ≤ 255 ∧ 0 ≤ a ∧ a ≤ (q : Int) ∧ 0 ≤ b ∧ b ≤ (q : Int))) (fun v _ => len - (intOf v).toNat)
  case atStart => exact ⟨0, O, -1, 0, 0, Nat.zero_le _, rfl, HP0, ⟨by decide, by decide, by decide, by decide, by decide⟩⟩
  case round =>
    obtain ⟨q, O, nw, ta, tb', hq, rfl, HP, HC⟩ := hrel
    by_cases hlt : q < len
    · obtain ⟨rb, off, rfl, hrb, hcell⟩ := HR.out (by rw [HLen.out]; omega)
      have yw := hcell q (by rw [HLen.out]; exact hlt)
      generalize l.getD q 0 = x at yw
      have HY : Hid (∀ v : World, Below w.heap.size w v → v.cell? ⟨rb, off + q, none⟩ = some (.int .i64 x)) := fun v hv => (hv.cell (p := ⟨rb, off + q, none⟩) hrb).trans yw
      have y0 := HY.out wr HP.out.old
      have kk : (q : Int) < (len : Int) := by omega
      obtain ⟨n1, n2, n3, n4, n5⟩ := HC.out
      have stake := fun (v : World) (O' : List Nat) (h : Rcv v O' P nw ta tb') => rcvTake h x ByteArray.empty n1 n2 (by omega) n4 (by omega)
      have rtake := fun (v : World) (h : RefRecv v PR nw ta tb') => refTake_all h x n1 n2 (by omega) n4 (by omega)
      have HC2 : Hid (tkNew (takeB nw x) x nw ≤ 255 ∧ 0 ≤ tkTold (takeB nw x) ta ∧ tkTold (takeB nw x) ta ≤ (q : Int) + 1 ∧ 0 ≤ tkNot (takeB nw x) tb' ∧ tkNot (takeB nw x) tb' ≤ (q : Int) + 1) := by
        refine ⟨tk_in n1, ?_⟩
        unfold tkTold tkNot
        refine ⟨?_, ?_, ?_, ?_⟩ <;> split <;> omega
      generalize takeB nw x = T at stake rtake HC2
      generalize tkNew T x nw = NW at stake rtake HC2
      generalize tkTold T ta = TA at stake rtake HC2
      generalize tkNot T tb' = TN at stake rtake HC2
      have HST : Hid _ := stake
      have HRT : Hid _ := rtake
      have hlw : rb < wr.heap.size := Nat.lt_of_lt_of_le hrb HP.out.old.size
      clear stake rtake hcell yw n1 n2 n3 n4 n5
      go_wp2_with fail
      go_region_held3 (fun u => u.cell? ⟨rb, off + q, none⟩ = some (.int .i64 x)) (go_keep) (first
        | (go_at_call 25; refine (HST.out _ _ (HP.out.drawn 1).s).mono ?_; rintro ev v1 ⟨rfl, O1, hs1, hf1⟩; have HSa : Hid (Rcv v1 O1 P NW TA TN) := hs1; have HRa : Hid (RefRecv v1 PR nw ta tb' ∧ Apart O1 [PR] ∧ (∀ c, c ∈ O1 → w.heap.size ≤ c) ∧ Below w.heap.size w v1) := ⟨(HP.out.drawn 1).r.keep (hf1.same HP.out.ap (HP.out.drawn 1).r.lt), hf1.apart HP.out.ap (HP.out.drawn 1).r.lt, hf1.above HP.out.lo (HP.out.drawn 1).old.size, (HP.out.drawn 1).old.trans (hf1.below HP.out.lo (HP.out.drawn 1).old.size)⟩; have xx := HY.out v1 HRa.out.2.2.2)
        | (go_at_call 26; refine (HRT.out _ HRa.out.1).mono ?_; rintro ev v2 ⟨rfl, hr2, hf2⟩; have HP2 : Hid (Two w v2 O1 P PR NW TA TN) := ⟨HSa.out.keep (hf2.same HRa.out.2.1.symm HSa.out.lt), hr2, HRa.out.2.1, HRa.out.2.2.1, HP.out.lr, HRa.out.2.2.2.trans (hf2.below HP.out.lrs HRa.out.2.2.2.size)⟩; have xy := HY.out v2 HP2.out.old))
      clear HST HRT HSa HRa hs1 hf1 hr2 hf2 xx xy y0 HP
      go_wp2_with fail
      refine (rcvCounts HP2.out.s).mono ?_
      rintro ev v3 ⟨rfl, q3, hv3⟩
      have HP3 : Hid (Two w v3 O1 P PR NW TA TN) := by rw [hv3]; exact HP2.out.drawn q3
      clear HP2 hv3
      have c1 := HP3.out.r.c1
      have c2 := HP3.out.r.c2
      have lpr := HP3.out.r.lp
      go_wp2_with fail
      exact ⟨⟨q + 1, O1, NW, TA, TN, by omega, by go_num, HP3, HC2⟩, by simp [intOf]; omega⟩
    · go_wp2
      go_ret
      exact ⟨rfl, HP.out.old⟩

/-- VlinkTakes answers true, whatever it is asked. -/
theorem takes_any (a : Option Addr) (cap : Nat) (l : List Int) (w : World) (hr : IntRow w a l) (hl : l.length ≤ 9223372036854775807) :
    Calls Try.prog 6 #[.slice a l.length cap] w fun e w' => e = .returned (.bool true) ∧ Below w.heap.size w w' := by
  by_cases h : 300 < l.length
  · exact takes_great a l.length cap w h hl
  · exact takes_walk a l.length cap l w hr rfl (by omega)
end Go.Proofs.Ythcnhfjhppmmdab
