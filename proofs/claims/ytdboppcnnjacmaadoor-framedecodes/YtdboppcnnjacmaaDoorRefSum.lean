/- The document's answer's Sum, bit by bit: the cyclic sum of bytes. -/
import Derived.Test.YtdboppcnnjacmaaDoorFrameSum
import Derived.Test.YtdboppcnnjacmaaDoorFrameBits
namespace Go.Proofs.YtdboppcnnjacmaaDoor
open Go.RowKit

theorem top_bit (v : Nat) (h : v < 65536) : v.testBit 15 = decide (v / 32768 = 1) := by
  rw [Nat.testBit_eq_decide_div_mod_eq]
  have h2 : v / 32768 < 2 := by omega
  have : v / 2 ^ 15 % 2 = v / 32768 := by omega
  rw [this]
theorem up_bit (v b : Nat) (hv : v < 65536) (hb : b < 2) : up (v ^^^ b * 32768) = if b ^^^ v / 32768 = 1 then (2 * v % 65536) ^^^ 4129 else 2 * v % 65536 := by
  have ht := top_bit v hv
  have h2 : v / 32768 < 2 := by omega
  have hd : 2 * (v ^^^ b * 32768) % 65536 = 2 * v % 65536 := by
    rw [dbl_xor, show 2 * (b * 32768) % 65536 = 0 by omega, Nat.xor_zero]
  have hz : (v ^^^ b * 32768).testBit 15 = decide (b ^^^ v / 32768 = 1) := by
    rw [Nat.testBit_xor, ht]
    generalize v / 32768 = q at h2
    have h3 : b = 0 ∨ b = 1 := by omega
    have h4 : q = 0 ∨ q = 1 := by omega
    clear ht hd
    rcases h3 with rfl | rfl <;> rcases h4 with rfl | rfl <;> decide
  unfold up
  rw [hz, hd]
  by_cases h : b ^^^ v / 32768 = 1
  · rw [if_pos h, if_pos (decide_eq_true h)]
  · rw [if_neg h, if_neg (by simpa using h)]
theorem shr_val (c i : Nat) : (c : Int) / 2 ^ i = ((c / 2 ^ i : Nat) : Int) := by rw [Int.natCast_ediv, Int.natCast_pow]; rfl
theorem and_bit0 (c : Nat) (h : c < 256) : bits .and .i64 (c : Int) 1 = ((c % 2 : Nat) : Int) := by
  have h3 := i64_and_nat c 1 (by omega) (by omega)
  rw [Nat.and_one_is_mod] at h3
  exact h3
theorem xor_top (b v : Nat) (hb : b < 2) (hv : v < 65536) : bits .xor .i64 (b : Int) ((v : Int) / 32768) = ((b ^^^ v / 32768 : Nat) : Int) := by
  have h := i64_xor_nat b (v / 32768) (by omega) (by omega)
  rw [← h]; congr 1
theorem and_low16 (v : Nat) (hv : v < 65536) : bits .and .i64 ((v : Int) * 2) 65535 = ((2 * v % 65536 : Nat) : Int) := by
  have h := i64_and_nat (v * 2) 65535 (by omega) (by omega)
  have e : v * 2 &&& 65535 = 2 * v % 65536 := by
    have := Nat.and_two_pow_sub_one_eq_mod (v * 2) 16
    rw [Nat.mul_comm 2 v]; exact this
  rw [e] at h
  rw [← h]; congr 1

set_option maxRecDepth 100000 in
set_option maxHeartbeats 2000000 in
theorem refSum_any (a : Option Addr) (cap : Nat) (l : List Nat) (w : World) (hr : ByteRow w a l) (hb : ∀ c ∈ l, c < 256) (hl : l.length ≤ 1000) :
    Calls Tryd.prog 39 #[.slice a l.length cap] w fun e w' => e = .returned (.int .i64 (crcOf 65535 l : Nat)) ∧ w' = w := by
  obtain ⟨n, hn⟩ : ∃ n, l.length = n := ⟨_, rfl⟩
  have HN : Hid (l.length = n) := hn
  rw [hn] at hl ⊢
  clear hn
  go_enter Tryd.func39, Tryd.ntmps39
  go_wp2
  go_loop [3, 10] (fun s i => ∃ k : Nat, k ≤ n ∧ i = .int .i64 k ∧ s = .int .i64 (crcOf 65535 (l.take k) : Nat)) (fun _ i => n - (intOf i).toNat)
  case atStart => exact ⟨0, Nat.zero_le _, rfl, rfl⟩
  case round =>
    obtain ⟨k, hk, rfl, rfl⟩ := hrel
    by_cases hlt : k < n
    · have hkl : k < l.length := by rw [HN.out]; exact hlt
      obtain ⟨b, off, rfl, hbl, hc⟩ := hr (by omega)
      have y0 := hc k hkl
      have hcb := hb l[k] (List.getElem_mem hkl)
      have hs : crcOf 65535 (l.take k) < 65536 := crc_lt _ _ (by decide) (fun x hx => hb x (List.mem_of_mem_take hx))
      have HS : Hid (crcOf 65535 (l.take (k + 1)) = upB (crcOf 65535 (l.take k)) l[k]) := by
        show _ = _
        rw [List.take_succ_eq_append_getElem hkl, crc_snoc]
      clear hc
      generalize l[k] = c at *
      generalize crcOf 65535 (l.take k) = s at *
      go_wp2
      go_loop [3, 6] (fun v t => ∃ j : Nat, j ≤ 8 ∧ t = .int .i64 ((j : Int) - 1) ∧ v = .int .i64 (upT s c (8 - j) : Nat)) (fun _ t => (intOf t + 1).toNat)
      case atStart => exact ⟨8, Nat.le_refl _, rfl, by show _ = Value.int .i64 (upT s c 0 : Nat); rw [upT_zero s c hcb]⟩
      case round =>
        obtain ⟨j, hj, rfl, rfl⟩ := hrel
        rcases Nat.eq_zero_or_pos j with rfl | hj1
        · have e8 := upT_eight s c
          rw [Nat.sub_zero, e8]
          go_wp2
          refine ⟨⟨k + 1, by omega, by go_num, ?_⟩, by simp [intOf]; omega⟩
          rw [HS.out]
        · obtain ⟨i, rfl⟩ : ∃ i, j = i + 1 := ⟨j - 1, by omega⟩
          have ei : ((i + 1 : Nat) : Int) - 1 = (i : Int) := by omega
          have hv : upT s c (8 - (i + 1)) < 65536 := ups_lt _ _ (Nat.xor_lt_two_pow (n := 16) hs (by
            have h1 : c / 2 ^ (8 - (8 - (i + 1))) * 2 ^ (16 - (8 - (i + 1))) ≤ 65535 := by
              have e1 : 16 - (8 - (i + 1)) = (i + 1) + 8 := by omega
              have e2 : 8 - (8 - (i + 1)) = i + 1 := by omega
              rw [e1, e2, Nat.pow_add 2 (i + 1) 8, ← Nat.mul_assoc]
              have := Nat.div_mul_le_self c (2 ^ (i + 1))
              have : c / 2 ^ (i + 1) * 2 ^ (i + 1) * 2 ^ 8 ≤ 255 * 2 ^ 8 := Nat.mul_le_mul_right _ (by omega)
              omega
            omega))
          have HT : Hid (upT s c (8 - i) = up (upT s c (8 - (i + 1)) ^^^ (c / 2 ^ i % 2) * 32768)) := by
            show _ = _
            have := upT_succ s c (8 - (i + 1)) (by omega)
            rw [show 8 - (i + 1) + 1 = 8 - i by omega, show 7 - (8 - (i + 1)) = i by omega] at this
            exact this
          generalize upT s c (8 - (i + 1)) = v at hv HT
          have q0 := shr_val c i
          have hci : c / 2 ^ i < 256 := Nat.lt_of_le_of_lt (Nat.div_le_self _ _) hcb
          generalize c / 2 ^ i = ci at q0 hci HT
          have q1 := and_bit0 ci hci
          have hb2 : ci % 2 < 2 := Nat.mod_lt _ (by decide)
          generalize ci % 2 = d at q1 hb2 HT
          have k4 : (ci : Int) < 256 := by omega
          have k5 : (d : Int) < 2 := by omega
          have q2 := xor_top d v hb2 hv
          have q3 := and_low16 v hv
          have hU := up_bit v d hv hb2
          have HU : Hid (up (v ^^^ d * 32768) = if d ^^^ v / 32768 = 1 then (2 * v % 65536) ^^^ 4129 else 2 * v % 65536) := hU
          have hx2 : d ^^^ v / 32768 < 2 := Nat.xor_lt_two_pow (n := 1) hb2 (by omega)
          have hd2 : 2 * v % 65536 < 65536 := Nat.mod_lt _ (by decide)
          generalize d ^^^ v / 32768 = x at q2 HU hx2
          generalize 2 * v % 65536 = z at q3 HU hd2
          have q4 := i64_xor_nat z 4129 (by omega) (by omega)
          clear hU
          have k1 : (c : Int) < 256 := by omega
          have k2 : (v : Int) < 65536 := by omega
          have k3 : (i : Int) < 8 := by omega
          rw [ei]
          clear ei
          rcases (show x = 1 ∨ x = 0 by omega) with rfl | rfl
          · go_wp2
            refine ⟨⟨i, by omega, rfl, ?_⟩, by simp [intOf]⟩
            rw [HT.out, HU.out, if_pos rfl]
            exact congrArg _ q4
          · go_wp2
            refine ⟨⟨i, by omega, rfl, ?_⟩, by simp [intOf]⟩
            rw [HT.out, HU.out, if_neg (by decide)]
    · have hk' : k = n := by omega
      have e : l.take k = l := List.take_of_length_le (by rw [HN.out]; omega)
      have hk2 : decide ((k : Int) < (n : Int)) = false := decide_eq_false (by omega)
      clear hk'
      rw [e]
      go_wp2
      go_ret
      exact ⟨rfl, rfl⟩
end Go.Proofs.YtdboppcnnjacmaaDoor
