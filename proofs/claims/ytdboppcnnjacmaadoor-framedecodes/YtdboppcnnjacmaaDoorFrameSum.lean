/- The program's Sum: the cyclic sum of bytes. -/
import Derived.Test.YtdboppcnnjacmaaDoorProg
import Derived.Test.YtdboppcnnjacmaaDoorCrc
import Derived.WalkKit
import Derived.WalkSpells
import Derived.WalkLawsBesides
import Derived.Laws.BitsAllLaws
namespace Go.Proofs.YtdboppcnnjacmaaDoor
open Go.RowKit

/-- Bytes in memory (of nothing, if there are none). -/
def ByteRow (w : World) (a : Option Addr) (l : List Nat) : Prop :=
  0 < l.length → ∃ b off, a = some ⟨b, off, none⟩ ∧ b < w.heap.size ∧ ∀ j (h : j < l.length), w.cell? ⟨b, off + j, none⟩ = some (.int .u8 (l[j] : Nat))

theorem wrap_dbl (q : Nat) : IntKind.u16.wrap ((q : Int) * 2) = ((2 * q % 65536 : Nat) : Int) := by
  simp [IntKind.wrap, IntKind.bits, IntKind.signed]; omega
theorem and_pow (q : Nat) : q &&& 32768 = if q.testBit 15 then 32768 else 0 := by
  apply Nat.eq_of_testBit_eq
  intro i
  rw [Nat.testBit_and, show (32768 : Nat) = 2 ^ 15 from rfl, Nat.testBit_two_pow]
  by_cases hi : 15 = i
  · subst hi
    cases h : q.testBit 15
    · simp
    · rw [if_pos rfl, Nat.testBit_two_pow]; simp
  · cases h : q.testBit 15
    · simp [hi]
    · rw [if_pos rfl, Nat.testBit_two_pow]; simp [hi]
theorem and_top {q : Nat} (hq : q < 65536) (h : q.testBit 15 = true) : bits .and .u16 (q : Int) 32768 = 32768 := by
  have := u16_and_nat q 32768 hq (by decide)
  rw [and_pow, h] at this
  simpa using this
theorem and_low {q : Nat} (hq : q < 65536) (h : q.testBit 15 = false) : bits .and .u16 (q : Int) 32768 = 0 := by
  have := u16_and_nat q 32768 hq (by decide)
  rw [and_pow, h] at this
  simpa using this
theorem step_on {q : Nat} (h : q.testBit 15 = true) : bits .xor .u16 (IntKind.u16.wrap ((q : Int) * 2)) 4129 = ((up q : Nat) : Int) := by
  rw [wrap_dbl]
  have := u16_xor_nat (2 * q % 65536) 4129 (Nat.mod_lt _ (by decide)) (by decide)
  unfold up
  rw [if_pos h]
  exact this
theorem step_off {q : Nat} (h : q.testBit 15 = false) : IntKind.u16.wrap ((q : Int) * 2) = ((up q : Nat) : Int) := by
  rw [wrap_dbl]
  unfold up
  rw [h]; simp

set_option maxRecDepth 100000 in
set_option maxHeartbeats 2000000 in
theorem sum_any (a : Option Addr) (cap : Nat) (l : List Nat) (w : World) (hr : ByteRow w a l) (hb : ∀ c ∈ l, c < 256) (hl : l.length ≤ 1000) :
    Calls Tryd.prog 38 #[.slice a l.length cap] w fun e w' => e = .returned (.int .i64 (crcOf 65535 l : Nat)) ∧ w' = w := by
  obtain ⟨n, hn⟩ : ∃ n, l.length = n := ⟨_, rfl⟩
  have HN : Hid (l.length = n) := hn
  rw [hn] at hl ⊢
  clear hn
  go_enter Tryd.func38, Tryd.ntmps38
  go_wp2
  go_loop [3, 9] (fun s i => ∃ k : Nat, k ≤ n ∧ i = .int .i64 k ∧ s = .int .u16 (crcOf 65535 (l.take k) : Nat)) (fun _ i => n - (intOf i).toNat)
  case atStart => exact ⟨0, Nat.zero_le _, rfl, rfl⟩
  case round =>
    obtain ⟨k, hk, rfl, rfl⟩ := hrel
    by_cases hlt : k < n
    · have hkl : k < l.length := by rw [HN.out]; exact hlt
      obtain ⟨b, off, rfl, hbl, hc⟩ := hr (by omega)
      have y0 := hc k hkl
      have hcb := hb l[k] (List.getElem_mem hkl)
      have hs : crcOf 65535 (l.take k) < 65536 := crc_lt _ _ (by decide) (fun x hx => hb x (List.mem_of_mem_take hx))
      have HS : Hid (crcOf 65535 (l.take (k + 1)) = upB (crcOf 65535 (l.take k)) l[k]) := by
        show _ = _
        rw [List.take_succ_eq_append_getElem hkl, crc_snoc]
      clear hc
      generalize l[k] = c at *
      generalize crcOf 65535 (l.take k) = s at *
      have hx : bits .xor .u16 (s : Int) ((c : Int) * 256) = ((s ^^^ c * 256 : Nat) : Int) := by
        have := u16_xor_nat s (c * 256) hs (by omega)
        rw [← this]; congr 1
      have hz : s ^^^ c * 256 < 65536 := Nat.xor_lt_two_pow (n := 16) hs (by omega)
      have HB : Hid (upB s c = ups 8 (s ^^^ c * 256)) := rfl
      generalize s ^^^ c * 256 = z at *
      go_wp2
      go_loop [3, 18] (fun v t => ∃ m : Nat, m ≤ 8 ∧ t = .int .i64 m ∧ v = .int .u16 (ups m z : Nat)) (fun _ t => 8 - (intOf t).toNat)
      case atStart => exact ⟨0, Nat.zero_le _, rfl, rfl⟩
      case round =>
        obtain ⟨m, hm, rfl, rfl⟩ := hrel
        by_cases hm8 : m < 8
        · have hq : ups m z < 65536 := ups_lt m z hz
          have HQ : Hid (ups (m + 1) z = up (ups m z)) := by show _ = _; rw [ups_add]; rfl
          generalize ups m z = q at *
          by_cases hbit : q.testBit 15 = true
          · have ha : bits .and .u16 (q : Int) 32768 = 32768 := and_top hq hbit
            go_wp2
            refine ⟨⟨m + 1, by omega, by go_num, ?_⟩, by simp [intOf]; omega⟩
            rw [HQ.out, step_on hbit]
          · have ha : bits .and .u16 (q : Int) 32768 = 0 := and_low hq (by simpa using hbit)
            go_wp2
            refine ⟨⟨m + 1, by omega, by go_num, ?_⟩, by simp [intOf]; omega⟩
            rw [HQ.out, step_off (by simpa using hbit)]
        · have hm' : m = 8 := by omega
          subst hm'
          go_wp2
          refine ⟨⟨k + 1, by omega, by go_num, ?_⟩, by simp [intOf]; omega⟩
          rw [HS.out, HB.out]
    · have hk' : k = n := by omega
      have hs : crcOf 65535 l < 65536 := crc_lt _ _ (by decide) hb
      have e : l.take k = l := List.take_of_length_le (by rw [HN.out]; omega)
      have hk2 : decide ((k : Int) < (n : Int)) = false := decide_eq_false (by omega)
      clear hk'
      rw [e]
      go_wp2
      go_ret
      exact ⟨rfl, rfl⟩
end Go.Proofs.YtdboppcnnjacmaaDoor
