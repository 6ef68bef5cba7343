/- FrameBurst, walked: of every frame, place and bits it answers true. -/
import Derived.Test.YtdboppcnnjacmaaFrameBackWords
namespace Go.Proofs.Ytdboppcnnjacmaa
open Go.RowKit Go.Lib

theorem fpick_val (a : Int) (n : Nat) (h1 : 1 ≤ n) (h2 : n ≤ 100000) : ∃ k : Nat, k < n ∧ wrap64 ((IntKind.u64.wrap a).tmod n) = (k : Int) := by
  have h0 : 0 ≤ IntKind.u64.wrap a := by
    simp [IntKind.wrap, IntKind.bits, IntKind.signed]
    omega
  have e : (IntKind.u64.wrap a).tmod n = IntKind.u64.wrap a % n := Int.tmod_eq_emod_of_nonneg h0
  have g1 : 0 ≤ IntKind.u64.wrap a % (n : Int) := Int.emod_nonneg _ (by omega)
  have g2 : IntKind.u64.wrap a % (n : Int) < n := Int.emod_lt_of_pos _ (by omega)
  refine ⟨(IntKind.u64.wrap a % (n : Int)).toNat, by omega, ?_⟩
  rw [e]
  generalize IntKind.u64.wrap a % (n : Int) = x at g1 g2 ⊢
  have : wrap64 x = x := by
    simp [wrap64]
    omega
  rw [this]; omega
set_option maxHeartbeats 1000000 in
theorem fpick_any (a N : Int) (n k : Nat) (hN : N = (n : Int)) (h1 : 1 ≤ n) (h2 : n ≤ 100000) (hk : wrap64 ((IntKind.u64.wrap a).tmod n) = (k : Int)) (w : World) : Calls Try.prog 13 #[.int .i64 a, .int .i64 N] w fun ev w' => ev = .returned (.int .i64 k) ∧ w' = w := by
  subst hN
  have k1 : (1 : Int) ≤ (n : Int) := by omega
  have k2 : (n : Int) ≤ 100000 := by omega
  go_enter Try.func13, Try.ntmps13
  go_wp2
  go_ret
  exact ⟨by rw [← hk]; rfl, rfl⟩

theorem OwnB.free {w : World} {base n g cap : Nat} {l : List Nat} (h : OwnB w base (.slice (some ⟨g, 0, none⟩) n cap) l) : Fz g w := by
  rcases h.2 with ⟨h1, _⟩ | ⟨g', cap', cur, hv, _, h2, _⟩
  · cases h1
  · cases hv
    intro o
    unfold World.frozen?
    rw [h2]
    simp

theorem row_set {w : World} {g q x : Nat} {l : List Nat} (h : ByteRow w (some ⟨g, 0, none⟩) l) (hq : q < l.length) : ByteRow (w.setCell ⟨g, q, none⟩ (.int .u8 (x : Nat))) (some ⟨g, 0, none⟩) (l.set q x) := fun hn => by
  obtain ⟨b, off, e, hb, hc⟩ := h (by omega)
  cases e
  refine ⟨g, 0, rfl, by simpa using hb, fun j hj => ?_⟩
  have hj' : j < l.length := by simpa using hj
  have c1 := hc j hj'
  simp only [Nat.zero_add] at c1 ⊢
  by_cases hjq : q = j
  · subst hjq
    rw [World.cell?_setCell_same (h := c1)]
    simp
  · rw [World.cell?_setCell_other (h := by intro e; cases e; exact hjq rfl), c1]
    simp [hjq]
theorem and_bit (m k : Nat) (h : m < 65536) : bits .and .i64 ((1 + (m : Int)) / 2 ^ k) 1 = if (m + 1).testBit k then 1 else 0 := by
  have e1 : (1 + (m : Int)) / 2 ^ k = (((m + 1) / 2 ^ k : Nat) : Int) := by
    rw [Int.natCast_ediv, Int.natCast_pow]
    congr 1
    omega
  have h2 : (m + 1) / 2 ^ k ≤ m + 1 := Nat.div_le_self _ _
  rw [e1]
  have h3 := i64_and_nat ((m + 1) / 2 ^ k) 1 (by omega) (by omega)
  rw [Nat.and_one_is_mod] at h3
  rw [show ((1 : Nat) : Int) = 1 from rfl] at h3
  rw [h3, Nat.testBit_eq_decide_div_mod_eq]
  by_cases hh : (m + 1) / 2 ^ k % 2 = 1
  · simp [hh]
  · have : (m + 1) / 2 ^ k % 2 = 0 := by omega
    simp [this]
theorem msk_val (r : Nat) : (128 : Int) / 2 ^ r = ((128 / 2 ^ r : Nat) : Int) := by
  rw [Int.natCast_ediv, Int.natCast_pow]; rfl

set_option maxRecDepth 100000 in
set_option maxHeartbeats 4000000 in
theorem fburst_any (node slot members link seq : Int) (S : ByteArray) (pl bt : Int) (w : World) (hS : S.size ≤ maxLen) :
    Calls Try.prog 6 #[.agg #[.int .i64 node, .int .i64 slot, .int .i64 members, .int .i64 link, .int .i64 seq, .string S], .int .i64 pl, .int .i64 bt] w fun e w' => e = .returned (.bool true) ∧ Below w.heap.size w w' := by
  have hV : Below w.heap.size w (w.alloc (.cells #[.int .i64 node, .int .i64 slot, .int .i64 members, .int .i64 link, .int .i64 seq, .string S] 44)) := (Below.refl _ _).alloc (Nat.le_refl _) _
  have hC := box6 node slot members link seq S w 44
  have HM : Hid (S.size ≤ maxLen) := hS
  unfold maxLen at hS
  by_cases h1 : 100 < S.size
  · have h2 : (100 : Int) < (S.size : Int) := by omega
    clear hC
    go_enter Try.func6, Try.ntmps6
    go_wp2_with fail
    go_ret
    exact ⟨rfl, hV⟩
  · have h2 : decide ((100 : Int) < (S.size : Int)) = false := decide_eq_false (by omega)
    by_cases hm : mayB node slot members link seq S.size = true
    · have hL := encB_len hm
      have hlt := encB_lt hm
      have h0 := encB_crc node slot members link seq S
      have HE : Hid (∀ u, Calls Try.prog 15 #[.agg #[.int .i64 node, .int .i64 slot, .int .i64 members, .int .i64 link, .int .i64 seq, .string S]] u fun e w' => ∃ v, e = .returned (.tuple #[v, .nilIface]) ∧ OwnB w' u.heap.size v (encB node slot members link seq S) ∧ Below u.heap.size u w') := fun u => encode_yes node slot members link seq S u hm
      clear hm
      generalize encB node slot members link seq S = L at HE hL hlt h0
      go_enter Try.func6, Try.ntmps6
      go_wp2_with fail
      generalize w.alloc (.cells #[.int .i64 node, .int .i64 slot, .int .i64 members, .int .i64 link, .int .i64 seq, .string S] 44) = V at hV hC ⊢
      have hVz : w.heap.size ≤ V.heap.size := hV.size
      refine (HE.out _).mono ?_
      clear HE
      rintro e w1 ⟨v, rfl, ho, hb1⟩
      replace hV := below_on hV hb1
      clear hb1 hC
      obtain ⟨g, c2, rfl, hg, hrow⟩ := ho.row (by omega)
      have hcap : L.length ≤ c2 := ho.cap_le
      have hfz : Fz g w1 := ho.free
      obtain ⟨n, hn⟩ : ∃ n, L.length = n := ⟨_, rfl⟩
      rw [hn] at hL hcap ⊢
      have HN : Hid (L.length = n) := hn
      clear hn
      have HR : Hid (ByteRow w1 (some ⟨g, 0, none⟩) L) := hrow
      have HLT : Hid (∀ c ∈ L, c < 256) := hlt
      have HZ : Hid (crcOf 65535 L = 0) := h0
      clear ho hrow hlt h0
      go_wp2_with fail
      refine (sent_any _).mono ?_
      rintro e w2 ⟨rfl, hb2⟩
      have hR2 : Hid (ByteRow w2 (some ⟨g, 0, none⟩) L) := HR.out.below hb2
      have hg1 : g < w1.heap.size := by
        obtain ⟨b, off, e, hlt, _⟩ := HR.out (by rw [HN.out]; omega)
        cases e; exact hlt
      replace hfz := hfz.below hb2 hg1
      have hg2 : g < w2.heap.size := Nat.lt_of_lt_of_le hg1 hb2.size
      replace hV := below_on hV hb2
      clear hb2 HR hg1
      have m1 : (7 : Int) ≤ (n : Int) := by omega
      have m2 : (n : Int) ≤ 49 := by omega
      go_wp2_with fail
      obtain ⟨a0, ha0, hp0⟩ := fpick_val pl (8 * n - 15) (by omega) (by omega)
      refine (fpick_any pl _ (8 * n - 15) a0 (by omega) (by omega) (by omega) hp0 _).mono ?_
      clear hp0
      rintro e w3 ⟨rfl, rfl⟩
      go_wp2_with fail
      obtain ⟨b0, hb0, hp0⟩ := fpick_val bt 65535 (by omega) (by omega)
      refine (fpick_any bt _ 65535 b0 rfl (by omega) (by omega) hp0 _).mono ?_
      clear hp0
      rintro e w4 ⟨rfl, rfl⟩
      have m3 : (b0 : Int) < 65535 := by omega
      have m4 : (a0 : Int) < 8 * (n : Int) - 15 := by omega
      go_wp2_with fail
      rename World => w9
      go_loopw [9] (fun t wr => ∃ (k : Nat) (l : List Nat), k ≤ 16 ∧ t = .int .i64 k ∧ Hid (ByteRow wr (some ⟨g, 0, none⟩) l) ∧ Hid (l.length = n) ∧ Hid (∀ c ∈ l, c < 256) ∧ Hid (crcOf 65535 l = crcOf 65535 L ^^^ ups (8 * L.length - a0) (burst (b0 + 1) k)) ∧ Fz g wr ∧ g < wr.heap.size ∧ Below w.heap.size w wr) (fun t _ => 16 - (intOf t).toNat)
      case atStart => exact ⟨0, L, by omega, rfl, hR2, HN, HLT, by show _ = _; rw [burst, ups_zero, Nat.xor_zero], hfz, hg2, hV⟩
      case round =>
        clear hR2 hfz hg2 hV
        obtain ⟨k, l, hk, rfl, hrow, hln, hlt, hcrc, hfz, hgs, hbe⟩ := hrel
        by_cases hk16 : k < 16
        · have k3 : (k : Int) < 16 := by omega
          have hab := and_bit b0 k (by omega)
          by_cases hbit : (b0 + 1).testBit k = true
          · rw [if_pos hbit] at hab
            have HB : Hid ((b0 + 1).testBit k = true) := hbit
            clear hbit
            obtain ⟨i, hi⟩ : ∃ i : Nat, i = a0 + k := ⟨_, rfl⟩
            obtain ⟨q, hq⟩ : ∃ q : Nat, q = i / 8 := ⟨_, rfl⟩
            obtain ⟨r, hr⟩ : ∃ r : Nat, r = i % 8 := ⟨_, rfl⟩
            have hil : i < 8 * n := by omega
            have e1 : (a0 : Int) + (k : Int) = (i : Int) := by omega
            have e2 : (i : Int) / 8 = (q : Int) := by omega
            have e3 : (i : Int) % 8 = (r : Int) := by omega
            have e4 := msk_val r
            have hql : q < l.length := by rw [hln.out]; omega
            obtain ⟨c, hcq⟩ : ∃ c, c = l[q] := ⟨_, rfl⟩
            obtain ⟨m, hme⟩ : ∃ m, m = 128 / 2 ^ r := ⟨_, rfl⟩
            have hc256 : c < 256 := by rw [hcq]; exact hlt.out _ (List.getElem_mem hql)
            have hm256 : m < 256 := by have := Nat.div_le_self 128 (2 ^ r); omega
            rw [← hme] at e4
            have e5 := u8_xor_nat c m hc256 hm256
            have y : wr.cell? ⟨g, q, none⟩ = some (.int .u8 c) := by
              obtain ⟨b, off, e, _, hcc⟩ := hrow.out (by omega)
              cases e
              have := hcc q hql
              simpa [hcq] using this
            have fz := hfz q
            have hqn : q < n := by omega
            have HQ : Hid (crcOf 65535 (l.set q (c ^^^ m)) = crcOf 65535 L ^^^ ups (8 * L.length - a0) (burst (b0 + 1) (k + 1))) := by
              show _ = _
              have hjl : (a0 + k) / 8 < l.length := by rw [← hi, ← hq]; exact hql
              have := flip_step l L 65535 a0 (b0 + 1) k (by rw [hln.out, HN.out]) (by rw [HN.out]; omega) hcrc.out hk16 HB.out hjl
              simp only [← hi, ← hq, ← hr, ← hme] at this
              rw [← hcq] at this
              exact this
            have hcm : c ^^^ m < 256 := Nat.xor_lt_two_pow (n := 8) hc256 hm256
            have HI : Hid (i = a0 + k) := hi
            clear hi hq hr hcq hme hcrc
            generalize c ^^^ m = x at e5 HQ hcm
            have k4 : (i : Int) < 392 := by omega
            have k5 : (q : Int) < (n : Int) := by omega
            have k6 : (r : Int) < 8 := by omega
            go_wp2_with fail
            go_region
            go_wp2_with fail
            have r1 : Hid (ByteRow (wr.setCell ⟨g, q, none⟩ (.int .u8 x)).drew (some ⟨g, 0, none⟩) (l.set q x)) := row_set hrow.out hql
            have r2 : Hid ((l.set q x).length = n) := by show _ = _; rw [List.length_set]; exact hln.out
            have r3 : Hid (∀ c ∈ l.set q x, c < 256) := fun c hc => by
              rcases List.mem_or_eq_of_mem_set hc with h | h
              · exact hlt.out c h
              · rw [h]; exact hcm
            have r4 : Fz g (wr.setCell ⟨g, q, none⟩ (.int .u8 x)).drew := fun o => by simpa using hfz o
            exact ⟨⟨k + 1, l.set q x, by omega, by go_num, r1, r2, r3, HQ, r4, by simpa using hgs, (hbe.setCell (by show w.heap.size ≤ g; omega) _).drew⟩, by simp [intOf]; omega⟩
          · rw [if_neg hbit] at hab
            have HQ : Hid (crcOf 65535 l = crcOf 65535 L ^^^ ups (8 * L.length - a0) (burst (b0 + 1) (k + 1))) := by
              show _ = _
              rw [burst_off _ _ (by simpa using hbit)]
              exact hcrc.out
            clear hbit hcrc
            go_wp2_with fail
            exact ⟨⟨k + 1, l, by omega, by go_num, hrow, hln, hlt, HQ, hfz, hgs, hbe⟩, by simp [intOf]; omega⟩
        · have hk' : k = 16 := by omega
          have hne : crcOf 65535 l ≠ 0 := burst_seen l L 65535 a0 (b0 + 1) (hk' ▸ hcrc.out) HZ.out (by omega) (by omega)
          have HD := decode_no (some ⟨g, 0, none⟩) c2 l wr hrow.out hlt.out (by rw [hln.out]; exact hcap) (by rw [hln.out]; omega) (fun _ _ _ _ _ _ he => hne (by rw [he.2]; exact encB_crc _ _ _ _ _ _))
          rw [hln.out] at HD
          have HD' : Hid (Calls Try.prog 17 _ wr _) := HD
          have k3 : decide ((k : Int) < 16) = false := decide_eq_false (by omega)
          clear HD hne hcrc hk'
          go_wp2_with fail
          refine HD'.out.mono ?_
          clear HD'
          rintro e w5 ⟨rfl, hb5⟩
          go_wp2_with fail
          go_ret
          exact ⟨rfl, below_on hbe hb5⟩
    · have HE : Hid (∀ u, Calls Try.prog 15 #[.agg #[.int .i64 node, .int .i64 slot, .int .i64 members, .int .i64 link, .int .i64 seq, .string S]] u fun e w' => e = .returned (.tuple #[.slice none 0 0, .iface 50 (.int .i64 1)]) ∧ Below u.heap.size u w') := fun u => encode_no node slot members link seq S u HM.out (by simpa using hm)
      clear hm
      go_enter Try.func6, Try.ntmps6
      go_wp2_with fail
      generalize w.alloc (.cells #[.int .i64 node, .int .i64 slot, .int .i64 members, .int .i64 link, .int .i64 seq, .string S] 44) = V at hV hC ⊢
      refine (HE.out _).mono ?_
      rintro e w1 ⟨rfl, hb1⟩
      replace hV := below_on hV hb1
      clear hb1 HE hC
      go_wp2_with fail
      refine (sent_any _).mono ?_
      rintro e w2 ⟨rfl, hb2⟩
      replace hV := below_on hV hb2
      clear hb2
      go_wp2_with fail
      refine (sent_any _).mono ?_
      rintro e w3 ⟨rfl, hb3⟩
      go_wp2_with fail
      go_ret
      exact ⟨rfl, below_on hV hb3⟩
end Go.Proofs.Ytdboppcnnjacmaa
