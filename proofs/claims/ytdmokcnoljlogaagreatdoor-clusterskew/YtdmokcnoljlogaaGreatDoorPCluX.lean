/- The program's cluster: lost, to whom what is sent is lost (10.3). -/
import Derived.Test.YtdmokcnoljlogaaGreatDoorPCluH
import Derived.Test.YtdmokcnoljlogaaGreatDoorWordsB
import Derived.OwnWalk
namespace Go.Proofs.YtdmokcnoljlogaaGreatDoor
open Go.RowKit

theorem bitI_nat (x : Int) {j : Nat} (hj : j ≤ 62) : bitI x j = (x % 18446744073709551616).toNat.testBit j := by
  obtain ⟨X, hX⟩ : ∃ X : Nat, (x % 18446744073709551616).toNat = X := ⟨_, rfl⟩
  rw [hX, Nat.testBit_eq_decide_div_mod_eq]
  unfold bitI
  obtain ⟨q, hqx⟩ : ∃ q : Int, x = X + 18446744073709551616 * q := ⟨x / 18446744073709551616, by omega⟩
  have hpos : (0 : Int) < 2 ^ j := by rw [pow_cast]; exact_mod_cast Nat.two_pow_pos j
  have h64 : (18446744073709551616 : Int) = 2 ^ j * (2 * 2 ^ (63 - j)) := by
    have : (2 : Int) ^ j * (2 * 2 ^ (63 - j)) = 2 ^ (j + (1 + (63 - j))) := by rw [Int.pow_add, Int.pow_add]; rfl
    rw [this, show j + (1 + (63 - j)) = 64 by omega]
    decide
  have h2 : x / 2 ^ j = (X : Int) / 2 ^ j + 2 * 2 ^ (63 - j) * q := by
    rw [hqx, h64, Int.mul_assoc, Int.add_mul_ediv_left _ _ (by omega)]
  have h3 : x / 2 ^ j % 2 = (X : Int) / 2 ^ j % 2 := by
    rw [h2, Int.mul_assoc, Int.add_mul_emod_self_left]
  rw [h3, pow_cast]
  congr 1
  apply propext
  constructor
  · intro h; exact_mod_cast h
  · intro h; exact_mod_cast h
/-- A bit of two numbers' bits together. -/
theorem or_bitI (a b : Int) {j : Nat} (hj : j ≤ 62) : bitI (bits BinOp.or .i64 a b) j = (bitI a j || bitI b j) := by
  have e : bits BinOp.or .i64 a b = IntKind.i64.wrap (((a % 18446744073709551616).toNat ||| (b % 18446744073709551616).toNat : Nat) : Int) := by
    show IntKind.i64.wrap ((BitVec.ofInt 64 a ||| BitVec.ofInt 64 b).toNat : Int) = _
    rw [BitVec.toNat_or, ofInt_any, ofInt_any]
  have hlt : ((a % 18446744073709551616).toNat ||| (b % 18446744073709551616).toNat) < 2 ^ 64 := Nat.or_lt_two_pow (by omega) (by omega)
  rw [bitI_nat _ hj, bitI_nat _ hj, bitI_nat _ hj, e, ← Nat.testBit_or]
  generalize (a % 18446744073709551616).toNat ||| (b % 18446744073709551616).toNat = N at *
  congr 1
  simp [IntKind.wrap, IntKind.bits, IntKind.signed]
  omega

/-- What is lost in a slot, on a channel, by the first losses (as bits). -/
def lostF (r : RoundN) : Nat → Nat → Nat → Int
  | 0, _, _ => 0
  | k + 1, i, c => if r.ls k = i ∧ r.lc k = c then bits BinOp.or .i64 (lostF r k i c) (r.lt k) else lostF r k i c
theorem lostF_bit (r : RoundN) (i c : Nat) {j : Nat} (hj : j ≤ 62) : ∀ k, bitI (lostF r k i c) j = (List.range k).any fun x => decide (r.ls x = i) && (decide (r.lc x = c) && bitI (r.lt x) j) := by
  intro k
  induction k with
  | zero => simp [lostF, bitI]
  | succ k ih =>
    rw [List.range_succ, List.any_append, ← ih]
    show bitI (if r.ls k = i ∧ r.lc k = c then _ else _) j = _
    by_cases h : r.ls k = i ∧ r.lc k = c
    · rw [if_pos h, or_bitI _ _ hj]
      simp [h.1, h.2]
    · rw [if_neg h]
      by_cases h1 : r.ls k = i
      · have h2 : r.lc k ≠ c := fun e => h ⟨h1, e⟩
        simp [h2]
      · simp [h1]

/-- The table of what is lost, in memory. -/
structure LTab (w : World) (T ns : Nat) (f : Nat → Nat → Int) : Prop where
  c : ∀ i c, i < ns → c < 2 → w.cell? ⟨T, i * 2 + c, none⟩ = some (.int .i64 (f i c))
  z : ∀ i, w.frozen? ⟨T, i, none⟩ = false
  lt : T < w.heap.size
theorem LTab.below {w w' : World} {T ns : Nat} {f : Nat → Nat → Int} (h : LTab w T ns f) (k : Below w.heap.size w w') : LTab w' T ns f :=
  ⟨fun i c hi hc => (k.cell (p := ⟨T, i * 2 + c, none⟩) h.lt).trans (h.c i c hi hc), fun i => (k.frozen (p := ⟨T, i, none⟩) h.lt).trans (h.z i), Nat.lt_of_lt_of_le h.lt k.size⟩

theorem LTab.set {w : World} {T ns : Nat} {f g : Nat → Nat → Int} (h : LTab w T ns f) {i c : Nat} {x : Int} (hi : i < ns) (hc : c < 2) (hg : ∀ i' c', i' < ns → c' < 2 → g i' c' = if i' = i ∧ c' = c then x else f i' c') : LTab (w.setCell ⟨T, i * 2 + c, none⟩ (.int .i64 x)).drew T ns g := by
  refine ⟨fun i' c' hi' hc' => ?_, fun j => soft_set.trans (h.z j), ?_⟩
  · show (w.setCell ⟨T, i * 2 + c, none⟩ (.int .i64 x)).cell? ⟨T, i' * 2 + c', none⟩ = _
    rw [hg i' c' hi' hc']
    by_cases e : i' = i ∧ c' = c
    · obtain ⟨rfl, rfl⟩ := e
      rw [if_pos ⟨rfl, rfl⟩]
      exact cell_set (h.c i' c' hi hc)
    · rw [if_neg e]
      have : i' * 2 + c' ≠ i * 2 + c := fun y => e (by omega)
      exact (cell_other (.inr this)).trans (h.c i' c' hi' hc')
  · have := h.lt
    show T < (w.setCell ⟨T, i * 2 + c, none⟩ (.int .i64 x)).heap.size
    simpa using this
theorem LTab.agree {w : World} {T ns : Nat} {f g : Nat → Nat → Int} (h : LTab w T ns f) (hg : ∀ i c, i < ns → c < 2 → g i c = f i c) : LTab w T ns g := ⟨fun i c hi hc => by rw [hg i c hi hc]; exact h.c i c hi hc, h.z, h.lt⟩
theorem Tryz.infoPair : (Tryz.prog.info? 77).map (fun i => (i.zero, i.size, i.bytes)) = some (some (.agg #[.int .i64 0, .int .i64 0]), 2, 16) := by kernel_rfl
theorem box3 (w : World) (a b c : Value) (t : TypeId) : (w.alloc (.cells #[a, b, c] t)).cell? ⟨w.heap.size, 0, none⟩ = some a ∧ (w.alloc (.cells #[a, b, c] t)).cell? ⟨w.heap.size, 1, none⟩ = some b ∧ (w.alloc (.cells #[a, b, c] t)).cell? ⟨w.heap.size, 2, none⟩ = some c ∧ Below w.heap.size w (w.alloc (.cells #[a, b, c] t)) ∧ (w.alloc (.cells #[a, b, c] t)).heap.size = w.heap.size + 1 :=
  ⟨by simp, by simp, by simp, (Below.refl _ _).alloc (Nat.le_refl _) _, by simp⟩

set_option maxRecDepth 100000 in
set_option maxHeartbeats 4000000 in
theorem clost_any (C : Nat) (sa : Option Addr) (ns scap : Nat) (r : RoundN) (a : Option Addr) (cap : Nat) (w : World) (c6 : w.cell? ⟨C, 6, none⟩ = some (.slice sa ns scap)) (hns : ns ≤ 32) (hr : Rows3 w a r.nL r.ls r.lc r.lt) (hL : r.nL ≤ 9223372036854775807) :
    Calls Tryz.prog 18 #[.pointer (some ⟨C, 0, none⟩), .slice a r.nL cap] w fun e w' => ∃ T, e = .returned (.slice (some ⟨T, 0, none⟩) ns ns) ∧ w.heap.size ≤ T ∧ LTab w' T ns (lostF r r.nL) ∧ Below w.heap.size w w' := by
  have hlC := lt_of_cell9 c6
  obtain ⟨i0, hi, hz0, hz1, hz2⟩ := info_parts Tryz.infoPair
  have hmk := run_makeSlice (P := Tryz.prog) w 65 77 i0 _ Tryz.underlying65 hi hz0 .i64 .i64 (ns : Int) (ns : Int) (by omega) (Int.le_refl _) (by rw [hz1]; simp; omega) (by rw [hz2]; omega) (by omega)
  rw [Int.toNat_natCast, hz1] at hmk
  have HT0 : Hid (LTab (w.alloc (.cells (madeCells #[.int .i64 0, .int .i64 0] (ns * 2)) 77)) w.heap.size ns (lostF r 0) ∧ Below w.heap.size w (w.alloc (.cells (madeCells #[.int .i64 0, .int .i64 0] (ns * 2)) 77))) := by
    refine ⟨⟨fun i c hi hc => ?_, fun i => by simp, by simp⟩, (Below.refl _ _).alloc (Nat.le_refl _) _⟩
    have hlt : i * 2 + c < ns * 2 := by omega
    have : c = 0 ∨ c = 1 := by omega
    rcases this with rfl | rfl
    · have hlt : i * 2 < ns * 2 := by omega
      simp [madeCells, hlt, lostF]
    · simp [madeCells, hlt, lostF]
  have HR : Hid (Rows3 w a r.nL r.ls r.lc r.lt) := hr
  have HLn : Hid (r.nL ≤ 9223372036854775807) := hL
  obtain ⟨nL, hnL⟩ : ∃ nL, r.nL = nL := ⟨_, rfl⟩
  have HNL : Hid (r.nL = nL) := hnL
  rw [hnL] at hL ⊢
  clear hr hnL
  go_enter Tryz.func18, Tryz.ntmps18
  go_wp2_with fail
  clear hmk c6
  generalize w.alloc (.cells (madeCells #[.int .i64 0, .int .i64 0] (ns * 2)) 77) = V at *
  go_loopw [17] (fun t wr => ∃ k : Nat, k ≤ nL ∧ t = .int .i64 k ∧ Hid (LTab wr w.heap.size ns (lostF r k) ∧ Below w.heap.size w wr)) (fun t _ => nL - (intOf t).toNat)
  case atStart => exact ⟨0, Nat.zero_le _, rfl, HT0⟩
  case round =>
    obtain ⟨k, hk, rfl, HI⟩ := hrel
    by_cases hlt : k < nL
    · obtain ⟨b, off, rfl, hb, hc⟩ := HR.out (by rw [HNL.out]; omega)
      obtain ⟨x0, x1, x2⟩ := hc k (by rw [HNL.out]; exact hlt)
      have y0 := (HI.out.2.cell (p := ⟨b, off + k * 3, none⟩) hb).trans x0
      have y1 := (HI.out.2.cell (p := ⟨b, off + k * 3 + 1, none⟩) hb).trans x1
      have y2 := (HI.out.2.cell (p := ⟨b, off + k * 3 + 2, none⟩) hb).trans x2
      have hbw : b < wr.heap.size := Nat.lt_of_lt_of_le hb HI.out.2.size
      have kk : (k : Int) < (nL : Int) := by omega
      obtain ⟨q0, q1, q2, qB, qS⟩ := box3 wr (.int .i64 (r.ls k)) (.int .i64 (r.lc k)) (.int .i64 (r.lt k)) 106
      clear x0 x1 x2 hc
      by_cases hin : (0 ≤ r.ls k ∧ r.ls k < ns) ∧ 0 ≤ r.lc k ∧ r.lc k < 2
      · obtain ⟨⟨i1, i2⟩, i3, i4⟩ := hin
        obtain ⟨i, hie⟩ : ∃ i : Nat, r.ls k = i := ⟨(r.ls k).toNat, by omega⟩
        obtain ⟨c, hce⟩ : ∃ c : Nat, r.lc k = c := ⟨(r.lc k).toNat, by omega⟩
        have HIC : Hid (r.ls k = i ∧ r.lc k = c) := ⟨hie, hce⟩
        rw [hie] at i1 i2 q0 q1 q2 qB qS y0
        rw [hce] at i3 i4 q0 q1 q2 qB qS y1
        have ii : i < ns := by omega
        have ic : c < 2 := by omega
        have hTw : w.heap.size < wr.heap.size := HI.out.1.lt
        obtain ⟨LT, hLT⟩ : ∃ LT, r.lt k = LT := ⟨_, rfl⟩
        rw [hLT] at q0 q1 q2 qB qS y2
        have g := (qB.cell (p := ⟨w.heap.size, i * 2 + c, none⟩) hTw).trans (HI.out.1.c i c ii ic)
        have gz := (qB.frozen (p := ⟨w.heap.size, i * 2 + c, none⟩) hTw).trans (HI.out.1.z (i * 2 + c))
        have HQB : Hid _ := qB
        have hV1 : wr.heap.size < (wr.alloc (.cells #[.int .i64 i, .int .i64 c, .int .i64 LT] 106)).heap.size := by rw [qS]; omega
        have hV2 : w.heap.size < (wr.alloc (.cells #[.int .i64 i, .int .i64 c, .int .i64 LT] 106)).heap.size := by rw [qS]; omega
        have hne : wr.heap.size ≠ w.heap.size := by omega
        have hne2 : w.heap.size ≠ wr.heap.size := by omega
        obtain ⟨FV, hFV⟩ : ∃ FV, lostF r k i c = FV := ⟨_, rfl⟩
        rw [hFV] at g
        obtain ⟨OV, hOV⟩ : ∃ OV, bits BinOp.or .i64 FV LT = OV := ⟨_, rfl⟩
        have HL2 : Hid (lostF r (k + 1) i c = OV) := by
          show (if r.ls k = i ∧ r.lc k = c then _ else _) = _
          rw [if_pos HIC.out, hFV, hLT, hOV]
        clear hie hce hLT hFV qB qS
        go_wp2_with fail
        clear y0 y1 y2
        generalize (wr.alloc (.cells #[.int .i64 i, .int .i64 c, .int .i64 LT] 106)) = V1 at *
        have HN : Hid (LTab (V1.setCell ⟨w.heap.size, i * 2 + c, none⟩ (.int .i64 OV)).drew w.heap.size ns (lostF r (k + 1)) ∧ Below w.heap.size w (V1.setCell ⟨w.heap.size, i * 2 + c, none⟩ (.int .i64 OV)).drew) := by
          have hT : Turns w.heap.size w.heap.size V1 (V1.setCell ⟨w.heap.size, i * 2 + c, none⟩ (.int .i64 OV)).drew := ((Turns.refl _ _ _).set (p := ⟨w.heap.size, i * 2 + c, none⟩) (.inl rfl) _).trans (Turns.drawn 1)
          have hb1 : Below w.heap.size w V1 := HI.out.2.trans (HQB.out.mono HI.out.2.size)
          refine ⟨(HI.out.1.below HQB.out).set ii ic (fun i' c' _ _ => ?_), hb1.trans (hT.below hb1.size (Nat.le_refl _) (Nat.le_refl _))⟩
          by_cases e : i' = i ∧ c' = c
          · rw [if_pos e, e.1, e.2]; exact HL2.out
          · rw [if_neg e]
            show (if r.ls k = i' ∧ r.lc k = c' then _ else _) = _
            rw [if_neg]
            rintro ⟨e1, e2⟩
            rw [HIC.out.1] at e1
            rw [HIC.out.2] at e2
            exact e ⟨by omega, by omega⟩
        clear HI HQB HL2
        go_region
        go_wp2
        go_roundw
        case rel => exact ⟨k + 1, by omega, by go_num, HN⟩
        case measure => simp [intOf]; omega
      · have HN : Hid (∀ v, Below wr.heap.size wr v → LTab v w.heap.size ns (lostF r (k + 1)) ∧ Below w.heap.size w v) := fun v hv => by
          refine ⟨(HI.out.1.below hv).agree fun i c h1 h2 => ?_, HI.out.2.trans (hv.mono HI.out.2.size)⟩
          show (if r.ls k = i ∧ r.lc k = c then _ else _) = _
          rw [if_neg]
          rintro ⟨e1, e2⟩
          exact hin ⟨⟨by omega, by omega⟩, by omega, by omega⟩
        have HQB : Hid _ := HN.out _ qB
        clear HI q0 q1 q2 qB qS HN
        generalize r.ls k = LS at *
        generalize r.lc k = LC at *
        generalize r.lt k = LT at *
        by_cases k1 : 0 ≤ LS
        · by_cases k2 : LS < (ns : Int)
          · by_cases k3 : 0 ≤ LC
            · have k4 : decide (LC < 2) = false := decide_eq_false (by omega)
              clear hin
              go_wp2
              go_roundw
              case rel => exact ⟨k + 1, by omega, by go_num, HQB⟩
              case measure => simp [intOf]; omega
            · have k4 : decide (0 ≤ LC) = false := decide_eq_false k3
              clear hin k3
              go_wp2
              go_roundw
              case rel => exact ⟨k + 1, by omega, by go_num, HQB⟩
              case measure => simp [intOf]; omega
          · have k4 : decide (LS < (ns : Int)) = false := decide_eq_false k2
            clear hin k2
            go_wp2
            go_roundw
            case rel => exact ⟨k + 1, by omega, by go_num, HQB⟩
            case measure => simp [intOf]; omega
        · have k4 : decide (0 ≤ LS) = false := decide_eq_false k1
          clear hin k1
          go_wp2
          go_roundw
          case rel => exact ⟨k + 1, by omega, by go_num, HQB⟩
          case measure => simp [intOf]; omega
    · have hkn : k = nL := by omega
      have HD : Hid (LTab wr w.heap.size ns (lostF r nL) ∧ Below w.heap.size w wr) := by rw [← hkn]; exact HI
      have kk : decide (k < nL) = false := decide_eq_false (by omega)
      clear hkn hlt HI
      go_wp2
      go_ret
      exact ⟨_, rfl, Nat.le_refl _, HD.out.1, HD.out.2⟩
end Go.Proofs.YtdmokcnoljlogaaGreatDoor
