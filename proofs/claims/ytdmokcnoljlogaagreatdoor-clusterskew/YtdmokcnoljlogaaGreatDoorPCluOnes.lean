/- bits.OnesCount, of any word; of less than 65536: how many bits stand in it. -/
import Derived.Test.YtdmokcnoljlogaaGreatDoorPCluA
import Derived.Laws.BitsAllLaws
namespace Go.Proofs.YtdmokcnoljlogaaGreatDoor
open Go.RowKit

/-- What OnesCount reckons, step by step. -/
def on1 (x : Int) : Int := IntKind.u64.wrap (bits .and .u64 (x / 2) 6148914691236517205 + bits .and .u64 x 6148914691236517205)
def on2 (x : Int) : Int := IntKind.u64.wrap (bits .and .u64 (x / 4) 3689348814741910323 + bits .and .u64 x 3689348814741910323)
def on3 (x : Int) : Int := bits .and .u64 (IntKind.u64.wrap (x / 16 + x)) 1085102592571150095
def on4 (x : Int) : Int := IntKind.u64.wrap (x + x / 256)
def on5 (x : Int) : Int := IntKind.u64.wrap (x + x / 65536)
def on6 (x : Int) : Int := IntKind.u64.wrap (x + x / 4294967296)
def on7 (x : Int) : Int := bits .and .i64 (wrap64 x) 127
def onesV (x : Int) : Int := on7 (on6 (on5 (on4 (on3 (on2 (on1 x))))))

theorem u64_in (y : Int) : 0 ≤ IntKind.u64.wrap y ∧ IntKind.u64.wrap y ≤ 18446744073709551615 := by
  simp [IntKind.wrap, IntKind.bits, IntKind.signed]; omega
theorem and64_in (y z : Int) : 0 ≤ bits .and .u64 y z ∧ bits .and .u64 y z ≤ 18446744073709551615 := u64_in _

set_option maxHeartbeats 1000000 in
theorem ones_any (x : Int) (h01 : 0 ≤ x ∧ x ≤ 18446744073709551615) (w : World) : Calls Tryz.prog 29 #[.int .u64 x] w fun e w' => e = .returned (.int .i64 (onesV x)) ∧ w' = w := by
  obtain ⟨h0, h1⟩ := h01
  have HE : Hid (onesV x = on7 (on6 (on5 (on4 (on3 (on2 (on1 x))))))) := rfl
  have e1 : IntKind.u64.wrap (bits .and .u64 (x / 2) 6148914691236517205 + bits .and .u64 x 6148914691236517205) = on1 x := rfl
  have b1 : 0 ≤ on1 x ∧ on1 x ≤ 18446744073709551615 := u64_in _
  generalize on1 x = y1 at *
  have e2 : IntKind.u64.wrap (bits .and .u64 (y1 / 4) 3689348814741910323 + bits .and .u64 y1 3689348814741910323) = on2 y1 := rfl
  have b2 : 0 ≤ on2 y1 ∧ on2 y1 ≤ 18446744073709551615 := u64_in _
  generalize on2 y1 = y2 at *
  have e3 : bits .and .u64 (IntKind.u64.wrap (y2 / 16 + y2)) 1085102592571150095 = on3 y2 := rfl
  have b3 : 0 ≤ on3 y2 ∧ on3 y2 ≤ 18446744073709551615 := and64_in _ _
  generalize on3 y2 = y3 at *
  have e4 : IntKind.u64.wrap (y3 + y3 / 256) = on4 y3 := rfl
  have b4 : 0 ≤ on4 y3 ∧ on4 y3 ≤ 18446744073709551615 := u64_in _
  generalize on4 y3 = y4 at *
  have e5 : IntKind.u64.wrap (y4 + y4 / 65536) = on5 y4 := rfl
  have b5 : 0 ≤ on5 y4 ∧ on5 y4 ≤ 18446744073709551615 := u64_in _
  generalize on5 y4 = y5 at *
  have e6 : IntKind.u64.wrap (y5 + y5 / 4294967296) = on6 y5 := rfl
  have b6 : 0 ≤ on6 y5 ∧ on6 y5 ≤ 18446744073709551615 := u64_in _
  generalize on6 y5 = y6 at *
  have e7 : bits .and .i64 (wrap64 y6) 127 = on7 y6 := rfl
  generalize on7 y6 = y7 at *
  rw [HE.out]
  go_enter Tryz.func29, Tryz.ntmps29
  go_wp2
  go_ret
  exact ⟨rfl, rfl⟩

/-- How many of the first bits stand in a number. -/
def pcN : Nat → Nat → Nat
  | 0, _ => 0
  | d + 1, x => x % 2 + pcN d (x / 2)
theorem pcN_top : ∀ (d x : Nat), pcN (d + 1) x = pcN d x + x / 2 ^ d % 2 := by
  intro d
  induction d with
  | zero => intro x; show x % 2 + 0 = 0 + x / 1 % 2; rw [Nat.div_one]; omega
  | succ d ih =>
    intro x
    show x % 2 + pcN (d + 1) (x / 2) = x % 2 + pcN d (x / 2) + _
    rw [ih (x / 2), Nat.div_div_eq_div_mul, Nat.pow_succ, Nat.mul_comm 2]
    omega
def onN (x : Nat) : Nat :=
  let n1 := ((x / 2) &&& 6148914691236517205) + (x &&& 6148914691236517205)
  let n2 := ((n1 / 4) &&& 3689348814741910323) + (n1 &&& 3689348814741910323)
  let n3 := (n2 / 16 + n2) &&& 1085102592571150095
  let n4 := n3 + n3 / 256
  let n5 := n4 + n4 / 65536
  let n6 := n5 + n5 / 4294967296
  n6 &&& 127
def onL (x : Nat) : Nat := (fun n1 => (fun n2 => (fun n3 => (fun n4 => (fun n5 => Nat.land (Nat.add n5 (Nat.div n5 4294967296)) 127) (Nat.add n4 (Nat.div n4 65536))) (Nat.add n3 (Nat.div n3 256))) (Nat.land (Nat.add (Nat.div n2 16) n2) 1085102592571150095)) (Nat.add (Nat.land (Nat.div n1 4) 3689348814741910323) (Nat.land n1 3689348814741910323))) (Nat.add (Nat.land (Nat.div x 2) 6148914691236517205) (Nat.land x 6148914691236517205))
/-- All numbers of so many bits more, one by one. -/
def onChk : Nat → Nat → Nat → Bool
  | 0, x, c => Nat.beq (onL x) c
  | d + 1, x, c => cond (onChk d (Nat.mul 2 x) c) (onChk d (Nat.succ (Nat.mul 2 x)) (Nat.succ c)) false
theorem onChk_all : onChk 16 0 0 = true := by kernel_rfl
theorem onChk_at : ∀ d b c, onChk d b c = true → ∀ x, x / 2 ^ d = b → onL x = c + pcN d x := by
  intro d
  induction d with
  | zero =>
    intro b c h x hx
    rw [Nat.pow_zero, Nat.div_one] at hx
    subst hx
    exact Nat.eq_of_beq_eq_true h
  | succ d ih =>
    intro b c h x hx
    have h2 : onChk d (2 * b) c = true ∧ onChk d (2 * b + 1) (c + 1) = true := by
      have h' : cond (onChk d (2 * b) c) (onChk d (2 * b + 1) (c + 1)) false = true := h
      cases q : onChk d (2 * b) c
      · rw [q] at h'; cases h'
      · rw [q] at h'; exact ⟨rfl, h'⟩
    have e : x / 2 ^ (d + 1) = x / 2 ^ d / 2 := by rw [Nat.pow_succ, Nat.div_div_eq_div_mul]
    rw [e] at hx
    rw [pcN_top]
    rcases Nat.mod_two_eq_zero_or_one (x / 2 ^ d) with q | q
    · rw [q, ih (2 * b) c h2.1 x (by omega)]
      omega
    · rw [q, ih (2 * b + 1) (c + 1) h2.2 x (by omega)]
      omega
theorem onN_is {x : Nat} (h : x < 65536) : onN x = pcN 16 x := by
  have := onChk_at 16 0 0 onChk_all x (Nat.div_eq_of_lt h)
  rw [Nat.zero_add] at this
  exact this
theorem wrapU {n : Nat} (h : n < 18446744073709551616) : IntKind.u64.wrap (n : Int) = (n : Int) := by
  simp [IntKind.wrap, IntKind.bits, IntKind.signed]; omega
theorem onesV_nat {x : Nat} (h : x < 65536) : onesV x = (onN x : Nat) := by
  have a1 : ((x / 2) &&& 6148914691236517205) ≤ x / 2 := Nat.and_le_left
  have a2 : (x &&& 6148914691236517205) ≤ x := Nat.and_le_left
  have c1 : on1 x = ((((x / 2) &&& 6148914691236517205) + (x &&& 6148914691236517205) : Nat) : Int) := by
    unfold on1
    rw [show ((x : Int) / 2) = ((x / 2 : Nat) : Int) by omega, show (6148914691236517205 : Int) = ((6148914691236517205 : Nat) : Int) from rfl, u64_and_nat _ _ (by omega) (by decide), u64_and_nat _ _ (by omega) (by decide), ← Int.natCast_add]
    exact wrapU (by omega)
  unfold onesV onN
  rw [c1]
  have hn1 : (x / 2 &&& 6148914691236517205) + (x &&& 6148914691236517205) ≤ 131072 := by omega
  generalize ((x / 2) &&& 6148914691236517205) + (x &&& 6148914691236517205) = n1 at *
  have b1 : ((n1 / 4) &&& 3689348814741910323) ≤ n1 / 4 := Nat.and_le_left
  have b2 : (n1 &&& 3689348814741910323) ≤ n1 := Nat.and_le_left
  have c2 : on2 n1 = ((((n1 / 4) &&& 3689348814741910323) + (n1 &&& 3689348814741910323) : Nat) : Int) := by
    unfold on2
    rw [show ((n1 : Int) / 4) = ((n1 / 4 : Nat) : Int) by omega, show (3689348814741910323 : Int) = ((3689348814741910323 : Nat) : Int) from rfl, u64_and_nat _ _ (by omega) (by decide), u64_and_nat _ _ (by omega) (by decide), ← Int.natCast_add]
    exact wrapU (by omega)
  rw [c2]
  simp only []
  have hn2 : (n1 / 4 &&& 3689348814741910323) + (n1 &&& 3689348814741910323) ≤ 262144 := by omega
  generalize ((n1 / 4) &&& 3689348814741910323) + (n1 &&& 3689348814741910323) = n2 at *
  have d1 : ((n2 / 16 + n2) &&& 1085102592571150095) ≤ n2 / 16 + n2 := Nat.and_le_left
  have c3 : on3 n2 = (((n2 / 16 + n2) &&& 1085102592571150095 : Nat) : Int) := by
    unfold on3
    rw [show ((n2 : Int) / 16 + n2) = ((n2 / 16 + n2 : Nat) : Int) by omega, wrapU (by omega), show (1085102592571150095 : Int) = ((1085102592571150095 : Nat) : Int) from rfl, u64_and_nat _ _ (by omega) (by decide)]
  rw [c3]
  generalize (n2 / 16 + n2) &&& 1085102592571150095 = n3 at *
  have c4 : on4 n3 = ((n3 + n3 / 256 : Nat) : Int) := by
    unfold on4
    rw [show ((n3 : Int) + n3 / 256) = ((n3 + n3 / 256 : Nat) : Int) by omega]
    exact wrapU (by omega)
  rw [c4]
  obtain ⟨n4, hn4⟩ : ∃ n4, n3 + n3 / 256 = n4 := ⟨_, rfl⟩
  rw [hn4]
  have c5 : on5 n4 = ((n4 + n4 / 65536 : Nat) : Int) := by
    unfold on5
    rw [show ((n4 : Int) + n4 / 65536) = ((n4 + n4 / 65536 : Nat) : Int) by omega]
    exact wrapU (by omega)
  rw [c5]
  obtain ⟨n5, hn5⟩ : ∃ n5, n4 + n4 / 65536 = n5 := ⟨_, rfl⟩
  rw [hn5]
  have c6 : on6 n5 = ((n5 + n5 / 4294967296 : Nat) : Int) := by
    unfold on6
    rw [show ((n5 : Int) + n5 / 4294967296) = ((n5 + n5 / 4294967296 : Nat) : Int) by omega]
    exact wrapU (by omega)
  rw [c6]
  obtain ⟨n6, hn6⟩ : ∃ n6, n5 + n5 / 4294967296 = n6 := ⟨_, rfl⟩
  rw [hn6]
  unfold on7
  rw [show wrap64 ((n6 : Nat) : Int) = ((n6 : Nat) : Int) by unfold wrap64; omega, show (127 : Int) = ((127 : Nat) : Int) from rfl, i64_and_nat _ _ (by omega) (by decide)]

/-- Bits of a number that stands among so many. -/
theorem pcN_count : ∀ (n x : Nat), (List.range n).countP (bitI (x : Int)) = pcN n x := by
  intro n
  induction n with
  | zero => intro x; rfl
  | succ n ih =>
    intro x
    rw [List.range_succ_eq_map, List.countP_cons, List.countP_map]
    have e : (bitI (x : Int) ∘ Nat.succ) = bitI ((x / 2 : Nat) : Int) := by
      funext j
      show bitI (x : Int) (j + 1) = bitI ((x / 2 : Nat) : Int) j
      unfold bitI
      have : (x : Int) / 2 ^ (j + 1) = ((x / 2 : Nat) : Int) / 2 ^ j := by
        rw [show ((x / 2 : Nat) : Int) = (x : Int) / 2 by omega, Int.pow_succ, Int.mul_comm, ← Int.ediv_ediv_of_nonneg (by decide)]
      rw [this]
    rw [e, ih]
    show pcN n (x / 2) + _ = x % 2 + pcN n (x / 2)
    have : bitI (x : Int) 0 = decide (x % 2 = 1) := by
      unfold bitI
      rw [Int.pow_zero, Int.ediv_one]
      congr 1
      apply propext
      omega
    rw [this]
    rcases Nat.mod_two_eq_zero_or_one x with q | q
    · rw [q]; simp
    · rw [q]; simp; omega
theorem pcN_more : ∀ (d n x : Nat), x < 2 ^ n → pcN (n + d) x = pcN n x := by
  intro d n
  induction n with
  | zero =>
    intro x hx
    have : x = 0 := by simpa using hx
    subst this
    rw [Nat.zero_add]
    show pcN d 0 = 0
    induction d with
    | zero => rfl
    | succ d ih => show 0 % 2 + pcN d (0 / 2) = 0; rw [Nat.zero_div, ih]
  | succ n ih =>
    intro x hx
    rw [show n + 1 + d = (n + d) + 1 by omega]
    show x % 2 + pcN (n + d) (x / 2) = x % 2 + pcN n (x / 2)
    rw [ih (x / 2) (by rw [Nat.pow_succ] at hx; omega)]
theorem ones_small {x n : Nat} (hn : n ≤ 16) (h : x < 2 ^ n) : onesV x = ((List.range n).countP (bitI (x : Int)) : Nat) := by
  have hx : x < 65536 := Nat.lt_of_lt_of_le h (Nat.pow_le_pow_right (n := 2) (by decide) hn)
  have := pcN_more (16 - n) n x h
  rw [show n + (16 - n) = 16 by omega] at this
  rw [onesV_nat hx, onN_is hx, pcN_count, this]
end Go.Proofs.YtdmokcnoljlogaaGreatDoor
