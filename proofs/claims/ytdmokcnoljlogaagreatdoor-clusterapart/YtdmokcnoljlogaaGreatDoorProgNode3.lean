/- The program's node: Sends, Judges. -/
import Derived.Test.YtdmokcnoljlogaaGreatDoorProgNode
import Derived.Deep.QuietTactic
import Derived.BigQuiet
import Derived.RegionTactic
namespace Go.Proofs.YtdmokcnoljlogaaGreatDoor
open Go.RowKit

set_option maxHeartbeats 2000000 in
theorem pSends_any {w : World} {P : Nat} {id : Int} {n : Nat} {m g b : Int} {fz : Bool} (h : ProgNode w P id n m g b fz) :
    Calls Tryz.prog 43 #[.pointer (some ⟨P, 0, none⟩)] w fun e w' => e = .returned (.tuple #[.int .i64 (if sendsB g b fz = true then m else 0), .bool (sendsB g b fz)]) ∧ ProgNode w' P id n m (if sendsB g b fz = true then 1 else g) (if sendsB g b fz = true then 0 else b) (!sendsB g b fz) ∧ Turns P P w w' := by
  have HH : Hid (ProgNode w P id n m g b fz) := h
  obtain ⟨c0, c1, c2, c3, c4, c5, z, lp⟩ := h
  have z3 := z 3
  have z4 := z 4
  have z5 := z 5
  clear z
  unfold sendsB
  cases fz
  · by_cases hb : b < g
    · have hb2 : decide (g ≤ b) = false := decide_eq_false (by omega)
      have HB : Hid (decide (b < g) = true) := decide_eq_true hb
      rw [HB.out]
      clear hb
      have HX : Hid (ProgNode ((w.setCell ⟨P, 3, none⟩ (.bool false)).drew) P id n m g b false) := (HH.out.freeze false).drawn 1
      have HT : Hid (Turns P P w ((w.setCell ⟨P, 3, none⟩ (.bool false)).drew)) := ((Turns.refl _ _ _).set (p := ⟨P, 3, none⟩) (.inl rfl) _).trans (Turns.drawn 1)
      go_enter Tryz.func43, Tryz.ntmps43
      go_wp2_with fail
      go_region
      go_wp2_with fail
      refine (pAnew_any HX.out).mono ?_
      rintro e w1 ⟨rfl, hN, hT⟩
      have HN : Hid (ProgNode w1 P id n m 1 0 false) := hN
      obtain ⟨d0, d1, d2, d3, d4, d5, y, lp'⟩ := hN
      clear y
      go_wp2
      go_ret2
      exact ⟨rfl, HN.out, HT.out.trans hT⟩
    · have hb2 : g ≤ b := by omega
      rw [decide_eq_false hb]
      clear hb
      have HX : Hid (ProgNode ((w.setCell ⟨P, 3, none⟩ (.bool true)).drew) P id n m g b true) := (HH.out.freeze true).drawn 1
      have HT : Hid (Turns P P w ((w.setCell ⟨P, 3, none⟩ (.bool true)).drew)) := ((Turns.refl _ _ _).set (p := ⟨P, 3, none⟩) (.inl rfl) _).trans (Turns.drawn 1)
      go_enter Tryz.func43, Tryz.ntmps43
      go_wp2_with fail
      go_region
      go_wp2
      go_ret2
      exact ⟨rfl, HX.out, HT.out⟩
  · have HX : Hid (ProgNode ((w.setCell ⟨P, 3, none⟩ (.bool true)).drew) P id n m g b true) := (HH.out.freeze true).drawn 1
    have HT : Hid (Turns P P w ((w.setCell ⟨P, 3, none⟩ (.bool true)).drew)) := ((Turns.refl _ _ _).set (p := ⟨P, 3, none⟩) (.inl rfl) _).trans (Turns.drawn 1)
    go_enter Tryz.func43, Tryz.ntmps43
    go_wp2_with fail
    go_region
    go_wp2
    go_ret2
    exact ⟨rfl, HX.out, HT.out⟩

set_option maxHeartbeats 1000000 in
theorem pKnows_any {w : World} {P : Nat} {id : Int} {n : Nat} {m g b : Int} {fz : Bool} (h : ProgNode w P id n m g b fz) (x : Int) : Calls Tryz.prog 71 #[.pointer (some ⟨P, 0, none⟩), .int .i64 x] w fun e w' => e = .returned (.bool (decide (0 ≤ x ∧ x < n))) ∧ w' = w := by
  obtain ⟨c0, c1, c2, c3, c4, c5, z, lp⟩ := h
  clear z
  by_cases k1 : 0 ≤ x
  · by_cases k2 : x < (n : Int)
    · rw [decide_eq_true (show 0 ≤ x ∧ x < (n : Int) from ⟨k1, k2⟩)]
      go_enter Tryz.func71, Tryz.ntmps71
      go_wp2
      go_ret
      exact ⟨rfl, rfl⟩
    · rw [decide_eq_false (show ¬ (0 ≤ x ∧ x < (n : Int)) by omega)]
      have k2' : decide (x < (n : Int)) = false := decide_eq_false k2
      clear k2
      go_enter Tryz.func71, Tryz.ntmps71
      go_wp2
      go_ret
      exact ⟨rfl, rfl⟩
  · rw [decide_eq_false (show ¬ (0 ≤ x ∧ x < (n : Int)) by omega)]
    have k2' : decide (0 ≤ x) = false := decide_eq_false k1
    clear k1
    go_enter Tryz.func71, Tryz.ntmps71
    go_wp2
    go_ret
    exact ⟨rfl, rfl⟩
set_option maxHeartbeats 1000000 in
theorem pBit_any (k : Nat) (hk : k ≤ 16) (w : World) : Calls Tryz.prog 72 #[.int .i64 k] w fun e w' => e = .returned (.int .i64 (2 ^ k)) ∧ w' = w := by
  have p0 := pow_pos k
  have p1 : (2 : Int) ^ k ≤ 2 ^ 16 := pow_le (by omega)
  have p2 : (2 : Int) ^ 16 = 65536 := by decide
  go_enter Tryz.func72, Tryz.ntmps72
  go_wp2
  go_ret
  exact ⟨rfl, rfl⟩

set_option maxHeartbeats 1000000 in
theorem pJudges_any {w : World} {P : Nat} {id : Int} {n : Nat} {t : Nat → Bool} {g b : Int} {fz : Bool} (h : ProgNode w P id n (bitsV t n) g b fz) (frm m : Int) (hn : n ≤ 16) :
    Calls Tryz.prog 45 #[.pointer (some ⟨P, 0, none⟩), .int .i64 frm, .int .i64 m] w fun e w' => e = .returned (.int .i64 (judgeV n t (tb m) frm m)) ∧ ∃ q, w' = w.drewN q := by
  have HK : Hid (∀ (x : Int) (q : Nat), Calls Tryz.prog 71 #[.pointer (some ⟨P, 0, none⟩), .int .i64 x] (w.drewN q) fun e w' => e = .returned (.bool (decide (0 ≤ x ∧ x < n))) ∧ w' = w.drewN q) := fun x q => pKnows_any (h.drawn q) x
  obtain ⟨c0, c1, c2, c3, c4, c5, z, lp⟩ := h
  clear z
  by_cases k12 : 0 ≤ frm ∧ frm < (n : Int)
  · obtain ⟨k1, k2⟩ := k12
    obtain ⟨k, rfl⟩ := Int.eq_ofNat_of_zero_le k1
    have hk : k < n := by omega
    have HBt := pBit_any k (by omega)
    have hK := HK.out k
    rw [decide_eq_true (show (0 : Int) ≤ (k : Int) ∧ (k : Int) < (n : Int) from ⟨k1, k2⟩)] at hK
    have eB : bits BinOp.or .i64 (bitsV t n) (2 ^ k) = bitsV (fun j => if j = k then true else t j) n := or_bit t hn hk
    have HG := told_good t hk m
    have eJ : judgeV n t (tb m) k m = if m = bitsV (fun j => if j = k then true else t j) n then 1 else 2 := by
      unfold judgeV
      rw [Int.toNat_natCast]
      by_cases q : m = bitsV (fun j => if j = k then true else t j) n
      · rw [if_pos q, if_pos ⟨⟨k1, k2⟩, HG.1 q⟩]
      · rw [if_neg q, if_neg (fun y => q (HG.2 y.2))]
    rw [eJ]
    clear eJ HG
    obtain ⟨M, hM⟩ : ∃ M, bitsV (fun j => if j = k then true else t j) n = M := ⟨_, rfl⟩
    rw [hM] at eB ⊢
    clear hM
    by_cases q : m = M
    · subst q
      rw [if_pos rfl]
      go_enter Tryz.func45, Tryz.ntmps45
      go_wp2_with fail
      go_quiet (first | (go_at_call 71; refine Calls.quiet_of_same (hK _)) | (go_at_call 72; refine Calls.quiet_of_same (HBt _)))
      go_wp2
      go_ret
      exact ⟨rfl, _, rfl⟩
    · have q2 : (m == M) = false := by simpa using q
      rw [if_neg q]
      clear q
      go_enter Tryz.func45, Tryz.ntmps45
      go_wp2_with fail
      go_quiet (first | (go_at_call 71; refine Calls.quiet_of_same (hK _)) | (go_at_call 72; refine Calls.quiet_of_same (HBt _)))
      go_wp2
      go_ret
      exact ⟨rfl, _, rfl⟩
  · have eJ : judgeV n t (tb m) frm m = 2 := by unfold judgeV; rw [if_neg (fun y => k12 y.1)]
    rw [eJ]
    have hK := HK.out frm
    rw [decide_eq_false k12] at hK
    clear eJ k12
    go_enter Tryz.func45, Tryz.ntmps45
    go_wp2_with fail
    go_quiet (first | (go_at_call 71; refine Calls.quiet_of_same (hK _)))
    go_wp2
    go_ret
    exact ⟨rfl, _, rfl⟩
end Go.Proofs.YtdmokcnoljlogaaGreatDoor
