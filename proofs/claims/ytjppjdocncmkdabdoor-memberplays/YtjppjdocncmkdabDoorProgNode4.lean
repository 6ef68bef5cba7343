/- The program's node: Back. -/
import Derived.Test.YtjppjdocncmkdabDoorProgNode
import Derived.Deep.QuietTactic
import Derived.BigQuiet
import Derived.RegionTactic
namespace Go.Proofs.YtjppjdocncmkdabDoor
open Go.RowKit

set_option maxHeartbeats 1000000 in
theorem pBack_state {w : World} {P : Nat} {id : Int} {n : Nat} {m g b : Int} {fz : Bool} (h : ProgNode w P id n m g b fz) (x : Int) (hf : fz = false) :
    Calls Tryd.prog 29 #[.pointer (some ⟨P, 0, none⟩), .int .i64 x] w fun e w' => e = .returned (.iface 23 (.int .i64 6)) ∧ w' = w := by
  subst hf
  obtain ⟨c0, c1, c2, c3, c4, c5, z, lp⟩ := h
  clear z
  go_enter Tryd.func29, Tryd.ntmps29
  go_wp2
  go_ret
  exact ⟨rfl, rfl⟩
set_option maxHeartbeats 1000000 in
theorem pBack_arg {w : World} {P : Nat} {id : Int} {n : Nat} {m g b : Int} {fz : Bool} (h : ProgNode w P id n m g b fz) (x : Int) (hf : fz = true) (hn : n ≤ 16) (x0 : -9223372036854775808 ≤ x) (x1 : x < 9223372036854775808) (hx : x < 0 ∨ 2 ^ n ≤ x) :
    Calls Tryd.prog 29 #[.pointer (some ⟨P, 0, none⟩), .int .i64 x] w fun e w' => e = .returned (.iface 23 (.int .i64 1)) ∧ w' = w := by
  subst hf
  obtain ⟨c0, c1, c2, c3, c4, c5, z, lp⟩ := h
  clear z
  have p0 := pow_pos n
  have p1 : (2 : Int) ^ n ≤ 2 ^ 16 := pow_le hn
  have p2 : (2 : Int) ^ 16 = 65536 := by decide
  have eR := rest_bits (m := x) hn x0 x1
  rw [decide_eq_false (by omega), Bool.not_false] at eR
  clear hx
  go_enter Tryd.func29, Tryd.ntmps29
  go_wp2
  go_ret
  exact ⟨rfl, rfl⟩
set_option maxHeartbeats 1000000 in
theorem pBack_in {w : World} {P : Nat} {i : Nat} {n : Nat} {m g b : Int} {fz : Bool} (h : ProgNode w P i n m g b fz) (x : Int) (hf : fz = true) (hn : n ≤ 16) (hi : i < n) (x0 : 0 ≤ x) (x1 : x < 2 ^ n) :
    Calls Tryd.prog 29 #[.pointer (some ⟨P, 0, none⟩), .int .i64 x] w fun e w' => e = .returned .nilIface ∧ ProgNode w' P i n (bitsV (fun j => tb x j || decide ((j : Int) = (i : Int))) n) 1 0 false ∧ Turns P P w w' := by
  subst hf
  have HH : Hid (ProgNode w P i n m g b true) := h
  obtain ⟨c0, c1, c2, c3, c4, c5, z, lp⟩ := h
  have z2 := z 2
  have z3 := z 3
  clear z
  have p0 := pow_pos n
  have p1 : (2 : Int) ^ n ≤ 2 ^ 16 := pow_le hn
  have p2 : (2 : Int) ^ 16 = 65536 := by decide
  have q0 := pow_pos i
  have q1 : (2 : Int) ^ i ≤ 2 ^ 16 := pow_le (by omega)
  have eR := rest_bits (m := x) hn (by omega) (by omega)
  rw [decide_eq_true (show 0 ≤ x ∧ x < 2 ^ n from ⟨x0, x1⟩), Bool.not_true] at eR
  have eB := back_bits hn hi x0 x1
  obtain ⟨M, hM⟩ : ∃ M, bitsV (fun j => tb x j || decide ((j : Int) = (i : Int))) n = M := ⟨_, rfl⟩
  rw [hM] at eB ⊢
  clear hM
  have HX : Hid (ProgNode ((w.setCell ⟨P, 3, none⟩ (.bool false)).setCell ⟨P, 2, none⟩ (.int .i64 M)) P i n M g b false) := (HH.out.freeze false).members M
  have HT : Hid (Turns P P w ((w.setCell ⟨P, 3, none⟩ (.bool false)).setCell ⟨P, 2, none⟩ (.int .i64 M))) := ((Turns.refl _ _ _).set (p := ⟨P, 3, none⟩) (.inl rfl) _).set (p := ⟨P, 2, none⟩) (.inl rfl) _
  go_enter Tryd.func29, Tryd.ntmps29
  go_wp2_with (first | (go_at_call 54; apply Hid.out) | go_in)
  unfold Hid
  refine (pAnew_any HX.out).mono ?_
  rintro e w1 ⟨rfl, hN, hT⟩
  have hTT := HT.out.trans hT
  go_wp2
  go_ret
  exact ⟨rfl, hN, hTT⟩
end Go.Proofs.YtjppjdocncmkdabDoor
