/- The program's node: Hears: what becomes of a node; nothing else is turned. (Made by tools/gen_prognode.py.) -/
import Derived.Test.YtdmokcnoljlogaaGreatDoorProgNode
import Derived.Deep.QuietTactic
import Derived.BigQuiet
import Derived.RegionTactic
namespace Go.Proofs.YtdmokcnoljlogaaGreatDoor
open Go.RowKit

set_option maxHeartbeats 1000000 in
theorem pHears_not {w : World} {P : Nat} {id : Int} {n : Nat} {m g b : Int} {fz : Bool} (h : ProgNode w P id n m g b fz) (frm what : Int) (hh : hearsB id n fz frm what = false) :
    Calls Tryz.prog 47 #[.pointer (some ⟨P, 0, none⟩), .int .i64 frm, .int .i64 what] w fun e w' => e = .returned (.tuple #[]) ∧ w' = w := by
  obtain ⟨c0, c1, c2, c3, c4, c5, z, lp⟩ := h
  clear z
  cases fz
  · unfold hearsB at hh
    have hh : ¬ (0 ≤ frm ∧ frm < n ∧ frm ≠ id ∧ 0 ≤ what ∧ what ≤ 2) := by simpa using hh
    by_cases k1 : 0 ≤ frm
    · by_cases k2 : frm < (n : Int)
      · by_cases k3 : frm = id
        · subst k3
          clear hh
          go_enter Tryz.func47, Tryz.ntmps47
          go_wp2
          exact bodyPost_ret (v := .tuple #[]) (by simp [results, Tryz.results47, go_sem]) rfl ⟨rfl, rfl⟩
        · have k3' : (frm == id) = false := by simpa using k3
          have k4 : (what == 0) = false := by simp; omega
          have k5 : (what == 1) = false := by simp; omega
          have k6 : (what == 2) = false := by simp; omega
          clear hh k3
          go_enter Tryz.func47, Tryz.ntmps47
          go_wp2
          exact bodyPost_end (v := .tuple #[]) (by simp [results, Tryz.results47, go_sem]) rfl ⟨rfl, rfl⟩
      · have k2' : decide (frm < (n : Int)) = false := decide_eq_false k2
        clear hh k2
        go_enter Tryz.func47, Tryz.ntmps47
        go_wp2
        exact bodyPost_ret (v := .tuple #[]) (by simp [results, Tryz.results47, go_sem]) rfl ⟨rfl, rfl⟩
    · have k1' : decide (0 ≤ frm) = false := decide_eq_false k1
      clear hh k1
      go_enter Tryz.func47, Tryz.ntmps47
      go_wp2
      exact bodyPost_ret (v := .tuple #[]) (by simp [results, Tryz.results47, go_sem]) rfl ⟨rfl, rfl⟩
  · clear hh
    go_enter Tryz.func47, Tryz.ntmps47
    go_wp2
    exact bodyPost_ret (v := .tuple #[]) (by simp [results, Tryz.results47, go_sem]) rfl ⟨rfl, rfl⟩

set_option maxHeartbeats 1000000 in
theorem pHears_acts0 {w : World} {P : Nat} {id : Int} {n : Nat} {t : Nat → Bool} {g b : Int} {fz : Bool} (h : ProgNode w P id n (bitsV t n) g b fz) (k : Nat) (hn : n ≤ 16) (hf : fz = false) (hk : k < n) (hid : (k : Int) ≠ id) :
    Calls Tryz.prog 47 #[.pointer (some ⟨P, 0, none⟩), .int .i64 k, .int .i64 0] w fun e w' => e = .returned (.tuple #[]) ∧ ProgNode w' P id n (bitsV (fun j => if j = k then false else t j) n) g b false ∧ Turns P P w w' := by
  subst hf
  have HH : Hid (ProgNode w P id n (bitsV t n) g b false) := h
  obtain ⟨c0, c1, c2, c3, c4, c5, z, lp⟩ := h
  have z2 := z 2
  have z4 := z 4
  have z5 := z 5
  clear z
  have k1 : (k : Int) < (n : Int) := by omega
  have k3 : ((k : Int) == id) = false := by simpa using hid
  have p0 := pow_pos k
  have p1 : (2 : Int) ^ k ≤ 2 ^ 16 := pow_le (by omega)
  have p2 : (2 : Int) ^ 16 = 65536 := by decide
  have eB : bits BinOp.andNot .i64 (bitsV t n) (2 ^ k) = bitsV (fun j => if j = k then false else t j) n := clear_bit t hn hk
  obtain ⟨M, hM⟩ : ∃ M, bitsV (fun j => if j = k then false else t j) n = M := ⟨_, rfl⟩
  obtain ⟨m, hm⟩ : ∃ m, bitsV t n = m := ⟨_, rfl⟩
  rw [hM] at eB ⊢
  rw [hm] at eB c2 HH
  clear hid hM hm
  go_enter Tryz.func47, Tryz.ntmps47
  go_wp2
  go_region_calls
  all_goals go_wp2
  all_goals exact bodyPost_end (v := .tuple #[]) (by simp [results, Tryz.results47, go_sem]) rfl ⟨rfl, (HH.out.members M).drawn 1, ((Turns.refl _ _ _).set (p := ⟨P, 2, none⟩) (.inl rfl) _).trans (Turns.drawn 1)⟩

set_option maxHeartbeats 1000000 in
theorem pHears_acts1 {w : World} {P : Nat} {id : Int} {n : Nat} {t : Nat → Bool} {g b : Int} {fz : Bool} (h : ProgNode w P id n (bitsV t n) g b fz) (k : Nat) (hn : n ≤ 16) (hf : fz = false) (hk : k < n) (hid : (k : Int) ≠ id) (hg0 : 0 ≤ g) (hg : g ≤ 4611686018427387904) :
    Calls Tryz.prog 47 #[.pointer (some ⟨P, 0, none⟩), .int .i64 k, .int .i64 1] w fun e w' => e = .returned (.tuple #[]) ∧ ProgNode w' P id n (bitsV (fun j => if j = k then true else t j) n) (g + 1) b false ∧ Turns P P w w' := by
  subst hf
  have HH : Hid (ProgNode w P id n (bitsV t n) g b false) := h
  obtain ⟨c0, c1, c2, c3, c4, c5, z, lp⟩ := h
  have z2 := z 2
  have z4 := z 4
  have z5 := z 5
  clear z
  have k1 : (k : Int) < (n : Int) := by omega
  have k3 : ((k : Int) == id) = false := by simpa using hid
  have p0 := pow_pos k
  have p1 : (2 : Int) ^ k ≤ 2 ^ 16 := pow_le (by omega)
  have p2 : (2 : Int) ^ 16 = 65536 := by decide
  have eB : bits BinOp.or .i64 (bitsV t n) (2 ^ k) = bitsV (fun j => if j = k then true else t j) n := or_bit t hn hk
  obtain ⟨M, hM⟩ : ∃ M, bitsV (fun j => if j = k then true else t j) n = M := ⟨_, rfl⟩
  obtain ⟨m, hm⟩ : ∃ m, bitsV t n = m := ⟨_, rfl⟩
  rw [hM] at eB ⊢
  rw [hm] at eB c2 HH
  clear hid hM hm
  go_enter Tryz.func47, Tryz.ntmps47
  go_wp2
  go_region_calls
  all_goals go_wp2
  all_goals exact bodyPost_end (v := .tuple #[]) (by simp [results, Tryz.results47, go_sem]) rfl ⟨rfl, ((HH.out.good (g + 1)).members M).drawn 1, (((Turns.refl _ _ _).set (p := ⟨P, 4, none⟩) (.inl rfl) _).set (p := ⟨P, 2, none⟩) (.inl rfl) _).trans (Turns.drawn 1)⟩

set_option maxHeartbeats 1000000 in
theorem pHears_acts2 {w : World} {P : Nat} {id : Int} {n : Nat} {t : Nat → Bool} {g b : Int} {fz : Bool} (h : ProgNode w P id n (bitsV t n) g b fz) (k : Nat) (hn : n ≤ 16) (hf : fz = false) (hk : k < n) (hid : (k : Int) ≠ id) (hb0 : 0 ≤ b) (hb : b ≤ 4611686018427387904) :
    Calls Tryz.prog 47 #[.pointer (some ⟨P, 0, none⟩), .int .i64 k, .int .i64 2] w fun e w' => e = .returned (.tuple #[]) ∧ ProgNode w' P id n (bitsV (fun j => if j = k then false else t j) n) g (b + 1) false ∧ Turns P P w w' := by
  subst hf
  have HH : Hid (ProgNode w P id n (bitsV t n) g b false) := h
  obtain ⟨c0, c1, c2, c3, c4, c5, z, lp⟩ := h
  have z2 := z 2
  have z4 := z 4
  have z5 := z 5
  clear z
  have k1 : (k : Int) < (n : Int) := by omega
  have k3 : ((k : Int) == id) = false := by simpa using hid
  have p0 := pow_pos k
  have p1 : (2 : Int) ^ k ≤ 2 ^ 16 := pow_le (by omega)
  have p2 : (2 : Int) ^ 16 = 65536 := by decide
  have eB : bits BinOp.andNot .i64 (bitsV t n) (2 ^ k) = bitsV (fun j => if j = k then false else t j) n := clear_bit t hn hk
  obtain ⟨M, hM⟩ : ∃ M, bitsV (fun j => if j = k then false else t j) n = M := ⟨_, rfl⟩
  obtain ⟨m, hm⟩ : ∃ m, bitsV t n = m := ⟨_, rfl⟩
  rw [hM] at eB ⊢
  rw [hm] at eB c2 HH
  clear hid hM hm
  go_enter Tryz.func47, Tryz.ntmps47
  go_wp2
  go_region_calls
  all_goals go_wp2
  all_goals exact bodyPost_end (v := .tuple #[]) (by simp [results, Tryz.results47, go_sem]) rfl ⟨rfl, ((HH.out.bad (b + 1)).members M).drawn 1, (((Turns.refl _ _ _).set (p := ⟨P, 5, none⟩) (.inl rfl) _).set (p := ⟨P, 2, none⟩) (.inl rfl) _).trans (Turns.drawn 1)⟩

theorem pHears_acts {w : World} {P : Nat} {id : Int} {n : Nat} {t : Nat → Bool} {g b : Int} {fz : Bool} (h : ProgNode w P id n (bitsV t n) g b fz) (k : Nat) (what : Int) (hn : n ≤ 16) (hf : fz = false) (hk : k < n) (hid : (k : Int) ≠ id) (h0 : 0 ≤ what) (h2 : what ≤ 2) (hg0 : 0 ≤ g) (hg : g ≤ 4611686018427387904) (hb0 : 0 ≤ b) (hb : b ≤ 4611686018427387904) :
    Calls Tryz.prog 47 #[.pointer (some ⟨P, 0, none⟩), .int .i64 k, .int .i64 what] w fun e w' => e = .returned (.tuple #[]) ∧ ProgNode w' P id n (bitsV (fun j => if j = k then decide (what = 1) else t j) n) (if what = 1 then g + 1 else g) (if what = 2 then b + 1 else b) false ∧ Turns P P w w' := by
  have hc : what = 0 ∨ what = 1 ∨ what = 2 := by omega
  rcases hc with rfl | rfl | rfl
  · exact pHears_acts0 h k hn hf hk hid
  · exact pHears_acts1 h k hn hf hk hid hg0 hg
  · exact pHears_acts2 h k hn hf hk hid hb0 hb
end Go.Proofs.YtdmokcnoljlogaaGreatDoor
