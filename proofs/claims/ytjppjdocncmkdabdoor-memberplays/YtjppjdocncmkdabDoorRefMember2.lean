/- The document's answer's Sends and Hears: what becomes of a node; nothing else is turned. (Made by tools/gen_refmember.py.) -/
import Derived.Test.YtjppjdocncmkdabDoorRefMember
import Derived.Deep.QuietTactic
import Derived.BigQuiet
namespace Go.Proofs.YtjppjdocncmkdabDoor
open Go.RowKit

set_option maxHeartbeats 1000000 in
theorem refSends_any {w : World} {P Q : Nat} {id : Int} {n : Nat} {t : Nat → Bool} {g b : Int} {fz : Bool} (h : RefNode w P Q id n t g b fz) (hn : n ≤ 16) :
    Calls Tryd.prog 27 #[.pointer (some ⟨P, 0, none⟩)] w fun e w' => e = .returned (.tuple #[.int .i64 (if sendsB g b fz = true then bitsV t n else 0), .bool (sendsB g b fz)]) ∧ RefNode w' P Q id n t (if sendsB g b fz = true then 1 else g) (if sendsB g b fz = true then 0 else b) (!sendsB g b fz) ∧ Turns P Q w w' := by
  have HH : Hid (RefNode w P Q id n t g b fz) := h
  obtain ⟨c0, c1, c2, c3, c4, c5, z, row, zr, ne, lp, lq⟩ := h
  have z3 := z 3
  have z4 := z 4
  have z5 := z 5
  clear z zr row
  unfold sendsB
  cases fz
  · by_cases hb : b < g
    · have hb2 : decide (g ≤ b) = false := decide_eq_false (by omega)
      have HB : Hid (decide (b < g) = true) := decide_eq_true hb
      rw [HB.out]
      clear hb
      go_enter Tryd.func27, Tryd.ntmps27
      go_wp2_with fail
      go_quiet (fail)
      have HNQ : Hid (RefNode (((w.drewN nq).setCell ⟨P, 3, none⟩ (.int .i64 1)).setCell ⟨P, 4, none⟩ (.int .i64 0)) P Q id n t 1 0 false) := ((HH.out.drawn nq).good 1).bad 0
      have HBT := refBits_any HNQ.out hn
      go_wp2_with fail
      refine HBT.mono ?_
      rintro e w1 ⟨rfl, rfl⟩
      go_wp2
      go_ret2
      exact ⟨rfl, HNQ.out, ((Turns.drawn _).set (p := ⟨P, 3, none⟩) (.inl rfl) _).set (p := ⟨P, 4, none⟩) (.inl rfl) _⟩
    · have hb2 : g ≤ b := by omega
      rw [decide_eq_false hb]
      clear hb
      go_enter Tryd.func27, Tryd.ntmps27
      go_wp2_with fail
      go_quiet (fail)
      go_wp2
      go_ret2
      exact ⟨rfl, (HH.out.freeze true).drawn _, ((Turns.refl _ _ _).set (p := ⟨P, 5, none⟩) (.inl rfl) _).trans (Turns.drawn _)⟩
  · go_enter Tryd.func27, Tryd.ntmps27
    go_wp2
    go_ret2
    exact ⟨rfl, HH.out, Turns.refl _ _ _⟩

set_option maxHeartbeats 1000000 in
theorem refHears_not {w : World} {P Q : Nat} {id : Int} {n : Nat} {t : Nat → Bool} {g b : Int} {fz : Bool} (h : RefNode w P Q id n t g b fz) (frm what : Int) (hn1 : 1 ≤ n) (hn : n ≤ 16) (hh : hearsB id n fz frm what = false) :
    Calls Tryd.prog 26 #[.pointer (some ⟨P, 0, none⟩), .int .i64 frm, .int .i64 what] w fun e w' => e = .returned (.tuple #[]) ∧ w' = w := by
  obtain ⟨c0, c1, c2, c3, c4, c5, z, row, zr, ne, lp, lq⟩ := h
  clear z zr row
  cases fz
  · unfold hearsB at hh
    have hh : ¬ (0 ≤ frm ∧ frm < n ∧ frm ≠ id ∧ 0 ≤ what ∧ what ≤ 2) := by simpa using hh
    by_cases k1 : 0 ≤ frm
    · by_cases k2 : frm ≤ (n : Int) - 1
      · by_cases k3 : frm = id
        · subst k3
          clear hh
          go_enter Tryd.func26, Tryd.ntmps26
          go_wp2
          exact bodyPost_ret (v := .tuple #[]) (by simp [results, Tryd.results26, go_sem]) rfl ⟨rfl, rfl⟩
        · have k3' : (frm == id) = false := by simpa using k3
          by_cases k4 : 0 ≤ what
          · have k5 : decide (what ≤ 2) = false := decide_eq_false (by omega)
            clear hh k3
            go_enter Tryd.func26, Tryd.ntmps26
            go_wp2
            exact bodyPost_ret (v := .tuple #[]) (by simp [results, Tryd.results26, go_sem]) rfl ⟨rfl, rfl⟩
          · have k5 : decide (0 ≤ what) = false := decide_eq_false k4
            clear hh k3 k4
            go_enter Tryd.func26, Tryd.ntmps26
            go_wp2
            exact bodyPost_ret (v := .tuple #[]) (by simp [results, Tryd.results26, go_sem]) rfl ⟨rfl, rfl⟩
      · have k2' : decide (frm ≤ (n : Int) - 1) = false := decide_eq_false k2
        clear hh k2
        go_enter Tryd.func26, Tryd.ntmps26
        go_wp2
        exact bodyPost_ret (v := .tuple #[]) (by simp [results, Tryd.results26, go_sem]) rfl ⟨rfl, rfl⟩
    · have k1' : decide (0 ≤ frm) = false := decide_eq_false k1
      clear hh k1
      go_enter Tryd.func26, Tryd.ntmps26
      go_wp2
      exact bodyPost_ret (v := .tuple #[]) (by simp [results, Tryd.results26, go_sem]) rfl ⟨rfl, rfl⟩
  · clear hh
    go_enter Tryd.func26, Tryd.ntmps26
    go_wp2
    exact bodyPost_ret (v := .tuple #[]) (by simp [results, Tryd.results26, go_sem]) rfl ⟨rfl, rfl⟩

set_option maxHeartbeats 1000000 in
theorem refHears_acts0 {w : World} {P Q : Nat} {id : Int} {n : Nat} {t : Nat → Bool} {g b : Int} {fz : Bool} (h : RefNode w P Q id n t g b fz) (k : Nat) (what : Int) (hn : n ≤ 16) (hf : fz = false) (hk : k < n) (hid : (k : Int) ≠ id) (h0 : 0 ≤ what) (h2 : what ≤ 2) (hg0 : 0 ≤ g) (hg : g ≤ 4611686018427387904) (hb0 : 0 ≤ b) (hb : b ≤ 4611686018427387904) (G : Ending → World → Prop) (hG : ∀ w', RefNode w' P Q id n (fun j => if j = k then decide (what = 1) else t j) (if what = 1 then g + 1 else g) (if what = 2 then b + 1 else b) false → Turns P Q w w' → G (.returned (.tuple #[])) w') :
    Calls Tryd.prog 26 #[.pointer (some ⟨P, 0, none⟩), .int .i64 k, .int .i64 what] w G := by
  subst hf
  have HG : Hid _ := hG
  clear hG
  have HH : Hid (RefNode w P Q id n t g b false) := h
  obtain ⟨c0, c1, c2, c3, c4, c5, z, row, zr, ne, lp, lq⟩ := h
  have z3 := z 3
  have z4 := z 4
  have r0 := row k hk
  have zk := zr k
  clear z zr row
  have k0 : (k : Int) ≤ (n : Int) - 1 := by omega
  have k1 : (k : Int) < (n : Int) := by omega
  have k3 : ((k : Int) == id) = false := by simpa using hid
  have neq : Q ≠ P := Ne.symm ne
  have hc : what = 0 ∨ what = 1 ∨ what = 2 := by omega
  clear hid
  rcases hc with rfl | rfl | rfl
  · go_enter Tryd.func26, Tryd.ntmps26
    go_wp2
    exact bodyPost_end (v := .tuple #[]) (by simp [results, Tryd.results26, go_sem]) rfl (HG.out _ (HH.out.take k false hk) ((Turns.refl _ _ _).set (p := ⟨Q, k, none⟩) (.inr rfl) _))
  · go_enter Tryd.func26, Tryd.ntmps26
    go_wp2
    exact bodyPost_end (v := .tuple #[]) (by simp [results, Tryd.results26, go_sem]) rfl (HG.out _ ((HH.out.take k true hk).good (g + 1)) (((Turns.refl _ _ _).set (p := ⟨Q, k, none⟩) (.inr rfl) _).set (p := ⟨P, 3, none⟩) (.inl rfl) _))
  · go_enter Tryd.func26, Tryd.ntmps26
    go_wp2
    exact bodyPost_end (v := .tuple #[]) (by simp [results, Tryd.results26, go_sem]) rfl (HG.out _ ((HH.out.take k false hk).bad (b + 1)) (((Turns.refl _ _ _).set (p := ⟨Q, k, none⟩) (.inr rfl) _).set (p := ⟨P, 4, none⟩) (.inl rfl) _))
theorem refHears_acts {w : World} {P Q : Nat} {id : Int} {n : Nat} {t : Nat → Bool} {g b : Int} {fz : Bool} (h : RefNode w P Q id n t g b fz) (k : Nat) (what : Int) (hn : n ≤ 16) (hf : fz = false) (hk : k < n) (hid : (k : Int) ≠ id) (h0 : 0 ≤ what) (h2 : what ≤ 2) (hg0 : 0 ≤ g) (hg : g ≤ 4611686018427387904) (hb0 : 0 ≤ b) (hb : b ≤ 4611686018427387904) :
    Calls Tryd.prog 26 #[.pointer (some ⟨P, 0, none⟩), .int .i64 k, .int .i64 what] w fun e w' => e = .returned (.tuple #[]) ∧ RefNode w' P Q id n (fun j => if j = k then decide (what = 1) else t j) (if what = 1 then g + 1 else g) (if what = 2 then b + 1 else b) false ∧ Turns P Q w w' :=
  refHears_acts0 h k what hn hf hk hid h0 h2 hg0 hg hb0 hb _ fun _ a c => ⟨rfl, a, c⟩
end Go.Proofs.YtjppjdocncmkdabDoor
