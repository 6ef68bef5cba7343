/- The document's answer's Back: what becomes of a node. (Made by tools/gen_refback.py.) -/
import Derived.Test.YtjppjdocncmkdabDoorRefMember
import Derived.RegionTactic
import Derived.Deep.RegionHeld3
namespace Go.Proofs.YtjppjdocncmkdabDoor
open Go.RowKit

theorem next_node {w : World} {P Q : Nat} {id : Int} {n : Nat} {t s : Nat → Bool} {g b : Int} {fz : Bool} {q : Nat} {x : Bool} (h : RefNode w P Q id n (fun j => if j < q then s j || decide ((j : Int) = id) else t j) g b fz) (hq : q < n) (e : (s q || decide ((q : Int) = id)) = x) : RefNode (w.setCell ⟨Q, q, none⟩ (.bool x)) P Q id n (fun j => if j < q + 1 then s j || decide ((j : Int) = id) else t j) g b fz :=
  (h.take q x hq).same fun j _ => by
    by_cases y : j = q
    · subst y; rw [if_pos (by omega), if_pos rfl]; exact e
    · rw [if_neg y]
      by_cases v : j < q
      · rw [if_pos v, if_pos (by omega)]
      · rw [if_neg v, if_neg (by omega)]
set_option maxHeartbeats 1000000 in
theorem refBack_state {w : World} {P Q : Nat} {id : Int} {n : Nat} {t : Nat → Bool} {g b : Int} {fz : Bool} (h : RefNode w P Q id n t g b fz) (m : Int) (hf : fz = false) :
    Calls Tryd.prog 30 #[.pointer (some ⟨P, 0, none⟩), .int .i64 m] w fun e w' => e = .returned (.int .i64 6) ∧ w' = w := by
  subst hf
  obtain ⟨c0, c1, c2, c3, c4, c5, z, row, zr, ne, lp, lq⟩ := h
  clear z zr row
  go_enter Tryd.func30, Tryd.ntmps30
  go_wp2
  go_ret
  exact ⟨rfl, rfl⟩
set_option maxHeartbeats 1000000 in
theorem refBack_arg {w : World} {P Q : Nat} {id : Int} {n : Nat} {t : Nat → Bool} {g b : Int} {fz : Bool} (h : RefNode w P Q id n t g b fz) (m : Int) (hf : fz = true) (hn1 : 1 ≤ n) (hn : n ≤ 16) (hm : m < 0 ∨ 2 ^ n ≤ m) :
    Calls Tryd.prog 30 #[.pointer (some ⟨P, 0, none⟩), .int .i64 m] w fun e w' => e = .returned (.int .i64 1) ∧ w' = w := by
  subst hf
  obtain ⟨c0, c1, c2, c3, c4, c5, z, row, zr, ne, lp, lq⟩ := h
  clear z zr row
  have p0 := pow_pos n
  have p1 : (2 : Int) ^ n ≤ 2 ^ 16 := pow_le hn
  have p2 : (2 : Int) ^ 16 = 65536 := by decide
  by_cases k1 : 0 ≤ m
  · have k2 : decide (m ≤ 2 ^ n - 1) = false := decide_eq_false (by omega)
    clear hm
    go_enter Tryd.func30, Tryd.ntmps30
    go_wp2
    go_ret
    exact ⟨rfl, rfl⟩
  · have k2 : decide (0 ≤ m) = false := decide_eq_false k1
    clear hm k1
    go_enter Tryd.func30, Tryd.ntmps30
    go_wp2
    go_ret
    exact ⟨rfl, rfl⟩

set_option maxHeartbeats 2000000 in
theorem refBack_in {w : World} {P Q : Nat} {id : Int} {n : Nat} {t : Nat → Bool} {g b : Int} {fz : Bool} (h : RefNode w P Q id n t g b fz) (m : Int) (s : Nat → Bool) (hf : fz = true) (hn : n ≤ 16) (m0 : 0 ≤ m) (m1 : m < 2 ^ n) (hs : ∀ j, j < n → (bits BinOp.and .i64 m (2 ^ j) != 0) = s j) (G : Ending → World → Prop)
    (hG : ∀ w', RefNode w' P Q id n (fun j => s j || decide ((j : Int) = id)) 1 0 false → Turns P Q w w' → G (.returned (.int .i64 0)) w') :
    Calls Tryd.prog 30 #[.pointer (some ⟨P, 0, none⟩), .int .i64 m] w G := by
  subst hf
  have HH : Hid (RefNode w P Q id n t g b true) := h
  have HS : Hid (∀ j, j < n → (bits BinOp.and .i64 m (2 ^ j) != 0) = s j) := hs
  have HG : Hid _ := hG
  clear hs hG
  obtain ⟨c0, c1, c2, c3, c4, c5, z, row, zr, ne, lp, lq⟩ := h
  have z3 := z 3
  have z4 := z 4
  have z5 := z 5
  clear z zr row
  have p0 := pow_pos n
  have p1 : (2 : Int) ^ n ≤ 2 ^ 16 := pow_le hn
  have p2 : (2 : Int) ^ 16 = 65536 := by decide
  have k2 : m ≤ 2 ^ n - 1 := by omega
  obtain ⟨V, hVe⟩ : ∃ V, V = ((w.setCell ⟨P, 5, none⟩ (.bool false)).setCell ⟨P, 3, none⟩ (.int .i64 1)).setCell ⟨P, 4, none⟩ (.int .i64 0) := ⟨_, rfl⟩
  have HV : Hid (RefNode V P Q id n t 1 0 false) := by rw [hVe]; exact ((HH.out.freeze false).good 1).bad 0
  have HT : Hid (Turns P Q w V) := by rw [hVe]; exact (((Turns.refl _ _ _).set (p := ⟨P, 5, none⟩) (.inl rfl) _).set (p := ⟨P, 3, none⟩) (.inl rfl) _).set (p := ⟨P, 4, none⟩) (.inl rfl) _
  go_enter Tryd.func30, Tryd.ntmps30
  go_wp2
  rw [← hVe]
  clear hVe p0 p1 p2 k2 c0 c1 c2 c3 c4 c5 z3 z4 z5
  go_loopw [34] (fun v wr => ∃ q : Nat, q ≤ n ∧ v = .int .i64 q ∧ Hid (RefNode wr P Q id n (fun j => if j < q then s j || decide ((j : Int) = id) else t j) 1 0 false) ∧ Hid (Turns P Q w wr)) (fun v _ => n - (intOf v).toNat)
  case atStart => exact ⟨0, Nat.zero_le _, rfl, HV.out.same (fun j hj => by simp), HT.out⟩
  case round =>
    obtain ⟨q, hq, rfl, hN, hTu⟩ := hrel
    by_cases hlt : q < n
    · obtain ⟨c0, c1, c2, c3, c4, c5, z, row, zr, ne', lp', lq'⟩ := hN.out
      have r0 := row q hlt
      have zq := zr q
      have bq := HS.out q hlt
      clear z zr row c1 c3 c4 c5
      have kk : (q : Int) < (n : Int) := by omega
      have p0 := pow_pos q
      have p1 : (2 : Int) ^ q ≤ 2 ^ 16 := pow_le (by omega)
      have p2 : (2 : Int) ^ 16 = 65536 := by decide
      have neq : Q ≠ P := Ne.symm ne
      cases hv : s q
      · rw [hv] at bq
        by_cases e : (q : Int) = id
        · have HX : Hid ((s q || decide ((q : Int) = id)) = true) := by show _ = _; rw [decide_eq_true e, Bool.or_true]
          have e2 : ((q : Int) == id) = true := by simpa using e
          clear e
          have HNX : Hid (RefNode ((wr.setCell ⟨Q, q, none⟩ (.bool true)).drew) P Q id n (fun j => if j < q + 1 then s j || decide ((j : Int) = id) else t j) 1 0 false) := (next_node hN.out hlt HX.out).drawn 1
          have HTX : Hid (Turns P Q w ((wr.setCell ⟨Q, q, none⟩ (.bool true)).drew)) := (hTu.out.set (p := ⟨Q, q, none⟩) (.inr rfl) _).trans (Turns.drawn 1)
          go_wp2_with fail
          go_region
          go_wp2_with fail
          exact ⟨⟨q + 1, by omega, by go_num, HNX, HTX⟩, by simp [intOf]; omega⟩
        · have HX : Hid ((s q || decide ((q : Int) = id)) = false) := by show _ = _; rw [decide_eq_false e, hv]; rfl
          have e2 : ((q : Int) == id) = false := by simpa using e
          clear e
          have HNX : Hid (RefNode ((wr.setCell ⟨Q, q, none⟩ (.bool false)).drew) P Q id n (fun j => if j < q + 1 then s j || decide ((j : Int) = id) else t j) 1 0 false) := (next_node hN.out hlt HX.out).drawn 1
          have HTX : Hid (Turns P Q w ((wr.setCell ⟨Q, q, none⟩ (.bool false)).drew)) := (hTu.out.set (p := ⟨Q, q, none⟩) (.inr rfl) _).trans (Turns.drawn 1)
          go_wp2_with fail
          go_region
          go_wp2_with fail
          exact ⟨⟨q + 1, by omega, by go_num, HNX, HTX⟩, by simp [intOf]; omega⟩
      · rw [hv] at bq
        have HX : Hid ((s q || decide ((q : Int) = id)) = true) := by show _ = _; rw [hv]; rfl
        have HNX : Hid (RefNode ((wr.setCell ⟨Q, q, none⟩ (.bool true)).drew) P Q id n (fun j => if j < q + 1 then s j || decide ((j : Int) = id) else t j) 1 0 false) := (next_node hN.out hlt HX.out).drawn 1
        have HTX : Hid (Turns P Q w ((wr.setCell ⟨Q, q, none⟩ (.bool true)).drew)) := (hTu.out.set (p := ⟨Q, q, none⟩) (.inr rfl) _).trans (Turns.drawn 1)
        go_wp2_with fail
        go_region
        go_wp2_with fail
        exact ⟨⟨q + 1, by omega, by go_num, HNX, HTX⟩, by simp [intOf]; omega⟩
    · obtain rfl : q = n := by omega
      have HF : Hid (RefNode wr P Q id q (fun j => s j || decide ((j : Int) = id)) 1 0 false) := hN.out.same (fun j hj => by rw [if_pos hj])
      go_wp2
      exact HG.out _ HF.out hTu.out
end Go.Proofs.YtjppjdocncmkdabDoor
