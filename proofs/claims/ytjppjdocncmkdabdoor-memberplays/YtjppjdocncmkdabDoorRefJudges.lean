/- The document's answer's Judges; nothing is turned. (Made by tools/gen_refjudges.py.) -/
import Derived.Test.YtjppjdocncmkdabDoorRefMember
import Derived.Test.YtjppjdocncmkdabDoorMemberMath
namespace Go.Proofs.YtjppjdocncmkdabDoor
open Go.RowKit


set_option maxHeartbeats 1000000 in
theorem refJudges_out {w : World} {P Q : Nat} {id : Int} {n : Nat} {t : Nat → Bool} {g b : Int} {fz : Bool} (h : RefNode w P Q id n t g b fz) (frm m : Int) (hn1 : 1 ≤ n) (hn : n ≤ 16) (ho : ¬ ((0 ≤ frm ∧ frm < n) ∧ 0 ≤ m ∧ m < 2 ^ n)) :
    Calls Tryd.prog 32 #[.pointer (some ⟨P, 0, none⟩), .int .i64 frm, .int .i64 m] w fun e w' => e = .returned (.int .i64 2) ∧ w' = w := by
  obtain ⟨c0, c1, c2, c3, c4, c5, z, row, zr, ne, lp, lq⟩ := h
  clear z zr row
  have p0 := pow_pos n
  have p1 : (2 : Int) ^ n ≤ 2 ^ 16 := pow_le hn
  have p2 : (2 : Int) ^ 16 = 65536 := by decide
  by_cases k1 : 0 ≤ frm
  · by_cases k2 : frm ≤ (n : Int) - 1
    · by_cases k3 : m < 0
      · clear ho
        go_enter Tryd.func32, Tryd.ntmps32
        go_wp2
        go_ret
        exact ⟨rfl, rfl⟩
      · have k3' : decide (m < 0) = false := decide_eq_false k3
        have k4 : 2 ^ n ≤ m := by omega
        clear k3
        clear ho
        go_enter Tryd.func32, Tryd.ntmps32
        go_wp2
        go_ret
        exact ⟨rfl, rfl⟩
    · have k2' : decide (frm ≤ (n : Int) - 1) = false := decide_eq_false k2
      clear ho k2
      go_enter Tryd.func32, Tryd.ntmps32
      go_wp2
      go_ret
      exact ⟨rfl, rfl⟩
  · have k1' : decide (0 ≤ frm) = false := decide_eq_false k1
    clear ho k1
    go_enter Tryd.func32, Tryd.ntmps32
    go_wp2
    go_ret
    exact ⟨rfl, rfl⟩

set_option maxHeartbeats 2000000 in
theorem refJudges_in {w : World} {P Q : Nat} {id : Int} {n : Nat} {t : Nat → Bool} {g b : Int} {fz : Bool} (h : RefNode w P Q id n t g b fz) (k : Nat) (m : Int) (s : Nat → Bool) (hn : n ≤ 16) (hk : k < n) (m0 : 0 ≤ m) (m1 : m < 2 ^ n) (hs : ∀ j, j < n → (bits BinOp.and .i64 m (2 ^ j) != 0) = s j) :
    Calls Tryd.prog 32 #[.pointer (some ⟨P, 0, none⟩), .int .i64 k, .int .i64 m] w fun e w' => e = .returned (.int .i64 (if judB n k s t = true then 1 else 2)) ∧ w' = w := by
  obtain ⟨c0, c1, c2, c3, c4, c5, z, row, zr, ne, lp, lq⟩ := h
  have HR : Hid (∀ j, j < n → w.cell? ⟨Q, j, none⟩ = some (.bool (t j))) := row
  have HS : Hid (∀ j, j < n → (bits BinOp.and .i64 m (2 ^ j) != 0) = s j) := hs
  clear z zr row hs
  have p0 := pow_pos n
  have p1 : (2 : Int) ^ n ≤ 2 ^ 16 := pow_le hn
  have p2 : (2 : Int) ^ 16 = 65536 := by decide
  have k0 : (k : Int) ≤ (n : Int) - 1 := by omega
  have k3 : decide (m < 0) = false := decide_eq_false (by omega)
  have k4 : decide (2 ^ n ≤ m) = false := decide_eq_false (by omega)
  obtain ⟨J, hJ⟩ : ∃ J : Int, (if judB n k s t = true then 1 else 2) = J := ⟨_, rfl⟩
  have HJ : Hid ((if judB n k s t = true then 1 else 2) = J) := hJ
  rw [hJ]
  clear hJ
  go_enter Tryd.func32, Tryd.ntmps32
  go_wp2
  clear p0 p1 p2 k3 k4
  go_loopw [36] (fun v wr => ∃ q : Nat, q ≤ n ∧ v = .int .i64 q ∧ Hid (∀ j, j < q → (j = k → s j = true) ∧ (j ≠ k → s j = t j)) ∧ wr = w) (fun v _ => n - (intOf v).toNat)
  case atStart => exact ⟨0, Nat.zero_le _, rfl, fun j hj => absurd hj (Nat.not_lt_zero _), rfl⟩
  case round =>
    obtain ⟨q, hq, rfl, h0, hwr⟩ := hrel
    subst hwr
    by_cases hlt : q < n
    · have r0 := HR.out q hlt
      have bq := HS.out q hlt
      have kk : (q : Int) < (n : Int) := by omega
      have p0 := pow_pos q
      have p1 : (2 : Int) ^ q ≤ 2 ^ 16 := pow_le (by omega)
      have p2 : (2 : Int) ^ 16 = 65536 := by decide
      by_cases e : q = k
      · subst e
        cases hv : s q
        · have HNO : Hid (J = 2) := by
            show _ = _
            rw [← HJ.out, if_neg (fun y => by have := (judB_iff.1 y).1; rw [hv] at this; cases this)]
          rw [hv] at bq
          go_wp2
          go_ret
          exact ⟨by rw [HNO.out]; rfl, rfl⟩
        · have HOK : Hid ((q = q → s q = true) ∧ (q ≠ q → s q = t q)) := ⟨fun _ => hv, fun y => absurd rfl y⟩
          rw [hv] at bq
          go_wp2
          exact ⟨⟨q + 1, by omega, by go_num, fun j hj => by
            rcases Nat.lt_succ_iff_lt_or_eq.1 hj with y | y
            · exact h0.out j y
            · rw [y]; exact HOK.out, trivial⟩, by simp [intOf]; omega⟩
      · have e1 : ((q : Int) == (k : Int)) = false := by simp; omega
        have e2 : ((q : Int) != (k : Int)) = true := by simp; omega
        by_cases hv : s q = t q
        · have HOK : Hid ((q = k → s q = true) ∧ (q ≠ k → s q = t q)) := ⟨fun y => absurd y e, fun _ => hv⟩
          rw [hv] at bq
          clear e
          cases ht : t q
          · rw [ht] at r0 bq
            go_wp2
            exact ⟨⟨q + 1, by omega, by go_num, fun j hj => by
              rcases Nat.lt_succ_iff_lt_or_eq.1 hj with y | y
              · exact h0.out j y
              · rw [y]; exact HOK.out, trivial⟩, by simp [intOf]; omega⟩
          · rw [ht] at r0 bq
            go_wp2
            exact ⟨⟨q + 1, by omega, by go_num, fun j hj => by
              rcases Nat.lt_succ_iff_lt_or_eq.1 hj with y | y
              · exact h0.out j y
              · rw [y]; exact HOK.out, trivial⟩, by simp [intOf]; omega⟩
        · have HNO : Hid (J = 2) := by
            show _ = _
            rw [← HJ.out, if_neg (fun y => hv ((judB_iff.1 y).2 q hlt e))]
          clear e
          cases ht : t q
          · have hs1 : s q = true := by cases y : s q
                                        · rw [y, ht] at hv; exact absurd rfl hv
                                        · rfl
            rw [ht] at r0
            rw [hs1] at bq
            clear hv
            go_wp2
            go_ret
            exact ⟨by rw [HNO.out]; rfl, rfl⟩
          · have hs1 : s q = false := by cases y : s q
                                         · rfl
                                         · rw [y, ht] at hv; exact absurd rfl hv
            rw [ht] at r0
            rw [hs1] at bq
            clear hv
            go_wp2
            go_ret
            exact ⟨by rw [HNO.out]; rfl, rfl⟩
    · obtain rfl : q = n := by omega
      have HY : Hid (J = 1) := by
        show _ = _
        rw [← HJ.out, if_pos (judB_iff.2 ⟨(h0.out k hk).1 rfl, fun j hj hne => (h0.out j hj).2 hne⟩)]
      go_wp2
      go_ret
      exact ⟨by rw [HY.out]; rfl, rfl⟩

/-- The document's answer's Judges, whatever it is asked. -/
theorem refJudges_any {w : World} {P Q : Nat} {id : Int} {n : Nat} {t : Nat → Bool} {g b : Int} {fz : Bool} (h : RefNode w P Q id n t g b fz) (frm m : Int) (s : Nat → Bool) (hn1 : 1 ≤ n) (hn : n ≤ 16) (hs : 0 ≤ m → m < 2 ^ n → ∀ j, j < n → (bits BinOp.and .i64 m (2 ^ j) != 0) = s j) :
    Calls Tryd.prog 32 #[.pointer (some ⟨P, 0, none⟩), .int .i64 frm, .int .i64 m] w fun e w' => e = .returned (.int .i64 (judgeV n t s frm m)) ∧ w' = w := by
  by_cases ho : (0 ≤ frm ∧ frm < n) ∧ 0 ≤ m ∧ m < 2 ^ n
  · have key := refJudges_in h frm.toNat m s hn (by omega) ho.2.1 ho.2.2 (hs ho.2.1 ho.2.2)
    rw [show ((frm.toNat : Nat) : Int) = frm by omega] at key
    have e : judgeV n t s frm m = if judB n frm.toNat s t = true then 1 else 2 := by
      unfold judgeV
      by_cases q : judB n frm.toNat s t = true
      · rw [if_pos ⟨ho.1, ho.2.1, ho.2.2, q⟩, if_pos q]
      · rw [if_neg (fun y => q y.2.2.2), if_neg q]
    rw [e]
    exact key
  · have e : judgeV n t s frm m = 2 := by
      unfold judgeV
      rw [if_neg (fun y => ho ⟨y.1, y.2.1, y.2.2.1⟩)]
    rw [e]
    exact refJudges_out h frm m hn1 hn ho
end Go.Proofs.YtjppjdocncmkdabDoor
