/- The document's answer's word on windows: which is wrong first; new memory alone is made. -/
import Derived.Test.YtlpojkehbhkdiaaDoorProg
import Derived.Test.YtlpojkehbhkdiaaDoorFirstBad
import Derived.WalkKit
import Derived.WalkSpells
import Derived.WalkLawsBesides
import Derived.Deep.QuietTactic
import Derived.BigQuiet
namespace Go.Proofs.YtlpojkehbhkdiaaDoor
open Go.RowKit

theorem wrap_back (k : Nat) (h0 : 0 < k) (h : k ≤ 1000) : IntKind.i64.wrap ((k : Int) - 1) = (k : Int) - 1 := by
  simp [IntKind.wrap, IntKind.bits, IntKind.signed]
  omega
/-- Two numbers are handed back as they are told. -/
theorem ret_pair {a b c d : Int} (h : c = a ∧ d = b) : Ending.returned (.tuple #[.int .i64 a, .int .i64 b]) = .returned (.tuple #[.int .i64 c, .int .i64 d]) := by rw [h.1, h.2]

set_option maxHeartbeats 2000000 in
theorem windows_some (pt fr tq : Nat → Int) (frame e i : Int) (b off n cap : Nat) (w : World) (hn : n ≤ 1000)
    (hc : ∀ j, j < n → w.cell? ⟨b, off + j * 3, none⟩ = some (.int .i64 (pt j)) ∧ w.cell? ⟨b, off + j * 3 + 1, none⟩ = some (.int .i64 (fr j)) ∧ w.cell? ⟨b, off + j * 3 + 2, none⟩ = some (.int .i64 (tq j))) (hb : b < w.heap.size)
    (hF : FirstBad (winErr pt fr tq frame) n e i) :
    Calls Tryd.prog 22 #[.slice (some ⟨b, off, none⟩) n cap, .int .i64 frame] w fun ev w' => ev = .returned (.tuple #[.int .i64 e, .int .i64 i]) ∧ Below w.heap.size w w' := by
  have HF : Hid (FirstBad (winErr pt fr tq frame) n e i) := hF
  have HC : Hid (∀ j, j < n → w.cell? ⟨b, off + j * 3, none⟩ = some (.int .i64 (pt j)) ∧ w.cell? ⟨b, off + j * 3 + 1, none⟩ = some (.int .i64 (fr j)) ∧ w.cell? ⟨b, off + j * 3 + 2, none⟩ = some (.int .i64 (tq j))) := hc
  clear hF hc
  go_enter Tryd.func22, Tryd.ntmps22
  go_wp2
  go_loopw [10] (fun t wr => ∃ k : Nat, k ≤ n ∧ t = .int .i64 k ∧ Hid (∀ j, j < k → winErr pt fr tq frame j = 0) ∧ Below w.heap.size w wr) (fun t _ => n - (intOf t).toNat)
  case atStart => exact ⟨0, Nat.zero_le _, rfl, fun j hj => absurd hj (Nat.not_lt_zero _), Below.refl _ _⟩
  case round =>
    obtain ⟨k, hk, rfl, h0, hbe⟩ := hrel
    by_cases hlt : k < n
    · obtain ⟨x0, x1, x2⟩ := HC.out k hlt
      have y0 := (hbe.cell (p := ⟨b, off + k * 3, none⟩) hb).trans x0
      have y1 := (hbe.cell (p := ⟨b, off + k * 3 + 1, none⟩) hb).trans x1
      have y2 := (hbe.cell (p := ⟨b, off + k * 3 + 2, none⟩) hb).trans x2
      clear x0 x1 x2
      have hz : b < wr.heap.size := Nat.lt_of_lt_of_le hb hbe.size
      by_cases c1 : tq k ≤ fr k
      · go_wp2
        go_ret2
        exact ⟨ret_pair (HF.out.is hlt h0.out (winErr_1 c1) (by decide)), hbe.alloc hbe.size _⟩
      · have c1' : decide (tq k ≤ fr k) = false := decide_eq_false c1
        by_cases ck : k = 0
        · have k1 : ((k : Int) == 0) = true := by rw [ck]; rfl
          have k2 : decide (0 < k) = false := by rw [ck]; rfl
          have k3 : decide ((0 : Int) < (k : Int)) = false := by rw [ck]; rfl
          have CK : Hid (k = 0) := ck
          clear ck
          by_cases c2 : fr k < 0
          · go_wp2
            go_ret2
            exact ⟨ret_pair (HF.out.is hlt h0.out (winErr_10 c1 (.inl ⟨CK.out, c2⟩)) (by decide)), hbe.alloc hbe.size _⟩
          · have c2' : decide (fr k < 0) = false := decide_eq_false c2
            have c3 : Hid (¬ ((k = 0 ∧ fr k < 0) ∨ (0 < k ∧ fr k < tq (k - 1)))) := by
              have := CK.out
              rintro (⟨_, h⟩ | ⟨h, _⟩)
              · exact c2 h
              · omega
            go_wp2
            go_quiet (fail)
            go_wp2
            · go_ret2
              exact ⟨ret_pair (HF.out.is hlt h0.out (winErr_2 c1 c3.out (by assumption)) (by decide)), below_drewN (hbe.alloc hbe.size _) _⟩
            · go_ret2
              exact ⟨ret_pair (HF.out.is hlt h0.out (winErr_7 c1 c3.out (by assumption) (.inr (by simp_all))) (by decide)), below_drewN (hbe.alloc hbe.size _) _⟩
            · refine ⟨⟨k + 1, by omega, by go_num, next_zero h0.out (winErr_0 c1 c3.out (by assumption) (by assumption) (by simp_all)), below_drewN (hbe.alloc hbe.size _) _⟩, ?_⟩
              simp [intOf]; omega
            · go_ret2
              exact ⟨ret_pair (HF.out.is hlt h0.out (winErr_7 c1 c3.out (by assumption) (.inl (by assumption))) (by decide)), below_drewN (hbe.alloc hbe.size _) _⟩
        · have hk0 : 0 < k := Nat.pos_of_ne_zero ck
          have k1 : ((k : Int) == 0) = false := by simp; omega
          have k2 : (0 : Int) < (k : Int) := by omega
          have k3 : (k : Int) ≤ 1000 := by omega
          have k4 : (1 : Int) ≤ (k : Int) := by omega
          have k5 : (k : Int) - 1 < (n : Int) := by omega
          have k6 : (0 : Int) ≤ (k : Int) - 1 := by omega
          have k7 : IntKind.i64.wrap ((k : Int) - 1) = (k : Int) - 1 := wrap_back k (by omega) (by omega)
          have k8 : ((k : Int) - 1).toNat = k - 1 := by omega
          have y3 := (hbe.cell (p := ⟨b, off + (k - 1) * 3 + 2, none⟩) hb).trans (HC.out (k - 1) (by omega)).2.2
          have CK : Hid (0 < k) := hk0
          have c3 : Hid (tq (k - 1) ≤ fr k → ¬ ((k = 0 ∧ fr k < 0) ∨ (0 < k ∧ fr k < tq (k - 1)))) := by
            have := CK.out
            rintro g (⟨h, _⟩ | ⟨_, h⟩) <;> omega
          clear ck
          go_wp2
          go_quiet (fail)
          go_wp2
          · go_ret2
            exact ⟨ret_pair (HF.out.is hlt h0.out (winErr_10 c1 (.inr ⟨CK.out, by assumption⟩)) (by decide)), below_drewN (hbe.alloc hbe.size _) _⟩
          · go_ret2
            exact ⟨ret_pair (HF.out.is hlt h0.out (winErr_2 c1 (c3.out (by assumption)) (by assumption)) (by decide)), below_drewN (hbe.alloc hbe.size _) _⟩
          · go_ret2
            exact ⟨ret_pair (HF.out.is hlt h0.out (winErr_7 c1 (c3.out (by assumption)) (by assumption) (.inr (by simp_all))) (by decide)), below_drewN (hbe.alloc hbe.size _) _⟩
          · refine ⟨⟨k + 1, by omega, by go_num, next_zero h0.out (winErr_0 c1 (c3.out (by assumption)) (by assumption) (by assumption) (by simp_all)), below_drewN (hbe.alloc hbe.size _) _⟩, ?_⟩
            simp [intOf]; omega
          · go_ret2
            exact ⟨ret_pair (HF.out.is hlt h0.out (winErr_7 c1 (c3.out (by assumption)) (by assumption) (.inl (by assumption))) (by decide)), below_drewN (hbe.alloc hbe.size _) _⟩
    · go_wp2
      go_ret2
      exact ⟨ret_pair (HF.out.at_end (fun j hj => h0.out j (by omega))), hbe⟩
end Go.Proofs.YtlpojkehbhkdiaaDoor
