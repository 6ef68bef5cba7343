/- The document's answer's number: its bytes, seven bits each, the least ones first, in new memory. -/
import Derived.Test.YtlpojkehbhkdiaaDoorProg
import Derived.Test.YtlpojkehbhkdiaaDoorNumBytes
import Derived.WalkKit
import Derived.WalkSpells
import Derived.WalkLawsBesides
namespace Go.Proofs.YtlpojkehbhkdiaaDoor
open Go.RowKit

set_option maxHeartbeats 1000000 in
theorem number_small (n : Nat) (h : n < 128) (w : World) :
    Calls Tryd.prog 23 #[.int .i64 n] w fun e w' => ∃ v, e = .returned v ∧ w'.ownsRow w.heap.size 5 1 v 1 [.int .u8 n] ∧ Below w.heap.size w w' := by
  have h1 : (n : Int) < 128 := by omega
  go_enter Tryd.func23, Tryd.ntmps23
  go_wp2
  go_ret
  exact ⟨_, rfl, owns_lit w _ _, (Below.refl _ _).alloc (Nat.le_refl _) _⟩

set_option maxHeartbeats 1000000 in
theorem number_step (n : Nat) (h : 128 ≤ n) (hM : n ≤ 1099511627776) (m : Nat) (xs : List Value) (hm : xs.length = m) (hm1 : 1 ≤ m) (hm2 : m ≤ 10) (hone : ∀ u ∈ xs, u.oneCell' = true) (w : World)
    (hrec : ∀ w : World, Calls Tryd.prog 23 #[.int .i64 ((n : Int) / 128)] w fun e w' => ∃ v, e = .returned v ∧ w'.ownsRow w.heap.size 5 1 v m xs ∧ Below w.heap.size w w') :
    Calls Tryd.prog 23 #[.int .i64 n] w fun e w' => ∃ v, e = .returned v ∧ w'.ownsRow w.heap.size 5 1 v (1 + m) (.int .u8 ((n : Int) % 128 + 128) :: xs) ∧ Below w.heap.size w w' := by
  have h1 : (128 : Int) ≤ (n : Int) := by omega
  have h2 : (n : Int) ≤ 1099511627776 := by omega
  have hn : decide ((n : Int) < 128) = false := decide_eq_false (by omega)
  have HR : Hid (∀ w : World, Calls Tryd.prog 23 #[.int .i64 ((n : Int) / 128)] w fun e w' => ∃ v, e = .returned v ∧ w'.ownsRow w.heap.size 5 1 v m xs ∧ Below w.heap.size w w') := hrec
  clear hrec
  obtain ⟨i0, hi, hz0, hz1, hz2⟩ := info_parts Tryd.infoByte
  go_enter Tryd.func23, Tryd.ntmps23
  go_wp2_with fail
  refine (HR.out _).mono ?_
  rintro e w1 ⟨v1, rfl, hown, hb⟩
  have hlit := owns_below (owns_lit w (.int .u8 ((n : Int) % 128 + 128)) 5) hb
  obtain ⟨g, cap, rfl, hg, hcells⟩ := owns_some hown hm1
  have hz := hb.size
  simp at hz hg
  have hlen : xs.length = m * 1 := by omega
  clear hown
  go_wp2_with (at_builtin; refine wpList_append_own _ rfl _ _ 36 rfl w.heap.size 5 i0 (.int .u8 0) 1 1 Tryd.underlying36 hi hz0 hz1 hz2 rfl (by decide) _ 1 [.int .u8 ((n : Int) % 128 + 128)] rfl hlit ⟨g, 0, none⟩ m cap xs rfl hlen hcells hone (by unfold maxLen; omega) (by omega) (by omega) ?_; intro v' w2 hown' hgrow hnil)
  go_ret
  refine ⟨_, rfl, hown', ?_⟩
  have hB : Below w.heap.size w w1 := ((Below.refl _ _).alloc (Nat.le_refl _) _).trans (hb.mono (by simp))
  exact hB.grown hgrow (by omega) (fun k hk => by cases hk; exact Nat.le_refl _)

/-- A number's bytes, whatever the number. -/
theorem rnum_any : ∀ (k n : Nat), n < 128 ^ (k + 1) → n ≤ 1099511627776 → k ≤ 8 → ∀ w : World,
    Calls Tryd.prog 23 #[.int .i64 n] w fun e w' => ∃ v, e = .returned v ∧ w'.ownsRow w.heap.size 5 1 v (numB k n).length ((numB k n).map (Value.int .u8)) ∧ Below w.heap.size w w'
  | 0, n, h, _, _, w => number_small n (by simpa using h) w
  | k + 1, n, h, hM, hk, w => by
    by_cases h1 : n < 128
    · have e : numB (k + 1) n = [(n : Int)] := by simp [numB, h1]
      rw [e]; exact number_small n h1 w
    · have e : numB (k + 1) n = ((n % 128 : Nat) + 128 : Int) :: numB k (n / 128) := by simp [numB, h1]
      have hl := numB_len k (n / 128)
      have ih := rnum_any k (n / 128) (by rw [Nat.div_lt_iff_lt_mul (by decide)]; rw [Nat.pow_succ] at h; exact h) (by omega) (by omega)
      have e2 : ((n / 128 : Nat) : Int) = (n : Int) / 128 := by omega
      rw [e2] at ih
      have s := number_step n (by omega) hM (numB k (n / 128)).length ((numB k (n / 128)).map (Value.int .u8)) (by simp) hl.1 (by omega) (fun u hu => by
        simp at hu; obtain ⟨a, _, rfl⟩ := hu; rfl) w ih
      rw [e]
      have e3 : (((n % 128 : Nat) : Int) + 128) = (n : Int) % 128 + 128 := by omega
      have e4 : (((n % 128 : Nat) + 128 : Int) :: numB k (n / 128)).length = 1 + (numB k (n / 128)).length := by simp; omega
      rw [e4, List.map_cons, e3]
      exact s
end Go.Proofs.YtlpojkehbhkdiaaDoor
