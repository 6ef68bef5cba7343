/- AgreeHalves' small words: pick, at, middled; and the program's Spread. -/
import Derived.Test.YtfofaaagenclmabDoorHalvesWords
import Derived.Test.YtfofaaagenclmabDoorOwnInts
namespace Go.Proofs.YtfofaaagenclmabDoor
open Go.RowKit Go.Shelf Go.Sort

theorem wrap_pk (a n : Int) : (IntKind.u64.wrap a).tmod n = pk a n := by
  have e : IntKind.u64.wrap a = a % 18446744073709551616 := by simp [IntKind.wrap, IntKind.signed, IntKind.bits]
  rw [e, Int.tmod_eq_emod_of_nonneg (Int.emod_nonneg _ (by decide))]
  rfl

set_option maxHeartbeats 1000000 in
theorem pick_any (a n : Int) (h0 : 0 < n) (h1 : n ≤ 9223372036854775807) (w : World) : Calls Tryd.prog 13 #[.int .i64 a, .int .i64 n] w fun e w' => e = .returned (.int .i64 (pk a n)) ∧ w' = w := by
  have hp := pk_in (a := a) h0
  have k1 : (n == 0) = false := by simp; omega
  have e1 := wrap_pk a n
  generalize pk a n = x at *
  go_enter Tryd.func13, Tryd.ntmps13
  go_wp2
  go_ret
  exact ⟨rfl, rfl⟩

set_option maxHeartbeats 1000000 in
theorem at_any (a : Option Addr) (cap : Nat) (l : List Int) (k : Int) (w : World) (hr : IntRow w a l) (hn : l.length ≤ maxLen) : Calls Tryd.prog 15 #[.slice a l.length cap, .int .i64 k] w fun e w' => e = .returned (.int .i64 (atV l k)) ∧ w' = w := by
  unfold atV
  by_cases h : l.length = 0
  · rw [if_pos h, h]
    go_enter Tryd.func15, Tryd.ntmps15
    go_wp2
    go_ret
    exact ⟨rfl, rfl⟩
  · rw [if_neg h]
    obtain ⟨b, off, rfl, hb, hc⟩ := hr (by omega)
    have hp := pk_in (a := k) (n := (l.length : Int)) (by omega)
    have hpi := pick_any k (l.length : Int) (by omega) (by unfold maxLen at hn; omega) w
    obtain ⟨j, hj⟩ : ∃ j : Nat, pk k (l.length : Int) = (j : Int) := ⟨(pk k l.length).toNat, by omega⟩
    have hx := hc j (by omega)
    rw [hj] at hp hpi ⊢
    rw [Int.toNat_natCast]
    generalize l.getD j 0 = x at hx ⊢
    have k1 : ((l.length : Int) == 0) = false := by simp; intro e; exact h (by rw [e]; rfl)
    generalize l.length = n at *
    have k2 : (j : Int) < (n : Int) := hp.2
    clear hc hj hr hp h hn
    go_enter Tryd.func15, Tryd.ntmps15
    go_wp2_with fail
    refine hpi.mono ?_
    rintro e w1 ⟨rfl, rfl⟩
    go_wp2
    go_ret
    exact ⟨rfl, rfl⟩

theorem middled_any (w : World) : Calls Tryd.prog 14 #[] w fun e w' => e = .returned (.bool true) ∧ Below w.heap.size w w' := by
  have hm : midErr [0, 10, 1000, 4] 1 = 0 := midErr_0 (by decide) (by decide)
  have hv : midVal [0, 10, 1000, 4] 1 = 7 := by
    rw [midVal_ok hm]
    have hs : srt [0, 10, 1000, 4] = [0, 4, 10, 1000] := by
      refine List.Perm.eq_of_pairwise (le := fun a b => a ≤ b) (fun a b _ _ h1 h2 => Int.le_antisymm h1 h2) (srt_pair _) (by decide) ((srt_perm _).trans (by decide))
    unfold midOf rank
    rw [hs]
    decide
  have hW : Below w.heap.size w (w.alloc (.cells #[.int .i64 0, .int .i64 10, .int .i64 1000, .int .i64 4] 3)) := (Below.refl _ _).alloc (Nat.le_refl _) _
  have hI : IntRow (w.alloc (.cells #[.int .i64 0, .int .i64 10, .int .i64 1000, .int .i64 4] 3)) (some ⟨w.heap.size, 0, none⟩) [0, 10, 1000, 4] := fun _ => ⟨w.heap.size, 0, rfl, by simp, fun j hj => by
    have : j = 0 ∨ j = 1 ∨ j = 2 ∨ j = 3 := by simp at hj; omega
    rcases this with rfl | rfl | rfl | rfl <;> simp⟩
  have hmid := mid_any (some ⟨w.heap.size, 0, none⟩) 4 [0, 10, 1000, 4] 1 _ hI (by decide)
  rw [hv, hm, errV_0] at hmid
  go_enter Tryd.func14, Tryd.ntmps14
  go_wp2_with fail
  refine hmid.mono ?_
  rintro e w1 ⟨rfl, hb⟩
  go_wp2
  go_ret
  exact ⟨rfl, hW.trans (hb.mono hW.size)⟩

set_option maxHeartbeats 1000000 in
theorem spread_any (a : Option Addr) (cap : Nat) (l : List Int) (w : World) (hr : IntRow w a l) (h0 : 0 < l.length) (hn : l.length ≤ 1000) (hin : ∀ x ∈ l, -2199023255552 ≤ x ∧ x ≤ 2199023255552) :
    Calls Tryd.prog 16 #[.slice a l.length cap] w fun e w' => e = .returned (.int .i64 (spr l)) ∧ w' = w := by
  obtain ⟨b, off, rfl, hb, hc⟩ := hr h0
  have hne : l ≠ [] := by rintro rfl; simp at h0
  have m1 := hin _ (max_of hne).1
  have m2 := hin _ (min_of hne).1
  have hM := Tryd.slices_Max_int b off l.length cap l w h0 (Nat.le_refl _) (by omega) hc
  have hm := Tryd.slices_Min_int b off l.length cap l w h0 (Nat.le_refl _) (by omega) hc
  rw [List.take_length] at hM hm
  unfold spr
  have k1 : ((l.length : Int) == 0) = false := by simp; intro e; exact hne e
  generalize Lib.maxOf l = x at *
  generalize Lib.minOf l = y at *
  generalize l.length = n at *
  clear hc hin hr hne
  go_enter Tryd.func16, Tryd.ntmps16
  go_wp2_with fail
  refine hM.mono ?_
  rintro e w1 ⟨rfl, rfl⟩
  go_wp2_with fail
  refine hm.mono ?_
  rintro e w1 ⟨rfl, rfl⟩
  go_wp2
  go_ret
  exact ⟨rfl, rfl⟩
end Go.Proofs.YtfofaaagenclmabDoor
