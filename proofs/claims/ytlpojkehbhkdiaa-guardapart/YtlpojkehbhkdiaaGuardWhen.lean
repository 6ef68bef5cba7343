/- A guard in a box of its own: what lies there; and its word 'when': when its clock shows an end of a slot, or why it does not. New memory alone is made. -/
import Derived.Test.YtlpojkehbhkdiaaTicksRealG
import Derived.Test.YtlpojkehbhkdiaaTicksAdd
namespace Go.Proofs.Ytlpojkehbhkdiaa
open Go.RowKit

/-- What lies in a guard's box. -/
def GuardBox (b : Nat) (nodes faulty skew jitter drift R frame : Int) (sa la wa : Option Addr) (ns sc nl lc nw wc : Nat) (f s n d node : Int) (u : World) : Prop :=
  u.cell? ⟨b, 0, none⟩ = some (.int .i64 nodes) ∧ u.cell? ⟨b, 1, none⟩ = some (.int .i64 faulty) ∧ u.cell? ⟨b, 2, none⟩ = some (.int .i64 skew) ∧ u.cell? ⟨b, 3, none⟩ = some (.int .i64 jitter) ∧ u.cell? ⟨b, 4, none⟩ = some (.int .i64 drift) ∧ u.cell? ⟨b, 5, none⟩ = some (.int .i64 R) ∧ u.cell? ⟨b, 6, none⟩ = some (.slice sa ns sc) ∧ u.cell? ⟨b, 7, none⟩ = some (.slice la nl lc) ∧ u.cell? ⟨b, 8, none⟩ = some (.int .i64 frame) ∧ u.cell? ⟨b, 9, none⟩ = some (.slice wa nw wc) ∧ u.cell? ⟨b, 10, none⟩ = some (.int .i64 f) ∧ u.cell? ⟨b, 11, none⟩ = some (.int .i64 s) ∧ u.cell? ⟨b, 12, none⟩ = some (.int .i64 n) ∧ u.cell? ⟨b, 13, none⟩ = some (.int .i64 d) ∧ u.cell? ⟨b, 14, none⟩ = some (.int .i64 node)
theorem GuardBox.below {b : Nat} {nodes faulty skew jitter drift R frame : Int} {sa la wa : Option Addr} {ns sc nl lc nw wc : Nat} {f s n d node : Int} {u v : World} (h : GuardBox b nodes faulty skew jitter drift R frame sa la wa ns sc nl lc nw wc f s n d node u) (hb : Below u.heap.size u v) (hz : b < u.heap.size) : GuardBox b nodes faulty skew jitter drift R frame sa la wa ns sc nl lc nw wc f s n d node v := by
  obtain ⟨a0, a1, a2, a3, a4, a5, a6, a7, a8, a9, a10, a11, a12, a13, a14⟩ := h
  exact ⟨(hb.cell (p := ⟨b, 0, none⟩) hz).trans a0, (hb.cell (p := ⟨b, 1, none⟩) hz).trans a1, (hb.cell (p := ⟨b, 2, none⟩) hz).trans a2, (hb.cell (p := ⟨b, 3, none⟩) hz).trans a3, (hb.cell (p := ⟨b, 4, none⟩) hz).trans a4, (hb.cell (p := ⟨b, 5, none⟩) hz).trans a5, (hb.cell (p := ⟨b, 6, none⟩) hz).trans a6, (hb.cell (p := ⟨b, 7, none⟩) hz).trans a7, (hb.cell (p := ⟨b, 8, none⟩) hz).trans a8, (hb.cell (p := ⟨b, 9, none⟩) hz).trans a9, (hb.cell (p := ⟨b, 10, none⟩) hz).trans a10, (hb.cell (p := ⟨b, 11, none⟩) hz).trans a11, (hb.cell (p := ⟨b, 12, none⟩) hz).trans a12, (hb.cell (p := ⟨b, 13, none⟩) hz).trans a13, (hb.cell (p := ⟨b, 14, none⟩) hz).trans a14⟩
theorem guard_new (nodes faulty skew jitter drift R frame : Int) (sa la wa : Option Addr) (ns sc nl lc nw wc : Nat) (f s n d node : Int) (t : TypeId) (w : World) : GuardBox w.heap.size nodes faulty skew jitter drift R frame sa la wa ns sc nl lc nw wc f s n d node (w.alloc (.cells #[.int .i64 nodes, .int .i64 faulty, .int .i64 skew, .int .i64 jitter, .int .i64 drift, .int .i64 R, .slice sa ns sc, .slice la nl lc, .int .i64 frame, .slice wa nw wc, .int .i64 f, .int .i64 s, .int .i64 n, .int .i64 d, .int .i64 node] t)) := by
  have a : ∀ (i : Nat) (v : Value), (#[.int .i64 nodes, .int .i64 faulty, .int .i64 skew, .int .i64 jitter, .int .i64 drift, .int .i64 R, .slice sa ns sc, .slice la nl lc, .int .i64 frame, .slice wa nw wc, .int .i64 f, .int .i64 s, .int .i64 n, .int .i64 d, .int .i64 node] : Array Value)[i]? = some v → (w.alloc (.cells #[.int .i64 nodes, .int .i64 faulty, .int .i64 skew, .int .i64 jitter, .int .i64 drift, .int .i64 R, .slice sa ns sc, .slice la nl lc, .int .i64 frame, .slice wa nw wc, .int .i64 f, .int .i64 s, .int .i64 n, .int .i64 d, .int .i64 node] t)).cell? ⟨w.heap.size, i, none⟩ = some v := fun i v h => by
    simp
    simpa using h
  exact ⟨a 0 _ rfl, a 1 _ rfl, a 2 _ rfl, a 3 _ rfl, a 4 _ rfl, a 5 _ rfl, a 6 _ rfl, a 7 _ rfl, a 8 _ rfl, a 9 _ rfl, a 10 _ rfl, a 11 _ rfl, a 12 _ rfl, a 13 _ rfl, a 14 _ rfl⟩

/-- When an end of a slot is, as it is answered. -/
def whenV (f s n d a x : Int) : Int := if endE f s n d a x = 0 then endT f s n d a x else 0

set_option maxRecDepth 100000 in
set_option maxHeartbeats 2000000 in
theorem when_any (nodes faulty skew jitter drift R frame : Int) (sa la wa : Option Addr) (ns sc nl lc nw wc : Nat) (f s n d node : Int) (a x : Int) (w : World) :
    Calls Try.prog 41 #[.agg #[.int .i64 nodes, .int .i64 faulty, .int .i64 skew, .int .i64 jitter, .int .i64 drift, .int .i64 R, .slice sa ns sc, .slice la nl lc, .int .i64 frame, .slice wa nw wc, .int .i64 f, .int .i64 s, .int .i64 n, .int .i64 d, .int .i64 node], .int .i64 a, .int .i64 x] w fun e w' => e = .returned (.tuple #[.int .i64 (whenV f s n d a x), errV (endE f s n d a x)]) ∧ Below w.heap.size w w' := by
  have hG := guard_new nodes faulty skew jitter drift R frame sa la wa ns sc nl lc nw wc f s n d node 45 w
  have hV : Below w.heap.size w (w.alloc (.cells #[.int .i64 nodes, .int .i64 faulty, .int .i64 skew, .int .i64 jitter, .int .i64 drift, .int .i64 R, .slice sa ns sc, .slice la nl lc, .int .i64 frame, .slice wa nw wc, .int .i64 f, .int .i64 s, .int .i64 n, .int .i64 d, .int .i64 node] 45)) := (Below.refl _ _).alloc (Nat.le_refl _) _
  have hz : w.heap.size < (w.alloc (.cells #[.int .i64 nodes, .int .i64 faulty, .int .i64 skew, .int .i64 jitter, .int .i64 drift, .int .i64 R, .slice sa ns sc, .slice la nl lc, .int .i64 frame, .slice wa nw wc, .int .i64 f, .int .i64 s, .int .i64 n, .int .i64 d, .int .i64 node] 45)).heap.size := by simp
  have hadd := add_any a x (w.alloc (.cells #[.int .i64 nodes, .int .i64 faulty, .int .i64 skew, .int .i64 jitter, .int .i64 drift, .int .i64 R, .slice sa ns sc, .slice la nl lc, .int .i64 frame, .slice wa nw wc, .int .i64 f, .int .i64 s, .int .i64 n, .int .i64 d, .int .i64 node] 45))
  by_cases hae : addE a x = 0
  · have hw : whenV f s n d a x = realV f s n d (a + x) := by
      unfold whenV endE realV endT; rw [if_pos hae]
    have he : endE f s n d a x = realE f s n d (a + x) := by unfold endE; rw [if_pos hae]
    rw [hw, he]
    rw [addV_ok hae, hae, errV_0] at hadd
    clear hw he hae
    have HR : Hid (∀ u, Calls Try.prog 43 #[.agg #[.int .i64 f, .int .i64 s, .int .i64 n, .int .i64 d], .int .i64 (a + x)] u fun e w' => e = .returned (.tuple #[.int .i64 (realV f s n d (a + x)), errV (realE f s n d (a + x))]) ∧ Below u.heap.size u w') := fun u => real_any f s n d (a + x) u
    generalize realV f s n d (a + x) = rv at *
    generalize errV (realE f s n d (a + x)) = re at *
    generalize a + x = ax at *
    go_enter Try.func41, Try.ntmps41
    go_wp2_with fail
    obtain ⟨V, hVe⟩ : ∃ V, V = w.alloc (.cells #[.int .i64 nodes, .int .i64 faulty, .int .i64 skew, .int .i64 jitter, .int .i64 drift, .int .i64 R, .slice sa ns sc, .slice la nl lc, .int .i64 frame, .slice wa nw wc, .int .i64 f, .int .i64 s, .int .i64 n, .int .i64 d, .int .i64 node] 45) := ⟨_, rfl⟩
    rw [← hVe] at hG hV hz hadd ⊢
    clear hVe
    refine hadd.mono ?_
    rintro e w1 ⟨rfl, hb1⟩
    obtain ⟨a0, a1, a2, a3, a4, a5, a6, a7, a8, a9, a10, a11, a12, a13, a14⟩ := hG.below hb1 hz
    clear a0 a1 a2 a3 a4 a5 a6 a7 a8 a9 a14 hG hadd
    go_wp2_with fail
    refine (HR.out _).mono ?_
    rintro e w2 ⟨rfl, hb2⟩
    go_wp2
    go_ret2
    exact ⟨rfl, hV.trans ((hb1.trans (hb2.mono hb1.size)).mono hV.size)⟩
  · have he2 : addE a x = 2 := by
      unfold addE at hae ⊢
      split
      · rename_i h; rw [if_pos h] at hae; exact absurd rfl hae
      · rfl
    have he : endE f s n d a x = 2 := by unfold endE; rw [if_neg hae, he2]
    have hw : whenV f s n d a x = 0 := by unfold whenV; rw [if_neg (by rw [he]; decide)]
    rw [hw, he, errV_2]
    rw [addV_bad hae, he2, errV_2] at hadd
    clear hw he hae he2
    go_enter Try.func41, Try.ntmps41
    go_wp2_with fail
    obtain ⟨V, hVe⟩ : ∃ V, V = w.alloc (.cells #[.int .i64 nodes, .int .i64 faulty, .int .i64 skew, .int .i64 jitter, .int .i64 drift, .int .i64 R, .slice sa ns sc, .slice la nl lc, .int .i64 frame, .slice wa nw wc, .int .i64 f, .int .i64 s, .int .i64 n, .int .i64 d, .int .i64 node] 45) := ⟨_, rfl⟩
    rw [← hVe] at hG hV hz hadd ⊢
    clear hVe
    refine hadd.mono ?_
    rintro e w1 ⟨rfl, hb1⟩
    go_wp2
    go_ret2
    exact ⟨rfl, hV.trans (hb1.mono hV.size)⟩
end Go.Proofs.Ytlpojkehbhkdiaa
