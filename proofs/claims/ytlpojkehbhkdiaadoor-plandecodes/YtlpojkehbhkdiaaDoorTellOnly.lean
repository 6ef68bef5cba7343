/- What an error tells (package api's Tell): none, an Errno, an At around one. -/
import Derived.Test.YtlpojkehbhkdiaaDoorAs
import Derived.WalkSpells
import Derived.WalkLawsBesides
import Derived.Deep.QuietTactic
import Derived.BigQuiet
namespace Go.Proofs.YtlpojkehbhkdiaaDoor
open Go.RowKit Go.Extern.Stop Go.Stop Go.Extern

/-- Package errors' own variable holds the type error's handle. -/
def Told (w : World) : Prop := w.cell? ⟨1, 0, none⟩ = some (.iface 107 (.agg #[.pointer (some ⟨2, 30, none⟩)]))
theorem Told.lt {w : World} (h : Told w) : 1 < w.heap.size := by
  rcases Nat.lt_or_ge 1 w.heap.size with k | k
  · exact k
  · simp [Told, World.cell?, Array.getElem?_eq_none k] at h
theorem Told.below {w w' : World} (h : Told w) (hb : Below w.heap.size w w') : Told w' := by
  have := hb.cell (p := ⟨1, 0, none⟩) h.lt
  unfold Told at *
  rw [this]; exact h
theorem Told.alloc {w : World} (h : Told w) (o : Obj) : Told (w.alloc o) := h.below ((Below.refl _ _).alloc (Nat.le_refl _) _)

set_option maxHeartbeats 1000000 in
theorem tell_nil (w : World) : Calls Tryd.prog 29 #[.nilIface] w fun e w' => e = .returned (.int .i64 0) ∧ Below w.heap.size w w' := by
  go_enter Tryd.func29, Tryd.ntmps29
  go_wp2
  go_ret
  exact ⟨rfl, Below.refl _ _⟩

set_option maxHeartbeats 1000000 in
theorem tell_e (k : Int) (w : World) (hg : Told w) : Calls Tryd.prog 29 #[.iface 32 (.int .i64 k)] w fun e w' => e = .returned (.int .i64 k) ∧ Below w.heap.size w w' := by
  have hh := as_hit k ⟨w.heap.size, 0, none⟩ (.int .i64 0) (w.alloc (.cells #[.int .i64 0] 32)) (hg.alloc _) (by simp) (by simp)
  go_enter Tryd.func29, Tryd.ntmps29
  go_wp2_with fail
  refine hh.mono ?_
  rintro e w' ⟨rfl, rfl⟩
  clear hh
  go_wp2
  go_ret
  refine ⟨rfl, ?_⟩
  repeat (refine Below.alloc ?_ (by simp; try omega) _)
  exact Below.refl _ _

set_option maxHeartbeats 1000000 in
theorem tell_at (k : Int) (a : Addr) (w : World) (hg : Told w) (hk : w.cell? a = some (.int .i64 k)) : Calls Tryd.prog 29 #[.iface 73 (.pointer (some a))] w fun e w' => e = .returned (.int .i64 k) ∧ Below w.heap.size w w' := by
  have hal : a.block < w.heap.size := by
    rcases Nat.lt_or_ge a.block w.heap.size with h | h
    · exact h
    · simp [World.cell?, Array.getElem?_eq_none h] at hk
  have hh := as_at k a ⟨w.heap.size, 0, none⟩ (.int .i64 0) (w.alloc (.cells #[.int .i64 0] 32)) (by rw [World.cell?_alloc_lt _ _ a hal]; exact hk) (hg.alloc _) (by simp) (by simp)
  clear hk
  go_enter Tryd.func29, Tryd.ntmps29
  go_wp2_with fail
  refine hh.mono ?_
  rintro e w' ⟨rfl, rfl⟩
  clear hh
  go_wp2
  go_ret
  refine ⟨rfl, ?_⟩
  repeat (refine Below.alloc ?_ (by simp; try omega) _)
  exact Below.refl _ _

end Go.Proofs.YtlpojkehbhkdiaaDoor
