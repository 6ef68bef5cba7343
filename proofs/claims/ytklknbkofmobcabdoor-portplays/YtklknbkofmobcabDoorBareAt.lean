/- The statements' word 'bare' over TellAt: where error and number are one, it answers true; new memory alone is made. Conditions: package errors' own variable holds the type error's handle. -/
import Derived.Test.YtklknbkofmobcabDoorTell
namespace Go.Proofs.YtklknbkofmobcabDoor
open Go.RowKit Go.Extern.Stop Go.Stop Go.Extern

set_option maxHeartbeats 1000000 in
theorem bareF_any (k : Int) (w : World) : Calls Tryd.prog 59 #[.int .i64 k] w fun e w' => e = .returned (.agg #[.int .i64 k, .int .i64 (-1)]) ∧ Below w.heap.size w w' := by
  go_enter Tryd.func59, Tryd.ntmps59
  go_wp2
  refine bodyPost_ret (v := .agg #[.int .i64 k, .int .i64 (-1)]) (by simp [results, Tryd.results59, go_sem]) rfl ⟨rfl, ?_⟩
  repeat (refine Below.alloc ?_ (by simp; try omega) _)
  exact Below.refl _ _

/-- 'bare' answers true of this error and this number. -/
def BareSays (E : Value) (k : Int) : Prop := ∀ w : World, Told w → Calls Tryd.prog 12 #[E, .int .i64 k] w fun e w' => e = .returned (.bool true) ∧ Below w.heap.size w w'

set_option maxHeartbeats 1000000 in
theorem bare_any (E : Value) (k : Int) (hP : ∀ v : World, Told v → Calls Tryd.prog 62 #[E] v fun e w' => e = .returned (.tuple #[.int .i64 k, .int .i64 (-1)]) ∧ Below v.heap.size v w') : BareSays E k := by
  intro w hg
  have hi := fun v hv => is_any E k (-1) v (fun u hu _ => hP u hu) hv
  clear hP
  go_enter Tryd.func12, Tryd.ntmps12
  go_wp2_with fail
  refine (bareF_any _ _).mono ?_
  rintro e w1 ⟨rfl, hb⟩
  go_wp2_with fail
  refine (hi _ (hg.below hb)).mono ?_
  rintro e w2 ⟨rfl, hb2⟩
  go_wp2
  go_ret
  exact ⟨rfl, hb.trans (hb2.mono hb.size)⟩

theorem bare_nil : BareSays .nilIface 0 := bare_any _ _ fun v _ => place_nil v
theorem bare_e (k : Int) : BareSays (.iface 23 (.int .i64 k)) k := bare_any _ _ fun v hv => place_e k v hv
end Go.Proofs.YtklknbkofmobcabDoor
