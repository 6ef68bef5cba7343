/- The document's answer's windows, of any row. -/
import Derived.Test.YtlpojkehbhkdiaaDoorRefWindows
import Derived.Test.YtlpojkehbhkdiaaDoorOpenRows
namespace Go.Proofs.YtlpojkehbhkdiaaDoor
open Go.RowKit

theorem windows_any (pt fr tq : Nat → Int) (frame e i : Int) (a : Option Addr) (n cap : Nat) (w : World) (hn : n ≤ 1000) (hr : Rows3 w a n pt fr tq) (hF : FirstBad (winErr pt fr tq frame) n e i) :
    Calls Tryd.prog 22 #[.slice a n cap, .int .i64 frame] w fun ev w' => ev = .returned (.tuple #[.int .i64 e, .int .i64 i]) ∧ Below w.heap.size w w' := by
  rcases Nat.eq_zero_or_pos n with h0 | h0
  · subst h0
    have g := hF.at_end (fun j hj => absurd hj (Nat.not_lt_zero _))
    have G : Hid (e = 0 ∧ i = 0) := g
    clear hF g hr
    go_enter Tryd.func22, Tryd.ntmps22
    go_wp2
    refine wp_loop_rounds 1 ?_
    rw [rounds_succ]
    go_wp2
    go_ret2
    exact ⟨ret_pair G.out, Below.refl _ _⟩
  · obtain ⟨b, off, rfl, hb, hc⟩ := hr h0
    exact windows_some pt fr tq frame e i b off n cap w hn hc hb hF
end Go.Proofs.YtlpojkehbhkdiaaDoor
