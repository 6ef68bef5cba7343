/- What is wrong with the whole of a plan, and what Check says of it, in whole numbers (plain). -/
import Derived.Test.YtlpojkehbhkdiaaPlanPlain
namespace Go.Proofs.Ytlpojkehbhkdiaa

/-- What is wrong with the whole of a plan. -/
def headErr (nodes faulty skew jitter drift round frame : Int) (ns nl nw : Nat) : Int :=
  if nodes < 1 ∨ 16 < nodes ∨ faulty < 0 ∨ nodes < faulty * 3 + 1 then 1
  else if skew < 0 ∨ 137438953472 < skew ∨ jitter < 0 ∨ 137438953472 < jitter ∨ drift < 0 ∨ 137438953472 < drift then 2
  else if round < 1 ∨ 137438953472 < round ∨ frame < 1 ∨ 137438953472 < frame then 2
  else if 32 < ns ∨ 8 < nl ∨ 32 < nw then 4
  else if skew < skew / 2 + jitter * 2 + drift * 2 + 1 then 13 else 0

/-- What Check says of a plan: an error, and its place. -/
def CheckIs (nodes faulty skew jitter drift round frame : Int) (ns nl nw : Nat) (nd fr tq lf lt lb lq : Nat → Int) (hit : Nat → Bool) (pw : Int) (wp wf wt : Nat → Int) (E I : Int) : Prop :=
  (headErr nodes faulty skew jitter drift round frame ns nl nw ≠ 0 ∧ E = headErr nodes faulty skew jitter drift round frame ns nl nw ∧ I = -1) ∨
  (headErr nodes faulty skew jitter drift round frame ns nl nw = 0 ∧ ∃ e1 i1 e2 i2 e3 i3, FirstBad (slotErr nd fr tq nodes skew round) ns e1 i1 ∧ FirstBad (linkErr lf lt lb lq hit nodes pw) nl e2 i2 ∧ FirstBad (winErr wp wf wt frame) nw e3 i3 ∧ PlanRes e1 i1 e2 i2 e3 i3 E I)

theorem headErr_1 {nodes faulty skew jitter drift round frame : Int} {ns nl nw : Nat} (h : nodes < 1 ∨ 16 < nodes ∨ faulty < 0 ∨ nodes < faulty * 3 + 1) : headErr nodes faulty skew jitter drift round frame ns nl nw = 1 := by unfold headErr; rw [if_pos h]
theorem headErr_2 {nodes faulty skew jitter drift round frame : Int} {ns nl nw : Nat} (h : ¬ (nodes < 1 ∨ 16 < nodes ∨ faulty < 0 ∨ nodes < faulty * 3 + 1)) (h2 : skew < 0 ∨ 137438953472 < skew ∨ jitter < 0 ∨ 137438953472 < jitter ∨ drift < 0 ∨ 137438953472 < drift) : headErr nodes faulty skew jitter drift round frame ns nl nw = 2 := by unfold headErr; rw [if_neg h, if_pos h2]
theorem headErr_3 {nodes faulty skew jitter drift round frame : Int} {ns nl nw : Nat} (h : ¬ (nodes < 1 ∨ 16 < nodes ∨ faulty < 0 ∨ nodes < faulty * 3 + 1)) (h2 : ¬ (skew < 0 ∨ 137438953472 < skew ∨ jitter < 0 ∨ 137438953472 < jitter ∨ drift < 0 ∨ 137438953472 < drift)) (h3 : round < 1 ∨ 137438953472 < round ∨ frame < 1 ∨ 137438953472 < frame) : headErr nodes faulty skew jitter drift round frame ns nl nw = 2 := by unfold headErr; rw [if_neg h, if_neg h2, if_pos h3]
theorem headErr_4 {nodes faulty skew jitter drift round frame : Int} {ns nl nw : Nat} (h : ¬ (nodes < 1 ∨ 16 < nodes ∨ faulty < 0 ∨ nodes < faulty * 3 + 1)) (h2 : ¬ (skew < 0 ∨ 137438953472 < skew ∨ jitter < 0 ∨ 137438953472 < jitter ∨ drift < 0 ∨ 137438953472 < drift)) (h3 : ¬ (round < 1 ∨ 137438953472 < round ∨ frame < 1 ∨ 137438953472 < frame)) (h4 : 32 < ns ∨ 8 < nl ∨ 32 < nw) : headErr nodes faulty skew jitter drift round frame ns nl nw = 4 := by unfold headErr; rw [if_neg h, if_neg h2, if_neg h3, if_pos h4]
theorem headErr_13 {nodes faulty skew jitter drift round frame : Int} {ns nl nw : Nat} (h : ¬ (nodes < 1 ∨ 16 < nodes ∨ faulty < 0 ∨ nodes < faulty * 3 + 1)) (h2 : ¬ (skew < 0 ∨ 137438953472 < skew ∨ jitter < 0 ∨ 137438953472 < jitter ∨ drift < 0 ∨ 137438953472 < drift)) (h3 : ¬ (round < 1 ∨ 137438953472 < round ∨ frame < 1 ∨ 137438953472 < frame)) (h4 : ¬ (32 < ns ∨ 8 < nl ∨ 32 < nw)) (h5 : skew < skew / 2 + jitter * 2 + drift * 2 + 1) : headErr nodes faulty skew jitter drift round frame ns nl nw = 13 := by unfold headErr; rw [if_neg h, if_neg h2, if_neg h3, if_neg h4, if_pos h5]
theorem headErr_0 {nodes faulty skew jitter drift round frame : Int} {ns nl nw : Nat} (h : ¬ (nodes < 1 ∨ 16 < nodes ∨ faulty < 0 ∨ nodes < faulty * 3 + 1)) (h2 : ¬ (skew < 0 ∨ 137438953472 < skew ∨ jitter < 0 ∨ 137438953472 < jitter ∨ drift < 0 ∨ 137438953472 < drift)) (h3 : ¬ (round < 1 ∨ 137438953472 < round ∨ frame < 1 ∨ 137438953472 < frame)) (h4 : ¬ (32 < ns ∨ 8 < nl ∨ 32 < nw)) (h5 : ¬ skew < skew / 2 + jitter * 2 + drift * 2 + 1) : headErr nodes faulty skew jitter drift round frame ns nl nw = 0 := by unfold headErr; rw [if_neg h, if_neg h2, if_neg h3, if_neg h4, if_neg h5]

theorem CheckIs.head {nodes faulty skew jitter drift round frame : Int} {ns nl nw : Nat} {nd fr tq lf lt lb lq : Nat → Int} {hit : Nat → Bool} {pw : Int} {wp wf wt : Nat → Int} {E I c : Int} (h : CheckIs nodes faulty skew jitter drift round frame ns nl nw nd fr tq lf lt lb lq hit pw wp wf wt E I) (g : headErr nodes faulty skew jitter drift round frame ns nl nw = c) (hc : c ≠ 0) : E = c ∧ I = -1 := by
  rcases h with ⟨_, h1, h2⟩ | ⟨h0, _⟩
  · exact ⟨h1.trans g, h2⟩
  · exact absurd (g.symm.trans h0) hc

end Go.Proofs.Ytlpojkehbhkdiaa
