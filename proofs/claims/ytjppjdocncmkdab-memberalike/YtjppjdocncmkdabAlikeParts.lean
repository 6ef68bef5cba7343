/- MemberAlike's small words: the fact 'heard' (a node that hears nothing of another one). New memory alone is made. -/
import Derived.Test.YtjppjdocncmkdabAlikeMem
import Derived.Deep.RegionHeld3
namespace Go.Proofs.Ytjppjdocncmkdab
open Go.RowKit

def hT3 : Nat → Bool := heT 0 3 false 2 0 (fun _ => true)
theorem h3_bits : bitsV hT3 3 = 3 := by decide
theorem h3_good : judgeV 3 hT3 (tb 3) 1 3 = 1 := by decide
theorem h3_bad : judgeV 3 hT3 (tb 7) 1 7 = 2 := by decide

set_option maxRecDepth 100000 in
set_option maxHeartbeats 2000000 in
theorem heard_any (w : World) : Calls Try.prog 15 #[] w fun e w' => e = .returned (.bool true) ∧ Below w.heap.size w w' := by
  have h0 := fun v => pNew_good 0 3 v (by decide) (by decide) (by decide) (by decide)
  rw [← all_bits 3] at h0
  go_enter Try.func15, Try.ntmps15
  go_wp2_with fail
  refine (h0 _).mono ?_
  rintro e w1 ⟨rfl, hp1, hb1⟩
  clear h0
  go_wp2_with fail
  refine (pHears_all hp1 2 0 (by decide) (by decide) (by decide) (by decide) (by decide)).mono ?_
  rintro e w2 ⟨rfl, hp2, ht2⟩
  have hb2 := hb1.trans (ht2.below hb1.size (Nat.le_refl _) (Nat.le_refl _))
  have hp2' : ProgNode w2 w.heap.size 0 3 (bitsV hT3 3) 1 0 false := hp2
  have hS := pSends_any hp2'
  rw [h3_bits] at hS
  clear hp1 hp2 ht2 hb1
  go_wp2_with fail
  refine hS.mono ?_
  rintro e w3 ⟨rfl, hp3, ht3⟩
  have hb3 := hb2.trans (ht3.below hb2.size (Nat.le_refl _) (Nat.le_refl _))
  have hp3' : ProgNode w3 w.heap.size 0 3 (bitsV hT3 3) 1 0 false := by rw [h3_bits]; exact hp3
  have hJ1 := pJudges_any hp3' 1 3 (by decide)
  have hJ2 := fun k => pJudges_any (hp3'.drawn k) 1 7 (by decide)
  rw [h3_good] at hJ1
  rw [h3_bad] at hJ2
  clear hp2' hS hp3 hp3' ht3 hb2
  go_wp2_with fail
  refine hJ1.mono ?_
  rintro e w4 ⟨rfl, q, rfl⟩
  go_wp2_with fail
  refine (hJ2 q).mono ?_
  rintro e w5 ⟨rfl, q2, rfl⟩
  go_wp2
  go_ret
  exact ⟨rfl, hb3.trans ((Turns.drawn (P := w.heap.size) (Q := w.heap.size) (q + q2)).below hb3.size (Nat.le_refl _) (Nat.le_refl _))⟩
end Go.Proofs.Ytjppjdocncmkdab
