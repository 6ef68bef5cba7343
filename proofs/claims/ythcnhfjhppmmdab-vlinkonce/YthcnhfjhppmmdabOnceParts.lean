/- VlinkOnce's small words: the fact 'linked' (a message that goes, and comes once). New memory alone is made. -/
import Derived.Test.YthcnhfjhppmmdabPSend2
import Derived.Test.YthcnhfjhppmmdabPRcv
namespace Go.Proofs.Ythcnhfjhppmmdab
open Go.RowKit

def xText : ByteArray := ⟨#[120]⟩
set_option maxRecDepth 100000 in
set_option maxHeartbeats 2000000 in
theorem linked_any (w : World) : Calls Try.prog 29 #[] w fun e w' => e = .returned (.bool true) ∧ Below w.heap.size w w' := by
  have h0 := fun v => sdrNew_good 5 2 v (by decide)
  go_enter Try.func29, Try.ntmps29
  go_wp2_with fail
  refine (h0 _).mono ?_
  rintro e w1 ⟨O, P, rfl, hs1, hb1, hlo⟩
  clear h0
  go_wp2_with fail
  refine (rcvNew _).mono ?_
  rintro e w2 ⟨OR, PR, rfl, hr2, hb2, hlr⟩
  have hs2 := hs1.keep (Same.of_below hb2 hs1.lt)
  have hP := sdrPut hs2 xText (by decide)
  rw [show putK (([] : List ByteArray).length - 0) 2 xText = 0 by decide] at hP
  have hlo2 : ∀ c, c ∈ O → w.heap.size ≤ c := hlo
  have hlr2 : ∀ c, c ∈ OR → w.heap.size ≤ c := fun c hc => Nat.le_trans hb1.size (hlr c hc)
  have hap : Apart O OR := fun c hc hn => by have := hs1.lt c hc; have := hlr c hn; omega
  have hb02 : Below w.heap.size w w2 := hb1.trans (hb2.mono hb1.size)
  clear hs1 hb1 hb2 hlo hlr
  go_wp2_with fail
  refine hP.mono ?_
  rintro e w3 ⟨rfl, O3, hs3, hf3⟩
  rw [show putAll 0 ([] : List ByteArray) xText = [xText] from rfl] at hs3
  have hr3 := hr2.keep (hf3.same hap hr2.lt)
  have hap3 := hf3.apart hap hr2.lt
  have hlo3 := hf3.above hlo2 hb02.size
  have hb03 : Below w.heap.size w w3 := hb02.trans (hf3.below hlo2 hb02.size)
  have hS := sdrSend hs3 9 (by decide) (by decide) (by decide) (by decide) (by decide)
  rw [show sendK [xText].length 0 9 0 0 5 = 0 by decide] at hS
  clear hs2 hP hs3 hf3 hap hb02 hlo2 hr2
  rw [show errV 0 = .nilIface from rfl]
  go_wp2_with fail
  refine hS.mono ?_
  rintro e w4 ⟨rfl, O4, hs4, hf4⟩
  have hr4 := hr3.keep (hf4.same hap3 hr3.lt)
  have hb04 : Below w.heap.size w w4 := hb03.trans (hf4.below hlo3 hb03.size)
  clear hS hs4 hf4 hap3 hb03 hlo3 hr3
  rw [show errV 0 = .nilIface from rfl, show sendSeq 0 0 = 0 from rfl, show sendDat 0 [xText] 0 = xText from rfl]
  obtain ⟨w5, hw5⟩ : ∃ v, w4.alloc (.cells #[.int .i64 0, .string xText] 67) = v := ⟨_, rfl⟩
  obtain ⟨Y, hYe⟩ : ∃ Y, w4.heap.size = Y := ⟨_, rfl⟩
  have hA5 : Below w4.heap.size w4 w5 := by rw [← hw5]; exact (Below.refl _ _).alloc (Nat.le_refl _) _
  have i0 : w5.cell? ⟨Y, 0, none⟩ = some (.int .i64 0) := by rw [← hw5, ← hYe]; simp
  have i1 : w5.cell? ⟨Y, 1, none⟩ = some (.string xText) := by rw [← hw5, ← hYe]; simp
  have hYl : Y < w5.heap.size := by rw [← hw5, ← hYe]; simp
  have hYn : Y ∉ OR := fun y => by have := hr4.lt Y y; omega
  have hr5 := hr4.keep (Same.of_below hA5 hr4.lt)
  have hb05 : Below w.heap.size w w5 := hb04.trans (hA5.mono hb04.size)
  have t1 := rcvTake hr5 0 xText (by decide) (by decide) (by decide) (by decide) (by decide)
  rw [show takeB (-1) 0 = true by decide] at t1
  clear hr4 hA5 hb04
  unfold xText at *
  go_wp2_with fail
  refine t1.mono ?_
  rintro e w6 ⟨rfl, OR6, hr6, hf6⟩
  rw [show tkNew true 0 (-1) = 0 from rfl, show tkTold true 0 = 1 from rfl, show tkNot true 0 = 0 from rfl] at hr6
  replace i0 := (hf6.cell (p := ⟨Y, 0, none⟩) hYl hYn).trans i0
  replace i1 := (hf6.cell (p := ⟨Y, 1, none⟩) hYl hYn).trans i1
  have hb06 : Below w.heap.size w w6 := hb05.trans (hf6.below hlr2 hb05.size)
  have hlr6 := hf6.above hlr2 hb05.size
  replace hYl := Nat.lt_of_lt_of_le hYl hf6.size
  have t2 := rcvTake hr6 0 ⟨#[120]⟩ (by decide) (by decide) (by decide) (by decide) (by decide)
  rw [show takeB 0 0 = false by decide] at t2
  clear t1 hr5 hf6 hr6 hb05 hw5 hYe
  go_wp2_with fail
  refine t2.mono ?_
  rintro e w7 ⟨rfl, OR7, hr7, hf7⟩
  have hb07 : Below w.heap.size w w7 := hb06.trans (hf7.below hlr6 hb06.size)
  clear t2 hr7 hf7
  go_wp2
  go_ret
  exact ⟨rfl, hb07⟩
end Go.Proofs.Ythcnhfjhppmmdab
