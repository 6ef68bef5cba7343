/- PartOne's small words: the fact 'parted' (9.1's example). New memory alone is made. -/
import Derived.Test.YtklknbkofmobcacPTab2
import Derived.Test.YtklknbkofmobcacPartMath
import Derived.Test.YtklknbkofmobcacPick
import Derived.BigQuiet
namespace Go.Proofs.Ytklknbkofmobcac
open Go.RowKit

theorem parted_ok : WinsOk (fun _ => 2) (fun _ => 3) (fun _ => 7) 10 1 := by
  intro j hj
  obtain rfl : j = 0 := by omega
  decide
theorem parted_at : RunsAt (fun _ => 2) (fun _ => 3) (fun _ => 7) 10 1 (25 % 10) 2 2 := .inl ⟨0, by decide, by decide, by decide, rfl, by decide⟩
theorem parted_not : RunsAt (fun _ => 2) (fun _ => 3) (fun _ => 7) 10 1 (18 % 10) (-1) 5 := by
  refine .inr ⟨fun j _ => show ¬ ((3 : Int) ≤ 18 % 10 ∧ (18 : Int) % 10 < 7) by decide, rfl, .inr ⟨⟨0, by decide, by decide⟩, fun j _ => ?_⟩⟩
  show (5 : Int) ≤ (if (3 : Int) - 18 % 10 < 0 then (3 : Int) - 18 % 10 + 10 else (3 : Int) - 18 % 10)
  decide

set_option maxRecDepth 100000 in
set_option maxHeartbeats 2000000 in
theorem parted_any (w : World) (hok : NewOk w) : Calls Try.prog 5 #[] w fun e w' => e = .returned (.bool true) ∧ Below w.heap.size w w' := by
  obtain ⟨V, hV⟩ : ∃ V, w.alloc (.cells #[.int .i64 2, .int .i64 3, .int .i64 7] 39) = V := ⟨_, rfl⟩
  have hB : Below w.heap.size w V := by rw [← hV]; exact (Below.refl _ _).alloc (Nat.le_refl _) _
  have hr : Rows3 V (some ⟨w.heap.size, 0, none⟩) 1 (fun _ => 2) (fun _ => 3) (fun _ => 7) := fun _ => ⟨w.heap.size, 0, rfl, by rw [← hV]; simp, fun j hj => by
    obtain rfl : j = 0 := by omega
    rw [← hV]
    refine ⟨?_, ?_, ?_⟩ <;> simp⟩
  have hN := tabNew_good (fun _ => 2) (fun _ => 3) (fun _ => 7) 10 (some ⟨w.heap.size, 0, none⟩) 1 1 V (by decide) hr (hok.below hB) (by decide) parted_ok
  have HB : Hid (Below w.heap.size w V) := hB
  clear hr hB hok
  go_enter Try.func5, Try.ntmps5
  go_wp2_with fail
  refine hN.mono ?_
  rintro ev w1 ⟨O, P, rfl, hTab, hb1⟩
  have HB1 : Hid (Below w.heap.size w w1) := HB.out.trans (hb1.mono HB.out.size)
  have HT1 : Hid (Tab w1 O P 10 1 (fun _ => 2) (fun _ => 3) (fun _ => 7)) := hTab
  clear hN hTab hb1 HB hV
  go_wp2_with fail
  refine (tabAt_good HT1.out 25 (by decide) (by decide) parted_ok (by decide)).mono ?_
  rintro ev w2 ⟨p, l, rfl, hR, hb2⟩
  obtain ⟨rfl, rfl⟩ := RunsAt.one parted_ok hR parted_at
  have HB2 : Hid (Below w.heap.size w w2) := HB1.out.trans (hb2.mono HB1.out.size)
  have HT2 : Hid (Tab w2 O P 10 1 (fun _ => 2) (fun _ => 3) (fun _ => 7)) := HT1.out.keep (Same.of_below hb2 HT1.out.lt)
  clear hR hb2 HB1 HT1
  go_wp2_with fail
  refine (tabAt_good HT2.out 18 (by decide) (by decide) parted_ok (by decide)).mono ?_
  rintro ev w3 ⟨p, l, rfl, hR, hb3⟩
  obtain ⟨rfl, rfl⟩ := RunsAt.one parted_ok hR parted_not
  have HB3 : Hid (Below w.heap.size w w3) := HB2.out.trans (hb3.mono HB2.out.size)
  clear hR hb3 HB2 HT2
  go_wp2
  go_ret
  exact ⟨rfl, HB3.out⟩
end Go.Proofs.Ytklknbkofmobcac
