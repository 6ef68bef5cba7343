/- FrameBack, walked: of every frame it answers true. -/
import Derived.Test.YtdboppcnnjacmaaFrameBackWords
namespace Go.Proofs.Ytdboppcnnjacmaa
open Go.RowKit Go.Lib

set_option maxRecDepth 100000 in
set_option maxHeartbeats 4000000 in
theorem fback_any (node slot members link seq : Int) (S : ByteArray) (w : World) (hS : S.size ≤ maxLen) :
    Calls Try.prog 5 #[.agg #[.int .i64 node, .int .i64 slot, .int .i64 members, .int .i64 link, .int .i64 seq, .string S]] w fun e w' => e = .returned (.bool true) ∧ Below w.heap.size w w' := by
  have hV : Below w.heap.size w (w.alloc (.cells #[.int .i64 node, .int .i64 slot, .int .i64 members, .int .i64 link, .int .i64 seq, .string S] 44)) := (Below.refl _ _).alloc (Nat.le_refl _) _
  have hC := box6 node slot members link seq S w 44
  have HM : Hid (S.size ≤ maxLen) := hS
  unfold maxLen at hS
  by_cases h1 : 100 < S.size
  · have h2 : (100 : Int) < (S.size : Int) := by omega
    clear hC
    go_enter Try.func5, Try.ntmps5
    go_wp2_with fail
    go_ret
    exact ⟨rfl, hV⟩
  · have h2 : decide ((100 : Int) < (S.size : Int)) = false := decide_eq_false (by omega)
    by_cases hm : mayB node slot members link seq S.size = true
    · have HEN : Hid (Enc (encB node slot members link seq S) node slot members link seq S) := ⟨hm, rfl⟩
      have hL := encB_len hm
      have HE : Hid (∀ u, Calls Try.prog 15 #[.agg #[.int .i64 node, .int .i64 slot, .int .i64 members, .int .i64 link, .int .i64 seq, .string S]] u fun e w' => ∃ v, e = .returned (.tuple #[v, .nilIface]) ∧ OwnB w' u.heap.size v (encB node slot members link seq S) ∧ Below u.heap.size u w') := fun u => encode_yes node slot members link seq S u hm
      clear hm
      generalize encB node slot members link seq S = L at HE HEN hL
      go_enter Try.func5, Try.ntmps5
      go_wp2_with fail
      generalize w.alloc (.cells #[.int .i64 node, .int .i64 slot, .int .i64 members, .int .i64 link, .int .i64 seq, .string S] 44) = V at hV hC ⊢
      refine (HE.out _).mono ?_
      clear HE
      rintro e w1 ⟨v, rfl, ho, hb1⟩
      replace hV := below_on hV hb1
      replace hC := hC.below hb1
      clear hb1
      obtain ⟨g, c2, rfl, hg, hrow⟩ := ho.row (by omega)
      have hcap : L.length ≤ c2 := ho.cap_le
      have HD : Hid (∀ u, Below w1.heap.size w1 u → Calls Try.prog 17 #[.slice (some ⟨g, 0, none⟩) L.length c2] u fun e w' => e = .returned (.tuple #[.agg #[.int .i64 node, .int .i64 slot, .int .i64 members, .int .i64 link, .int .i64 seq, .string S], .nilIface]) ∧ Below u.heap.size u w') := fun u hu => decode_yes _ c2 L u (hrow.below hu) hcap _ _ _ _ _ _ HEN.out
      clear hrow ho HEN hg
      generalize L.length = n at HD hL hcap ⊢
      go_wp2_with fail
      refine (sent_any _).mono ?_
      rintro e w2 ⟨rfl, hb2⟩
      have HD2 := HD.out w2 hb2
      have HD3 : Hid (Calls Try.prog 17 _ w2 _) := HD2
      replace hV := below_on hV hb2
      replace hC := hC.below hb2
      clear hb2 HD HD2
      go_wp2_with fail
      refine HD3.out.mono ?_
      clear HD3
      rintro e w3 ⟨rfl, hb3⟩
      replace hV := below_on hV hb3
      replace hC := hC.below hb3
      clear hb3
      have hW : Below w3.heap.size w3 (w3.alloc (.cells #[.int .i64 node, .int .i64 slot, .int .i64 members, .int .i64 link, .int .i64 seq, .string S] 44)) := (Below.refl _ _).alloc (Nat.le_refl _) _
      have hwz : w.heap.size < w3.heap.size := cell_lt hC.1
      obtain ⟨x0, x1, x2, x3, x4, x5⟩ := hC.below hW
      clear hC
      go_wp2_with fail
      go_ret
      exact ⟨rfl, below_on hV hW⟩
    · have HE : Hid (∀ u, Calls Try.prog 15 #[.agg #[.int .i64 node, .int .i64 slot, .int .i64 members, .int .i64 link, .int .i64 seq, .string S]] u fun e w' => e = .returned (.tuple #[.slice none 0 0, .iface 50 (.int .i64 1)]) ∧ Below u.heap.size u w') := fun u => encode_no node slot members link seq S u HM.out (by simpa using hm)
      clear hm
      go_enter Try.func5, Try.ntmps5
      go_wp2_with fail
      generalize w.alloc (.cells #[.int .i64 node, .int .i64 slot, .int .i64 members, .int .i64 link, .int .i64 seq, .string S] 44) = V at hV hC ⊢
      refine (HE.out _).mono ?_
      rintro e w1 ⟨rfl, hb1⟩
      replace hV := below_on hV hb1
      clear hb1 HE hC
      go_wp2_with fail
      refine (sent_any _).mono ?_
      rintro e w2 ⟨rfl, hb2⟩
      replace hV := below_on hV hb2
      clear hb2
      go_wp2_with fail
      refine (sent_any _).mono ?_
      rintro e w3 ⟨rfl, hb3⟩
      go_wp2_with fail
      go_ret
      exact ⟨rfl, below_on hV hb3⟩
end Go.Proofs.Ytdboppcnnjacmaa
