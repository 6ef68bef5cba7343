/- PlanEncodes, walked: of every plan it answers true. Conditions: package errors' own variable and the document's answer's variable Fine hold what their texts say. -/
import Derived.Test.YtlpojkehbhkdiaaDoorPlanEncode
import Derived.Test.YtlpojkehbhkdiaaDoorRefEncode
import Derived.Test.YtlpojkehbhkdiaaDoorPlanChecksAll
import Derived.Test.YtlpojkehbhkdiaaDoorPlanNumsOk
import Derived.Laws.BytesArg
namespace Go.Proofs.YtlpojkehbhkdiaaDoor
open Go.RowKit

/-- A row's bytes as a text, whatever new memory is made. -/
def StrIs (w : World) (v : Value) (S : ByteArray) : Prop := ∀ u : World, Below w.heap.size w u → (convert 36 9 v).run Tryd.prog u = .ok (.string S) u
theorem StrIs.below {w w' : World} {v : Value} {S : ByteArray} (h : StrIs w v S) (hb : Below w.heap.size w w') : StrIs w' v S := fun u hu => h u (stepB hb hu)
theorem str_nil (w : World) : StrIs w (.slice none 0 0) ByteArray.empty := fun u _ => run_convert_bytes_nil u 36 5 Tryd.underlying36 Tryd.underlying5 0 0 9 Tryd.underlying9
theorem str_owns {w : World} {base : Nat} {v : Value} {xs : List Int} (h : w.ownsRow base 5 1 v xs.length (xs.map (Value.int .u8))) (hn : 1 ≤ xs.length) : StrIs w v (strOfNums xs) := by
  intro u hu
  obtain ⟨g, cap, rfl, _, hc⟩ := owns_some h hn
  refine run_convert_bytes_arg u 36 5 Tryd.underlying36 Tryd.underlying5 g 0 xs.length cap xs rfl (fun i hi => ?_) 9 Tryd.underlying9
  have c := hc i (.int .u8 (xs.getD i 0)) (by simp [hi])
  rw [add_plain] at c
  exact keep_cell c hu

set_option maxRecDepth 100000 in
set_option maxHeartbeats 4000000 in
theorem encodes_walk (nodes faulty skew jitter drift round frame : Int) (sa la wa : Option Addr) (ns sc nl lc nw wc : Nat) (E I : Int) (S : ByteArray) (w : World) (hT : Told w) (hsm : smallB ns nl nw = true)
    (h2 : ∀ u : World, Below w.heap.size w u → Calls Tryd.prog 10 #[.agg #[.int .i64 nodes, .int .i64 faulty, .int .i64 skew, .int .i64 jitter, .int .i64 drift, .int .i64 round, .slice sa ns sc, .slice la nl lc, .int .i64 frame, .slice wa nw wc]] u fun ev w' => ∃ v, ev = .returned (.tuple #[v, .agg #[.int .i64 E, .int .i64 I]]) ∧ StrIs w' v S ∧ Below u.heap.size u w')
    (h3 : ∀ u : World, Below w.heap.size w u → Calls Tryd.prog 11 #[.agg #[.int .i64 nodes, .int .i64 faulty, .int .i64 skew, .int .i64 jitter, .int .i64 drift, .int .i64 round, .slice sa ns sc, .slice la nl lc, .int .i64 frame, .slice wa nw wc]] u fun ev w' => ∃ v X, ev = .returned (.tuple #[v, X]) ∧ StrIs w' v S ∧ ErrIs w' X E I ∧ Below u.heap.size u w') :
    Calls Tryd.prog 4 #[.agg #[.int .i64 nodes, .int .i64 faulty, .int .i64 skew, .int .i64 jitter, .int .i64 drift, .int .i64 round, .slice sa ns sc, .slice la nl lc, .int .i64 frame, .slice wa nw wc]] w fun ev w' => ev = .returned (.bool true) ∧ Below w.heap.size w w' := by
  obtain ⟨hc, hV⟩ := box10 nodes faulty skew jitter drift round frame sa la wa ns sc nl lc nw wc w 26
  have H1 : Hid (∀ u : World, Calls Tryd.prog 6 #[.agg #[.int .i64 nodes, .int .i64 faulty, .int .i64 skew, .int .i64 jitter, .int .i64 drift, .int .i64 round, .slice sa ns sc, .slice la nl lc, .int .i64 frame, .slice wa nw wc]] u fun ev w' => ev = .returned (.bool true) ∧ Below u.heap.size u w') := fun u => hsm ▸ small_any nodes faulty skew jitter drift round frame sa la wa ns sc nl lc nw wc u
  clear hsm
  go_enter Tryd.func4, Tryd.ntmps4
  go_wp2_with fail
  generalize w.alloc (.cells #[.int .i64 nodes, .int .i64 faulty, .int .i64 skew, .int .i64 jitter, .int .i64 drift, .int .i64 round, .slice sa ns sc, .slice la nl lc, .int .i64 frame, .slice wa nw wc] 26) = V at hc hV ⊢
  refine (H1.out _).mono ?_
  rintro ev w1 ⟨rfl, hb1⟩
  replace hc := hc.below hb1
  replace hV := hV.trans (hb1.mono hV.size)
  clear hb1
  obtain ⟨x0, x1, x2, x3, x4, x5, x6, x7, x8, x9⟩ := hc.below (Below.refl _ _)
  go_wp2_with fail
  refine (h2 _ hV).mono ?_
  rintro ev w2 ⟨v2, rfl, hs2, hb2⟩
  have HS2 : Hid (StrIs w2 v2 S) := hs2
  replace hc := hc.below hb2
  replace hV := hV.trans (hb2.mono hV.size)
  clear hs2 hb2 x0 x1 x2 x3 x4 x5 x6 x7 x8 x9
  obtain ⟨x0, x1, x2, x3, x4, x5, x6, x7, x8, x9⟩ := hc.below (Below.refl _ _)
  have hwz : w.heap.size < w2.heap.size := lt_of_cell x0
  go_wp2_with fail
  have f0 : (w2.alloc (.cells #[.int .i64 E, .int .i64 I] 34)).cell? ⟨w2.heap.size, 0, none⟩ = some (.int .i64 E) := by simp
  have f1 : (w2.alloc (.cells #[.int .i64 E, .int .i64 I] 34)).cell? ⟨w2.heap.size, 1, none⟩ = some (.int .i64 I) := by simp
  refine (h3 _ (hV.alloc hV.size _)).mono ?_
  rintro ev w3 ⟨v3, X, rfl, hs3, hX, hb3⟩
  replace f0 := keep_cell f0 hb3
  replace f1 := keep_cell f1 hb3
  have h23 : Below w2.heap.size w2 w3 := stepA (Below.refl _ _) hb3
  have HS2' : Hid (StrIs w3 v2 S) := HS2.out.below h23
  have HS3 : Hid (StrIs w3 v3 S) := hs3
  have HX : Hid (ErrIs w3 X E I) := hX
  replace hV := hV.trans (h23.mono hV.size)
  clear x0 x1 x2 x3 x4 x5 x6 x7 x8 x9 HS2 hs3 hX hb3 h23 h2 h3 hc
  go_wp2_with fail
  refine (is_any X E I _ (place_err HX.out) (hT.below hV)).mono ?_
  rintro ev w4 ⟨rfl, hb4⟩
  have k2 := HS2'.out w4 hb4
  have k3 := HS3.out w4 hb4
  clear f0 f1
  go_wp2
  go_ret
  exact ⟨rfl, hV.trans (hb4.mono hV.size)⟩

set_option maxRecDepth 100000 in
set_option maxHeartbeats 1000000 in
theorem encodes_great (nodes faulty skew jitter drift round frame : Int) (sa la wa : Option Addr) (ns sc nl lc nw wc : Nat) (w : World) (hsm : smallB ns nl nw = false) :
    Calls Tryd.prog 4 #[.agg #[.int .i64 nodes, .int .i64 faulty, .int .i64 skew, .int .i64 jitter, .int .i64 drift, .int .i64 round, .slice sa ns sc, .slice la nl lc, .int .i64 frame, .slice wa nw wc]] w fun ev w' => ev = .returned (.bool true) ∧ Below w.heap.size w w' := by
  obtain ⟨hc, hV⟩ := box10 nodes faulty skew jitter drift round frame sa la wa ns sc nl lc nw wc w 26
  have H1 : Hid (∀ u : World, Calls Tryd.prog 6 #[.agg #[.int .i64 nodes, .int .i64 faulty, .int .i64 skew, .int .i64 jitter, .int .i64 drift, .int .i64 round, .slice sa ns sc, .slice la nl lc, .int .i64 frame, .slice wa nw wc]] u fun ev w' => ev = .returned (.bool false) ∧ Below u.heap.size u w') := fun u => hsm ▸ small_any nodes faulty skew jitter drift round frame sa la wa ns sc nl lc nw wc u
  clear hsm
  go_enter Tryd.func4, Tryd.ntmps4
  go_wp2_with fail
  generalize w.alloc (.cells #[.int .i64 nodes, .int .i64 faulty, .int .i64 skew, .int .i64 jitter, .int .i64 drift, .int .i64 round, .slice sa ns sc, .slice la nl lc, .int .i64 frame, .slice wa nw wc] 26) = V at hc hV ⊢
  refine (H1.out _).mono ?_
  rintro ev w1 ⟨rfl, hb1⟩
  go_wp2
  go_ret
  exact ⟨rfl, hV.trans (hb1.mono hV.size)⟩

theorem planEncodes_any (nodes faulty skew jitter drift round frame : Int) (sa la wa : Option Addr) (ns sc nl lc nw wc : Nat) (nd fr to lf lt lb lq wp wf wt : Nat → Int) (w : World)
    (hs : Rows3 w sa ns nd fr to) (hl : Rows4 w la nl lf lt lb lq) (hw : Rows3 w wa nw wp wf wt) (hT : Told w) (hfine : Fine0 w) :
    Calls Tryd.prog 4 #[.agg #[.int .i64 nodes, .int .i64 faulty, .int .i64 skew, .int .i64 jitter, .int .i64 drift, .int .i64 round, .slice sa ns sc, .slice la nl lc, .int .i64 frame, .slice wa nw wc]] w fun ev w' => ev = .returned (.bool true) ∧ Below w.heap.size w w' := by
  cases h : smallB ns nl nw
  · exact encodes_great nodes faulty skew jitter drift round frame sa la wa ns sc nl lc nw wc w h
  · obtain ⟨E, I, hC⟩ := CheckIs.any nodes faulty skew jitter drift round frame ns nl nw nd fr to lf lt lb lq (fun j => bits BinOp.and .i64 (lt j) (2 ^ (lf j).toNat) != 0) ((2 : Int) ^ nodes.toNat) wp wf wt
    have hck : ∀ u : World, Below w.heap.size w u → Calls Tryd.prog 8 #[.agg #[.int .i64 nodes, .int .i64 faulty, .int .i64 skew, .int .i64 jitter, .int .i64 drift, .int .i64 round, .slice sa ns sc, .slice la nl lc, .int .i64 frame, .slice wa nw wc]] u fun ev w' => ∃ X, ev = .returned X ∧ ErrIs w' X E I ∧ Below u.heap.size u w' := fun u hu =>
      check_any nodes faulty skew jitter drift round frame sa la wa ns sc nl lc nw wc nd fr to lf lt lb lq _ _ wp wf wt E I u (hs.below hu) (hl.below hu) (hw.below hu) rfl (fun _ _ _ => rfl) hC
    have hrf : ∀ u : World, Below w.heap.size w u → Calls Tryd.prog 9 #[.agg #[.int .i64 nodes, .int .i64 faulty, .int .i64 skew, .int .i64 jitter, .int .i64 drift, .int .i64 round, .slice sa ns sc, .slice la nl lc, .int .i64 frame, .slice wa nw wc]] u fun ev w' => ev = .returned (.agg #[.int .i64 E, .int .i64 I]) ∧ Below u.heap.size u w' := fun u hu =>
      refCheck_any nodes faulty skew jitter drift round frame sa la wa ns sc nl lc nw wc nd fr to lf lt lb lq _ _ wp wf wt E I u (hs.below hu) (hl.below hu) (hw.below hu) rfl (fun _ _ _ => rfl) (hfine.below hu) hC
    by_cases hE : E = 0
    · subst hE
      obtain rfl := hC.zero.1
      obtain ⟨⟨d1, d2, d3⟩, hnn⟩ := nums_ok rfl hC
      have hpos : 1 ≤ (bytesOf (planNums nodes faulty skew jitter drift round frame ns nl nw nd fr to lf lt lb lq wp wf wt)).length := bytesOf_pos _ (by rw [planNums_len]; omega)
      refine encodes_walk nodes faulty skew jitter drift round frame sa la wa ns sc nl lc nw wc 0 (-1) (strOfNums (bytesOf (planNums nodes faulty skew jitter drift round frame ns nl nw nd fr to lf lt lb lq wp wf wt))) w hT h (fun u hu => ?_) (fun u hu => ?_)
      · refine (refEncode_ok nodes faulty skew jitter drift round frame sa la wa ns sc nl lc nw wc nd fr to lf lt lb lq wp wf wt u (hs.below hu) (hl.below hu) (hw.below hu) d1 d2 d3 (hfine.below hu) hnn (fun v hv => hrf v (stepB hu hv))).mono ?_
        rintro ev w' ⟨v, rfl, ho, hb⟩
        refine ⟨v, rfl, ?_, hb⟩
        rw [show 10 + 3 * ns + 4 * nl + 3 * nw = (planNums nodes faulty skew jitter drift round frame ns nl nw nd fr to lf lt lb lq wp wf wt).length from (planNums_len ..).symm, bytesTo_all] at ho
        exact str_owns ho hpos
      · refine (encode_ok nodes faulty skew jitter drift round frame sa la wa ns sc nl lc nw wc nd fr to lf lt lb lq wp wf wt u (hs.below hu) (hl.below hu) (hw.below hu) d1 d2 d3 hnn (fun v hv => hck v (stepB hu hv))).mono ?_
        rintro ev w' ⟨v, rfl, ho, hb⟩
        exact ⟨v, _, rfl, str_owns ho hpos, .inl ⟨rfl, rfl, rfl⟩, hb⟩
    · refine encodes_walk nodes faulty skew jitter drift round frame sa la wa ns sc nl lc nw wc E I ByteArray.empty w hT h (fun u hu => ?_) (fun u hu => ?_)
      · refine (refEncode_bad nodes faulty skew jitter drift round frame sa la wa ns sc nl lc nw wc E I u hE (fun v hv => hrf v (stepB hu hv))).mono ?_
        rintro ev w' ⟨rfl, hb⟩
        exact ⟨_, rfl, str_nil _, hb⟩
      · refine (encode_bad nodes faulty skew jitter drift round frame sa la wa ns sc nl lc nw wc E I u hE (fun v hv => hck v (stepB hu hv))).mono ?_
        rintro ev w' ⟨X, rfl, hX, hb⟩
        exact ⟨_, X, rfl, str_nil _, hX, hb⟩
end Go.Proofs.YtlpojkehbhkdiaaDoor
