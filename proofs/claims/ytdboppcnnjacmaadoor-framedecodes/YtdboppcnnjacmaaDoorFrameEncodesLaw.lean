/- FrameEncodes, walked: of every frame it answers true. Conditions: package errors' own variable holds what its text says. -/
import Derived.Test.YtdboppcnnjacmaaDoorFrameDecode
import Derived.Test.YtdboppcnnjacmaaDoorRefBytes
import Derived.Test.YtdboppcnnjacmaaDoorRefBytesNo
import Derived.Test.YtdboppcnnjacmaaDoorBareAt
namespace Go.Proofs.YtdboppcnnjacmaaDoor
open Go.RowKit Go.Lib

/-- The document's answer's bytes of a frame that may be. -/
theorem refBytes_yes (node slot members link seq : Int) (S : ByteArray) (w : World) (h : mayB node slot members link seq S.size = true) :
    Calls Tryd.prog 34 #[.agg #[.int .i64 node, .int .i64 slot, .int .i64 members, .int .i64 link, .int .i64 seq, .string S]] w fun e w' => ∃ v, e = .returned (.tuple #[v, .int .i64 0]) ∧ OwnB w' w.heap.size v (encB node slot members link seq S) ∧ Below w.heap.size w w' := by
  obtain ⟨g1, g2, g3, g4⟩ := mayB_true h
  obtain ⟨a, rfl⟩ := Int.eq_ofNat_of_zero_le g1.1
  obtain ⟨b, rfl⟩ := Int.eq_ofNat_of_zero_le g2.1
  obtain ⟨c, rfl⟩ := Int.eq_ofNat_of_zero_le g3.1
  rcases g4 with ⟨rfl, rfl, h0⟩ | ⟨g4, g5, g6⟩
  · obtain rfl : S = ByteArray.empty := ByteArray.size_eq_zero_iff.mp h0
    have := refBytes_none a b c w (by omega) (by omega) (by omega)
    simpa [encB, natsOf] using this
  · obtain ⟨d, rfl⟩ := Int.eq_ofNat_of_zero_le g4.1
    obtain ⟨e, rfl⟩ := Int.eq_ofNat_of_zero_le g5.1
    have := refBytes_msg a b c d e S w (by omega) (by omega) (by omega) (by omega) (by omega) g6
    have e1 : ((d : Int) + 1).toNat = d + 1 := by omega
    simpa [encB, e1] using this

set_option maxRecDepth 100000 in
set_option maxHeartbeats 2000000 in
theorem framed_any (node slot members link seq : Int) (S : ByteArray) (w : World) : Calls Tryd.prog 33 #[.agg #[.int .i64 node, .int .i64 slot, .int .i64 members, .int .i64 link, .int .i64 seq, .string S]] w fun e w' => e = .returned (.agg #[.int .i64 node, .int .i64 slot, .int .i64 members, .int .i64 link, .int .i64 seq, .string S]) ∧ Below w.heap.size w w' := by
  go_enter Tryd.func33, Tryd.ntmps33
  go_wp2
  refine bodyPost_ret (v := .agg #[.int .i64 node, .int .i64 slot, .int .i64 members, .int .i64 link, .int .i64 seq, .string S]) (by simp [results, Tryd.results33, go_sem]) rfl ⟨rfl, ?_⟩
  repeat (refine Below.alloc ?_ (by simp; try omega) _)
  exact Below.refl _ _

/-- What both writers say of a frame: the same text, and errors that are one. -/
def TextIs (w : World) (v : Value) (T : ByteArray) : Prop := ∀ u : World, Below w.heap.size w u → (convert 55 9 v).run Tryd.prog u = .ok (.string T) u
theorem TextIs.below {w w' : World} {v : Value} {T : ByteArray} (h : TextIs w v T) (hb : Below w.heap.size w w') : TextIs w' v T := fun u hu => h u (below_on hb hu)
theorem text_nil (w : World) : TextIs w (.slice none 0 0) ByteArray.empty := fun u _ => run_convert_bytes_nil u 55 5 Tryd.underlying55 Tryd.underlying5 0 0 9 Tryd.underlying9
theorem text_own {w : World} {base : Nat} {v : Value} {l : List Nat} (h : OwnB w base v l) (hn : 1 ≤ l.length) : TextIs w v (strN l) := fun u hu => by
  obtain ⟨g, cap, rfl, _, hr⟩ := h.row hn
  exact conv_row (hr.below hu) cap

set_option maxRecDepth 100000 in
set_option maxHeartbeats 4000000 in
theorem fencodes_walk (node slot members link seq : Int) (S T : ByteArray) (E : Value) (k : Int) (w : World) (hT : Told w) (hS : S.size ≤ 200) (hB : BareSays E k)
    (h2 : ∀ u : World, Calls Tryd.prog 34 #[.agg #[.int .i64 node, .int .i64 slot, .int .i64 members, .int .i64 link, .int .i64 seq, .string S]] u fun e w' => ∃ v, e = .returned (.tuple #[v, .int .i64 k]) ∧ TextIs w' v T ∧ Below u.heap.size u w')
    (h3 : ∀ u : World, Calls Tryd.prog 35 #[.agg #[.int .i64 node, .int .i64 slot, .int .i64 members, .int .i64 link, .int .i64 seq, .string S]] u fun e w' => ∃ v, e = .returned (.tuple #[v, E]) ∧ TextIs w' v T ∧ Below u.heap.size u w') :
    Calls Tryd.prog 9 #[.agg #[.int .i64 node, .int .i64 slot, .int .i64 members, .int .i64 link, .int .i64 seq, .string S]] w fun e w' => e = .returned (.bool true) ∧ Below w.heap.size w w' := by
  have hV : Below w.heap.size w (w.alloc (.cells #[.int .i64 node, .int .i64 slot, .int .i64 members, .int .i64 link, .int .i64 seq, .string S] 67)) := (Below.refl _ _).alloc (Nat.le_refl _) _
  have hC := box6 node slot members link seq S w 67
  have k1 : decide ((200 : Int) < (S.size : Int)) = false := decide_eq_false (by omega)
  have H2 : Hid (∀ u : World, Calls Tryd.prog 34 #[.agg #[.int .i64 node, .int .i64 slot, .int .i64 members, .int .i64 link, .int .i64 seq, .string S]] u fun e w' => ∃ v, e = .returned (.tuple #[v, .int .i64 k]) ∧ TextIs w' v T ∧ Below u.heap.size u w') := h2
  have H3 : Hid (∀ u : World, Calls Tryd.prog 35 #[.agg #[.int .i64 node, .int .i64 slot, .int .i64 members, .int .i64 link, .int .i64 seq, .string S]] u fun e w' => ∃ v, e = .returned (.tuple #[v, E]) ∧ TextIs w' v T ∧ Below u.heap.size u w') := h3
  clear h2 h3
  go_enter Tryd.func9, Tryd.ntmps9
  go_wp2_with fail
  generalize w.alloc (.cells #[.int .i64 node, .int .i64 slot, .int .i64 members, .int .i64 link, .int .i64 seq, .string S] 67) = V at hV hC ⊢
  refine (framed_any node slot members link seq S _).mono ?_
  rintro e w1 ⟨rfl, hb1⟩
  replace hV := below_on hV hb1
  replace hC := hC.below hb1
  clear hb1
  go_wp2_with fail
  refine (H2.out _).mono ?_
  rintro e w2 ⟨v2, rfl, ht2, hb2⟩
  have HT2 : Hid (TextIs w2 v2 T) := ht2
  replace hV := below_on hV hb2
  replace hC := hC.below hb2
  clear hb2 ht2 H2
  obtain ⟨x0, x1, x2, x3, x4, x5⟩ := hC.below (Below.refl _ _)
  go_wp2_with fail
  refine (H3.out _).mono ?_
  rintro e w3 ⟨v3, rfl, ht3, hb3⟩
  have HT2' : Hid (TextIs w3 v2 T) := HT2.out.below hb3
  have HT3 : Hid (TextIs w3 v3 T) := ht3
  replace hV := below_on hV hb3
  clear hb3 ht3 H3 x0 x1 x2 x3 x4 x5 hC HT2
  go_wp2_with fail
  refine (hB _ (hT.below hV)).mono ?_
  rintro e w4 ⟨rfl, hb4⟩
  have c2 := HT2'.out w4 hb4
  have c3 := HT3.out w4 hb4
  go_wp2_with fail
  go_ret
  exact ⟨by simp, below_on hV hb4⟩

theorem fencodes_any (node slot members link seq : Int) (S : ByteArray) (w : World) (hT : Told w) (hS : S.size ≤ maxLen) :
    Calls Tryd.prog 9 #[.agg #[.int .i64 node, .int .i64 slot, .int .i64 members, .int .i64 link, .int .i64 seq, .string S]] w fun e w' => e = .returned (.bool true) ∧ Below w.heap.size w w' := by
  by_cases h1 : 200 < S.size
  · have h2 : (200 : Int) < (S.size : Int) := by omega
    have hV : Below w.heap.size w (w.alloc (.cells #[.int .i64 node, .int .i64 slot, .int .i64 members, .int .i64 link, .int .i64 seq, .string S] 67)) := (Below.refl _ _).alloc (Nat.le_refl _) _
    unfold maxLen at hS
    go_enter Tryd.func9, Tryd.ntmps9
    go_wp2_with fail
    go_ret
    exact ⟨rfl, hV⟩
  · by_cases hm : mayB node slot members link seq S.size = true
    · exact fencodes_walk node slot members link seq S (strN (encB node slot members link seq S)) .nilIface 0 w hT (by omega) bare_nil
        (fun u => (refBytes_yes node slot members link seq S u hm).mono fun e w' ⟨v, he, ho, hb⟩ => ⟨v, he, text_own ho (by have := encB_len hm; omega), hb⟩)
        (fun u => (encode_yes node slot members link seq S u hm).mono fun e w' ⟨v, he, ho, hb⟩ => ⟨v, he, text_own ho (by have := encB_len hm; omega), hb⟩)
    · exact fencodes_walk node slot members link seq S ByteArray.empty (.iface 24 (.int .i64 1)) 1 w hT (by omega) (bare_e 1)
        (fun u => (refBytes_no node slot members link seq S u hS (by simpa using hm)).mono fun e w' ⟨he, hb⟩ => ⟨_, he, text_nil w', hb⟩)
        (fun u => (encode_no node slot members link seq S u hS (by simpa using hm)).mono fun e w' ⟨he, hb⟩ => ⟨_, he, text_nil w', hb⟩)
end Go.Proofs.YtdboppcnnjacmaaDoor
