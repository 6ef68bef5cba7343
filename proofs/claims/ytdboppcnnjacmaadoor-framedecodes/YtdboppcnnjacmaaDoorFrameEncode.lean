/- The program's Encode: a frame's bytes, or that it may not be. -/
import Derived.Test.YtdboppcnnjacmaaDoorFrameTwo
import Derived.Test.YtdboppcnnjacmaaDoorFrameMay
namespace Go.Proofs.YtdboppcnnjacmaaDoor
open Go.RowKit Go.Lib

/-- A frame's bytes, without its sum. -/
def bodyB (node slot members link seq : Nat) (D : List Nat) : List Nat :=
  [node, slot] ++ [members / 256, members % 256] ++ [link] ++ (if link = 0 then [] else [seq, D.length] ++ D)
/-- Bytes, and their sum behind them. -/
def summed (l : List Nat) : List Nat := l ++ [crcOf 65535 l / 256, crcOf 65535 l % 256]
/-- A frame's bytes. -/
def encB (node slot members link seq : Int) (S : ByteArray) : List Nat := summed (bodyB node.toNat slot.toNat members.toNat (link + 1).toNat seq.toNat (natsOf S))

theorem mayB_true {node slot members link seq : Int} {n : Nat} (h : mayB node slot members link seq n = true) : (0 ≤ node ∧ node < 16) ∧ (0 ≤ slot ∧ slot < 32) ∧ (0 ≤ members ∧ members < 65536) ∧ ((link = -1 ∧ seq = 0 ∧ n = 0) ∨ ((0 ≤ link ∧ link < 8) ∧ (0 ≤ seq ∧ seq < 256) ∧ n ≤ 40)) := of_decide_eq_true h

/-- A frame's six cells. -/
def Cells6 (b : Nat) (node slot members link seq : Int) (S : ByteArray) (u : World) : Prop :=
  u.cell? ⟨b, 0, none⟩ = some (.int .i64 node) ∧ u.cell? ⟨b, 1, none⟩ = some (.int .i64 slot) ∧ u.cell? ⟨b, 2, none⟩ = some (.int .i64 members) ∧ u.cell? ⟨b, 3, none⟩ = some (.int .i64 link) ∧ u.cell? ⟨b, 4, none⟩ = some (.int .i64 seq) ∧ u.cell? ⟨b, 5, none⟩ = some (.string S)
theorem Cells6.kept {b base : Nat} {node slot members link seq : Int} {S : ByteArray} {u u' : World} (h : Cells6 b node slot members link seq S u) (hb : Below base u u') (hl : b < base) : Cells6 b node slot members link seq S u' :=
  ⟨cell_kept h.1 hb hl, cell_kept h.2.1 hb hl, cell_kept h.2.2.1 hb hl, cell_kept h.2.2.2.1 hb hl, cell_kept h.2.2.2.2.1 hb hl, cell_kept h.2.2.2.2.2 hb hl⟩
theorem Cells6.below {b : Nat} {node slot members link seq : Int} {S : ByteArray} {u u' : World} (h : Cells6 b node slot members link seq S u) (hb : Below u.heap.size u u') : Cells6 b node slot members link seq S u' := h.kept hb (cell_lt h.1)
theorem box6 (node slot members link seq : Int) (S : ByteArray) (w : World) (t : TypeId) : Cells6 w.heap.size node slot members link seq S (w.alloc (.cells #[.int .i64 node, .int .i64 slot, .int .i64 members, .int .i64 link, .int .i64 seq, .string S] t)) :=
  ⟨by simp, by simp, by simp, by simp, by simp, by simp⟩

set_option maxRecDepth 100000 in
set_option maxHeartbeats 2000000 in
theorem encode_no (node slot members link seq : Int) (S : ByteArray) (w : World) (hS : S.size ≤ maxLen) (hm : mayB node slot members link seq S.size = false) :
    Calls Tryd.prog 35 #[.agg #[.int .i64 node, .int .i64 slot, .int .i64 members, .int .i64 link, .int .i64 seq, .string S]] w fun e w' => e = .returned (.tuple #[.slice none 0 0, .iface 24 (.int .i64 1)]) ∧ Below w.heap.size w w' := by
  have HM : Hid (∀ u, Calls Tryd.prog 56 #[.agg #[.int .i64 node, .int .i64 slot, .int .i64 members, .int .i64 link, .int .i64 seq, .string S]] u fun e w' => e = .returned (.bool false) ∧ Below u.heap.size u w') := fun u => hm ▸ may_any node slot members link seq S u hS
  clear hm
  go_enter Tryd.func35, Tryd.ntmps35
  go_wp2_with fail
  refine (HM.out _).mono ?_
  rintro e w1 ⟨rfl, hb1⟩
  go_wp2_with fail
  go_ret2
  exact ⟨rfl, below_on ((Below.refl _ _).alloc (Nat.le_refl _) _) hb1⟩

-- WALKS
set_option maxRecDepth 100000 in
set_option maxHeartbeats 4000000 in
theorem encode_none (node slot members : Nat) (w : World) (h1 : node < 16) (h2 : slot < 32) (h3 : members < 65536) :
    Calls Tryd.prog 35 #[.agg #[.int .i64 node, .int .i64 slot, .int .i64 members, .int .i64 (-1), .int .i64 0, .string ByteArray.empty]] w fun e w' => ∃ v, e = .returned (.tuple #[v, .nilIface]) ∧ OwnB w' w.heap.size v (summed (bodyB node slot members 0 0 [])) ∧ Below w.heap.size w w' := by
  have HM : Hid (∀ u, Calls Tryd.prog 56 #[.agg #[.int .i64 node, .int .i64 slot, .int .i64 members, .int .i64 (-1), .int .i64 0, .string ByteArray.empty]] u fun e w' => e = .returned (.bool true) ∧ Below u.heap.size u w') := fun u => by
    have := may_any node slot members (-1) 0 ByteArray.empty u (by simp)
    rwa [show mayB node slot members (-1) 0 ByteArray.empty.size = true from decide_eq_true (by simp; omega)] at this
  have k1 : (node : Int) < 16 := by omega
  have k2 : (slot : Int) < 32 := by omega
  have k3 : (members : Int) < 65536 := by omega
  have hV : Below w.heap.size w (w.alloc (.cells #[.int .i64 node, .int .i64 slot, .int .i64 members, .int .i64 (-1), .int .i64 0, .string ByteArray.empty] 67)) := (Below.refl _ _).alloc (Nat.le_refl _) _
  have hC := box6 node slot members (-1) 0 ByteArray.empty w 67
  go_enter Tryd.func35, Tryd.ntmps35
  go_wp2_with fail
  generalize w.alloc (.cells #[.int .i64 node, .int .i64 slot, .int .i64 members, .int .i64 (-1), .int .i64 0, .string ByteArray.empty] 67) = V at hV hC ⊢
  refine (HM.out _).mono ?_
  rintro e w1 ⟨rfl, hb1⟩
  replace hV := below_on hV hb1
  replace hC := hC.below hb1
  have hwz : w.heap.size < w1.heap.size := cell_lt hC.1
  clear hb1 HM
  obtain ⟨x0, x1, x2, x3, x4, x5⟩ := hC.below (Below.refl _ _)
  go_wp2_with fail
  refine (two_any w1.heap.size _ [node, slot] members _ (own_new w1 [node, slot] _ rfl (by simp) _ (Nat.le_refl _)) h3 (by simp) (by simp)).mono ?_
  rintro e w2 ⟨v2, rfl, ho2, hb2, hz2⟩
  replace hb2 := ((Below.refl w1.heap.size w1).alloc (Nat.le_refl _) _).trans hb2
  have hC2 := hC.kept hb2 hwz
  have hz2' : w1.heap.size ≤ w2.heap.size := hb2.size
  clear x0 x1 x2 x3 x4 x5 hz2 hC
  obtain ⟨x0, x1, x2, x3, x4, x5⟩ := hC2.kept (Below.refl _ _) hwz
  have HO2 : Hid (OwnB (w2.alloc (.cells #[.int .u8 0] 5)) w1.heap.size v2 ([node, slot] ++ [members / 256, members % 256])) := ho2.below ((Below.refl _ _).alloc (Nat.le_refl _) _)
  clear ho2 x0 x1 x2 x4 x5
  have HC1 : Hid ((#[.int .u8 0] : Array Value).toList = by8 [0]) := by simp [Hid, by8]
  go_wp2_with (at_builtin; first
    | (refine wp_app rfl _ _ rfl w1.heap.size v2 _ rfl HO2.out w2.heap.size 1 [0] rfl (cells_new w2 _ _ HC1.out) (by simp) (by simp; omega) ?_; intro v3 w3 ho3 hb3 hz3; have hb3' := ((Below.refl w1.heap.size w2).alloc hz2' _).trans hb3; clear x3; have x3 := cell_kept hC2.2.2.2.1 hb3' hwz; have hz3' : w2.heap.size ≤ w3.heap.size := Nat.le_trans (by simp) hz3; have HO3 : Hid (OwnB w3 w1.heap.size v3 ([node, slot] ++ [members / 256, members % 256] ++ [0])) := ho3; clear ho3))
  have HL : Hid (([node, slot] ++ [members / 256, members % 256] ++ [0]) = bodyB node slot members 0 0 []) := by simp [Hid, bodyB]
  have hlt : ∀ c ∈ ([node, slot] ++ [members / 256, members % 256] ++ [0]), c < 256 := by
    intro c hc
    simp at hc
    omega
  have hlen : ([node, slot] ++ [members / 256, members % 256] ++ [0]).length ≤ 50 := by simp
  have hlen1 : 1 ≤ ([node, slot] ++ [members / 256, members % 256] ++ [0]).length := by simp
  generalize ([node, slot] ++ [members / 256, members % 256] ++ [0]) = L at *
  obtain ⟨g, cap, rfl, hg, hrow⟩ := HO3.out.row hlen1
  refine (sum_any _ _ L _ hrow hlt (by omega)).mono ?_
  rintro e w6 ⟨rfl, rfl⟩
  have hcr : crcOf 65535 L < 65536 := crc_lt _ _ (by decide) hlt
  obtain ⟨N, hN⟩ : ∃ N, L.length = N := ⟨_, rfl⟩
  have HO6 : Hid (OwnB w6 w1.heap.size (.slice (some ⟨g, 0, none⟩) N cap) L) := hN ▸ HO3.out
  rw [hN]
  clear HO3 hN hrow
  go_wp2_with fail
  refine (two_any w1.heap.size _ L (crcOf 65535 L) _ HO6.out hcr (by omega) (by omega)).mono ?_
  rintro e w7 ⟨v7, rfl, ho7, hb7, hz7⟩
  go_wp2_with fail
  go_ret2
  refine ⟨_, rfl, ?_, hV.trans ((hb2.trans (hb3'.trans hb7)).mono hV.size)⟩
  rw [← HL.out]
  exact OwnB.mono ho7 hV.size

set_option maxRecDepth 100000 in
set_option maxHeartbeats 4000000 in
theorem encode_msg (node slot members link seq : Nat) (S : ByteArray) (w : World) (h1 : node < 16) (h2 : slot < 32) (h3 : members < 65536) (h4 : link < 8) (h5 : seq < 256) (h6 : S.size ≤ 40) :
    Calls Tryd.prog 35 #[.agg #[.int .i64 node, .int .i64 slot, .int .i64 members, .int .i64 link, .int .i64 seq, .string S]] w fun e w' => ∃ v, e = .returned (.tuple #[v, .nilIface]) ∧ OwnB w' w.heap.size v (summed (bodyB node slot members (link + 1) seq (natsOf S))) ∧ Below w.heap.size w w' := by
  have HM : Hid (∀ u, Calls Tryd.prog 56 #[.agg #[.int .i64 node, .int .i64 slot, .int .i64 members, .int .i64 link, .int .i64 seq, .string S]] u fun e w' => e = .returned (.bool true) ∧ Below u.heap.size u w') := fun u => by
    have := may_any node slot members link seq S u (by unfold maxLen; omega)
    rwa [show mayB node slot members link seq S.size = true from decide_eq_true (by omega)] at this
  have k1 : (node : Int) < 16 := by omega
  have k2 : (slot : Int) < 32 := by omega
  have k3 : (members : Int) < 65536 := by omega
  have k4 : (link : Int) < 8 := by omega
  have k5 : (seq : Int) < 256 := by omega
  have k6 : (S.size : Int) ≤ 40 := by omega
  have k7 : ((link : Int) != -1) = true := by simp
  have hV : Below w.heap.size w (w.alloc (.cells #[.int .i64 node, .int .i64 slot, .int .i64 members, .int .i64 link, .int .i64 seq, .string S] 67)) := (Below.refl _ _).alloc (Nat.le_refl _) _
  have hC := box6 node slot members link seq S w 67
  go_enter Tryd.func35, Tryd.ntmps35
  go_wp2_with fail
  generalize w.alloc (.cells #[.int .i64 node, .int .i64 slot, .int .i64 members, .int .i64 link, .int .i64 seq, .string S] 67) = V at hV hC ⊢
  refine (HM.out _).mono ?_
  rintro e w1 ⟨rfl, hb1⟩
  replace hV := below_on hV hb1
  replace hC := hC.below hb1
  have hwz : w.heap.size < w1.heap.size := cell_lt hC.1
  clear hb1 HM
  obtain ⟨x0, x1, x2, x3, x4, x5⟩ := hC.below (Below.refl _ _)
  go_wp2_with fail
  refine (two_any w1.heap.size _ [node, slot] members _ (own_new w1 [node, slot] _ rfl (by simp) _ (Nat.le_refl _)) h3 (by simp) (by simp)).mono ?_
  rintro e w2 ⟨v2, rfl, ho2, hb2, hz2⟩
  replace hb2 := ((Below.refl w1.heap.size w1).alloc (Nat.le_refl _) _).trans hb2
  have hC2 := hC.kept hb2 hwz
  have hz2' : w1.heap.size ≤ w2.heap.size := hb2.size
  clear x0 x1 x2 x3 x4 x5 hz2 hC
  obtain ⟨x0, x1, x2, x3, x4, x5⟩ := hC2.kept (Below.refl _ _) hwz
  have HO2 : Hid (OwnB (w2.alloc (.cells #[.int .u8 ((link : Int) + 1)] 5)) w1.heap.size v2 ([node, slot] ++ [members / 256, members % 256])) := ho2.below ((Below.refl _ _).alloc (Nat.le_refl _) _)
  clear ho2 x0 x1 x2 x4 x5
  have HC1 : Hid ((#[.int .u8 ((link : Int) + 1)] : Array Value).toList = by8 [link + 1]) := by simp [Hid, by8]
  have HC2 : Hid ((#[.int .u8 (seq : Int), .int .u8 (S.size : Int)] : Array Value).toList = by8 [seq, S.size]) := by simp [Hid, by8]
  go_wp2_with (at_builtin; first
    | (refine wp_app_str rfl _ _ rfl w1.heap.size v4 _ rfl HO4.out S rfl (by simp; omega) (by omega) ?_; intro v5 w5 ho5 hb5 hz5; have hb5' := hb4'.trans hb5; have HO5 : Hid (OwnB w5 w1.heap.size v5 ([node, slot] ++ [members / 256, members % 256] ++ [link + 1] ++ [seq, S.size] ++ natsOf S)) := ho5; clear ho5 x5)
    | (refine wp_app rfl _ _ rfl w1.heap.size v3 _ rfl HO3.out w3.heap.size 2 [seq, S.size] rfl (cells_new w3 _ _ HC2.out) (by simp) (by simp; omega) ?_; intro v4 w4 ho4 hb4 hz4; have hb4' := hb3'.trans (((Below.refl w1.heap.size w3).alloc (by omega) _).trans hb4); clear x3 x4 x5; have x5 := cell_kept hC2.2.2.2.2.2 hb4' hwz; have hz4' : w3.heap.size ≤ w4.heap.size := Nat.le_trans (by simp) hz4; have HO4 : Hid (OwnB w4 w1.heap.size v4 ([node, slot] ++ [members / 256, members % 256] ++ [link + 1] ++ [seq, S.size])) := ho4; clear ho4)
    | (refine wp_app rfl _ _ rfl w1.heap.size v2 _ rfl HO2.out w2.heap.size 1 [link + 1] rfl (cells_new w2 _ _ HC1.out) (by simp) (by simp; omega) ?_; intro v3 w3 ho3 hb3 hz3; have hb3' := ((Below.refl w1.heap.size w2).alloc hz2' _).trans hb3; clear x3; have x3 := cell_kept hC2.2.2.2.1 hb3' hwz; have hz3' : w2.heap.size ≤ w3.heap.size := Nat.le_trans (by simp) hz3; have x4 := cell_kept hC2.2.2.2.2.1 hb3' hwz; have x5 := cell_kept hC2.2.2.2.2.2 hb3' hwz; have HO3 : Hid (OwnB (w3.alloc (.cells #[.int .u8 (seq : Int), .int .u8 (S.size : Int)] 5)) w1.heap.size v3 ([node, slot] ++ [members / 256, members % 256] ++ [link + 1])) := ho3.below ((Below.refl _ _).alloc (Nat.le_refl _) _); clear ho3))
  have HL : Hid (([node, slot] ++ [members / 256, members % 256] ++ [link + 1] ++ [seq, S.size] ++ natsOf S) = bodyB node slot members (link + 1) seq (natsOf S)) := by simp [Hid, bodyB, natsOf_len]
  have hlt : ∀ c ∈ ([node, slot] ++ [members / 256, members % 256] ++ [link + 1] ++ [seq, S.size] ++ natsOf S), c < 256 := by
    intro c hc
    simp at hc
    rcases hc with h | h | h | h | h | h | h | h
    all_goals first | omega | exact natsOf_lt S c h
  have hlen : ([node, slot] ++ [members / 256, members % 256] ++ [link + 1] ++ [seq, S.size] ++ natsOf S).length ≤ 50 := by simp; rw [natsOf_len]; omega
  have hlen1 : 1 ≤ ([node, slot] ++ [members / 256, members % 256] ++ [link + 1] ++ [seq, S.size] ++ natsOf S).length := by simp
  generalize ([node, slot] ++ [members / 256, members % 256] ++ [link + 1] ++ [seq, S.size] ++ natsOf S) = L at *
  obtain ⟨g, cap, rfl, hg, hrow⟩ := HO5.out.row hlen1
  refine (sum_any _ _ L _ hrow hlt (by omega)).mono ?_
  rintro e w6 ⟨rfl, rfl⟩
  have hcr : crcOf 65535 L < 65536 := crc_lt _ _ (by decide) hlt
  obtain ⟨N, hN⟩ : ∃ N, L.length = N := ⟨_, rfl⟩
  have HO6 : Hid (OwnB w6 w1.heap.size (.slice (some ⟨g, 0, none⟩) N cap) L) := hN ▸ HO5.out
  rw [hN]
  clear HO5 hN hrow
  go_wp2_with fail
  refine (two_any w1.heap.size _ L (crcOf 65535 L) _ HO6.out hcr (by omega) (by omega)).mono ?_
  rintro e w7 ⟨v7, rfl, ho7, hb7, hz7⟩
  go_wp2_with fail
  go_ret2
  refine ⟨_, rfl, ?_, hV.trans ((hb2.trans (hb5'.trans hb7)).mono hV.size)⟩
  rw [← HL.out]
  exact OwnB.mono ho7 hV.size
end Go.Proofs.YtdboppcnnjacmaaDoor
