/- The program's Decode: the frame that bytes are, or that they are none. -/
import Derived.Test.YtdboppcnnjacmaaDoorFrameRead
namespace Go.Proofs.YtdboppcnnjacmaaDoor
open Go.RowKit Go.Lib

/-- Bytes are those of a frame that may be. -/
def Enc (l : List Nat) (node slot members link seq : Int) (S : ByteArray) : Prop := mayB node slot members link seq S.size = true ∧ l = encB node slot members link seq S

theorem conv_row {w : World} {a : Option Addr} {l : List Nat} (h : ByteRow w a l) (cap : Nat) : (convert 55 9 (.slice a l.length cap)).run Tryd.prog w = .ok (.string (strN l)) w := by
  match l, h with
  | [], _ =>
    match a with
    | none => exact run_convert_bytes_nil w 55 5 Tryd.underlying55 Tryd.underlying5 0 cap 9 Tryd.underlying9
    | some ad =>
      have hl : (loadCells ad 0).run Tryd.prog w = .ok (([] : List Int).map (Value.int .u8)).toArray w := by
        simpa using run_loadCells_list (P := Tryd.prog) w ad [] (fun j v hj => by simp at hj)
      show (convert 55 9 (.slice (some ad) 0 cap)).run Tryd.prog w = _
      rw [run_convert_bytes_string w 55 9 5 _ 0 cap Tryd.underlying55 Tryd.underlying5 Tryd.underlying9, run_bytesToString w ad 0 cap [] hl]
      rfl
  | x :: xs, h =>
    obtain ⟨b, off, rfl, _, hc⟩ := h (by simp)
    exact run_strN hc cap
theorem strN_inj {l m : List Nat} (hl : ∀ c ∈ l, c < 256) (hm : ∀ c ∈ m, c < 256) (h : strN l = strN m) : l = m := by
  rw [← nats_strN l hl, ← nats_strN m hm, h]

set_option maxRecDepth 100000 in
set_option maxHeartbeats 2000000 in
theorem equal_any (a b : Option Addr) (n m c d : Nat) (S T : ByteArray) (w : World) (h1 : (convert 55 9 (.slice a n c)).run Tryd.prog w = .ok (.string S) w) (h2 : (convert 55 9 (.slice b m d)).run Tryd.prog w = .ok (.string T) w) :
    Calls Tryd.prog 59 #[.slice a n c, .slice b m d] w fun e w' => e = .returned (.bool (S.toList == T.toList)) ∧ w' = w := by
  go_enter Tryd.func59, Tryd.ntmps59
  go_wp2
  go_ret
  exact ⟨rfl, rfl⟩
theorem toList_ne {S T : ByteArray} (h : S ≠ T) : (S.toList == T.toList) = false := by
  rw [ByteArray.toList_eq, ByteArray.toList_eq]
  exact beq_eq_false_iff_ne.mpr fun e => h (Go.WideShapes.bytes_inj e)

/-- All numbers of a frame's bytes are bytes. -/
theorem summed_lt {l : List Nat} (h : ∀ c ∈ l, c < 256) : ∀ c ∈ summed l, c < 256 := by
  intro c hc
  have := crc_lt l 65535 (by decide) h
  simp [summed] at hc
  rcases hc with h1 | h1 | h1
  · exact h c h1
  · omega
  · omega
theorem bodyB_lt {node slot members link seq : Nat} {D : List Nat} (h1 : node < 256) (h2 : slot < 256) (h3 : members < 65536) (h4 : link < 256) (h5 : seq < 256) (h6 : D.length < 256) (hD : ∀ c ∈ D, c < 256) : ∀ c ∈ bodyB node slot members link seq D, c < 256 := by
  intro c hc
  unfold bodyB at hc
  split at hc
  · simp at hc; omega
  · simp at hc
    rcases hc with h | h | h | h | h | h | h | h
    all_goals first | omega | exact hD c h
theorem encB_lt {node slot members link seq : Int} {S : ByteArray} (h : mayB node slot members link seq S.size = true) : ∀ c ∈ encB node slot members link seq S, c < 256 := by
  obtain ⟨g1, g2, g3, g4⟩ := mayB_true h
  exact summed_lt (bodyB_lt (by omega) (by omega) (by omega) (by omega) (by omega) (by rw [natsOf_len]; omega) (natsOf_lt S))
theorem summed_len (l : List Nat) : (summed l).length = l.length + 2 := by simp [summed]
theorem bodyB_len (node slot members link seq : Nat) (D : List Nat) : (bodyB node slot members link seq D).length = if link = 0 then 5 else 7 + D.length := by
  unfold bodyB
  split <;> simp
  omega
theorem encB_len {node slot members link seq : Int} {S : ByteArray} (h : mayB node slot members link seq S.size = true) : 7 ≤ (encB node slot members link seq S).length ∧ (encB node slot members link seq S).length ≤ 49 := by
  obtain ⟨g1, g2, g3, g4⟩ := mayB_true h
  unfold encB
  rw [summed_len, bodyB_len, natsOf_len]
  split <;> omega
/-- A frame's bytes leave no sum. -/
theorem encB_crc (node slot members link seq : Int) (S : ByteArray) : crcOf 65535 (encB node slot members link seq S) = 0 := crc_own _ _

/-- Encode of a frame that may be. -/
theorem encode_yes (node slot members link seq : Int) (S : ByteArray) (w : World) (h : mayB node slot members link seq S.size = true) :
    Calls Tryd.prog 35 #[.agg #[.int .i64 node, .int .i64 slot, .int .i64 members, .int .i64 link, .int .i64 seq, .string S]] w fun e w' => ∃ v, e = .returned (.tuple #[v, .nilIface]) ∧ OwnB w' w.heap.size v (encB node slot members link seq S) ∧ Below w.heap.size w w' := by
  obtain ⟨g1, g2, g3, g4⟩ := mayB_true h
  obtain ⟨a, rfl⟩ := Int.eq_ofNat_of_zero_le g1.1
  obtain ⟨b, rfl⟩ := Int.eq_ofNat_of_zero_le g2.1
  obtain ⟨c, rfl⟩ := Int.eq_ofNat_of_zero_le g3.1
  rcases g4 with ⟨rfl, rfl, h0⟩ | ⟨g4, g5, g6⟩
  · obtain rfl : S = ByteArray.empty := ByteArray.size_eq_zero_iff.mp h0
    have := encode_none a b c w (by omega) (by omega) (by omega)
    simpa [encB, natsOf] using this
  · obtain ⟨d, rfl⟩ := Int.eq_ofNat_of_zero_le g4.1
    obtain ⟨e, rfl⟩ := Int.eq_ofNat_of_zero_le g5.1
    have := encode_msg a b c d e S w (by omega) (by omega) (by omega) (by omega) (by omega) g6
    have e1 : ((d : Int) + 1).toNat = d + 1 := by omega
    simpa [encB, e1] using this

theorem getD_in {l : List Nat} {j : Nat} (h : j < l.length) : l.getD j 0 = l[j] := by simp only [List.getD, List.getElem?_eq_getElem h, Option.getD_some]
/-- The first cells of a row. -/
theorem row_get {w : World} {b off : Nat} {l : List Nat} (hc : ∀ j (h : j < l.length), w.cell? ⟨b, off + j, none⟩ = some (.int .u8 (l[j] : Nat))) (j : Nat) (h : j < l.length) : w.cell? ⟨b, off + j, none⟩ = some (.int .u8 (l.getD j 0 : Nat)) := by
  rw [hc j h, getD_in h]
theorem getD_lt {l : List Nat} (hb : ∀ c ∈ l, c < 256) (j : Nat) : l.getD j 0 < 256 := by
  by_cases h : j < l.length
  · rw [getD_in h]; exact hb _ (List.getElem_mem h)
  · simp only [List.getD, List.getElem?_eq_none (Nat.le_of_not_lt h), Option.getD_none]; omega
/-- The text that stands behind a frame's seven first bytes. -/
def dataN (l : List Nat) : List Nat := (l.drop 7).take (l.length - 2 - 7)
theorem dataN_cv {w : World} {b off cap : Nat} {l : List Nat} (hc : ∀ j (h : j < l.length), w.cell? ⟨b, off + j, none⟩ = some (.int .u8 (l[j] : Nat))) (hbl : b < w.heap.size) (h9 : 9 ≤ l.length) : ∀ u : World, Below w.heap.size w u → (convert 55 9 (.slice (some ⟨b, off + 7, none⟩) (l.length - 2 - 7) (cap - 7))).run Tryd.prog u = .ok (.string (strN (dataN l))) u := by
  intro u hu
  have hl : (dataN l).length = l.length - 2 - 7 := by simp [dataN]; omega
  have := run_strN (w := u) (b := b) (off := off + 7) (l := dataN l) (fun j hj => by
    rw [hl] at hj
    rw [hu.cell (p := ⟨b, off + 7 + j, none⟩) hbl, Nat.add_assoc, hc (7 + j) (by omega)]
    simp [dataN]) (cap - 7)
  rwa [hl] at this

/-- read of any bytes: some frame. -/
theorem read_some (a : Option Addr) (cap : Nat) (l : List Nat) (w : World) (hr : ByteRow w a l) (hb : ∀ c ∈ l, c < 256) (hcap : l.length ≤ cap) (hl : l.length ≤ 1000) :
    ∃ (node slot members link seq : Int) (S : ByteArray), S.size ≤ 1000 ∧ Calls Tryd.prog 58 #[.slice a l.length cap] w fun e w' => e = .returned (.agg #[.int .i64 node, .int .i64 slot, .int .i64 members, .int .i64 link, .int .i64 seq, .string S]) ∧ Below w.heap.size w w' := by
  by_cases hn : l.length < 7 ∨ 49 < l.length
  · exact ⟨0, 0, 0, 0, 0, ⟨#[]⟩, Nat.zero_le _, read_out a cap l.length w hn hl⟩
  · obtain ⟨b, off, rfl, hbl, hc⟩ := hr (by omega)
    by_cases h9 : l.getD 4 0 = 0 ∨ l.length < 9
    · exact ⟨_, _, _, _, _, _, Nat.zero_le _, read_in b off cap l.length (l.getD 0 0) (l.getD 1 0) (l.getD 2 0) (l.getD 3 0) (l.getD 4 0) 0 ⟨#[]⟩ w (by omega) (by omega) (getD_lt hb 0) (getD_lt hb 1) (getD_lt hb 2) (getD_lt hb 3) (getD_lt hb 4)
        (row_get hc 0 (by omega)) (row_get hc 1 (by omega)) (row_get hc 2 (by omega)) (row_get hc 3 (by omega)) (row_get hc 4 (by omega)) (.inl ⟨h9, rfl, rfl⟩)⟩
    · exact ⟨_, _, _, _, _, _, (by rw [strN_size]; simp [dataN]; omega), read_in b off cap l.length (l.getD 0 0) (l.getD 1 0) (l.getD 2 0) (l.getD 3 0) (l.getD 4 0) (l.getD 5 0) (strN (dataN l)) w (by omega) (by omega) (getD_lt hb 0) (getD_lt hb 1) (getD_lt hb 2) (getD_lt hb 3) (getD_lt hb 4)
        (row_get hc 0 (by omega)) (row_get hc 1 (by omega)) (row_get hc 2 (by omega)) (row_get hc 3 (by omega)) (row_get hc 4 (by omega)) (.inr ⟨by omega, by omega, getD_lt hb 5, row_get hc 5 (by omega), hcap, dataN_cv hc hbl (by omega)⟩)⟩

/-- read of a frame's bytes: that frame. -/
theorem read_back (a : Option Addr) (cap : Nat) (l : List Nat) (w : World) (hr : ByteRow w a l) (hcap : l.length ≤ cap) (node slot members link seq : Int) (S : ByteArray) (he : Enc l node slot members link seq S) :
    Calls Tryd.prog 58 #[.slice a l.length cap] w fun e w' => e = .returned (.agg #[.int .i64 node, .int .i64 slot, .int .i64 members, .int .i64 link, .int .i64 seq, .string S]) ∧ Below w.heap.size w w' := by
  obtain ⟨hm, rfl⟩ := he
  have hL := encB_len hm
  have hb := encB_lt hm
  obtain ⟨g1, g2, g3, g4⟩ := mayB_true hm
  obtain ⟨n, rfl⟩ := Int.eq_ofNat_of_zero_le g1.1
  obtain ⟨s, rfl⟩ := Int.eq_ofNat_of_zero_le g2.1
  obtain ⟨m, rfl⟩ := Int.eq_ofNat_of_zero_le g3.1
  obtain ⟨b, off, rfl, hbl, hc⟩ := hr (by omega)
  generalize hLe : encB n s m link seq S = L at *
  have hmm : m / 256 * 256 + m % 256 = m := by omega
  rcases g4 with ⟨rfl, rfl, h0⟩ | ⟨g4, g5, g6⟩
  · obtain rfl : S = ⟨#[]⟩ := ByteArray.size_eq_zero_iff.mp h0
    have hk : L.getD 0 0 = n ∧ L.getD 1 0 = s ∧ L.getD 2 0 = m / 256 ∧ L.getD 3 0 = m % 256 ∧ L.getD 4 0 = 0 := by
      rw [← hLe]; simp [encB, summed, bodyB]
    have := read_in b off cap L.length (L.getD 0 0) (L.getD 1 0) (L.getD 2 0) (L.getD 3 0) (L.getD 4 0) 0 ⟨#[]⟩ w (by omega) (by omega) (getD_lt hb 0) (getD_lt hb 1) (getD_lt hb 2) (getD_lt hb 3) (getD_lt hb 4)
        (row_get hc 0 (by omega)) (row_get hc 1 (by omega)) (row_get hc 2 (by omega)) (row_get hc 3 (by omega)) (row_get hc 4 (by omega)) (.inl ⟨.inl hk.2.2.2.2, rfl, rfl⟩)
    rw [hk.1, hk.2.1, hk.2.2.1, hk.2.2.2.1, hk.2.2.2.2, hmm] at this
    exact this
  · obtain ⟨k, rfl⟩ := Int.eq_ofNat_of_zero_le g4.1
    obtain ⟨q, rfl⟩ := Int.eq_ofNat_of_zero_le g5.1
    have e1 : ((k : Int) + 1).toNat = k + 1 := by omega
    have hk : L.getD 0 0 = n ∧ L.getD 1 0 = s ∧ L.getD 2 0 = m / 256 ∧ L.getD 3 0 = m % 256 ∧ L.getD 4 0 = k + 1 ∧ L.getD 5 0 = q := by
      rw [← hLe]; simp [encB, summed, bodyB, e1]
    have hlen : L.length = 9 + S.size := by
      rw [← hLe]; unfold encB; rw [summed_len, bodyB_len, natsOf_len, e1]; simp; omega
    have hd : strN (dataN L) = S := by
      have : dataN L = natsOf S := by
        unfold dataN
        rw [hlen, ← hLe]
        simp [encB, summed, bodyB, e1, natsOf_len]
        rw [List.take_left' (by rw [natsOf_len]; omega)]
      rw [this, strN_nats]
    have := read_in b off cap L.length (L.getD 0 0) (L.getD 1 0) (L.getD 2 0) (L.getD 3 0) (L.getD 4 0) (L.getD 5 0) (strN (dataN L)) w (by omega) (by omega) (getD_lt hb 0) (getD_lt hb 1) (getD_lt hb 2) (getD_lt hb 3) (getD_lt hb 4)
        (row_get hc 0 (by omega)) (row_get hc 1 (by omega)) (row_get hc 2 (by omega)) (row_get hc 3 (by omega)) (row_get hc 4 (by omega)) (.inr ⟨by omega, by omega, getD_lt hb 5, row_get hc 5 (by omega), hcap, dataN_cv hc hbl (by omega)⟩)
    rw [hk.1, hk.2.1, hk.2.2.1, hk.2.2.2.1, hk.2.2.2.2.1, hk.2.2.2.2.2, hmm, hd] at this
    have e2 : (((k + 1 : Nat) : Int) - 1) = (k : Int) := by omega
    rw [e2] at this
    exact this

/-- A block that may be written. -/
def Fz (b : Nat) (w : World) : Prop := ∀ o, w.frozen? ⟨b, o, none⟩ = false
theorem Fz.below {b : Nat} {w w' : World} (h : Fz b w) (hb : Below w.heap.size w w') (hl : b < w.heap.size) : Fz b w' := fun o => (hb.frozen (p := ⟨b, o, none⟩) hl).trans (h o)
theorem Fz.new (w : World) (cs : Array Value) (t : TypeId) : Fz w.heap.size (w.alloc (.cells cs t)) := fun o => by simp

set_option maxRecDepth 100000 in
set_option maxHeartbeats 2000000 in
theorem decode_yes (a : Option Addr) (cap : Nat) (l : List Nat) (w : World) (hr : ByteRow w a l) (hcap : l.length ≤ cap) (node slot members link seq : Int) (S : ByteArray) (he : Enc l node slot members link seq S) :
    Calls Tryd.prog 37 #[.slice a l.length cap] w fun e w' => e = .returned (.tuple #[.agg #[.int .i64 node, .int .i64 slot, .int .i64 members, .int .i64 link, .int .i64 seq, .string S], .nilIface]) ∧ Below w.heap.size w w' := by
  obtain ⟨n, hn⟩ : ∃ n, l.length = n := ⟨_, rfl⟩
  have hV : Below w.heap.size w (w.alloc (.cells #[.int .i64 0, .int .i64 0, .int .i64 0, .int .i64 0, .int .i64 0, .string ⟨#[]⟩] 67)) := (Below.refl _ _).alloc (Nat.le_refl _) _
  have hC := box6 0 0 0 0 0 ⟨#[]⟩ w 67
  have hZ : Fz w.heap.size (w.alloc (.cells #[.int .i64 0, .int .i64 0, .int .i64 0, .int .i64 0, .int .i64 0, .string ⟨#[]⟩] 67)) := Fz.new _ _ _
  have HR : Hid (∀ u, Below w.heap.size w u → Calls Tryd.prog 58 #[.slice a n cap] u fun e w' => e = .returned (.agg #[.int .i64 node, .int .i64 slot, .int .i64 members, .int .i64 link, .int .i64 seq, .string S]) ∧ Below u.heap.size u w') := fun u hu => hn ▸ read_back a cap l u (hr.below hu) hcap node slot members link seq S he
  have HE : Hid (∀ u, Calls Tryd.prog 35 #[.agg #[.int .i64 node, .int .i64 slot, .int .i64 members, .int .i64 link, .int .i64 seq, .string S]] u fun e w' => ∃ v, e = .returned (.tuple #[v, .nilIface]) ∧ OwnB w' u.heap.size v l ∧ Below u.heap.size u w') := fun u => by
    have := encode_yes node slot members link seq S u he.1
    rwa [← he.2] at this
  have hl1 : 1 ≤ l.length := by have := encB_len he.1; rw [← he.2] at this; omega
  have HB : Hid (ByteRow w a l) := hr
  have HN : Hid (l.length = n) := hn
  clear hr he hcap
  rw [hn]
  clear hn
  go_enter Tryd.func37, Tryd.ntmps37
  go_wp2_with fail
  generalize w.alloc (.cells #[.int .i64 0, .int .i64 0, .int .i64 0, .int .i64 0, .int .i64 0, .string ⟨#[]⟩] 67) = V at hV hC hZ ⊢
  refine (HR.out _ hV).mono ?_
  rintro e w1 ⟨rfl, hb1⟩
  replace hV := below_on hV hb1
  replace hZ := hZ.below hb1 (cell_lt hC.1)
  replace hC := hC.below hb1
  clear hb1 HR
  have hF := box6 node slot members link seq S w1 67
  have hW : Below w1.heap.size w1 (w1.alloc (.cells #[.int .i64 node, .int .i64 slot, .int .i64 members, .int .i64 link, .int .i64 seq, .string S] 67)) := (Below.refl _ _).alloc (Nat.le_refl _) _
  replace hZ := hZ.below hW (cell_lt hC.1)
  replace hC := hC.below hW
  replace hV := below_on hV hW
  clear hW
  go_wp2_with fail
  generalize w1.alloc (.cells #[.int .i64 node, .int .i64 slot, .int .i64 members, .int .i64 link, .int .i64 seq, .string S] 67) = U at hV hC hF hZ ⊢
  refine (HE.out _).mono ?_
  rintro e w2 ⟨v, rfl, ho, hb2⟩
  replace hZ := hZ.below hb2 (cell_lt hC.1)
  replace hC := hC.below hb2
  replace hF := hF.below hb2
  replace hV := below_on hV hb2
  clear hb2 HE
  obtain ⟨g, c2, rfl, hg, hrow⟩ := ho.row hl1
  have c1 := conv_row hrow c2
  have c3 := conv_row (HB.out.below hV) cap
  rw [HN.out] at c1 c3 ⊢
  have HQ : Hid (∀ x y : Option Addr, x = some ⟨g, 0, none⟩ → y = a → Calls Tryd.prog 59 #[.slice x n c2, .slice y n cap] w2 fun e w' => e = .returned (.bool true) ∧ w' = w2) := fun x y hx hy => by
    subst hx hy
    have := equal_any _ _ n n c2 cap _ _ w2 c1 c3
    rwa [beq_self_eq_true] at this
  clear c1 c3 hrow ho
  go_wp2_with fail
  refine (HQ.out _ _ rfl rfl).mono ?_
  rintro e w3 ⟨rfl, rfl⟩
  obtain ⟨z0, z1, z2, z3, z4, z5⟩ := hC.below (Below.refl _ _)
  obtain ⟨f0, f1, f2, f3, f4, f5⟩ := hF.below (Below.refl _ _)
  have q0 := hZ 0
  have q1 := hZ 1
  have q2 := hZ 2
  have q3 := hZ 3
  have q4 := hZ 4
  have q5 := hZ 5
  go_wp2_with fail
  refine bodyPost_ret (v := .tuple #[.agg #[.int .i64 node, .int .i64 slot, .int .i64 members, .int .i64 link, .int .i64 seq, .string S], .nilIface]) (by simp [results, Tryd.results37, go_sem, z0, z1, z2, z3, z4, z5]) rfl ⟨rfl, ?_⟩
  exact (((((hV.setCell (Nat.le_refl _) _).setCell (Nat.le_refl _) _).setCell (Nat.le_refl _) _).setCell (Nat.le_refl _) _).setCell (Nat.le_refl _) _).setCell (Nat.le_refl _) _

set_option maxRecDepth 100000 in
set_option maxHeartbeats 2000000 in
theorem decode_no (a : Option Addr) (cap : Nat) (l : List Nat) (w : World) (hr : ByteRow w a l) (hb : ∀ c ∈ l, c < 256) (hcap : l.length ≤ cap) (hl : l.length ≤ 1000) (hno : ∀ node slot members link seq S, ¬ Enc l node slot members link seq S) :
    Calls Tryd.prog 37 #[.slice a l.length cap] w fun e w' => e = .returned (.tuple #[.agg #[.int .i64 0, .int .i64 0, .int .i64 0, .int .i64 0, .int .i64 0, .string ⟨#[]⟩], .iface 24 (.int .i64 3)]) ∧ Below w.heap.size w w' := by
  obtain ⟨n, hn⟩ : ∃ n, l.length = n := ⟨_, rfl⟩
  have hV : Below w.heap.size w (w.alloc (.cells #[.int .i64 0, .int .i64 0, .int .i64 0, .int .i64 0, .int .i64 0, .string ⟨#[]⟩] 67)) := (Below.refl _ _).alloc (Nat.le_refl _) _
  have hC := box6 0 0 0 0 0 ⟨#[]⟩ w 67
  have hZ : Fz w.heap.size (w.alloc (.cells #[.int .i64 0, .int .i64 0, .int .i64 0, .int .i64 0, .int .i64 0, .string ⟨#[]⟩] 67)) := Fz.new _ _ _
  obtain ⟨node, slot, members, link, seq, S, hS, hread⟩ := read_some a cap l _ (hr.below hV) hb hcap hl
  have HR : Hid (Calls Tryd.prog 58 #[.slice a l.length cap] (w.alloc (.cells #[.int .i64 0, .int .i64 0, .int .i64 0, .int .i64 0, .int .i64 0, .string ⟨#[]⟩] 67)) _) := hread
  have HB : Hid (ByteRow w a l) := hr
  have HN : Hid (l.length = n) := hn
  have HNO : Hid (¬ Enc l node slot members link seq S) := hno node slot members link seq S
  clear hread hr hno
  rw [hn] at HR ⊢
  clear hn
  go_enter Tryd.func37, Tryd.ntmps37
  go_wp2_with fail
  refine HR.out.mono ?_
  clear HR
  generalize w.alloc (.cells #[.int .i64 0, .int .i64 0, .int .i64 0, .int .i64 0, .int .i64 0, .string ⟨#[]⟩] 67) = V at hV hC hZ ⊢
  rintro e w1 ⟨rfl, hb1⟩
  replace hV := below_on hV hb1
  replace hZ := hZ.below hb1 (cell_lt hC.1)
  replace hC := hC.below hb1
  clear hb1
  have hF := box6 node slot members link seq S w1 67
  have hW : Below w1.heap.size w1 (w1.alloc (.cells #[.int .i64 node, .int .i64 slot, .int .i64 members, .int .i64 link, .int .i64 seq, .string S] 67)) := (Below.refl _ _).alloc (Nat.le_refl _) _
  replace hZ := hZ.below hW (cell_lt hC.1)
  replace hC := hC.below hW
  replace hV := below_on hV hW
  clear hW
  go_wp2_with fail
  generalize w1.alloc (.cells #[.int .i64 node, .int .i64 slot, .int .i64 members, .int .i64 link, .int .i64 seq, .string S] 67) = U at hV hC hF hZ ⊢
  clear hF
  by_cases hm : mayB node slot members link seq S.size = true
  · have hne : encB node slot members link seq S ≠ l := fun e => HNO.out ⟨hm, e.symm⟩
    have hlt := encB_lt hm
    have hl1 := (encB_len hm).1
    refine (encode_yes node slot members link seq S _ hm).mono ?_
    generalize encB node slot members link seq S = m at hne hlt hl1 ⊢
    clear hm
    rintro e w2 ⟨v, rfl, ho, hb2⟩
    replace hZ := hZ.below hb2 (cell_lt hC.1)
    replace hC := hC.below hb2
    replace hV := below_on hV hb2
    clear hb2
    obtain ⟨g, c2, rfl, hg, hrow⟩ := ho.row (by omega)
    have c1 := conv_row hrow c2
    have c3 := conv_row (HB.out.below hV) cap
    obtain ⟨k, hk⟩ : ∃ k, m.length = k := ⟨_, rfl⟩
    rw [HN.out] at c3
    rw [hk] at c1 ⊢
    have HQ : Hid (∀ x y : Option Addr, x = some ⟨g, 0, none⟩ → y = a → Calls Tryd.prog 59 #[.slice x k c2, .slice y n cap] w2 fun e w' => e = .returned (.bool false) ∧ w' = w2) := fun x y hx hy => by
      subst hx hy
      have := equal_any _ _ k n c2 cap _ _ w2 c1 c3
      rwa [toList_ne (fun e => hne (strN_inj hlt hb e))] at this
    clear c1 c3 hrow ho hk hl1 hlt hne
    go_wp2_with fail
    refine (HQ.out _ _ rfl rfl).mono ?_
    rintro e w3 ⟨rfl, rfl⟩
    obtain ⟨z0, z1, z2, z3, z4, z5⟩ := hC.below (Below.refl _ _)
    have q0 := hZ 0
    have q1 := hZ 1
    have q2 := hZ 2
    have q3 := hZ 3
    have q4 := hZ 4
    have q5 := hZ 5
    go_wp2_with fail
    refine bodyPost_ret (v := .tuple #[.agg #[.int .i64 0, .int .i64 0, .int .i64 0, .int .i64 0, .int .i64 0, .string ⟨#[]⟩], .iface 24 (.int .i64 3)]) (by simp [results, Tryd.results37, go_sem, z0, z1, z2, z3, z4, z5]) rfl ⟨rfl, ?_⟩
    exact (((((hV.setCell (Nat.le_refl _) _).setCell (Nat.le_refl _) _).setCell (Nat.le_refl _) _).setCell (Nat.le_refl _) _).setCell (Nat.le_refl _) _).setCell (Nat.le_refl _) _
  · refine (encode_no node slot members link seq S _ (by unfold maxLen; omega) (by simpa using hm)).mono ?_
    rintro e w2 ⟨rfl, hb2⟩
    replace hZ := hZ.below hb2 (cell_lt hC.1)
    replace hC := hC.below hb2
    replace hV := below_on hV hb2
    clear hb2 hm
    obtain ⟨z0, z1, z2, z3, z4, z5⟩ := hC.below (Below.refl _ _)
    have q0 := hZ 0
    have q1 := hZ 1
    have q2 := hZ 2
    have q3 := hZ 3
    have q4 := hZ 4
    have q5 := hZ 5
    go_wp2_with fail
    refine bodyPost_ret (v := .tuple #[.agg #[.int .i64 0, .int .i64 0, .int .i64 0, .int .i64 0, .int .i64 0, .string ⟨#[]⟩], .iface 24 (.int .i64 3)]) (by simp [results, Tryd.results37, go_sem, z0, z1, z2, z3, z4, z5]) rfl ⟨rfl, ?_⟩
    exact (((((hV.setCell (Nat.le_refl _) _).setCell (Nat.le_refl _) _).setCell (Nat.le_refl _) _).setCell (Nat.le_refl _) _).setCell (Nat.le_refl _) _).setCell (Nat.le_refl _) _
end Go.Proofs.YtdboppcnnjacmaaDoor
