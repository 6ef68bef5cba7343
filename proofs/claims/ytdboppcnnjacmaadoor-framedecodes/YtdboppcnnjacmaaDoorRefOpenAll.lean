/- The document's answer's Open of seven or eight bytes that tell of a message: none. -/
import Derived.Test.YtdboppcnnjacmaaDoorRefOpen
namespace Go.Proofs.YtdboppcnnjacmaaDoor
open Go.RowKit Go.Lib

set_option maxRecDepth 100000 in
set_option maxHeartbeats 4000000 in
theorem open_nine (b off cap n : Nat) (l0 l1 l2 l3 l4 : Nat) (w : World) (h7 : 7 ≤ n) (hn : n < 9) (q0 : l0 < 256) (q1 : l1 < 256) (q2 : l2 < 256) (q3 : l3 < 256) (q4 : l4 < 256)
    (y0 : w.cell? ⟨b, off + 0, none⟩ = some (.int .u8 l0)) (y1 : w.cell? ⟨b, off + 1, none⟩ = some (.int .u8 l1)) (y2 : w.cell? ⟨b, off + 2, none⟩ = some (.int .u8 l2)) (y3 : w.cell? ⟨b, off + 3, none⟩ = some (.int .u8 l3)) (y4 : w.cell? ⟨b, off + 4, none⟩ = some (.int .u8 l4))
    (h : 1 ≤ l4) :
    Calls Tryd.prog 36 #[.slice (some ⟨b, off, none⟩) n cap] w (OpenNo w) := by
  have hor : (l2 : Int) * 256 + (l3 : Int) = ((l2 * 256 + l3 : Nat) : Int) := by omega
  generalize l2 * 256 + l3 = mm at hor
  obtain ⟨V, hVe⟩ : ∃ V, V = w.alloc (.cells #[.int .i64 0, .int .i64 0, .int .i64 0, .int .i64 0, .int .i64 0, .string ⟨#[]⟩] 69) := ⟨_, rfl⟩
  have hV : Below w.heap.size w V := by rw [hVe]; exact (Below.refl _ _).alloc (Nat.le_refl _) _
  have e1 : decide ((n : Int) < 7) = false := decide_eq_false (by omega)
  have k0 : (l0 : Int) < 256 := by omega
  have k1 : (l1 : Int) < 256 := by omega
  have k2 : (l2 : Int) < 256 := by omega
  have k3 : (l3 : Int) < 256 := by omega
  have k4 : (l4 : Int) < 256 := by omega
  have y0' := cell_keep y0 hV
  have y1' := cell_keep y1 hV
  have y2' := cell_keep y2 hV
  have y3' := cell_keep y3 hV
  have y4' := cell_keep y4 hV
  have hbl := cell_lt y0
  simp only [Nat.add_zero] at y0'
  have HVE : Hid (V = w.alloc (.cells #[.int .i64 0, .int .i64 0, .int .i64 0, .int .i64 0, .int .i64 0, .string ⟨#[]⟩] 69)) := hVe
  have e3 : (1 : Int) ≤ (l4 : Int) := by omega
  have e4 : (n : Int) < 9 := by omega
  clear y0 y1 y2 y3 y4 hVe
  go_enter Tryd.func36, Tryd.ntmps36
  go_wp2_with fail
  rw [← HVE.out]
  have hbV : b < V.heap.size := cell_lt y0'
  go_region
  clear y0' y1' y2' y3' y4' hbV hor
  obtain rfl := HVE.out
  clear HVE
  go_wp2_with fail
  exact bodyPost_ret (v := .tuple #[.agg #[.int .i64 0, .int .i64 0, .int .i64 0, .int .i64 0, .int .i64 0, .string ⟨#[]⟩], .int .i64 3]) (by simp [results, Tryd.results36, go_sem]) rfl ⟨rfl, (((Below.refl _ _).alloc (Nat.le_refl _) _).alloc (by simp) _).drew⟩

/-- Open of a frame's bytes: that frame. -/
theorem open_yes (a : Option Addr) (cap : Nat) (l : List Nat) (w : World) (hr : ByteRow w a l) (hcap : l.length ≤ cap) (node slot members link seq : Int) (S : ByteArray) (he : Enc l node slot members link seq S) :
    Calls Tryd.prog 36 #[.slice a l.length cap] w fun e w' => e = .returned (.tuple #[.agg #[.int .i64 node, .int .i64 slot, .int .i64 members, .int .i64 link, .int .i64 seq, .string S], .int .i64 0]) ∧ Below w.heap.size w w' := by
  have he2 := he
  obtain ⟨hm, rfl⟩ := he
  have hL := encB_len hm
  have hb := encB_lt hm
  obtain ⟨g1, g2, g3, g4⟩ := mayB_true hm
  obtain ⟨n, rfl⟩ := Int.eq_ofNat_of_zero_le g1.1
  obtain ⟨s, rfl⟩ := Int.eq_ofNat_of_zero_le g2.1
  obtain ⟨m, rfl⟩ := Int.eq_ofNat_of_zero_le g3.1
  obtain ⟨b, off, rfl, hbl, hc⟩ := hr (by omega)
  generalize hLe : encB n s m link seq S = L at *
  have hmm : m / 256 * 256 + m % 256 = m := by omega
  rcases g4 with ⟨rfl, rfl, h0⟩ | ⟨g4, g5, g6⟩
  · obtain rfl : S = ⟨#[]⟩ := ByteArray.size_eq_zero_iff.mp h0
    have hk : L.getD 0 0 = n ∧ L.getD 1 0 = s ∧ L.getD 2 0 = m / 256 ∧ L.getD 3 0 = m % 256 ∧ L.getD 4 0 = 0 := by
      rw [← hLe]; simp [encB, summed, bodyB]
    have := open_in b off cap L.length (L.getD 0 0) (L.getD 1 0) (L.getD 2 0) (L.getD 3 0) (L.getD 4 0) 0 ⟨#[]⟩ L w rfl hb hr (by omega) (by omega) (getD_lt hb 0) (getD_lt hb 1) (getD_lt hb 2) (getD_lt hb 3) (getD_lt hb 4) (Nat.zero_le _)
        (row_get hc 0 (by omega)) (row_get hc 1 (by omega)) (row_get hc 2 (by omega)) (row_get hc 3 (by omega)) (row_get hc 4 (by omega)) (.inl ⟨hk.2.2.2.2, rfl, rfl⟩)
    rw [hk.1, hk.2.1, hk.2.2.1, hk.2.2.2.1, hk.2.2.2.2, hmm] at this
    exact this.mono fun e w' h => h.1 he2
  · obtain ⟨k, rfl⟩ := Int.eq_ofNat_of_zero_le g4.1
    obtain ⟨q, rfl⟩ := Int.eq_ofNat_of_zero_le g5.1
    have e1 : ((k : Int) + 1).toNat = k + 1 := by omega
    have hk : L.getD 0 0 = n ∧ L.getD 1 0 = s ∧ L.getD 2 0 = m / 256 ∧ L.getD 3 0 = m % 256 ∧ L.getD 4 0 = k + 1 ∧ L.getD 5 0 = q := by
      rw [← hLe]; simp [encB, summed, bodyB, e1]
    have hlen : L.length = 9 + S.size := by
      rw [← hLe]; unfold encB; rw [summed_len, bodyB_len, natsOf_len, e1]; simp; omega
    have hd : strN (dataN L) = S := by
      have : dataN L = natsOf S := by
        unfold dataN
        rw [hlen, ← hLe]
        simp [encB, summed, bodyB, e1, natsOf_len]
        rw [List.take_left' (by rw [natsOf_len]; omega)]
      rw [this, strN_nats]
    have := open_in b off cap L.length (L.getD 0 0) (L.getD 1 0) (L.getD 2 0) (L.getD 3 0) (L.getD 4 0) (L.getD 5 0) (strN (dataN L)) L w rfl hb hr (by omega) (by omega) (getD_lt hb 0) (getD_lt hb 1) (getD_lt hb 2) (getD_lt hb 3) (getD_lt hb 4) (by rw [hd]; omega)
        (row_get hc 0 (by omega)) (row_get hc 1 (by omega)) (row_get hc 2 (by omega)) (row_get hc 3 (by omega)) (row_get hc 4 (by omega)) (.inr ⟨by omega, by omega, getD_lt hb 5, row_get hc 5 (by omega), hcap, dataN_cv hc hbl (by omega)⟩)
    rw [hk.1, hk.2.1, hk.2.2.1, hk.2.2.2.1, hk.2.2.2.2.1, hk.2.2.2.2.2, hmm, hd] at this
    have e2 : (((k + 1 : Nat) : Int) - 1) = (k : Int) := by omega
    rw [e2] at this
    exact this.mono fun e w' h => h.1 he2

/-- Open of bytes that are no frame's. -/
theorem open_no (a : Option Addr) (cap : Nat) (l : List Nat) (w : World) (hr : ByteRow w a l) (hb : ∀ c ∈ l, c < 256) (hcap : l.length ≤ cap) (hl : l.length ≤ 200) (hno : ∀ node slot members link seq S, ¬ Enc l node slot members link seq S) :
    Calls Tryd.prog 36 #[.slice a l.length cap] w (OpenNo w) := by
  by_cases hn : l.length < 7
  · exact open_short a cap l.length w hn
  · obtain ⟨b, off, rfl, hbl, hc⟩ := hr (by omega)
    by_cases h4 : l.getD 4 0 = 0
    · have := open_in b off cap l.length (l.getD 0 0) (l.getD 1 0) (l.getD 2 0) (l.getD 3 0) (l.getD 4 0) 0 ⟨#[]⟩ l w rfl hb hr (by omega) (by omega) (getD_lt hb 0) (getD_lt hb 1) (getD_lt hb 2) (getD_lt hb 3) (getD_lt hb 4) (Nat.zero_le _)
        (row_get hc 0 (by omega)) (row_get hc 1 (by omega)) (row_get hc 2 (by omega)) (row_get hc 3 (by omega)) (row_get hc 4 (by omega)) (.inl ⟨h4, rfl, rfl⟩)
      exact this.mono fun e w' h => h.2 (hno _ _ _ _ _ _)
    · by_cases h9 : l.length < 9
      · exact open_nine b off cap l.length (l.getD 0 0) (l.getD 1 0) (l.getD 2 0) (l.getD 3 0) (l.getD 4 0) w (by omega) h9 (getD_lt hb 0) (getD_lt hb 1) (getD_lt hb 2) (getD_lt hb 3) (getD_lt hb 4)
          (row_get hc 0 (by omega)) (row_get hc 1 (by omega)) (row_get hc 2 (by omega)) (row_get hc 3 (by omega)) (row_get hc 4 (by omega)) (by omega)
      · have := open_in b off cap l.length (l.getD 0 0) (l.getD 1 0) (l.getD 2 0) (l.getD 3 0) (l.getD 4 0) (l.getD 5 0) (strN (dataN l)) l w rfl hb hr (by omega) (by omega) (getD_lt hb 0) (getD_lt hb 1) (getD_lt hb 2) (getD_lt hb 3) (getD_lt hb 4) (by rw [strN_size]; simp [dataN]; omega)
          (row_get hc 0 (by omega)) (row_get hc 1 (by omega)) (row_get hc 2 (by omega)) (row_get hc 3 (by omega)) (row_get hc 4 (by omega)) (.inr ⟨by omega, by omega, getD_lt hb 5, row_get hc 5 (by omega), hcap, dataN_cv hc hbl (by omega)⟩)
        exact this.mono fun e w' h => h.2 (hno _ _ _ _ _ _)
end Go.Proofs.YtdboppcnnjacmaaDoor
