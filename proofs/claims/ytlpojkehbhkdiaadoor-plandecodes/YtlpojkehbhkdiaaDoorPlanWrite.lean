/- The program's write: numbers' bytes are put behind a row of one's own. -/
import Derived.Test.YtlpojkehbhkdiaaDoorPlanSteps
import Derived.Test.YtlpojkehbhkdiaaDoorNumBytes
import Derived.Maps.AppendAt
namespace Go.Proofs.YtlpojkehbhkdiaaDoor
open Go.RowKit

theorem grown_cell {w w' : World} {row : Option Nat} (h : w.grownBy w' row) {a : Addr} {v : Value} (hc : w.cell? a = some v) (hr : row ≠ some a.block) : w'.cell? a = some v :=
  (World.cell?_of_block (w := w) (h.block a.block (lt_of_cell hc) (fun e => hr e.symm))).trans hc

set_option maxRecDepth 100000 in
set_option maxHeartbeats 4000000 in
theorem write_any (base : Nat) (v0 : Value) (xs : List Int) (b cap : Nat) (L : List Int) (w : World) (hown : w.ownsRow base 5 1 v0 xs.length (xs.map (Value.int .u8)))
    (hc : ∀ j (h : j < L.length), w.cell? ⟨b, j, none⟩ = some (.int .i64 L[j])) (hL : ∀ x ∈ L, 0 ≤ x ∧ x ≤ 1099511627776) (hb : v0.ownBlock ≠ some b) (hbase : base ≤ w.heap.size) (hlen : xs.length ≤ 10000) (hLl : L.length ≤ 100) :
    Calls Tryd.prog 24 #[v0, .slice (some ⟨b, 0, none⟩) L.length cap] w fun ev w' => ∃ v', ev = .returned v' ∧ w'.ownsRow base 5 1 v' (xs ++ bytesTo L L.length).length ((xs ++ bytesTo L L.length).map (Value.int .u8)) ∧ Below base w w' ∧ w.heap.size ≤ w'.heap.size := by
  obtain ⟨i1, hj, hy0, hy1, hy2⟩ := info_parts Tryd.infoByte
  have HC : Hid (∀ j (h : j < L.length), w.cell? ⟨b, j, none⟩ = some (.int .i64 L[j])) := hc
  have HL : Hid (∀ x ∈ L, 0 ≤ x ∧ x ≤ 1099511627776) := hL
  clear hc hL
  obtain ⟨n, hn⟩ : ∃ n, L.length = n := ⟨_, rfl⟩
  rw [hn] at hLl
  have HN : Hid (L.length = n) := hn
  rw [hn]
  clear hn
  go_enter Tryd.func24, Tryd.ntmps24
  go_wp2
  go_loopw [0, 9] (fun v t wr => ∃ k : Nat, k ≤ n ∧ t = .int .i64 k ∧ Hid (wr.ownsRow base 5 1 v (xs ++ bytesTo L k).length ((xs ++ bytesTo L k).map (Value.int .u8))) ∧ Hid (v.ownBlock ≠ some b) ∧ Hid (∀ j (h : j < L.length), wr.cell? ⟨b, j, none⟩ = some (.int .i64 L[j])) ∧ Below base w wr) (fun _ t _ => n - (intOf t).toNat)
  case atStart => exact ⟨0, Nat.zero_le _, rfl, by simpa [bytesTo, Hid] using hown, hb, HC.out, Below.refl _ _⟩
  case round =>
    obtain ⟨k, hk, rfl, ho, hbk, hcc, hbe⟩ := hrel
    by_cases hlt : k < n
    · have hkL : k < L.length := by rw [HN.out]; exact hlt
      obtain ⟨x, hx⟩ : ∃ x, x = L[k] := ⟨_, rfl⟩
      have hxb := HL.out x (by rw [hx]; exact List.getElem_mem hkL)
      have y0 : wr.cell? ⟨b, k, none⟩ = some (.int .i64 x) := by rw [hx]; exact hcc.out k hkL
      obtain ⟨m, hm⟩ := Int.eq_ofNat_of_zero_le hxb.1
      have hm2 : m ≤ 1099511627776 := by omega
      have hm3 : (L[k]).toNat = m := by omega
      have HM : Hid ((L[k]).toNat = m) := hm3
      subst hm
      clear hx hm3 hxb
      have hwr : b < wr.heap.size := lt_of_cell y0
      go_wp2_with fail
      rename World => wq
      go_loopw [0, 6] (fun v t wv => ∃ (j q : Nat) (dn : List Int), j ≤ 5 ∧ Hid (q < 128 ^ (j + 1)) ∧ q ≤ 1099511627776 ∧ t = .int .i64 q ∧ Hid (dn ++ numB j q = numB 5 m) ∧ Hid (wv.ownsRow base 5 1 v ((xs ++ bytesTo L k) ++ dn).length (((xs ++ bytesTo L k) ++ dn).map (Value.int .u8))) ∧ Hid (v.ownBlock ≠ some b) ∧ Hid (∀ j (h : j < L.length), wv.cell? ⟨b, j, none⟩ = some (.int .i64 L[j])) ∧ Below base w wv) (fun _ t _ => (intOf t).toNat)
      case atStart => exact ⟨5, m, [], by omega, (by show m < 128 ^ 6; omega), hm2, rfl, rfl, by simpa using ho, hbk, hcc, hbe⟩
      case round =>
        clear ho hbk hcc hbe y0 hwr
        obtain ⟨j, q, dn, hj5, hq1, hq2, rfl, hdn, ho, hbk, hcc, hbe⟩ := hrel
        by_cases hbig : 128 ≤ q
        · have h1 : (128 : Int) ≤ (q : Int) := by omega
          have h2 : (q : Int) ≤ 1099511627776 := by omega
          have hjp : 1 ≤ j := by
            rcases Nat.eq_zero_or_pos j with e | e
            · subst e; have := hq1.out; simp at this; omega
            · exact e
          obtain ⟨j', rfl⟩ : ∃ j', j = j' + 1 := ⟨j - 1, by omega⟩
          have HNB : Hid (numB (j' + 1) q = ((q % 128 : Nat) + 128 : Int) :: numB j' (q / 128)) := by
            show _ = _
            simp only [numB]; rw [if_neg (by omega)]
          have hQ : Hid (q / 128 < 128 ^ (j' + 1)) := by
            show _ < _
            rw [Nat.div_lt_iff_lt_mul (by decide)]; have := hq1.out; rw [Nat.pow_succ] at this; exact this
          have hbl : b < wr.heap.size := lt_of_cell (hcc.out k hkL)
          have HLA : Hid (((xs ++ bytesTo L k) ++ dn).length ≤ 11000) := by
            show _ ≤ _
            have l1 := bytesTo_len L k (by omega)
            have l2 := congrArg List.length hdn.out
            have l3 := numB_len 5 m
            have l4 := HN.out
            simp at l2 ⊢
            omega
          have hbs : base ≤ wr.heap.size := by have := hbe.size; omega
          have hownA := owns_below ho.out ((Below.refl wr.heap.size wr).alloc (Nat.le_refl _) (.cells #[.int .u8 ((q : Int) % 128 + 128)] 5))
          have HO : Hid (World.ownsRow _ _ _ _ _ _ _) := hownA
          clear hownA
          go_wp2_with (at_builtin; refine wpList_append_own_at _ rfl _ _ 36 rfl base 5 i1 (.int .u8 0) 1 1 Tryd.underlying36 hj hy0 hy1 hy2 rfl (by decide) u0 _ _ rfl HO.out ⟨wr.heap.size, 0, none⟩ 1 1 [.int .u8 ((q : Int) % 128 + 128)] rfl rfl (cell_one_new _ _ _) (fun u hu => by simp at hu; subst hu; rfl) (by have := HLA.out; unfold maxLen; omega) (by have := HLA.out; omega) (by simp; omega) ?_; intro v' w2 hown' hgrow hnil hblk)
          have hb4 : Below base w w2 := (hbe.alloc hbs _).grown hgrow (by simp; omega) (fun z hz => (HO.out.lt z hz).1)
          have hcc4 : Hid (∀ j (h : j < L.length), w2.cell? ⟨b, j, none⟩ = some (.int .i64 L[j])) := fun j h => grown_cell hgrow (by rw [World.cell?_alloc_lt _ _ _ hbl]; exact hcc.out j h) hbk.out
          have hbk4 : Hid (v'.ownBlock ≠ some b) := by
            show _ ≠ _
            rcases hblk with h | h
            · rw [h]; exact hbk.out
            · rw [h]; simp; omega
          have ho4 : Hid (w2.ownsRow base 5 1 v' ((xs ++ bytesTo L k) ++ (dn ++ [((q % 128 : Nat) + 128 : Int)])).length (((xs ++ bytesTo L k) ++ (dn ++ [((q % 128 : Nat) + 128 : Int)])).map (Value.int .u8))) := by
            show World.ownsRow _ _ _ _ _ _ _
            have e3 : (((q % 128 : Nat) : Int) + 128) = (q : Int) % 128 + 128 := by omega
            rw [← List.append_assoc, List.length_append, List.map_append, e3]
            exact hown'
          have hdn4 : Hid ((dn ++ [((q % 128 : Nat) + 128 : Int)]) ++ numB j' (q / 128) = numB 5 m) := by
            show _ = _
            rw [← hdn.out, HNB.out]; simp
          clear hown' hgrow hnil hblk HO ho hbk hcc hbe hdn
          go_wp2
          go_roundw
          case rel => exact ⟨j', q / 128, _, by omega, hQ, by omega, by simp, hdn4, ho4, hbk4, hcc4, hb4⟩
          case measure => simp [intOf]; omega
        · have h1 : decide ((128 : Int) ≤ (q : Int)) = false := decide_eq_false (by omega)
          have h2 : (q : Int) < 128 := by omega
          have HNB : Hid (numB j q = [(q : Int)]) := by
            show _ = _
            cases j with
            | zero => simp only [numB]
            | succ j => simp only [numB]; rw [if_pos (by omega)]
          clear hbig
          have hbl : b < wr.heap.size := lt_of_cell (hcc.out k hkL)
          have HLA : Hid (((xs ++ bytesTo L k) ++ dn).length ≤ 11000) := by
            show _ ≤ _
            have l1 := bytesTo_len L k (by omega)
            have l2 := congrArg List.length hdn.out
            have l3 := numB_len 5 m
            have l4 := HN.out
            simp at l2 ⊢
            omega
          have hbs : base ≤ wr.heap.size := by have := hbe.size; omega
          have hownA := owns_below ho.out ((Below.refl wr.heap.size wr).alloc (Nat.le_refl _) (.cells #[.int .u8 (q : Int)] 5))
          have HO : Hid (World.ownsRow _ _ _ _ _ _ _) := hownA
          clear hownA
          go_wp2_with (at_builtin; refine wpList_append_own_at _ rfl _ _ 36 rfl base 5 i1 (.int .u8 0) 1 1 Tryd.underlying36 hj hy0 hy1 hy2 rfl (by decide) u0 _ _ rfl HO.out ⟨wr.heap.size, 0, none⟩ 1 1 [.int .u8 (q : Int)] rfl rfl (cell_one_new _ _ _) (fun u hu => by simp at hu; subst hu; rfl) (by have := HLA.out; unfold maxLen; omega) (by have := HLA.out; omega) (by simp; omega) ?_; intro v' w2 hown' hgrow hnil hblk)
          have hb4 : Below base w w2 := (hbe.alloc hbs _).grown hgrow (by simp; omega) (fun z hz => (HO.out.lt z hz).1)
          have hcc4 : Hid (∀ j (h : j < L.length), w2.cell? ⟨b, j, none⟩ = some (.int .i64 L[j])) := fun j h => grown_cell hgrow (by rw [World.cell?_alloc_lt _ _ _ hbl]; exact hcc.out j h) hbk.out
          have hbk4 : Hid (v'.ownBlock ≠ some b) := by
            show _ ≠ _
            rcases hblk with h | h
            · rw [h]; exact hbk.out
            · rw [h]; simp; omega
          have ho4 : Hid (w2.ownsRow base 5 1 v' (xs ++ bytesTo L (k + 1)).length ((xs ++ bytesTo L (k + 1)).map (Value.int .u8))) := by
            show World.ownsRow _ _ _ _ _ _ _
            have e4 : xs ++ bytesTo L (k + 1) = ((xs ++ bytesTo L k) ++ dn) ++ [(q : Int)] := by
              rw [bytesTo_succ L k hkL, HM.out, ← hdn.out, HNB.out]; simp
            rw [e4, List.length_append, List.map_append]
            exact hown'
          clear hown' hgrow hnil hblk HO ho hbk hcc hbe hdn
          go_wp2
          go_roundw
          case rel => exact ⟨k + 1, by omega, by go_num, ho4, hbk4, hcc4, hb4⟩
          case measure => simp [intOf]; omega
    · have hkn : k = n := by omega
      subst hkn
      go_wp2
      go_ret
      exact ⟨_, rfl, ho.out, hbe, hbe.size⟩

/-- The bytes of some numbers. -/
def bytesOf (L : List Int) : List Int := L.flatMap fun x => numB 5 x.toNat
theorem bytesTo_all (L : List Int) : bytesTo L L.length = bytesOf L := by simp [bytesTo, bytesOf]
theorem bytesOf_append (A B : List Int) : bytesOf (A ++ B) = bytesOf A ++ bytesOf B := by simp [bytesOf]
theorem bytesOf_len (L : List Int) : (bytesOf L).length ≤ 6 * L.length := by rw [← bytesTo_all]; exact bytesTo_len L _ (Nat.le_refl _)

/-- write, where the numbers have just been laid. -/
theorem write_new (base : Nat) (v0 : Value) (xs L : List Int) (cur : Array Value) (cap : Nat) (u : World) (H : Nat) (hH : u.heap.size = H) (hcur : cur.toList = L.map (Value.int .i64)) (hown : u.ownsRow base 5 1 v0 xs.length (xs.map (Value.int .u8))) (hbase : base ≤ u.heap.size)
    (hL : ∀ x ∈ L, 0 ≤ x ∧ x ≤ 1099511627776) (hlen : xs.length ≤ 10000) (hLl : L.length ≤ 100) :
    Calls Tryd.prog 24 #[v0, .slice (some ⟨H, 0, none⟩) L.length cap] (u.alloc (.cells cur 3)) fun ev w' => ∃ v', ev = .returned v' ∧ w'.ownsRow base 5 1 v' (xs ++ bytesOf L).length ((xs ++ bytesOf L).map (Value.int .u8)) ∧ Below base u w' ∧ u.heap.size < w'.heap.size := by
  subst hH
  refine (write_any base v0 xs u.heap.size cap L (u.alloc (.cells cur 3)) (owns_below hown ((Below.refl _ _).alloc (Nat.le_refl _) _)) (fun j h => ?_) hL (fun e => ?_) (by simp; omega) hlen hLl).mono ?_
  · have := row_cells u cur 3 j (.int .i64 L[j]) (by rw [hcur]; simp [h])
    simpa only [add_plain, Nat.zero_add] using this
  · have := (hown.lt _ e).2
    omega
  · rintro ev w' ⟨v', h1, h2, h3, h4⟩
    rw [bytesTo_all] at h2
    simp at h4
    exact ⟨v', h1, h2, ((Below.refl _ _).alloc hbase _).trans h3, by omega⟩
end Go.Proofs.YtlpojkehbhkdiaaDoor
