/- The document's answer's numbers: all that bytes are, one behind the other, or that they are none. -/
import Derived.Test.YtlpojkehbhkdiaaDoorSteps
import Derived.Test.YtlpojkehbhkdiaaDoorRefScan
import Derived.Test.YtlpojkehbhkdiaaDoorRefNumber
import Derived.Test.YtlpojkehbhkdiaaDoorStrIs
import Derived.Deep.RegionHeld3
import Derived.Maps.AppendAt
namespace Go.Proofs.YtlpojkehbhkdiaaDoor
open Go.RowKit

theorem str_inj {xs ys : List Int} (hx : ∀ b ∈ xs, 0 ≤ b ∧ b < 256) (hy : ∀ b ∈ ys, 0 ≤ b ∧ b < 256) (h1 : (strOfNums xs).data.toList = (strOfNums ys).data.toList) : xs = ys := by
  rw [strOfNums_data, strOfNums_data] at h1
  have hl : xs.length = ys.length := by simpa using congrArg List.length h1
  refine List.ext_getElem hl fun i hi hj => ?_
  have e := congrArg (fun l : List UInt8 => l[i]?) h1
  simp [hi, hj] at e
  have a := hx xs[i] (List.getElem_mem hi)
  have b := hy ys[i] (List.getElem_mem hj)
  have e2 := congrArg UInt8.toNat e
  simp [UInt8.toNat_ofNat'] at e2
  omega
theorem str_ne {xs ys : List Int} (hx : ∀ b ∈ xs, 0 ≤ b ∧ b < 256) (hy : ∀ b ∈ ys, 0 ≤ b ∧ b < 256) (h : xs ≠ ys) : ((strOfNums xs).toList == (strOfNums ys).toList) = false := by
  rw [beq_eq_false_iff_ne]
  intro e
  rw [ByteArray.toList_eq, ByteArray.toList_eq] at e
  exact h (str_inj hx hy e)
def lenOf : Value → Nat
  | .slice _ n _ => n
  | _ => 0
/-- What numbers answers. -/
def NumsAre (w w' : World) (bs : List Int) (ev : Ending) : Prop :=
  (∃ m, m ≤ bs.length ∧ stAt (some bs) m = some [] ∧ ∃ v, ev = .returned (.tuple #[v, .bool true]) ∧ w'.ownsRow w.heap.size 3 1 v m (((List.range m).map (nth (some bs))).map (Value.int .i64))) ∨
  ((∃ m r, stAt (some bs) m = some r ∧ r ≠ [] ∧ rd r = none) ∧ ev = .returned (.tuple #[.slice none 0 0, .bool false]))

set_option maxRecDepth 100000 in
set_option maxHeartbeats 4000000 in
theorem numbers_some (b off cap : Nat) (bs : List Int) (w : World) (hb : b < w.heap.size) (hr : ∀ j (h : j < bs.length), w.cell? ⟨b, off + j, none⟩ = some (.int .u8 bs[j])) (hby : ∀ x ∈ bs, 0 ≤ x ∧ x < 256) (hcap : bs.length ≤ cap) (hlen : bs.length ≤ 3000) (h0 : 0 < bs.length) :
    Calls Tryd.prog 25 #[.slice (some ⟨b, off, none⟩) bs.length cap] w fun ev w' => NumsAre w w' bs ev ∧ Below w.heap.size w w' := by
  have HR : Hid (∀ j (h : j < bs.length), w.cell? ⟨b, off + j, none⟩ = some (.int .u8 bs[j])) := hr
  have HBY : Hid (∀ x ∈ bs, 0 ≤ x ∧ x < 256) := hby
  clear hr hby
  obtain ⟨i0, hi, hz0, hz1, hz2⟩ := info_parts Tryd.infoInt
  go_enter Tryd.func25, Tryd.ntmps25
  go_wp2_with fail
  go_loopw [0, 4] (fun t0 t4 wr => ∃ (m p : Nat) (r : List Int) (a' : Option Addr) (cap' : Nat), t0 = .slice a' r.length cap' ∧ r.length ≤ cap' ∧ p + r.length = bs.length ∧ m ≤ p ∧ Hid (bs.drop p = r) ∧ Hid (stAt (some bs) m = some r) ∧ Hid (0 < r.length → a' = some ⟨b, off + p, none⟩) ∧ Hid (wr.ownsRow w.heap.size 3 1 t4 m (((List.range m).map (nth (some bs))).map (Value.int .i64))) ∧ Below w.heap.size w wr) (fun t0 _ _ => lenOf t0)
  case atStart => exact ⟨0, 0, bs, _, _, rfl, hcap, by omega, Nat.le_refl _, rfl, rfl, fun _ => rfl, World.ownsRow_nil _ _ _ _, Below.refl _ _⟩
  case round =>
    obtain ⟨m, p, r, a', cap', rfl, hc', hp, hmp, hdr, hst, ha, ho, hbe⟩ := hrel
    obtain ⟨n, hn⟩ : ∃ n, r.length = n := ⟨_, rfl⟩
    have HN : Hid (r.length = n) := hn
    rw [hn] at hc' hp
    rw [hn]
    rcases Nat.eq_zero_or_pos n with hz | hz
    · subst hz
      have hrr : r = [] := List.length_eq_zero_iff.1 hn
      clear hn
      go_wp2
      go_ret2
      exact ⟨.inl ⟨m, by omega, by rw [← hrr]; exact hst.out, _, rfl, ho.out⟩, hbe⟩
    · obtain rfl := ha.out (by rw [hn]; exact hz)
      clear hn ha
      have hz' : (0 : Int) < (n : Int) := by omega
      have hbr : b < wr.heap.size := Nat.lt_of_lt_of_le hb hbe.size
      have HC : Hid (∀ j (h : j < r.length), wr.cell? ⟨b, off + p + j, none⟩ = some (.int .u8 r[j])) := fun j h => by
        have h' : p + j < bs.length := by have := HN.out; omega
        have e : r[j] = bs[p + j] := by have := hdr.out; subst this; rw [List.getElem_drop]
        rw [e, Nat.add_assoc]
        exact (hbe.cell hb).trans (HR.out (p + j) h')
      have HB2 : Hid (∀ x ∈ r, 0 ≤ x ∧ x < 256) := fun x hx => HBY.out x (by have := hdr.out; subst this; exact List.mem_of_mem_drop hx)
      go_wp2_with fail
      rename World => wq
      go_loopw [5, 6, 7] (fun t5 t6 t7 wv => ∃ k : Nat, k ≤ 6 ∧ k ≤ n ∧ t5 = .int .i64 (val r k) ∧ t6 = .int .i64 (128 ^ k) ∧ t7 = .int .i64 k ∧ Hid (goesOn r k) ∧ wv = wq) (fun _ _ t7 _ => 6 - (intOf t7).toNat)
      case atStart => exact ⟨0, by omega, by omega, rfl, rfl, rfl, fun j hj => absurd hj (Nat.not_lt_zero _), rfl⟩
      case round =>
        obtain ⟨k, hk6, hkn, rfl, rfl, rfl, hgo, rfl⟩ := hrel
        have hbad : Hid ((k = n ∨ k = 6) → ∃ m r, stAt (some bs) m = some r ∧ r ≠ [] ∧ rd r = none) := fun h => ⟨m, r, hst.out, by rintro rfl; have := HN.out; simp at this; omega, scan_out HB2.out hgo.out (by have := HN.out; omega)⟩
        by_cases c1 : k = n
        · have q1 : ((k : Int) == (n : Int)) = true := by rw [c1]; simp
          have HX := hbad.out (.inl c1)
          have HXX : Hid (∃ m r, stAt (some bs) m = some r ∧ r ≠ [] ∧ rd r = none) := HX
          clear c1 HX
          go_wp2
          go_ret2
          exact ⟨.inr ⟨HXX.out, rfl⟩, hbe⟩
        · have q1 : ((k : Int) == (n : Int)) = false := by simp; omega
          by_cases c2 : k = 6
          · have q2 : ((k : Int) == 6) = true := by rw [c2]; simp
            have HXX : Hid (∃ m r, stAt (some bs) m = some r ∧ r ≠ [] ∧ rd r = none) := hbad.out (.inr c2)
            clear c2 c1
            go_wp2
            go_ret2
            exact ⟨.inr ⟨HXX.out, rfl⟩, hbe⟩
          · have q2 : ((k : Int) == 6) = false := by simp; omega
            have hkr : k < r.length := by rw [HN.out]; omega
            have hk5 : k < 6 := by omega
            have hlt : (k : Int) < (n : Int) := by omega
            obtain ⟨x, hx⟩ : ∃ x, r[k] = x := ⟨_, rfl⟩
            have y0 := HC.out k hkr
            rw [hx] at y0
            have hxb := HB2.out x (by rw [← hx]; exact List.getElem_mem hkr)
            have hx0 := hxb.1
            have hx1 := hxb.2
            have hgd : r.getD k 0 = x := by simp [hkr, hx]
            have HGD : Hid (r.getD k 0 = x) := hgd
            have hp128 := pow128 k hk5
            obtain ⟨P, hP⟩ : ∃ P : Int, (128 : Int) ^ k = P := ⟨_, rfl⟩
            have hvb := val_bounds r k
            have hv1 : val r (k + 1) = val r k + x % 128 * 128 ^ k := by show _ + _ = _; rw [hgd]
            rw [hP] at hp128 hvb hv1
            obtain ⟨y, hy⟩ : ∃ y, x % 128 * P = y := ⟨_, rfl⟩
            have hy0 : 0 ≤ y := by rw [← hy]; exact Int.mul_nonneg (by omega) (by omega)
            have hy1 : y ≤ 127 * P := by rw [← hy]; exact Int.mul_le_mul_of_nonneg_right (by omega) (by omega)
            have hy2 : y ≤ 4398046511104 := by omega
            rw [hy] at hv1
            obtain ⟨V0, hV0⟩ : ∃ V0, val r k = V0 := ⟨_, rfl⟩
            have HV1 : Hid (val r (k + 1) = V0 + y) := by show _ = _; rw [hv1, hV0]
            rw [hV0] at hvb
            obtain ⟨hv2, hv3⟩ := hvb
            have hv4 : V0 ≤ 34359738368 := by omega
            have hP1 := hp128.1
            have hP2 := hp128.2
            have HP : Hid ((128 : Int) ^ (k + 1) = P * 128) := by show _ = _; rw [Int.pow_succ, hP]
            rw [hV0, hP]
            clear hx hxb hgd hp128 hP hv1 hV0 hv3 hy1 hbad c1 c2
            by_cases g1 : x < 128
            · have HSE : Hid _ := scan_end HB2.out hgo.out (by rw [HGD.out]; exact g1)
              obtain ⟨mm, hmm⟩ := Int.eq_ofNat_of_zero_le (show 0 ≤ V0 + y by omega)
              have HMM : Hid (val r (k + 1) = (mm : Int)) := by show _ = _; rw [HV1.out, hmm]
              have HBD : Hid (¬ (val r (k + 1) ≤ 1099511627776 ∧ numB 5 (val r (k + 1)).toNat = r.take (k + 1)) → ∃ m r, stAt (some bs) m = some r ∧ r ≠ [] ∧ rd r = none) := fun h => ⟨m, r, hst.out, by rintro rfl; have := HN.out; simp at this; omega, HSE.out.2 h⟩
              by_cases g2 : 1099511627776 < V0 + y
              · have HXX : Hid (∃ m r, stAt (some bs) m = some r ∧ r ≠ [] ∧ rd r = none) := HBD.out (by rintro ⟨h, _⟩; have := HV1.out; omega)
                clear hmm
                go_wp2
                go_quiet (fail)
                go_wp2
                go_ret2
                exact ⟨.inr ⟨HXX.out, rfl⟩, below_drewN hbe _⟩
              · have g2' : decide (1099511627776 < V0 + y) = false := decide_eq_false g2
                have hm2 : mm ≤ 1099511627776 := by omega
                have k1 : ((k + 1 : Nat) : Int) ≤ (cap' : Int) := by omega
                have k1' : (k : Int) + 1 ≤ (cap' : Int) := by omega
                have hcs : Hid (∀ (S : List Int) (u : World), Below wr.heap.size wr u → r.take (k + 1) = S → (convert 36 9 (.slice (some ⟨b, off + p, none⟩) (k + 1) cap')).run Tryd.prog u = .ok (.string (strOfNums S)) u) := fun S u hu e => by
                  subst e
                  refine run_convert_bytes_arg u 36 5 Tryd.underlying36 Tryd.underlying5 b (off + p) (k + 1) cap' (r.take (k + 1)) (by simp; omega) (fun i hi => ?_) 9 Tryd.underlying9
                  have hir : i < r.length := by omega
                  have e1 : (r.take (k + 1)).getD i 0 = r[i] := by simp [hi, hir]
                  rw [e1]
                  exact (hu.cell (p := ⟨b, off + p + i, none⟩) hbr).trans (HC.out i hir)
                have g2'' : decide (1099511627776 < (mm : Int)) = false := decide_eq_false (by omega)
                have hwk : IntKind.i64.wrap ((k : Int) + 1) = (k : Int) + 1 := wrap_smallP _ (by omega) (by omega)
                have hwt : ((k : Int) + 1).toNat = k + 1 := by omega
                have hw0 : (0 : Int) ≤ (k : Int) + 1 := by omega
                have hbd : Below wr.heap.size wr wr.drew := ⟨rfl, rfl, rfl, Nat.le_refl _, fun _ _ => rfl⟩
                have hnl := numB_len 5 mm
                by_cases g3 : numB 5 mm = r.take (k + 1)
                · have HRD : Hid (rd r = some ((mm : Int), r.drop (k + 1))) := by
                    have := HSE.out.1 (by rw [HMM.out]; exact ⟨by omega, by simpa using g3⟩)
                    rw [HMM.out] at this
                    exact this
                  have HG3 : Hid (r.take (k + 1) = numB 5 mm) := g3.symm
                  clear g3
                  go_wp2_with fail
                  refine wp_region_held_drew (S := fun u => Below wr.heap.size wr u) (by kernel_rfl) hbd (fun hHeld => ?_)
                  refine tk 0 hHeld ?_
                  refine tk 1 hHeld ?_
                  refine tk 2 hHeld ?_
                  refine tk 3 hHeld ?_
                  refine tk 6 hHeld ?_
                  refine tk 7 hHeld ?_
                  refine tk 8 hHeld ?_
                  refine tk 9 hHeld ?_
                  refine tk 10 (v := .string (strOfNums (numB 5 mm))) (hy := Or.inl ⟨by rfl, fun u hSu => ?hy⟩) hHeld ?_
                  case hy =>
                    have ks := hcs.out (numB 5 mm) u hSu HG3.out
                    go_simp
                  refine rdy 4 fun K hK => ?_
                  go_simp
                  (go_at_call 23; refine (rnum_any 5 mm (by omega) hm2 (by decide) _).mono ?_; rintro e u ⟨v1, rfl, ho1, hu⟩; replace hu := undrewP hu; have kv := str_owns ho1 hnl.1 u (Below.refl _ _))
                  refine kp hK (fun hHeld => ?_) hu
                  clear hK K
                  refine rdy 5 fun K hK => ?_
                  go_simp
                  refine kp hK (fun hHeld => ?_) hu
                  clear hK K
                  refine tk 11 hHeld ?_
                  refine tk 12 hHeld ?_
                  refine dn ?_
                  have HST2 : Hid (stAt (some bs) (m + 1) = some (r.drop (k + 1))) := by
                    show (nx (stAt (some bs) m)).2 = _
                    rw [hst.out, nx_some HRD.out]
                  have HNT : Hid (nth (some bs) m = (mm : Int)) := by
                    show (nx (stAt (some bs) m)).1 = _
                    rw [hst.out, nx_some HRD.out]
                  have hbu := stepB hbe hu
                  have hus : w.heap.size ≤ u.heap.size := hbu.size
                  have hoA := owns_below (owns_below ho.out hu) ((Below.refl u.heap.size u).alloc (Nat.le_refl _) (.cells #[.int .i64 (mm : Int)] 3))
                  have HO : Hid (World.ownsRow _ _ _ _ _ _ _) := hoA
                  clear hoA kv
                  go_wp2_with (at_builtin; refine wpList_append_own_at _ rfl _ _ 52 rfl w.heap.size 3 i0 (.int .i64 0) 1 8 Tryd.underlying52 hi hz0 hz1 hz2 rfl (by decide) u4 _ _ rfl HO.out ⟨u.heap.size, 0, none⟩ 1 1 [.int .i64 (mm : Int)] rfl rfl (cell_one_new _ _ _) (fun z hz => by simp at hz; subst hz; rfl) (by unfold maxLen; omega) (by omega) (by simp; omega) ?_; intro v' w2 hown' hgrow hnil hblk)
                  have hb4 : Below w.heap.size w w2 := (hbu.alloc hus _).grown hgrow (by simp; omega) (fun z hz => (HO.out.lt z hz).1)
                  have ho4 : Hid (w2.ownsRow w.heap.size 3 1 v' (m + 1) (((List.range (m + 1)).map (nth (some bs))).map (Value.int .i64))) := by
                    show World.ownsRow _ _ _ _ _ _ _
                    rw [List.range_succ, List.map_append, List.map_append]
                    have e : List.map (Value.int IntKind.i64) (List.map (nth (some bs)) [m]) = [.int .i64 (mm : Int)] := by simp [HNT.out]
                    rw [e]; exact hown'
                  refine ⟨⟨m + 1, p + (k + 1), r.drop (k + 1), _, _, by rw [List.length_drop, HN.out], by rw [List.length_drop, HN.out]; omega, by rw [List.length_drop, HN.out]; omega, by omega, ?_, HST2, ?_, ho4, hb4⟩, by simp [lenOf]; omega⟩
                  · show _ = _
                    rw [← hdr.out, List.drop_drop]
                  · intro hpos
                    rw [List.length_drop, HN.out] at hpos
                    rw [if_neg (by omega), Nat.add_assoc]
                · have HXX : Hid (∃ m r, stAt (some bs) m = some r ∧ r ≠ [] ∧ rd r = none) := HBD.out (by rw [HMM.out]; rintro ⟨_, h⟩; exact g3 (by simpa using h))
                  have hne : ((strOfNums (numB 5 mm)).toList == (strOfNums (r.take (k + 1))).toList) = false := str_ne (numB_byte 5 mm (by omega)) (fun z hz => HB2.out z (List.mem_of_mem_take hz)) g3
                  clear g3
                  go_wp2_with fail
                  refine wp_region_held_drew (S := fun u => Below wr.heap.size wr u) (by kernel_rfl) hbd (fun hHeld => ?_)
                  refine tk 0 hHeld ?_
                  refine tk 1 hHeld ?_
                  refine tk 2 hHeld ?_
                  refine tk 3 hHeld ?_
                  refine tk 6 hHeld ?_
                  refine tk 7 hHeld ?_
                  refine tk 8 hHeld ?_
                  refine tk 9 hHeld ?_
                  refine tk 10 (v := .string (strOfNums (r.take (k + 1)))) (hy := Or.inl ⟨by rfl, fun u hSu => ?hy⟩) hHeld ?_
                  case hy =>
                    have ks := hcs.out (r.take (k + 1)) u hSu rfl
                    go_simp
                  refine rdy 4 fun K hK => ?_
                  go_simp
                  (go_at_call 23; refine (rnum_any 5 mm (by omega) hm2 (by decide) _).mono ?_; rintro e u ⟨v1, rfl, ho1, hu⟩; replace hu := undrewP hu; have kv := str_owns ho1 hnl.1 u (Below.refl _ _))
                  refine kp hK (fun hHeld => ?_) hu
                  clear hK K
                  refine rdy 5 fun K hK => ?_
                  go_simp
                  refine kp hK (fun hHeld => ?_) hu
                  clear hK K
                  refine tk 11 hHeld ?_
                  refine tk 12 hHeld ?_
                  refine dn ?_
                  all_goals (go_wp2; go_ret2; exact ⟨.inr ⟨HXX.out, rfl⟩, stepB hbe hu⟩)
            · have g1' : decide (x < 128) = false := decide_eq_false g1
              have hgo2 : Hid (goesOn r (k + 1)) := fun j hj => by
                rcases Nat.lt_succ_iff_lt_or_eq.1 hj with q | q
                · exact hgo.out j q
                · subst q; rw [HGD.out]; omega
              go_wp2
              go_roundw
              case rel => exact ⟨k + 1, by omega, by omega, by rw [HV1.out], by rw [HP.out], by go_num, hgo2, trivial⟩
              case measure => simp [intOf]; omega

set_option maxHeartbeats 1000000 in
theorem numbers_none (a : Option Addr) (cap : Nat) (w : World) :
    Calls Tryd.prog 25 #[.slice a 0 cap] w fun ev w' => NumsAre w w' [] ev ∧ Below w.heap.size w w' := by
  go_enter Tryd.func25, Tryd.ntmps25
  go_wp2_with fail
  refine wp_loop_rounds 1 ?_
  rw [rounds_succ]
  go_wp2
  go_ret2
  exact ⟨.inl ⟨0, Nat.le_refl _, rfl, _, rfl, World.ownsRow_nil _ _ _ _⟩, Below.refl _ _⟩
theorem numbers_any (a : Option Addr) (cap : Nat) (bs : List Int) (w : World) (hrow : 0 < bs.length → ∃ b off, a = some ⟨b, off, none⟩ ∧ b < w.heap.size ∧ ∀ j (h : j < bs.length), w.cell? ⟨b, off + j, none⟩ = some (.int .u8 bs[j])) (hby : ∀ x ∈ bs, 0 ≤ x ∧ x < 256) (hcap : bs.length ≤ cap) (hlen : bs.length ≤ 3000) :
    Calls Tryd.prog 25 #[.slice a bs.length cap] w fun ev w' => NumsAre w w' bs ev ∧ Below w.heap.size w w' := by
  rcases Nat.eq_zero_or_pos bs.length with h | h
  · obtain rfl : bs = [] := List.length_eq_zero_iff.1 h
    exact numbers_none a cap w
  · obtain ⟨b, off, rfl, hb, hc⟩ := hrow h
    exact numbers_some b off cap bs w hb hc hby hcap hlen h
end Go.Proofs.YtlpojkehbhkdiaaDoor
