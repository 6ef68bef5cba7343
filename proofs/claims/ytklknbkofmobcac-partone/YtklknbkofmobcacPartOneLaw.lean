/- PartOne, walked over the contracts of a table: ONE AT A TIME: of every frame, row of windows and time it answers true. -/
import Derived.Test.YtklknbkofmobcacPartedFact
import Derived.Test.YtklknbkofmobcacOpenRows
import Derived.Test.YtklknbkofmobcacErrIs
import Derived.Test.YtklknbkofmobcacOwnInts
import Derived.Test.YtklknbkofmobcacCellSet
import Derived.Laws.MakeOwn
import Derived.Deep.DeepCutAuto
import Derived.Deep.RegionHeld3
namespace Go.Proofs.Ytklknbkofmobcac
open Go.RowKit

set_option maxRecDepth 100000 in
set_option maxHeartbeats 1000000 in
theorem one_great (frame now : Int) (a : Option Addr) (n cap : Nat) (w : World) (h : 40 < n) (h1 : n ≤ 9223372036854775807) :
    Calls Try.prog 3 #[.int .i64 frame, .slice a n cap, .int .i64 now] w fun e w' => e = .returned (.bool true) ∧ Below w.heap.size w w' := by
  have k1 : (40 : Int) < (n : Int) := by omega
  go_enter Try.func3, Try.ntmps3
  go_wp2
  go_ret
  exact ⟨rfl, Below.refl _ _⟩

set_option maxRecDepth 100000 in
set_option maxHeartbeats 2000000 in
theorem one_bad (frame0 now0 e i : Int) (a : Option Addr) (n cap : Nat) (pt fr td : Nat → Int) (w : World) (hok : NewOk w) (hr : Rows3 w a n pt fr td) (h1 : n ≤ 40) (hF : FirstBad (winErr pt fr td (1 + pk frame0 300)) n e i) (hK : winK (1 + pk frame0 300) n e ≠ 0) :
    Calls Try.prog 3 #[.int .i64 frame0, .slice a n cap, .int .i64 now0] w fun e w' => e = .returned (.bool true) ∧ Below w.heap.size w w' := by
  have k1 : decide ((40 : Int) < (n : Int)) = false := decide_eq_false (by omega)
  have hp1 := pick_any frame0 300 (by decide) (by decide)
  have hp2 := pick_any now0 1073741824 (by decide) (by decide)
  have hf0 := pk_in (a := frame0) (n := 300) (by decide)
  have hn0 := pk_in (a := now0) (n := 1073741824) (by decide)
  have hN := fun (u : World) (hu : Below w.heap.size w u) => tabNew_bad pt fr td (1 + pk frame0 300) e i a n cap u (by omega) (hr.below hu) (hok.below hu) hF hK
  have hP := fun (u : World) (hu : Below w.heap.size w u) => parted_any u (hok.below hu)
  generalize winK (1 + pk frame0 300) n e = K at *
  generalize winP (1 + pk frame0 300) n e i = I at *
  generalize pk now0 1073741824 = now at *
  obtain ⟨frame, hfr⟩ : ∃ frame, 1 + pk frame0 300 = frame := ⟨_, rfl⟩
  rw [hfr] at hN
  clear hF hr hok
  generalize pk frame0 300 = f0 at *
  go_enter Try.func3, Try.ntmps3
  go_wp2_with fail
  refine (hp1 _).mono ?_
  rintro ev u1 ⟨rfl, q⟩
  replace q := q.symm
  subst q
  go_wp2_with fail
  refine (hp2 _).mono ?_
  rintro ev u2 ⟨rfl, q⟩
  replace q := q.symm
  subst q
  clear hp1 hp2
  go_wp2_with fail
  refine (hP _ (Below.refl _ _)).mono ?_
  rintro ev u3 ⟨rfl, hb3⟩
  have HB3 : Hid (Below w.heap.size w u3) := hb3
  clear hP hb3
  go_wp2_with fail
  refine (hN _ HB3.out).mono ?_
  rintro ev u4 ⟨E, rfl, hE, hb4⟩
  have HB4 : Hid (Below w.heap.size w u4) := HB3.out.trans (hb4.mono HB3.out.size)
  clear hN hb4
  rcases hE with ⟨_, hE, _⟩ | ⟨rfl, _, _⟩ | ⟨b, rfl, _, _, _⟩
  · exact absurd hE hK
  · go_wp2
    go_ret
    exact ⟨rfl, HB4.out⟩
  · go_wp2
    go_ret
    exact ⟨rfl, HB4.out⟩

/-- The statement's own row of six sums. -/
structure Sums (u : World) (B : Nat) (f : Int → Int) : Prop where
  c : ∀ r : Nat, r < 6 → u.cell? ⟨B, r, none⟩ = some (.int .i64 (f r))
  z : ∀ i, u.frozen? ⟨B, i, none⟩ = false
  l : B < u.heap.size
theorem Sums.below {u u' : World} {B : Nat} {f : Int → Int} (h : Sums u B f) (k : Below u.heap.size u u') : Sums u' B f :=
  ⟨fun r hr => (k.cell (p := ⟨B, r, none⟩) h.l).trans (h.c r hr), fun i => (k.frozen (p := ⟨B, i, none⟩) h.l).trans (h.z i), Nat.lt_of_lt_of_le h.l k.size⟩
theorem Sums.same {u : World} {B : Nat} {f g : Int → Int} (h : Sums u B f) (e : ∀ r : Nat, r < 6 → f r = g r) : Sums u B g :=
  ⟨fun r hr => by rw [h.c r hr, e r hr], h.z, h.l⟩
theorem Sums.more {u : World} {B p : Nat} {f g : Int → Int} (h : Sums u B f) (hp : p < 6) (e : ∀ r : Nat, r < 6 → g r = f r + (if (p : Int) = r then 1 else 0)) : Sums (u.setCell ⟨B, p, none⟩ (.int .i64 (f p + 1))) B g := by
  refine ⟨fun r hr => ?_, fun i => soft_set.trans (h.z i), by simpa using h.l⟩
  by_cases q : r = p
  · subst q
    rw [e r hr, if_pos rfl]
    exact cell_set (h.c r hr)
  · rw [e r hr, if_neg (by omega), Int.add_zero]
    exact (cell_other (.inr q)).trans (h.c r hr)

set_option maxRecDepth 100000 in
set_option maxHeartbeats 4000000 in
theorem one_good (frame0 now0 : Int) (a : Option Addr) (n cap : Nat) (pt fr td : Nat → Int) (w : World) (hok : NewOk w) (hr : Rows3 w a n pt fr td) (h1 : n ≤ 32) (hw : WinsOk pt fr td (1 + pk frame0 300) n) :
    Calls Try.prog 3 #[.int .i64 frame0, .slice a n cap, .int .i64 now0] w fun e w' => e = .returned (.bool true) ∧ Below w.heap.size w w' := by
  have k1 : decide ((40 : Int) < (n : Int)) = false := decide_eq_false (by omega)
  have hp1 := pick_any frame0 300 (by decide) (by decide)
  have hp2 := pick_any now0 1073741824 (by decide) (by decide)
  have hf0 := pk_in (a := frame0) (n := 300) (by decide)
  have hn0 := pk_in (a := now0) (n := 1073741824) (by decide)
  have hN := fun (u : World) (hu : Below w.heap.size w u) => tabNew_good pt fr td (1 + pk frame0 300) a n cap u (by omega) (hr.below hu) (hok.below hu) ⟨by omega, by omega⟩ hw
  have hP := fun (u : World) (hu : Below w.heap.size w u) => parted_any u (hok.below hu)
  generalize pk now0 1073741824 = now at *
  obtain ⟨frame, hfr⟩ : ∃ frame, 1 + pk frame0 300 = frame := ⟨_, rfl⟩
  rw [hfr] at hN hw
  clear hr hok
  generalize pk frame0 300 = f0 at *
  have HW : Hid (WinsOk pt fr td frame n) := hw
  have hfb : 1 ≤ frame ∧ frame ≤ 300 := by omega
  have hAt := fun (u : World) (O : List Nat) (P : Nat) (t : Int) (hu : Tab u O P frame n pt fr td) (ht : 0 ≤ t ∧ t ≤ 1099511627776) => tabAt_good hu t ht ⟨by omega, by omega⟩ hw (by omega)
  have HAt : Hid _ := hAt
  have HSh : Hid (∀ (u : World) (O : List Nat) (P : Nat) (k : Int), Tab u O P frame n pt fr td → Calls Try.prog 8 #[.pointer (some ⟨P, 0, none⟩), .int .i64 k] u fun ev w' => ev = .returned (.int .i64 (shareW pt fr td k n)) ∧ Below u.heap.size u w') := fun u O P k hu => tabShare hu k ⟨by omega, by omega⟩ hw (by omega)
  clear hAt hw
  go_enter Try.func3, Try.ntmps3
  go_wp2_with fail
  refine (hp1 _).mono ?_
  rintro ev u1 ⟨rfl, q⟩
  replace q := q.symm
  subst q
  go_wp2_with fail
  refine (hp2 _).mono ?_
  rintro ev u2 ⟨rfl, q⟩
  replace q := q.symm
  subst q
  clear hp1 hp2
  go_wp2_with fail
  refine (hP _ (Below.refl _ _)).mono ?_
  rintro ev u3 ⟨rfl, hb3⟩
  have HB3 : Hid (Below w.heap.size w u3) := hb3
  clear hP hb3
  go_wp2_with fail
  refine (hN _ HB3.out).mono ?_
  rintro ev u4 ⟨O, P, rfl, hTab, hb4⟩
  have HB4 : Hid (Below w.heap.size w u4) := HB3.out.trans (hb4.mono HB3.out.size)
  have HT4 : Hid (Tab u4 O P frame n pt fr td) := hTab
  clear hN hb4 hTab HB3
  go_wp2_with fail
  refine (HAt.out _ _ _ now HT4.out ⟨by omega, by omega⟩).mono ?_
  rintro ev u5 ⟨p, l, rfl, hR5, hb5⟩
  have HR : Hid (RunsAt pt fr td frame n (now % frame) p l) := hR5
  have HB5 : Hid (Below w.heap.size w u5) := HB4.out.trans (hb5.mono HB4.out.size)
  have HT5 : Hid (Tab u5 O P frame n pt fr td) := HT4.out.keep (Same.of_below hb5 HT4.out.lt)
  have hpp := HR.out.part HW.out
  have hll := HR.out.left_in HW.out (Int.emod_nonneg _ (by omega)) (Int.emod_lt_of_pos _ (by omega))
  clear hR5 hb5 HB4 HT4
  go_wp2_with fail
  refine (HAt.out _ _ _ (now + frame) HT5.out ⟨by omega, by omega⟩).mono ?_
  rintro ev u6 ⟨p', l', rfl, hR6, hb6⟩
  rw [Int.add_emod_right] at hR6
  obtain ⟨ep, el⟩ := RunsAt.one HW.out HR.out hR6
  subst ep
  subst el
  have HB6 : Hid (Below w.heap.size w u6) := HB5.out.trans (hb6.mono HB5.out.size)
  have HT6 : Hid (Tab u6 O P frame n pt fr td) := HT5.out.keep (Same.of_below hb6 HT5.out.lt)
  clear hR6 hb6 HB5 HT5
  have hx0 : 0 ≤ now % frame := Int.emod_nonneg _ (by omega)
  have hx1 : now % frame < frame := Int.emod_lt_of_pos _ (by omega)
  go_upto_if 78 with fail
  go_cut [] (fun wx => Hid (Below w.heap.size w wx) ∧ Hid (Tab wx O P frame n pt fr td))
  case first =>
    by_cases c1 : 1 < l
    · go_wp2_with fail
      refine (HAt.out _ _ _ (now + 1) HT6.out ⟨by omega, by omega⟩).mono ?_
      rintro ev u7 ⟨r, rest, rfl, hR7, hb7⟩
      have e7 : (now + 1) % frame = if now % frame + 1 = frame then 0 else now % frame + 1 := by
        have h := Int.emod_add_mul_ediv now frame
        have e : now + 1 = now % frame + 1 + frame * (now / frame) := by omega
        rw [e, Int.add_mul_emod_self_left]
        split
        · next q => rw [q, Int.emod_self]
        · exact Int.emod_eq_of_lt (by omega) (by omega)
      rw [e7] at hR7
      obtain ⟨er, es⟩ := RunsAt.one HW.out (HR.out.next HW.out hx1 c1) hR7
      subst er
      subst es
      have HB7 : Hid (Below w.heap.size w u7) := HB6.out.trans (hb7.mono HB6.out.size)
      have HT7 : Hid (Tab u7 O P frame n pt fr td) := HT6.out.keep (Same.of_below hb7 HT6.out.lt)
      clear hR7 hb7 e7
      go_wp2_with fail
      go_meet
      exact ⟨HB7, HT7⟩
    · rw [decide_eq_false c1]
      clear c1
      go_wp2_with fail
      go_meet
      exact ⟨HB6, HT6⟩
  case rest =>
    obtain ⟨HB7, HT7⟩ := hcut
    obtain ⟨wv, hwv⟩ : ∃ x, x = wc := ⟨wc, rfl⟩
    subst hwv
    clear HB6 HT6
    go_upto_region 17 with fail
    go_cut [105] (fun tv wx => tv = .bool (decide (0 < l) && decide (p < 0)) ∧ wx = wv)
    case first =>
      by_cases c1 : 0 < l
      · by_cases c2 : p < 0
        · have HD : Hid ((decide (0 < l) && decide (p < 0)) = true) := by show _ = _; rw [decide_eq_true c1, decide_eq_true c2]; rfl
          go_wp2_with fail
          go_meet
          exact ⟨by rw [HD.out], rfl⟩
        · have HD : Hid ((decide (0 < l) && decide (p < 0)) = false) := by show _ = _; rw [decide_eq_false c2, Bool.and_false]
          have c2' := decide_eq_false c2
          clear c2
          go_wp2_with fail
          go_meet
          exact ⟨by rw [HD.out], rfl⟩
      · have HD : Hid ((decide (0 < l) && decide (p < 0)) = false) := by show _ = _; rw [decide_eq_false c1, Bool.false_and]
        have c1' := decide_eq_false c1
        clear c1
        go_wp2_with fail
        go_meet
        exact ⟨by rw [HD.out], rfl⟩
    case rest =>
     obtain ⟨rfl, hwx⟩ := hcut
     subst hwx
     go_upto_if 105 with fail
     go_cut [] (fun wx => Hid (Below w.heap.size w wx) ∧ Hid (Tab wx O P frame n pt fr td))
     case first =>
       by_cases c1 : 0 < l
       · by_cases c2 : p < 0
         · rw [decide_eq_true c1, decide_eq_true c2, Bool.true_and]
           go_wp2_with fail
           refine (HAt.out _ _ _ (now + l) HT7.out ⟨by omega, by omega⟩).mono ?_
           rintro ev u8 ⟨r, rest, rfl, hR8, hb8⟩
           have e8 : (now + l) % frame = (now % frame + l) % frame := by rw [Int.emod_add_emod]
           rw [e8] at hR8
           have hr0 := HR.out.then_one HW.out c2 c1 hR8
           have hr1 : decide (r < 0) = false := decide_eq_false (by omega)
           have HB8 : Hid (Below w.heap.size w u8) := HB7.out.trans (hb8.mono HB7.out.size)
           have HT8 : Hid (Tab u8 O P frame n pt fr td) := HT7.out.keep (Same.of_below hb8 HT7.out.lt)
           clear hR8 hb8 e8
           go_wp2_with fail
           go_meet
           exact ⟨HB8, HT8⟩
         · rw [decide_eq_false c2, Bool.and_false]
           clear c2
           go_wp2_with fail
           go_meet
           exact ⟨HB7, HT7⟩
       · rw [decide_eq_false c1, Bool.false_and]
         clear c1
         go_wp2_with fail
         go_meet
         exact ⟨HB7, HT7⟩
     case rest =>
       obtain ⟨HB8, HT8⟩ := hcut
       obtain ⟨wy, hwy⟩ : ∃ x, x = wc := ⟨wc, rfl⟩
       subst hwy
       clear HB7 HT7
       obtain ⟨i2, fi, fz0, fz1, fz2⟩ := info_parts Try.infoInt
       have hmk := run_makeSlice (P := Try.prog) wy 32 3 i2 _ Try.underlying32 fi fz0 .i64 .i64 6 6 (by decide) (Int.le_refl _) (by rw [fz1]; decide) (by rw [fz2]; decide) (by decide)
       rw [fz1] at hmk
       obtain ⟨CC, hCC⟩ : ∃ CC, madeCells (Value.int .i64 0).cells ((6 : Int).toNat * 1) = CC := ⟨_, rfl⟩
       have hel : ∀ j, j < 6 → CC[j]? = some (.int .i64 0) := fun j hj => by
         rw [← hCC]
         have : j = 0 ∨ j = 1 ∨ j = 2 ∨ j = 3 ∨ j = 4 ∨ j = 5 := by omega
         rcases this with rfl | rfl | rfl | rfl | rfl | rfl <;> simp [madeCells, Value.cells]
       rw [hCC] at hmk
       obtain ⟨wb, hwb⟩ : ∃ v, wy.alloc (.cells CC 3) = v := ⟨_, rfl⟩
       obtain ⟨SB, hSB⟩ : ∃ x, wy.heap.size = x := ⟨_, rfl⟩
       have hAb : Below wy.heap.size wy wb := by rw [← hwb]; exact (Below.refl _ _).alloc (Nat.le_refl _) _
       have HB9 : Hid (Below w.heap.size w wb) := HB8.out.trans (hAb.mono HB8.out.size)
       have HT9 : Hid (Tab wb O P frame n pt fr td) := HT8.out.keep (Same.of_below hAb HT8.out.lt)
       have hSO : SB ∉ O := fun y => by have := HT8.out.lt SB y; omega
       have hSw : w.heap.size ≤ SB := by have := HB8.out.size; omega
       have HS9 : Hid (Sums wb SB (fun r => covW pt fr td r 0 n)) := by
         refine ⟨fun r hr => ?_, fun i => ?_, by rw [← hwb, ← hSB]; simp⟩
         · rw [covW_start HW.out r n (Nat.le_refl _), ← hwb, ← hSB]
           have := hel r hr
           simpa using this
         · rw [← hwb, ← hSB]; simp
       clear hCC hel fi fz0 fz1 fz2 hAb HB8 HT8
       go_wp2_with fail
       clear hmk hwb hSB
       go_loopw [22] (fun t wr => ∃ k : Nat, (k : Int) ≤ frame ∧ t = .int .i64 k ∧ Hid (Below w.heap.size w wr) ∧ Hid (Tab wr O P frame n pt fr td) ∧ Hid (Sums wr SB (fun r => covW pt fr td r k n))) (fun t _ => frame.toNat - (intOf t).toNat)
       case atStart => exact ⟨0, by omega, rfl, HB9, HT9, HS9⟩
       case round =>
         clear HB9 HT9 HS9
         obtain ⟨k, hk, rfl, HB, HTk, HS⟩ := hrel
         by_cases hlt : (k : Int) < frame
         · go_wp2_with fail
           refine (HAt.out _ _ _ (k : Int) HTk.out ⟨by omega, by omega⟩).mono ?_
           rintro ev v1 ⟨p2, l2, rfl, hR2, hb2⟩
           rw [Int.emod_eq_of_lt (by omega) hlt] at hR2
           have hstep := fun r hr0 => covW_step HW.out hR2 r hr0
           have hpp2 := hR2.part HW.out
           have HB2 : Hid (Below w.heap.size w v1) := HB.out.trans (hb2.mono HB.out.size)
           have HT2 : Hid (Tab v1 O P frame n pt fr td) := HTk.out.keep (Same.of_below hb2 HTk.out.lt)
           have HS2 : Hid (Sums v1 SB (fun r => covW pt fr td r k n)) := HS.out.below hb2
           have HSt : Hid (∀ r : Nat, r < 6 → covW pt fr td r ((k + 1 : Nat) : Int) n = covW pt fr td r k n + (if p2 = r then 1 else 0)) := fun r _ => by
             have := hstep r (by omega)
             simpa using this
           clear hR2 hb2 hstep HB HTk HS
           rcases hpp2 with hp2 | ⟨hp2, hp3⟩
           · subst hp2
             have HS3 : Hid (Sums v1 SB (fun r => covW pt fr td r ((k + 1 : Nat) : Int) n)) := HS2.out.same fun r hr => by
               have := HSt.out r hr
               rw [if_neg (by omega)] at this
               omega
             go_wp2_with fail
             exact ⟨⟨k + 1, by omega, by go_num, HB2, HT2, HS3⟩, by simp [intOf]; omega⟩
           · obtain ⟨pn, rfl⟩ : ∃ pn : Nat, p2 = pn := ⟨p2.toNat, by omega⟩
             have c0 := HS2.out.c pn (by omega)
             have z0 := HS2.out.z pn
             have l0 := HS2.out.l
             have hc0 := covW_in HW.out (pn : Int) (k : Int) n (Nat.le_refl _)
             have hc1 : covW pt fr td pn k n ≤ 1099511627776 := by
               have h2 := (shareW_in HW.out (pn : Int) n (Nat.le_refl _)).2
               have h3 : (if n = 0 then (0 : Int) else td (n - 1)) ≤ 300 := by
                 split
                 · decide
                 · have := HW.out.up (n - 1) (by omega); omega
               omega
             have HS3 : Hid (Sums (v1.setCell ⟨SB, pn, none⟩ (.int .i64 (covW pt fr td pn k n + 1))) SB (fun r => covW pt fr td r ((k + 1 : Nat) : Int) n)) := HS2.out.more (by omega) (fun r hr => HSt.out r hr)
             have ht : Turns SB SB v1 (v1.setCell ⟨SB, pn, none⟩ (.int .i64 (covW pt fr td pn k n + 1))) := (Turns.refl _ _ _).set (p := ⟨SB, pn, none⟩) (.inl rfl) _
             have HB3 : Hid (Below w.heap.size w (v1.setCell ⟨SB, pn, none⟩ (.int .i64 (covW pt fr td pn k n + 1)))) := HB2.out.trans (ht.below HB2.out.size hSw hSw)
             have HT3 : Hid (Tab (v1.setCell ⟨SB, pn, none⟩ (.int .i64 (covW pt fr td pn k n + 1))) O P frame n pt fr td) := HT2.out.keep ⟨ht.size, fun c hc => ht.block c (HT2.out.lt c hc) (fun e => hSO (e ▸ hc)) (fun e => hSO (e ▸ hc))⟩
             clear ht
             generalize covW pt fr td pn k n = CV at *
             go_wp2_with fail
             exact ⟨⟨k + 1, by omega, by go_num, HB3, HT3, HS3⟩, by simp [intOf]; omega⟩
         · have hkf : (k : Int) = frame := by omega
           have HSf : Hid (Sums wr SB (fun r => shareW pt fr td r n)) := HS.out.same fun r _ => by
             show covW pt fr td r k n = _
             rw [hkf]
             exact covW_end HW.out r n (Nat.le_refl _)
           have kf : decide ((k : Int) < frame) = false := decide_eq_false hlt
           clear HS hkf hlt
           obtain ⟨wz, hwz⟩ : ∃ x, x = wr := ⟨wr, rfl⟩
           subst hwz
           go_wp2_with fail
           go_loopw [26] (fun t wr => ∃ k : Nat, k ≤ 6 ∧ t = .int .i64 k ∧ Hid (Below w.heap.size w wr) ∧ Hid (Tab wr O P frame n pt fr td) ∧ Hid (Sums wr SB (fun r => shareW pt fr td r n))) (fun t _ => 6 - (intOf t).toNat)
           case atStart => exact ⟨0, by omega, rfl, HB, HTk, HSf⟩
           case round =>
             clear HB HTk HSf
             obtain ⟨j, hj, rfl, HBj, HTj, HSj⟩ := hrel
             by_cases hlj : j < 6
             · have c0 := HSj.out.c j hlj
               have l0 := HSj.out.l
               have jj : (j : Int) < 6 := by omega
               have HTd : Hid (∀ q, Tab (wr.drewN q) O P frame n pt fr td) := fun q => HTj.out.keep ⟨Nat.le_refl _, fun _ _ => rfl⟩
               have HBd : Hid (∀ q, Below w.heap.size w (wr.drewN q)) := fun q => ⟨HBj.out.os, HBj.out.tape, HBj.out.output, HBj.out.size, HBj.out.block⟩
               have HSd : Hid (∀ q, Sums (wr.drewN q) SB (fun r => shareW pt fr td r n)) := fun q => ⟨HSj.out.c, HSj.out.z, HSj.out.l⟩
               clear HTj HBj HSj
               go_wp2_with fail
               go_region_held3 (fun u => u.cell? ⟨SB, j, none⟩ = some (.int .i64 (shareW pt fr td j n))) (go_keep) ((go_at_call 8; refine (HSh.out _ O P (j : Int) (HTd.out 1)).mono ?_; rintro ev v5 ⟨rfl, hb5⟩; have HB5 : Hid (Below w.heap.size w v5) := (HBd.out 1).trans (hb5.mono (HBd.out 1).size); have HT5 : Hid (Tab v5 O P frame n pt fr td) := (HTd.out 1).keep (Same.of_below hb5 (HTd.out 1).lt); have HS5 : Hid (Sums v5 SB (fun r => shareW pt fr td r n)) := (HSd.out 1).below hb5; have c5 := HS5.out.c j hlj))
               clear hb5 c5
               have hne : (shareW pt fr td j n != shareW pt fr td j n) = false := by simp
               go_wp2_with fail
               exact ⟨⟨j + 1, by omega, by go_num, HB5, HT5, HS5⟩, by simp [intOf]; omega⟩
             · have jj : decide ((j : Int) < 6) = false := decide_eq_false (by omega)
               go_wp2
               go_ret
               exact ⟨rfl, HBj.out⟩

/-- PartOne answers true, whatever it is asked. -/
theorem one_any (frame now : Int) (a : Option Addr) (n cap : Nat) (pt fr td : Nat → Int) (w : World) (hok : NewOk w) (hr : Rows3 w a n pt fr td) (h1 : n ≤ 9223372036854775807) :
    Calls Try.prog 3 #[.int .i64 frame, .slice a n cap, .int .i64 now] w fun e w' => e = .returned (.bool true) ∧ Below w.heap.size w w' := by
  by_cases hg : 40 < n
  · exact one_great frame now a n cap w hg h1
  · obtain ⟨e, i, hF⟩ := FirstBad.any (winErr pt fr td (1 + pk frame 300)) n
    have hp := pk_in (a := frame) (n := 300) (by decide)
    by_cases hK : winK (1 + pk frame 300) n e = 0
    · unfold winK at hK
      rw [if_neg (by omega)] at hK
      by_cases hn : 32 < n
      · rw [if_pos hn] at hK; cases hK
      · rw [if_neg hn] at hK
        subst hK
        exact one_good frame now a n cap pt fr td w hok hr (by omega) hF.fine
    · exact one_bad frame now e i a n cap pt fr td w hok hr (by omega) hF hK
end Go.Proofs.Ytklknbkofmobcac
