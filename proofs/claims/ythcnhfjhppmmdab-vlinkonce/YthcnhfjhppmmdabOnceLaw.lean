/- VlinkOnce, walked. -/
import Derived.Test.YthcnhfjhppmmdabOnceMain
import Derived.Test.YthcnhfjhppmmdabPick
import Derived.Test.YthcnhfjhppmmdabIntRow
import Derived.Test.YthcnhfjhppmmdabOwnInts
import Derived.Laws.MakeOwn
import Derived.Laws.BytesArg
import Derived.Deep.AppendLies
import Derived.Deep.DeepCutAuto
import Derived.Deep.RegionHeld3
import Derived.BigQuiet
namespace Go.Proofs.Ythcnhfjhppmmdab
open Go.RowKit

theorem Try.infoItem : (Try.prog.info? 67).map (fun i => (i.zero, i.size, i.bytes)) = some (some (.agg #[.int .i64 0, .string ByteArray.empty]), 2, 24) := by kernel_rfl

set_option maxRecDepth 100000 in
set_option maxHeartbeats 1000000 in
theorem once_great (many : Int) (fa sa ta : Option Addr) (fc sc tc : Nat) (nf ns nt : Nat) (w : World) (ht : nt ≤ 9223372036854775807) (h : 500 < wrap64 ((nf : Int) + (ns : Int)) ∨ 2000 < nt) :
    Calls Try.prog 7 #[.int .i64 many, .slice fa nf fc, .slice sa ns sc, .slice ta nt tc] w fun e w' => e = .returned (.bool true) ∧ Below w.heap.size w w' := by
  have hpk := pk_in (a := many) (n := 700) (by decide)
  have p1 := pick_any many 700 (by decide) (by decide)
  generalize pk many 700 = m at p1 hpk
  by_cases k1 : 500 < wrap64 ((nf : Int) + (ns : Int))
  · clear h
    go_enter Try.func7, Try.ntmps7
    go_wp2_with fail
    refine (p1 _).mono ?_
    rintro e w1 ⟨rfl, hw1⟩
    replace hw1 := hw1.symm
    subst hw1
    go_wp2
    go_ret
    exact ⟨rfl, Below.refl _ _⟩
  · have k1' : decide ((500 : Int) < wrap64 ((nf : Int) + (ns : Int))) = false := decide_eq_false k1
    have k2 : (2000 : Int) < (nt : Int) := by omega
    clear h k1
    go_enter Try.func7, Try.ntmps7
    go_wp2_with fail
    refine (p1 _).mono ?_
    rintro e w1 ⟨rfl, hw1⟩
    replace hw1 := hw1.symm
    subst hw1
    go_wp2
    go_ret
    exact ⟨rfl, Below.refl _ _⟩

set_option maxRecDepth 100000 in
set_option maxHeartbeats 4000000 in
theorem once_zero (many : Int) (fa sa ta : Option Addr) (fc sc tc : Nat) (nf ns nt : Nat) (w : World) (h1 : wrap64 ((nf : Int) + (ns : Int)) ≤ 500) (lf : nf ≤ 9223372036854775807) (ls : ns ≤ 9223372036854775807) (h2 : nt ≤ 2000) (h0 : pk many 700 = 0) :
    Calls Try.prog 7 #[.int .i64 many, .slice fa nf fc, .slice sa ns sc, .slice ta nt tc] w fun e w' => e = .returned (.bool true) ∧ Below w.heap.size w w' := by
  have p1 := pick_any many 700 (by decide) (by decide)
  rw [h0] at p1
  have k1 : decide ((500 : Int) < wrap64 ((nf : Int) + (ns : Int))) = false := decide_eq_false (by omega)
  have k2 : decide ((2000 : Int) < (nt : Int)) = false := decide_eq_false (by omega)
  have hnew := fun v => sdrNew_good 1 3 v (by decide)
  obtain ⟨i2, fi, fz0, fz1, fz2⟩ := info_parts Try.infoInt
  have hmk : ∀ v : World, _ := fun v => run_makeSlice (P := Try.prog) v 46 3 i2 _ Try.underlying46 fi fz0 .i64 .i64 0 0 (by decide) (Int.le_refl _) (by rw [fz1]; decide) (by rw [fz2]; decide) (by decide)
  rw [fz1] at hmk
  clear h0 fi fz0 fz1 fz2
  go_enter Try.func7, Try.ntmps7
  go_wp2_with fail
  refine (p1 _).mono ?_
  rintro e w1 ⟨rfl, hw1⟩
  replace hw1 := hw1.symm
  subst hw1
  clear p1
  go_wp2_with fail
  refine (hnew _).mono ?_
  rintro e w1 ⟨O, P, rfl, hs1, hb1, hlo⟩
  clear hnew
  go_wp2_with fail
  refine (rcvNew _).mono ?_
  rintro e w2 ⟨OR, PR, rfl, hr2, hb2, hlr⟩
  go_wp2_with fail
  refine (linked_any _).mono ?_
  rintro e w3 ⟨rfl, hb3⟩
  have hb : Below w.heap.size w w3 := hb1.trans ((hb2.trans (hb3.mono hb2.size)).mono hb1.size)
  have hs3 := hb.size
  clear hs1 hr2 hb1 hb2 hb3 hlo hlr
  go_wp2_with fail
  refine wp_loop_rounds 1 ?_
  rw [rounds_succ]
  have hm3 := hmk w3
  clear hmk
  go_wp2
  have HB : Hid (Below w.heap.size w w3) := hb
  refine wp_loop_rounds 1 ?_
  rw [rounds_succ]
  by_cases q1 : 0 < nf
  · have q1' : (0 : Int) < (nf : Int) := by omega
    go_wp2_with fail
    refine wp_loop_rounds 1 ?_
    rw [rounds_succ]
    by_cases q2 : 0 < ns
    · have q2' : (0 : Int) < (ns : Int) := by omega
      go_wp2_with fail
      refine wp_loop_rounds 1 ?_
      rw [rounds_succ]
      go_wp2_with fail
      refine wp_loop_rounds 1 ?_
      rw [rounds_succ]
      go_wp2_with fail
      refine wp_loop_rounds 1 ?_
      rw [rounds_succ]
      go_wp2
      go_ret
      exact ⟨rfl, (HB.out.alloc (by omega) _).alloc (by simp; omega) _⟩
    · have q2' : decide ((0 : Int) < (ns : Int)) = false := decide_eq_false (by omega)
      go_wp2_with fail
      refine wp_loop_rounds 1 ?_
      rw [rounds_succ]
      go_wp2_with fail
      refine wp_loop_rounds 1 ?_
      rw [rounds_succ]
      go_wp2_with fail
      refine wp_loop_rounds 1 ?_
      rw [rounds_succ]
      go_wp2
      go_ret
      exact ⟨rfl, (HB.out.alloc (by omega) _).alloc (by simp; omega) _⟩
  · have q1' : decide ((0 : Int) < (nf : Int)) = false := decide_eq_false (by omega)
    go_wp2_with fail
    refine wp_loop_rounds 1 ?_
    rw [rounds_succ]
    by_cases q2 : 0 < ns
    · have q2' : (0 : Int) < (ns : Int) := by omega
      go_wp2_with fail
      refine wp_loop_rounds 1 ?_
      rw [rounds_succ]
      go_wp2_with fail
      refine wp_loop_rounds 1 ?_
      rw [rounds_succ]
      go_wp2_with fail
      refine wp_loop_rounds 1 ?_
      rw [rounds_succ]
      go_wp2
      go_ret
      exact ⟨rfl, (HB.out.alloc (by omega) _).alloc (by simp; omega) _⟩
    · have q2' : decide ((0 : Int) < (ns : Int)) = false := decide_eq_false (by omega)
      go_wp2_with fail
      refine wp_loop_rounds 1 ?_
      rw [rounds_succ]
      go_wp2_with fail
      refine wp_loop_rounds 1 ?_
      rw [rounds_succ]
      go_wp2_with fail
      refine wp_loop_rounds 1 ?_
      rw [rounds_succ]
      go_wp2
      go_ret
      exact ⟨rfl, (HB.out.alloc (by omega) _).alloc (by simp; omega) _⟩

set_option maxRecDepth 100000 in
set_option maxHeartbeats 4000000 in
theorem once_walk (many : Int) (fa sa ta : Option Addr) (fc sc tc : Nat) (fl sl tl : List Int) (w : World) (hf : IntRow w fa fl) (hs : IntRow w sa sl) (ht : IntRow w ta tl) (h1 : wrap64 ((fl.length : Int) + (sl.length : Int)) ≤ 500) (lf : fl.length ≤ 9223372036854775807) (ls : sl.length ≤ 9223372036854775807) (h2 : tl.length ≤ 2000) (hpos : 0 < pk many 700) :
    Calls Try.prog 7 #[.int .i64 many, .slice fa fl.length fc, .slice sa sl.length sc, .slice ta tl.length tc] w fun e w' => e = .returned (.bool true) ∧ Below w.heap.size w w' := by
  have hpk := pk_in (a := many) (n := 700) (by decide)
  have p1 := pick_any many 700 (by decide) (by decide)
  obtain ⟨n, hn⟩ : ∃ n : Nat, pk many 700 = (n : Int) := ⟨(pk many 700).toNat, by omega⟩
  rw [hn] at p1 hpk hpos
  have HF : Hid (IntRow w fa fl) := hf
  have HS : Hid (IntRow w sa sl) := hs
  have HT : Hid (IntRow w ta tl) := ht
  obtain ⟨nf, hnf⟩ : ∃ nf, fl.length = nf := ⟨_, rfl⟩
  obtain ⟨ns, hns⟩ : ∃ ns, sl.length = ns := ⟨_, rfl⟩
  obtain ⟨nt, hnt⟩ : ∃ nt, tl.length = nt := ⟨_, rfl⟩
  have HNf : Hid (fl.length = nf) := hnf
  have HNs : Hid (sl.length = ns) := hns
  have HNt : Hid (tl.length = nt) := hnt
  rw [hnf, hns] at h1
  rw [hnf] at lf
  rw [hns] at ls
  rw [hnt] at h2
  rw [hnf, hns, hnt]
  have k1 : decide ((500 : Int) < wrap64 ((nf : Int) + (ns : Int))) = false := decide_eq_false (by omega)
  have k2 : decide ((2000 : Int) < (nt : Int)) = false := decide_eq_false (by omega)
  have hnew := fun v => sdrNew_good 1 3 v (by decide)
  clear hn hf hs ht hnf hns hnt
  go_enter Try.func7, Try.ntmps7
  go_wp2_with fail
  refine (p1 _).mono ?_
  rintro e w1 ⟨rfl, hw1⟩
  replace hw1 := hw1.symm
  subst hw1
  clear p1
  go_wp2_with fail
  refine (hnew _).mono ?_
  rintro e w1 ⟨O, P, rfl, hs1, hb1, hlo⟩
  clear hnew
  go_wp2_with fail
  refine (rcvNew _).mono ?_
  rintro e w2 ⟨OR, PR, rfl, hr2, hb2, hlr⟩
  go_wp2_with fail
  refine (linked_any _).mono ?_
  rintro e w3 ⟨rfl, hb3⟩
  have HG0 : Hid (Gone w w3 w3 0 O OR P PR [] 0 0 0 (.slice none 0 0) (fun _ => ByteArray.empty)) := by
    have hb12 := hb1.size
    have hb23 := hb2.size
    have hs2 := hs1.keep (Same.of_below hb2 hs1.lt)
    refine ⟨hs2.keep (Same.of_below hb3 hs2.lt), hr2.keep (Same.of_below hb3 hr2.lt), fun c hc hn => ?_, by simpa [itemCells] using World.ownsRow_nil _ _ _ _, fun g hg => (by simp [Value.ownBlock] at hg), hlo, fun c hc => Nat.le_trans hb1.size (hlr c hc), hb1.trans ((hb2.trans (hb3.mono hb2.size)).mono hb1.size), Nat.le_refl _, by have := hb3.size; omega⟩
    have := hs1.lt c hc
    have := hlr c hn
    omega
  obtain ⟨i1, gi, gz0, gz1, gz2⟩ := info_parts Try.infoItem
  clear hs1 hr2 hb1 hb2 hb3 hlo hlr
  go_wp2_with fail
  go_loopw [13, 12] (fun t v wr => ∃ (k : Nat) (O : List Nat) (ds : List ByteArray) (last now : Int) (dd : Nat → ByteArray), k ≤ n ∧ t = .int .i64 k ∧ Hid (Gone w w3 wr k O OR P PR ds k last now v dd) ∧ Hid (ds.length = k ∧ 0 ≤ last ∧ last ≤ (k : Int) ∧ now ≤ (k : Int) ∧ ((0 : Int) < (k : Int) → last + 1 ≤ (k : Int)))) (fun t _ _ => n - (intOf t).toNat)
  case atStart => exact ⟨0, O, [], 0, 0, _, Nat.zero_le _, rfl, HG0, ⟨rfl, by decide, by decide, by decide, fun h => absurd h (by decide)⟩⟩
  case round =>
    obtain ⟨k, O, ds, last, now, dd, hk, rfl, HG, HC⟩ := hrel
    by_cases hlt : k < n
    · have kk : (k : Int) < (n : Int) := by omega
      obtain ⟨hdl, hl0, hl1, hnow, hlast⟩ := HC.out
      obtain ⟨wA, hwA⟩ : ∃ v, wr.alloc (.cells #[.int .u8 ((k : Int) % 256), .int .u8 ((k : Int) / 256)] 5) = v := ⟨_, rfl⟩
      obtain ⟨bA, hbA⟩ : ∃ x, wr.heap.size = x := ⟨_, rfl⟩
      have hcv := run_convert_bytes_arg (P := Try.prog) wA 80 5 Try.underlying80 Try.underlying5 bA 0 2 2 [(k : Int) % 256, (k : Int) / 256] rfl (fun i hi => by
        rw [← hwA, ← hbA]
        match i, hi with
        | 0, _ => simp
        | 1, _ => simp) 9 Try.underlying9
      have hDs := strOfNums_size [(k : Int) % 256, (k : Int) / 256]
      generalize strOfNums [(k : Int) % 256, (k : Int) / 256] = D at hcv hDs
      have hAA : Below wr.heap.size wr wA := by rw [← hwA]; exact (Below.refl _ _).alloc (Nat.le_refl _) _
      have HGA : Hid (Gone w w3 wA k O OR P PR ds k last now u12 dd) := HG.out.below hAA
      have hP := sdrPut HGA.out.s D (by omega)
      have hPk : putK (ds.length - k) 3 D = 0 := by
        have : D.size = 2 := hDs
        unfold putK
        rw [if_neg (by omega), if_neg (by omega)]
      rw [hPk] at hP
      have HPA : Hid (putAll 0 ds D = ds ++ [D]) := rfl
      clear hPk hAA HG
      go_wp2_with fail
      clear hwA hbA hcv
      refine hP.mono ?_
      rintro e w4 ⟨rfl, O1, hs1, hf1⟩
      rw [HPA.out] at hs1
      have HG1 : Hid (Gone w w3 w4 k O1 OR P PR (ds ++ [D]) k last now u12 dd) := HGA.out.call hf1 hs1
      have hS := sdrSend HG1.out.s k (by simp; omega) hl0 (by omega) (by decide) (by decide)
      have hSk : sendK (ds ++ [D]).length k k now last 1 = 0 := by
        unfold sendK noneB
        rw [if_neg (by omega), if_neg (by omega), if_neg]
        simp only [List.length_append, List.length_cons, List.length_nil, hdl, Bool.or_eq_true, Bool.and_eq_true, decide_eq_true_eq]
        omega
      rw [hSk] at hS
      have HDD : Hid ((ds ++ [D]).length = k + 1) := by show _ = _; simp [hdl]
      generalize ds ++ [D] = ds1 at hS HG1 HDD
      have e1 : sendSeq 0 k = ordN k := rfl
      have e2 : sendWent 0 k = k + 1 := rfl
      have e3 : sendLast 0 (k : Int) last = (k : Int) := rfl
      have e4 : sendNow 0 (k : Int) now = (k : Int) := rfl
      rw [e1, e2, e3, e4] at hS
      generalize sendDat 0 ds1 k = E at hS
      clear hs1 hf1 HGA hP hSk e1 e2 e3 e4 HPA hDs
      rw [show errV 0 = .nilIface from rfl] at hS ⊢
      go_wp2_with fail
      refine hS.mono ?_
      rintro e w5 ⟨rfl, O2, hs2, hf2⟩
      have HG2 : Hid (Gone w w3 w5 k O2 OR P PR ds1 (k + 1) k k u12 dd) := HG1.out.call hf2 hs2
      clear hS hs2 hf2 HG1
      obtain ⟨w6, hw6⟩ : ∃ v, w5.alloc (.cells #[.int .i64 (ordN k), .string E] 67) = v := ⟨_, rfl⟩
      obtain ⟨Y, hYe⟩ : ∃ Y, w5.heap.size = Y := ⟨_, rfl⟩
      have hA6 : Below w5.heap.size w5 w6 := by rw [← hw6]; exact (Below.refl _ _).alloc (Nat.le_refl _) _
      have j0 : w6.cell? ⟨Y, 0, none⟩ = some (.int .i64 (ordN k)) := by rw [← hw6, ← hYe]; simp
      have j1 : w6.cell? ⟨Y, 1, none⟩ = some (.string E) := by rw [← hw6, ← hYe]; simp
      have hYl : Y < w6.heap.size := by rw [← hw6, ← hYe]; simp
      have HG3 : Hid (Gone w w3 w6 k O2 OR P PR ds1 (k + 1) k k u12 dd) := HG2.out.below hA6
      have hO6 := HG3.out.own.alloc (.cells #[.int .i64 (ordN k), .string E] 67)
      have hsz6 := HG3.out.sz
      clear HG2 hA6
      go_wp2_with (at_builtin; refine wpList_append_own_at _ rfl _ _ 77 rfl w3.heap.size 67 i1 (.agg #[.int .i64 0, .string ByteArray.empty]) 2 24 Try.underlying77 gi gz0 gz1 gz2 rfl (by decide) u12 k _ rfl hO6 ⟨w6.heap.size, 0, none⟩ 1 1 [.int .i64 (ordN k), .string E] rfl rfl (row_cells w6 #[.int .i64 (ordN k), .string E] 67) (by simp [Value.oneCell']) (by unfold maxLen; omega) (by omega) (by simp; omega) ?_; apply Hid.out)
      unfold Hid
      intro v' w7 hown' hgrow _ hat
      have HG4 : Hid (Gone w w3 w7 (k + 1) O2 OR P PR ds1 (k + 1) k k v' (fun j => if j = k then E else dd j)) := HG3.out.push hown' hgrow (by simpa using hat)
      clear hown' hgrow hat HG3 hO6 hw6 hYe j0 j1 hYl
      go_wp2_with fail
      exact ⟨⟨k + 1, O2, ds1, k, k, _, by omega, by go_num, HG4, ⟨HDD.out, by omega, by omega, by omega, fun _ => by omega⟩⟩, by simp [intOf]; omega⟩
    · have hkn : k = n := by omega
      subst hkn
      obtain ⟨wa, hwae⟩ : ∃ x, x = wr := ⟨wr, rfl⟩
      subst hwae
      obtain ⟨i2, fi, fz0, fz1, fz2⟩ := info_parts Try.infoInt
      have hmk := run_makeSlice (P := Try.prog) wa 46 3 i2 _ Try.underlying46 fi fz0 .i64 .i64 (k : Int) (k : Int) (by omega) (Int.le_refl _) (by rw [fz1]; simp; omega) (by rw [fz2]; omega) (by omega)
      rw [fz1] at hmk
      simp only [Int.toNat_natCast, Nat.mul_one] at hmk
      obtain ⟨CC, hCC⟩ : ∃ CC, madeCells (Value.int .i64 0).cells k = CC := ⟨_, rfl⟩
      have hel : ∀ j, j < k → CC[j]? = some (.int .i64 0) := fun j hj => by rw [← hCC]; simp [madeCells, Value.cells, hj, Nat.mod_one]
      rw [hCC] at hmk
      obtain ⟨wb, hwb⟩ : ∃ v, wa.alloc (.cells CC 3) = v := ⟨_, rfl⟩
      obtain ⟨LB, hLB⟩ : ∃ x, wa.heap.size = x := ⟨_, rfl⟩
      have hAb : Below wa.heap.size wa wb := by rw [← hwb]; exact (Below.refl _ _).alloc (Nat.le_refl _) _
      have HGb : Hid (Gone w w3 wb k O OR P PR ds k last now u12 dd) := HG.out.below hAb
      have hLn : ∀ g, u12.ownBlock = some g → g ≠ LB := fun g hg => by have := (HG.out.own.lt g hg).2; omega
      have hLR : LB ∉ OR := fun y => by have := HG.out.r.lt LB y; omega
      have hLw : w.heap.size ≤ LB := by have := HG.out.lw; have := HG.out.sz; omega
      have HLR0 : Hid (LostRow wb wb LB k (fun _ => false) (fun _ => false)) := by
        refine ⟨fun j hj => ?_, fun j => ?_, Turns.refl _ _ _, by rw [← hwb, ← hLB]; simp⟩
        · rw [← hwb, ← hLB]
          have := hel j hj
          simp [LV]
          simpa using this
        · rw [← hwb, ← hLB]; simp
      have HLn : Hid _ := hLn
      clear hCC hel fi fz0 fz1 fz2 hAb hLn HG HC hlt hk gi gz0 gz1 gz2
      go_wp2_with fail
      clear hmk hwb hLB
      go_loopw [17] (fun t wr => ∃ (q : Nat) (LX : Nat → Bool), q ≤ nf ∧ t = .int .i64 q ∧ Hid (LostRow wb wr LB k LX (fun _ => false))) (fun t _ => nf - (intOf t).toNat)
      case atStart => exact ⟨0, _, Nat.zero_le _, rfl, HLR0⟩
      case round =>
        obtain ⟨q, LX, hq, rfl, HLx⟩ := hrel
        by_cases hql : q < nf
        · obtain ⟨rb, off, rfl, hrb, hcell⟩ := HF.out (by rw [HNf.out]; omega)
          have hbr : Below w.heap.size w wr := HGb.out.old.trans (HLx.out.turn.below HGb.out.old.size hLw hLw)
          have y0 := (hbr.cell (p := ⟨rb, off + q, none⟩) hrb).trans (hcell q (by rw [HNf.out]; exact hql))
          have hrl := Nat.lt_of_lt_of_le hrb hbr.size
          generalize fl.getD q 0 = x at y0
          have kq : (q : Int) < (nf : Int) := by omega
          have hpp := pk_in (a := x) (n := (k : Int)) (by omega)
          have hpc := pick_any x (k : Int) (by omega) (by omega)
          obtain ⟨p, hpe⟩ : ∃ p : Nat, pk x (k : Int) = (p : Int) := ⟨(pk x (k : Int)).toNat, by omega⟩
          rw [hpe] at hpp hpc
          have hpk2 : p < k := by omega
          have kp : (p : Int) < (k : Int) := by omega
          have z0 := HLx.out.cell p hpk2
          have z1 := HLx.out.soft p
          have zl : LB < wr.heap.size := Nat.lt_of_lt_of_le HLx.out.lt HLx.out.turn.size
          have eO := LV_or1 (LX p) false
          have HNfT : Hid (LostRow wb (wr.setCell ⟨LB, p, none⟩ (.int .i64 (LV true false))) LB k (fun j => if j = p then true else LX j) (fun _ => false)) := HLx.out.set0 hpk2
          clear hpe hcell hbr
          generalize LV (LX p) false = ov at z0 eO
          generalize LV true false = nv at eO HNfT
          go_wp2_with fail
          refine (hpc _).mono ?_
          rintro ev wz ⟨rfl, hwz⟩
          replace hwz := hwz.symm
          subst hwz
          go_wp2_with fail
          exact ⟨⟨q + 1, _, by omega, by go_num, HNfT⟩, by simp [intOf]; omega⟩
        · have hqe : q = nf := by omega
          have kq : decide ((q : Int) < (nf : Int)) = false := decide_eq_false (by omega)
          obtain ⟨wc, hwxe⟩ : ∃ x, x = wr := ⟨wr, rfl⟩
          subst hwxe
          go_wp2_with fail
          obtain ⟨LXA, hLXA⟩ : ∃ L, L = LX := ⟨LX, rfl⟩
          subst hLXA
          clear hq hql hqe kq
          go_loopw [18] (fun t wr => ∃ (q : Nat) (LX : Nat → Bool), q ≤ ns ∧ t = .int .i64 q ∧ Hid (LostRow wb wr LB k LXA LX)) (fun t _ => ns - (intOf t).toNat)
          case atStart => exact ⟨0, _, Nat.zero_le _, rfl, HLx⟩
          case round =>
            clear HLx
            obtain ⟨q, LX, hq, rfl, HLx⟩ := hrel
            by_cases hql : q < ns
            · obtain ⟨rb, off, rfl, hrb, hcell⟩ := HS.out (by rw [HNs.out]; omega)
              have hbr : Below w.heap.size w wr := HGb.out.old.trans (HLx.out.turn.below HGb.out.old.size hLw hLw)
              have y0 := (hbr.cell (p := ⟨rb, off + q, none⟩) hrb).trans (hcell q (by rw [HNs.out]; exact hql))
              have hrl := Nat.lt_of_lt_of_le hrb hbr.size
              generalize sl.getD q 0 = x at y0
              have kq : (q : Int) < (ns : Int) := by omega
              have hpp := pk_in (a := x) (n := (k : Int)) (by omega)
              have hpc := pick_any x (k : Int) (by omega) (by omega)
              obtain ⟨p, hpe⟩ : ∃ p : Nat, pk x (k : Int) = (p : Int) := ⟨(pk x (k : Int)).toNat, by omega⟩
              rw [hpe] at hpp hpc
              have hpk2 : p < k := by omega
              have kp : (p : Int) < (k : Int) := by omega
              have z0 := HLx.out.cell p hpk2
              have z1 := HLx.out.soft p
              have zl : LB < wr.heap.size := Nat.lt_of_lt_of_le HLx.out.lt HLx.out.turn.size
              have eO := LV_or2 (LXA p) (LX p)
              have HNsT : Hid (LostRow wb (wr.setCell ⟨LB, p, none⟩ (.int .i64 (LV (LXA p) true))) LB k LXA (fun j => if j = p then true else LX j)) := HLx.out.set1 hpk2
              clear hpe hcell hbr
              generalize LV (LXA p) (LX p) = ov at z0 eO
              generalize LV (LXA p) true = nv at eO HNsT
              go_wp2_with fail
              refine (hpc _).mono ?_
              rintro ev wz ⟨rfl, hwz⟩
              replace hwz := hwz.symm
              subst hwz
              go_wp2_with fail
              exact ⟨⟨q + 1, _, by omega, by go_num, HNsT⟩, by simp [intOf]; omega⟩
            · have hqe : q = ns := by omega
              have kq : decide ((q : Int) < (ns : Int)) = false := decide_eq_false (by omega)
              obtain ⟨wd, hwxe⟩ : ∃ x, x = wr := ⟨wr, rfl⟩
              subst hwxe
              go_wp2_with fail
              clear hq hql hqe kq
              go_loopw [20, 19] (fun t rv wr => ∃ q r : Nat, q ≤ k ∧ t = .int .i64 q ∧ rv = .int .i64 r ∧ wr = wd ∧ Hid (RunInv LXA LX q r)) (fun t _ _ => k - (intOf t).toNat)
              case atStart => exact ⟨0, 0, Nat.zero_le _, rfl, rfl, rfl, RunInv.start _ _⟩
              case round =>
                obtain ⟨q, r, hq, rfl, rfl, hwr, HRI⟩ := hrel
                subst hwr
                by_cases hql : q < k
                · have kq : (q : Int) < (k : Int) := by omega
                  have z0 := HLx.out.cell q hql
                  have zl : LB < wr.heap.size := Nat.lt_of_lt_of_le HLx.out.lt HLx.out.turn.size
                  have e3 := LV_3 (LXA q) (LX q)
                  have hr50 := HRI.out.1
                  generalize LV (LXA q) (LX q) = lv at z0 e3
                  cases hb : (LXA q && LX q)
                  · rw [hb] at e3
                    have HR2 : Hid (RunInv LXA LX (q + 1) 0) := HRI.out.broken hb
                    clear hb HRI
                    go_wp2
                    exact ⟨⟨q + 1, 0, by omega, by go_num, rfl, trivial, HR2⟩, by simp [intOf]; omega⟩
                  · rw [hb] at e3
                    clear hb
                    by_cases h50 : r + 1 ≤ 50
                    · have HR2 : Hid (RunInv LXA LX (q + 1) (r + 1)) := HRI.out.both h50
                      have k50 : decide ((50 : Int) < (r : Int) + 1) = false := decide_eq_false (by omega)
                      clear HRI
                      go_wp2
                      exact ⟨⟨q + 1, r + 1, by omega, by go_num, by go_num, trivial, HR2⟩, by simp [intOf]; omega⟩
                    · have k50 : (50 : Int) < (r : Int) + 1 := by omega
                      have HBw : Hid (Below w.heap.size w wr) := HGb.out.old.trans (HLx.out.turn.below HGb.out.old.size hLw hLw)
                      go_wp2
                      go_ret
                      exact ⟨rfl, HBw.out⟩
                · have hqe : q = k := by omega
                  subst hqe
                  have HNR : Hid (NoRun q LXA LX) := HRI.out.noRun
                  clear HRI
                  go_wp2_with fail
                  clear hq hql
                  obtain ⟨IB, icap, hu12, hIb, hIl, hIc⟩ := own_items HGb.out.own (by omega)
                  subst hu12
                  obtain ⟨wf, hwf⟩ : ∃ v, wr.alloc (.cells #[.int .i64 0, .int .i64 0] 83) = v := ⟨_, rfl⟩
                  obtain ⟨AB, hAB⟩ : ∃ x, wr.heap.size = x := ⟨_, rfl⟩
                  have hwfb : Below wr.heap.size wr wf := by rw [← hwf]; exact (Below.refl _ _).alloc (Nat.le_refl _) _
                  have hwfs : wf.heap.size = AB + 1 := by rw [← hwf, ← hAB]; simp
                  have HM0 : Hid (Mn w wf IB LB AB (AB + 1) q dd LXA LX OR PR 0 0 [] (.slice none 0 0) 0 0) := by
                    have ht := HLx.out.turn
                    have hbs := ht.size
                    have hLl := HLx.out.lt
                    have hneI : IB ≠ LB := HLn.out IB rfl
                    have hr1 : Rcv wr OR PR (-1) 0 0 := HGb.out.r.keep ⟨ht.size, fun c hc => ht.block c (HGb.out.r.lt c hc) (fun e => hLR (e ▸ hc)) (fun e => hLR (e ▸ hc))⟩
                    have hcell : ∀ (b i : Nat), b < wr.heap.size → wf.cell? ⟨b, i, none⟩ = wr.cell? ⟨b, i, none⟩ := fun b i hb => hwfb.cell (p := ⟨b, i, none⟩) hb
                    have hIw : IB < wr.heap.size := by omega
                    refine ⟨hr1.keep (Same.of_below hwfb hr1.lt), fun j hj => ?_, fun j hj => ?_, by rw [← hwf, ← hAB]; simp, by rw [← hwf, ← hAB]; simp, fun i => by rw [← hwf, ← hAB]; simp, World.ownsRow_nil _ _ _ _, (HGb.out.off IB rfl).2, hLR, fun y => ?_, fun g hg => (by simp [Value.ownBlock] at hg), by omega, by omega, by omega, by omega, by omega, by omega, HGb.out.lr, ?_, ?_, ?_⟩
                    · have c := hIc j hj
                      exact ⟨(hcell IB _ hIw).trans ((ht.cell (p := ⟨IB, j * 2, none⟩) hIl hneI hneI).trans c.1), (hcell IB _ hIw).trans ((ht.cell (p := ⟨IB, j * 2 + 1, none⟩) hIl hneI hneI).trans c.2)⟩
                    · exact (hcell LB _ (by omega)).trans (HLx.out.cell j hj)
                    · have := hr1.lt AB y; omega
                    · have := HGb.out.old.size; omega
                    · have := HGb.out.old.size; omega
                    · exact (HGb.out.old.trans (ht.below HGb.out.old.size hLw hLw)).trans (hwfb.mono (by have := HGb.out.old.size; omega))
                  have HON0 : Hid (On q LXA LX 0 0 []) := On.start q LXA LX
                  obtain ⟨i3, qi, qz0, qz1, qz2⟩ := info_parts Try.infoInt
                  rw [hwf, hAB]
                  clear hwf hAB hwfb hwfs hIb hIl hIc HLx HGb HLR0 HLn HG0
                  go_loopw [24, 22, 23] (fun t gv lv wr => ∃ (a0 a1 : Nat) (got : List Nat) (OR : List Nat) (ta tb : Int), t = .int .i64 ((a0 + a1 : Nat) : Int) ∧ lv = .int .i64 (lastV got) ∧ Hid (Mn w wr IB LB AB (AB + 1) q dd LXA LX OR PR a0 a1 got gv ta tb) ∧ Hid (On q LXA LX a0 a1 got) ∧ Hid (0 ≤ ta ∧ 0 ≤ tb ∧ ta + tb ≤ ((a0 + a1 : Nat) : Int))) (fun t _ _ _ => 2 * q - (intOf t).toNat)
                  case atStart => exact ⟨0, 0, [], OR, 0, 0, rfl, rfl, HM0, HON0, ⟨by decide, by decide, by decide⟩⟩
                  case round =>
                    clear HM0 HON0
                    obtain ⟨a0, a1, got, OR, ta', tb', rfl, rfl, HM, HON, HTC⟩ := hrel
                    obtain ⟨N, hN⟩ : ∃ N, a0 + a1 = N := ⟨_, rfl⟩
                    have HN : Hid (a0 + a1 = N) := hN
                    rw [hN] at HTC
                    rw [hN]
                    have hNb : N ≤ 2 * q := by have := HON.out.m0; have := HON.out.m1; omega
                    clear hN
                    have d0 := HON.out.d0
                    have d1 := HON.out.d1
                    have m0 := HON.out.m0
                    have m1 := HON.out.m1
                    have y0 := HM.out.c0
                    have y1 := HM.out.c1
                    have yl : AB < wr.heap.size := Nat.lt_of_lt_of_le HM.out.ga HM.out.gs
                    go_upto_region 40 with fail
                    go_cut [156] (fun tv wx => tv = .bool (decide (a0 < q ∨ a1 < q)) ∧ wx = wr)
                    case first =>
                      by_cases h0 : a0 < q
                      · have k0 : (a0 : Int) < (q : Int) := by omega
                        have HD : Hid (decide (a0 < q ∨ a1 < q) = true) := decide_eq_true (.inl h0)
                        go_wp2_with fail
                        go_meet
                        exact ⟨by rw [HD.out], rfl⟩
                      · have k0 : decide ((a0 : Int) < (q : Int)) = false := decide_eq_false (by omega)
                        by_cases h1 : a1 < q
                        · have k1 : (a1 : Int) < (q : Int) := by omega
                          have HD : Hid (decide (a0 < q ∨ a1 < q) = true) := decide_eq_true (.inr h1)
                          go_wp2_with fail
                          go_meet
                          exact ⟨by rw [HD.out], rfl⟩
                        · have k1 : decide ((a1 : Int) < (q : Int)) = false := decide_eq_false (by omega)
                          have HD : Hid (decide (a0 < q ∨ a1 < q) = false) := decide_eq_false (by omega)
                          go_wp2_with fail
                          go_meet
                          exact ⟨by rw [HD.out], rfl⟩
                    case rest =>
                      obtain ⟨rfl, hwx⟩ := hcut
                      subst hwx
                      by_cases hgo : a0 < q ∨ a1 < q
                      · rw [decide_eq_true hgo]
                        obtain ⟨e2, he2⟩ : ∃ e, N % 2 = e := ⟨_, rfl⟩
                        have he2b : e2 ≤ 1 := by omega
                        have hmod2 : Int.tmod (N : Int) 2 = (e2 : Int) := by rw [← he2, Int.tmod_eq_emod_of_nonneg (by omega)]; simp
                        clear he2
                        go_upto_if 163 with fail
                        go_cut [25] (fun cv wx => ∃ c : Nat, c ≤ 1 ∧ cv = .int .i64 c ∧ wx = wc)
                        case first =>
                          by_cases hnt : 0 < nt
                          · have kt : (0 : Int) < (nt : Int) := by omega
                            obtain ⟨rb, off, rfl, hrb, hcell⟩ := HT.out (by rw [HNt.out]; exact hnt)
                            obtain ⟨p, hpe⟩ : ∃ p, N % nt = p := ⟨_, rfl⟩
                            have hpl : p < nt := by rw [← hpe]; exact Nat.mod_lt _ hnt
                            have hmod : Int.tmod (N : Int) (nt : Int) = (p : Int) := by rw [← hpe, Int.tmod_eq_emod_of_nonneg (by omega)]; simp
                            have yt := (HM.out.old.cell (p := ⟨rb, off + p, none⟩) hrb).trans (hcell p (by rw [HNt.out]; exact hpl))
                            generalize tl.getD p 0 = x at yt
                            have kp : (p : Int) < (nt : Int) := by omega
                            have knz : ((nt : Int) == 0) = false := by simp; omega
                            have hrl : rb < wc.heap.size := Nat.lt_of_lt_of_le hrb HM.out.old.size
                            have hpp := pk_in (a := x) (n := 2) (by decide)
                            have hpc := pick_any x 2 (by decide) (by decide)
                            obtain ⟨c, hce⟩ : ∃ c : Nat, pk x 2 = (c : Int) := ⟨(pk x 2).toNat, by omega⟩
                            rw [hce] at hpp hpc
                            clear hpe hcell hce
                            go_wp2_with fail
                            refine (hpc _).mono ?_
                            rintro ev wz ⟨rfl, hwz⟩
                            replace hwz := hwz.symm
                            subst hwz
                            go_wp2_with fail
                            go_meet
                            exact ⟨c, by omega, rfl, rfl⟩
                          · have kt : decide ((0 : Int) < (nt : Int)) = false := decide_eq_false (by omega)
                            go_wp2_with fail
                            go_meet
                            exact ⟨e2, he2b, rfl, rfl⟩
                        case rest =>
                          obtain ⟨c, hc1, rfl, hwx⟩ := hcut
                          subst hwx
                          clear hmod2 he2b e2
                          obtain ⟨SW, hSW⟩ : ∃ b, (if c = 0 then decide (a0 = q ∨ a1 + 50 < a0) else decide (a1 = q ∨ a0 + 50 < a1)) = b := ⟨_, rfl⟩
                          have HSW : Hid ((if c = 0 then decide (a0 = q ∨ a1 + 50 < a0) else decide (a1 = q ∨ a0 + 50 < a1)) = SW) := hSW
                          clear hSW
                          have z0 := HM.out.c0
                          have z1 := HM.out.c1
                          obtain ⟨wv, hwv⟩ : ∃ x, x = wc := ⟨wc, rfl⟩
                          subst hwv
                          go_upto_region 45 with fail
                          go_cut [187] (fun tv wx => tv = .bool SW ∧ ∃ qn, wx = wv.drewN qn)
                          case first =>
                            rcases Nat.le_one_iff_eq_zero_or_eq_one.1 hc1 with hc | hc
                            · subst hc
                              by_cases g1 : a0 = q
                              · have g1' : ((a0 : Int) == (q : Int)) = true := by simp; omega
                                have HB : Hid (SW = true) := by show _ = _; rw [← HSW.out, if_pos rfl]; exact decide_eq_true (.inl g1)
                                clear g1
                                go_quiet (fail)
                                go_wp2_with fail
                                go_meet
                                exact ⟨by rw [HB.out], _, rfl⟩
                              · have g1' : ((a0 : Int) == (q : Int)) = false := by simp; omega
                                by_cases g2 : a1 + 50 < a0
                                · have g2' : (50 : Int) < (a0 : Int) - (a1 : Int) := by omega
                                  have HB : Hid (SW = true) := by show _ = _; rw [← HSW.out, if_pos rfl]; exact decide_eq_true (.inr g2)
                                  go_quiet (fail)
                                  go_wp2_with fail
                                  go_meet
                                  exact ⟨by rw [HB.out], _, rfl⟩
                                · have g2' : decide ((50 : Int) < (a0 : Int) - (a1 : Int)) = false := decide_eq_false (by omega)
                                  have HB : Hid (SW = false) := by show _ = _; rw [← HSW.out, if_pos rfl]; exact decide_eq_false (by omega)
                                  go_quiet (fail)
                                  go_wp2_with fail
                                  go_meet
                                  exact ⟨by rw [HB.out], _, rfl⟩
                            · subst hc
                              by_cases g1 : a1 = q
                              · have g1' : ((a1 : Int) == (q : Int)) = true := by simp; omega
                                have HB : Hid (SW = true) := by show _ = _; rw [← HSW.out, if_neg (by decide)]; exact decide_eq_true (.inl g1)
                                clear g1
                                go_quiet (fail)
                                go_wp2_with fail
                                go_meet
                                exact ⟨by rw [HB.out], _, rfl⟩
                              · have g1' : ((a1 : Int) == (q : Int)) = false := by simp; omega
                                by_cases g2 : a0 + 50 < a1
                                · have g2' : (50 : Int) < (a1 : Int) - (a0 : Int) := by omega
                                  have HB : Hid (SW = true) := by show _ = _; rw [← HSW.out, if_neg (by decide)]; exact decide_eq_true (.inr g2)
                                  go_quiet (fail)
                                  go_wp2_with fail
                                  go_meet
                                  exact ⟨by rw [HB.out], _, rfl⟩
                                · have g2' : decide ((50 : Int) < (a1 : Int) - (a0 : Int)) = false := decide_eq_false (by omega)
                                  have HB : Hid (SW = false) := by show _ = _; rw [← HSW.out, if_neg (by decide)]; exact decide_eq_false (by omega)
                                  go_quiet (fail)
                                  go_wp2_with fail
                                  go_meet
                                  exact ⟨by rw [HB.out], _, rfl⟩
                          case rest =>
                            obtain ⟨rfl, qn, hwx⟩ := hcut
                            obtain ⟨wu, hwu⟩ : ∃ x, x = wc := ⟨wc, rfl⟩
                            subst hwu
                            have HMu : Hid (Mn w wu IB LB AB (AB + 1) q dd LXA LX OR PR a0 a1 got u22 ta' tb') := by rw [hwx]; exact HM.out.drawn qn
                            clear hwx HM z0 z1 y0 y1 yl
                            go_upto_if 187 with fail
                            go_cut [25] (fun cv wx => ∃ c' : Nat, c' ≤ 1 ∧ cv = .int .i64 c' ∧ (c' = 0 → a0 < q ∧ a0 + 1 ≤ a1 + 51) ∧ (c' = 1 → a1 < q ∧ a1 + 1 ≤ a0 + 51) ∧ wx = wu)
                            case first =>
                              have hs := HSW.out
                              rcases Nat.le_one_iff_eq_zero_or_eq_one.1 hc1 with hc | hc
                              · subst hc
                                rw [if_pos rfl] at hs
                                cases SW
                                · have hs2 := of_decide_eq_false hs
                                  have HQ : Hid (¬ (a0 = q ∨ a1 + 50 < a0)) := hs2
                                  clear hs hs2 HSW
                                  go_wp2_with fail
                                  go_meet
                                  exact ⟨0, by omega, rfl, fun _ => by have := HQ.out; omega, fun h => absurd h (by decide), rfl⟩
                                · have hs2 := of_decide_eq_true hs
                                  have HQ : Hid (a0 = q ∨ a1 + 50 < a0) := hs2
                                  clear hs hs2 HSW
                                  go_wp2_with fail
                                  go_meet
                                  exact ⟨1, by omega, rfl, fun h => absurd h (by decide), fun _ => by have := HQ.out; omega, rfl⟩
                              · subst hc
                                rw [if_neg (by decide)] at hs
                                cases SW
                                · have hs2 := of_decide_eq_false hs
                                  have HQ : Hid (¬ (a1 = q ∨ a0 + 50 < a1)) := hs2
                                  clear hs hs2 HSW
                                  go_wp2_with fail
                                  go_meet
                                  exact ⟨1, by omega, rfl, fun h => absurd h (by decide), fun _ => by have := HQ.out; omega, rfl⟩
                                · have hs2 := of_decide_eq_true hs
                                  have HQ : Hid (a1 = q ∨ a0 + 50 < a1) := hs2
                                  clear hs hs2 HSW
                                  go_wp2_with fail
                                  go_meet
                                  exact ⟨0, by omega, rfl, fun _ => by have := HQ.out; omega, fun h => absurd h (by decide), rfl⟩
                            case rest =>
                              obtain ⟨c', hc', rfl, hp0, hp1, hwx⟩ := hcut
                              subst hwx
                              obtain ⟨wt, hwt⟩ : ∃ x, x = wc := ⟨wc, rfl⟩
                              subst hwt
                              clear HSW hc1 hgo
                              have z0 := HMu.out.c0
                              have z1 := HMu.out.c1
                              have zz0 := HMu.out.z 0
                              have zz1 := HMu.out.z 1
                              have yl : AB < wt.heap.size := Nat.lt_of_lt_of_le HMu.out.ga HMu.out.gs
                              have ll : LB < wt.heap.size := Nat.lt_of_lt_of_le HMu.out.gl HMu.out.gs
                              have nAL := HMu.out.nAL
                              have nLA := Ne.symm nAL
                              rcases Nat.le_one_iff_eq_zero_or_eq_one.1 hc' with hc | hc
                              · subst hc
                                obtain ⟨b1, b2⟩ := hp0 rfl
                                clear hp0 hp1 hc'
                                have zL := HMu.out.l0 a0 b1
                                have eb := LV_b0 (LXA a0) (LX a0)
                                have ka : (a0 : Int) < (q : Int) := by omega
                                generalize LV (LXA a0) (LX a0) = lv at zL eb
                                have hMs := HMu.out.step 0 (a0 + 1) (by omega)
                                have HMs : Hid (Mn w (wt.setCell ⟨AB, 0, none⟩ (.int .i64 ((a0 : Int) + 1))) IB LB AB (AB + 1) q dd LXA LX OR PR (a0 + 1) a1 got u22 ta' tb') := by
                                  have := hMs
                                  show Mn _ _ _ _ _ _ _ _ _ _ _ _ _ _ _ _ _ _
                                  simpa using this
                                clear hMs
                                have hNl : N < 2 * q := by have := HN.out; omega
                                cases hL : LXA a0
                                · rw [hL] at eb
                                  have hTk : takeB (numV got) (ordN a0) = decide (lastV got < (a0 : Int)) := HON.out.takes HNR.out
                                  have hr3 := HTC.out
                                  have hT := rcvTake HMs.out.r (ordN a0) (dd a0) (numV_in got).2 hr3.1 (by omega) hr3.2.1 (by omega)
                                  rw [hTk] at hT
                                  have iI : IB < wt.heap.size := Nat.lt_of_lt_of_le HMu.out.gi HMu.out.gs
                                  have nAI := HMu.out.nAI
                                  have nIA := Ne.symm nAI
                                  have i0 := (HMu.out.i0 a0 b1).1
                                  have i1' := (HMu.out.i0 a0 b1).2
                                  clear hTk
                                  by_cases hlst : lastV got < (a0 : Int)
                                  · rw [decide_eq_true hlst] at hT
                                    have HO2 : Hid (On q LXA LX (a0 + 1) a1 (got ++ [a0])) := HON.out.told b1 b2 hlst
                                    go_wp2_with fail
                                    refine hT.mono ?_
                                    rintro ev wq ⟨rfl, OR2, hr2, hf2⟩
                                    have e1 : tkNew true (ordN a0) (numV got) = ordN a0 := rfl
                                    have e2 : tkTold true ta' = ta' + 1 := rfl
                                    have e3 : tkNot true tb' = tb' := rfl
                                    rw [e1, e2, e3] at hr2
                                    have kl : decide ((a0 : Int) ≤ lastV got) = false := decide_eq_false (by omega)
                                    have hOg := owns_same (X := u22.ownBlock.toList) HMs.out.own (hf2.same (fun c hc hx => HMs.out.ng c (by simpa using hx) hc) (fun c hc => (HMs.out.own.lt c (by simpa using hc)).2)) (fun g hg => by simpa using hg)
                                    have hO9 := hOg.alloc (.cells #[.int .i64 (a0 : Int)] 3)
                                    have hq9 : AB + 1 ≤ wq.heap.size := Nat.le_trans HMs.out.gs hf2.size
                                    have hgl : got.length ≤ 2 * q := by
                                      have := HON.out.inc
                                      have ht := HON.out.top
                                      exact Nat.le_trans (got_len this (n := q) (fun x hx => by have := ht x hx; omega)) (by omega)
                                    clear hT e1 e2 e3 hOg
                                    go_wp2_with (at_builtin; refine wpList_append_own_at _ rfl _ _ 46 rfl (AB + 1) 3 i3 (.int .i64 0) 1 8 Try.underlying46 qi qz0 qz1 qz2 rfl (by decide) u22 got.length _ rfl hO9 ⟨wq.heap.size, 0, none⟩ 1 1 [.int .i64 (a0 : Int)] rfl rfl (cell_one_new _ _ _) (by simp [Value.oneCell']) (by unfold maxLen; omega) (by omega) (by simp; omega) ?_; apply Hid.out)
                                    unfold Hid
                                    intro gv' wz hown' hgrow _ hat
                                    have HM3 : Hid (Mn w wz IB LB AB (AB + 1) q dd LXA LX OR2 PR (a0 + 1) a1 (got ++ [a0]) gv' (ta' + 1) tb') := HMs.out.told hf2 hr2 hown' hgrow (by simpa using hat)
                                    clear hown' hgrow hat hr2 hf2 hO9 HMs HMu z0 z1 zz0 zz1 zL i0 i1'
                                    go_wp2_with fail
                                    exact ⟨⟨(a0 + 1), a1, got ++ [a0], OR2, ta' + 1, tb', by have := HN.out; congr 1; omega, by rw [lastV_snoc], HM3, HO2, ⟨by omega, by omega, by have := HN.out; omega⟩⟩, by simp [intOf]; omega⟩
                                  · rw [decide_eq_false hlst] at hT
                                    have HO2 : Hid (On q LXA LX (a0 + 1) a1 got) := HON.out.past b1 b2 (by omega)
                                    go_wp2_with fail
                                    refine hT.mono ?_
                                    rintro ev wq ⟨rfl, OR2, hr2, hf2⟩
                                    have HM3 : Hid (Mn w wq IB LB AB (AB + 1) q dd LXA LX OR2 PR (a0 + 1) a1 got u22 ta' (tb' + 1)) := (HMs.out.take hf2 hr2).2 rfl
                                    clear hr2 hf2 hT HMs HMu z0 z1 zz0 zz1 zL i0 i1'
                                    go_wp2_with fail
                                    exact ⟨⟨(a0 + 1), a1, got, OR2, ta', tb' + 1, by have := HN.out; congr 1; omega, rfl, HM3, HO2, ⟨by omega, by omega, by have := HN.out; omega⟩⟩, by simp [intOf]; omega⟩
                                · rw [hL] at eb
                                  have HO2 : Hid (On q LXA LX (a0 + 1) a1 got) := HON.out.lost b1 b2 hL
                                  have HTC2 : Hid (0 ≤ ta' ∧ 0 ≤ tb' ∧ ta' + tb' ≤ (((a0 + 1) + a1 : Nat) : Int)) := by have := HTC.out; have := HN.out; exact ⟨by omega, by omega, by omega⟩
                                  clear hL
                                  go_wp2_with fail
                                  exact ⟨⟨(a0 + 1), a1, got, OR, ta', tb', by have := HN.out; congr 1; omega, rfl, HMs, HO2, HTC2⟩, by simp [intOf]; omega⟩
                              · subst hc
                                obtain ⟨b1, b2⟩ := hp1 rfl
                                clear hp0 hp1 hc'
                                have zL := HMu.out.l0 a1 b1
                                have eb := LV_b1 (LXA a1) (LX a1)
                                have ka : (a1 : Int) < (q : Int) := by omega
                                generalize LV (LXA a1) (LX a1) = lv at zL eb
                                have hMs := HMu.out.step 1 (a1 + 1) (by omega)
                                have HMs : Hid (Mn w (wt.setCell ⟨AB, 1, none⟩ (.int .i64 ((a1 : Int) + 1))) IB LB AB (AB + 1) q dd LXA LX OR PR a0 (a1 + 1) got u22 ta' tb') := by
                                  have := hMs
                                  show Mn _ _ _ _ _ _ _ _ _ _ _ _ _ _ _ _ _ _
                                  simpa using this
                                clear hMs
                                have hNl : N < 2 * q := by have := HN.out; omega
                                cases hL : LX a1
                                · rw [hL] at eb
                                  have hTk : takeB (numV got) (ordN a1) = decide (lastV got < (a1 : Int)) := HON.out.swap.takes HNR.out.swap
                                  have hr3 := HTC.out
                                  have hT := rcvTake HMs.out.r (ordN a1) (dd a1) (numV_in got).2 hr3.1 (by omega) hr3.2.1 (by omega)
                                  rw [hTk] at hT
                                  have iI : IB < wt.heap.size := Nat.lt_of_lt_of_le HMu.out.gi HMu.out.gs
                                  have nAI := HMu.out.nAI
                                  have nIA := Ne.symm nAI
                                  have i0 := (HMu.out.i0 a1 b1).1
                                  have i1' := (HMu.out.i0 a1 b1).2
                                  clear hTk
                                  by_cases hlst : lastV got < (a1 : Int)
                                  · rw [decide_eq_true hlst] at hT
                                    have HO2 : Hid (On q LXA LX a0 (a1 + 1) (got ++ [a1])) := (HON.out.swap.told b1 b2 hlst).swap
                                    go_wp2_with fail
                                    refine hT.mono ?_
                                    rintro ev wq ⟨rfl, OR2, hr2, hf2⟩
                                    have e1 : tkNew true (ordN a1) (numV got) = ordN a1 := rfl
                                    have e2 : tkTold true ta' = ta' + 1 := rfl
                                    have e3 : tkNot true tb' = tb' := rfl
                                    rw [e1, e2, e3] at hr2
                                    have kl : decide ((a1 : Int) ≤ lastV got) = false := decide_eq_false (by omega)
                                    have hOg := owns_same (X := u22.ownBlock.toList) HMs.out.own (hf2.same (fun c hc hx => HMs.out.ng c (by simpa using hx) hc) (fun c hc => (HMs.out.own.lt c (by simpa using hc)).2)) (fun g hg => by simpa using hg)
                                    have hO9 := hOg.alloc (.cells #[.int .i64 (a1 : Int)] 3)
                                    have hq9 : AB + 1 ≤ wq.heap.size := Nat.le_trans HMs.out.gs hf2.size
                                    have hgl : got.length ≤ 2 * q := by
                                      have := HON.out.inc
                                      have ht := HON.out.top
                                      exact Nat.le_trans (got_len this (n := q) (fun x hx => by have := ht x hx; omega)) (by omega)
                                    clear hT e1 e2 e3 hOg
                                    go_wp2_with (at_builtin; refine wpList_append_own_at _ rfl _ _ 46 rfl (AB + 1) 3 i3 (.int .i64 0) 1 8 Try.underlying46 qi qz0 qz1 qz2 rfl (by decide) u22 got.length _ rfl hO9 ⟨wq.heap.size, 0, none⟩ 1 1 [.int .i64 (a1 : Int)] rfl rfl (cell_one_new _ _ _) (by simp [Value.oneCell']) (by unfold maxLen; omega) (by omega) (by simp; omega) ?_; apply Hid.out)
                                    unfold Hid
                                    intro gv' wz hown' hgrow _ hat
                                    have HM3 : Hid (Mn w wz IB LB AB (AB + 1) q dd LXA LX OR2 PR a0 (a1 + 1) (got ++ [a1]) gv' (ta' + 1) tb') := HMs.out.told hf2 hr2 hown' hgrow (by simpa using hat)
                                    clear hown' hgrow hat hr2 hf2 hO9 HMs HMu z0 z1 zz0 zz1 zL i0 i1'
                                    go_wp2_with fail
                                    exact ⟨⟨a0, (a1 + 1), got ++ [a1], OR2, ta' + 1, tb', by have := HN.out; congr 1; omega, by rw [lastV_snoc], HM3, HO2, ⟨by omega, by omega, by have := HN.out; omega⟩⟩, by simp [intOf]; omega⟩
                                  · rw [decide_eq_false hlst] at hT
                                    have HO2 : Hid (On q LXA LX a0 (a1 + 1) got) := (HON.out.swap.past b1 b2 (by omega)).swap
                                    go_wp2_with fail
                                    refine hT.mono ?_
                                    rintro ev wq ⟨rfl, OR2, hr2, hf2⟩
                                    have HM3 : Hid (Mn w wq IB LB AB (AB + 1) q dd LXA LX OR2 PR a0 (a1 + 1) got u22 ta' (tb' + 1)) := (HMs.out.take hf2 hr2).2 rfl
                                    clear hr2 hf2 hT HMs HMu z0 z1 zz0 zz1 zL i0 i1'
                                    go_wp2_with fail
                                    exact ⟨⟨a0, (a1 + 1), got, OR2, ta', tb' + 1, by have := HN.out; congr 1; omega, rfl, HM3, HO2, ⟨by omega, by omega, by have := HN.out; omega⟩⟩, by simp [intOf]; omega⟩
                                · rw [hL] at eb
                                  have HO2 : Hid (On q LXA LX a0 (a1 + 1) got) := (HON.out.swap.lost b1 b2 hL).swap
                                  have HTC2 : Hid (0 ≤ ta' ∧ 0 ≤ tb' ∧ ta' + tb' ≤ ((a0 + (a1 + 1) : Nat) : Int)) := by have := HTC.out; have := HN.out; exact ⟨by omega, by omega, by omega⟩
                                  clear hL
                                  go_wp2_with fail
                                  exact ⟨⟨a0, (a1 + 1), got, OR, ta', tb', by have := HN.out; congr 1; omega, rfl, HMs, HO2, HTC2⟩, by simp [intOf]; omega⟩
                      · rw [decide_eq_false hgo]
                        have hA0 : a0 = q := by omega
                        have hA1 : a1 = q := by omega
                        subst hA0
                        have HFin : Hid (∀ x, x ∈ got → x < a0) := fun x hx => by have := HON.out.top x hx; omega
                        have HAll : Hid (∀ j, j < a0 → LXA j = false → LX j = false → j ∈ got) := fun j hj => HON.out.all j (.inl hj)
                        have HInc : Hid (got.Pairwise (· < ·)) := HON.out.inc
                        clear hA1 d0 d1 m0 m1 y0 y1 HON hgo HTC HN hNb
                        obtain ⟨wv, hwv⟩ : ∃ x, x = wc := ⟨wc, rfl⟩
                        subst hwv
                        have hglen : got.length ≤ a0 := got_len HInc.out HFin.out
                        obtain ⟨gn, hgn⟩ : ∃ gn, got.length = gn := ⟨_, rfl⟩
                        have HGN : Hid (got.length = gn) := hgn
                        obtain ⟨ga, gcap, hu22⟩ := owns_form HM.out.own
                        rw [hgn] at hu22 hglen
                        subst hu22
                        have HGc : Hid (∀ i, i < gn → ∃ g, ga = some ⟨g, 0, none⟩ ∧ wv.cell? ⟨g, i, none⟩ = some (.int .i64 ((got.getD i 0 : Nat) : Int)) ∧ g < wv.heap.size) := fun i hi => by
                          obtain ⟨g, cp, hv, hg, hc⟩ := owns_some HM.out.own (by rw [hgn]; omega)
                          injection hv with hv1 hv2 hv3
                          refine ⟨g, hv1, ?_, ?_⟩
                          · have := hc i (.int .i64 ((got.getD i 0 : Nat) : Int)) (by simp [gotCells, List.getD, show i < got.length by omega])
                            rwa [add_at, Nat.zero_add] at this
                          · have := (HM.out.own.lt g (by rw [hv1]; rfl)).2
                            exact this
                        clear hgn
                        go_wp2_with fail
                        go_loopw [28, 27] (fun t nv wr => ∃ j n : Nat, j ≤ a0 ∧ t = .int .i64 j ∧ nv = .int .i64 n ∧ wr = wv ∧ Hid (below got j n)) (fun t _ _ => a0 - (intOf t).toNat)
                        case atStart => exact ⟨0, 0, Nat.zero_le _, rfl, rfl, rfl, below_start got⟩
                        case round =>
                          obtain ⟨j, n, hj, rfl, rfl, hwr, HBl⟩ := hrel
                          subst hwr
                          by_cases hjl : j < a0
                          · have kj : (j : Int) < (a0 : Int) := by omega
                            have zL := HM.out.l0 j hjl
                            have ll : LB < wr.heap.size := Nat.lt_of_lt_of_le HM.out.gl HM.out.gs
                            have eL := LV_0 (LXA j) (LX j)
                            have HNo : Hid (j ∉ got → (!LXA j && !LX j) = false) := fun hn => by
                              cases e1 : LXA j
                              · cases e2 : LX j
                                · exact absurd (HAll.out j hjl e1 e2) hn
                                · rfl
                              · rfl
                            generalize LV (LXA j) (LX j) = lv at zL eL
                            by_cases hng : n < gn
                            · have kn : (n : Int) < (gn : Int) := by omega
                              obtain ⟨g, rfl, hcg, hgl⟩ := HGc.out n hng
                              by_cases heq : got.getD n 0 = j
                              · have HB2 : Hid (below got (j + 1) (n + 1)) := below_hit HBl.out HInc.out (by rw [HGN.out]; exact hng) heq
                                rw [heq] at hcg
                                clear heq
                                go_wp2
                                exact ⟨⟨j + 1, n + 1, by omega, by go_num, by go_num, trivial, HB2⟩, by simp [intOf]; omega⟩
                              · have hmis := below_miss HBl.out (fun _ => heq) HInc.out
                                have HB2 : Hid (below got (j + 1) n) := hmis.1
                                rw [HNo.out hmis.2] at eL
                                have ke : (((got.getD n 0 : Nat) : Int) == (j : Int)) = false := by simp only [beq_eq_false_iff_ne, ne_eq]; omega
                                generalize got.getD n 0 = gx at hcg ke
                                clear heq hmis
                                go_wp2
                                exact ⟨⟨j + 1, n, by omega, by go_num, rfl, trivial, HB2⟩, by simp [intOf]; omega⟩
                            · have kn : decide ((n : Int) < (gn : Int)) = false := decide_eq_false (by omega)
                              have hmis := below_miss HBl.out (fun h => absurd h (by rw [HGN.out]; exact hng)) HInc.out
                              have HB2 : Hid (below got (j + 1) n) := hmis.1
                              rw [HNo.out hmis.2] at eL
                              clear hmis
                              go_wp2
                              exact ⟨⟨j + 1, n, by omega, by go_num, rfl, trivial, HB2⟩, by simp [intOf]; omega⟩
                          · have hje : j = a0 := by omega
                            subst hje
                            have hnn : n = gn := by rw [← HGN.out]; exact below_end HBl.out HFin.out
                            subst hnn
                            have HOld : Hid (Below w.heap.size w wr) := HM.out.old
                            go_wp2
                            go_ret
                            exact ⟨rfl, HOld.out⟩

/-- VlinkOnce answers true, whatever it is asked. -/
theorem once_any (many : Int) (fa sa ta : Option Addr) (fc sc tc : Nat) (fl sl tl : List Int) (w : World) (hf : IntRow w fa fl) (hs : IntRow w sa sl) (ht : IntRow w ta tl) (lf : fl.length ≤ maxLen) (ls : sl.length ≤ maxLen) (lt : tl.length ≤ maxLen) :
    Calls Try.prog 7 #[.int .i64 many, .slice fa fl.length fc, .slice sa sl.length sc, .slice ta tl.length tc] w fun e w' => e = .returned (.bool true) ∧ Below w.heap.size w w' := by
  have lf2 : fl.length ≤ 9223372036854775807 := Nat.le_trans lf (by decide)
  have ls2 : sl.length ≤ 9223372036854775807 := Nat.le_trans ls (by decide)
  have lt2 : tl.length ≤ 9223372036854775807 := Nat.le_trans lt (by decide)
  by_cases h : 500 < wrap64 ((fl.length : Int) + (sl.length : Int)) ∨ 2000 < tl.length
  · exact once_great many fa sa ta fc sc tc _ _ _ w lt2 h
  · have hp := pk_in (a := many) (n := 700) (by decide)
    by_cases h0 : pk many 700 = 0
    · exact once_zero many fa sa ta fc sc tc _ _ _ w (by omega) lf2 ls2 (by omega) h0
    · exact once_walk many fa sa ta fc sc tc fl sl tl w hf hs ht (by omega) lf2 ls2 (by omega) (by omega)
end Go.Proofs.Ythcnhfjhppmmdab
