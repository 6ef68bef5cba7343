/- MemberAlike, walked: of every number of nodes and row of slots it answers true. (Made by tools/gen_alike.py.) -/
import Derived.Test.YtjppjdocncmkdabAlikeParts
import Derived.Test.YtjppjdocncmkdabAlikeRow
import Derived.Test.YtjppjdocncmkdabPick
import Derived.Test.YtjppjdocncmkdabAgreeWords
import Derived.Laws.MakeOwn
import Derived.Deep.DeepCutAuto
import Derived.Deep.RegionHeld3
namespace Go.Proofs.Ytjppjdocncmkdab
open Go.RowKit

theorem Try.infoBool : (Try.prog.info? 4).map (fun i => (i.zero, i.size, i.bytes)) = some (some (.bool false), 1, 1) := by kernel_rfl

set_option maxRecDepth 100000 in
set_option maxHeartbeats 1000000 in
theorem alike_great (nodes : Int) (a : Option Addr) (len cap : Nat) (w : World) (h : 150 < len) (hl : len ≤ 9223372036854775807) :
    Calls Try.prog 5 #[.int .i64 nodes, .slice a len cap] w fun e w' => e = .returned (.bool true) ∧ Below w.heap.size w w' := by
  have k : (150 : Int) < (len : Int) := by omega
  go_enter Try.func5, Try.ntmps5
  go_wp2
  go_ret
  exact ⟨rfl, Below.refl _ _⟩

/-- The counts' bounds. -/
def Cnt (s : Al) (n c : Nat) : Prop := ∀ k, k < n → 0 ≤ s.G k ∧ s.G k ≤ (c : Int) + 1 ∧ 0 ≤ s.B k ∧ s.B k ≤ (c : Int)
theorem Cnt.slot {s : Al} {n c who what : Nat} (h : Cnt s n c) : Cnt (s.slot n who what) n (c + 1) := fun k hk => by
  have := s.slot_counts (who := who) (what := what) h k hk
  simpa using this
theorem below_turns {P Q : Nat} {w v v' : World} (h : Below w.heap.size w v) (k : Turns P Q v v') (h1 : w.heap.size ≤ P) (h2 : w.heap.size ≤ Q) : Below w.heap.size w v' := h.trans (k.below h.size h1 h2)
theorem below_drawn {w v : World} (h : Below w.heap.size w v) (q : Nat) : Below w.heap.size w (v.drewN q) := below_turns h (Turns.drawn (P := w.heap.size) (Q := w.heap.size) q) (Nat.le_refl _) (Nat.le_refl _)
theorem Al.told_what (n who : Nat) (t : Nat → Bool) {what : Nat} (h : what ≠ 1) : toldT n who what t = t := by
  funext j
  unfold toldT
  rw [if_neg (fun y => h y.1)]
theorem Al.told_one (n who : Nat) (t : Nat → Bool) : toldT n who 1 t = fun j => if j = who ∨ j = (who + 1) % n then !t j else t j := by
  funext j
  unfold toldT
  by_cases e : j = who ∨ j = (who + 1) % n
  · rw [if_pos ⟨rfl, e⟩, if_pos e]
  · rw [if_neg (fun y => e y.2), if_neg e]

set_option maxRecDepth 100000 in
set_option maxHeartbeats 8000000 in
theorem alike_walk (nodes : Int) (a : Option Addr) (len cap : Nat) (l : List Int) (w : World) (hr : IntRow w a l) (hlen : l.length = len) (h : len ≤ 150) :
    Calls Try.prog 5 #[.int .i64 nodes, .slice a len cap] w fun e w' => e = .returned (.bool true) ∧ Below w.heap.size w w' := by
  have k : decide ((150 : Int) < (len : Int)) = false := decide_eq_false (by omega)
  have hpk := pk_in (a := nodes) (n := 8) (by decide)
  have p1 := pick_any nodes 8 (by decide) (by decide)
  obtain ⟨n, hn⟩ : ∃ n : Nat, 2 + pk nodes 8 = (n : Int) := ⟨(2 + pk nodes 8).toNat, by omega⟩
  have hpk2 : pk nodes 8 = (n : Int) - 2 := by omega
  rw [hpk2] at p1 hpk
  have hn2 : 2 + ((n : Int) - 2) = (n : Int) := by omega
  have n2 : 2 ≤ n := by omega
  have n9 : n ≤ 9 := by omega
  have HR : Hid (IntRow w a l) := hr
  have HLen : Hid (l.length = len) := hlen
  clear hn hpk2 hpk hr hlen
  obtain ⟨i0, hi, hz0, hz1, hz2⟩ := info_parts Try.infoBool
  obtain ⟨i1, gi, gz0, gz1, gz2⟩ := info_parts Try.infoPtr
  have hmk : ∀ v : World, _ := fun v => run_makeSlice (P := Try.prog) v 51 4 i0 _ Try.underlying51 hi hz0 .i64 .i64 (n : Int) (n : Int) (by omega) (Int.le_refl _) (by rw [hz1]; simp; omega) (by rw [hz2]; omega) (by omega)
  rw [hz1] at hmk
  simp only [Int.toNat_natCast, Nat.mul_one] at hmk
  obtain ⟨CC, hCC⟩ : ∃ CC, madeCells (Value.bool false).cells n = CC := ⟨_, rfl⟩
  have HEL : Hid (∀ j, j < n → CC[j]? = some (.bool false)) := fun j hj => by rw [← hCC]; simp [madeCells, Value.cells, hj, Nat.mod_one]
  rw [hCC] at hmk
  clear hi hz0 hz1 hz2 hCC
  go_enter Try.func5, Try.ntmps5
  go_wp2_with fail
  refine (p1 _).mono ?_
  rintro e w1 ⟨rfl, hw1⟩
  replace hw1 := hw1.symm
  subst hw1
  go_wp2_with fail
  refine (heard_any _).mono ?_
  rintro e w1 ⟨rfl, hb1⟩
  have hm1 := hmk w1
  have hm2 := hmk (w1.alloc (.cells CC 4))
  clear hmk p1
  go_wp2_with fail
  obtain ⟨w3, hw3⟩ : ∃ x, (w1.alloc (.cells CC 4)).alloc (.cells CC 4) = x := ⟨_, rfl⟩
  rw [hw3]
  have HW3 : Hid ((w1.alloc (.cells CC 4)).alloc (.cells CC 4) = w3) := hw3
  have hb13 : Below w1.heap.size w1 w3 := by rw [← hw3]; exact ((Below.refl _ _).alloc (Nat.le_refl _) _).alloc (by simp) _
  have HL3 : Hid (Below w.heap.size w w3) := hb1.trans (hb13.mono hb1.size)
  have hs3 : w1.heap.size + 1 < w3.heap.size := by rw [← hw3]; simp
  have hs1 := hb1.size
  clear hm1 hm2 hw3 hb13 hb1 hn2
  go_loopw [9, 5] (fun t v wr => ∃ (k : Nat) (Pf : Nat → Nat), k ≤ n ∧ t = .int .i64 k ∧ Hid (Born w3 wr n k Pf v)) (fun t _ _ => n - (intOf t).toNat)
  case atStart => exact ⟨0, fun _ => 0, Nat.zero_le _, rfl, ⟨by simpa using World.ownsRow_nil _ _ _ _, fun j hj => absurd hj (Nat.not_lt_zero _), Below.refl _ _⟩⟩
  case round =>
    obtain ⟨k, Pf, hk, rfl, HBn⟩ := hrel
    by_cases hlt : k < n
    · have kk : (k : Int) < (n : Int) := by omega
      go_wp2_with fail
      refine (pNew_good k n _ (by omega) (by omega) (by omega) (by omega)).mono ?_
      rintro e w4 ⟨rfl, hp4, hb4⟩
      rw [← all_bits n] at hp4
      have hOwn := owns_below HBn.out.own hb4
      have hs4 := hb4.size
      have hs5 := HBn.out.old.size
      go_wp2_with (at_builtin; refine wpList_append_own_at _ rfl _ _ 50 rfl w3.heap.size 52 i1 (.pointer none) 1 8 Try.underlying50 gi gz0 gz1 gz2 rfl (by decide) u5 k _ rfl (hOwn.alloc _) ⟨w4.heap.size, 0, none⟩ 1 1 [.pointer (some ⟨wr.heap.size, 0, none⟩)] rfl rfl (cell_one_new _ _ _) (by simp [Value.oneCell']) (by unfold maxLen; omega) (by omega) (by simp; omega) ?_; apply Hid.out)
      unfold Hid
      intro v' w5 hown' hgrow _ hat
      have HBx : Hid (Born w3 w5 n (k + 1) (fun j => if j = k then wr.heap.size else Pf j) v') := HBn.out.next hp4 hb4 hown' hgrow (by simpa using hat)
      clear hown' hgrow hat hOwn hp4 hb4 HBn
      go_wp2_with fail
      exact ⟨⟨k + 1, _, by omega, by go_num, HBx⟩, by simp [intOf]; omega⟩
    · have hkn : k = n := by omega
      subst hkn
      obtain ⟨w2, hw2e⟩ : ∃ x, x = wr := ⟨wr, rfl⟩
      subst hw2e
      obtain ⟨A, cp, hv5, hM0⟩ := Born.mem (w1 := w1) (CC := CC) (t := 4) (by rw [HW3.out]; exact HBn.out) (by omega) HEL.out
      subst hv5
      have HPf : Hid (∀ j, j < k → w.heap.size ≤ Pf j) := fun j hj => by have := (HBn.out.node j hj).2.2; have := HL3.out.size; omega
      have HL2 : Hid (Below w.heap.size w w2) := HL3.out.trans (HBn.out.old.mono HL3.out.size)
      have HM0 : Hid (Mem w2 k A w1.heap.size (w1.heap.size + 1) Pf Al.start.M Al.start.G Al.start.B Al.start.F Al.start.fl Al.start.ev) := hM0
      have hFw : w.heap.size ≤ w1.heap.size := by omega
      have hEw : w.heap.size ≤ w1.heap.size + 1 := by omega
      obtain ⟨EB, hEB⟩ : ∃ x, w1.heap.size + 1 = x := ⟨_, rfl⟩
      obtain ⟨FB, hFB⟩ : ∃ x, w1.heap.size = x := ⟨_, rfl⟩
      rw [hEB, hFB] at HM0
      rw [hEB] at hEw
      rw [hFB] at hFw
      clear hM0 HBn HEL HW3 gi gz0 gz1 gz2 hlt hk HL3 hs3 hs1
      have hk0 : 0 < k := by omega
      go_wp2_with fail
      rw [hEB, hFB]
      clear hEB hFB
      go_loopw [12, 8] (fun t wv wr => ∃ (q : Nat) (s : Al) (hh : Nat → Bool), q ≤ len ∧ t = .int .i64 q ∧ wv = .bool s.wr ∧ Hid (Mem wr k A FB EB Pf s.M s.G s.B s.F s.fl s.ev) ∧ Hid (s.Fine k hh) ∧ Hid (Cnt s k q) ∧ Hid (Below w.heap.size w wr)) (fun t _ _ => len - (intOf t).toNat)
      case atStart => exact ⟨0, Al.start, fun _ => true, Nat.zero_le _, rfl, rfl, HM0, Al.start_fine k, fun _ _ => ⟨(by decide : (0 : Int) ≤ 1), (by decide : (1 : Int) ≤ ((0 : Nat) : Int) + 1), (by decide : (0 : Int) ≤ 0), (by decide : (0 : Int) ≤ ((0 : Nat) : Int))⟩, HL2⟩
      case round =>
        obtain ⟨q, s, hh, hq, rfl, rfl, HM, HF, HC, HL⟩ := hrel
        by_cases hqlt : q < len
        · obtain ⟨rb, off, rfl, hrb, hcell⟩ := HR.out (by rw [HLen.out]; omega)
          have y0 := (HL.out.cell (p := ⟨rb, off + q, none⟩) hrb).trans (hcell q (by rw [HLen.out]; exact hqlt))
          have yw := hcell q (by rw [HLen.out]; exact hqlt)
          generalize l.getD q 0 = x at y0 yw
          have kq : (q : Int) < (len : Int) := by omega
          obtain ⟨who, hwho⟩ : ∃ who, q % k = who := ⟨_, rfl⟩
          have hw : who < k := by rw [← hwho]; exact Nat.mod_lt _ (by omega)
          have hmod : Int.tmod (q : Int) (k : Int) = (who : Int) := by rw [← hwho, Int.tmod_eq_emod_of_nonneg (by omega)]; simp
          have kw : (who : Int) < (k : Int) := by omega
          have knz : ((k : Int) == 0) = false := by simp; omega
          have yp := HM.out.ptr who hw
          have hA := cell_lt yp
          have hpx := pk_in (a := x) (n := 8) (by decide)
          have hpc := pick_any x 8 (by decide) (by decide)
          obtain ⟨what, hwhat⟩ : ∃ what : Nat, pk x 8 = (what : Int) := ⟨(pk x 8).toNat, by omega⟩
          rw [hwhat] at hpc hpx
          have hS : Calls Try.prog 17 #[.pointer (some ⟨Pf who, 0, none⟩)] wr fun e w' => e = .returned (.tuple #[.int .i64 (if s.ok who = true then bitsV (s.M who) k else 0), .bool (s.ok who)]) ∧ Mem w' k A FB EB Pf (s.midM k who what 0) (s.midG k who what 0) (s.midB k who what 0) (s.midF k who what 0) s.fl s.ev ∧ Turns (Pf who) (Pf who) wr w' := (pSends_any (HM.out.node who hw)).mono fun e w' ⟨he, hp, ht⟩ => ⟨he, HM.out.sends hw hp ht, ht⟩
          have HOK : Hid (s.ok who = true → s.M who who = true) := fun ho => (HF.out.sent hw ho).2.1
          obtain ⟨okB, hok⟩ : ∃ okB, s.ok who = okB := ⟨_, rfl⟩
          obtain ⟨m0, hm0⟩ : ∃ m0, (if okB = true then bitsV (s.M who) k else 0) = m0 := ⟨_, rfl⟩
          rw [hok, hm0] at hS
          rw [hok] at HOK
          have HM00 : Hid ((if okB = true then bitsV (s.M who) k else 0) = m0) := hm0
          have HOKE : Hid (s.ok who = okB) := hok
          clear hwhat hm0 hok hcell hwho
          go_wp2_with fail
          refine hS.mono ?_
          rintro ev wa ⟨rfl, hMa, hTa⟩
          have HMa : Hid (Mem wa k A FB EB Pf (s.midM k who what 0) (s.midG k who what 0) (s.midB k who what 0) (s.midF k who what 0) s.fl s.ev) := hMa
          have HLa : Hid (Below w.heap.size w wa) := below_turns HL.out hTa (HPf.out who hw) (HPf.out who hw)
          clear y0
          have y0 := (HLa.out.cell (p := ⟨rb, off + q, none⟩) hrb).trans yw
          clear hS hMa hTa yp hA
          go_wp2_with fail
          refine (hpc _).mono ?_
          rintro ev wb ⟨rfl, hwb⟩
          replace hwb := hwb.symm
          subst hwb
          clear hpc y0
          obtain ⟨nxt, hnxt⟩ : ∃ nxt, (who + 1) % k = nxt := ⟨_, rfl⟩
          have hnx : nxt < k := by rw [← hnxt]; exact Nat.mod_lt _ (by omega)
          have hmod2 : Int.tmod ((who : Int) + 1) (k : Int) = (nxt : Int) := by rw [← hnxt, Int.tmod_eq_emod_of_nonneg (by omega)]; simp
          have pa0 := pow_pos who
          have pa1 : (2 : Int) ^ who ≤ 2 ^ 16 := pow_le (by omega)
          have pb0 := pow_pos nxt
          have pb1 : (2 : Int) ^ nxt ≤ 2 ^ 16 := pow_le (by omega)
          have p2 : (2 : Int) ^ 16 = 65536 := by decide
          obtain ⟨M1, hM1⟩ : ∃ M1, (if what = 1 then bits .xor .i64 m0 (bits .or .i64 (2 ^ who) (2 ^ nxt)) else m0) = M1 := ⟨_, rfl⟩
          have HM1 : Hid (okB = true → M1 = bitsV (toldT k who what (s.M who)) k) := fun ho => by
            rw [← hM1]
            have e0 := HM00.out
            rw [if_pos ho] at e0
            by_cases e1 : what = 1
            · subst e1
              rw [if_pos rfl, ← e0, Al.told_one, hnxt]
              exact xor_bits _ (by omega) hw hnx
            · rw [if_neg e1, ← e0, Al.told_what k who _ e1]
          go_upto_if 76 with fail
          go_cut [14, 8] (fun mv wv wx => mv = .int .i64 M1 ∧ wv = .bool (s.slot k who what).wr ∧ ∃ qn, wx = wa.drewN qn)
          case first =>
            by_cases e1 : what = 1
            · subst e1
              rw [if_pos rfl] at hM1
              go_wp2_with fail
              go_quiet (fail)
              go_wp2_with fail
              go_meet
              exact ⟨rfl, by simp [Al.slot], _, rfl⟩
            · have e1' : ((what : Int) == 1) = false := by simp; omega
              rw [if_neg e1] at hM1
              subst hM1
              go_wp2_with fail
              go_meet
              exact ⟨rfl, by simp [Al.slot, e1], 0, rfl⟩
          case rest =>
            obtain ⟨rfl, rfl, qn, hwc⟩ := hcut
            have HMc : Hid (Mem wc k A FB EB Pf (s.midM k who what 0) (s.midG k who what 0) (s.midB k who what 0) (s.midF k who what 0) s.fl s.ev) := by rw [hwc]; exact HMa.out.drawn qn
            have HLc : Hid (Below w.heap.size w wc) := by rw [hwc]; exact below_drawn HLa.out qn
            clear hwc HMa HLa pa0 pa1 pb0 pb1 p2 hM1 hmod2 hnxt hnx
            go_upto_if 87 with fail
            go_cut [] (fun wx => Hid (Mem wx k A FB EB Pf (s.midM k who what 0) (s.midG k who what 0) (s.midB k who what 0) (s.midF k who what 0) (s.slot k who what).fl (s.slot k who what).ev) ∧ Hid (Below w.heap.size w wx))
            case first =>
              cases okB
              · have ho : s.ok who = false := HOKE.out
                go_wp2_with fail
                go_meet
                exact ⟨HMc.out.same fun j _ => ⟨fun _ _ => rfl, rfl, rfl, rfl, by simp only [Al.slot]; rw [if_neg (by rw [ho]; simp)], by simp only [Al.slot]; rw [if_neg (by rw [ho]; simp)]⟩, HLc⟩
              · have ho : s.ok who = true := HOKE.out
                have z1 := HMc.out.fc who hw
                have z2 := HMc.out.fz who
                have z3 := HMc.out.ec who hw
                have z4 := HMc.out.ez who
                have ne1 := HMc.out.ne
                have ne2 := Ne.symm ne1
                have hlf := cell_lt z1
                have hle := cell_lt z3
                have fin : ∀ b b' : Bool, decide (what < 2) = b → (s.ev who || decide (what < 2)) = b' → Hid (Mem ((wc.setCell ⟨FB, who, none⟩ (.bool b)).setCell ⟨EB, who, none⟩ (.bool b')) k A FB EB Pf (s.midM k who what 0) (s.midG k who what 0) (s.midB k who what 0) (s.midF k who what 0) (s.slot k who what).fl (s.slot k who what).ev) ∧ Hid (Below w.heap.size w ((wc.setCell ⟨FB, who, none⟩ (.bool b)).setCell ⟨EB, who, none⟩ (.bool b'))) := fun b b' hb hb' =>
                  ⟨((HMc.out.setF hw b).setE hw b').same fun j _ => ⟨fun _ _ => rfl, rfl, rfl, rfl, by
                    simp only [Al.slot]
                    by_cases e : j = who
                    · rw [if_pos ⟨e, ho⟩, if_pos e]; exact hb
                    · rw [if_neg (fun y => e y.1), if_neg e], by
                    simp only [Al.slot]
                    by_cases e : j = who
                    · rw [if_pos ⟨e, ho⟩, if_pos e, e]; exact hb'
                    · rw [if_neg (fun y => e y.1), if_neg e]⟩, (HLc.out.setCell (p := ⟨FB, who, none⟩) hFw _).setCell (p := ⟨EB, who, none⟩) hEw _⟩
                have FIN : Hid _ := fin
                clear fin
                by_cases e2 : what < 2
                · have k2 : (what : Int) < 2 := by omega
                  have HD : Hid (decide (what < 2) = true) := decide_eq_true e2
                  cases hev : s.ev who
                  · rw [hev] at z3
                    have HE : Hid ((s.ev who || decide (what < 2)) = true) := by show _ = _; rw [HD.out, Bool.or_true]
                    clear hev e2
                    go_wp2_with fail
                    go_meet
                    exact FIN.out true true HD.out HE.out
                  · rw [hev] at z3
                    have HE : Hid ((s.ev who || decide (what < 2)) = true) := by show _ = _; rw [HD.out, Bool.or_true]
                    clear hev e2
                    go_wp2_with fail
                    go_meet
                    exact FIN.out true true HD.out HE.out
                · have k2 : decide ((what : Int) < 2) = false := decide_eq_false (by omega)
                  have HD : Hid (decide (what < 2) = false) := decide_eq_false e2
                  cases hev : s.ev who
                  · rw [hev] at z3
                    have HE : Hid ((s.ev who || decide (what < 2)) = false) := by show _ = _; rw [HD.out, hev]; rfl
                    clear hev e2
                    go_wp2_with fail
                    go_meet
                    exact FIN.out false false HD.out HE.out
                  · rw [hev] at z3
                    have HE : Hid ((s.ev who || decide (what < 2)) = true) := by show _ = _; rw [hev]; rfl
                    clear hev e2
                    go_wp2_with fail
                    go_meet
                    exact FIN.out false true HD.out HE.out
            case rest =>
              obtain ⟨HMd, HLd⟩ := hcut
              clear HMc HLc HM HL HM00
              have kk9 : k ≤ 16 := by omega
              go_wp2_with fail
              go_loopw [17] (fun t wr => ∃ kk : Nat, kk ≤ k ∧ t = .int .i64 kk ∧ Hid (Mem wr k A FB EB Pf (s.midM k who what kk) (s.midG k who what kk) (s.midB k who what kk) (s.midF k who what kk) (s.slot k who what).fl (s.slot k who what).ev) ∧ Hid (Below w.heap.size w wr)) (fun t _ => k - (intOf t).toNat)
              case atStart => exact ⟨0, Nat.zero_le _, rfl, HMd, HLd⟩
              case round =>
                obtain ⟨kk, hkk, rfl, HMi, HLi⟩ := hrel
                by_cases hk2 : kk < k
                · have kki : (kk : Int) < (k : Int) := by omega
                  by_cases e : kk = who
                  · have HMj : Hid (Mem wr k A FB EB Pf (s.midM k who what (kk + 1)) (s.midG k who what (kk + 1)) (s.midB k who what (kk + 1)) (s.midF k who what (kk + 1)) (s.slot k who what).fl (s.slot k who what).ev) := HMi.out.pass e
                    have e' : ((kk : Int) == (who : Int)) = true := by simp; omega
                    clear e HMi
                    go_wp2_with fail
                    exact ⟨⟨kk + 1, by omega, by go_num, HMj, HLi⟩, by simp [intOf]; omega⟩
                  · have e' : ((kk : Int) == (who : Int)) = false := by simp; omega
                    have yk := HMi.out.ptr kk hk2
                    have hAl := cell_lt yk
                    have HNd : Hid (ProgNode wr (Pf kk) kk k (bitsV (s.M kk) k) (s.G kk) (s.B kk) (s.F kk)) := HMi.out.still hk2 e
                    obtain ⟨g1, g2, g3, g4⟩ := HC.out kk hk2
                    have HHe : Hid (∀ (xx : Int) (v : World), ProgNode v (Pf kk) kk k (bitsV (s.M kk) k) (s.G kk) (s.B kk) (s.F kk) → Calls Try.prog 18 #[.pointer (some ⟨Pf kk, 0, none⟩), .int .i64 who, .int .i64 xx] v fun ev w' => ev = .returned (.tuple #[]) ∧ ProgNode w' (Pf kk) kk k (bitsV (heT kk k (s.F kk) who xx (s.M kk)) k) (heG kk k (s.F kk) who xx (s.G kk)) (heB kk k (s.F kk) who xx (s.B kk)) (s.F kk) ∧ Turns (Pf kk) (Pf kk) v w') := fun xx v hv => pHears_all hv who xx (by omega) g1 (by omega) g3 (by omega)
                    have hPk := HPf.out kk hk2
                    clear g1 g2 g3 g4
                    by_cases hsil : okB = false ∨ what = 0
                    · have HX0 : Hid (s.xV k who what kk = 0) := s.silent (by rw [HOKE.out]; exact hsil)
                      have hC := HHe.out 0 wr HNd.out
                      cases okB
                      · clear hsil
                        go_wp2_with fail
                        refine hC.mono ?_
                        rintro ev wh ⟨rfl, hp, ht⟩
                        rw [← HX0.out] at hp
                        have HMj : Hid (Mem wh k A FB EB Pf (s.midM k who what (kk + 1)) (s.midG k who what (kk + 1)) (s.midB k who what (kk + 1)) (s.midF k who what (kk + 1)) (s.slot k who what).fl (s.slot k who what).ev) := HMi.out.hears hw hk2 e hp ht
                        have HLj : Hid (Below w.heap.size w wh) := below_turns HLi.out ht hPk hPk
                        clear hp ht HMi HLi hC HNd HHe yk
                        go_wp2_with fail
                        exact ⟨⟨kk + 1, by omega, by go_num, HMj, HLj⟩, by simp [intOf]; omega⟩
                      · have hw0 : ((what : Int) == 0) = true := by
                          rcases hsil with y | y
                          · cases y
                          · rw [y]; rfl
                        clear hsil
                        go_wp2_with fail
                        refine hC.mono ?_
                        rintro ev wh ⟨rfl, hp, ht⟩
                        rw [← HX0.out] at hp
                        have HMj : Hid (Mem wh k A FB EB Pf (s.midM k who what (kk + 1)) (s.midG k who what (kk + 1)) (s.midB k who what (kk + 1)) (s.midF k who what (kk + 1)) (s.slot k who what).fl (s.slot k who what).ev) := HMi.out.hears hw hk2 e hp ht
                        have HLj : Hid (Below w.heap.size w wh) := below_turns HLi.out ht hPk hPk
                        clear hp ht HMi HLi hC HNd HHe yk
                        go_wp2_with fail
                        exact ⟨⟨kk + 1, by omega, by go_num, HMj, HLj⟩, by simp [intOf]; omega⟩
                    · have hok2 : okB = true := by
                        cases okB
                        · exact absurd (.inl rfl) hsil
                        · rfl
                      have hw0 : ((what : Int) == 0) = false := by simp; omega
                      have hxj : judgeV k (s.M kk) (tb M1) who M1 = s.xV k who what kk := by
                        rw [HM1.out hok2]
                        exact s.judges hw (HOKE.out.trans hok2) (by omega) (HOK.out hok2)
                      have hJ : Calls Try.prog 19 #[.pointer (some ⟨Pf kk, 0, none⟩), .int .i64 who, .int .i64 M1] (wr.drewN 1) fun ev w' => ev = .returned (.int .i64 (judgeV k (s.M kk) (tb M1) who M1)) ∧ ProgNode w' (Pf kk) kk k (bitsV (s.M kk) k) (s.G kk) (s.B kk) (s.F kk) ∧ Turns (Pf kk) (Pf kk) wr w' ∧ w'.cell? ⟨A, kk, none⟩ = some (.pointer (some ⟨Pf kk, 0, none⟩)) := (pJudges_any (HNd.out.drawn 1) who M1 (by omega)).mono fun ev w' ⟨he, qj, hwj⟩ => ⟨he, by rw [hwj]; exact (HNd.out.drawn 1).drawn qj, by rw [hwj]; exact (Turns.drawn 1).trans (Turns.drawn qj), by rw [hwj]; exact yk⟩
                      rw [hxj] at hJ
                      subst hok2
                      clear hsil hxj
                      obtain ⟨XX, hXX⟩ : ∃ XX, s.xV k who what kk = XX := ⟨_, rfl⟩
                      rw [hXX] at hJ
                      have HXX : Hid (s.xV k who what kk = XX) := hXX
                      clear hXX
                      go_wp2_with fail
                      go_region_held3 (fun u => u.cell? ⟨A, kk, none⟩ = some (.pointer (some ⟨Pf kk, 0, none⟩))) (go_keep) (first
                        | (go_at_call 19; refine hJ.mono ?_; rintro ev wj ⟨rfl, hnj, htj, yj⟩; have HNj : Hid (ProgNode wj (Pf kk) kk k (bitsV (s.M kk) k) (s.G kk) (s.B kk) (s.F kk)) := hnj; have HTj : Hid (Turns (Pf kk) (Pf kk) wr wj) := htj)
                        | (go_at_call 18; refine (HHe.out XX _ HNj.out).mono ?_; rintro ev wh ⟨rfl, hp, ht⟩; rw [← HXX.out] at hp; have HMj : Hid (Mem wh k A FB EB Pf (s.midM k who what (kk + 1)) (s.midG k who what (kk + 1)) (s.midB k who what (kk + 1)) (s.midF k who what (kk + 1)) (s.slot k who what).fl (s.slot k who what).ev) := HMi.out.hears hw hk2 e hp (HTj.out.trans ht); have HLj : Hid (Below w.heap.size w wh) := below_turns HLi.out (HTj.out.trans ht) hPk hPk; have yh := HMj.out.ptr kk hk2))
                      clear HMi HLi HNd HHe hJ
                      go_wp2_with fail
                      exact ⟨⟨kk + 1, by omega, by go_num, HMj, HLj⟩, by simp [intOf]; omega⟩
                · have hke : k = kk := by omega
                  subst hke
                  have HMe : Hid (Mem wr k A FB EB Pf (s.slot k who what).M (s.slot k who what).G (s.slot k who what).B (s.slot k who what).F (s.slot k who what).fl (s.slot k who what).ev) := HMi.out.whole
                  have HF2 : Hid ((s.slot k who what).Fine k (fun j => if j = who then s.ok who && decide (2 ≤ what) else hh j)) := HF.out.slot hw
                  have HC2 : Hid (Cnt (s.slot k who what) k (q + 1)) := HC.out.slot
                  generalize (fun j => if j = who then s.ok who && decide (2 ≤ what) else hh j) = h2 at HF2
                  clear HMi HF HC HM1 HOKE HOK hk2
                  generalize s.slot k who what = S at *
                  have hsame : ∀ j, j < k → S.F j = false → S.fl j = false → bitsV (S.M j) k = bitsV h2 k := fun j hj e1 e2 => bitsV_congr (HF2.out.same j hj e1 e2)
                  have HSame : Hid _ := hsame
                  clear hsame
                  obtain ⟨MV, hMV⟩ : ∃ MV, bitsV h2 k = MV := ⟨_, rfl⟩
                  rw [hMV] at HSame
                  clear hMV
                  go_wp2_with fail
                  go_loopw [18, 19] (fun fv t wr => ∃ kk : Nat, kk ≤ k ∧ t = .int .i64 kk ∧ (fv = .int .i64 (-1) ∨ ∃ f : Nat, f < k ∧ fv = .int .i64 f ∧ S.F f = false ∧ S.fl f = false) ∧ Hid (Mem wr k A FB EB Pf S.M S.G S.B S.F S.fl S.ev) ∧ Hid (Below w.heap.size w wr)) (fun _ t _ => k - (intOf t).toNat)
                  case atStart => exact ⟨0, Nat.zero_le _, rfl, .inl rfl, HMe, HLi⟩
                  case round =>
                    obtain ⟨kk, hkk, rfl, hfst, HMf, HLf⟩ := hrel
                    by_cases hk3 : kk < k
                    · have kki : (kk : Int) < (k : Int) := by omega
                      have yk := HMf.out.ptr kk hk3
                      have hAl := cell_lt yk
                      have hFz := pFrozen_any (HMf.out.node kk hk3)
                      have ye := HMf.out.ec kk hk3
                      have yf := HMf.out.fc kk hk3
                      have hle := cell_lt ye
                      have hlf := cell_lt yf
                      have HFr : Hid (S.F kk = true → S.ev kk = true ∨ S.wr = true) := HF2.out.froze kk hk3
                      go_wp2_with fail
                      refine hFz.mono ?_
                      rintro ev wz ⟨rfl, hwz⟩
                      replace hwz := hwz.symm
                      subst hwz
                      clear hFz
                      cases hF : S.F kk
                      · cases hfl : S.fl kk
                        · rw [hfl] at yf
                          have hMk := fun q => pMembers_any ((HMf.out.node kk hk3).drawn q)
                          rw [HSame.out kk hk3 hF hfl] at hMk
                          have HFk : Hid (S.F kk = false ∧ S.fl kk = false) := ⟨hF, hfl⟩
                          rcases hfst with hfe | ⟨f, hf, hfe, hf1, hf2⟩
                          · subst hfe
                            clear HFr ye hle hF hfl
                            go_wp2_with fail
                            go_quiet ((go_at_call 21; refine Calls.quiet_of_same (hMk _)))
                            have HMg : Hid (Mem (wr.drewN nq) k A FB EB Pf S.M S.G S.B S.F S.fl S.ev) := HMf.out.drawn nq
                            have HLg : Hid (Below w.heap.size w (wr.drewN nq)) := below_drawn HLf.out nq
                            clear HMf HLf hMk yk yf
                            go_wp2_with fail
                            exact ⟨⟨kk + 1, by omega, by go_num, .inr ⟨kk, hk3, rfl, HFk.out.1, HFk.out.2⟩, HMg, HLg⟩, by simp [intOf]; omega⟩
                          · subst hfe
                            have kf : decide ((f : Int) < 0) = false := decide_eq_false (by omega)
                            have kfi : (f : Int) < (k : Int) := by omega
                            have yp := HMf.out.ptr f hf
                            have hMf := fun q => pMembers_any ((HMf.out.node f hf).drawn q)
                            rw [HSame.out f hf hf1 hf2] at hMf
                            have HFf : Hid (S.F f = false ∧ S.fl f = false) := ⟨hf1, hf2⟩
                            have hMB : ∀ p, (p = Pf kk ∨ p = Pf f) → ∀ q, Calls Try.prog 21 #[.pointer (some ⟨p, 0, none⟩)] (wr.drewN q) fun e w' => e = .returned (.int .i64 MV) ∧ w' = wr.drewN q := fun p hp q => by
                              rcases hp with rfl | rfl
                              · exact hMk q
                              · exact hMf q
                            have HMB : Hid _ := hMB
                            clear HFr ye hle hF hfl hf1 hf2 hMk hMf hMB
                            go_wp2_with fail
                            go_quiet ((go_at_call 21; refine Calls.quiet_of_same (HMB.out _ ?_ _); first | exact .inl rfl | exact .inr rfl))
                            have HMg : Hid (Mem (wr.drewN nq) k A FB EB Pf S.M S.G S.B S.F S.fl S.ev) := HMf.out.drawn nq
                            have HLg : Hid (Below w.heap.size w (wr.drewN nq)) := below_drawn HLf.out nq
                            clear HMf HLf HMB yk yf yp
                            go_wp2_with fail
                            exact ⟨⟨kk + 1, by omega, by go_num, .inr ⟨f, hf, rfl, HFf.out.1, HFf.out.2⟩, HMg, HLg⟩, by simp [intOf]; omega⟩
                        · rw [hfl] at yf
                          have HFst : Hid _ := hfst
                          clear HFr ye hle hF hfl hfst
                          go_wp2_with fail
                          exact ⟨⟨kk + 1, by omega, by go_num, HFst.out, HMf, HLf⟩, by simp [intOf]; omega⟩
                      · have HFst : Hid _ := hfst
                        have hew := HFr.out hF
                        clear HFr yf hlf hF hfst
                        cases hev : S.ev kk
                        · rw [hev] at ye
                          have hwr : S.wr = true := by
                            rcases hew with y | y
                            · rw [hev] at y; cases y
                            · exact y
                          have hnw : (!S.wr) = false := by rw [hwr]; rfl
                          clear hew hev hwr
                          go_wp2_with fail
                          exact ⟨⟨kk + 1, by omega, by go_num, HFst.out, HMf, HLf⟩, by simp [intOf]; omega⟩
                        · rw [hev] at ye
                          clear hew hev
                          go_wp2_with fail
                          exact ⟨⟨kk + 1, by omega, by go_num, HFst.out, HMf, HLf⟩, by simp [intOf]; omega⟩
                    · go_wp2_with fail
                      exact ⟨⟨q + 1, S, h2, by omega, by go_num, rfl, HMf, HF2, HC2, HLf⟩, by simp [intOf]; omega⟩
        · go_wp2
          go_ret
          exact ⟨rfl, HL.out⟩

/-- MemberAlike answers true, whatever it is asked. -/
theorem alike_any (nodes : Int) (a : Option Addr) (cap : Nat) (l : List Int) (w : World) (hr : IntRow w a l) (hl : l.length ≤ 9223372036854775807) :
    Calls Try.prog 5 #[.int .i64 nodes, .slice a l.length cap] w fun e w' => e = .returned (.bool true) ∧ Below w.heap.size w w' := by
  by_cases h : 150 < l.length
  · exact alike_great nodes a l.length cap w h hl
  · exact alike_walk nodes a l.length cap l w hr rfl (by omega)
end Go.Proofs.Ytjppjdocncmkdab
