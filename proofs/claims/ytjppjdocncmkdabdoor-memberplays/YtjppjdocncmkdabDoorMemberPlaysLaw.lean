/- MemberPlays, walked: of every number, number of nodes and script it answers true. (Made by tools/gen_memberplays.py.) Condition: package errors' own variable holds what its text says. -/
import Derived.Test.YtjppjdocncmkdabDoorMemberBoth
import Derived.Test.YtjppjdocncmkdabDoorRefNew
import Derived.Test.YtjppjdocncmkdabDoorBareAt
import Derived.Test.YtjppjdocncmkdabDoorOpenRows
import Derived.Deep.RegionHeld3
namespace Go.Proofs.YtjppjdocncmkdabDoor
open Go.RowKit

theorem bare_errV (e : Int) : BareSays (errV e) e := by
  unfold errV
  split
  · next h => rw [h]; exact bare_nil
  · exact bare_e e

set_option maxRecDepth 100000 in
set_option maxHeartbeats 1000000 in
theorem plays_great (id nodes : Int) (a : Option Addr) (len cap : Nat) (w : World) (h : 100 < len) (hl : len ≤ 9223372036854775807) :
    Calls Tryd.prog 7 #[.int .i64 id, .int .i64 nodes, .slice a len cap] w fun e w' => e = .returned (.bool true) ∧ Below w.heap.size w w' := by
  have k : (100 : Int) < (len : Int) := by omega
  go_enter Tryd.func7, Tryd.ntmps7
  go_wp2
  go_ret
  exact ⟨rfl, Below.refl _ _⟩

set_option maxRecDepth 100000 in
set_option maxHeartbeats 1000000 in
theorem plays_bad (id nodes : Int) (a : Option Addr) (len cap : Nat) (w : World) (hT : Told w) (h : len ≤ 100) (hb : ¬ ((1 ≤ nodes ∧ nodes ≤ 16) ∧ 0 ≤ id ∧ id < nodes)) :
    Calls Tryd.prog 7 #[.int .i64 id, .int .i64 nodes, .slice a len cap] w fun e w' => e = .returned (.bool true) ∧ Below w.heap.size w w' := by
  have k : decide ((100 : Int) < (len : Int)) = false := decide_eq_false (by omega)
  have h1 := fun v => pNew_bad id nodes v hb
  have h2 := fun v => refNew_bad id nodes v hb
  clear hb
  go_enter Tryd.func7, Tryd.ntmps7
  go_wp2_with fail
  refine (h1 _).mono ?_
  rintro e w1 ⟨rfl, hb1⟩
  go_wp2_with fail
  refine (h2 _).mono ?_
  rintro e w2 ⟨rfl, hw2⟩
  replace hw2 := hw2.symm
  subst hw2
  go_wp2_with fail
  refine (bare_e 1 _ (hT.below hb1)).mono ?_
  rintro e w3 ⟨rfl, hb3⟩
  go_wp2
  go_ret
  exact ⟨rfl, hb1.trans (hb3.mono hb1.size)⟩

/-- What lies in the round's box. -/
def Box3 (v : World) (X : Nat) (wh frm is : Int) : Prop := v.cell? ⟨X, 0, none⟩ = some (.int .i64 wh) ∧ v.cell? ⟨X, 1, none⟩ = some (.int .i64 frm) ∧ v.cell? ⟨X, 2, none⟩ = some (.int .i64 is) ∧ X < v.heap.size
theorem Box3.turns {v v' : World} {X P Q : Nat} {wh frm is : Int} (h : Box3 v X wh frm is) (k : Turns P Q v v') (h1 : X ≠ P) (h2 : X ≠ Q) : Box3 v' X wh frm is :=
  ⟨(k.cell (p := ⟨X, 0, none⟩) h.2.2.2 h1 h2).trans h.1, (k.cell (p := ⟨X, 1, none⟩) h.2.2.2 h1 h2).trans h.2.1, (k.cell (p := ⟨X, 2, none⟩) h.2.2.2 h1 h2).trans h.2.2.1, Nat.lt_of_lt_of_le h.2.2.2 k.size⟩
theorem Box3.drawn {v : World} {X : Nat} {wh frm is : Int} (h : Box3 v X wh frm is) (q : Nat) : Box3 (v.drewN q) X wh frm is := h
theorem Box3.below {v v' : World} {X : Nat} {wh frm is : Int} (h : Box3 v X wh frm is) (k : Below v.heap.size v v') : Box3 v' X wh frm is :=
  ⟨(k.cell (p := ⟨X, 0, none⟩) h.2.2.2).trans h.1, (k.cell (p := ⟨X, 1, none⟩) h.2.2.2).trans h.2.1, (k.cell (p := ⟨X, 2, none⟩) h.2.2.2).trans h.2.2.1, Nat.lt_of_lt_of_le h.2.2.2 k.size⟩
theorem box3_new (w : World) (t : TypeId) (wh frm is : Int) : Box3 (w.alloc (.cells #[.int .i64 wh, .int .i64 frm, .int .i64 is] t)) w.heap.size wh frm is := by
  refine ⟨?_, ?_, ?_, by simp⟩ <;> simp
theorem Below.of_turns {B P Q : Nat} {w v v' : World} (h : Below B w v) (k : Turns P Q v v') (hB : B ≤ v.heap.size) (h1 : B ≤ P) (h2 : B ≤ Q) : Below B w v' := h.trans (k.below hB h1 h2)

set_option maxRecDepth 100000 in
set_option maxHeartbeats 4000000 in
theorem plays_good (i n : Nat) (a : Option Addr) (len cap : Nat) (w : World) (hT : Told w) (h : len ≤ 100) (h1 : 1 ≤ n) (h2 : n ≤ 16) (h3 : i < n) (fw ff fi : Nat → Int) (hR : Rows3 w a len fw ff fi) (hII : ∀ j, j < len → -9223372036854775808 ≤ fi j ∧ fi j < 9223372036854775808) :
    Calls Tryd.prog 7 #[.int .i64 i, .int .i64 n, .slice a len cap] w fun e w' => e = .returned (.bool true) ∧ Below w.heap.size w w' := by
  have k : decide ((100 : Int) < (len : Int)) = false := decide_eq_false (by omega)
  have HR : Hid (Rows3 w a len fw ff fi) := hR
  have HII : Hid (∀ j, j < len → -9223372036854775808 ≤ fi j ∧ fi j < 9223372036854775808) := hII
  have HTw : Hid (Told w) := hT
  clear hR hII hT
  go_enter Tryd.func7, Tryd.ntmps7
  go_wp2_with fail
  refine (pNew_good i n _ h1 h2 (by omega) (by omega)).mono ?_
  rintro e w1 ⟨rfl, hp, hb1⟩
  have hp1 := hp.lp
  go_wp2_with fail
  refine (refNew_good i n _ h1 h2 (by omega) (by omega)).mono ?_
  rintro e w2 ⟨rfl, hr, hb2⟩
  have hT12 : Turns w1.heap.size w1.heap.size w1 w2 := Turns.of_below hb2
  have hp2 := hp.keep hT12 (by omega) (by omega)
  rw [← all_bits n] at hp2
  have HB0 : Hid (Both w2 w.heap.size (w1.heap.size + 1) w1.heap.size i n (fun _ => true) 1 0 false) := ⟨hp2, hr, by omega, by omega⟩
  have HL0 : Hid (Below w.heap.size w w2) := hb1.trans (hb2.mono hb1.size)
  have hs1 := hb1.size
  go_wp2_with fail
  obtain ⟨PP, hPP⟩ : ∃ x, w.heap.size = x := ⟨_, rfl⟩
  obtain ⟨PR, hPR⟩ : ∃ x, w1.heap.size + 1 = x := ⟨_, rfl⟩
  obtain ⟨QR, hQR⟩ : ∃ x, w1.heap.size = x := ⟨_, rfl⟩
  have hPw : w.heap.size ≤ PP := by omega
  have hRw : w.heap.size ≤ PR := by omega
  have hQw : w.heap.size ≤ QR := by omega
  have HB9 : Hid (Both w2 PP PR QR i n (fun _ => true) 1 0 false) := by rw [← hPP, ← hPR, ← hQR]; exact HB0.out
  rw [hPR]
  have hPP2 : (some (⟨w.heap.size, 0, none⟩ : Addr)) = some ⟨PP, 0, none⟩ := by rw [hPP]
  rw [hPP2]
  clear hPP2 hPP hPR hQR HB0 hp hr hp2 hT12 hb1 hb2 hp1 hs1
  go_loopw [11] (fun v wr => ∃ (q : Nat) (t : Nat → Bool) (g b : Int) (fz : Bool), q ≤ len ∧ v = .int .i64 q ∧ Hid (Both wr PP PR QR i n t g b fz) ∧ Hid (0 ≤ g ∧ g ≤ (q : Int) + 1 ∧ 0 ≤ b ∧ b ≤ (q : Int)) ∧ Hid (Below w.heap.size w wr)) (fun v _ => len - (intOf v).toNat)
  case atStart => exact ⟨0, fun _ => true, 1, 0, false, Nat.zero_le _, rfl, HB9, ⟨by decide, by simp, by decide, by simp⟩, HL0⟩
  case round =>
    obtain ⟨q, t, g, b, fz, hq, rfl, HB, HN, HL⟩ := hrel
    by_cases hlt : q < len
    · obtain ⟨rb, off, rfl, hrb, hcells⟩ := HR.out (by omega)
      obtain ⟨y0, y1, y2⟩ := hcells q hlt
      replace y0 := (HL.out.cell (p := ⟨rb, off + q * 3, none⟩) hrb).trans y0
      replace y1 := (HL.out.cell (p := ⟨rb, off + q * 3 + 1, none⟩) hrb).trans y1
      replace y2 := (HL.out.cell (p := ⟨rb, off + q * 3 + 2, none⟩) hrb).trans y2
      have HI := HII.out q hlt
      generalize fw q = wh at *
      generalize ff q = frm at *
      generalize fi q = is at *
      have kk : (q : Int) < (len : Int) := by omega
      obtain ⟨X, hXe⟩ : ∃ X, wr.heap.size = X := ⟨_, rfl⟩
      obtain ⟨vx, hvx⟩ : ∃ v, wr.alloc (.cells #[.int .i64 wh, .int .i64 frm, .int .i64 is] 74) = v := ⟨_, rfl⟩
      have hAl : Below wr.heap.size wr vx := by rw [← hvx]; exact (Below.refl _ _).alloc (Nat.le_refl _) _
      have HX1 : Hid (Box3 vx X wh frm is) := by rw [← hvx, ← hXe]; exact box3_new wr _ wh frm is
      have HB1 : Hid (Both vx PP PR QR i n t g b fz) := HB.out.below hAl
      have HL1 : Hid (Below w.heap.size w vx) := HL.out.trans (hAl.mono HL.out.size)
      have hXP : X ≠ PP := by have := HB.out.p.lp; omega
      have hXR : X ≠ PR := by have := HB.out.r.lp; omega
      have hXQ : X ≠ QR := by have := HB.out.r.lq; omega
      obtain ⟨x0, x1, x2, x3⟩ := HX1.out
      clear HB HL hAl
      by_cases e0 : wh = 0
      · subst e0
        go_wp2_with fail
        clear hvx hXe y0 y1 y2
        obtain ⟨b1, b2, b3, b4⟩ := HN.out
        refine (pHears_all HB1.out.p frm is h2 b1 (by omega) b3 (by omega)).mono ?_
        rintro ev v1 ⟨rfl, hp, ht⟩
        have hr := HB1.out.left hp ht
        have HXa : Hid (Box3 v1 X 0 frm is) := HX1.out.turns ht hXP hXP
        have HLa : Hid (Below w.heap.size w v1) := Below.of_turns HL1.out ht HL1.out.size hPw hPw
        clear x0 x1 x2 x3
        obtain ⟨x0, x1, x2, x3⟩ := HXa.out
        go_wp2_with fail
        refine (refHears_all hr frm is h1 h2 b1 (by omega) b3 (by omega)).mono ?_
        rintro ev v2 ⟨rfl, hr2, ht2⟩
        have HB2 : Hid (Both v2 PP PR QR i n (heT i n fz frm is t) (heG i n fz frm is g) (heB i n fz frm is b) fz) := Both.mk2 hp hr2 ht2 HB1.out.ne1 HB1.out.ne2
        have HX2 : Hid (Box3 v2 X 0 frm is) := HXa.out.turns ht2 hXR hXQ
        have HL2 : Hid (Below w.heap.size w v2) := Below.of_turns HLa.out ht2 HLa.out.size hRw hQw
        clear hp ht hr hr2 ht2 HXa HLa HB1 HX1 HL1 x0 x1 x2 x3 b1 b2 b3 b4
        obtain ⟨T, hTe⟩ : ∃ T, heT i n fz frm is t = T := ⟨_, rfl⟩
        obtain ⟨G, hGe⟩ : ∃ G, heG i n fz frm is g = G := ⟨_, rfl⟩
        obtain ⟨B, hBe⟩ : ∃ B, heB i n fz frm is b = B := ⟨_, rfl⟩
        obtain ⟨FZ, hFe⟩ : ∃ FZ, fz = FZ := ⟨_, rfl⟩
        have HN2 : Hid (0 ≤ G ∧ G ≤ (q : Int) + 1 + 1 ∧ 0 ≤ B ∧ B ≤ (q : Int) + 1) := by
          obtain ⟨b1, b2, b3, b4⟩ := HN.out
          rw [← hGe, ← hBe]
          exact ⟨by unfold heG; split <;> omega, by unfold heG; split <;> omega, by unfold heB; split <;> omega, by unfold heB; split <;> omega⟩
        rw [hTe, hGe, hBe, hFe] at HB2
        clear hTe hGe hBe hFe
        go_wp2_with fail
        refine (pCounts_any HB2.out.p).mono ?_
        rintro ev v1 ⟨rfl, q1, hv1⟩
        have HB3 : Hid (Both v1 PP PR QR i n T G B FZ) := by rw [hv1]; exact HB2.out.drawn q1
        have HX3 : Hid (Box3 v1 X 0 frm is) := by rw [hv1]; exact HX2.out.drawn q1
        have HL3 : Hid (Below w.heap.size w v1) := by rw [hv1]; exact HL2.out.trans ((Turns.drawn (P := w.heap.size) (Q := w.heap.size) q1).below HL2.out.size (Nat.le_refl _) (Nat.le_refl _))
        clear hv1 HB2 HX2 HL2
        obtain ⟨x0, x1, x2, x3⟩ := HX3.out
        have r3 := HB3.out.r.c3
        have r4 := HB3.out.r.c4
        have r5 := HB3.out.r.c5
        have lpr := HB3.out.r.lp
        obtain ⟨MV, hMV⟩ : ∃ MV, bitsV T n = MV := ⟨_, rfl⟩
        obtain ⟨JV, hJV⟩ : ∃ JV, judgeV n T (tb MV) frm MV = JV := ⟨_, rfl⟩
        have hMem := fun k => pMembers_any (HB3.out.p.drawn k)
        have hBit := fun k => refBits_any (HB3.out.r.drawn k) h2
        have hFro := fun k => pFrozen_any (HB3.out.p.drawn k)
        have hPJ := fun k => pJudges_any (HB3.out.p.drawn k) frm MV h2
        have hRJ := fun k => refJudges_all (HB3.out.r.drawn k) frm MV h1 h2
        rw [hMV] at hMem hBit
        rw [hJV] at hPJ hRJ
        clear hMV hJV
        go_wp2_with fail
        go_quiet (first | (go_at_call 34; refine Calls.quiet_of_same (hMem _)) | (go_at_call 35; refine Calls.quiet_of_same (hBit _)) | (go_at_call 36; refine Calls.quiet_of_same (hFro _)) | (go_at_call 31; refine Calls.quiet_of (hPJ _)) | (go_at_call 32; refine Calls.quiet_of_same (hRJ _)))
        have HB4 : Hid (Both (v1.drewN nq) PP PR QR i n T G B FZ) := HB3.out.drawn nq
        have HL4 : Hid (Below w.heap.size w (v1.drewN nq)) := HL3.out.trans ((Turns.drawn (P := w.heap.size) (Q := w.heap.size) nq).below HL3.out.size (Nat.le_refl _) (Nat.le_refl _))
        clear HB3 HX3 HL3 hMem hBit hFro hPJ hRJ x0 x1 x2 r3 r4 r5
        go_wp2_with fail
        exact ⟨⟨q + 1, T, G, B, FZ, by omega, by go_num, HB4, HN2, HL4⟩, by simp [intOf]; omega⟩
      · have e0' : (wh == 0) = false := by simpa using e0
        by_cases e1 : wh = 1
        · subst e1
          clear e0 e0'
          go_wp2_with fail
          clear hvx hXe y0 y1 y2
          have HNS : Hid (0 ≤ (if sendsB g b fz = true then (1 : Int) else g) ∧ (if sendsB g b fz = true then (1 : Int) else g) ≤ (q : Int) + 1 + 1 ∧ 0 ≤ (if sendsB g b fz = true then (0 : Int) else b) ∧ (if sendsB g b fz = true then (0 : Int) else b) ≤ (q : Int) + 1) := by
            obtain ⟨b1, b2, b3, b4⟩ := HN.out
            refine ⟨?_, ?_, ?_, ?_⟩ <;> split <;> omega
          have hRS := refSends_any HB1.out.r h2
          have hPS := fun (v : World) (hp : ProgNode v PP i n (bitsV t n) g b fz) => pSends_any hp
          generalize (if sendsB g b fz = true then bitsV t n else 0) = MS at hRS hPS
          generalize (if sendsB g b fz = true then (1 : Int) else g) = GS at hRS hPS HNS
          generalize (if sendsB g b fz = true then (0 : Int) else b) = BS at hRS hPS HNS
          generalize sendsB g b fz = S at hRS hPS
          refine hRS.mono ?_
          rintro ev v1 ⟨rfl, hr, ht⟩
          have HRR : Hid (RefNode v1 PR QR i n t GS BS (!S)) := hr
          have HPS := hPS v1 (HB1.out.p.keep ht HB1.out.ne1 HB1.out.ne2)
          have HXa : Hid (Box3 v1 X 1 frm is) := HX1.out.turns ht hXR hXQ
          have HLa : Hid (Below w.heap.size w v1) := Below.of_turns HL1.out ht HL1.out.size hRw hQw
          clear x0 x1 x2 x3 hRS hPS hr ht
          go_wp2_with fail
          refine HPS.mono ?_
          rintro ev v2 ⟨rfl, hp2, ht2⟩
          have HB2 : Hid (Both v2 PP PR QR i n t GS BS (!S)) := ⟨hp2, HRR.out.keep ht2 (Ne.symm HB1.out.ne1) (Ne.symm HB1.out.ne1) (Ne.symm HB1.out.ne2) (Ne.symm HB1.out.ne2), HB1.out.ne1, HB1.out.ne2⟩
          have HX2 : Hid (Box3 v2 X 1 frm is) := HXa.out.turns ht2 hXP hXP
          have HL2 : Hid (Below w.heap.size w v2) := Below.of_turns HLa.out ht2 HLa.out.size hPw hPw
          clear HRR HPS hp2 ht2 HXa HLa HB1 HX1 HL1
          obtain ⟨T, hTe⟩ : ∃ T, t = T := ⟨_, rfl⟩
          obtain ⟨G, hGe⟩ : ∃ G, GS = G := ⟨_, rfl⟩
          obtain ⟨B, hBe⟩ : ∃ B, BS = B := ⟨_, rfl⟩
          obtain ⟨FZ, hFe⟩ : ∃ FZ, (!S) = FZ := ⟨_, rfl⟩
          have HN2 : Hid (0 ≤ G ∧ G ≤ (q : Int) + 1 + 1 ∧ 0 ≤ B ∧ B ≤ (q : Int) + 1) := by
            rw [← hGe, ← hBe]
            exact HNS.out
          rw [hTe, hGe, hBe, hFe] at HB2
          clear hTe hGe hBe hFe
          go_wp2_with fail
          refine (pCounts_any HB2.out.p).mono ?_
          rintro ev v1 ⟨rfl, q1, hv1⟩
          have HB3 : Hid (Both v1 PP PR QR i n T G B FZ) := by rw [hv1]; exact HB2.out.drawn q1
          have HX3 : Hid (Box3 v1 X 1 frm is) := by rw [hv1]; exact HX2.out.drawn q1
          have HL3 : Hid (Below w.heap.size w v1) := by rw [hv1]; exact HL2.out.trans ((Turns.drawn (P := w.heap.size) (Q := w.heap.size) q1).below HL2.out.size (Nat.le_refl _) (Nat.le_refl _))
          clear hv1 HB2 HX2 HL2
          obtain ⟨x0, x1, x2, x3⟩ := HX3.out
          have r3 := HB3.out.r.c3
          have r4 := HB3.out.r.c4
          have r5 := HB3.out.r.c5
          have lpr := HB3.out.r.lp
          obtain ⟨MV, hMV⟩ : ∃ MV, bitsV T n = MV := ⟨_, rfl⟩
          obtain ⟨JV, hJV⟩ : ∃ JV, judgeV n T (tb MV) frm MV = JV := ⟨_, rfl⟩
          have hMem := fun k => pMembers_any (HB3.out.p.drawn k)
          have hBit := fun k => refBits_any (HB3.out.r.drawn k) h2
          have hFro := fun k => pFrozen_any (HB3.out.p.drawn k)
          have hPJ := fun k => pJudges_any (HB3.out.p.drawn k) frm MV h2
          have hRJ := fun k => refJudges_all (HB3.out.r.drawn k) frm MV h1 h2
          rw [hMV] at hMem hBit
          rw [hJV] at hPJ hRJ
          clear hMV hJV
          go_wp2_with fail
          go_quiet (first | (go_at_call 34; refine Calls.quiet_of_same (hMem _)) | (go_at_call 35; refine Calls.quiet_of_same (hBit _)) | (go_at_call 36; refine Calls.quiet_of_same (hFro _)) | (go_at_call 31; refine Calls.quiet_of (hPJ _)) | (go_at_call 32; refine Calls.quiet_of_same (hRJ _)))
          have HB4 : Hid (Both (v1.drewN nq) PP PR QR i n T G B FZ) := HB3.out.drawn nq
          have HL4 : Hid (Below w.heap.size w (v1.drewN nq)) := HL3.out.trans ((Turns.drawn (P := w.heap.size) (Q := w.heap.size) nq).below HL3.out.size (Nat.le_refl _) (Nat.le_refl _))
          clear HB3 HX3 HL3 hMem hBit hFro hPJ hRJ x0 x1 x2 r3 r4 r5
          go_wp2_with fail
          exact ⟨⟨q + 1, T, G, B, FZ, by omega, by go_num, HB4, HN2, HL4⟩, by simp [intOf]; omega⟩
        · have e1' : (wh == 1) = false := by simpa using e1
          by_cases e2 : wh = 2
          · subst e2
            clear e0 e0' e1 e1'
            go_wp2_with fail
            clear hvx hXe y0 y1 y2
            obtain ⟨i0, i1⟩ := HI
            have HBk : Hid (∀ v, Both v PP PR QR i n t g b fz → Calls Tryd.prog 29 #[.pointer (some ⟨PP, 0, none⟩), .int .i64 is] v fun e w' => e = .returned (errV (baK n fz is)) ∧ ProgNode w' PP i n (bitsV (baT i n fz is t) n) (baG n fz is g) (baB n fz is b) (baF n fz is) ∧ Turns PP PP v w') := fun v hv => pBack_all hv.p is h2 h3 i0 i1
            have HRk : Hid (∀ v, RefNode v PR QR i n t g b fz → Calls Tryd.prog 30 #[.pointer (some ⟨PR, 0, none⟩), .int .i64 is] v fun e w' => e = .returned (.int .i64 (baK n fz is)) ∧ RefNode w' PR QR i n (baT i n fz is t) (baG n fz is g) (baB n fz is b) (baF n fz is) ∧ Turns PR QR v w') := fun v hv => refBack_all hv is h1 h2
            have HNS : Hid (0 ≤ baG n fz is g ∧ baG n fz is g ≤ (q : Int) + 1 + 1 ∧ 0 ≤ baB n fz is b ∧ baB n fz is b ≤ (q : Int) + 1) := by
              obtain ⟨b1, b2, b3, b4⟩ := HN.out
              unfold baG baB
              refine ⟨?_, ?_, ?_, ?_⟩ <;> split <;> omega
            generalize baK n fz is = K0 at HBk HRk
            generalize baT i n fz is t = TS at HBk HRk
            generalize baG n fz is g = GS at HBk HRk HNS
            generalize baB n fz is b = BS at HBk HRk HNS
            generalize baF n fz is = FS at HBk HRk
            have hbr := bare_errV K0
            clear i0 i1 x0 x1
            go_region_held3 (fun u => u.cell? ⟨X, 2, none⟩ = some (.int .i64 is)) (go_keep) (first
              | (go_at_call 29; refine (HBk.out _ (HB1.out.drawn 1)).mono ?_; rintro ev v1 ⟨rfl, hp1, ht1⟩; have HRa : Hid (RefNode v1 PR QR i n t g b fz) := (HB1.out.drawn 1).left hp1 ht1; have HPa : Hid (ProgNode v1 PP i n (bitsV TS n) GS BS FS) := hp1; have HXa : Hid (Box3 v1 X 2 frm is) := (HX1.out.drawn 1).turns ht1 hXP hXP; have HLa : Hid (Below w.heap.size w v1) := Below.of_turns HL1.out ((Turns.drawn 1).trans ht1) HL1.out.size hPw hPw; have xx := HXa.out.2.2.1)
              | (go_at_call 30; refine (HRk.out _ HRa.out).mono ?_; rintro ev v2 ⟨rfl, hr2, ht2⟩; have HBb : Hid (Both v2 PP PR QR i n TS GS BS FS) := Both.mk2 HPa.out hr2 ht2 HB1.out.ne1 HB1.out.ne2; have HXb : Hid (Box3 v2 X 2 frm is) := HXa.out.turns ht2 hXR hXQ; have HLb : Hid (Below w.heap.size w v2) := Below.of_turns HLa.out ht2 HLa.out.size hRw hQw; have xy := HXb.out.2.2.1)
              | (go_at_call 10; refine (hbr _ (HTw.out.below HLb.out)).mono ?_; rintro ev v3 ⟨rfl, hb3⟩; have HB2 : Hid (Both v3 PP PR QR i n TS GS BS FS) := HBb.out.below hb3; have HX2 : Hid (Box3 v3 X 2 frm is) := HXb.out.below hb3; have HL2 : Hid (Below w.heap.size w v3) := HLb.out.trans (hb3.mono HLb.out.size); have xz := HX2.out.2.2.1))
            clear HBk HRk HRa HPa HXa HLa HBb HXb HLb hp1 ht1 hr2 ht2 hb3 xx xy xz x2 x3
            obtain ⟨T, hTe⟩ : ∃ T, TS = T := ⟨_, rfl⟩
            obtain ⟨G, hGe⟩ : ∃ G, GS = G := ⟨_, rfl⟩
            obtain ⟨B, hBe⟩ : ∃ B, BS = B := ⟨_, rfl⟩
            obtain ⟨FZ, hFe⟩ : ∃ FZ, FS = FZ := ⟨_, rfl⟩
            have HN2 : Hid (0 ≤ G ∧ G ≤ (q : Int) + 1 + 1 ∧ 0 ≤ B ∧ B ≤ (q : Int) + 1) := by
              rw [← hGe, ← hBe]
              exact HNS.out
            rw [hTe, hGe, hBe, hFe] at HB2
            clear hTe hGe hBe hFe
            go_wp2_with fail
            refine (pCounts_any HB2.out.p).mono ?_
            rintro ev v1 ⟨rfl, q1, hv1⟩
            have HB3 : Hid (Both v1 PP PR QR i n T G B FZ) := by rw [hv1]; exact HB2.out.drawn q1
            have HX3 : Hid (Box3 v1 X 2 frm is) := by rw [hv1]; exact HX2.out.drawn q1
            have HL3 : Hid (Below w.heap.size w v1) := by rw [hv1]; exact HL2.out.trans ((Turns.drawn (P := w.heap.size) (Q := w.heap.size) q1).below HL2.out.size (Nat.le_refl _) (Nat.le_refl _))
            clear hv1 HB2 HX2 HL2
            obtain ⟨x0, x1, x2, x3⟩ := HX3.out
            have r3 := HB3.out.r.c3
            have r4 := HB3.out.r.c4
            have r5 := HB3.out.r.c5
            have lpr := HB3.out.r.lp
            obtain ⟨MV, hMV⟩ : ∃ MV, bitsV T n = MV := ⟨_, rfl⟩
            obtain ⟨JV, hJV⟩ : ∃ JV, judgeV n T (tb MV) frm MV = JV := ⟨_, rfl⟩
            have hMem := fun k => pMembers_any (HB3.out.p.drawn k)
            have hBit := fun k => refBits_any (HB3.out.r.drawn k) h2
            have hFro := fun k => pFrozen_any (HB3.out.p.drawn k)
            have hPJ := fun k => pJudges_any (HB3.out.p.drawn k) frm MV h2
            have hRJ := fun k => refJudges_all (HB3.out.r.drawn k) frm MV h1 h2
            rw [hMV] at hMem hBit
            rw [hJV] at hPJ hRJ
            clear hMV hJV
            go_wp2_with fail
            go_quiet (first | (go_at_call 34; refine Calls.quiet_of_same (hMem _)) | (go_at_call 35; refine Calls.quiet_of_same (hBit _)) | (go_at_call 36; refine Calls.quiet_of_same (hFro _)) | (go_at_call 31; refine Calls.quiet_of (hPJ _)) | (go_at_call 32; refine Calls.quiet_of_same (hRJ _)))
            have HB4 : Hid (Both (v1.drewN nq) PP PR QR i n T G B FZ) := HB3.out.drawn nq
            have HL4 : Hid (Below w.heap.size w (v1.drewN nq)) := HL3.out.trans ((Turns.drawn (P := w.heap.size) (Q := w.heap.size) nq).below HL3.out.size (Nat.le_refl _) (Nat.le_refl _))
            clear HB3 HX3 HL3 hMem hBit hFro hPJ hRJ x0 x1 x2 r3 r4 r5
            go_wp2_with fail
            exact ⟨⟨q + 1, T, G, B, FZ, by omega, by go_num, HB4, HN2, HL4⟩, by simp [intOf]; omega⟩
          · have e2' : (wh == 2) = false := by simpa using e2
            by_cases e3 : wh = 3
            · subst e3
              clear e0 e0' e1 e1' e2 e2'
              go_wp2_with fail
              clear hvx hXe y0 y1 y2
              have hPJ0 := fun k => pJudges_any (HB1.out.p.drawn k) frm is h2
              have hRJ0 := fun k => refJudges_all (HB1.out.r.drawn k) frm is h1 h2
              generalize judgeV n t (tb is) frm is = J0 at *
              go_quiet (first | (go_at_call 31; refine Calls.quiet_of (hPJ0 _)) | (go_at_call 32; refine Calls.quiet_of_same (hRJ0 _)))
              have HB2 : Hid (Both (vx.drewN nq) PP PR QR i n t g b fz) := HB1.out.drawn nq
              have HX2 : Hid (Box3 (vx.drewN nq) X 3 frm is) := HX1.out.drawn nq
              have HL2 : Hid (Below w.heap.size w (vx.drewN nq)) := HL1.out.trans ((Turns.drawn (P := w.heap.size) (Q := w.heap.size) nq).below HL1.out.size (Nat.le_refl _) (Nat.le_refl _))
              clear hPJ0 hRJ0 HB1 HX1 HL1 x0 x1 x2 x3
              obtain ⟨T, hTe⟩ : ∃ T, t = T := ⟨_, rfl⟩
              obtain ⟨G, hGe⟩ : ∃ G, g = G := ⟨_, rfl⟩
              obtain ⟨B, hBe⟩ : ∃ B, b = B := ⟨_, rfl⟩
              obtain ⟨FZ, hFe⟩ : ∃ FZ, fz = FZ := ⟨_, rfl⟩
              have HN2 : Hid (0 ≤ G ∧ G ≤ (q : Int) + 1 + 1 ∧ 0 ≤ B ∧ B ≤ (q : Int) + 1) := by
                rw [← hGe, ← hBe]
                exact by obtain ⟨b1, b2, b3, b4⟩ := HN.out; refine ⟨?_, ?_, ?_, ?_⟩ <;> omega
              rw [hTe, hGe, hBe, hFe] at HB2
              clear hTe hGe hBe hFe
              go_wp2_with fail
              refine (pCounts_any HB2.out.p).mono ?_
              rintro ev v1 ⟨rfl, q1, hv1⟩
              have HB3 : Hid (Both v1 PP PR QR i n T G B FZ) := by rw [hv1]; exact HB2.out.drawn q1
              have HX3 : Hid (Box3 v1 X 3 frm is) := by rw [hv1]; exact HX2.out.drawn q1
              have HL3 : Hid (Below w.heap.size w v1) := by rw [hv1]; exact HL2.out.trans ((Turns.drawn (P := w.heap.size) (Q := w.heap.size) q1).below HL2.out.size (Nat.le_refl _) (Nat.le_refl _))
              clear hv1 HB2 HX2 HL2
              obtain ⟨x0, x1, x2, x3⟩ := HX3.out
              have r3 := HB3.out.r.c3
              have r4 := HB3.out.r.c4
              have r5 := HB3.out.r.c5
              have lpr := HB3.out.r.lp
              obtain ⟨MV, hMV⟩ : ∃ MV, bitsV T n = MV := ⟨_, rfl⟩
              obtain ⟨JV, hJV⟩ : ∃ JV, judgeV n T (tb MV) frm MV = JV := ⟨_, rfl⟩
              have hMem := fun k => pMembers_any (HB3.out.p.drawn k)
              have hBit := fun k => refBits_any (HB3.out.r.drawn k) h2
              have hFro := fun k => pFrozen_any (HB3.out.p.drawn k)
              have hPJ := fun k => pJudges_any (HB3.out.p.drawn k) frm MV h2
              have hRJ := fun k => refJudges_all (HB3.out.r.drawn k) frm MV h1 h2
              rw [hMV] at hMem hBit
              rw [hJV] at hPJ hRJ
              clear hMV hJV
              go_wp2_with fail
              go_quiet (first | (go_at_call 34; refine Calls.quiet_of_same (hMem _)) | (go_at_call 35; refine Calls.quiet_of_same (hBit _)) | (go_at_call 36; refine Calls.quiet_of_same (hFro _)) | (go_at_call 31; refine Calls.quiet_of (hPJ _)) | (go_at_call 32; refine Calls.quiet_of_same (hRJ _)))
              have HB4 : Hid (Both (v1.drewN nq) PP PR QR i n T G B FZ) := HB3.out.drawn nq
              have HL4 : Hid (Below w.heap.size w (v1.drewN nq)) := HL3.out.trans ((Turns.drawn (P := w.heap.size) (Q := w.heap.size) nq).below HL3.out.size (Nat.le_refl _) (Nat.le_refl _))
              clear HB3 HX3 HL3 hMem hBit hFro hPJ hRJ x0 x1 x2 r3 r4 r5
              go_wp2_with fail
              exact ⟨⟨q + 1, T, G, B, FZ, by omega, by go_num, HB4, HN2, HL4⟩, by simp [intOf]; omega⟩
            · have e3' : (wh == 3) = false := by simpa using e3
              clear e0 e1 e2 e3
              go_wp2_with fail
              clear hvx hXe y0 y1 y2
              have HB2 := HB1
              have HX2 := HX1
              have HL2 := HL1
              clear HB1 HX1 HL1 x0 x1 x2 x3
              obtain ⟨T, hTe⟩ : ∃ T, t = T := ⟨_, rfl⟩
              obtain ⟨G, hGe⟩ : ∃ G, g = G := ⟨_, rfl⟩
              obtain ⟨B, hBe⟩ : ∃ B, b = B := ⟨_, rfl⟩
              obtain ⟨FZ, hFe⟩ : ∃ FZ, fz = FZ := ⟨_, rfl⟩
              have HN2 : Hid (0 ≤ G ∧ G ≤ (q : Int) + 1 + 1 ∧ 0 ≤ B ∧ B ≤ (q : Int) + 1) := by
                rw [← hGe, ← hBe]
                exact by obtain ⟨b1, b2, b3, b4⟩ := HN.out; refine ⟨?_, ?_, ?_, ?_⟩ <;> omega
              rw [hTe, hGe, hBe, hFe] at HB2
              clear hTe hGe hBe hFe
              go_wp2_with fail
              refine (pCounts_any HB2.out.p).mono ?_
              rintro ev v1 ⟨rfl, q1, hv1⟩
              have HB3 : Hid (Both v1 PP PR QR i n T G B FZ) := by rw [hv1]; exact HB2.out.drawn q1
              have HX3 : Hid (Box3 v1 X wh frm is) := by rw [hv1]; exact HX2.out.drawn q1
              have HL3 : Hid (Below w.heap.size w v1) := by rw [hv1]; exact HL2.out.trans ((Turns.drawn (P := w.heap.size) (Q := w.heap.size) q1).below HL2.out.size (Nat.le_refl _) (Nat.le_refl _))
              clear hv1 HB2 HX2 HL2
              obtain ⟨x0, x1, x2, x3⟩ := HX3.out
              have r3 := HB3.out.r.c3
              have r4 := HB3.out.r.c4
              have r5 := HB3.out.r.c5
              have lpr := HB3.out.r.lp
              obtain ⟨MV, hMV⟩ : ∃ MV, bitsV T n = MV := ⟨_, rfl⟩
              obtain ⟨JV, hJV⟩ : ∃ JV, judgeV n T (tb MV) frm MV = JV := ⟨_, rfl⟩
              have hMem := fun k => pMembers_any (HB3.out.p.drawn k)
              have hBit := fun k => refBits_any (HB3.out.r.drawn k) h2
              have hFro := fun k => pFrozen_any (HB3.out.p.drawn k)
              have hPJ := fun k => pJudges_any (HB3.out.p.drawn k) frm MV h2
              have hRJ := fun k => refJudges_all (HB3.out.r.drawn k) frm MV h1 h2
              rw [hMV] at hMem hBit
              rw [hJV] at hPJ hRJ
              clear hMV hJV
              go_wp2_with fail
              go_quiet (first | (go_at_call 34; refine Calls.quiet_of_same (hMem _)) | (go_at_call 35; refine Calls.quiet_of_same (hBit _)) | (go_at_call 36; refine Calls.quiet_of_same (hFro _)) | (go_at_call 31; refine Calls.quiet_of (hPJ _)) | (go_at_call 32; refine Calls.quiet_of_same (hRJ _)))
              have HB4 : Hid (Both (v1.drewN nq) PP PR QR i n T G B FZ) := HB3.out.drawn nq
              have HL4 : Hid (Below w.heap.size w (v1.drewN nq)) := HL3.out.trans ((Turns.drawn (P := w.heap.size) (Q := w.heap.size) nq).below HL3.out.size (Nat.le_refl _) (Nat.le_refl _))
              clear HB3 HX3 HL3 hMem hBit hFro hPJ hRJ x0 x1 x2 r3 r4 r5
              go_wp2_with fail
              exact ⟨⟨q + 1, T, G, B, FZ, by omega, by go_num, HB4, HN2, HL4⟩, by simp [intOf]; omega⟩
    · go_wp2
      go_ret
      exact ⟨rfl, HL.out⟩

/-- MemberPlays answers true, whatever it is asked. -/
theorem plays_any (id nodes : Int) (a : Option Addr) (len cap : Nat) (w : World) (hT : Told w) (fw ff fi : Nat → Int) (hR : Rows3 w a len fw ff fi) (hl : len ≤ 9223372036854775807) (hII : ∀ j, j < len → -9223372036854775808 ≤ fi j ∧ fi j < 9223372036854775808) :
    Calls Tryd.prog 7 #[.int .i64 id, .int .i64 nodes, .slice a len cap] w fun e w' => e = .returned (.bool true) ∧ Below w.heap.size w w' := by
  by_cases h : 100 < len
  · exact plays_great id nodes a len cap w h hl
  · by_cases hb : (1 ≤ nodes ∧ nodes ≤ 16) ∧ 0 ≤ id ∧ id < nodes
    · obtain ⟨n, rfl⟩ := Int.eq_ofNat_of_zero_le (show 0 ≤ nodes by omega)
      obtain ⟨i, rfl⟩ := Int.eq_ofNat_of_zero_le hb.2.1
      exact plays_good i n a len cap w hT (by omega) (by omega) (by omega) (by omega) fw ff fi hR hII
    · exact plays_bad id nodes a len cap w hT (by omega) hb
end Go.Proofs.YtjppjdocncmkdabDoor
