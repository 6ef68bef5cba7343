/- VlinkSends, walked: of every bag, queue and script it answers true. (Made by tools/gen_vlinksends.py.) Condition: package errors' own variable holds what its text says. -/
import Derived.Test.YthcnhfjhppmmdabDoorPSdr2
import Derived.Test.YthcnhfjhppmmdabDoorRefSdr
import Derived.Test.YthcnhfjhppmmdabDoorBareAt
import Derived.Test.YthcnhfjhppmmdabDoorOpenPuts
import Derived.Deep.RegionHeld3
namespace Go.Proofs.YthcnhfjhppmmdabDoor
open Go.RowKit

theorem bare_errV (e : Int) : BareSays (errV e) e := by
  unfold errV
  split
  · next h => rw [h]; exact bare_nil
  · exact bare_e e

set_option maxRecDepth 100000 in
set_option maxHeartbeats 1000000 in
theorem sends_great (bag queue : Int) (a : Option Addr) (len cap : Nat) (w : World) (h : 600 < len) (hl : len ≤ 9223372036854775807) :
    Calls Tryd.prog 8 #[.int .i64 bag, .int .i64 queue, .slice a len cap] w fun e w' => e = .returned (.bool true) ∧ Below w.heap.size w w' := by
  have k : (600 : Int) < (len : Int) := by omega
  go_enter Tryd.func8, Tryd.ntmps8
  go_wp2
  go_ret
  exact ⟨rfl, Below.refl _ _⟩

set_option maxRecDepth 100000 in
set_option maxHeartbeats 1000000 in
theorem sends_bad (bag queue : Int) (a : Option Addr) (len cap : Nat) (w : World) (hT : Told w) (h : len ≤ 600) (hb : ¬ ((1 ≤ bag ∧ bag ≤ 1099511627776) ∧ 1 ≤ queue ∧ queue ≤ 16)) :
    Calls Tryd.prog 8 #[.int .i64 bag, .int .i64 queue, .slice a len cap] w fun e w' => e = .returned (.bool true) ∧ Below w.heap.size w w' := by
  have k : decide ((600 : Int) < (len : Int)) = false := decide_eq_false (by omega)
  have h1 := fun v => sdrNew_bad bag queue v hb
  by_cases k1 : bag < 1
  · clear hb
    go_enter Tryd.func8, Tryd.ntmps8
    go_wp2_with fail
    refine (h1 _).mono ?_
    rintro e w1 ⟨rfl, hb1⟩
    go_wp2_with fail
    refine (bare_errV 2 _ (hT.below hb1)).mono ?_
    rintro e w3 ⟨rfl, hb3⟩
    go_wp2
    go_ret
    exact ⟨rfl, hb1.trans (hb3.mono hb1.size)⟩
  · have k1' : decide (bag < 1) = false := decide_eq_false k1
    by_cases k2 : 1099511627776 < bag
    · clear hb k1
      go_enter Tryd.func8, Tryd.ntmps8
      go_wp2_with fail
      refine (h1 _).mono ?_
      rintro e w1 ⟨rfl, hb1⟩
      go_wp2_with fail
      refine (bare_errV 2 _ (hT.below hb1)).mono ?_
      rintro e w3 ⟨rfl, hb3⟩
      go_wp2
      go_ret
      exact ⟨rfl, hb1.trans (hb3.mono hb1.size)⟩
    · have k2' : decide (1099511627776 < bag) = false := decide_eq_false k2
      by_cases k3 : queue < 1
      · clear hb k1 k2
        go_enter Tryd.func8, Tryd.ntmps8
        go_wp2_with fail
        refine (h1 _).mono ?_
        rintro e w1 ⟨rfl, hb1⟩
        go_wp2_with fail
        refine (bare_errV 2 _ (hT.below hb1)).mono ?_
        rintro e w3 ⟨rfl, hb3⟩
        go_wp2
        go_ret
        exact ⟨rfl, hb1.trans (hb3.mono hb1.size)⟩
      · have k3' : decide (queue < 1) = false := decide_eq_false k3
        have k4 : 16 < queue := by omega
        clear hb k1 k2 k3
        go_enter Tryd.func8, Tryd.ntmps8
        go_wp2_with fail
        refine (h1 _).mono ?_
        rintro e w1 ⟨rfl, hb1⟩
        go_wp2_with fail
        refine (bare_errV 2 _ (hT.below hb1)).mono ?_
        rintro e w3 ⟨rfl, hb3⟩
        go_wp2
        go_ret
        exact ⟨rfl, hb1.trans (hb3.mono hb1.size)⟩

/-- What lies in the round's box. -/
def BoxP (v : World) (X : Nat) (wh now : Int) (d : ByteArray) : Prop := v.cell? ⟨X, 0, none⟩ = some (.int .i64 wh) ∧ v.cell? ⟨X, 1, none⟩ = some (.int .i64 now) ∧ v.cell? ⟨X, 2, none⟩ = some (.string d) ∧ X < v.heap.size
theorem BoxP.foot {v v' : World} {X : Nat} {wh now : Int} {d : ByteArray} {O O' : List Nat} (h : BoxP v X wh now d) (k : Foot O O' v v') (hn : X ∉ O) : BoxP v' X wh now d :=
  ⟨(k.cell (p := ⟨X, 0, none⟩) h.2.2.2 hn).trans h.1, (k.cell (p := ⟨X, 1, none⟩) h.2.2.2 hn).trans h.2.1, (k.cell (p := ⟨X, 2, none⟩) h.2.2.2 hn).trans h.2.2.1, Nat.lt_of_lt_of_le h.2.2.2 k.size⟩
theorem BoxP.drawn {v : World} {X : Nat} {wh now : Int} {d : ByteArray} (h : BoxP v X wh now d) (q : Nat) : BoxP (v.drewN q) X wh now d := h
theorem BoxP.below {v v' : World} {X : Nat} {wh now : Int} {d : ByteArray} (h : BoxP v X wh now d) (k : Below v.heap.size v v') : BoxP v' X wh now d :=
  ⟨(k.cell (p := ⟨X, 0, none⟩) h.2.2.2).trans h.1, (k.cell (p := ⟨X, 1, none⟩) h.2.2.2).trans h.2.1, (k.cell (p := ⟨X, 2, none⟩) h.2.2.2).trans h.2.2.1, Nat.lt_of_lt_of_le h.2.2.2 k.size⟩
theorem boxP_new (w : World) (t : TypeId) (wh now : Int) (d : ByteArray) : BoxP (w.alloc (.cells #[.int .i64 wh, .int .i64 now, .string d] t)) w.heap.size wh now d := by
  refine ⟨?_, ?_, ?_, by simp⟩ <;> simp

/-- Both senders, side by side. -/
structure Pair (w0 w : World) (O OR : List Nat) (P PR : Nat) (bag queue : Int) (all : List ByteArray) (went : Nat) (last now : Int) : Prop where
  s : Sdr w O P bag queue all went last now
  r : RefSdr w OR PR bag queue all went last now
  ap : Apart O OR
  lo : ∀ c, c ∈ O → w0.heap.size ≤ c
  lr : ∀ c, c ∈ OR → w0.heap.size ≤ c
  old : Below w0.heap.size w0 w
theorem Pair.below {w0 w w' : World} {O OR : List Nat} {P PR : Nat} {bag queue : Int} {all : List ByteArray} {went : Nat} {last now : Int} (h : Pair w0 w O OR P PR bag queue all went last now) (k : Below w.heap.size w w') : Pair w0 w' O OR P PR bag queue all went last now :=
  ⟨h.s.keep (Same.of_below k h.s.lt), h.r.keep (Same.of_below k h.r.lt), h.ap, h.lo, h.lr, h.old.trans (k.mono h.old.size)⟩
theorem Pair.drawn {w0 w : World} {O OR : List Nat} {P PR : Nat} {bag queue : Int} {all : List ByteArray} {went : Nat} {last now : Int} (h : Pair w0 w O OR P PR bag queue all went last now) (q : Nat) : Pair w0 (w.drewN q) O OR P PR bag queue all went last now :=
  ⟨h.s.keep ⟨Nat.le_refl _, fun _ _ => rfl⟩, h.r.keep ⟨Nat.le_refl _, fun _ _ => rfl⟩, h.ap, h.lo, h.lr, ⟨h.old.os, h.old.tape, h.old.output, h.old.size, h.old.block⟩⟩
/-- Behind a call on the one, and then on the other one. -/
theorem Pair.left {w0 w w' : World} {O O' OR : List Nat} {P PR : Nat} {bag queue : Int} {all : List ByteArray} {went : Nat} {last now : Int} (h : Pair w0 w O OR P PR bag queue all went last now) (k : Foot O O' w w') : RefSdr w' OR PR bag queue all went last now ∧ Apart O' OR ∧ (∀ c, c ∈ O' → w0.heap.size ≤ c) ∧ Below w0.heap.size w0 w' :=
  ⟨h.r.keep (k.same h.ap h.r.lt), k.apart h.ap h.r.lt, k.above h.lo h.old.size, h.old.trans (k.below h.lo h.old.size)⟩
theorem Pair.right {w0 w w' : World} {O OR OR' : List Nat} {P PR : Nat} {bag queue : Int} {all : List ByteArray} {went : Nat} {last now : Int} (h : Pair w0 w O OR P PR bag queue all went last now) (k : Foot OR OR' w w') : Sdr w' O P bag queue all went last now ∧ Apart O OR' ∧ (∀ c, c ∈ OR' → w0.heap.size ≤ c) ∧ Below w0.heap.size w0 w' :=
  ⟨h.s.keep (k.same h.ap.symm h.s.lt), (k.apart h.ap.symm h.s.lt).symm, k.above h.lr h.old.size, h.old.trans (k.below h.lr h.old.size)⟩

set_option maxRecDepth 100000 in
set_option maxHeartbeats 4000000 in
theorem sends_good (bag queue : Int) (a : Option Addr) (len cap : Nat) (w : World) (hT : Told w) (h : len ≤ 600) (hb : (1 ≤ bag ∧ bag ≤ 1099511627776) ∧ 1 ≤ queue ∧ queue ≤ 16) (fw fn : Nat → Int) (fd : Nat → ByteArray) (hR : RowsP w a len fw fn fd) :
    Calls Tryd.prog 8 #[.int .i64 bag, .int .i64 queue, .slice a len cap] w fun e w' => e = .returned (.bool true) ∧ Below w.heap.size w w' := by
  have k : decide ((600 : Int) < (len : Int)) = false := decide_eq_false (by omega)
  have k1 : decide (bag < 1) = false := decide_eq_false (by omega)
  have k2 : decide (1099511627776 < bag) = false := decide_eq_false (by omega)
  have k3 : decide (queue < 1) = false := decide_eq_false (by omega)
  have k4 : decide (16 < queue) = false := decide_eq_false (by omega)
  have HR : Hid (RowsP w a len fw fn fd) := hR
  have HTw : Hid (Told w) := hT
  have hnew := fun v => sdrNew_good bag queue v hb
  clear hR hT
  go_enter Tryd.func8, Tryd.ntmps8
  go_wp2_with fail
  refine (hnew _).mono ?_
  rintro e w1 ⟨O, P, rfl, hs, hb1, hlo⟩
  clear hnew
  have hRn := refSdr_new (w := w1) (bag := bag) (queue := queue)
  obtain ⟨w2, hw2⟩ : ∃ v, w1.alloc (.cells #[.int .i64 bag, .int .i64 queue, .slice none 0 0, .int .i64 0, .int .i64 0, .int .i64 0] 96) = v := ⟨_, rfl⟩
  have hA : Below w1.heap.size w1 w2 := by rw [← hw2]; exact (Below.refl _ _).alloc (Nat.le_refl _) _
  rw [hw2] at hRn
  obtain ⟨PR, hPR⟩ : ∃ x, w1.heap.size = x := ⟨_, rfl⟩
  have HP0 : Hid (Pair w w2 O [PR] P PR bag queue [] 0 0 0) := by
    refine ⟨hs.keep (Same.of_below hA hs.lt), by rw [← hPR]; exact hRn, fun c hc hn => ?_, hlo, fun c hc => ?_, hb1.trans (hA.mono hb1.size)⟩
    · have := hs.lt c hc
      have : c = PR := by simpa using hn
      omega
    · have : c = PR := by simpa using hc
      have := hb1.size
      omega
  clear hs hRn hA hlo hb1
  go_wp2_with fail
  clear hw2 hPR k1 k2 k3 k4
  go_loopw [10] (fun v wr => ∃ (q : Nat) (O OR : List Nat) (all : List ByteArray) (went : Nat) (last now : Int), q ≤ len ∧ v = .int .i64 q ∧ Hid (Pair w wr O OR P PR bag queue all went last now) ∧ Hid (all.length ≤ q) ∧ Hid (0 ≤ last ∧ last ≤ 1099511627776)) (fun v _ => len - (intOf v).toNat)
  case atStart => exact ⟨0, O, [PR], [], 0, 0, 0, Nat.zero_le _, rfl, HP0, Nat.le_refl _, ⟨by decide, by decide⟩⟩
  case round =>
    obtain ⟨q, O, OR, all, went, last, now, hq, rfl, HP, HALL0, HL0⟩ := hrel
    by_cases hlt : q < len
    · obtain ⟨rb, off, rfl, hrb, hcells⟩ := HR.out (by omega)
      obtain ⟨y0, y1, y2⟩ := hcells q hlt
      replace y0 := (HP.out.old.cell (p := ⟨rb, off + q * 3, none⟩) hrb).trans y0
      replace y1 := (HP.out.old.cell (p := ⟨rb, off + q * 3 + 1, none⟩) hrb).trans y1
      replace y2 := (HP.out.old.cell (p := ⟨rb, off + q * 3 + 2, none⟩) hrb).trans y2
      generalize fw q = wh at *
      generalize fn q = nw at *
      generalize fd q = d at *
      have kk : (q : Int) < (len : Int) := by omega
      have hall : all.length ≤ q := HALL0.out
      obtain ⟨X, hXe⟩ : ∃ X, wr.heap.size = X := ⟨_, rfl⟩
      obtain ⟨vx, hvx⟩ : ∃ v, wr.alloc (.cells #[.int .i64 wh, .int .i64 nw, .string d] 98) = v := ⟨_, rfl⟩
      have hAl : Below wr.heap.size wr vx := by rw [← hvx]; exact (Below.refl _ _).alloc (Nat.le_refl _) _
      have HX1 : Hid (BoxP vx X wh nw d) := by rw [← hvx, ← hXe]; exact boxP_new wr _ wh nw d
      have HP1 : Hid (Pair w vx O OR P PR bag queue all went last now) := HP.out.below hAl
      have hXO : X ∉ O := fun y => by have := HP.out.s.lt X y; omega
      have hXR : X ∉ OR := fun y => by have := HP.out.r.lt X y; omega
      obtain ⟨x0, x1, x2, x3⟩ := HX1.out
      clear HP hAl hcells
      by_cases e0 : wh = 0
      · subst e0
        go_wp2_with fail
        clear hvx hXe y0 y1 y2
        have hput := fun (v : World) (O' : List Nat) (h : Sdr v O' P bag queue all went last now) => sdrPut h d (by omega)
        have rput := fun (v : World) (O' : List Nat) (h : RefSdr v O' PR bag queue all went last now) => refPut_all h d (by omega)
        have HAll : Hid ((putAll (putK (all.length - went) queue d) all d).length ≤ q + 1) := by
          show _ ≤ _
          unfold putAll
          split
          · simp; omega
          · omega
        generalize putK (all.length - went) queue d = K at hput rput HAll
        generalize putAll K all d = ALL at hput rput HAll
        have HPut : Hid _ := hput
        have HRut : Hid _ := rput
        have hbr := bare_errV K
        clear hput rput x0 x1
        go_region_held3 (fun u => u.cell? ⟨X, 2, none⟩ = some (.string d)) (go_keep) (first
          | (go_at_call 39; refine (HPut.out _ _ (HP1.out.drawn 1).s).mono ?_; rintro ev v1 ⟨rfl, O1, hs1, hf1⟩; have HSa : Hid (Sdr v1 O1 P bag queue ALL went last now) := hs1; have HLf : Hid (RefSdr v1 OR PR bag queue all went last now ∧ Apart O1 OR ∧ (∀ c, c ∈ O1 → w.heap.size ≤ c) ∧ Below w.heap.size w v1) := (HP1.out.drawn 1).left hf1; have HXa : Hid (BoxP v1 X 0 nw d) := (HX1.out.drawn 1).foot hf1 hXO; have hXa : Hid (X < v1.heap.size) := HXa.out.2.2.2; have HO1 : Hid (X ∉ O1) := (fun y => (hf1.fresh X y).elim hXO (fun z => absurd (HX1.out.drawn 1).2.2.2 (by omega))); have xx := HXa.out.2.2.1)
          | (go_at_call 40; refine (HRut.out _ _ HLf.out.1).mono ?_; rintro ev v2 ⟨rfl, OR1, hr2, hf2⟩; have HPb : Hid (Pair w v2 O1 OR1 P PR bag queue ALL went last now) := ⟨HSa.out.keep (hf2.same HLf.out.2.1.symm HSa.out.lt), hr2, (hf2.apart HLf.out.2.1.symm HSa.out.lt).symm, HLf.out.2.2.1, hf2.above HP1.out.lr HLf.out.2.2.2.size, HLf.out.2.2.2.trans (hf2.below HP1.out.lr HLf.out.2.2.2.size)⟩; have HXb : Hid (BoxP v2 X 0 nw d) := HXa.out.foot hf2 hXR; have xy := HXb.out.2.2.1)
          | (go_at_call 11; refine (hbr _ (HTw.out.below HPb.out.old)).mono ?_; rintro ev v3 ⟨rfl, hb3⟩; have HP2 : Hid (Pair w v3 O1 OR1 P PR bag queue ALL went last now) := HPb.out.below hb3; have HXc : Hid (BoxP v3 X 0 nw d) := HXb.out.below hb3; have xz := HXc.out.2.2.1))
        clear HPut HRut HSa HLf HXa HPb HXb HXc hs1 hf1 hr2 hf2 hb3 xx xy xz x2 x3
        have hal2 : ALL.length ≤ 1000000 := by have := HAll.out; omega
        have HALL : Hid (ALL.length ≤ q + 1) := HAll.out
        have HLAST := HL0
        go_wp2_with fail
        have hMany := fun q => sdrMany ((HP2.out.drawn q).s) hal2
        have hReads := HP2.out.r.reads
        obtain ⟨aR, cR, r2, r3⟩ := hReads
        have lpr := HP2.out.r.lt PR HP2.out.r.mem
        have hwl := HP2.out.r.went_le
        obtain ⟨n2, hn2⟩ : ∃ n2, ALL.length = n2 := ⟨_, rfl⟩
        rw [hn2] at r2 hMany hwl
        have hn1 : n2 ≤ q + 1 := by rw [← hn2]; exact HALL.out
        clear hn2
        have hwrp : IntKind.i64.wrap ((n2 : Int) - (went : Int)) = (n2 : Int) - (went : Int) := by rw [IntKind.wrap_i64]; omega
        go_quiet ((go_at_call 43; refine Calls.quiet_of (hMany _)))
        have HP3 : Hid (Pair w (v3.drewN nq) O1 OR1 P PR bag queue ALL went last now) := HP2.out.drawn nq
        clear HP2 hMany r2 r3
        go_wp2_with fail
        exact ⟨⟨q + 1, O1, OR1, ALL, went, last, now, by omega, by go_num, HP3, HALL, HLAST⟩, by simp [intOf]; omega⟩
      · have e0' : (wh == 0) = false := by simpa using e0
        by_cases e1 : wh = 1
        · subst e1
          clear e0 e0'
          go_wp2_with fail
          clear hvx hXe y0 y1 y2
          have rsend := refSend_all HP1.out.r nw (by omega) HL0.out.1 HL0.out.2 (by omega) (by omega)
          have ssend := fun (v : World) (O' : List Nat) (h : Sdr v O' P bag queue all went last now) => sdrSend h nw (by omega) HL0.out.1 HL0.out.2 (by omega) (by omega)
          have HLst : Hid (0 ≤ sendLast (sendK all.length went nw now last bag) nw last ∧ sendLast (sendK all.length went nw now last bag) nw last ≤ 1099511627776) := by
            show _ ∧ _
            unfold sendLast
            split
            · next e0 =>
              unfold sendK at e0
              by_cases e1 : 0 ≤ nw ∧ nw ≤ 1099511627776
              · exact e1
              · rw [if_pos e1] at e0; cases e0
            · exact HL0.out
          generalize sendK all.length went nw now last bag = K at rsend ssend HLst
          generalize sendSeq K went = SQ at rsend ssend
          generalize sendDat K all went = SD at rsend ssend
          generalize sendWent K went = WENT at rsend ssend
          generalize sendLast K nw last = LAST at rsend ssend HLst
          generalize sendNow K nw now = NOW at rsend ssend
          have HSend : Hid _ := ssend
          clear ssend
          refine rsend.mono ?_
          rintro ev v1 ⟨rfl, hr1, hf1⟩
          have HRt : Hid (Sdr v1 O P bag queue all went last now ∧ Apart O OR ∧ (∀ c, c ∈ OR → w.heap.size ≤ c) ∧ Below w.heap.size w v1) := HP1.out.right hf1
          have HRa : Hid (RefSdr v1 OR PR bag queue all WENT LAST NOW) := hr1
          have HXa : Hid (BoxP v1 X 1 nw d) := HX1.out.foot hf1 hXR
          clear x0 x1 x2 x3 hr1 hf1 rsend HX1
          obtain ⟨x0, x1, x2, x3⟩ := HXa.out
          go_wp2_with fail
          refine (HSend.out v1 O HRt.out.1).mono ?_
          rintro ev v2 ⟨rfl, O2, hs2, hf2⟩
          have HPb : Hid (Pair w v2 O2 OR P PR bag queue all WENT LAST NOW) := ⟨hs2, HRa.out.keep (hf2.same HRt.out.2.1 HRa.out.lt), hf2.apart HRt.out.2.1 HRa.out.lt, hf2.above HP1.out.lo HRt.out.2.2.2.size, HP1.out.lr, HRt.out.2.2.2.trans (hf2.below HP1.out.lo HRt.out.2.2.2.size)⟩
          clear HSend HRt HRa HXa x0 x1 x2 x3 hs2 hf2 HP1
          obtain ⟨vi, hvi⟩ : ∃ v, v2.alloc (.cells #[.int .i64 SQ, .string SD] 104) = v := ⟨_, rfl⟩
          obtain ⟨Y, hYe⟩ : ∃ Y, v2.heap.size = Y := ⟨_, rfl⟩
          have hAi : Below v2.heap.size v2 vi := by rw [← hvi]; exact (Below.refl _ _).alloc (Nat.le_refl _) _
          have i0 : vi.cell? ⟨Y, 0, none⟩ = some (.int .i64 SQ) := by rw [← hvi, ← hYe]; simp
          have i1 : vi.cell? ⟨Y, 1, none⟩ = some (.string SD) := by rw [← hvi, ← hYe]; simp
          have hYl : Y < vi.heap.size := by rw [← hvi, ← hYe]; simp
          have HPc : Hid (Pair w vi O2 OR P PR bag queue all WENT LAST NOW) := HPb.out.below hAi
          have hbr := bare_errV K
          clear HPb hAi
          go_wp2_with fail
          refine (hbr _ (HTw.out.below HPc.out.old)).mono ?_
          rintro ev v3 ⟨rfl, hb3⟩
          have HP2 : Hid (Pair w v3 O2 OR P PR bag queue all WENT LAST NOW) := HPc.out.below hb3
          replace i0 := (hb3.cell (p := ⟨Y, 0, none⟩) hYl).trans i0
          replace i1 := (hb3.cell (p := ⟨Y, 1, none⟩) hYl).trans i1
          replace hYl := Nat.lt_of_lt_of_le hYl hb3.size
          have hal2 : all.length ≤ 1000000 := by omega
          have HALL : Hid (all.length ≤ q + 1) := (by show _ ≤ _; omega)
          have HLAST : Hid (0 ≤ LAST ∧ LAST ≤ 1099511627776) := HLst.out
          clear HPc hvi hYe hb3 hbr
          go_wp2_with fail
          clear i0 i1 hYl
          have hMany := fun q => sdrMany ((HP2.out.drawn q).s) hal2
          have hReads := HP2.out.r.reads
          obtain ⟨aR, cR, r2, r3⟩ := hReads
          have lpr := HP2.out.r.lt PR HP2.out.r.mem
          have hwl := HP2.out.r.went_le
          obtain ⟨n2, hn2⟩ : ∃ n2, all.length = n2 := ⟨_, rfl⟩
          rw [hn2] at r2 hMany hwl
          have hn1 : n2 ≤ q + 1 := by rw [← hn2]; exact HALL.out
          clear hn2
          have hwrp : IntKind.i64.wrap ((n2 : Int) - (WENT : Int)) = (n2 : Int) - (WENT : Int) := by rw [IntKind.wrap_i64]; omega
          go_quiet ((go_at_call 43; refine Calls.quiet_of (hMany _)))
          have HP3 : Hid (Pair w (v3.drewN nq) O2 OR P PR bag queue all WENT LAST NOW) := HP2.out.drawn nq
          clear HP2 hMany r2 r3
          go_wp2_with fail
          exact ⟨⟨q + 1, O2, OR, all, WENT, LAST, NOW, by omega, by go_num, HP3, HALL, HLAST⟩, by simp [intOf]; omega⟩
        · have e1' : (wh == 1) = false := by simpa using e1
          clear e0 e1
          go_wp2_with fail
          clear hvx hXe y0 y1 y2
          have HP2 := HP1
          have hal2 : all.length ≤ 1000000 := by omega
          have HALL : Hid (all.length ≤ q + 1) := (by show _ ≤ _; omega)
          have HLAST := HL0
          clear HP1 HX1 x0 x1 x2 x3
          have hMany := fun q => sdrMany ((HP2.out.drawn q).s) hal2
          have hReads := HP2.out.r.reads
          obtain ⟨aR, cR, r2, r3⟩ := hReads
          have lpr := HP2.out.r.lt PR HP2.out.r.mem
          have hwl := HP2.out.r.went_le
          obtain ⟨n2, hn2⟩ : ∃ n2, all.length = n2 := ⟨_, rfl⟩
          rw [hn2] at r2 hMany hwl
          have hn1 : n2 ≤ q + 1 := by rw [← hn2]; exact HALL.out
          clear hn2
          have hwrp : IntKind.i64.wrap ((n2 : Int) - (went : Int)) = (n2 : Int) - (went : Int) := by rw [IntKind.wrap_i64]; omega
          go_quiet ((go_at_call 43; refine Calls.quiet_of (hMany _)))
          have HP3 : Hid (Pair w (vx.drewN nq) O OR P PR bag queue all went last now) := HP2.out.drawn nq
          clear HP2 hMany r2 r3
          go_wp2_with fail
          exact ⟨⟨q + 1, O, OR, all, went, last, now, by omega, by go_num, HP3, HALL, HLAST⟩, by simp [intOf]; omega⟩
    · go_wp2
      go_ret
      exact ⟨rfl, HP.out.old⟩

/-- VlinkSends answers true, whatever it is asked. -/
theorem sends_any (bag queue : Int) (a : Option Addr) (len cap : Nat) (w : World) (hT : Told w) (fw fn : Nat → Int) (fd : Nat → ByteArray) (hR : RowsP w a len fw fn fd) (hl : len ≤ 9223372036854775807) :
    Calls Tryd.prog 8 #[.int .i64 bag, .int .i64 queue, .slice a len cap] w fun e w' => e = .returned (.bool true) ∧ Below w.heap.size w w' := by
  by_cases h : 600 < len
  · exact sends_great bag queue a len cap w h hl
  · by_cases hb : (1 ≤ bag ∧ bag ≤ 1099511627776) ∧ 1 ≤ queue ∧ queue ≤ 16
    · exact sends_good bag queue a len cap w hT (by omega) hb fw fn fd hR
    · exact sends_bad bag queue a len cap w hT (by omega) hb
end Go.Proofs.YthcnhfjhppmmdabDoor
