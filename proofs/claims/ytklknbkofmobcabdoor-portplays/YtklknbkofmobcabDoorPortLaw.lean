/- PortPlays, walked over the contracts of a sampling and a queuing port: of every keep, most and script it answers true. Condition: package errors' own variable holds what its text says. -/
import Derived.Test.YtklknbkofmobcabDoorPSmp
import Derived.Test.YtklknbkofmobcabDoorPQue
import Derived.Test.YtklknbkofmobcabDoorTail
import Derived.Test.YtklknbkofmobcabDoorBareAt
import Derived.Test.YtklknbkofmobcabDoorOpenRowsP
import Derived.Test.YtklknbkofmobcabDoorBoxP
import Derived.Deep.RegionHeld3
import Derived.Deep.DeepCutAuto
import Derived.Deep.CutBlock
import Derived.BigQuiet
namespace Go.Proofs.YtklknbkofmobcabDoor
open Go.RowKit

theorem bare_errV8 (e : Int) : BareSays (errV e) e := by
  unfold errV
  split
  · next h => rw [h]; exact bare_nil
  · exact bare_e e

set_option maxRecDepth 100000 in
set_option maxHeartbeats 1000000 in
theorem plays_great (keep most : Int) (a : Option Addr) (len cap : Nat) (w : World) (h : 100 < len) (hl : len ≤ 9223372036854775807) :
    Calls Tryd.prog 9 #[.int .i64 keep, .int .i64 most, .slice a len cap] w fun e w' => e = .returned (.bool true) ∧ Below w.heap.size w w' := by
  have k : (100 : Int) < (len : Int) := by omega
  go_enter Tryd.func9, Tryd.ntmps9
  go_wp2
  go_ret
  exact ⟨rfl, Below.refl _ _⟩

/-- What NewQueuing answers, whatever it is asked. -/
theorem queNew_any (most : Int) (w : World) : Calls Tryd.prog 46 #[.int .i64 most] w fun e w' => (∃ p r, e = .returned (.tuple #[p, r])) ∧ Below w.heap.size w w' := by
  by_cases hb : 1 ≤ most ∧ most ≤ 16
  · refine (queNew_good most w hb).mono ?_
    rintro e w' ⟨O, P, rfl, _, h, _⟩
    exact ⟨⟨_, _, rfl⟩, h⟩
  · refine (queNew_bad most w hb).mono ?_
    rintro e w' ⟨rfl, h⟩
    exact ⟨⟨_, _, rfl⟩, h⟩

set_option maxRecDepth 100000 in
set_option maxHeartbeats 1000000 in
theorem plays_badk (keep most : Int) (a : Option Addr) (len cap : Nat) (w : World) (hT : Told w) (h : len ≤ 100) (hb : ¬ (1 ≤ keep ∧ keep ≤ 1099511627776)) :
    Calls Tryd.prog 9 #[.int .i64 keep, .int .i64 most, .slice a len cap] w fun e w' => e = .returned (.bool true) ∧ Below w.heap.size w w' := by
  have k : decide ((100 : Int) < (len : Int)) = false := decide_eq_false (by omega)
  have h1 := fun v => smpNew_bad keep v hb
  have h2 := queNew_any most
  by_cases k1 : keep < 1
  · clear hb
    go_enter Tryd.func9, Tryd.ntmps9
    go_wp2_with fail
    refine (h1 _).mono ?_
    rintro e w1 ⟨rfl, hb1⟩
    go_wp2_with fail
    refine (h2 _).mono ?_
    rintro e w2 ⟨⟨p, r, rfl⟩, hb2⟩
    have hb12 := hb1.trans (hb2.mono hb1.size)
    go_wp2_with fail
    refine (bare_errV8 2 _ (hT.below hb12)).mono ?_
    rintro e w3 ⟨rfl, hb3⟩
    go_wp2
    go_ret
    exact ⟨rfl, hb12.trans (hb3.mono hb12.size)⟩
  · have k1' : decide (keep < 1) = false := decide_eq_false k1
    have k2 : 1099511627776 < keep := by omega
    clear hb k1
    go_enter Tryd.func9, Tryd.ntmps9
    go_wp2_with fail
    refine (h1 _).mono ?_
    rintro e w1 ⟨rfl, hb1⟩
    go_wp2_with fail
    refine (h2 _).mono ?_
    rintro e w2 ⟨⟨p, r, rfl⟩, hb2⟩
    have hb12 := hb1.trans (hb2.mono hb1.size)
    go_wp2_with fail
    refine (bare_errV8 2 _ (hT.below hb12)).mono ?_
    rintro e w3 ⟨rfl, hb3⟩
    go_wp2
    go_ret
    exact ⟨rfl, hb12.trans (hb3.mono hb12.size)⟩

set_option maxRecDepth 100000 in
set_option maxHeartbeats 1000000 in
theorem plays_badm (keep most : Int) (a : Option Addr) (len cap : Nat) (w : World) (hT : Told w) (h : len ≤ 100) (hk : 1 ≤ keep ∧ keep ≤ 1099511627776) (hb : ¬ (1 ≤ most ∧ most ≤ 16)) :
    Calls Tryd.prog 9 #[.int .i64 keep, .int .i64 most, .slice a len cap] w fun e w' => e = .returned (.bool true) ∧ Below w.heap.size w w' := by
  have k : decide ((100 : Int) < (len : Int)) = false := decide_eq_false (by omega)
  have kk1 : decide (keep < 1) = false := decide_eq_false (by omega)
  have kk2 : decide (1099511627776 < keep) = false := decide_eq_false (by omega)
  have h1 := fun v => smpNew_good keep v hk
  have h2 := fun v => queNew_bad most v hb
  by_cases k1 : most < 1
  · clear hb hk
    go_enter Tryd.func9, Tryd.ntmps9
    go_wp2_with fail
    refine (h1 _).mono ?_
    rintro e w1 ⟨O, P, rfl, _, hb1, _⟩
    go_wp2_with fail
    refine (h2 _).mono ?_
    rintro e w2 ⟨rfl, hb2⟩
    have hb12 := hb1.trans (hb2.mono hb1.size)
    go_wp2_with fail
    refine (bare_errV8 2 _ (hT.below hb12)).mono ?_
    rintro e w3 ⟨rfl, hb3⟩
    go_wp2
    go_ret
    exact ⟨rfl, hb12.trans (hb3.mono hb12.size)⟩
  · have k1' : decide (most < 1) = false := decide_eq_false k1
    have k2 : 16 < most := by omega
    clear hb k1 hk
    go_enter Tryd.func9, Tryd.ntmps9
    go_wp2_with fail
    refine (h1 _).mono ?_
    rintro e w1 ⟨O, P, rfl, _, hb1, _⟩
    go_wp2_with fail
    refine (h2 _).mono ?_
    rintro e w2 ⟨rfl, hb2⟩
    have hb12 := hb1.trans (hb2.mono hb1.size)
    go_wp2_with fail
    refine (bare_errV8 2 _ (hT.below hb12)).mono ?_
    rintro e w3 ⟨rfl, hb3⟩
    go_wp2
    go_ret
    exact ⟨rfl, hb12.trans (hb3.mono hb12.size)⟩

/-- Both ports side by side, and the statement's own row (v, that holds ar). -/
structure Ports (w0 w : World) (OS OQ : List Nat) (PS PQ : Nat) (keep most at_ : Int) (dat : ByteArray) (all : List ByteArray) (lost : Int) (v : Value) (ar : List ByteArray) : Prop where
  s : Smp w OS PS keep at_ dat
  q : Que w OQ PQ most all lost
  r : TailRow w w0.heap.size 9 v ar.length (ar.map Value.string)
  ap : Apart OS OQ
  asv : Apart OS v.ownBlock.toList
  aqv : Apart OQ v.ownBlock.toList
  ls : ∀ c, c ∈ OS → w0.heap.size ≤ c
  lq : ∀ c, c ∈ OQ → w0.heap.size ≤ c
  old : Below w0.heap.size w0 w
theorem Ports.rl {w0 w : World} {OS OQ : List Nat} {PS PQ : Nat} {keep most at_ : Int} {dat : ByteArray} {all : List ByteArray} {lost : Int} {v : Value} {ar : List ByteArray} (h : Ports w0 w OS OQ PS PQ keep most at_ dat all lost v ar) : ∀ c, c ∈ v.ownBlock.toList → w0.heap.size ≤ c ∧ c < w.heap.size := fun c hc => h.r.lt c (by simpa using hc)
theorem Ports.below {w0 w w' : World} {OS OQ : List Nat} {PS PQ : Nat} {keep most at_ : Int} {dat : ByteArray} {all : List ByteArray} {lost : Int} {v : Value} {ar : List ByteArray} (h : Ports w0 w OS OQ PS PQ keep most at_ dat all lost v ar) (k : Below w.heap.size w w') : Ports w0 w' OS OQ PS PQ keep most at_ dat all lost v ar :=
  ⟨h.s.keep (Same.of_below k h.s.lt), h.q.keep (Same.of_below k h.q.lt), h.r.keep (Same.of_below k fun c hc => (h.rl c hc).2), h.ap, h.asv, h.aqv, h.ls, h.lq, h.old.trans (k.mono h.old.size)⟩
theorem Ports.drawn {w0 w : World} {OS OQ : List Nat} {PS PQ : Nat} {keep most at_ : Int} {dat : ByteArray} {all : List ByteArray} {lost : Int} {v : Value} {ar : List ByteArray} (h : Ports w0 w OS OQ PS PQ keep most at_ dat all lost v ar) (q : Nat) : Ports w0 (w.drewN q) OS OQ PS PQ keep most at_ dat all lost v ar :=
  ⟨h.s.keep ⟨Nat.le_refl _, fun _ _ => rfl⟩, h.q.keep ⟨Nat.le_refl _, fun _ _ => rfl⟩, h.r.keep ⟨Nat.le_refl _, fun _ _ => rfl⟩, h.ap, h.asv, h.aqv, h.ls, h.lq, ⟨h.old.os, h.old.tape, h.old.output, h.old.size, h.old.block⟩⟩
/-- Behind a call on the sampling port. -/
theorem Ports.wrote {at' : Int} {dat' : ByteArray} {OS' : List Nat} {w0 w w' : World} {OS OQ : List Nat} {PS PQ : Nat} {keep most at_ : Int} {dat : ByteArray} {all : List ByteArray} {lost : Int} {v : Value} {ar : List ByteArray} (h : Ports w0 w OS OQ PS PQ keep most at_ dat all lost v ar) (hs : Smp w' OS' PS keep at' dat') (k : Foot OS OS' w w') : Ports w0 w' OS' OQ PS PQ keep most at' dat' all lost v ar := by
  have hl : ∀ c, c ∈ v.ownBlock.toList → c < w.heap.size := fun c hc => (h.rl c hc).2
  exact ⟨hs, h.q.keep (k.same h.ap h.q.lt), h.r.keep (k.same h.asv hl), k.apart h.ap h.q.lt, k.apart h.asv hl, h.aqv, k.above h.ls h.old.size, h.lq, h.old.trans (k.below h.ls h.old.size)⟩
/-- Behind a call on the queuing port. -/
theorem Ports.queued {all' : List ByteArray} {lost' : Int} {OQ' : List Nat} {w0 w w' : World} {OS OQ : List Nat} {PS PQ : Nat} {keep most at_ : Int} {dat : ByteArray} {all : List ByteArray} {lost : Int} {v : Value} {ar : List ByteArray} (h : Ports w0 w OS OQ PS PQ keep most at_ dat all lost v ar) (hq : Que w' OQ' PQ most all' lost') (k : Foot OQ OQ' w w') : Ports w0 w' OS OQ' PS PQ keep most at_ dat all' lost' v ar := by
  have hl : ∀ c, c ∈ v.ownBlock.toList → c < w.heap.size := fun c hc => (h.rl c hc).2
  exact ⟨h.s.keep (k.same h.ap.symm h.s.lt), hq, h.r.keep (k.same h.aqv hl), (k.apart h.ap.symm h.s.lt).symm, h.asv, k.apart h.aqv hl, h.ls, k.above h.lq h.old.size, h.old.trans (k.below h.lq h.old.size)⟩
/-- Its own row has grown. -/
theorem Ports.grew {v' : Value} {ar' : List ByteArray} {w0 w w' : World} {OS OQ : List Nat} {PS PQ : Nat} {keep most at_ : Int} {dat : ByteArray} {all : List ByteArray} {lost : Int} {v : Value} {ar : List ByteArray} (h : Ports w0 w OS OQ PS PQ keep most at_ dat all lost v ar) (hr : TailRow w' w0.heap.size 9 v' ar'.length (ar'.map Value.string)) (k : w.grownBy w' v.ownBlock) (hat : v'.ownBlock = v.ownBlock ∨ v'.ownBlock = some w.heap.size) : Ports w0 w' OS OQ PS PQ keep most at_ dat all lost v' ar' := by
  have hf : Foot v.ownBlock.toList v'.ownBlock.toList w w' := by
    refine ⟨k.os, k.tape, k.output, k.size, fun c hc hn => k.block c hc fun e => hn (by rw [← e]; simp), fun c hc => ?_⟩
    rcases hat with y | y
    · rw [y] at hc; exact .inl hc
    · rw [y] at hc
      have : c = w.heap.size := by simpa using hc
      exact .inr (by omega)
  exact ⟨h.s.keep (hf.same h.asv.symm h.s.lt), h.q.keep (hf.same h.aqv.symm h.q.lt), hr, h.ap, (hf.apart h.asv.symm h.s.lt).symm, (hf.apart h.aqv.symm h.q.lt).symm, h.ls, h.lq, h.old.trans (hf.below (fun c hc => (h.rl c hc).1) h.old.size)⟩
/-- Its own row lies elsewhere in the same block. -/
theorem Ports.cut {v' : Value} {ar' : List ByteArray} {w0 w : World} {OS OQ : List Nat} {PS PQ : Nat} {keep most at_ : Int} {dat : ByteArray} {all : List ByteArray} {lost : Int} {v : Value} {ar : List ByteArray} (h : Ports w0 w OS OQ PS PQ keep most at_ dat all lost v ar) (hr : TailRow w w0.heap.size 9 v' ar'.length (ar'.map Value.string)) (hat : v'.ownBlock = v.ownBlock) : Ports w0 w OS OQ PS PQ keep most at_ dat all lost v' ar' :=
  ⟨h.s, h.q, hr, h.ap, by rw [hat]; exact h.asv, by rw [hat]; exact h.aqv, h.ls, h.lq, h.old⟩

set_option maxRecDepth 100000 in
set_option maxHeartbeats 8000000 in
theorem plays_good (keep most : Int) (a : Option Addr) (len cap : Nat) (w : World) (hT : Told w) (h : len ≤ 100) (hk : 1 ≤ keep ∧ keep ≤ 1099511627776) (hm : 1 ≤ most ∧ most ≤ 16) (fw fn : Nat → Int) (fd : Nat → ByteArray) (hR : RowsP w a len fw fn fd) (hN : ∀ j, j < len → -9223372036854775808 ≤ fn j ∧ fn j ≤ 9223372036854775807) :
    Calls Tryd.prog 9 #[.int .i64 keep, .int .i64 most, .slice a len cap] w fun e w' => e = .returned (.bool true) ∧ Below w.heap.size w w' := by
  have k : decide ((100 : Int) < (len : Int)) = false := decide_eq_false (by omega)
  have k1 : decide (keep < 1) = false := decide_eq_false (by omega)
  have k2 : decide (1099511627776 < keep) = false := decide_eq_false (by omega)
  have k3 : decide (most < 1) = false := decide_eq_false (by omega)
  have k4 : decide (16 < most) = false := decide_eq_false (by omega)
  have HR : Hid (RowsP w a len fw fn fd) := hR
  have HTw : Hid (Told w) := hT
  have HNw : Hid (∀ j, j < len → -9223372036854775808 ≤ fn j ∧ fn j ≤ 9223372036854775807) := hN
  have hs := fun v => smpNew_good keep v hk
  have hq := fun v => queNew_good most v hm
  clear hR hT hN
  go_enter Tryd.func9, Tryd.ntmps9
  go_wp2_with fail
  refine (hs _).mono ?_
  rintro e w1 ⟨OS, PS, rfl, hs1, hb1, hlo1⟩
  have HS1 : Hid (Smp w1 OS PS keep (-1) ByteArray.empty) := hs1
  clear hs hs1
  go_wp2_with fail
  refine (hq _).mono ?_
  rintro e w2 ⟨OQ, PQ, rfl, hq2, hb2, hlo2⟩
  have HP0 : Hid (Ports w w2 OS OQ PS PQ keep most (-1) ByteArray.empty [] 0 (.slice none 0 0) []) := by
    refine ⟨HS1.out.keep (Same.of_below hb2 HS1.out.lt), hq2, TailRow.nil _ _ _, fun c hc hn => ?_, fun c _ hn => by simp [Value.ownBlock] at hn, fun c _ hn => by simp [Value.ownBlock] at hn, hlo1, fun c hc => Nat.le_trans hb1.size (hlo2 c hc), hb1.trans (hb2.mono hb1.size)⟩
    have := HS1.out.lt c hc
    have := hlo2 c hn
    omega
  clear hq hq2 HS1 hlo1 hlo2 hb1 hb2
  go_wp2_with fail
  clear k1 k2 k3 k4
  go_loopw [11, 12, 13, 14, 15] (fun va vd vl vs vi wr => ∃ (q : Nat) (OS OQ : List Nat) (at_ : Int) (dat : ByteArray) (all : List ByteArray) (lost : Int), q ≤ len ∧ va = .int .i64 at_ ∧ vd = .string dat ∧ vl = .int .i64 lost ∧ vi = .int .i64 q ∧ Hid (Ports w wr OS OQ PS PQ keep most at_ dat all lost vs all) ∧ Hid (-1 ≤ at_ ∧ at_ ≤ 1099511627776 ∧ all.length ≤ q ∧ 0 ≤ lost ∧ lost ≤ (q : Int))) (fun _ _ _ _ vi _ => len - (intOf vi).toNat)
  case atStart => exact ⟨0, OS, OQ, -1, ByteArray.empty, [], 0, Nat.zero_le _, rfl, rfl, rfl, rfl, HP0, ⟨by decide, by decide, by decide, by decide, by decide⟩⟩
  case round =>
    obtain ⟨q, OS, OQ, at_, dat, all, lost, hq, rfl, rfl, rfl, rfl, HP, HB0⟩ := hrel
    by_cases hlt : q < len
    · obtain ⟨rb, off, rfl, hrb, hcells⟩ := HR.out (by omega)
      obtain ⟨y0, y1, y2⟩ := hcells q hlt
      replace y0 := (HP.out.old.cell (p := ⟨rb, off + q * 3, none⟩) hrb).trans y0
      replace y1 := (HP.out.old.cell (p := ⟨rb, off + q * 3 + 1, none⟩) hrb).trans y1
      replace y2 := (HP.out.old.cell (p := ⟨rb, off + q * 3 + 2, none⟩) hrb).trans y2
      have hnw := HNw.out q hlt
      generalize fw q = wh at *
      generalize fn q = nw at *
      generalize fd q = d at *
      have kk : (q : Int) < (len : Int) := by omega
      have hb := HB0.out
      obtain ⟨av, cv, rfl, hnc, hcm⟩ := HP.out.r.form
      have HCM : Hid (cv ≤ maxLen) := hcm
      obtain ⟨n, hn⟩ : ∃ n, all.length = n := ⟨_, rfl⟩
      have HN : Hid (all.length = n) := hn
      rw [hn] at HP hnc hb ⊢
      have hn1 : n ≤ 100 := by omega
      obtain ⟨X, hXe⟩ : ∃ X, wr.heap.size = X := ⟨_, rfl⟩
      obtain ⟨vx, hvx⟩ : ∃ v, wr.alloc (.cells #[.int .i64 wh, .int .i64 nw, .string d] 115) = v := ⟨_, rfl⟩
      have hAl : Below wr.heap.size wr vx := by rw [← hvx]; exact (Below.refl _ _).alloc (Nat.le_refl _) _
      have HX1 : Hid (BoxP vx X wh nw d) := by rw [← hvx, ← hXe]; exact boxP_new wr _ wh nw d
      have HP1 : Hid (Ports w vx OS OQ PS PQ keep most at_ dat all lost (.slice av n cv) all) := HP.out.below hAl
      have HXO : Hid (X ∉ OS ∧ X ∉ OQ ∧ X ∉ (Value.slice av n cv).ownBlock.toList) := ⟨fun y => by have := HP.out.s.lt X y; omega, fun y => by have := HP.out.q.lt X y; omega, fun y => by have := (HP.out.r.lt X (by simpa using y)).2; omega⟩
      obtain ⟨x0, x1, x2, x3⟩ := HX1.out
      clear HP hAl hcells hn hcm
      obtain ⟨LB, kl⟩ : ∃ b, decide ((40 : Int) < (d.size : Int)) = b := ⟨_, rfl⟩
      go_upto_block 2 with fail
      clear hvx hXe y0 y1 y2
      go_cut [11, 12, 13, 14] (fun va vd vl vs wx => ∃ (OS OQ : List Nat) (at_ : Int) (dat : ByteArray) (all : List ByteArray) (lost : Int), va = .int .i64 at_ ∧ vd = .string dat ∧ vl = .int .i64 lost ∧ Hid (Ports w wx OS OQ PS PQ keep most at_ dat all lost vs all) ∧ Hid (-1 ≤ at_ ∧ at_ ≤ 1099511627776 ∧ (all).length ≤ q + 1 ∧ 0 ≤ lost ∧ lost ≤ ((q + 1 : Nat) : Int)))
      case first =>
        by_cases e0 : wh = 0
        · subst e0
          as_aux_lemma =>
            go_upto_block 3 with fail
            go_cut [18, 11, 12] (fun ve va vd wx => ve = .int .i64 (writeK at_ nw d) ∧ va = .int .i64 (wrAt (writeK at_ nw d) nw at_) ∧ vd = .string (wrDat (writeK at_ nw d) d dat) ∧ ∃ qn, wx = vx.drewN qn)
            case first =>
              by_cases hl : 40 < d.size
              · have HK : Hid (writeK at_ nw d = 4) := (by show _ = _; unfold writeK; rw [if_pos hl])
                obtain rfl : LB = true := by rw [← kl]; exact decide_eq_true (by omega)
                replace kl := of_decide_eq_true kl
                go_wp2_with fail
                go_meet
                exact ⟨by rw [HK.out], by rw [HK.out]; rfl, by rw [HK.out]; rfl, 0, rfl⟩
              · obtain rfl : LB = false := by rw [← kl]; exact decide_eq_false (by omega)
                by_cases t1 : nw < 0
                · have HK : Hid (writeK at_ nw d = 2) := (by show _ = _; unfold writeK; rw [if_neg hl, if_pos (by omega)])
                  go_wp2_with fail
                  go_meet
                  exact ⟨by rw [HK.out], by rw [HK.out]; rfl, by rw [HK.out]; rfl, 0, rfl⟩
                · have t1' := decide_eq_false t1
                  by_cases t2 : 1099511627776 < nw
                  · have HK : Hid (writeK at_ nw d = 2) := (by show _ = _; unfold writeK; rw [if_neg hl, if_pos (by omega)])
                    clear t1
                    go_wp2_with fail
                    go_meet
                    exact ⟨by rw [HK.out], by rw [HK.out]; rfl, by rw [HK.out]; rfl, 0, rfl⟩
                  · have t2' := decide_eq_false t2
                    by_cases t3 : nw < at_
                    · have HK : Hid (writeK at_ nw d = 10) := (by show _ = _; unfold writeK; rw [if_neg hl, if_neg (by omega), if_pos t3])
                      clear t1 t2
                      go_wp2_with fail
                      go_meet
                      exact ⟨by rw [HK.out], by rw [HK.out]; rfl, by rw [HK.out]; rfl, 0, rfl⟩
                    · have t3' := decide_eq_false t3
                      have HK : Hid (writeK at_ nw d = 0) := (by show _ = _; unfold writeK; rw [if_neg hl, if_neg (by omega), if_neg t3])
                      clear t1 t2 t3
                      go_wp2_with fail
                      go_quiet (fail)
                      go_wp2_with fail
                      go_meet
                      exact ⟨by rw [HK.out], by rw [HK.out]; rfl, by rw [HK.out]; rfl, _, rfl⟩
            case rest =>
              obtain ⟨rfl, rfl, rfl, qn, hwx⟩ := hcut
              obtain ⟨wv, hwv⟩ : ∃ x, x = wc := ⟨wc, rfl⟩
              subst hwv
              have HPv : Hid (Ports w wv OS OQ PS PQ keep most at_ dat all lost (.slice av n cv) all) := by rw [hwx]; exact HP1.out.drawn qn
              have HXv : Hid (BoxP wv X 0 nw d) := by rw [hwx]; exact HX1.out.drawn qn
              have hw := smpWrite HPv.out.s d nw
              have hBd := wrAt_in (at_ := at_) (t := nw) (d := d) ⟨by omega, by omega⟩
              generalize writeK at_ nw d = K at *
              generalize wrAt K nw at_ = AT at *
              generalize wrDat K d dat = DAT at *
              have HBB : Hid (-1 ≤ AT ∧ AT ≤ 1099511627776 ∧ (all).length ≤ q + 1 ∧ 0 ≤ lost ∧ lost ≤ ((q + 1 : Nat) : Int)) := ⟨by omega, by omega, by have := HN.out; omega, by omega, by omega⟩
              clear hwx HP1 HX1 x0 x1 x2 x3
              obtain ⟨x0, x1, x2, x3⟩ := HXv.out
              go_wp2_with fail
              refine hw.mono ?_
              rintro ev v1 ⟨rfl, OS1, hs1, hf1⟩
              have HPa : Hid (Ports w v1 OS1 OQ PS PQ keep most AT DAT all lost (.slice av n cv) all) := HPv.out.wrote hs1 hf1
              clear hs1 hf1 hw HPv x0 x1 x2 x3 HXv
              have hbr := bare_errV8 K
              go_wp2_with fail
              refine (hbr _ (HTw.out.below HPa.out.old)).mono ?_
              rintro ev v2 ⟨rfl, hb2⟩
              have HP2 : Hid (Ports w v2 OS1 OQ PS PQ keep most AT DAT all lost (.slice av n cv) all) := HPa.out.below hb2
              clear HPa hb2 hbr
              go_wp2_with fail
              go_meet
              exact ⟨OS1, OQ, AT, DAT, all, lost, rfl, rfl, rfl, HP2, HBB⟩
        · have e0' : (wh == 0) = false := by simpa using e0
          by_cases e1 : wh = 1
          · subst e1
            clear e0 e0'
            as_aux_lemma =>
              go_wp2_with fail
              go_quiet (fail)
              go_upto_block 4 with fail
              go_cut [18, 19, 20] (fun ve vw vf wx => ve = .int .i64 (readK at_ nw) ∧ vw = .string dat ∧ vf = .bool (decide (nw < at_ + keep)) ∧ wx = vx.drewN nq)
              case first =>
                by_cases r1 : at_ < 0
                · have HK : Hid (readK at_ nw = 8) := (if_pos r1)
                  go_wp2_with fail
                  go_meet
                  exact ⟨by rw [HK.out], rfl, rfl, rfl⟩
                · have r1' := decide_eq_false r1
                  by_cases r2 : nw < at_
                  · have HK : Hid (readK at_ nw = 10) := (by show _ = _; unfold readK; rw [if_neg r1, if_pos r2])
                    clear r1
                    go_wp2_with fail
                    go_meet
                    exact ⟨by rw [HK.out], rfl, rfl, rfl⟩
                  · have r2' := decide_eq_false r2
                    have HK : Hid (readK at_ nw = 0) := (by show _ = _; unfold readK; rw [if_neg r1, if_neg r2])
                    clear r1 r2
                    go_wp2_with fail
                    go_meet
                    exact ⟨by rw [HK.out], rfl, rfl, rfl⟩
              case rest =>
                obtain ⟨rfl, rfl, rfl, hwx⟩ := hcut
                obtain ⟨wv, hwv⟩ : ∃ x, x = wc := ⟨wc, rfl⟩
                subst hwv
                have HPv : Hid (Ports w wv OS OQ PS PQ keep most at_ dat all lost (.slice av n cv) all) := by rw [hwx]; exact HP1.out.drawn nq
                have HXv : Hid (BoxP wv X 1 nw d) := by rw [hwx]; exact HX1.out.drawn nq
                have hw := smpRead HPv.out.s nw ⟨by omega, by omega⟩ ⟨by omega, by omega⟩ hnw
                have HBB : Hid (-1 ≤ at_ ∧ at_ ≤ 1099511627776 ∧ (all).length ≤ q + 1 ∧ 0 ≤ lost ∧ lost ≤ ((q + 1 : Nat) : Int)) := ⟨by omega, by omega, by have := HN.out; omega, by omega, by omega⟩
                clear hwx HP1 HX1 x0 x1 x2 x3
                obtain ⟨x0, x1, x2, x3⟩ := HXv.out
                go_upto_if 143 with fail
                go_cut [19, 20] (fun vw vf wx => vw = .string (rdDat (readK at_ nw) dat) ∧ vf = .bool (rdNew (readK at_ nw) nw at_ keep) ∧ wx = wv)
                case first =>
                  by_cases e0 : readK at_ nw = 0
                  · have HK : Hid (readK at_ nw = 0) := e0
                    have e1 : (readK at_ nw != 0) = false := by simpa using e0
                    clear e0
                    go_wp2_with fail
                    go_meet
                    exact ⟨by rw [HK.out]; rfl, by rw [HK.out]; rfl, rfl⟩
                  · have HK : Hid (readK at_ nw ≠ 0) := e0
                    have e1 : (readK at_ nw != 0) = true := by simpa using e0
                    clear e0
                    go_wp2_with fail
                    go_meet
                    exact ⟨by unfold rdDat; rw [if_neg HK.out]; rfl, by unfold rdNew; rw [decide_eq_false HK.out]; rfl, rfl⟩
                case rest =>
                  obtain ⟨rfl, rfl, hwy⟩ := hcut
                  subst hwy
                  generalize readK at_ nw = K at *
                  generalize rdDat K dat = RD at *
                  generalize rdNew K nw at_ keep = RN at *
                  go_wp2_with fail
                  refine hw.mono ?_
                  rintro ev v1 ⟨rfl, OS1, hs1, hf1⟩
                  have HPa : Hid (Ports w v1 OS1 OQ PS PQ keep most at_ dat all lost (.slice av n cv) all) := HPv.out.wrote hs1 hf1
                  clear hs1 hf1 hw HPv x0 x1 x2 x3 HXv
                  have hbr := bare_errV8 K
                  go_wp2_with fail
                  refine (hbr _ (HTw.out.below HPa.out.old)).mono ?_
                  rintro ev v2 ⟨rfl, hb2⟩
                  have HP2 : Hid (Ports w v2 OS1 OQ PS PQ keep most at_ dat all lost (.slice av n cv) all) := HPa.out.below hb2
                  clear HPa hb2 hbr
                  go_wp2_with fail
                  go_meet
                  exact ⟨OS1, OQ, at_, dat, all, lost, rfl, rfl, rfl, HP2, HBB⟩
          · have e1' : (wh == 1) = false := by simpa using e1
            by_cases e2 : wh = 2
            · subst e2
              clear e0 e0' e1 e1'
              as_aux_lemma =>
                go_upto_block 5 with fail
                go_cut [18, 13, 14] (fun ve vl vs wx => ∃ (av' : Option Addr) (cv' : Nat), ve = .int .i64 (putK all.length most d) ∧ vl = .int .i64 (lostK (putK all.length most d) lost) ∧ vs = .slice av' (putAll (putK all.length most d) all d).length cv' ∧ Hid (Ports w wx OS OQ PS PQ keep most at_ dat all lost (.slice av' (putAll (putK all.length most d) all d).length cv') (putAll (putK all.length most d) all d)) ∧ Hid (BoxP wx X 2 nw d))
                case first =>
                  by_cases hl : 40 < d.size
                  · have HK : Hid (putK all.length most d = 4) := (by show _ = _; unfold putK; rw [if_pos hl])
                    obtain rfl : LB = true := by rw [← kl]; exact decide_eq_true (by omega)
                    replace kl := of_decide_eq_true kl
                    go_wp2_with fail
                    go_meet
                    exact ⟨av, cv, by rw [HK.out], by rw [HK.out]; rfl, by rw [HK.out, ← HN.out]; rfl, by rw [HK.out]; have hp := HP1.out; rw [← HN.out] at hp; exact hp, HX1⟩
                  · obtain rfl : LB = false := by rw [← kl]; exact decide_eq_false (by omega)
                    by_cases t1 : most ≤ (n : Int)
                    · have HK : Hid (putK all.length most d = 12) := (by show _ = _; unfold putK; rw [if_neg hl, HN.out, if_pos t1])
                      go_wp2_with fail
                      go_meet
                      exact ⟨av, cv, by rw [HK.out], by rw [HK.out]; rfl, by rw [HK.out, ← HN.out]; rfl, by rw [HK.out]; have hp := HP1.out; rw [← HN.out] at hp; exact hp, HX1⟩
                    · have t1' := decide_eq_false t1
                      have HK : Hid (putK all.length most d = 0) := (by show _ = _; unfold putK; rw [if_neg hl, HN.out, if_neg t1])
                      clear t1
                      obtain ⟨i0, hi, hz0, hz1, hz2⟩ := info_parts Tryd.infoStr8
                      have hrow : TailRow vx w.heap.size 9 (.slice av n cv) n (all.map Value.string) := by have := HP1.out.r; rw [HN.out] at this; exact this
                      have hal : Below vx.heap.size vx (vx.alloc (.cells #[.string d] 9)) := (Below.refl _ _).alloc (Nat.le_refl _) _
                      have HPal : Hid (Ports w (vx.alloc (.cells #[.string d] 9)) OS OQ PS PQ keep most at_ dat all lost (.slice av n cv) all) := HP1.out.below hal
                      have HRow : Hid (TailRow (vx.alloc (.cells #[.string d] 9)) w.heap.size 9 (.slice av n cv) n (all.map Value.string)) := hrow.keep (Same.of_below hal fun c hc => (hrow.lt c (by simpa using hc)).2)
                      have hws : w.heap.size ≤ vx.heap.size := HP1.out.old.size
                      have HXA : Hid (BoxP (vx.alloc (.cells #[.string d] 9)) X 2 nw d) := HX1.out.below hal
                      clear hrow hal
                      go_wp2_with (at_builtin; refine wpList_append_tail _ rfl _ _ 94 rfl w.heap.size 9 i0 (.string ByteArray.empty) 16 Tryd.underlying94 hi hz0 hz1 hz2 rfl (.slice av n cv) n _ rfl HRow.out ⟨vx.heap.size, 0, none⟩ 1 (.string d) rfl (by simp) rfl (by unfold maxLen; omega) (by omega) (by simp; omega) ?_; apply Hid.out)
                      unfold Hid
                      intro v' w3 hrow' hgrow hat
                      obtain ⟨a3, c3, rfl, hnc3, hcm3⟩ := hrow'.form
                      have HP1b : Hid (Ports w w3 OS OQ PS PQ keep most at_ dat all lost (.slice a3 (n + 1) c3) (all ++ [d])) := HPal.out.grew (by
                        have e1 : (all ++ [d]).length = n + 1 := by have := HN.out; simp; omega
                        rw [e1, List.map_append]
                        exact hrow') hgrow (by simpa using hat)
                      have HXB : Hid (BoxP w3 X 2 nw d) := by
                        have hb := HXA.out
                        have hx : some X ≠ (Value.slice av n cv).ownBlock := fun e => HXO.out.2.2 (by rw [← e]; simp)
                        exact ⟨(World.cell?_of_block (hgrow.block X hb.2.2.2 hx)).trans hb.1, (World.cell?_of_block (hgrow.block X hb.2.2.2 hx)).trans hb.2.1, (World.cell?_of_block (hgrow.block X hb.2.2.2 hx)).trans hb.2.2.1, Nat.lt_of_lt_of_le hb.2.2.2 hgrow.size⟩
                      clear HPal HRow HXA hrow' hgrow hat HP1 HX1 x0 x1 x2 x3 hcm3
                      go_wp2_with fail
                      go_meet
                      have e1 : (all ++ [d]).length = n + 1 := by have := HN.out; simp; omega
                      exact ⟨a3, c3, by rw [HK.out], by rw [HK.out]; rfl, by rw [HK.out, ← e1]; rfl, by rw [HK.out]; have hp := HP1b.out; rw [← e1] at hp; exact hp, HXB⟩
                case rest =>
                  obtain ⟨av', cv', rfl, rfl, rfl, HPv, HXv⟩ := hcut
                  obtain ⟨wv, hwv⟩ : ∃ x, x = wc := ⟨wc, rfl⟩
                  subst hwv
                  have hw := queSend HPv.out.q d (by have := HN.out; omega) ⟨by omega, by omega⟩
                  have hBd : (putAll (putK all.length most d) all d).length ≤ q + 1 ∧ 0 ≤ lostK (putK all.length most d) lost ∧ lostK (putK all.length most d) lost ≤ ((q + 1 : Nat) : Int) := by
                    have := HN.out
                    unfold putAll lostK
                    refine ⟨?_, ?_, ?_⟩
                    · split
                      · simp; omega
                      · omega
                    · split <;> omega
                    · split <;> omega
                  generalize putK all.length most d = K at *
                  generalize putAll K all d = ALL at *
                  generalize lostK K lost = LOST at *
                  have HBB : Hid (-1 ≤ at_ ∧ at_ ≤ 1099511627776 ∧ (ALL).length ≤ q + 1 ∧ 0 ≤ LOST ∧ LOST ≤ ((q + 1 : Nat) : Int)) := ⟨by omega, by omega, hBd.1, hBd.2.1, hBd.2.2⟩
                  clear HP1 HX1 x0 x1 x2 x3
                  obtain ⟨x0, x1, x2, x3⟩ := HXv.out
                  obtain ⟨n2, hn2⟩ : ∃ n2, ALL.length = n2 := ⟨_, rfl⟩
                  rw [hn2] at HPv ⊢
                  clear hn2
                  go_wp2_with fail
                  refine hw.mono ?_
                  rintro ev v1 ⟨rfl, OQ1, hs1, hf1⟩
                  have HPa : Hid (Ports w v1 OS OQ1 PS PQ keep most at_ dat ALL LOST (.slice av' n2 cv') ALL) := HPv.out.queued hs1 hf1
                  clear hs1 hf1 hw HPv x0 x1 x2 x3 HXv
                  have hbr := bare_errV8 K
                  go_wp2_with fail
                  refine (hbr _ (HTw.out.below HPa.out.old)).mono ?_
                  rintro ev v2 ⟨rfl, hb2⟩
                  have HP2 : Hid (Ports w v2 OS OQ1 PS PQ keep most at_ dat ALL LOST (.slice av' n2 cv') ALL) := HPa.out.below hb2
                  clear HPa hb2 hbr
                  go_wp2_with fail
                  go_meet
                  exact ⟨OS, OQ1, at_, dat, ALL, LOST, rfl, rfl, rfl, HP2, HBB⟩
            · have e2' : (wh == 2) = false := by simpa using e2
              by_cases e3 : wh = 3
              · subst e3
                clear e0 e0' e1 e1' e2 e2'
                as_aux_lemma =>
                  have HBB : Hid (-1 ≤ at_ ∧ at_ ≤ 1099511627776 ∧ (all.tail).length ≤ q + 1 ∧ 0 ≤ lost ∧ lost ≤ ((q + 1 : Nat) : Int)) := ⟨by omega, by omega, by have := HN.out; rw [List.length_tail]; omega, by omega, by omega⟩
                  go_upto_if 193 with fail
                  go_cut [18, 24, 14] (fun ve vw vs wx => ∃ (av' : Option Addr) (n' cv' : Nat), ve = .int .i64 (recvK all) ∧ vw = .string (recvD all) ∧ vs = .slice av' n' cv' ∧ Hid (Ports w wx OS OQ PS PQ keep most at_ dat all lost (.slice av' n' cv') all.tail))
                  case first =>
                    rcases Nat.eq_zero_or_pos n with g1 | g1
                    · subst g1
                      obtain rfl : all = [] := List.eq_nil_of_length_eq_zero HN.out
                      go_wp2_with fail
                      go_meet
                      exact ⟨av, 0, cv, rfl, rfl, rfl, HP1⟩
                    · obtain ⟨xd, rest, rfl⟩ : ∃ xd rest, all = xd :: rest := by
                        cases all with
                        | nil => have := HN.out; simp at this; omega
                        | cons xd rest => exact ⟨xd, rest, rfl⟩
                      have hrow : TailRow vx w.heap.size 9 (.slice av n cv) n ((xd :: rest).map Value.string) := by have := HP1.out.r; rw [HN.out] at this; exact this
                      obtain ⟨g, of, cv', ev, hgb, hgl, _, _, u, hu, hcu⟩ := hrow.first g1
                      injection ev with ev1 _ ev2
                      subst ev1 ev2
                      have hu' : Value.string xd = u := by simpa using hu
                      subst hu'
                      have hrest := hrow.rest g1
                      have hnn : rest.length = n - 1 := by have := HN.out; simp at this; omega
                      obtain ⟨of', hof⟩ : ∃ o, (if cv = 1 then of else of + 1) = o := ⟨_, rfl⟩
                      rw [hof] at hrest
                      have HPc : Hid (Ports w vx OS OQ PS PQ keep most at_ dat (xd :: rest) lost (.slice (some ⟨g, of', none⟩) (n - 1) (cv - 1)) rest) := HP1.out.cut (by rw [hnn]; exact hrest) rfl
                      have hng : (0 : Int) < (n : Int) := by omega
                      have hn0 : ((n : Int) == 0) = false := by simp; omega
                      have hcv : 1 ≤ cv := by omega
                      have hcv2 : cv ≤ 9223372036854775807 := HCM.out
                      clear hu hrest hrow hnn
                      by_cases hc1 : cv = 1
                      · rw [if_pos hc1] at hof
                        subst hof
                        subst hc1
                        obtain rfl : n = 1 := by omega
                        go_wp2_with fail
                        go_quiet (fail)
                        go_wp2_with fail
                        go_meet
                        exact ⟨_, 0, 0, rfl, rfl, rfl, HPc.out.drawn nq⟩
                      · rw [if_neg hc1] at hof
                        subst hof
                        go_wp2_with fail
                        go_quiet (fail)
                        go_wp2_with fail
                        go_meet
                        exact ⟨_, n - 1, cv - 1, rfl, rfl, rfl, HPc.out.drawn nq⟩
                  case rest =>
                    obtain ⟨av', n2, cv', rfl, rfl, rfl, HPv⟩ := hcut
                    obtain ⟨wv, hwv⟩ : ∃ x, x = wc := ⟨wc, rfl⟩
                    subst hwv
                    have hw := queReceive HPv.out.q (by have := HN.out; omega)
                    generalize recvK all = K at *
                    generalize recvD all = RD at *
                    generalize all.tail = ALL at *
                    clear HP1 HX1 x0 x1 x2 x3
                    go_wp2_with fail
                    refine hw.mono ?_
                    rintro ev v1 ⟨rfl, OQ1, hs1, hf1⟩
                    have HPa : Hid (Ports w v1 OS OQ1 PS PQ keep most at_ dat ALL lost (.slice av' n2 cv') ALL) := HPv.out.queued hs1 hf1
                    clear hs1 hf1 hw HPv
                    have hbr := bare_errV8 K
                    go_wp2_with fail
                    refine (hbr _ (HTw.out.below HPa.out.old)).mono ?_
                    rintro ev v2 ⟨rfl, hb2⟩
                    have HP2 : Hid (Ports w v2 OS OQ1 PS PQ keep most at_ dat ALL lost (.slice av' n2 cv') ALL) := HPa.out.below hb2
                    clear HPa hb2 hbr
                    go_wp2_with fail
                    go_meet
                    exact ⟨OS, OQ1, at_, dat, ALL, lost, rfl, rfl, rfl, HP2, HBB⟩
              · have e3' : (wh == 3) = false := by simpa using e3
                clear e0 e1 e2 e3
                as_aux_lemma =>
                  have HP2 := HP1
                  have HBB : Hid (-1 ≤ at_ ∧ at_ ≤ 1099511627776 ∧ (all).length ≤ q + 1 ∧ 0 ≤ lost ∧ lost ≤ ((q + 1 : Nat) : Int)) := ⟨by omega, by omega, by have := HN.out; omega, by omega, by omega⟩
                  go_wp2_with fail
                  go_meet
                  exact ⟨OS, OQ, at_, dat, all, lost, rfl, rfl, rfl, HP2, HBB⟩
      case rest =>
        obtain ⟨OS, OQ, at_, dat, all, lost, rfl, rfl, rfl, HP2, HBB⟩ := hcut
        obtain ⟨wv, hwv⟩ : ∃ x, x = wc := ⟨wc, rfl⟩
        subst hwv
        obtain ⟨av, cv, rfl, hnc, hcm⟩ := HP2.out.r.form
        have hMany := queMany HP2.out.q
        have HBB0 := HBB.out
        obtain ⟨n, hn⟩ : ∃ n, all.length = n := ⟨_, rfl⟩
        rw [hn] at hMany HBB0 HP2 hnc ⊢
        clear HP1 HX1 x0 x1 x2 x3 hcm hn
        go_wp2_with fail
        refine hMany.mono ?_
        rintro ev vm ⟨rfl, qm, hvm⟩
        have HPm : Hid (Ports w vm OS OQ PS PQ keep most at_ dat all lost (.slice av n cv) all) := by rw [hvm]; exact HP2.out.drawn qm
        clear HP2 hMany hvm
        go_wp2_with fail
        refine (queLost HPm.out.q).mono ?_
        rintro ev vl ⟨rfl, ql, hvl⟩
        have HP3 : Hid (Ports w vl OS OQ PS PQ keep most at_ dat all lost (.slice av n cv) all) := by rw [hvl]; exact HPm.out.drawn ql
        clear HPm hvl
        go_wp2_with fail
        exact ⟨⟨q + 1, OS, OQ, at_, dat, all, lost, by omega, rfl, rfl, rfl, by go_num, HP3, HBB⟩, by simp [intOf]; omega⟩
    · go_wp2
      go_ret
      exact ⟨rfl, HP.out.old⟩

/-- PortPlays answers true, whatever it is asked. -/
theorem ports_any (keep most : Int) (a : Option Addr) (len cap : Nat) (w : World) (hT : Told w) (fw fn : Nat → Int) (fd : Nat → ByteArray) (hR : RowsP w a len fw fn fd) (hN : ∀ j, j < len → -9223372036854775808 ≤ fn j ∧ fn j ≤ 9223372036854775807) (hl : len ≤ 9223372036854775807) :
    Calls Tryd.prog 9 #[.int .i64 keep, .int .i64 most, .slice a len cap] w fun e w' => e = .returned (.bool true) ∧ Below w.heap.size w w' := by
  by_cases h : 100 < len
  · exact plays_great keep most a len cap w h hl
  · by_cases hk : 1 ≤ keep ∧ keep ≤ 1099511627776
    · by_cases hm : 1 ≤ most ∧ most ≤ 16
      · exact plays_good keep most a len cap w hT (by omega) hk hm fw fn fd hR hN
      · exact plays_badm keep most a len cap w hT (by omega) hk hm
    · exact plays_badk keep most a len cap w hT (by omega) hk
end Go.Proofs.YtklknbkofmobcabDoor
