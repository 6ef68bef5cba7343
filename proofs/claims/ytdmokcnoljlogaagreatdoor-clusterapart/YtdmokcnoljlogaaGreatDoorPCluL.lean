/- The program's cluster: load, the message that goes in a slot (10.3). -/
import Derived.Test.YtdmokcnoljlogaaGreatDoorPCluX
import Derived.Test.YtdmokcnoljlogaaGreatDoorWordsD
namespace Go.Proofs.YtdmokcnoljlogaaGreatDoor
open Go.RowKit

section
variable {w : World} {O : List Nat} {C : Nat} {p : PlanN} {fa : Int} {cs : List Int} {s : ClS} {rd : Int} {B : Nat} {m : CMap}
set_option maxRecDepth 100000 in
set_option maxHeartbeats 2000000 in
theorem cload_far (h : Cl w O C p fa cs s rd B m) (F : Nat) (fr : Int) (hr1 : 1 ≤ p.round) (hr2 : p.round ≤ 137438953472) (hfar : 1099511627776 / p.round < rd) :
    Calls Tryz.prog 44 #[.pointer (some ⟨C, 0, none⟩), .pointer (some ⟨F, 0, none⟩), .int .i64 fr] w fun e w' => e = .returned (.tuple #[]) ∧ Below w.heap.size w w' := by
  have c5 := h.base.c5
  have c12 := h.base.c12
  have hlC := h.base.lc
  have e1 : Int.tdiv 1099511627776 p.round = 1099511627776 / p.round := Int.tdiv_eq_ediv_of_nonneg (by decide)
  have hq0 : 0 ≤ 1099511627776 / p.round := Int.ediv_nonneg (by decide) (by omega)
  have hq1 : 1099511627776 / p.round ≤ 1099511627776 := Int.ediv_le_self _ (by decide)
  have k0 : (p.round == 0) = false := by simp; omega
  generalize 1099511627776 / p.round = Q at *
  generalize p.round = R at *
  clear h
  go_enter Tryz.func44, Tryz.ntmps44
  go_wp2_with fail
  go_quiet (fail)
  go_wp2
  exact bodyPost_ret (v := .tuple #[]) (by simp [results, Tryz.results44, go_sem]) rfl ⟨rfl, ⟨rfl, rfl, rfl, Nat.le_refl _, fun _ _ => rfl⟩⟩

set_option maxRecDepth 100000 in
set_option maxHeartbeats 2000000 in
theorem cload_err (h : Cl w O C p fa cs s rd B m) (F : Nat) (fr : Int) (hr1 : 1 ≤ p.round) (hr2 : p.round ≤ 137438953472) (hnf : rd ≤ 1099511627776 / p.round) (hM0 : 0 ≤ rd * p.round) (hM1 : rd * p.round ≤ 1099511627776) (hf0 : 0 ≤ fr) (hf1 : fr ≤ 1099511627776) (hbe : 1099511627776 < rd * p.round + fr) :
    Calls Tryz.prog 44 #[.pointer (some ⟨C, 0, none⟩), .pointer (some ⟨F, 0, none⟩), .int .i64 fr] w fun e w' => e = .returned (.tuple #[]) ∧ Below w.heap.size w w' := by
  have c5 := h.base.c5
  have c12 := h.base.c12
  have hlC := h.base.lc
  have e1 : Int.tdiv 1099511627776 p.round = 1099511627776 / p.round := Int.tdiv_eq_ediv_of_nonneg (by decide)
  have hq0 : 0 ≤ 1099511627776 / p.round := Int.ediv_nonneg (by decide) (by omega)
  have hq1 : 1099511627776 / p.round ≤ 1099511627776 := Int.ediv_le_self _ (by decide)
  have k0 : (p.round == 0) = false := by simp; omega
  have k1 : decide (1099511627776 / p.round < rd) = false := decide_eq_false (by omega)
  have HA : Hid (∀ v, Calls Tryz.prog 69 #[.int .i64 (rd * p.round), .int .i64 fr] v fun e w' => e = .returned (.tuple #[.int .i64 0, .iface 39 (.int .i64 2)]) ∧ Below v.heap.size v w') := fun v => add6 _ _ v (by omega) hM1 (by omega) hf1 hbe
  generalize hXe : rd * p.round = X at *
  have hwX : IntKind.i64.wrap X = X := by simp [IntKind.wrap, IntKind.bits, IntKind.signed]; omega
  generalize 1099511627776 / p.round = Q at *
  generalize p.round = R at *
  clear h
  go_enter Tryz.func44, Tryz.ntmps44
  go_wp2_with fail
  go_quiet (fail)
  go_wp2_with fail
  go_region_held3 (fun u => u.cell? ⟨C, 5, none⟩ = some (.int .i64 R) ∧ u.cell? ⟨C, 12, none⟩ = some (.int .i64 rd)) (go_keep) (first
    | (go_at_call 69; refine (HA.out _).mono ?_; rintro ev v1 ⟨rfl, hb1⟩; have HB1 : Hid (Below w.heap.size w v1) := ⟨hb1.os, hb1.tape, hb1.output, hb1.size, hb1.block⟩; have y5 := (HB1.out.cell (p := ⟨C, 5, none⟩) hlC).trans c5; have y12 := (HB1.out.cell (p := ⟨C, 12, none⟩) hlC).trans c12))
  go_wp2
  exact bodyPost_ret (v := .tuple #[]) (by simp [results, Tryz.results44, go_sem]) rfl ⟨rfl, HB1.out⟩

theorem csendI {V wr : World} (h : InCl O V wr C p fa cs s rd B m) (k : Nat) (hk : k < p.nl) (t : Int) (ht0 : 0 ≤ t) (ht1 : t ≤ 1099511627776) (hb0 : 0 ≤ p.lb k) (hb1 : p.lb k ≤ 1099511627776) (hB : B ≤ 9999990) :
    Calls Tryz.prog 70 #[.pointer (some ⟨m.S k, 0, none⟩), .int .i64 t] wr fun e w' => e = .returned (.tuple #[.agg #[.int .i64 (sendSeq (sendK (s.links k).all.length (s.links k).went t (s.links k).now (s.links k).last (p.lb k)) (s.links k).went), .string (sendDat (sendK (s.links k).all.length (s.links k).went t (s.links k).now (s.links k).last (p.lb k)) (s.links k).all (s.links k).went)], errV (sendK (s.links k).all.length (s.links k).went t (s.links k).now (s.links k).last (p.lb k))]) ∧ InCl O V w' C p fa cs (s.setSend k ((s.links k).asked t (p.lb k))) rd B m := by
  obtain ⟨O', h, c⟩ := h
  obtain ⟨OS, s1, ⟨s2, ⟨s3, s4⟩, s5⟩, s6⟩ := c.sdr hk
  refine (sdrSend s1 t (by omega) s3 s4 hb0 hb1).mono ?_
  rintro e w' ⟨he, OS', q1, q2⟩
  obtain ⟨O'', h2, c2⟩ := s6 w' OS' B ((s.links k).asked t (p.lb k)) q1 q2 ⟨s2, (by
    show 0 ≤ sendLast _ t (s.links k).last ∧ sendLast _ t (s.links k).last ≤ 1099511627776
    unfold sendLast
    split <;> omega), s5⟩ (Nat.le_refl _)
  exact ⟨he, O'', h.trans h2, c2⟩

/-- A link more that is asked. -/
theorem linksTo_skip {P : PlanS} {who : Nat} {t : Int} {L : Nat → SendS} {k : Nat} (h : P.lf k ≠ who) : linksTo P who t L (k + 1) = linksTo P who t L k := by
  show (if _ then _ else _) = _
  rw [if_pos (.inr h)]
theorem linksTo_ask {P : PlanS} {who : Nat} {t : Int} {L : Nat → SendS} {k : Nat} (h : P.lf k = who) (hn : (linksTo P who t L k).2 = none) : linksTo P who t L (k + 1) = (fun j => if j = k then ((linksTo P who t L k).1 k).asked t (P.lb k) else (linksTo P who t L k).1 j,
      if sendK ((linksTo P who t L k).1 k).all.length ((linksTo P who t L k).1 k).went t ((linksTo P who t L k).1 k).now ((linksTo P who t L k).1 k).last (P.lb k) = 0 then some (k, ordN ((linksTo P who t L k).1 k).went, ((linksTo P who t L k).1 k).all.getD ((linksTo P who t L k).1 k).went ByteArray.empty) else none) := by
  show (if _ then _ else _) = _
  rw [if_neg]
  rintro (q | q)
  · rw [hn] at q; cases q
  · exact q h
theorem linksTo_end {P : PlanS} {who : Nat} {t : Int} {L : Nat → SendS} {k : Nat} (h : (linksTo P who t L k).2.isSome = true) : ∀ n, k ≤ n → linksTo P who t L n = linksTo P who t L k := by
  intro n hn
  induction n with
  | zero => obtain rfl : k = 0 := by omega
            rfl
  | succ n ih =>
    rcases Nat.lt_or_ge k (n + 1) with q | q
    · have e := ih (by omega)
      show (if _ then _ else _) = _
      rw [if_pos (.inl (by rw [e]; exact h)), e]
    · obtain rfl : k = n + 1 := by omega
      rfl

/-- A cluster, and a box of one's own beside it. -/
def InBox (O : List Nat) (F : Nat) (V wr : World) (C : Nat) (p : PlanN) (fa : Int) (cs : List Int) (s : ClS) (rd : Int) (B : Nat) (m : CMap) : Prop := ∃ O', Foot (F :: O) (F :: O') V wr ∧ F ∉ O' ∧ Cl wr O' C p fa cs s rd B m

theorem box2' (w : World) (a b : Value) (t : TypeId) : (w.alloc (.cells #[a, b] t)).cell? ⟨w.heap.size, 0, none⟩ = some a ∧ (w.alloc (.cells #[a, b] t)).cell? ⟨w.heap.size, 1, none⟩ = some b ∧ Below w.heap.size w (w.alloc (.cells #[a, b] t)) ∧ (w.alloc (.cells #[a, b] t)).heap.size = w.heap.size + 1 :=
  ⟨by simp, by simp, (Below.refl _ _).alloc (Nat.le_refl _) _, by simp⟩

/-- What is laid into the box. -/
theorem InCl.store3 {F : Nat} {V v : World} (h : InCl O V v C p fa cs s rd B m) (hF : F < V.heap.size) (hFO : F ∉ O) (hx : ∃ a b c, v.cell? ⟨F, 3, none⟩ = some a ∧ v.cell? ⟨F, 4, none⟩ = some b ∧ v.cell? ⟨F, 5, none⟩ = some c) (x y z : Value) :
    InBox O F V (((v.setCell ⟨F, 3, none⟩ x).setCell ⟨F, 4, none⟩ y).setCell ⟨F, 5, none⟩ z) C p fa cs s rd B m ∧ (∀ i, i < 3 → (((v.setCell ⟨F, 3, none⟩ x).setCell ⟨F, 4, none⟩ y).setCell ⟨F, 5, none⟩ z).cell? ⟨F, i, none⟩ = v.cell? ⟨F, i, none⟩) ∧ (((v.setCell ⟨F, 3, none⟩ x).setCell ⟨F, 4, none⟩ y).setCell ⟨F, 5, none⟩ z).cell? ⟨F, 3, none⟩ = some x ∧ (((v.setCell ⟨F, 3, none⟩ x).setCell ⟨F, 4, none⟩ y).setCell ⟨F, 5, none⟩ z).cell? ⟨F, 4, none⟩ = some y ∧ (((v.setCell ⟨F, 3, none⟩ x).setCell ⟨F, 4, none⟩ y).setCell ⟨F, 5, none⟩ z).cell? ⟨F, 5, none⟩ = some z := by
  obtain ⟨O', h1, h2⟩ := h
  obtain ⟨a, b, c, x3, x4, x5⟩ := hx
  have hn : F ∉ O' := fun y => by
    rcases h1.fresh F y with q | q
    · exact hFO q
    · omega
  have hT : Turns F F v (((v.setCell ⟨F, 3, none⟩ x).setCell ⟨F, 4, none⟩ y).setCell ⟨F, 5, none⟩ z) := (((Turns.refl F F v).set (p := ⟨F, 3, none⟩) (.inl rfl) x).set (p := ⟨F, 4, none⟩) (.inl rfl) y).set (p := ⟨F, 5, none⟩) (.inl rfl) z
  refine ⟨⟨O', (h1.under F).trans (Foot.of_turns hT List.mem_cons_self List.mem_cons_self), hn, h2.keep ⟨hT.size, fun c hc => hT.block c (h2.lt c hc) (fun e => hn (e ▸ hc)) (fun e => hn (e ▸ hc))⟩⟩, fun i hi => ?_, ?_, ?_, ?_⟩
  · have n3 : i ≠ 3 := by omega
    have n4 : i ≠ 4 := by omega
    have n5 : i ≠ 5 := by omega
    exact (cell_other (.inr n5)).trans ((cell_other (.inr n4)).trans (cell_other (.inr n3)))
  · exact (cell_other (.inr (by decide))).trans ((cell_other (.inr (by decide))).trans (cell_set x3))
  · exact (cell_other (.inr (by decide))).trans (cell_set ((cell_other (.inr (by decide))).trans x4))
  · exact cell_set ((cell_other (.inr (by decide))).trans ((cell_other (.inr (by decide))).trans x5))

set_option maxRecDepth 100000 in
set_option maxHeartbeats 4000000 in
theorem cload_go (h : Cl w O C p fa cs s rd B m) (F who : Nat) (i mem fr t : Int) (hF : F < w.heap.size) (hFO : F ∉ O) (hz : ∀ i, w.frozen? ⟨F, i, none⟩ = false)
    (f0 : w.cell? ⟨F, 0, none⟩ = some (.int .i64 who)) (f1 : w.cell? ⟨F, 1, none⟩ = some (.int .i64 i)) (f2 : w.cell? ⟨F, 2, none⟩ = some (.int .i64 mem)) (f3 : w.cell? ⟨F, 3, none⟩ = some (.int .i64 (-1))) (f4 : w.cell? ⟨F, 4, none⟩ = some (.int .i64 0)) (f5 : w.cell? ⟨F, 5, none⟩ = some (.string ByteArray.empty))
    (hr1 : 1 ≤ p.round) (hr2 : p.round ≤ 137438953472) (hnf : rd ≤ 1099511627776 / p.round) (hM0 : 0 ≤ rd * p.round) (hM1 : rd * p.round ≤ 1099511627776) (hf0 : 0 ≤ fr) (hf1 : fr ≤ 1099511627776) (ht : rd * p.round + fr = t) (hbe : t ≤ 1099511627776) (hnl : p.nl ≤ 8) (hB : B ≤ 9999990)
    (hlk : ∀ k, k < p.nl → 0 ≤ p.lf k ∧ 0 ≤ p.lb k ∧ p.lb k ≤ 1099511627776) :
    Calls Tryz.prog 44 #[.pointer (some ⟨C, 0, none⟩), .pointer (some ⟨F, 0, none⟩), .int .i64 fr] w fun e w' => e = .returned (.tuple #[]) ∧ InBox O F w w' C p fa cs ⟨s.nodes, (linksTo p.S who t s.links p.nl).1, s.newest, s.ports⟩ rd B m ∧
      (w'.cell? ⟨F, 0, none⟩ = some (.int .i64 who) ∧ w'.cell? ⟨F, 1, none⟩ = some (.int .i64 i) ∧ w'.cell? ⟨F, 2, none⟩ = some (.int .i64 mem) ∧ w'.cell? ⟨F, 3, none⟩ = some (.int .i64 (msgLk (linksTo p.S who t s.links p.nl).2)) ∧ w'.cell? ⟨F, 4, none⟩ = some (.int .i64 (msgSeq (linksTo p.S who t s.links p.nl).2)) ∧ w'.cell? ⟨F, 5, none⟩ = some (.string (msgDat (linksTo p.S who t s.links p.nl).2))) := by
  have c5 := h.base.c5
  have c12 := h.base.c12
  have hlC := h.base.lc
  have e1 : Int.tdiv 1099511627776 p.round = 1099511627776 / p.round := Int.tdiv_eq_ediv_of_nonneg (by decide)
  have hq0 : 0 ≤ 1099511627776 / p.round := Int.ediv_nonneg (by decide) (by omega)
  have hq1 : 1099511627776 / p.round ≤ 1099511627776 := Int.ediv_le_self _ (by decide)
  have k0 : (p.round == 0) = false := by simp; omega
  have k1 : decide (1099511627776 / p.round < rd) = false := decide_eq_false (by omega)
  have HA : Hid (∀ v, Calls Tryz.prog 69 #[.int .i64 (rd * p.round), .int .i64 fr] v fun e w' => e = .returned (.tuple #[.int .i64 t, .nilIface]) ∧ Below v.heap.size v w') := fun v => by
    have := add7 (rd * p.round) fr v (by omega) hM1 (by omega) hf1 (by omega) (by omega)
    rw [ht] at this
    exact this
  have HC0 : Hid (Cl w O C p fa cs s rd B m) := h
  have HFx : Hid ((∀ i, w.frozen? ⟨F, i, none⟩ = false) ∧ F ∉ O ∧ w.cell? ⟨F, 0, none⟩ = some (.int .i64 who) ∧ w.cell? ⟨F, 1, none⟩ = some (.int .i64 i) ∧ w.cell? ⟨F, 2, none⟩ = some (.int .i64 mem) ∧ w.cell? ⟨F, 3, none⟩ = some (.int .i64 (-1)) ∧ w.cell? ⟨F, 4, none⟩ = some (.int .i64 0) ∧ w.cell? ⟨F, 5, none⟩ = some (.string ByteArray.empty)) := ⟨hz, hFO, f0, f1, f2, f3, f4, f5⟩
  have HLK : Hid (∀ k, k < p.nl → 0 ≤ p.lf k ∧ 0 ≤ p.lb k ∧ p.lb k ≤ 1099511627776) := hlk
  have HTB : Hid (0 ≤ t ∧ t ≤ 1099511627776 ∧ B ≤ 9999990) := ⟨by omega, hbe, hB⟩
  generalize hXe : rd * p.round = X at *
  have hwX : IntKind.i64.wrap X = X := by simp [IntKind.wrap, IntKind.bits, IntKind.signed]; omega
  generalize 1099511627776 / p.round = Q at *
  obtain ⟨R, hR⟩ : ∃ R, p.round = R := ⟨_, rfl⟩
  rw [hR] at c5 e1 k0 hXe hr1 hr2
  obtain ⟨nl, hNL⟩ : ∃ nl, p.nl = nl := ⟨_, rfl⟩
  have HNL : Hid (p.nl = nl) := hNL
  rw [hNL] at hnl
  clear h hz hFO f0 f1 f2 f3 f4 f5 hlk ht hNL hR
  go_enter Tryz.func44, Tryz.ntmps44
  go_wp2_with fail
  go_quiet (fail)
  go_wp2_with fail
  go_region_held3 (fun u => u.cell? ⟨C, 5, none⟩ = some (.int .i64 R) ∧ u.cell? ⟨C, 12, none⟩ = some (.int .i64 rd)) (go_keep) (first
    | (go_at_call 69; refine (HA.out _).mono ?_; rintro ev v1 ⟨rfl, hb1⟩; have HB1 : Hid (Below w.heap.size w v1) := ⟨hb1.os, hb1.tape, hb1.output, hb1.size, hb1.block⟩; have y5 := (HB1.out.cell (p := ⟨C, 5, none⟩) hlC).trans c5; have y12 := (HB1.out.cell (p := ⟨C, 12, none⟩) hlC).trans c12))
  have HI0 : Hid (InCl O w v1 C p fa cs s rd B m) := ⟨O, Foot.of_below HB1.out, HC0.out.below HB1.out⟩
  have c14 := HI0.out.base.c14
  rw [HNL.out] at c14
  have hlC1 := HI0.out.base.lc
  clear c5 c12 hlC HB1 hb1 y5 y12 HA
  go_wp2_with fail
  clear c14 hlC1 e1 k0 k1 hwX hXe
  go_loopw [45] (fun x wr => ∃ k : Nat, k ≤ nl ∧ x = .int .i64 k ∧ Hid ((linksTo p.S who t s.links k).2 = none ∧ InCl O w wr C p fa cs ⟨s.nodes, (linksTo p.S who t s.links k).1, s.newest, s.ports⟩ rd B m)) (fun x _ => nl - (intOf x).toNat)
  case atStart => exact ⟨0, Nat.zero_le _, rfl, rfl, HI0.out⟩
  case round =>
    obtain ⟨k, hk, rfl, HI⟩ := hrel
    clear HI0
    by_cases hlt : k < nl
    · have HKL : Hid (k < p.nl) := by show k < p.nl; rw [HNL.out]; exact hlt
      obtain ⟨la1, la2⟩ := HI.out.2.base.la (by have := HKL.out; omega)
      obtain ⟨l0, l1, l2⟩ := HI.out.2.base.lk k HKL.out
      have hll := HI.out.2.base.lx _ la2
      have hFw : F < wr.heap.size := Nat.lt_of_lt_of_le hF HI.out.2.size
      have g0 : wr.cell? ⟨F, 0, none⟩ = some (.int .i64 who) := (HI.out.2.box hF HFx.out.2.1 0).trans HFx.out.2.2.1
      have kk : (k : Int) < (nl : Int) := by omega
      rw [la1]
      obtain ⟨n, hpn⟩ : ∃ n, p.n = n := ⟨_, rfl⟩
      rw [hpn] at l2
      obtain ⟨b0, b1, b2, bB, bS⟩ := box3 wr (.int .i64 (p.lf k)) (.pointer (some ⟨m.S k, 0, none⟩)) (.slice (some ⟨m.E k, 0, none⟩) n n) 86
      have g0' := (bB.cell (p := ⟨F, 0, none⟩) hFw).trans g0
      have hFw' : F < (wr.alloc (.cells #[.int .i64 (p.lf k), .pointer (some ⟨m.S k, 0, none⟩), .slice (some ⟨m.E k, 0, none⟩) n n] 86)).heap.size := by rw [bS]; omega
      have hwl : wr.heap.size < (wr.alloc (.cells #[.int .i64 (p.lf k), .pointer (some ⟨m.S k, 0, none⟩), .slice (some ⟨m.E k, 0, none⟩) n n] 86)).heap.size := by rw [bS]; omega
      have HBB : Hid (Below wr.heap.size wr (wr.alloc (.cells #[.int .i64 (p.lf k), .pointer (some ⟨m.S k, 0, none⟩), .slice (some ⟨m.E k, 0, none⟩) n n] 86))) := bB
      clear bB bS hpn
      by_cases hw : p.lf k = who
      · have kw : (p.lf k != (who : Int)) = false := by simpa using hw
        have HS : Hid _ := linksTo_ask (P := p.S) (who := who) (t := t) (L := s.links) (k := k) (by show (p.lf k).toNat = who; omega) HI.out.1
        have hse := fun v (u : Nat) (hv : Below wr.heap.size wr v) => csendI ((HI.out.2.below hv).drawn u) k HKL.out t HTB.out.1 HTB.out.2.1 (HLK.out k HKL.out).2.1 (HLK.out k HKL.out).2.2 HTB.out.2.2
        have HSE : Hid _ := hse
        clear hse
        generalize p.lf k = LF at *
        clear hw la1
        go_wp2_with fail
        generalize (wr.alloc (.cells #[.int .i64 LF, .pointer (some ⟨m.S k, 0, none⟩), .slice (some ⟨m.E k, 0, none⟩) n n] 86)) = V1 at *
        go_quiet (fail)
        go_wp2_with fail
        refine (HSE.out _ _ HBB.out).mono ?_
        rintro e v2 ⟨rfl, hI2⟩
        have HI2 : Hid (InCl O w v2 C p fa cs (ClS.setSend ⟨s.nodes, (linksTo p.S who t s.links k).1, s.newest, s.ports⟩ k (((linksTo p.S who t s.links k).1 k).asked t (p.lb k))) rd B m) := hI2
        clear hI2 HSE
        have HKZ : Hid (sendK ((linksTo p.S who t s.links k).1 k).all.length ((linksTo p.S who t s.links k).1 k).went t ((linksTo p.S who t s.links k).1 k).now ((linksTo p.S who t s.links k).1 k).last (p.lb k) = 0 ∨ sendK ((linksTo p.S who t s.links k).1 k).all.length ((linksTo p.S who t s.links k).1 k).went t ((linksTo p.S who t s.links k).1 k).now ((linksTo p.S who t s.links k).1 k).last (p.lb k) ≠ 0) := by
          show _ ∨ _
          exact Classical.em _
        have HSN : Hid (sendK ((linksTo p.S who t s.links k).1 k).all.length ((linksTo p.S who t s.links k).1 k).went t ((linksTo p.S who t s.links k).1 k).now ((linksTo p.S who t s.links k).1 k).last (p.lb k) ≠ 0 → ∀ v, InCl O w v C p fa cs (ClS.setSend ⟨s.nodes, (linksTo p.S who t s.links k).1, s.newest, s.ports⟩ k (((linksTo p.S who t s.links k).1 k).asked t (p.lb k))) rd B m → (linksTo p.S who t s.links (k + 1)).2 = none ∧ InCl O w v C p fa cs ⟨s.nodes, (linksTo p.S who t s.links (k + 1)).1, s.newest, s.ports⟩ rd B m) := fun hK v hv => by
          rw [HS.out]
          exact ⟨if_neg hK, hv⟩
        have HSY : Hid (sendK ((linksTo p.S who t s.links k).1 k).all.length ((linksTo p.S who t s.links k).1 k).went t ((linksTo p.S who t s.links k).1 k).now ((linksTo p.S who t s.links k).1 k).last (p.lb k) = 0 → linksTo p.S who t s.links p.nl = (fun j => if j = k then (((linksTo p.S who t s.links k).1 k).asked t (p.lb k)) else (linksTo p.S who t s.links k).1 j, some (k, sendSeq 0 ((linksTo p.S who t s.links k).1 k).went, sendDat 0 ((linksTo p.S who t s.links k).1 k).all ((linksTo p.S who t s.links k).1 k).went))) := fun hK => by
          have hK' : sendK ((linksTo p.S who t s.links k).1 k).all.length ((linksTo p.S who t s.links k).1 k).went t ((linksTo p.S who t s.links k).1 k).now ((linksTo p.S who t s.links k).1 k).last (p.S.lb k) = 0 := hK
          have e0 : linksTo p.S who t s.links (k + 1) = _ := HS.out
          rw [if_pos hK'] at e0
          have e1 := linksTo_end (P := p.S) (who := who) (t := t) (L := s.links) (k := k + 1) (by rw [e0]; rfl) p.nl (by have := HKL.out; omega)
          rw [e1, e0]
          rfl
        clear HS HI
        generalize hKK : sendK ((linksTo p.S who t s.links k).1 k).all.length ((linksTo p.S who t s.links k).1 k).went t ((linksTo p.S who t s.links k).1 k).now ((linksTo p.S who t s.links k).1 k).last (p.lb k) = K at *
        clear hKK
        generalize ((linksTo p.S who t s.links k).1 k).went = WE at *
        generalize ((linksTo p.S who t s.links k).1 k).all = AL at *
        rcases HKZ.out with hK | hK
        · subst hK
          have hFv : F < v2.heap.size := Nat.lt_of_lt_of_le hF HI2.out.size
          obtain ⟨x0, x1, xB, xS⟩ := box2' v2 (.int .i64 (sendSeq 0 WE)) (.string (sendDat 0 AL WE)) 159
          have HXB : Hid (Below v2.heap.size v2 (v2.alloc (.cells #[.int .i64 (sendSeq 0 WE), .string (sendDat 0 AL WE)] 159))) := xB
          have z : ∀ j, (v2.alloc (.cells #[.int .i64 (sendSeq 0 WE), .string (sendDat 0 AL WE)] 159)).frozen? ⟨F, j, none⟩ = false := fun j => by
            obtain ⟨O2, q1, q2⟩ := HI2.out
            exact (xB.frozen (p := ⟨F, j, none⟩) hFv).trans ((q1.frozen (p := ⟨F, j, none⟩) hF HFx.out.2.1).trans (HFx.out.1 j))
          have cF : ∀ j, (v2.alloc (.cells #[.int .i64 (sendSeq 0 WE), .string (sendDat 0 AL WE)] 159)).cell? ⟨F, j, none⟩ = w.cell? ⟨F, j, none⟩ := fun j => (xB.cell (p := ⟨F, j, none⟩) hFv).trans (HI2.out.box hF HFx.out.2.1 j)
          have z3 := z 3
          have z4 := z 4
          have z5 := z 5
          have HcF : Hid _ := cF
          have q3 := (cF 3).trans HFx.out.2.2.2.2.2.1
          have q4 := (cF 4).trans HFx.out.2.2.2.2.2.2.1
          have q5 := (cF 5).trans HFx.out.2.2.2.2.2.2.2
          have hFx : F < (v2.alloc (.cells #[.int .i64 (sendSeq 0 WE), .string (sendDat 0 AL WE)] 159)).heap.size := by rw [xS]; omega
          have hxx : v2.heap.size < (v2.alloc (.cells #[.int .i64 (sendSeq 0 WE), .string (sendDat 0 AL WE)] 159)).heap.size := by rw [xS]; omega
          have hne : v2.heap.size ≠ F := by omega
          have hne2 : F ≠ v2.heap.size := by omega
          have hlk := HSY.out rfl
          have HLKE : Hid (linksTo p.S who t s.links p.nl = (fun j => if j = k then (((linksTo p.S who t s.links k).1 k).asked t (p.lb k)) else (linksTo p.S who t s.links k).1 j, some (k, sendSeq 0 WE, sendDat 0 AL WE))) := hlk
          rw [errV_0]
          generalize sendSeq 0 WE = SQ at *
          generalize sendDat 0 AL WE = SD at *
          clear z cF xB xS hlk HSY HSN HKZ
          go_wp2_with fail
          generalize (v2.alloc (.cells #[.int .i64 SQ, .string SD] 159)) = V2 at *
          have HD : Hid (InBox O F w (((V2.setCell ⟨F, 3, none⟩ (.int .i64 k)).setCell ⟨F, 4, none⟩ (.int .i64 SQ)).setCell ⟨F, 5, none⟩ (.string SD)).drew C p fa cs ⟨s.nodes, (linksTo p.S who t s.links p.nl).1, s.newest, s.ports⟩ rd B m ∧ ((((V2.setCell ⟨F, 3, none⟩ (.int .i64 k)).setCell ⟨F, 4, none⟩ (.int .i64 SQ)).setCell ⟨F, 5, none⟩ (.string SD)).drew.cell? ⟨F, 0, none⟩ = some (.int .i64 who) ∧ (((V2.setCell ⟨F, 3, none⟩ (.int .i64 k)).setCell ⟨F, 4, none⟩ (.int .i64 SQ)).setCell ⟨F, 5, none⟩ (.string SD)).drew.cell? ⟨F, 1, none⟩ = some (.int .i64 i) ∧ (((V2.setCell ⟨F, 3, none⟩ (.int .i64 k)).setCell ⟨F, 4, none⟩ (.int .i64 SQ)).setCell ⟨F, 5, none⟩ (.string SD)).drew.cell? ⟨F, 2, none⟩ = some (.int .i64 mem) ∧ (((V2.setCell ⟨F, 3, none⟩ (.int .i64 k)).setCell ⟨F, 4, none⟩ (.int .i64 SQ)).setCell ⟨F, 5, none⟩ (.string SD)).drew.cell? ⟨F, 3, none⟩ = some (.int .i64 (msgLk (linksTo p.S who t s.links p.nl).2)) ∧ (((V2.setCell ⟨F, 3, none⟩ (.int .i64 k)).setCell ⟨F, 4, none⟩ (.int .i64 SQ)).setCell ⟨F, 5, none⟩ (.string SD)).drew.cell? ⟨F, 4, none⟩ = some (.int .i64 (msgSeq (linksTo p.S who t s.links p.nl).2)) ∧ (((V2.setCell ⟨F, 3, none⟩ (.int .i64 k)).setCell ⟨F, 4, none⟩ (.int .i64 SQ)).setCell ⟨F, 5, none⟩ (.string SD)).drew.cell? ⟨F, 5, none⟩ = some (.string (msgDat (linksTo p.S who t s.links p.nl).2)))) := by
            obtain ⟨hz, hFO, f0, f1, f2, f3, f4, f5⟩ := HFx.out
            obtain ⟨d1, d2, d3, d4, d5⟩ := (HI2.out.below HXB.out).store3 hF hFO ⟨_, _, _, q3, q4, q5⟩ (.int .i64 k) (.int .i64 SQ) (.string SD)
            rw [HLKE.out]
            refine ⟨?_, (d2 0 (by decide)).trans ((HcF.out 0).trans f0), (d2 1 (by decide)).trans ((HcF.out 1).trans f1), (d2 2 (by decide)).trans ((HcF.out 2).trans f2), d3, d4, d5⟩
            obtain ⟨O', y1, y2, y3⟩ := d1
            exact ⟨O', y1.trans (Foot.drawn _ _ 1), y2, y3.below ⟨rfl, rfl, rfl, Nat.le_refl _, fun _ _ => rfl⟩⟩
          go_region
          go_wp2
          exact bodyPost_ret (v := .tuple #[]) (by simp [results, Tryz.results44, go_sem]) rfl ⟨rfl, HD.out⟩
        · have hev : errV K = .iface 39 (.int .i64 K) := by unfold errV; rw [if_neg hK]
          have HI3 : Hid (∀ v, Below v2.heap.size v2 v → (linksTo p.S who t s.links (k + 1)).2 = none ∧ InCl O w v C p fa cs ⟨s.nodes, (linksTo p.S who t s.links (k + 1)).1, s.newest, s.ports⟩ rd B m) := fun v hv => HSN.out hK v (HI2.out.below hv)
          rw [hev]
          generalize sendSeq K WE = SQ at *
          generalize sendDat K AL WE = SD at *
          clear hev HKZ HSN HSY HI2 hK
          go_wp2
          go_roundw
          case rel => exact ⟨k + 1, by omega, by go_num, HI3.out _ ((Below.refl _ _).alloc (Nat.le_refl _) _)⟩
          case measure => simp [intOf]; omega
      · have HS : Hid (linksTo p.S who t s.links (k + 1) = linksTo p.S who t s.links k) := linksTo_skip (by
          show (p.lf k).toNat ≠ who
          have := (HLK.out k HKL.out).1
          omega)
        have kw : (p.lf k != (who : Int)) = true := by simpa using hw
        have HI2 : Hid (∀ v, Below wr.heap.size wr v → (linksTo p.S who t s.links (k + 1)).2 = none ∧ InCl O w v C p fa cs ⟨s.nodes, (linksTo p.S who t s.links (k + 1)).1, s.newest, s.ports⟩ rd B m) := fun v hv => by
          rw [HS.out]
          exact ⟨HI.out.1, HI.out.2.below hv⟩
        generalize p.lf k = LF at *
        clear HI HS hw la1
        go_wp2_with fail
        generalize (wr.alloc (.cells #[.int .i64 LF, .pointer (some ⟨m.S k, 0, none⟩), .slice (some ⟨m.E k, 0, none⟩) n n] 86)) = V1 at *
        go_quiet (fail)
        go_wp2
        go_roundw
        case rel => exact ⟨k + 1, by omega, by go_num, HI2.out _ ⟨HBB.out.os, HBB.out.tape, HBB.out.output, HBB.out.size, HBB.out.block⟩⟩
        case measure => simp [intOf]; omega
    · have hkn : k = nl := by omega
      have HD : Hid (InBox O F w wr C p fa cs ⟨s.nodes, (linksTo p.S who t s.links p.nl).1, s.newest, s.ports⟩ rd B m ∧ (wr.cell? ⟨F, 0, none⟩ = some (.int .i64 who) ∧ wr.cell? ⟨F, 1, none⟩ = some (.int .i64 i) ∧ wr.cell? ⟨F, 2, none⟩ = some (.int .i64 mem) ∧ wr.cell? ⟨F, 3, none⟩ = some (.int .i64 (msgLk (linksTo p.S who t s.links p.nl).2)) ∧ wr.cell? ⟨F, 4, none⟩ = some (.int .i64 (msgSeq (linksTo p.S who t s.links p.nl).2)) ∧ wr.cell? ⟨F, 5, none⟩ = some (.string (msgDat (linksTo p.S who t s.links p.nl).2)))) := by
        obtain ⟨e1, h2⟩ := HI.out
        obtain ⟨hz, hFO, f0, f1, f2, f3, f4, f5⟩ := HFx.out
        rw [hkn, ← HNL.out] at e1 h2
        rw [e1]
        have bx := fun j => h2.box hF hFO j
        obtain ⟨O', q1, q2⟩ := h2
        exact ⟨⟨O', q1.under F, fun y => by
          rcases q1.fresh F y with q | q
          · exact hFO q
          · omega, q2⟩, (bx 0).trans f0, (bx 1).trans f1, (bx 2).trans f2, (bx 3).trans f3, (bx 4).trans f4, (bx 5).trans f5⟩
      have kk : decide (k < nl) = false := decide_eq_false (by omega)
      clear hkn hlt HI
      go_wp2
      exact bodyPost_end (v := .tuple #[]) (by simp [results, Tryz.results44, go_sem]) rfl ⟨rfl, HD.out⟩
end
end Go.Proofs.YtdmokcnoljlogaaGreatDoor
