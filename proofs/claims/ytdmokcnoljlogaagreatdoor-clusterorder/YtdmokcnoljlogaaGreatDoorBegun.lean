/- The statements' word 'begun', over the contracts of a cluster (ahead of stage 9). -/
import Derived.Test.YtdmokcnoljlogaaGreatDoorWordsB
import Derived.RegionTactic
namespace Go.Proofs.YtdmokcnoljlogaaGreatDoor
open Go.RowKit

/-- The clocks that begun makes. -/
def begL (cs : List Int) (skew : Int) (k : Nat) : List Int := (List.range k).map fun i => if i < cs.length then pk (cs.getD i 0) (skew + 1) else 0
theorem begL_succ (cs : List Int) (skew : Int) (k : Nat) : begL cs skew (k + 1) = begL cs skew k ++ [if k < cs.length then pk (cs.getD k 0) (skew + 1) else 0] := by simp [begL, List.range_succ]
theorem begL_len (cs : List Int) (skew : Int) (k : Nat) : (begL cs skew k).length = k := by simp [begL]

/-- Whom begun takes as faulty, node by node. -/
def begStep (f : Int) (q : Nat) (s : Int × Int) : Int × Int := if (bits BinOp.and .i64 (s.1 / 2 ^ q) 1 == 1) = true then (if s.2 + 1 ≤ f then (s.1, s.2 + 1) else (bits BinOp.andNot .i64 s.1 (wrap64 (2 ^ q)), s.2 + 1)) else s
def begF (f x0 : Int) : Nat → Int × Int
  | 0 => (x0, 0)
  | q + 1 => begStep f q (begF f x0 q)
def begFa (p : PlanN) (fa : Int) : Int := (begF p.faulty (pk fa (2 ^ p.n)) p.n).1
theorem i64_in (y : Int) : -9223372036854775808 ≤ IntKind.i64.wrap y ∧ IntKind.i64.wrap y ≤ 9223372036854775807 := by
  simp [IntKind.wrap, IntKind.bits, IntKind.signed]; omega
theorem begF_in {f x0 : Int} (h : -9223372036854775808 ≤ x0 ∧ x0 ≤ 9223372036854775807) : ∀ q, -9223372036854775808 ≤ (begF f x0 q).1 ∧ (begF f x0 q).1 ≤ 9223372036854775807 := by
  intro q
  induction q with
  | zero => exact h
  | succ q ih =>
    show -9223372036854775808 ≤ (begStep f q (begF f x0 q)).1 ∧ (begStep f q (begF f x0 q)).1 ≤ 9223372036854775807
    unfold begStep
    by_cases t1 : (bits BinOp.and .i64 ((begF f x0 q).1 / 2 ^ q) 1 == 1) = true
    · rw [if_pos t1]
      by_cases t2 : (begF f x0 q).2 + 1 ≤ f
      · rw [if_pos t2]; exact ih
      · rw [if_neg t2]; exact i64_in _
    · rw [if_neg t1]; exact ih
theorem owns_introw {w : World} {base n : Nat} {v : Value} {l : List Int} (h : w.ownsRow base 3 1 v n (l.map (Value.int .i64))) : ∃ a cap, v = .slice a l.length cap ∧ IntRow w a l ∧ l.length = n := by
  have hl : l.length = n := by have := h.1; simpa using this
  rcases h.2 with ⟨rfl, h0⟩ | ⟨g, cap, cur, rfl, hg, hh, _⟩
  · refine ⟨none, 0, by rw [hl, h0], fun q => absurd q (by omega), hl⟩
  · have hlt : g < w.heap.size := by
      rcases Nat.lt_or_ge g w.heap.size with q | q
      · exact q
      · rw [Array.getElem?_eq_none q] at hh; cases hh
    refine ⟨_, cap, by rw [hl], fun _ => ⟨g, 0, rfl, hlt, fun j hj => ?_⟩, hl⟩
    have := h.cells (g := g) rfl j (.int .i64 (l.getD j 0)) (by simp [List.getD, List.getElem?_eq_getElem hj])
    rw [add_at] at this
    exact this
theorem pw_two (n : Nat) (h1 : 1 ≤ n) (h2 : n ≤ 16) : 2 ≤ (2 : Int) ^ n ∧ (2 : Int) ^ n ≤ 65536 := by
  have : n = 1 ∨ n = 2 ∨ n = 3 ∨ n = 4 ∨ n = 5 ∨ n = 6 ∨ n = 7 ∨ n = 8 ∨ n = 9 ∨ n = 10 ∨ n = 11 ∨ n = 12 ∨ n = 13 ∨ n = 14 ∨ n = 15 ∨ n = 16 := by omega
  rcases this with rfl | rfl | rfl | rfl | rfl | rfl | rfl | rfl | rfl | rfl | rfl | rfl | rfl | rfl | rfl | rfl <;> decide

/-- A plan's box. -/
theorem plan_box (p : PlanN) (a : PlanAt) (w V : World) (t : TypeId) (hV : w.alloc (.cells #[.int .i64 p.nodes, .int .i64 p.faulty, .int .i64 p.skew, .int .i64 p.jitter, .int .i64 p.drift, .int .i64 p.round, .slice a.sa p.ns a.sc, .slice a.la p.nl a.lc, .int .i64 p.frame, .slice a.wa p.nw a.wc] t) = V) :
    (V.cell? ⟨w.heap.size, 0, none⟩ = some (.int .i64 p.nodes) ∧ V.cell? ⟨w.heap.size, 1, none⟩ = some (.int .i64 p.faulty) ∧ V.cell? ⟨w.heap.size, 2, none⟩ = some (.int .i64 p.skew) ∧ V.cell? ⟨w.heap.size, 3, none⟩ = some (.int .i64 p.jitter) ∧ V.cell? ⟨w.heap.size, 4, none⟩ = some (.int .i64 p.drift) ∧ V.cell? ⟨w.heap.size, 5, none⟩ = some (.int .i64 p.round) ∧ V.cell? ⟨w.heap.size, 6, none⟩ = some (.slice a.sa p.ns a.sc) ∧ V.cell? ⟨w.heap.size, 7, none⟩ = some (.slice a.la p.nl a.lc) ∧ V.cell? ⟨w.heap.size, 8, none⟩ = some (.int .i64 p.frame) ∧ V.cell? ⟨w.heap.size, 9, none⟩ = some (.slice a.wa p.nw a.wc)) ∧ Below w.heap.size w V ∧ V.heap.size = w.heap.size + 1 := by
  subst hV
  refine ⟨⟨?_, ?_, ?_, ?_, ?_, ?_, ?_, ?_, ?_, ?_⟩, (Below.refl _ _).alloc (Nat.le_refl _) _, by simp⟩ <;> simp

set_option maxRecDepth 100000 in
set_option maxHeartbeats 4000000 in
theorem begun_any {Clu : World → List Nat → Nat → PlanN → Int → List Int → ClS → Int → Nat → Prop} (ops : CluOps Clu) (p : PlanN) (a : PlanAt) (fa : Int) (ca : Option Addr) (cap : Nat) (cs : List Int) (w : World) (hp : p.In a w) (hc : IntRow w ca cs) (hl : cs.length ≤ 9223372036854775807) :
    Calls Tryz.prog 7 #[p.val a, .int .i64 fa, .slice ca cs.length cap] w fun e w' => Below w.heap.size w w' ∧ (e = .returned (.pointer none) ∨ ∃ O C, e = .returned (.pointer (some ⟨C, 0, none⟩)) ∧ Clu w' O C p (begFa p fa) (begL cs p.skew p.n) ClS.start 0 0 ∧ ∀ c, c ∈ O → w.heap.size ≤ c) := by
  obtain ⟨V, hV⟩ : ∃ V, w.alloc (.cells #[.int .i64 p.nodes, .int .i64 p.faulty, .int .i64 p.skew, .int .i64 p.jitter, .int .i64 p.drift, .int .i64 p.round, .slice a.sa p.ns a.sc, .slice a.la p.nl a.lc, .int .i64 p.frame, .slice a.wa p.nw a.wc] 26) = V := ⟨_, rfl⟩
  obtain ⟨⟨x0, x1, x2, x3, x4, x5, x6, x7, x8, x9⟩, hB, hVs⟩ := plan_box p a w V _ hV
  obtain ⟨E, I, hE, hK⟩ := ops.chk p a V (hp.below hB)
  have HE : Hid (p.Is E I) := hE
  have HP : Hid (p.In a V) := hp.below hB
  have HC : Hid (IntRow V ca cs) := hc.below hB
  have HB : Hid (Below w.heap.size w V) := hB
  have l0 := hp.ls
  have l1 := hp.ll
  have l2 := hp.lw
  have hV0 : w.heap.size < V.heap.size := by omega
  have HOp : Hid (CluOps Clu) := ops
  clear hE hp hc hB ops
  unfold PlanN.val at hK ⊢
  have HVal : Hid (p.val a = .agg #[.int .i64 p.nodes, .int .i64 p.faulty, .int .i64 p.skew, .int .i64 p.jitter, .int .i64 p.drift, .int .i64 p.round, .slice a.sa p.ns a.sc, .slice a.la p.nl a.lc, .int .i64 p.frame, .slice a.wa p.nw a.wc]) := rfl
  generalize hnodes : p.nodes = nodes at *
  generalize hfaulty : p.faulty = faulty at *
  generalize hskew : p.skew = skew at *
  generalize hns : p.ns = ns at *
  generalize hnl : p.nl = nl at *
  generalize hnw : p.nw = nw at *
  generalize p.jitter = jitter at *
  generalize p.drift = drift at *
  generalize p.round = round at *
  generalize p.frame = frame at *
  generalize a.sa = sa at *
  generalize a.sc = sc at *
  generalize a.la = la at *
  generalize a.lc = lc at *
  generalize a.wa = wa at *
  generalize a.wc = wc at *
  have HNo : Hid (p.nodes = nodes ∧ p.faulty = faulty ∧ p.skew = skew) := ⟨hnodes, hfaulty, hskew⟩
  clear hns hnl hnw
  obtain ⟨len, hlen⟩ : ∃ len, cs.length = len := ⟨_, rfl⟩
  have HLen : Hid (cs.length = len) := hlen
  rw [hlen] at hl ⊢
  clear hlen
  obtain ⟨X, hX⟩ : ∃ X, wrap64 (wrap64 ((ns : Int) + (nl : Int)) + (nw : Int)) = X := ⟨_, rfl⟩
  by_cases k1 : 100 < X
  · clear hK
    go_enter Tryz.func7, Tryz.ntmps7
    go_wp2
    go_ret
    exact ⟨HB.out, .inl rfl⟩
  have k1' : decide (100 < X) = false := decide_eq_false k1
  clear k1
  go_enter Tryz.func7, Tryz.ntmps7
  go_wp2_with fail
  refine hK.mono ?_
  rintro e u ⟨VE, rfl, hEr, hu⟩
  clear hK
  have HBu : Hid (Below w.heap.size w u) := HB.out.trans (hu.mono HB.out.size)
  by_cases hz : E = 0
  rotate_left
  · rcases hEr with ⟨_, q, _⟩ | ⟨rfl, _, _⟩ | ⟨b, rfl, _, _, _⟩
    · exact absurd q hz
    · clear hz
      go_wp2
      go_ret
      exact ⟨HBu.out, .inl rfl⟩
    · clear hz
      go_wp2
      go_ret
      exact ⟨HBu.out, .inl rfl⟩
  subst hz
  obtain ⟨rfl⟩ : VE = .nilIface := by
    rcases hEr with ⟨q, _, _⟩ | ⟨_, q, _⟩ | ⟨b, _, q, _, _⟩
    · exact q
    · exact absurd rfl q
    · exact absurd rfl q
  have HPB : Hid (PlanB p) := HE.out.bounds
  have b0 := HPB.out.n1
  have b1 := HPB.out.n2
  have b2 := HPB.out.s0
  have b3 := HPB.out.s1
  have b4 := HPB.out.f0
  have b5 := HPB.out.f3
  rw [hnodes] at b0 b1 b5
  rw [hskew] at b2 b3
  rw [hfaulty] at b4 b5
  clear hnodes hfaulty hskew
  have hsz := hu.size
  have HIu : Hid (p.In a u) := HP.out.below hu
  have HCu : Hid (IntRow u ca cs) := HC.out.below hu
  replace x0 := keep_cell x0 hu
  replace x1 := keep_cell x1 hu
  replace x2 := keep_cell x2 hu
  replace x3 := keep_cell x3 hu
  replace x4 := keep_cell x4 hu
  replace x5 := keep_cell x5 hu
  replace x6 := keep_cell x6 hu
  replace x7 := keep_cell x7 hu
  replace x8 := keep_cell x8 hu
  replace x9 := keep_cell x9 hu
  have hu0 : w.heap.size < u.heap.size := by omega
  clear hEr hu HB HP HC hV hVs hV0
  obtain ⟨n, rfl⟩ : ∃ n : Nat, nodes = n := ⟨nodes.toNat, by omega⟩
  obtain ⟨i0, hi, hz0, hz1, hz2⟩ := info_parts Tryz.infoInt
  go_wp2_with fail
  go_loopw [7, 8] (fun lv t wr => ∃ k : Nat, k ≤ n ∧ t = .int .i64 k ∧ Hid (wr.ownsRow u.heap.size 3 1 lv k ((begL cs skew k).map (Value.int .i64))) ∧ Hid (Below u.heap.size u wr)) (fun _ t _ => n - (intOf t).toNat)
  case atStart => exact ⟨0, Nat.zero_le _, rfl, World.ownsRow_nil _ _ _ _, Below.refl _ _⟩
  case round =>
    obtain ⟨k, hk, rfl, hown, hbe⟩ := hrel
    have y0 := keep_cell x0 hbe.out
    have y2 := keep_cell x2 hbe.out
    have hs0 := hbe.out.size
    by_cases hlt : k < n
    · have HS : Hid (begL cs skew (k + 1) = begL cs skew k ++ [if k < cs.length then pk (cs.getD k 0) (skew + 1) else 0]) := begL_succ cs skew k
      rw [HLen.out] at HS
      by_cases hkl : k < len
      · rw [if_pos hkl] at HS
        obtain ⟨b, off, rfl, hb, hc⟩ := HCu.out (by rw [HLen.out]; omega)
        have z0 := hc k (by rw [HLen.out]; omega)
        have z1 := (hbe.out.cell (p := ⟨b, off + k, none⟩) hb).trans z0
        have hbw : b < wr.heap.size := by omega
        have hpk := fun u => pick_any (cs.getD k 0) (skew + 1) (by omega) (by omega) u
        have kk : (k : Int) < (len : Int) := by omega
        have kn : (k : Int) < (n : Int) := by omega
        generalize pk (cs.getD k 0) (skew + 1) = X1 at *
        generalize cs.getD k 0 = CK at *
        clear hc z0 x0 x1 x2 x3 x4 x5 x6 x7 x8 x9 HPB HNo HIu HE HOp HBu HCu HVal
        go_wp2_with fail
        go_quiet ((go_at_call 13; exact Calls.quiet_of_same (hpk _)))
        have hOq : (wr.drewN nq).ownsRow u.heap.size 3 1 u7 k ((begL cs skew k).map (Value.int .i64)) := hown.out
        go_wp2_with (at_builtin; refine wpList_append_own _ rfl _ _ 27 rfl u.heap.size 3 i0 (.int .i64 0) 1 8 Tryz.underlying27 hi hz0 hz1 hz2 rfl (by decide) u7 _ _ rfl (hOq.alloc _) ⟨wr.heap.size, 0, none⟩ 1 1 [.int .i64 X1] rfl rfl (cell_one_new _ _ _) (ints_one [X1]) (by unfold maxLen; omega) (by omega) (by simp; omega) ?_; intro v' w3 hown' hgrow hnil)
        have hb3 : Below u.heap.size u w3 := ((hbe.out.trans (⟨rfl, rfl, rfl, Nat.le_refl _, fun _ _ => rfl⟩ : Below u.heap.size wr (wr.drewN nq))).alloc hs0 _).grown hgrow (by simp; omega) (fun g hg => (hown.out.lt g hg).1)
        refine ⟨⟨k + 1, by omega, by go_num, by show _; rw [HS.out, List.map_append]; exact hown', hb3⟩, ?_⟩
        simp [intOf]; omega
      · rw [if_neg hkl] at HS
        have kk : decide ((k : Int) < (len : Int)) = false := decide_eq_false (by omega)
        have kn : (k : Int) < (n : Int) := by omega
        have hO := hown.out
        clear x0 x1 x2 x3 x4 x5 x6 x7 x8 x9 HPB HNo HIu HE HOp HBu HCu HVal
        go_wp2_with (at_builtin; refine wpList_append_own _ rfl _ _ 27 rfl u.heap.size 3 i0 (.int .i64 0) 1 8 Tryz.underlying27 hi hz0 hz1 hz2 rfl (by decide) u7 _ _ rfl (hO.alloc _) ⟨wr.heap.size, 0, none⟩ 1 1 [.int .i64 0] rfl rfl (cell_one_new _ _ _) (ints_one [0]) (by unfold maxLen; omega) (by omega) (by simp; omega) ?_; intro v' w3 hown' hgrow hnil)
        have hb3 : Below u.heap.size u w3 := (hbe.out.alloc hs0 _).grown hgrow (by simp; omega) (fun g hg => (hown.out.lt g hg).1)
        refine ⟨⟨k + 1, by omega, by go_num, by show _; rw [HS.out, List.map_append]; exact hown', hb3⟩, ?_⟩
        simp [intOf]; omega
    · have hkn : k = n := by omega
      subst hkn
      have kk : decide (k < k) = false := decide_eq_false (by omega)
      have hpw : 2 ≤ (2 : Int) ^ k ∧ (2 : Int) ^ k ≤ 65536 := pw_two k (by omega) (by omega)
      have hpk := fun u => pick_any fa (2 ^ k) (by omega) (by omega) u
      have y1 := keep_cell x1 hbe.out
      rename World => wq
      have y3 := keep_cell x3 hbe.out
      have y4 := keep_cell x4 hbe.out
      have y5 := keep_cell x5 hbe.out
      have y6 := keep_cell x6 hbe.out
      have y7 := keep_cell x7 hbe.out
      have y8 := keep_cell x8 hbe.out
      have y9 := keep_cell x9 hbe.out
      clear x0 x1 x2 x3 x4 x5 x6 x7 x8 x9 hlt hk
      generalize hPW : (2 : Int) ^ k = PW at *
      go_wp2_with fail
      refine (hpk _).mono ?_
      rintro ev w1 ⟨rfl, hq⟩
      replace hq := hq.symm
      subst hq
      clear hpk
      go_wp2_with fail
      have hpi := pk_in (a := fa) (n := PW) (by omega)
      generalize hx0 : pk fa PW = x0 at *
      go_loopw [1, 10, 11] (fun fv mv t wr => ∃ (q : Nat) (x m : Int), q ≤ k ∧ t = .int .i64 q ∧ fv = .int .i64 x ∧ mv = .int .i64 m ∧ 0 ≤ m ∧ m ≤ q ∧ Hid (begF faulty x0 q = (x, m)) ∧ wr = wq) (fun _ _ t _ => k - (intOf t).toNat)
      case atStart => exact ⟨0, x0, 0, Nat.zero_le _, rfl, rfl, rfl, Int.le_refl _, Int.le_refl _, rfl, rfl⟩
      case round =>
        obtain ⟨q, x, m, hq, rfl, rfl, rfl, hm0, hm1, hF, rfl⟩ := hrel
        by_cases hlt : q < k
        · have kq : (q : Int) < (k : Int) := by omega
          have HS : Hid (begF faulty x0 (q + 1) = begStep faulty q (x, m)) := by show begStep faulty q (begF faulty x0 q) = _; rw [hF.out]
          by_cases t1 : (bits BinOp.and IntKind.i64 (x / 2 ^ q) 1 == 1) = true
          · by_cases t2 : m + 1 ≤ faulty
            · have HE2 : Hid (begF faulty x0 (q + 1) = (x, m + 1)) := by show _ = _; rw [HS.out]; unfold begStep; rw [if_pos t1, if_pos t2]
              clear HS hF
              go_wp2_with fail
              exact ⟨⟨q + 1, x, m + 1, by omega, by go_num, rfl, rfl, by omega, by omega, HE2, trivial⟩, by simp [intOf]; omega⟩
            · have HE2 : Hid (begF faulty x0 (q + 1) = (bits BinOp.andNot IntKind.i64 x (wrap64 (2 ^ q)), m + 1)) := by show _ = _; rw [HS.out]; unfold begStep; rw [if_pos t1, if_neg t2]
              have t2' : decide (m + 1 ≤ faulty) = false := decide_eq_false t2
              have t3 : faulty < m + 1 := by omega
              clear HS hF t2
              go_wp2_with fail
              exact ⟨⟨q + 1, _, m + 1, by omega, by go_num, rfl, rfl, by omega, by omega, HE2, trivial⟩, by simp [intOf]; omega⟩
          · have t1' : (bits BinOp.and IntKind.i64 (x / 2 ^ q) 1 == 1) = false := by simpa using t1
            have HE2 : Hid (begF faulty x0 (q + 1) = (x, m)) := by show _ = _; rw [HS.out]; unfold begStep; rw [if_neg t1]
            clear HS hF t1
            go_wp2_with fail
            exact ⟨⟨q + 1, x, m, by omega, by go_num, rfl, rfl, by omega, by omega, HE2, trivial⟩, by simp [intOf]; omega⟩
        · have hqk : q = k := by omega
          subst hqk
          have kk2 : decide (q < q) = false := decide_eq_false (by omega)
          have HFx : Hid (begFa p fa = x ∧ p.skew = skew ∧ p.n = q) := by
            obtain ⟨h1, h2, h3⟩ := HNo.out
            have e1 : p.n = q := by unfold PlanN.n; rw [h1]; omega
            refine ⟨?_, h3, e1⟩
            unfold begFa
            rw [e1, h2, hPW, hx0, hF.out]
          obtain ⟨va, vcap, rfl, hir, hlen2⟩ := owns_introw hown.out
          rw [begL_len] at *
          have hxin := begF_in (f := faulty) (x0 := x0) ⟨by omega, by omega⟩ q
          rw [hF.out] at hxin
          have hN := HOp.out.new p a x va vcap (begL cs skew q) wr (HIu.out.below hbe.out) hir (by rw [begL_len]; omega) hxin.1 hxin.2
          clear hxin
          rw [HVal.out, begL_len] at hN
          have HBw : Hid (Below w.heap.size w wr) := HBu.out.trans (hbe.out.mono HBu.out.size)
          have hws := HBw.out.size
          clear hir hlen2 HVal HIu HCu
          go_wp2_with fail
          refine hN.mono ?_
          rintro ev w2 ⟨hb2, K, I2, hNew, hr⟩
          have HB2 : Hid (Below w.heap.size w w2) := HBw.out.trans (hb2.mono hws)
          clear hN
          rcases hr with ⟨hK0, EV, rfl, hEr⟩ | ⟨_, O, C, rfl, hC, hO⟩
          · rcases hEr with ⟨_, q0, _⟩ | ⟨rfl, _, _⟩ | ⟨b, rfl, _, _, _⟩
            · exact absurd q0 hK0
            · clear hNew
              go_wp2
              go_ret
              exact ⟨HB2.out, .inl rfl⟩
            · clear hNew
              go_wp2
              go_ret
              exact ⟨HB2.out, .inl rfl⟩
          · have HCl : Hid (Clu w2 O C p (begFa p fa) (begL cs skew p.n) ClS.start 0 0 ∧ ∀ c, c ∈ O → w.heap.size ≤ c) := ⟨by rw [HFx.out.1, HFx.out.2.2]; exact hC, fun c hc => Nat.le_trans hws (hO c hc)⟩
            clear hNew hC hO
            go_wp2
            go_ret
            exact ⟨HB2.out, .inr ⟨O, C, rfl, HCl.out.1, HCl.out.2⟩⟩
end Go.Proofs.YtdmokcnoljlogaaGreatDoor
