/- The program's cluster: New (10.1). -/
import Derived.Test.YtdmokcnoljlogaaGreatDoorWordsH
import Derived.Test.YtdmokcnoljlogaaGreatDoorPCluC1
import Derived.Test.YtdmokcnoljlogaaGreatDoorPCluF2
import Derived.Test.YtdmokcnoljlogaaGreatDoorPCluOnes
import Derived.Test.YtdmokcnoljlogaaGreatDoorPCluB
import Derived.Deep.DeepCutAuto
namespace Go.Proofs.YtdmokcnoljlogaaGreatDoor
open Go.RowKit

/-- What New answers. -/
def NewPost (w : World) (p : PlanN) (fa : Int) (cs : List Int) (e : Ending) (w' : World) : Prop :=
  Below w.heap.size w w' ∧ ∃ K I, NewIs p fa cs K I ∧ ((K ≠ 0 ∧ ∃ E, e = .returned (.tuple #[.pointer none, E]) ∧ ErrIs w' E K I) ∨ (K = 0 ∧ ∃ O C m, e = .returned (.tuple #[.pointer (some ⟨C, 0, none⟩), .nilIface]) ∧ Cl w' O C p fa cs ClS.start 0 1 m ∧ ∀ c, c ∈ O → w.heap.size ≤ c))

/-- Whether too many are faulty, or such as are no nodes. -/
def faBad (p : PlanN) (fa : Int) : Bool := decide (p.faulty < onesV (IntKind.u64.wrap fa)) || (bits BinOp.andNot .i64 fa (2 ^ p.n - 1) != 0)
theorem faBad_is {p : PlanN} {fa : Int} (hB : PlanB p) (h0 : -9223372036854775808 ≤ fa) (h1 : fa ≤ 9223372036854775807) : faBad p fa = false ↔ (0 ≤ fa ∧ fa < 2 ^ p.n ∧ (List.range p.n).countP (bitI fa) ≤ p.faulty.toNat) := by
  have hn16 : p.n ≤ 16 := by have := hB.n2; unfold PlanN.n; omega
  have hf := hB.f0
  unfold faBad
  rw [rest_bits hn16 h0 (by omega)]
  by_cases hin : 0 ≤ fa ∧ fa < 2 ^ p.n
  · obtain ⟨x, hx⟩ : ∃ x : Nat, fa = x := ⟨fa.toNat, by omega⟩
    subst hx
    have hlt : x < 2 ^ p.n := by
      have h := hin.2
      have e : ((2 : Int) ^ p.n) = ((2 ^ p.n : Nat) : Int) := by simp
      rw [e] at h
      exact_mod_cast h
    have hx6 : x < 65536 := Nat.lt_of_lt_of_le hlt (Nat.pow_le_pow_right (n := 2) (by decide) hn16)
    have hw : IntKind.u64.wrap (x : Int) = (x : Int) := by
      simp [IntKind.wrap, IntKind.bits, IntKind.signed]; omega
    rw [hw, ones_small hn16 hlt]
    simp only [hin, decide_true, Bool.not_true, Bool.or_false, decide_eq_false_iff_not, and_self, true_and]
    omega
  · simp only [hin, decide_false, Bool.not_false, Bool.or_true, Bool.true_eq_false, false_iff]
    intro y
    exact hin ⟨y.1, y.2.1⟩

theorem box10n (w : World) (a b c d e f g h i j : Value) (t : TypeId) (V : World) (hV : w.alloc (.cells #[a, b, c, d, e, f, g, h, i, j] t) = V) :
    ((V.cell? ⟨w.heap.size, 0, none⟩ = some a ∧ V.cell? ⟨w.heap.size, 1, none⟩ = some b ∧ V.cell? ⟨w.heap.size, 2, none⟩ = some c ∧ V.cell? ⟨w.heap.size, 3, none⟩ = some d ∧ V.cell? ⟨w.heap.size, 4, none⟩ = some e) ∧ V.cell? ⟨w.heap.size, 5, none⟩ = some f ∧ V.cell? ⟨w.heap.size, 6, none⟩ = some g ∧ V.cell? ⟨w.heap.size, 7, none⟩ = some h ∧ V.cell? ⟨w.heap.size, 8, none⟩ = some i ∧ V.cell? ⟨w.heap.size, 9, none⟩ = some j) ∧ Below w.heap.size w V ∧ V.heap.size = w.heap.size + 1 := by
  subst hV
  exact ⟨⟨⟨by simp, by simp, by simp, by simp, by simp⟩, by simp, by simp, by simp, by simp, by simp⟩, (Below.refl _ _).alloc (Nat.le_refl _) _, by simp⟩

/-- The struct and its clocks, as New lays them. -/
structure Born1 (V wx : World) (p : PlanN) (a : PlanAt) (fa : Int) (cs : List Int) (n C cb ccap : Nat) : Prop where
  bel : Below V.heap.size V wx
  cel : ∀ (i : Nat) (u : Value), (#[.int .i64 n, .int .i64 p.faulty, .int .i64 p.skew, .int .i64 p.jitter, .int .i64 p.drift, .int .i64 p.round, .slice a.sa p.ns a.sc, .slice a.la p.nl a.lc, .int .i64 p.frame, .slice a.wa p.nw a.wc, .int .i64 fa, .slice (some ⟨cb, 0, none⟩) n ccap, .int .i64 0, .slice none 0 0, .slice none 0 0] : Array Value)[i]? = some u → wx.cell? ⟨C, i, none⟩ = some u
  z : ∀ i, wx.frozen? ⟨C, i, none⟩ = false
  lC : C < wx.heap.size
  lc : V.heap.size ≤ cb ∧ cb < C
  ck : ∀ j, j < cs.length → wx.cell? ⟨cb, j, none⟩ = some (.int .i64 (cs.getD j 0))
theorem Born1.drew {V wx : World} {p : PlanN} {a : PlanAt} {fa : Int} {cs : List Int} {n C cb ccap : Nat} (h : Born1 V wx p a fa cs n C cb ccap) : Born1 V wx.drew p a fa cs n C cb ccap := ⟨h.bel.drew, h.cel, h.z, h.lC, h.lc, h.ck⟩
theorem Born1.of {V v3 : World} {p : PlanN} {a : PlanAt} {fa : Int} {cs : List Int} {n cb ccap : Nat} (hb : Below V.heap.size V v3) (hc : V.heap.size ≤ cb ∧ cb < v3.heap.size) (ck : ∀ j, j < cs.length → v3.cell? ⟨cb, j, none⟩ = some (.int .i64 (cs.getD j 0))) {t : TypeId} :
    Born1 V (v3.alloc (.cells #[.int .i64 n, .int .i64 p.faulty, .int .i64 p.skew, .int .i64 p.jitter, .int .i64 p.drift, .int .i64 p.round, .slice a.sa p.ns a.sc, .slice a.la p.nl a.lc, .int .i64 p.frame, .slice a.wa p.nw a.wc, .int .i64 fa, .slice (some ⟨cb, 0, none⟩) n ccap, .int .i64 0, .slice none 0 0, .slice none 0 0] t)) p a fa cs n v3.heap.size cb ccap := by
  have k : ∀ o, Below v3.heap.size v3 (v3.alloc o) := fun o => (Below.refl _ _).alloc (Nat.le_refl _) _
  exact ⟨hb.trans ((k _).mono hb.size), fun i u hi => by simpa using hi, fun i => by simp, by simp, hc, fun j hj => ((k _).cell (p := ⟨cb, j, none⟩) hc.2).trans (ck j hj)⟩

/-- All that fill wants. -/
structure Born2 (V v : World) (C : Nat) (p : PlanN) (fa : Int) (cs : List Int) (cb ccap : Nat) (sa : Option Addr) (scap : Nat) (X0 : List Nat) : Prop where
  bel : Below V.heap.size V v
  hd : CHead v C p fa cs cb ccap sa scap X0
  z : ∀ i, v.frozen? ⟨C, i, none⟩ = false
  c13 : v.cell? ⟨C, 13, none⟩ = some (.slice none 0 0)
  c14 : v.cell? ⟨C, 14, none⟩ = some (.slice none 0 0)
  lC : V.heap.size ≤ C ∧ C < v.heap.size
  lX : ∀ c, c ∈ X0 → (V.heap.size ≤ c ∧ c < v.heap.size) ∧ c ≠ C
theorem Born2.below {V v v' : World} {C : Nat} {p : PlanN} {fa : Int} {cs : List Int} {cb ccap : Nat} {sa : Option Addr} {scap : Nat} {X0 : List Nat} (h : Born2 V v C p fa cs cb ccap sa scap X0) (k : Below v.heap.size v v') : Born2 V v' C p fa cs cb ccap sa scap X0 := by
  have cC : ∀ i, v'.cell? ⟨C, i, none⟩ = v.cell? ⟨C, i, none⟩ := fun i => k.cell (p := ⟨C, i, none⟩) h.lC.2
  have hs := k.size
  exact ⟨h.bel.trans (k.mono h.bel.size), h.hd.keep (fun i _ => cC i) (Same.of_below k (fun c hc => (h.lX c hc).1.2)), fun i => (k.frozen (p := ⟨C, i, none⟩) h.lC.2).trans (h.z i), (cC 13).trans h.c13, (cC 14).trans h.c14, ⟨h.lC.1, Nat.lt_of_lt_of_le h.lC.2 hs⟩, fun c hc => ⟨⟨(h.lX c hc).1.1, Nat.lt_of_lt_of_le (h.lX c hc).1.2 hs⟩, (h.lX c hc).2⟩⟩
theorem Born1.next {V wx v5 : World} {p : PlanN} {a : PlanAt} {fa : Int} {cs : List Int} {n C cb ccap : Nat} (h : Born1 V wx p a fa cs n C cb ccap) (hn : p.nodes = (n : Int)) (hl : cs.length = n) {a' : Option Addr} {cap' : Nat} (k : Below wx.heap.size wx v5) (hr : Rows3 v5 a' p.ns p.nd p.fr p.td) (hf : ∀ b off s, a' = some ⟨b, off, s⟩ → wx.heap.size ≤ b ∧ b < v5.heap.size) :
    ∃ X0, Born2 V (((v5.setCell ⟨C, 6, none⟩ (.slice a' p.ns cap')).setCell ⟨C, 7, none⟩ (.slice none 0 0)).setCell ⟨C, 9, none⟩ (.slice none 0 0)) C p fa cs cb ccap a' cap' X0 := by
  obtain ⟨v6, hv6⟩ : ∃ v6, ((v5.setCell ⟨C, 6, none⟩ (.slice a' p.ns cap')).setCell ⟨C, 7, none⟩ (.slice none 0 0)).setCell ⟨C, 9, none⟩ (.slice none 0 0) = v6 := ⟨_, rfl⟩
  rw [hv6]
  have hT : Turns C C v5 v6 := by rw [← hv6]; exact (((Turns.refl _ _ v5).set (p := ⟨C, 6, none⟩) (.inl rfl) _).set (p := ⟨C, 7, none⟩) (.inl rfl) _).set (p := ⟨C, 9, none⟩) (.inl rfl) _
  have s5 := k.size
  have s6 := hT.size
  have hVs := h.bel.size
  have hlC := h.lC
  have hlc := h.lc
  have cc : ∀ i u, (#[.int .i64 n, .int .i64 p.faulty, .int .i64 p.skew, .int .i64 p.jitter, .int .i64 p.drift, .int .i64 p.round, .slice a.sa p.ns a.sc, .slice a.la p.nl a.lc, .int .i64 p.frame, .slice a.wa p.nw a.wc, .int .i64 fa, .slice (some ⟨cb, 0, none⟩) n ccap, .int .i64 0, .slice none 0 0, .slice none 0 0] : Array Value)[i]? = some u → i ≠ 6 → i ≠ 7 → i ≠ 9 → v6.cell? ⟨C, i, none⟩ = some u := fun i u hi h6 h7 h9 => by
    rw [← hv6, cell_other (.inr h9), cell_other (.inr h7), cell_other (.inr h6)]
    exact (k.cell (p := ⟨C, i, none⟩) hlC).trans (h.cel i u hi)
  have c6 : v6.cell? ⟨C, 6, none⟩ = some (.slice a' p.ns cap') := by
    rw [← hv6, cell_other (.inr (by decide)), cell_other (.inr (by decide))]
    exact cell_set ((k.cell (p := ⟨C, 6, none⟩) hlC).trans (h.cel 6 _ rfl))
  have hb : ∀ b, b < v5.heap.size → b ≠ C → ∀ i, v6.cell? ⟨b, i, none⟩ = v5.cell? ⟨b, i, none⟩ := fun b hb hn i => hT.cell (p := ⟨b, i, none⟩) hb hn hn
  refine ⟨cb :: (a'.map Addr.block).toList, ?_, ?_, fun i => ?_, cc 13 _ rfl (by decide) (by decide) (by decide), cc 14 _ rfl (by decide) (by decide) (by decide), ⟨by omega, by omega⟩, fun c hc => ?_⟩
  · exact (h.bel.trans (k.mono hVs)).trans (hT.below (by omega) (by omega) (by omega))
  · refine ⟨by rw [hn]; exact cc 0 _ rfl (by decide) (by decide) (by decide), cc 1 _ rfl (by decide) (by decide) (by decide), cc 3 _ rfl (by decide) (by decide) (by decide), cc 4 _ rfl (by decide) (by decide) (by decide), cc 5 _ rfl (by decide) (by decide) (by decide), c6, cc 10 _ rfl (by decide) (by decide) (by decide), by rw [hl]; exact cc 11 _ rfl (by decide) (by decide) (by decide), cc 12 _ rfl (by decide) (by decide) (by decide), fun j hj => ?_, List.mem_cons_self, fun h0 => ?_⟩
    · rw [hb cb (by omega) (by omega)]
      exact (k.cell (p := ⟨cb, j, none⟩) (by show cb < _; omega)).trans (h.ck j hj)
    · obtain ⟨b, off, e, hbl, hc⟩ := hr h0
      have hbb := hf b off none e
      refine ⟨b, off, e, by rw [e]; exact List.mem_cons_of_mem _ (List.mem_singleton.2 rfl), fun i hi => ?_⟩
      rw [hb b hbl (by omega), hb b hbl (by omega), hb b hbl (by omega)]
      exact hc i hi
  · rw [← hv6]; exact (soft_set.trans (soft_set.trans soft_set)).trans ((k.frozen (p := ⟨C, i, none⟩) hlC).trans (h.z i))
  · rcases List.mem_cons.1 hc with y | y
    · omega
    · cases ha : a' with
      | none => rw [ha] at y; simp at y
      | some ad =>
        rw [ha] at y
        have hcb : c = ad.block := by simpa using y
        have := hf ad.block ad.off ad.spot (by rw [ha])
        omega

set_option maxRecDepth 100000 in
set_option maxHeartbeats 4000000 in
theorem cnew_any (hchk : ∀ (p : PlanN) (a : PlanAt) (w : World), p.In a w → ∃ E I, p.Is E I ∧ Calls Tryz.prog 16 #[p.val a] w fun e w' => ∃ V, e = .returned V ∧ ErrIs w' V E I ∧ Below w.heap.size w w') (p : PlanN) (a : PlanAt) (fa : Int) (ca : Option Addr) (cap : Nat) (cs : List Int) (w : World) (hIn : p.In a w) (hC : IntRow w ca cs) (f0 : -9223372036854775808 ≤ fa) (f1 : fa ≤ 9223372036854775807) :
    Calls Tryz.prog 14 #[p.val a, .int .i64 fa, .slice ca cs.length cap] w fun e w' => NewPost w p fa cs e w' := by
  unfold PlanN.val at hchk ⊢
  obtain ⟨V, hV⟩ : ∃ V, w.alloc (.cells #[.int .i64 p.nodes, .int .i64 p.faulty, .int .i64 p.skew, .int .i64 p.jitter, .int .i64 p.drift, .int .i64 p.round, .slice a.sa p.ns a.sc, .slice a.la p.nl a.lc, .int .i64 p.frame, .slice a.wa p.nw a.wc] 26) = V := ⟨_, rfl⟩
  obtain ⟨⟨⟨b0, b1, b2, b3, b4⟩, b5, b6, b7, b8, b9⟩, hBV, hVs⟩ := box10n w _ _ _ _ _ _ _ _ _ _ _ V hV
  obtain ⟨E, I, hIs, hck⟩ := hchk p a V (hIn.below hBV)
  have HIn : Hid (p.In a w ∧ IntRow w ca cs) := ⟨hIn, hC⟩
  have HBV : Hid (Below w.heap.size w V ∧ V.heap.size = w.heap.size + 1) := ⟨hBV, hVs⟩
  have hl0 : w.heap.size < V.heap.size := by omega
  clear hchk hIn hC hBV hVs
  go_enter Tryz.func14, Tryz.ntmps14
  go_wp2_with fail
  refine hck.mono ?_
  rintro e v1 ⟨EV, rfl, hErr, hB1⟩
  have HB1 : Hid (Below w.heap.size w v1 ∧ Below V.heap.size V v1) := ⟨HBV.out.1.trans (hB1.mono (by omega)), hB1⟩
  have HEr : Hid (ErrIs v1 EV E I) := hErr
  clear hV hck
  rcases hErr with ⟨rfl, he, hi⟩ | ⟨rfl, he, hi⟩ | ⟨b, rfl, he, c0, c1⟩
  · subst he hi
    have hPB := hIs.bounds
    have hn1 : 1 ≤ p.n := by have := hPB.n1; unfold PlanN.n; omega
    have hn16 : p.n ≤ 16 := by have := hPB.n2; unfold PlanN.n; omega
    have hnn : p.nodes = (p.n : Int) := by have := hPB.n1; unfold PlanN.n; omega
    have hns := hPB.ns
    have y0 := (hB1.cell (p := ⟨w.heap.size, 0, none⟩) hl0).trans b0
    have y1 := (hB1.cell (p := ⟨w.heap.size, 1, none⟩) hl0).trans b1
    rw [hnn] at y0
    have hl1 : w.heap.size < v1.heap.size := Nat.lt_of_lt_of_le hl0 hB1.size
    have hpw : 1 ≤ (2 : Int) ^ p.n ∧ (2 : Int) ^ p.n ≤ 65536 := pow17 p.n hn16
    have HFB : Hid (faBad p fa = false ↔ (0 ≤ fa ∧ fa < 2 ^ p.n ∧ (List.range p.n).countP (bitI fa) ≤ p.faulty.toNat)) := faBad_is hPB f0 f1
    have HFD : Hid (faBad p fa = (decide (p.faulty < onesV (IntKind.u64.wrap fa)) || (bits BinOp.andNot .i64 fa (2 ^ p.n - 1) != 0))) := rfl
    have HIs : Hid (p.Is 0 (-1)) := hIs
    have HPB : Hid (PlanB p) := hPB
    have HNN : Hid (p.nodes = (p.n : Int)) := hnn
    have hones := fun v => ones_any (IntKind.u64.wrap fa) (u64_in fa) v
    have hbit := fun v => cbit_any p.n hn16 v
    have H1 : Hid (∀ v, Below w.heap.size w v → faBad p fa = true → NewPost w p fa cs (.returned (.tuple #[.pointer none, .iface 39 (.int .i64 1)])) v) := fun v hv hb => by
      refine ⟨hv, 1, -1, .inr ⟨hIs, rfl, .inl ⟨fun y => ?_, rfl⟩⟩, .inl ⟨by decide, _, rfl, .inr (.inl ⟨rfl, by decide, rfl⟩)⟩⟩
      rw [HFB.out.2 y] at hb
      cases hb
    clear hIs hPB hB1 HEr
    generalize onesV (IntKind.u64.wrap fa) = oc at *
    obtain ⟨n, hpn⟩ : ∃ n, p.n = n := ⟨_, rfl⟩
    have HPN : Hid (p.n = n) := hpn
    rw [hpn] at hn1 hn16 y0 hpw HFD hbit
    generalize hpw2 : (2 : Int) ^ n = PW at hpw HFD hbit
    clear hpn hnn hpw2
    by_cases hA : p.faulty < oc
    · have kA : decide (p.faulty < oc) = true := decide_eq_true hA
      have HBd : Hid (faBad p fa = true) := by show _ = _; rw [HFD.out, kA]; rfl
      go_wp2_with fail
      go_quiet (first | (go_at_call 29; refine Calls.quiet_of_same (hones _)) | (go_at_call 30; refine Calls.quiet_of_same (hbit _)))
      go_wp2
      go_ret2
      exact H1.out _ (HB1.out.1.trans ⟨rfl, rfl, rfl, Nat.le_refl _, fun _ _ => rfl⟩) HBd.out
    · have kA : decide (p.faulty < oc) = false := decide_eq_false hA
      by_cases hR : (bits BinOp.andNot .i64 fa (PW - 1) != 0) = true
      · have HBd : Hid (faBad p fa = true) := by show _ = _; rw [HFD.out, kA, hR]; rfl
        go_wp2_with fail
        go_quiet (first | (go_at_call 29; refine Calls.quiet_of_same (hones _)) | (go_at_call 30; refine Calls.quiet_of_same (hbit _)))
        go_wp2
        go_ret2
        exact H1.out _ (HB1.out.1.trans ⟨rfl, rfl, rfl, Nat.le_refl _, fun _ _ => rfl⟩) HBd.out
      · have hR' : (bits BinOp.andNot .i64 fa (PW - 1) != 0) = false := by simpa using hR
        have HOk : Hid (0 ≤ fa ∧ fa < 2 ^ p.n ∧ (List.range p.n).countP (bitI fa) ≤ p.faulty.toNat) := HFB.out.1 (by rw [HFD.out, kA, hR']; rfl)
        clear hR
        go_wp2_with fail
        go_quiet (first | (go_at_call 29; refine Calls.quiet_of_same (hones _)) | (go_at_call 30; refine Calls.quiet_of_same (hbit _)))
        obtain ⟨v2, hv2⟩ : ∃ v2, v1.drewN nq = v2 := ⟨_, rfl⟩
        rw [hv2]
        have hB2 : Below V.heap.size V v2 := by rw [← hv2]; exact HB1.out.2.trans ⟨rfl, rfl, rfl, Nat.le_refl _, fun _ _ => rfl⟩
        have HBw2 : Hid (Below w.heap.size w v2) := by show Below _ _ _; rw [← hv2]; exact HB1.out.1.trans ⟨rfl, rfl, rfl, Nat.le_refl _, fun _ _ => rfl⟩
        rw [HNN.out, HPN.out] at b0
        have z0 := (hB2.cell (p := ⟨w.heap.size, 0, none⟩) hl0).trans b0
        have hl2 : w.heap.size < v2.heap.size := Nat.lt_of_lt_of_le hl0 hB2.size
        have HB2 : Hid (Below V.heap.size V v2) := hB2
        clear hv2 y0 y1 hl1 HB1 hones hbit H1 hB2 hR' kA hA
        by_cases hlen : cs.length = n
        · have kl : ((cs.length : Int) != (n : Int)) = false := by simp [hlen]
          have HLen : Hid (cs.length = n) := hlen
          have z1 := (HB2.out.cell (p := ⟨w.heap.size, 1, none⟩) hl0).trans b1
          have z2 := (HB2.out.cell (p := ⟨w.heap.size, 2, none⟩) hl0).trans b2
          have z3 := (HB2.out.cell (p := ⟨w.heap.size, 3, none⟩) hl0).trans b3
          have z4 := (HB2.out.cell (p := ⟨w.heap.size, 4, none⟩) hl0).trans b4
          have z5 := (HB2.out.cell (p := ⟨w.heap.size, 5, none⟩) hl0).trans b5
          have z6 := (HB2.out.cell (p := ⟨w.heap.size, 6, none⟩) hl0).trans b6
          have z7 := (HB2.out.cell (p := ⟨w.heap.size, 7, none⟩) hl0).trans b7
          have z8 := (HB2.out.cell (p := ⟨w.heap.size, 8, none⟩) hl0).trans b8
          have z9 := (HB2.out.cell (p := ⟨w.heap.size, 9, none⟩) hl0).trans b9
          have hclo := fun (q : Nat) => cloneC cs ca n cap hlen hn1 (by omega) (v2.drewN q) (HIn.out.2.below ⟨HBw2.out.os, HBw2.out.tape, HBw2.out.output, HBw2.out.size, HBw2.out.block⟩)
          rw [hlen]
          go_wp2_with fail
          go_cut [9] (fun cv wx => ∃ C cb ccap, cv = .pointer (some ⟨C, 0, none⟩) ∧ Hid (Born1 V wx p a fa cs n C cb ccap))
          case first =>
            clear b0 b1 b2 b3 b4 b5 b6 b7 b8 b9 hlen kl
            go_region_held3 (fun u => (u.cell? ⟨w.heap.size, 0, none⟩ = some (.int .i64 n) ∧ u.cell? ⟨w.heap.size, 1, none⟩ = some (.int .i64 p.faulty) ∧ u.cell? ⟨w.heap.size, 2, none⟩ = some (.int .i64 p.skew) ∧ u.cell? ⟨w.heap.size, 3, none⟩ = some (.int .i64 p.jitter) ∧ u.cell? ⟨w.heap.size, 4, none⟩ = some (.int .i64 p.drift)) ∧ u.cell? ⟨w.heap.size, 5, none⟩ = some (.int .i64 p.round) ∧ u.cell? ⟨w.heap.size, 6, none⟩ = some (.slice a.sa p.ns a.sc) ∧ u.cell? ⟨w.heap.size, 7, none⟩ = some (.slice a.la p.nl a.lc) ∧ u.cell? ⟨w.heap.size, 8, none⟩ = some (.int .i64 p.frame) ∧ u.cell? ⟨w.heap.size, 9, none⟩ = some (.slice a.wa p.nw a.wc)) (go_keep) (first
              | (go_at_call 31; refine (hclo _).mono ?_; rintro e v3 ⟨g, cp, rfl, hg, hck, hB3⟩; have HBo : Hid (Below V.heap.size V v3 ∧ (V.heap.size ≤ g ∧ g < v3.heap.size) ∧ ∀ j, j < cs.length → v3.cell? ⟨g, j, none⟩ = some (.int .i64 (cs.getD j 0))) := (by have h2 := HB2.out; have h3 := h2.size; have h4 : v2.heap.size ≤ g := hg.1; refine ⟨h2.trans ⟨hB3.os, hB3.tape, hB3.output, hB3.size, fun c hc => hB3.block c (Nat.lt_of_lt_of_le hc h3)⟩, ⟨by omega, hg.2⟩, hck⟩); have t0 := (hB3.cell (p := ⟨w.heap.size, 0, none⟩) hl2).trans z0; have t1 := (hB3.cell (p := ⟨w.heap.size, 1, none⟩) hl2).trans z1; have t2 := (hB3.cell (p := ⟨w.heap.size, 2, none⟩) hl2).trans z2; have t3 := (hB3.cell (p := ⟨w.heap.size, 3, none⟩) hl2).trans z3; have t4 := (hB3.cell (p := ⟨w.heap.size, 4, none⟩) hl2).trans z4; have t5 := (hB3.cell (p := ⟨w.heap.size, 5, none⟩) hl2).trans z5; have t6 := (hB3.cell (p := ⟨w.heap.size, 6, none⟩) hl2).trans z6; have t7 := (hB3.cell (p := ⟨w.heap.size, 7, none⟩) hl2).trans z7; have t8 := (hB3.cell (p := ⟨w.heap.size, 8, none⟩) hl2).trans z8; have t9 := (hB3.cell (p := ⟨w.heap.size, 9, none⟩) hl2).trans z9; clear hB3 hck hg))
            all_goals go_wp2_with fail
            all_goals go_meet
            all_goals refine ⟨_, g, cp, rfl, ?_⟩
            all_goals unfold Hid
            all_goals repeat apply Born1.drew
            all_goals exact Born1.of HBo.out.1 HBo.out.2.1 HBo.out.2.2
          case rest =>
            obtain ⟨C, cb, ccap, rfl, HBo⟩ := hcut
            clear z0 z1 z2 z3 z4 z5 z6 z7 z8 z9 hclo hl2
            have hbe := HBo.out.bel
            have x6 := (hbe.cell (p := ⟨w.heap.size, 6, none⟩) hl0).trans b6
            have hlc : w.heap.size < wc.heap.size := Nat.lt_of_lt_of_le hl0 hbe.size
            have hCl := HBo.out.lC
            have hBwc : Below w.heap.size w wc := HBV.out.1.trans (hbe.mono HBV.out.1.size)
            have hsl := cloneS p.nd p.fr p.td a.sa p.ns a.sc wc (by omega) (HIn.out.1.slots.below hBwc)
            clear hbe
            go_wp2_with fail
            refine hsl.mono ?_
            rintro e v5 ⟨a', cap', rfl, hr5, hf5, hB5⟩
            obtain ⟨X0, hX⟩ := HBo.out.next (cap' := cap') (by rw [HNN.out, HPN.out]) HLen.out hB5 hr5 hf5
            have e6 := (hB5.cell (p := ⟨C, 6, none⟩) hCl).trans (HBo.out.cel 6 _ rfl)
            have e7 := (hB5.cell (p := ⟨C, 7, none⟩) hCl).trans (HBo.out.cel 7 _ rfl)
            have e9 := (hB5.cell (p := ⟨C, 9, none⟩) hCl).trans (HBo.out.cel 9 _ rfl)
            have g6 := (hB5.frozen (p := ⟨C, 6, none⟩) hCl).trans (HBo.out.z 6)
            have g7 := (hB5.frozen (p := ⟨C, 7, none⟩) hCl).trans (HBo.out.z 7)
            have g9 := (hB5.frozen (p := ⟨C, 9, none⟩) hCl).trans (HBo.out.z 9)
            have hC5 : C < v5.heap.size := Nat.lt_of_lt_of_le hCl hB5.size
            have HX : Hid _ := hX
            clear hsl hr5 hf5 hB5 hX x6 hlc hCl hBwc
            go_wp2_with fail
            obtain ⟨v6, hv6⟩ : ∃ v6, ((v5.setCell ⟨C, 6, none⟩ (.slice a' p.ns cap')).setCell ⟨C, 7, none⟩ (.slice none 0 0)).setCell ⟨C, 9, none⟩ (.slice none 0 0) = v6 := ⟨_, rfl⟩
            rw [hv6] at HX ⊢
            clear e6 e7 e9 g6 g7 g9 hC5 hv6 HBo
            have s2 := (HX.out.bel.cell (p := ⟨w.heap.size, 2, none⟩) hl0).trans b2
            have hl6 : w.heap.size < v6.heap.size := Nat.lt_of_lt_of_le hl0 HX.out.bel.size
            have HBw6 : Hid (Below w.heap.size w v6) := HBV.out.1.trans (HX.out.bel.mono HBV.out.1.size)
            have hfar := fun (q : Nat) => cfar_any ca cap n cs HLen.out (v6.drewN q) (HIn.out.2.below ⟨HBw6.out.os, HBw6.out.tape, HBw6.out.output, HBw6.out.size, HBw6.out.block⟩) (by omega)
            have H2 : Hid (∀ v, Below w.heap.size w v → ¬ ((∀ c ∈ cs, -274877906944 ≤ c ∧ c ≤ 274877906944) ∧ spreadL (rightOf fa cs) ≤ p.skew) → NewPost w p fa cs (.returned (.tuple #[.pointer none, .iface 39 (.int .i64 2)])) v) := fun v hv hb =>
              ⟨hv, 2, -1, .inr ⟨HIs.out, rfl, .inr ⟨HOk.out, .inr ⟨by rw [HPN.out]; exact HLen.out, .inl ⟨hb, rfl⟩⟩⟩⟩, .inl ⟨by decide, _, rfl, .inr (.inl ⟨rfl, by decide, rfl⟩)⟩⟩
            by_cases hF : cs.any tooFarB = true
            · have HNo : Hid (¬ ((∀ c ∈ cs, -274877906944 ≤ c ∧ c ≤ 274877906944) ∧ spreadL (rightOf fa cs) ≤ p.skew)) := fun y => by
                obtain ⟨c, hc, ht⟩ := List.any_eq_true.1 hF
                have := y.1 c hc
                unfold tooFarB at ht
                have := of_decide_eq_true ht
                omega
              rw [hF] at hfar
              -- REGION10
              refine wp_region_noPanic ?_
              refine wp_region_held_drew (S := fun _ => True) (by kernel_rfl) trivial (fun hHeld => ?_)
              refine tk 0 hHeld ?_
              refine rdy 1 fun Kq hK => ?_
              go_simp
              (go_at_call 33; refine (hfar 1).mono ?_; rintro e v7 ⟨rfl, hB7⟩; have HB7 : Hid (Below w.heap.size w v7) := (by have h6 := HBw6.out; exact h6.trans ⟨hB7.os, hB7.tape, hB7.output, hB7.size, fun c hc => hB7.block c (Nat.lt_of_lt_of_le hc h6.size)⟩); clear hB7)
              refine kp hK (fun hHeld => ?_) trivial
              clear hK Kq
              refine tk 2 hHeld ?_
              refine wpAnyH_skips (fuel := 1) (by kernel_rfl) (fun _ _ _ _ h => h) hHeld [(3, 62), (4, 63), (5, 64), (6, 65), (7, 66)] (by kernel_rfl) ?_
              simp only [skipA, List.foldl_cons, List.foldl_nil, Act.put, zA, zB, zC]
              refine tk 8 hHeld ?_
              refine dn ?_
              refine NoPanic.normal ?_
              -- END10
              all_goals go_wp2
              all_goals go_ret2
              all_goals exact H2.out _ ⟨HB7.out.os, HB7.out.tape, HB7.out.output, HB7.out.size, HB7.out.block⟩ HNo.out
            · have hF' : cs.any tooFarB = false := by simpa using hF
              have HNear : Hid (∀ c ∈ cs, -274877906944 ≤ c ∧ c ≤ 274877906944) := fun c hc => by
                have := List.any_eq_false.1 hF' c hc
                unfold tooFarB at this
                have : ¬ (c < -274877906944 ∨ 274877906944 < c) := fun y => this (decide_eq_true y)
                omega
              rw [hF'] at hfar
              obtain ⟨SP, hSP⟩ : ∃ SP, spreadL (rightOf fa cs) = SP := ⟨_, rfl⟩
              have HSP : Hid (spreadL (rightOf fa cs) = SP) := hSP
              by_cases hS : p.skew < SP
              · have kS : decide (p.skew < SP) = true := decide_eq_true hS
                have HNo : Hid (¬ ((∀ c ∈ cs, -274877906944 ≤ c ∧ c ≤ 274877906944) ∧ spreadL (rightOf fa cs) ≤ p.skew)) := fun y => by
                  have := y.2
                  rw [hSP] at this
                  omega
                clear hSP
                have hspr : Hid (∀ v7, Below v6.heap.size v6 v7 → ∀ q, Calls Tryz.prog 10 #[.pointer (some ⟨C, 0, none⟩)] (v7.drewN q) fun e w' => e = .returned (.int .i64 SP) ∧ Below v7.heap.size v7 w') := fun v7 h7 q => by
                  have hh := (HX.out.below h7).hd
                  have hlt := ((HX.out.below h7).lX _ hh.ckX).1.2
                  have hsp := cspread_any C fa (some ⟨cb, 0, none⟩) ccap cs (v7.drewN q) hh.c10 hh.c11 (fun _ => ⟨cb, 0, rfl, hlt, fun j hj => by rw [Nat.zero_add]; exact hh.ck j hj⟩) (by rw [HLen.out]; omega) HNear.out
                  rw [HSP.out] at hsp
                  refine hsp.mono ?_
                  rintro e w' ⟨h1, h2⟩
                  exact ⟨h1, h2.os, h2.tape, h2.output, h2.size, h2.block⟩
                go_region_held3 (fun u => u.cell? ⟨w.heap.size, 2, none⟩ = some (.int .i64 p.skew)) (go_keep) (first
                  | (go_at_call 33; refine (hfar _).mono ?_; rintro e v7 ⟨rfl, hB7⟩; have t2 := (hB7.cell (p := ⟨w.heap.size, 2, none⟩) hl6).trans s2; have HB7 : Hid (Below v6.heap.size v6 v7) := ⟨hB7.os, hB7.tape, hB7.output, hB7.size, hB7.block⟩; have hl7 : w.heap.size < v7.heap.size := Nat.lt_of_lt_of_le hl6 hB7.size; have hsp7 := hspr.out v7 HB7.out; clear hB7)
                  | (go_at_call 10; refine (hsp7 0).mono ?_; rintro e v8 ⟨rfl, hB8⟩; have t28 := (hB8.cell (p := ⟨w.heap.size, 2, none⟩) hl7).trans t2; have HB8 : Hid (Below v6.heap.size v6 v8) := (HB7.out.trans (hB8.mono HB7.out.size)); clear hB8))
                all_goals go_wp2
                all_goals go_ret2
                all_goals exact H2.out _ (HBw6.out.trans ⟨HB8.out.os, HB8.out.tape, HB8.out.output, HB8.out.size, fun c hc => HB8.out.block c (Nat.lt_of_lt_of_le hc HBw6.out.size)⟩) HNo.out
              · have kS : decide (p.skew < SP) = false := decide_eq_false hS
                have HYes : Hid ((∀ c ∈ cs, -274877906944 ≤ c ∧ c ≤ 274877906944) ∧ spreadL (rightOf fa cs) ≤ p.skew) := ⟨HNear.out, by rw [hSP]; omega⟩
                clear hSP
                have hspr : Hid (∀ v7, Below v6.heap.size v6 v7 → ∀ q, Calls Tryz.prog 10 #[.pointer (some ⟨C, 0, none⟩)] (v7.drewN q) fun e w' => e = .returned (.int .i64 SP) ∧ Below v7.heap.size v7 w') := fun v7 h7 q => by
                  have hh := (HX.out.below h7).hd
                  have hlt := ((HX.out.below h7).lX _ hh.ckX).1.2
                  have hsp := cspread_any C fa (some ⟨cb, 0, none⟩) ccap cs (v7.drewN q) hh.c10 hh.c11 (fun _ => ⟨cb, 0, rfl, hlt, fun j hj => by rw [Nat.zero_add]; exact hh.ck j hj⟩) (by rw [HLen.out]; omega) HNear.out
                  rw [HSP.out] at hsp
                  refine hsp.mono ?_
                  rintro e w' ⟨h1, h2⟩
                  exact ⟨h1, h2.os, h2.tape, h2.output, h2.size, h2.block⟩
                go_region_held3 (fun u => u.cell? ⟨w.heap.size, 2, none⟩ = some (.int .i64 p.skew)) (go_keep) (first
                  | (go_at_call 33; refine (hfar _).mono ?_; rintro e v7 ⟨rfl, hB7⟩; have t2 := (hB7.cell (p := ⟨w.heap.size, 2, none⟩) hl6).trans s2; have HB7 : Hid (Below v6.heap.size v6 v7) := ⟨hB7.os, hB7.tape, hB7.output, hB7.size, hB7.block⟩; have hl7 : w.heap.size < v7.heap.size := Nat.lt_of_lt_of_le hl6 hB7.size; have hsp7 := hspr.out v7 HB7.out; clear hB7)
                  | (go_at_call 10; refine (hsp7 0).mono ?_; rintro e v8 ⟨rfl, hB8⟩; have t28 := (hB8.cell (p := ⟨w.heap.size, 2, none⟩) hl7).trans t2; have HB8 : Hid (Below v6.heap.size v6 v8) := (HB7.out.trans (hB8.mono HB7.out.size)); clear hB8))
                have hX8 := HX.out.below HB8.out
                have x7 := (hX8.bel.cell (p := ⟨w.heap.size, 7, none⟩) hl0).trans b7
                have hl8 : w.heap.size < v8.heap.size := Nat.lt_of_lt_of_le hl0 hX8.bel.size
                have hVw := HBV.out.2
                have HBw8 : Hid (Below w.heap.size w v8) := HBV.out.1.trans (hX8.bel.mono HBV.out.1.size)
                have hfi := cfill_any C p fa cs cb ccap a' cap' X0 a.la a.lc w v8 hX8.hd hX8.z hX8.c13 hX8.c14 ⟨by have := hX8.lC.1; omega, hX8.lC.2⟩ (fun c hc => ⟨⟨by have := (hX8.lX c hc).1.1; omega, (hX8.lX c hc).1.2⟩, (hX8.lX c hc).2⟩) HBw8.out HIn.out.1.links HPB.out
                clear hX8 t28 s2 hsp7 hfar hspr
                go_wp2_with fail
                refine hfi.mono ?_
                rintro e v9 ⟨rfl, hB9, O, m, hCl9, hO9⟩
                have HD : Hid (NewPost w p fa cs (.returned (.tuple #[.pointer (some ⟨C, 0, none⟩), .nilIface])) v9) :=
                  ⟨HBw8.out.trans hB9, 0, -1, .inr ⟨HIs.out, rfl, .inr ⟨HOk.out, .inr ⟨by rw [HPN.out]; exact HLen.out, .inr ⟨HYes.out, rfl⟩⟩⟩⟩, .inr ⟨rfl, O, C, m, rfl, hCl9, hO9⟩⟩
                clear hfi hB9 hCl9 hO9
                go_wp2
                go_ret2
                exact HD.out
        · have kl : ((cs.length : Int) != (n : Int)) = true := by simp; omega
          have kl2 : ¬ ((cs.length : Int) = (n : Int)) := by omega
          have HD : Hid (NewPost w p fa cs (.returned (.tuple #[.pointer none, .iface 39 (.int .i64 7)])) v2) := ⟨HBw2.out, 7, -1, .inr ⟨HIs.out, rfl, .inr ⟨HOk.out, .inl ⟨by rw [HPN.out]; exact hlen, rfl⟩⟩⟩, .inl ⟨by decide, _, rfl, .inr (.inl ⟨rfl, by decide, rfl⟩)⟩⟩
          go_wp2
          go_ret2
          exact HD.out
  · have HD : Hid (NewPost w p fa cs (.returned (.tuple #[.pointer none, .iface 39 (.int .i64 E)])) v1) := ⟨HB1.out.1, E, I, .inl ⟨E, hIs, he, rfl⟩, .inl ⟨he, _, rfl, HEr.out⟩⟩
    clear hIs
    go_wp2
    go_ret2
    exact HD.out
  · have HD : Hid (NewPost w p fa cs (.returned (.tuple #[.pointer none, .iface 150 (.pointer (some ⟨b, 0, none⟩))])) v1) := ⟨HB1.out.1, E, I, .inl ⟨E, hIs, he, rfl⟩, .inl ⟨he, _, rfl, HEr.out⟩⟩
    clear hIs
    go_wp2
    go_ret2
    exact HD.out
end Go.Proofs.YtdmokcnoljlogaaGreatDoor
