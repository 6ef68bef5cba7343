/- The program's cluster: fill makes the nodes and the links (10.1). -/
import Derived.Test.YtdmokcnoljlogaaGreatDoorWordsH
import Derived.Test.YtdmokcnoljlogaaGreatDoorWordsG
import Derived.Test.YtdmokcnoljlogaaGreatDoorPCluN2
import Derived.Test.YtdmokcnoljlogaaGreatDoorPCluG
import Derived.Test.YtdmokcnoljlogaaGreatDoorPCluR
import Derived.Deep.AppendLies
import Derived.Deep.DeepCutAuto
import Derived.RegionTactic
namespace Go.Proofs.YtdmokcnoljlogaaGreatDoor
open Go.RowKit

theorem Tryz.infoPNode : (Tryz.prog.info? 108).map (fun i => (i.zero, i.size, i.bytes)) = some (some (.pointer none), 1, 8) := by kernel_rfl
theorem Tryz.infoCLink : (Tryz.prog.info? 86).map (fun i => (i.zero, i.size, i.bytes)) = some (some (.agg #[.int .i64 0, .pointer none, .slice none 0 0]), 3, 40) := by kernel_rfl
theorem owns_form3 {w : World} {base n : Nat} {e : TypeId} {v : Value} {xs : List Value} (h : w.ownsRow base e 3 v n xs) : ∃ a cap, v = .slice a n cap := by
  rcases h.2 with ⟨e0, rfl⟩ | ⟨g, cap, cur, hv, _⟩
  · exact ⟨none, 0, e0⟩
  · exact ⟨_, cap, hv⟩
theorem FilN.first {wz w0 : World} {X0 : List Nat} {C n : Nat} (z : ∀ i, w0.frozen? ⟨C, i, none⟩ = false) (c13 : w0.cell? ⟨C, 13, none⟩ = some (.slice none 0 0)) (hC : wz.heap.size ≤ C ∧ C < w0.heap.size) (hX : ∀ c, c ∈ X0 → (wz.heap.size ≤ c ∧ c < w0.heap.size) ∧ c ≠ C) : ∃ Of, FilN w0 w0 wz.heap.size X0 Of C n (fun _ => 0) (.slice none 0 0) 0 := by
  have hG : ∀ i c, c ∈ (fun i : CIx => if i = iB then [C] else if i = iX then X0 else []) i → (i = iB ∧ c = C) ∨ (i = iX ∧ c ∈ X0) := fun i c hc => by
    by_cases h1 : i = iB
    · subst h1; exact .inl ⟨rfl, by simpa using hc⟩
    · by_cases h2 : i = iX
      · subst h2; exact .inr ⟨rfl, by simpa using hc⟩
      · simp only [if_neg h1, if_neg h2] at hc; simp at hc
  refine ⟨fun i => if i = iB then [C] else if i = iX then X0 else [], ⟨fun i c hc => ?_, fun i j hij c hc hn => ?_⟩, fun i c hc => ?_, rfl, rfl, fun i hi => ?_, fun _ _ => rfl, c13, z, ⟨Nat.le_refl _, fun _ _ => rfl⟩, World.ownsRow_nil _ _ _ _, fun j hj => absurd hj (Nat.not_lt_zero _), Below.refl _ _⟩
  · rcases hG i c hc with ⟨_, y⟩ | ⟨_, y⟩
    · omega
    · exact (hX c y).1.2
  · rcases hG i c hc with ⟨a, y⟩ | ⟨a, y⟩ <;> rcases hG j c hn with ⟨b, z⟩ | ⟨b, z⟩
    · exact hij (a.trans b.symm)
    · exact (hX c z).2 y
    · exact (hX c y).2 z
    · exact hij (a.trans b.symm)
  · rcases hG i c hc with ⟨_, y⟩ | ⟨_, y⟩
    · omega
    · exact (hX c y).1.1
  · by_cases h1 : i = iB
    · exact .inl h1
    · by_cases h2 : i = iX
      · exact .inr (.inl h2)
      · simp only [if_neg h1, if_neg h2] at hi; exact absurd rfl hi

/-- A link that was made, in a box of its own at MB. -/
def MadeLink (wr wx : World) (K : Nat) (p : PlanN) (MB : Nat) : Prop :=
  ∃ N S' E' D' R' Q', LinkNew wr.heap.size wx N K p.n p.n (p.lt K) (p.lb K) (p.lq K) S' E' D' R' Q' ∧ Below wr.heap.size wr wx ∧ wr.heap.size ≤ MB ∧ MB < wx.heap.size ∧
    wx.cell? ⟨MB, 0, none⟩ = some (.int .i64 (p.lf K)) ∧ wx.cell? ⟨MB, 1, none⟩ = some (.pointer (some ⟨S', 0, none⟩)) ∧ wx.cell? ⟨MB, 2, none⟩ = some (.slice (some ⟨E', 0, none⟩) p.n p.n)

theorem MadeLink.drew {wr wx : World} {K : Nat} {p : PlanN} {MB : Nat} (h : MadeLink wr wx K p MB) : MadeLink wr wx.drew K p MB := by
  obtain ⟨N, S', E', D', R', Q', h1, h2, h3, h4, h5⟩ := h
  exact ⟨N, S', E', D', R', Q', h1.same (Nat.le_refl _) (fun _ _ _ => rfl), h2.drew, h3, h4, h5⟩
theorem MadeLink.after {wr V1 Va w1 : World} {K n : Nat} {p : PlanN} {N : CIx → List Nat} {S' E' : Nat} {D' R' Q' : Nat → Nat} (hn : p.n = n) (hQ : Below wr.heap.size wr V1) (hVa : Below V1.heap.size V1 Va) (hB1 : Below Va.heap.size Va w1) (hL : LinkNew Va.heap.size w1 N K n n (p.lt K) (p.lb K) (p.lq K) S' E' D' R' Q') {t : TypeId} :
    MadeLink wr (w1.alloc (.cells #[.int .i64 (p.lf K), .pointer (some ⟨S', 0, none⟩), .slice (some ⟨E', 0, none⟩) n n] t)) K p w1.heap.size := by
  subst hn
  have s1 := hQ.size
  have s2 := hVa.size
  have s3 := hB1.size
  obtain ⟨r0, r1, r2, rB, rS⟩ := rbox3 w1 (.int .i64 (p.lf K)) (.pointer (some ⟨S', 0, none⟩)) (.slice (some ⟨E', 0, none⟩) p.n p.n) t
  have hk : Below wr.heap.size wr w1 := hQ.trans ((hVa.mono s1).trans (hB1.mono (by omega)))
  exact ⟨N, S', E', D', R', Q', (hL.same rB.size (fun c _ h2 => rB.block c h2)).low (by omega), hk.trans (rB.mono hk.size), hk.size, by omega, r0, r1, r2⟩
theorem MadeLink.before {wr V1 Va w1 : World} {K n : Nat} {p : PlanN} {N : CIx → List Nat} {S' E' : Nat} {D' R' Q' : Nat → Nat} (hn : p.n = n) (hQ : Below wr.heap.size wr V1) (hVa : Below V1.heap.size V1 Va) (hs : Va.heap.size = V1.heap.size + 1) (hB1 : Below Va.heap.size Va w1) (hL : LinkNew Va.heap.size w1 N K n n (p.lt K) (p.lb K) (p.lq K) S' E' D' R' Q') {a b c : Value} (m0 : w1.cell? ⟨V1.heap.size, 0, none⟩ = some a) (m1 : w1.cell? ⟨V1.heap.size, 1, none⟩ = some b) (m2 : w1.cell? ⟨V1.heap.size, 2, none⟩ = some c) :
    MadeLink wr (((w1.setCell ⟨V1.heap.size, 0, none⟩ (.int .i64 (p.lf K))).setCell ⟨V1.heap.size, 1, none⟩ (.pointer (some ⟨S', 0, none⟩))).setCell ⟨V1.heap.size, 2, none⟩ (.slice (some ⟨E', 0, none⟩) n n)) K p V1.heap.size := by
  subst hn
  have s1 := hQ.size
  have s3 := hB1.size
  have hT : Turns V1.heap.size V1.heap.size w1 (((w1.setCell ⟨V1.heap.size, 0, none⟩ (.int .i64 (p.lf K))).setCell ⟨V1.heap.size, 1, none⟩ (.pointer (some ⟨S', 0, none⟩))).setCell ⟨V1.heap.size, 2, none⟩ (.slice (some ⟨E', 0, none⟩) p.n p.n)) := (((Turns.refl _ _ w1).set (p := ⟨V1.heap.size, 0, none⟩) (.inl rfl) _).set (p := ⟨V1.heap.size, 1, none⟩) (.inl rfl) _).set (p := ⟨V1.heap.size, 2, none⟩) (.inl rfl) _
  have hk : Below wr.heap.size wr w1 := hQ.trans ((hVa.mono s1).trans (hB1.mono (by omega)))
  refine ⟨N, S', E', D', R', Q', (hL.same hT.size (fun c h1 h2 => hT.block c h2 (by omega) (by omega))).low (by omega), hk.trans (hT.below hk.size (by omega) (by omega)), s1, ?_, ?_, ?_, ?_⟩
  · have := hT.size; omega
  · exact (cell_other (.inr (by decide))).trans ((cell_other (.inr (by decide))).trans (cell_set m0))
  · exact (cell_other (.inr (by decide))).trans (cell_set ((cell_other (.inr (by decide))).trans m1))
  · exact cell_set ((cell_other (.inr (by decide))).trans ((cell_other (.inr (by decide))).trans m2))

set_option maxRecDepth 100000 in
set_option maxHeartbeats 4000000 in
theorem cfill_any (C : Nat) (p : PlanN) (fa : Int) (cs : List Int) (cb ccap : Nat) (sa : Option Addr) (scap : Nat) (X0 : List Nat) (la : Option Addr) (lcap : Nat) (wz w0 : World) (hH : CHead w0 C p fa cs cb ccap sa scap X0) (z : ∀ i, w0.frozen? ⟨C, i, none⟩ = false) (c13 : w0.cell? ⟨C, 13, none⟩ = some (.slice none 0 0)) (c14 : w0.cell? ⟨C, 14, none⟩ = some (.slice none 0 0)) (hC : wz.heap.size ≤ C ∧ C < w0.heap.size) (hX : ∀ c, c ∈ X0 → (wz.heap.size ≤ c ∧ c < w0.heap.size) ∧ c ≠ C) (hb : Below wz.heap.size wz w0) (hl : Rows4 wz la p.nl p.lf p.lt p.lb p.lq) (hB : PlanB p) :
    Calls Tryz.prog 35 #[.pointer (some ⟨C, 0, none⟩), .slice la p.nl lcap] w0 fun e w' => e = .returned .nilIface ∧ Below wz.heap.size w0 w' ∧ ∃ O m, Cl w' O C p fa cs ClS.start 0 1 m ∧ ∀ c, c ∈ O → wz.heap.size ≤ c := by
  obtain ⟨i0, hi, hz0, hz1, hz2⟩ := info_parts Tryz.infoPNode
  obtain ⟨i1, gi, gz0, gz1, gz2⟩ := info_parts Tryz.infoCLink
  have hn1 : 1 ≤ p.n := by have := hB.n1; unfold PlanN.n; omega
  have hn16 : p.n ≤ 16 := by have := hB.n2; unfold PlanN.n; omega
  have hnn : p.nodes = (p.n : Int) := by have := hB.n1; unfold PlanN.n; omega
  have hnl := hB.nl
  have c0 := hH.c0
  rw [hnn] at c0
  have HF0 := FilN.first (n := p.n) z c13 hC hX
  have HN0 : Hid (∃ Of P v, FilN w0 w0 wz.heap.size X0 Of C p.n P v 0) := by
    obtain ⟨Of, h⟩ := HF0
    exact ⟨Of, _, _, h⟩
  have hlC := hC.2
  have HHD : Hid (CHead w0 C p fa cs cb ccap sa scap X0 ∧ w0.cell? ⟨C, 14, none⟩ = some (.slice none 0 0)) := ⟨hH, c14⟩
  have HZ : Hid (Below wz.heap.size wz w0 ∧ Rows4 wz la p.nl p.lf p.lt p.lb p.lq) := ⟨hb, hl⟩
  have HPB : Hid (PlanB p) := hB
  have HC : Hid (wz.heap.size ≤ C ∧ C < w0.heap.size) := hC
  have HNN : Hid (p.nodes = (p.n : Int)) := hnn
  clear hH z c13 c14 hC hX hb hl hB HF0 hnn
  obtain ⟨n, hpn⟩ : ∃ n, p.n = n := ⟨_, rfl⟩
  have HPN : Hid (p.n = n) := hpn
  rw [hpn] at c0 HN0 hn1 hn16
  obtain ⟨nl, hpl⟩ : ∃ nl, p.nl = nl := ⟨_, rfl⟩
  have HPL : Hid (p.nl = nl) := hpl
  rw [hpl] at hnl
  rw [hpl]
  clear hpn hpl
  go_enter Tryz.func35, Tryz.ntmps35
  go_wp2_with fail
  go_loopw [17] (fun t wr => ∃ I : Nat, I ≤ n ∧ t = .int .i64 I ∧ Hid (∃ Of P v, FilN w0 wr wz.heap.size X0 Of C n P v I)) (fun t _ => n - (intOf t).toNat)
  case atStart => exact ⟨0, Nat.zero_le _, rfl, HN0⟩
  case round =>
    obtain ⟨I, hI, rfl, HI⟩ := hrel
    clear HN0
    by_cases hlt : I < n
    · have ii : (I : Int) < (n : Int) := by omega
      obtain ⟨Of, P, v, hF⟩ := HI.out
      have y0 := (hF.kc 0 (by decide)).trans c0
      have hCw : C < wr.heap.size := hF.fam.lt iB C (by rw [hF.ob]; exact List.mem_cons_self)
      have HF : Hid (FilN w0 wr wz.heap.size X0 Of C n P v I) := hF
      clear hF HI
      go_wp2_with fail
      refine (pNew_good I n wr hn1 hn16 (by omega) ii).mono ?_
      rintro e w1 ⟨rfl, hp1, hb1⟩
      obtain ⟨a, cap, hv⟩ := owns_form HF.out.vo
      have HV : Hid (v = .slice a I cap) := hv
      have y13 := (hb1.cell (p := ⟨C, 13, none⟩) hCw).trans HF.out.c13
      have x13 := (hb1.frozen (p := ⟨C, 13, none⟩) hCw).trans (HF.out.z 13)
      rw [hv] at y13
      have hOwn := owns_below HF.out.vo hb1
      rw [hv] at hOwn
      have hCw1 : C < w1.heap.size := Nat.lt_of_lt_of_le hCw hb1.size
      have HP1 : Hid (Below wr.heap.size wr w1 ∧ ProgNode w1 wr.heap.size I n (2 ^ n - 1) 1 0 false) := ⟨hb1, hp1⟩
      have HI' : Hid (I < n ∧ n ≤ 16) := ⟨hlt, hn16⟩
      clear y0 hb1 hp1 hv
      go_wp2_with (at_builtin; refine wpList_append_own_at _ rfl _ _ 67 rfl (C + 1) 108 i0 (.pointer none) 1 8 Tryz.underlying67 hi hz0 hz1 hz2 rfl (by decide) (.slice a I cap) I _ rfl (hOwn.alloc _) ⟨w1.heap.size, 0, none⟩ 1 1 [.pointer (some ⟨wr.heap.size, 0, none⟩)] rfl rfl (cell_one_new _ _ _) (by simp [Value.oneCell']) (by unfold maxLen; omega) (by omega) (by simp; omega) ?_; apply Hid.out)
      unfold Hid
      intro v' w3 hown' hgrow _ hat
      obtain ⟨a', cap', rfl⟩ := owns_form hown'
      have hst := HF.out.step HP1.out.1 HP1.out.2 ((Below.refl _ _).alloc (Nat.le_refl _) _) hown' (by rw [HV.out]; exact hgrow) (by rw [HV.out]; simpa using hat)
      have HST : Hid (∃ Of P v, FilN w0 (w3.setCell ⟨C, 13, none⟩ (.slice a' (I + 1) cap')) wz.heap.size X0 Of C n P v (I + 1)) := by
        obtain ⟨Of', h'⟩ := hst
        exact ⟨Of', _, _, h'⟩
      have hne : some C ≠ (Value.slice a I cap).ownBlock := fun e => by
        have := (hOwn.lt C e.symm).1; omega
      have hs3 := hgrow.size
      have hsa : (w1.alloc (.cells #[.pointer (some ⟨wr.heap.size, 0, none⟩)] 108)).heap.size = w1.heap.size + 1 := by simp
      have hA : Below w1.heap.size w1 (w1.alloc (.cells #[.pointer (some ⟨wr.heap.size, 0, none⟩)] 108)) := (Below.refl _ _).alloc (Nat.le_refl _) _
      have q13 : w3.cell? ⟨C, 13, none⟩ = some (.slice a I cap) := (World.cell?_of_block (a := ⟨C, 13, none⟩) (hgrow.block C (by omega) hne)).trans ((hA.cell (p := ⟨C, 13, none⟩) hCw1).trans y13)
      have r13 : w3.frozen? ⟨C, 13, none⟩ = false := (World.frozen?_of_block (a := ⟨C, 13, none⟩) (hgrow.block C (by omega) hne)).trans ((hA.frozen (p := ⟨C, 13, none⟩) hCw1).trans x13)
      have hC3 : C < w3.heap.size := by omega
      clear hst hne hs3 hsa hA hown' hgrow hat hOwn y13 x13
      go_wp2
      go_roundw
      case rel => exact ⟨I + 1, by omega, by go_num, HST⟩
      case measure => simp [intOf]; omega
    · have hIn : I = n := by omega
      have kj : decide (I < n) = false := decide_eq_false (by omega)
      obtain ⟨Of, P, v, hF⟩ := HI.out
      rw [hIn] at hF
      have hF' := hF
      rw [← HPN.out] at hF'
      obtain ⟨nb, ncap, Of', hv, hnd, hK0⟩ := hF'.done (by rw [HPN.out]; exact hn1) HHD.out.2 (fun _ => 0) (fun _ => 0) (fun _ _ => 0) (fun _ _ => 0) (fun _ _ => 0)
      have HK0 : Hid (∃ Of S E D R Q u, FilK wr wr wz.heap.size X0 Of C nb p P S E D R Q u 0) := ⟨_, _, _, _, _, _, _, hK0⟩
      have HB0 : Hid (Below wz.heap.size w0 wr) := hF.bel
      have HHN : Hid (CHead wr C p fa cs cb ccap sa scap X0) := HHD.out.1.keep (fun i hi => hF.kc i (by omega)) hF.kx
      have y0 := (hF.kc 0 (by decide)).trans c0
      have H13 : Hid (wr.cell? ⟨C, 13, none⟩ = some (.slice (some ⟨nb, 0, none⟩) p.n ncap) ∧ ∀ j, j < p.n → wr.cell? ⟨nb, j, none⟩ = some (.pointer (some ⟨P j, 0, none⟩))) := ⟨by rw [hF.c13, hv], hnd⟩
      have hCr : C < wr.heap.size := hF.fam.lt iB C (by rw [hF.ob]; exact List.mem_cons_self)
      clear hF hF' hv hnd hK0 hIn hlt HI HHD c0 hI
      obtain ⟨wn, hwn⟩ : ∃ x, x = wr := ⟨wr, rfl⟩
      subst hwn
      go_wp2_with fail
      go_loopw [46] (fun t wk => ∃ K : Nat, K ≤ nl ∧ t = .int .i64 K ∧ Hid (∃ Of S E D R Q u, FilK wn wk wz.heap.size X0 Of C nb p P S E D R Q u K)) (fun t _ => nl - (intOf t).toNat)
      case atStart => exact ⟨0, Nat.zero_le _, rfl, HK0⟩
      case round =>
        obtain ⟨K, hK, rfl, HI⟩ := hrel
        clear HK0
        by_cases hlt : K < nl
        · have kk : (K : Int) < (nl : Int) := by omega
          obtain ⟨Of, S, E, D, R, Q, u, hF⟩ := HI.out
          obtain ⟨b, off, hla, hbz, hc⟩ := HZ.out.2 (by rw [HPL.out]; omega)
          subst hla
          obtain ⟨x0, x1, x2, x3⟩ := hc K (by rw [HPL.out]; exact hlt)
          have hBz : Below wz.heap.size wz wr := HZ.out.1.trans (HB0.out.trans hF.bel)
          have y0' := (hBz.cell (p := ⟨b, off + K * 4, none⟩) hbz).trans x0
          have y1' := (hBz.cell (p := ⟨b, off + K * 4 + 1, none⟩) hbz).trans x1
          have y2' := (hBz.cell (p := ⟨b, off + K * 4 + 2, none⟩) hbz).trans x2
          have y3' := (hBz.cell (p := ⟨b, off + K * 4 + 3, none⟩) hbz).trans x3
          have hbw : b < wr.heap.size := Nat.lt_of_lt_of_le hbz hBz.size
          have hCw : C < wr.heap.size := hF.fam.lt iB C (by rw [hF.ob]; simp)
          have yc0 := (hF.kc 0 (by decide)).trans y0
          obtain ⟨⟨q0, q1, q2, q3⟩, qB, qS⟩ := box4 wr (.int .i64 (p.lf K)) (.int .i64 (p.lt K)) (.int .i64 (p.lb K)) (.int .i64 (p.lq K)) 54
          obtain ⟨l1, l2, ⟨l3, l4⟩, l5, l6⟩ := HPB.out.link K (by rw [HPL.out]; exact hlt)
          have yc1 := (qB.cell (p := ⟨C, 0, none⟩) hCw).trans yc0
          have hCv : C < (wr.alloc (.cells #[.int .i64 (p.lf K), .int .i64 (p.lt K), .int .i64 (p.lb K), .int .i64 (p.lq K)] 54)).heap.size := by rw [qS]; omega
          have hwv : wr.heap.size < (wr.alloc (.cells #[.int .i64 (p.lf K), .int .i64 (p.lt K), .int .i64 (p.lb K), .int .i64 (p.lq K)] 54)).heap.size := by rw [qS]; omega
          have hnw := fun v => newLink_any K n (p.lf K) (p.lt K) (p.lb K) (p.lq K) v hn16 ⟨⟨l3, by omega⟩, l5, l6⟩
          have HQB : Hid _ := qB
          have HF : Hid (FilK wn wr wz.heap.size X0 Of C nb p P S E D R Q u K) := hF
          clear x0 x1 x2 x3 hc hF HI hBz l1 l2 l3 l4 l5 l6 qB qS
          go_wp2_with fail
          clear y0' y1' y2' y3' yc0
          generalize (wr.alloc (.cells #[.int .i64 (p.lf K), .int .i64 (p.lt K), .int .i64 (p.lb K), .int .i64 (p.lq K)] 54)) = V1 at *
          have hQ : ∀ o, Below V1.heap.size V1 (V1.alloc o) := fun o => (Below.refl _ _).alloc (Nat.le_refl _) _
          have t0 := fun o => ((hQ o).cell (p := ⟨wr.heap.size, 0, none⟩) hwv).trans q0
          have t1 := fun o => ((hQ o).cell (p := ⟨wr.heap.size, 1, none⟩) hwv).trans q1
          have t2 := fun o => ((hQ o).cell (p := ⟨wr.heap.size, 2, none⟩) hwv).trans q2
          have t3 := fun o => ((hQ o).cell (p := ⟨wr.heap.size, 3, none⟩) hwv).trans q3
          have t4 := fun o => ((hQ o).cell (p := ⟨C, 0, none⟩) hCv).trans yc1
          have HQ : Hid _ := hQ
          clear hQ
          go_cut [10, 11] (fun mv ev wx => ev = .nilIface ∧ ∃ MB, mv = .pointer (some ⟨MB, 0, none⟩) ∧ Hid (MadeLink wr wx K p MB))
          case first =>
            go_region_with (go_at_call 59; refine (hnw _).mono ?_; rintro e w1 ⟨hB1, N, S', E', D', R', Q', rfl, hL⟩; try (have m0 : w1.cell? ⟨V1.heap.size, 0, none⟩ = some (.int .i64 0) := (hB1.cell (p := ⟨V1.heap.size, 0, none⟩) (by simp)).trans (by simp); have m1 : w1.cell? ⟨V1.heap.size, 1, none⟩ = some (.pointer none) := (hB1.cell (p := ⟨V1.heap.size, 1, none⟩) (by simp)).trans (by simp); have m2 : w1.cell? ⟨V1.heap.size, 2, none⟩ = some (.slice none 0 0) := (hB1.cell (p := ⟨V1.heap.size, 2, none⟩) (by simp)).trans (by simp); have z0 : w1.frozen? ⟨V1.heap.size, 0, none⟩ = false := (hB1.frozen (p := ⟨V1.heap.size, 0, none⟩) (by simp)).trans (by simp); have z1 : w1.frozen? ⟨V1.heap.size, 1, none⟩ = false := (hB1.frozen (p := ⟨V1.heap.size, 1, none⟩) (by simp)).trans (by simp); have z2 : w1.frozen? ⟨V1.heap.size, 2, none⟩ = false := (hB1.frozen (p := ⟨V1.heap.size, 2, none⟩) (by simp)).trans (by simp); have hlw : V1.heap.size < w1.heap.size := (by have := hB1.size; simp at this; omega)))
            all_goals go_wp2_with fail
            all_goals go_meet
            all_goals refine ⟨rfl, _, rfl, ?_⟩
            all_goals unfold Hid
            all_goals repeat apply MadeLink.drew
            all_goals first
              | exact MadeLink.after HPN.out HQB.out (Below.refl _ _).drew hB1 hL
              | exact MadeLink.after HPN.out HQB.out (Below.refl _ _) hB1 hL
              | exact MadeLink.after HPN.out HQB.out (Below.refl _ _).drew.drew hB1 hL
              | exact MadeLink.before HPN.out HQB.out ((Below.refl _ _).alloc (Nat.le_refl _) _).drew (by simp) hB1 hL m0 m1 m2
              | exact MadeLink.before HPN.out HQB.out ((Below.refl _ _).alloc (Nat.le_refl _) _) (by simp) hB1 hL m0 m1 m2
              | exact MadeLink.before HPN.out HQB.out ((Below.refl _ _).alloc (Nat.le_refl _) _).drew.drew (by simp) hB1 hL m0 m1 m2
              | exact MadeLink.before HPN.out HQB.out ((Below.refl _ _).drew.alloc (Nat.le_refl _) _).drew (by simp) hB1 hL m0 m1 m2
              | exact MadeLink.before HPN.out HQB.out ((Below.refl _ _).drew.alloc (Nat.le_refl _) _) (by simp) hB1 hL m0 m1 m2
          case rest =>
            obtain ⟨rfl, MB, rfl, HML⟩ := hcut
            clear t0 t1 t2 t3 t4 q0 q1 q2 q3 hnw yc1 hCv hwv HQ HQB
            obtain ⟨N, S', E', D', R', Q', hL, hk1, hMB, hMl, r0, r1, r2⟩ := HML.out
            obtain ⟨LF, hLF⟩ : ∃ LF, p.lf K = LF := ⟨_, rfl⟩
            rw [hLF] at r0
            rw [HPN.out] at r2
            obtain ⟨a, cap, hu⟩ := owns_form3 HF.out.uo
            have y14 := (hk1.cell (p := ⟨C, 14, none⟩) hCw).trans HF.out.c14
            have x14 := (hk1.frozen (p := ⟨C, 14, none⟩) hCw).trans (HF.out.z 14)
            rw [hu] at y14
            have hOwn := owns_below HF.out.uo hk1
            rw [hu] at hOwn
            have hs1 := hk1.size
            have hCw2 : C < wc.heap.size := by omega
            have HL : Hid (LinkNew wr.heap.size wc N K p.n p.n (p.lt K) (p.lb K) (p.lq K) S' E' D' R' Q' ∧ p.lf K = LF ∧ u = .slice a K cap ∧ Below wr.heap.size wr wc) := ⟨hL, hLF, hu, hk1⟩
            have hMC : MB ≠ C := by omega
            have hAl : ∀ o, Below wc.heap.size wc (wc.drew.alloc o) := fun o => (Below.refl _ _).drew.alloc (Nat.le_refl _) _
            have r0a := fun o => ((hAl o).cell (p := ⟨MB, 0, none⟩) hMl).trans r0
            have r1a := fun o => ((hAl o).cell (p := ⟨MB, 1, none⟩) hMl).trans r1
            have r2a := fun o => ((hAl o).cell (p := ⟨MB, 2, none⟩) hMl).trans r2
            have y14a := fun o => ((hAl o).cell (p := ⟨C, 14, none⟩) hCw2).trans y14
            have hOwn2 : wc.drew.ownsRow (C + 1) 86 3 (.slice a K cap) K (triCells (fun k => .int .i64 (p.lf k)) (fun k => .pointer (some ⟨S k, 0, none⟩)) (fun k => .slice (some ⟨E k, 0, none⟩) p.n p.n) K) := hOwn
            have HQ3 : Hid (∀ gq cq w3, w3.ownsRow (C + 1) 86 3 (.slice (some ⟨gq, 0, none⟩) (K + 1) cq) (K + 1) (triCells (fun k => .int .i64 (p.lf k)) (fun k => .pointer (some ⟨S k, 0, none⟩)) (fun k => .slice (some ⟨E k, 0, none⟩) p.n p.n) K ++ [.int .i64 LF, .pointer (some ⟨S', 0, none⟩), .slice (some ⟨E', 0, none⟩) n n]) → (wc.drew.alloc (.cells #[.int .i64 LF, .pointer (some ⟨S', 0, none⟩), .slice (some ⟨E', 0, none⟩) n n] 86)).grownBy w3 (Value.slice a K cap).ownBlock → ((Value.slice a K cap).ownBlock = some gq ∨ gq = wc.heap.size + 1) → (w3.cell? ⟨C, 14, none⟩ = some (.slice a K cap) ∧ w3.frozen? ⟨C, 14, none⟩ = false ∧ C < w3.heap.size) ∧ (w3.cell? ⟨MB, 0, none⟩ = some (.int .i64 LF) ∧ w3.cell? ⟨MB, 1, none⟩ = some (.pointer (some ⟨S', 0, none⟩)) ∧ w3.cell? ⟨MB, 2, none⟩ = some (.slice (some ⟨E', 0, none⟩) n n)) ∧ ∃ Of S E D R Q u, FilK wn (w3.setCell ⟨C, 14, none⟩ (.slice (some ⟨gq, 0, none⟩) (K + 1) cq)) wz.heap.size X0 Of C nb p P S E D R Q u (K + 1)) := by
              intro gq cq w3 hown' hgrow hat
              have hA := hAl (.cells #[.int .i64 LF, .pointer (some ⟨S', 0, none⟩), .slice (some ⟨E', 0, none⟩) n n] 86)
              have hsa : (wc.drew.alloc (.cells #[.int .i64 LF, .pointer (some ⟨S', 0, none⟩), .slice (some ⟨E', 0, none⟩) n n] 86)).heap.size = wc.heap.size + 1 := by simp
              have hs3 := hgrow.size
              have hne : some C ≠ (Value.slice a K cap).ownBlock := fun e => by
                have := (hOwn.lt C e.symm).1; omega
              have hneM : some MB ≠ (Value.slice a K cap).ownBlock := fun e => by
                have g := HF.out.fam.lt iB MB (by rw [HF.out.ob, hu, ← e]; simp)
                omega
              have cM : ∀ i, w3.cell? ⟨MB, i, none⟩ = wc.cell? ⟨MB, i, none⟩ := fun i => (World.cell?_of_block (a := ⟨MB, i, none⟩) (hgrow.block MB (by omega) hneM)).trans (hA.cell (p := ⟨MB, i, none⟩) hMl)
              refine ⟨⟨(World.cell?_of_block (a := ⟨C, 14, none⟩) (hgrow.block C (by omega) hne)).trans ((hA.cell (p := ⟨C, 14, none⟩) hCw2).trans y14), (World.frozen?_of_block (a := ⟨C, 14, none⟩) (hgrow.block C (by omega) hne)).trans ((hA.frozen (p := ⟨C, 14, none⟩) hCw2).trans x14), by omega⟩, ⟨(cM 0).trans r0, (cM 1).trans r1, (cM 2).trans r2⟩, ?_⟩
              have hst := HF.out.step (u' := .slice (some ⟨gq, 0, none⟩) (K + 1) cq) hk1 hL (Nat.le_refl _) hA (by rw [hLF]; simpa only [HPN.out] using hown') (by rw [hu]; exact hgrow) (by
                rw [hu]
                rcases hat with y | y
                · exact .inl y.symm
                · exact .inr (by rw [hsa, ← y]; rfl))
              obtain ⟨Of', h'⟩ := hst
              exact ⟨Of', _, _, _, _, _, _, h'⟩
            clear hL hLF hu hk1 HML hMB HL hAl hOwn HF
            go_wp2_with fail
            -- REGION15
            refine wp_region_noPanic ?_
            refine wp_region_held_drew (S := fun u => u.cell? ⟨MB, 0, none⟩ = some (.int .i64 LF) ∧ u.cell? ⟨MB, 1, none⟩ = some (.pointer (some ⟨S', 0, none⟩)) ∧ u.cell? ⟨MB, 2, none⟩ = some (.slice (some ⟨E', 0, none⟩) n n)) (by kernel_rfl) ⟨r0, r1, r2⟩ (fun hHeld => ?_)
            refine tk 0 hHeld ?_
            refine tk 1 hHeld ?_
            refine tk 2 hHeld ?_
            refine tk 3 hHeld ?_
            refine tk 5 hHeld ?_
            refine rd2 4 6 (fun Kq hK => ?_) fun Kq hK => ?_
            · go_simp
              refine kp hK (fun hHeld => ?_) ⟨r0, r1, r2⟩
              clear hK Kq
              refine rdy 6 fun Kq hK => ?_
              go_simp
              refine kp hK (fun hHeld => ?_) ⟨r0a _, r1a _, r2a _⟩
              clear hK Kq
              refine rdy 7 fun Kq hK => ?_
              (refine step_append_lies _ (by rfl) _ _ _ (by rfl) (C + 1) 86 i1 (.agg #[.int .i64 0, .pointer none, .slice none 0 0]) 3 40 Tryz.underlying68 gi gz0 gz1 gz2 rfl (by decide) (.slice a K cap) K _ (by rfl) (hOwn2.alloc _) ⟨wc.heap.size, 0, none⟩ 1 1 [.int .i64 LF, .pointer (some ⟨S', 0, none⟩), .slice (some ⟨E', 0, none⟩) n n] (by rfl) rfl (row_cells wc.drew #[.int .i64 LF, .pointer (some ⟨S', 0, none⟩), .slice (some ⟨E', 0, none⟩) n n] 86) (by simp [Value.oneCell']) (by decide) (by unfold maxLen; omega) (by omega) (by simp; omega) (wc.heap.size + 1) (by simp) ?_; intro gq cq w3 hown' hgrow hat _; have hQ3 := HQ3.out gq cq w3 hown' hgrow hat; clear hown' hgrow hat; obtain ⟨⟨y14c, x14c, hC3⟩, ⟨s0, s1, s2⟩, hst⟩ := hQ3; have HST : Hid _ := hst; clear hst)
              refine kp hK (fun hHeld => ?_) ⟨s0, s1, s2⟩
              clear hK Kq
              refine tk 8 hHeld ?_
              refine tk 9 hHeld ?_
              refine rdy 10 fun Kq hK => ?_
              go_simp
              refine kp hK (fun hHeld => ?_) ⟨(cell_other (.inl hMC)).trans s0, (cell_other (.inl hMC)).trans s1, (cell_other (.inl hMC)).trans s2⟩
              clear hK Kq
              refine dn ?_
              refine NoPanic.normal ?_
              clear y14c x14c s0 s1 s2 r0 r1 r2 r0a r1a r2a y14 x14 y14a HQ3
              go_wp2
              go_roundw
              case rel => exact ⟨K + 1, by omega, by go_num, HST⟩
              case measure => simp [intOf]; omega
            · go_simp
              refine kp hK (fun hHeld => ?_) ⟨r0a _, r1a _, r2a _⟩
              clear hK Kq
              refine rdy 4 fun Kq hK => ?_
              go_simp
              refine kp hK (fun hHeld => ?_) ⟨r0a _, r1a _, r2a _⟩
              clear hK Kq
              refine rdy 7 fun Kq hK => ?_
              (refine step_append_lies _ (by rfl) _ _ _ (by rfl) (C + 1) 86 i1 (.agg #[.int .i64 0, .pointer none, .slice none 0 0]) 3 40 Tryz.underlying68 gi gz0 gz1 gz2 rfl (by decide) (.slice a K cap) K _ (by rfl) (hOwn2.alloc _) ⟨wc.heap.size, 0, none⟩ 1 1 [.int .i64 LF, .pointer (some ⟨S', 0, none⟩), .slice (some ⟨E', 0, none⟩) n n] (by rfl) rfl (row_cells wc.drew #[.int .i64 LF, .pointer (some ⟨S', 0, none⟩), .slice (some ⟨E', 0, none⟩) n n] 86) (by simp [Value.oneCell']) (by decide) (by unfold maxLen; omega) (by omega) (by simp; omega) (wc.heap.size + 1) (by simp) ?_; intro gq cq w3 hown' hgrow hat _; have hQ3 := HQ3.out gq cq w3 hown' hgrow hat; clear hown' hgrow hat; obtain ⟨⟨y14c, x14c, hC3⟩, ⟨s0, s1, s2⟩, hst⟩ := hQ3; have HST : Hid _ := hst; clear hst)
              refine kp hK (fun hHeld => ?_) ⟨s0, s1, s2⟩
              clear hK Kq
              refine tk 8 hHeld ?_
              refine tk 9 hHeld ?_
              refine rdy 10 fun Kq hK => ?_
              go_simp
              refine kp hK (fun hHeld => ?_) ⟨(cell_other (.inl hMC)).trans s0, (cell_other (.inl hMC)).trans s1, (cell_other (.inl hMC)).trans s2⟩
              clear hK Kq
              refine dn ?_
              refine NoPanic.normal ?_
              clear y14c x14c s0 s1 s2 r0 r1 r2 r0a r1a r2a y14 x14 y14a HQ3
              go_wp2
              go_roundw
              case rel => exact ⟨K + 1, by omega, by go_num, HST⟩
              case measure => simp [intOf]; omega
            -- END15
        · have hKn : K = nl := by omega
          have kj : decide (K < nl) = false := decide_eq_false (by omega)
          obtain ⟨Of, S, E, D, R, Q, u, hF⟩ := HI.out
          have HD : Hid (Below wz.heap.size w0 wr ∧ ∃ O m, Cl wr O C p fa cs ClS.start 0 1 m ∧ ∀ c, c ∈ O → wz.heap.size ≤ c) := by
            refine ⟨HB0.out.trans hF.bel, ?_⟩
            rw [hKn, ← HPL.out] at hF
            exact hF.whole H13.out.1 H13.out.2 HHN.out
          clear hF HI hKn hlt
          go_wp2
          go_ret
          exact ⟨rfl, HD.out⟩
end Go.Proofs.YtdmokcnoljlogaaGreatDoor
