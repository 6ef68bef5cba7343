/- The program's cluster: sends, where a node is wrong (10.3). (Made by tools/gen_pclus.py.) -/
import Derived.Test.YtdmokcnoljlogaaGreatDoorPCluS
namespace Go.Proofs.YtdmokcnoljlogaaGreatDoor
open Go.RowKit

section
variable {w : World} {O : List Nat} {C : Nat} {p : PlanN} {fa : Int} {cs : List Int} {s : ClS} {rd : Int} {B : Nat} {m : CMap}

set_option maxRecDepth 100000 in
set_option maxHeartbeats 4000000 in
theorem csends_wrong (h : Cl w O C p fa cs s rd B m) (i who : Nat) (mode : Int) (hi : i < p.ns) (hw : p.nd i = who) (hwn : who < p.n) (hnn : p.nodes = p.n) (hn : p.n ≤ 16) (hB0 : 1 ≤ B) (hs : sendsB (s.nodes who).g (s.nodes who).b (s.nodes who).fz = true) (hb : bitI fa who = true) (hm : mode = 2) (hr1 : 1 ≤ p.round) (hr2 : p.round ≤ 137438953472) (hrd : 0 ≤ rd) (hf0 : 0 ≤ p.fr i) (hf1 : p.fr i ≤ 1099511627776) (hnl : p.nl ≤ 8) (hB : B ≤ 9999990) (hlk : ∀ k, k < p.nl → 0 ≤ p.lf k ∧ 0 ≤ p.lb k ∧ p.lb k ≤ 1099511627776) :
    Calls Tryz.prog 19 #[.pointer (some ⟨C, 0, none⟩), .int .i64 i, .int .i64 mode] w fun e w' => e = .returned (.tuple #[frameV who i (bitsV (fun j => if j = who ∨ j = (who + 1) % p.n then !(s.nodes who).t j else (s.nodes who).t j) p.n) (msgLk (linksTo p.S who (rd * p.round + p.fr i) s.links p.nl).2) (msgSeq (linksTo p.S who (rd * p.round + p.fr i) s.links p.nl).2) (msgDat (linksTo p.S who (rd * p.round + p.fr i) s.links p.nl).2), .bool true]) ∧ ∃ O', Foot O O' w w' ∧ Cl w' O' C p fa cs ⟨(s.setNode who (s.nodes who).sent).nodes, (linksTo p.S who (rd * p.round + p.fr i) s.links p.nl).1, s.newest, s.ports⟩ rd B m := by
  obtain ⟨sb, soff, hsa, hsX, hsc⟩ := h.base.sl (by omega)
  obtain ⟨s0, s1, s2⟩ := hsc i hi
  have c6 := h.base.c6
  rw [hsa] at c6
  have hsl := h.base.lx _ hsX
  have hlC := h.base.lc
  have ii : (i : Int) < (p.ns : Int) := by omega
  rw [hw] at s0
  obtain ⟨FR, hFR⟩ : ∃ FR, p.fr i = FR := ⟨_, rfl⟩
  obtain ⟨TD, hTD⟩ : ∃ TD, p.td i = TD := ⟨_, rfl⟩
  rw [hFR] at s1
  rw [hTD] at s2
  have HFR : Hid (p.fr i = FR) := hFR
  obtain ⟨V, hVe⟩ : ∃ V, V = (((w.alloc (.cells #[.int .i64 0, .int .i64 0, .int .i64 0, .int .i64 0, .int .i64 0, .string ⟨#[]⟩] 72)).alloc (.cells #[.int .i64 who, .int .i64 FR, .int .i64 TD] 61)).alloc (.cells #[.int .i64 who, .int .i64 i, .int .i64 0, .int .i64 (-1), .int .i64 0, .string ⟨#[]⟩] 72)) := ⟨_, rfl⟩
  obtain ⟨bR, bS, bF, zR, zF, hBel, hsz⟩ := three_boxes w _ _ _ _ _ _ _ _ _ _ _ _ _ _ _ _ _ _ V hVe
  have HV0 : Hid (Foot O O w V) := Foot.of_below hBel
  have hc := h.below hBel
  have HX : Hid ((w.heap.size ∉ O ∧ w.heap.size + 1 ∉ O ∧ w.heap.size + 1 + 1 ∉ O) ∧ V.heap.size = w.heap.size + 3) := ⟨⟨fun y => Nat.lt_irrefl _ (h.lt _ y), fun y => by have := h.lt _ y; omega, fun y => by have := h.lt _ y; omega⟩, hsz⟩
  have HBR : Hid _ := bR
  have HBS : Hid _ := bS
  have HBF : Hid _ := bF
  have HZ : Hid _ := And.intro zR zF
  have HI0 : Hid (InCl O V V C p fa cs s rd B m) := ⟨O, Foot.refl _ _, hc⟩
  have HN : Hid (p.n ≤ 16 ∧ who < p.n ∧ p.nodes = p.n ∧ 1 ≤ B) := ⟨hn, hwn, hnn, hB0⟩
  have c13 := hc.base.c13
  have cnd := hc.base.nd who hwn
  have hnb := hc.base.lx _ hc.base.ndX
  have hlV := hc.base.lc
  have b0 : V.cell? ⟨w.heap.size + 1, 0, none⟩ = some (.int .i64 who) := bS 0 _ rfl
  have hse := fun (u : Nat) => csendsN (HI0.out.drawn u) who hwn hB0
  have HSE : Hid _ := hse
  obtain ⟨n, hpn⟩ : ∃ n, p.n = n := ⟨_, rfl⟩
  have HPN : Hid (p.n = n) := hpn
  have hsw : w.heap.size + 1 < V.heap.size := by omega
  have ww : (who : Int) < (n : Int) := by omega
  rw [hpn] at c13
  have HVE : Hid (V = _) := hVe
  clear hse bR bS bF zR zF hBel hsz hVe h hc hFR hTD hpn hwn hn hnn hsa hsc hw hi hsX
  have HS : Hid (sendsB (s.nodes who).g (s.nodes who).b (s.nodes who).fz = true) := hs
  rw [hs, if_pos rfl] at HSE
  obtain ⟨M, hM⟩ : ∃ M, bitsV (s.nodes who).t p.n = M := ⟨_, rfl⟩
  have HM : Hid (bitsV (s.nodes who).t p.n = M) := hM
  rw [hM] at HSE
  clear hM
  have HB9 : Hid ((1 ≤ p.round ∧ p.round ≤ 137438953472 ∧ 0 ≤ rd ∧ 0 ≤ p.fr i ∧ p.fr i ≤ 1099511627776 ∧ p.nl ≤ 8 ∧ B ≤ 9999990) ∧ ∀ k, k < p.nl → 0 ≤ p.lf k ∧ 0 ≤ p.lb k ∧ p.lb k ≤ 1099511627776) := ⟨⟨hr1, hr2, hrd, hf0, hf1, hnl, hB⟩, hlk⟩
  clear hr1 hr2 hrd hf0 hf1 hnl hB hlk
  subst hm
  go_enter Tryz.func19, Tryz.ntmps19
  go_wp2_with fail
  rw [← HVE.out]
  clear HVE c6 s0 s1 s2 hsl hlC
  go_region_held3 (fun u => u.cell? ⟨C, 13, none⟩ = some (.slice (some ⟨m.nb, 0, none⟩) n m.ncap) ∧ u.cell? ⟨w.heap.size + 1, 0, none⟩ = some (.int .i64 who) ∧ u.cell? ⟨m.nb, who, none⟩ = some (.pointer (some ⟨m.P who, 0, none⟩))) (go_keep) (first
    | (go_at_call 43; refine (HSE.out _).mono ?_; rintro ev v1 ⟨rfl, hI1⟩; have HI1 : Hid (InCl O V v1 C p fa cs (s.setNode who (s.nodes who).sent) rd B m) := hI1; have y13 := hI1.base.c13; rw [HPN.out] at y13; have y0 := (hI1.box hsw HX.out.1.2.1 0).trans b0; have ynd := hI1.base.nd who HN.out.2.1))
  have c10 := HI1.out.base.c10
  have hlC1 := HI1.out.base.lc
  have hsw1 : w.heap.size + 1 < v1.heap.size := Nat.lt_of_lt_of_le hsw HI1.out.size
  have cR : ∀ (j : Nat) (u : Value), (#[.int .i64 0, .int .i64 0, .int .i64 0, .int .i64 0, .int .i64 0, .string ⟨#[]⟩] : Array Value)[j]? = some u → v1.cell? ⟨w.heap.size, j, none⟩ = some u := fun j u hu => (HI1.out.box (by have := HX.out.2; omega) HX.out.1.1 j).trans (HBR.out j u hu)
  have cF : ∀ (j : Nat) (u : Value), (#[.int .i64 who, .int .i64 i, .int .i64 0, .int .i64 (-1), .int .i64 0, .string ⟨#[]⟩] : Array Value)[j]? = some u → v1.cell? ⟨w.heap.size + 1 + 1, j, none⟩ = some u := fun j u hu => (HI1.out.box (by have := HX.out.2; omega) HX.out.1.2.2 j).trans (HBF.out j u hu)
  have HcR : Hid _ := cR
  have HcF : Hid _ := cF
  have hhas := fun v => chas_any fa who (by have := HN.out; omega) v
  clear hI1 y13 ynd cR cF c13 cnd b0
  rw [hb] at hhas
  go_wp2_with fail
  go_quiet (first | (go_at_call 23; refine Calls.quiet_of_same (hhas _)))
  have hFl : w.heap.size + 1 + 1 < v1.heap.size := by have := HX.out.2; have := HI1.out.size; omega
  have hRl : w.heap.size < v1.heap.size := by omega
  have zr : ∀ j, v1.frozen? ⟨w.heap.size, j, none⟩ = false := fun j => by
    obtain ⟨O1, q1, _⟩ := HI1.out
    exact (q1.frozen (p := ⟨w.heap.size, j, none⟩) (by show w.heap.size < _; have := HX.out.2; omega) HX.out.1.1).trans (HZ.out.1 j)
  have zf : ∀ j, v1.frozen? ⟨w.heap.size + 1 + 1, j, none⟩ = false := fun j => by
    obtain ⟨O1, q1, _⟩ := HI1.out
    exact (q1.frozen (p := ⟨w.heap.size + 1 + 1, j, none⟩) (by show w.heap.size + 1 + 1 < _; have := HX.out.2; omega) HX.out.1.2.2).trans (HZ.out.2 j)
  have f0 : v1.cell? ⟨w.heap.size + 1 + 1, 0, none⟩ = some (.int .i64 who) := HcF.out 0 _ rfl
  have f1 : v1.cell? ⟨w.heap.size + 1 + 1, 1, none⟩ = some (.int .i64 i) := HcF.out 1 _ rfl
  have f2 : v1.cell? ⟨w.heap.size + 1 + 1, 2, none⟩ = some (.int .i64 0) := HcF.out 2 _ rfl
  have f3 : v1.cell? ⟨w.heap.size + 1 + 1, 3, none⟩ = some (.int .i64 (-1)) := HcF.out 3 _ rfl
  have f4 : v1.cell? ⟨w.heap.size + 1 + 1, 4, none⟩ = some (.int .i64 0) := HcF.out 4 _ rfl
  have f5 : v1.cell? ⟨w.heap.size + 1 + 1, 5, none⟩ = some (.string ⟨#[]⟩) := HcF.out 5 _ rfl
  have c0 : v1.cell? ⟨C, 0, none⟩ = some (.int .i64 (n : Int)) := by
    have := HI1.out.base.c0
    rw [HN.out.2.2.1, HPN.out] at this
    exact this
  obtain ⟨nx, hnx⟩ : ∃ nx, (who + 1) % n = nx := ⟨_, rfl⟩
  have hmod : Int.tmod ((who : Int) + 1) (n : Int) = (nx : Int) := by
    rw [Int.tmod_eq_emod_of_nonneg (by omega), ← hnx]
    exact_mod_cast rfl
  have hnz : ((n : Int) == 0) = false := by simp; omega
  have hn16 : n ≤ 16 := by have := HN.out.1; rw [HPN.out] at this; exact this
  have hxn : nx < n := by rw [← hnx]; exact Nat.mod_lt _ (by omega)
  have hb1 := fun v => cbit_any who (by omega) v
  have hb2 := fun v => cbit_any nx (by omega) v
  have HXE : Hid (bits BinOp.xor .i64 M (bits BinOp.or .i64 (2 ^ who) (2 ^ nx)) = bitsV (fun j => if j = who ∨ j = (who + 1) % p.n then !(s.nodes who).t j else (s.nodes who).t j) p.n) := by
    show _ = _
    rw [← HM.out, HPN.out, hnx]
    exact wrong_bits _ hn16 (by omega) hxn
  obtain ⟨XM, hXM⟩ : ∃ XM, bits BinOp.xor .i64 M (bits BinOp.or .i64 (2 ^ who) (2 ^ nx)) = XM := ⟨_, rfl⟩
  have HXM : Hid (XM = bitsV (fun j => if j = who ∨ j = (who + 1) % p.n then !(s.nodes who).t j else (s.nodes who).t j) p.n) := hXM.symm.trans HXE.out
  generalize (2 : Int) ^ who = PW1 at *
  generalize (2 : Int) ^ nx = PW2 at *
  obtain ⟨OV, hOV⟩ : ∃ OV, bits BinOp.or .i64 PW1 PW2 = OV := ⟨_, rfl⟩
  rw [hOV] at hXM
  clear HXE hnx
  go_wp2_with fail
  go_quiet (first | (go_at_call 30; first | refine (hb1 _).mono (fun e w' hh => ⟨hh.1, _, hh.2⟩) | refine (hb2 _).mono (fun e w' hh => ⟨hh.1, _, hh.2⟩)))
  clear hb1 hb2 hOV hXM hmod hnz c0
  have HLD : Hid (∀ u, Calls Tryz.prog 44 #[.pointer (some ⟨C, 0, none⟩), .pointer (some ⟨w.heap.size + 1 + 1, 0, none⟩), .int .i64 FR] ((v1.drewN u).setCell ⟨w.heap.size + 1 + 1, 2, none⟩ (.int .i64 XM)) fun e w' => e = .returned (.tuple #[]) ∧ ∃ LK SQ SD, (LK = msgLk (linksTo p.S who (rd * p.round + p.fr i) s.links p.nl).2 ∧ SQ = msgSeq (linksTo p.S who (rd * p.round + p.fr i) s.links p.nl).2 ∧ SD = msgDat (linksTo p.S who (rd * p.round + p.fr i) s.links p.nl).2) ∧
      (∃ O2, Foot O O2 w w' ∧ w.heap.size ∉ O2 ∧ Cl w' O2 C p fa cs ⟨(s.setNode who (s.nodes who).sent).nodes, (linksTo p.S who (rd * p.round + p.fr i) s.links p.nl).1, s.newest, s.ports⟩ rd B m) ∧ w.heap.size + 1 + 1 < w'.heap.size ∧
      (w'.cell? ⟨w.heap.size + 1 + 1, 0, none⟩ = some (.int .i64 who) ∧ w'.cell? ⟨w.heap.size + 1 + 1, 1, none⟩ = some (.int .i64 i) ∧ w'.cell? ⟨w.heap.size + 1 + 1, 2, none⟩ = some (.int .i64 XM) ∧ w'.cell? ⟨w.heap.size + 1 + 1, 3, none⟩ = some (.int .i64 LK) ∧ w'.cell? ⟨w.heap.size + 1 + 1, 4, none⟩ = some (.int .i64 SQ) ∧ w'.cell? ⟨w.heap.size + 1 + 1, 5, none⟩ = some (.string SD)) ∧
      ∀ j, w'.cell? ⟨w.heap.size, j, none⟩ = v1.cell? ⟨w.heap.size, j, none⟩ ∧ w'.frozen? ⟨w.heap.size, j, none⟩ = false) := by
    intro u
    obtain ⟨⟨g1, g2, g3, g4, g5, g6, g7⟩, g8⟩ := HB9.out
    obtain ⟨O1, q1, q2⟩ := HI1.out
    have hn1 : w.heap.size + 1 + 1 ∉ O1 := fun y => by
      rcases q1.fresh _ y with z | z
      · exact HX.out.1.2.2 z
      · have := HX.out.2; omega
    have hn0 : w.heap.size ∉ O1 := fun y => by
      rcases q1.fresh _ y with z | z
      · exact HX.out.1.1 z
      · have := HX.out.2; omega
    have hT : Turns (w.heap.size + 1 + 1) (w.heap.size + 1 + 1) v1 ((v1.drewN u).setCell ⟨w.heap.size + 1 + 1, 2, none⟩ (.int .i64 XM)) := (Turns.drawn u).set (p := ⟨w.heap.size + 1 + 1, 2, none⟩) (.inl rfl) _
    have q3 := q2.aside hT hn1
    have cc : ∀ j, j ≠ 2 → ((v1.drewN u).setCell ⟨w.heap.size + 1 + 1, 2, none⟩ (.int .i64 XM)).cell? ⟨w.heap.size + 1 + 1, j, none⟩ = v1.cell? ⟨w.heap.size + 1 + 1, j, none⟩ := fun j hj => cell_other (.inr hj)
    refine (cload_any q3 (w.heap.size + 1 + 1) who i XM FR (Nat.lt_of_lt_of_le hFl hT.size) hn1 (fun j => soft_set.trans (zf j)) ((cc 0 (by decide)).trans f0) ((cc 1 (by decide)).trans f1) (cell_set f2) ((cc 3 (by decide)).trans f3) ((cc 4 (by decide)).trans f4) ((cc 5 (by decide)).trans f5) g1 g2 g3 (HFR.out ▸ g4) (HFR.out ▸ g5) g6 g7 g8).mono ?_
    rintro e w' ⟨he, ⟨O2, k1, k2, k3⟩, d0, d1, d2, d3, d4, d5⟩
    rw [← HFR.out] at k3 d3 d4 d5
    have hsz : v1.heap.size ≤ w'.heap.size := Nat.le_trans hT.size k1.size
    refine ⟨he, _, _, _, ⟨rfl, rfl, rfl⟩, ⟨O2, ?_, ?_, k3⟩, by omega, ⟨d0, d1, d2, d3, d4, d5⟩, fun j => ⟨?_, ?_⟩⟩
    · have q4 := HV0.out.trans q1
      have q5 := q4.aside hT (by omega)
      refine ⟨k1.os.trans q5.os, k1.tape.trans q5.tape, k1.output.trans q5.output, Nat.le_trans q5.size k1.size, fun c hc hnc => ?_, fun c hc => ?_⟩
      · refine (k1.block c (Nat.lt_of_lt_of_le hc q5.size) (fun y => ?_)).trans (q5.block c hc hnc)
        rcases List.mem_cons.1 y with z | z
        · omega
        · rcases q5.fresh c z with z | z
          · exact hnc z
          · omega
      · rcases k1.fresh c (List.mem_cons_of_mem _ hc) with y | y
        · rcases List.mem_cons.1 y with z | z
          · exact absurd (z ▸ hc) k2
          · exact q5.fresh c z
        · exact .inr (Nat.le_trans q5.size y)
    · intro y
      rcases k1.fresh _ (List.mem_cons_of_mem _ y) with z | z
      · rcases List.mem_cons.1 z with z | z
        · omega
        · exact hn0 z
      · have := hT.size; omega
    · exact (k1.cell (p := ⟨w.heap.size, j, none⟩) (Nat.lt_of_lt_of_le hRl hT.size) (fun y => by
        rcases List.mem_cons.1 y with z | z
        · exact absurd z (by show w.heap.size ≠ _; omega)
        · exact hn0 z)).trans (cell_other (.inl (by show w.heap.size ≠ _; omega)))
    · exact (k1.frozen (p := ⟨w.heap.size, j, none⟩) (Nat.lt_of_lt_of_le hRl hT.size) (fun y => by
        rcases List.mem_cons.1 y with z | z
        · exact absurd z (by show w.heap.size ≠ _; omega)
        · exact hn0 z)).trans (soft_set.trans (zr j))
  have y1 : v1.cell? ⟨w.heap.size + 1, 1, none⟩ = some (.int .i64 FR) := (HI1.out.box hsw HX.out.1.2.1 1).trans (HBS.out 1 _ rfl)
  have zf2 := zf 2
  clear zr zf HBR HBS HBF HcF
  go_wp2_with fail
  refine (HLD.out _).mono ?_
  rintro e v2 ⟨rfl, LK, SQ, SD, hmsg, hcl, hl2, ⟨d0, d1, d2, d3, d4, d5⟩, hRR⟩
  have HMSG : Hid _ := hmsg
  have HCL : Hid _ := hcl
  have r0 := (hRR 0).1.trans (HcR.out 0 _ rfl)
  have r1 := (hRR 1).1.trans (HcR.out 1 _ rfl)
  have r2 := (hRR 2).1.trans (HcR.out 2 _ rfl)
  have r3 := (hRR 3).1.trans (HcR.out 3 _ rfl)
  have r4 := (hRR 4).1.trans (HcR.out 4 _ rfl)
  have r5 := (hRR 5).1.trans (HcR.out 5 _ rfl)
  have zr0 := (hRR 0).2
  have zr1 := (hRR 1).2
  have zr2 := (hRR 2).2
  have zr3 := (hRR 3).2
  have zr4 := (hRR 4).2
  have zr5 := (hRR 5).2
  have hl3 : w.heap.size < v2.heap.size := by omega
  have H6 : Hid _ := six_stores r0 r1 r2 r3 r4 r5 (.int .i64 who) (.int .i64 i) (.int .i64 XM) (.int .i64 LK) (.int .i64 SQ) (.string SD)
  clear hRR hmsg hcl HLD HcR f0 f1 f2 f3 f4 f5 y0 y1 c10
  go_wp2_with fail
  obtain ⟨⟨w0, w1, w2, w3, w4, w5⟩, hT⟩ := H6.out
  obtain ⟨rfl, rfl, rfl⟩ := HMSG.out
  obtain ⟨O2, k1, k2, k3⟩ := HCL.out
  exact bodyPost_ret (v := .tuple #[frameV who i XM (msgLk (linksTo p.S who (rd * p.round + p.fr i) s.links p.nl).2) (msgSeq (linksTo p.S who (rd * p.round + p.fr i) s.links p.nl).2) (msgDat (linksTo p.S who (rd * p.round + p.fr i) s.links p.nl).2), .bool true]) (by simp [results, Tryz.results19, go_sem, w0, w1, w2, w3, w4, w5]; rfl) rfl ⟨(by rw [HXM.out]), O2, k1.aside hT (Nat.le_refl _), k3.aside hT k2⟩

end
end Go.Proofs.YtdmokcnoljlogaaGreatDoor
