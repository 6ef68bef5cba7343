/- The program's cluster: Play (10.2, 10.3). -/
import Derived.Test.YtdmokcnoljlogaaGreatDoorPCluV
import Derived.Test.YtdmokcnoljlogaaGreatDoorPCluG
namespace Go.Proofs.YtdmokcnoljlogaaGreatDoor
open Go.RowKit

section
variable {w : World} {O : List Nat} {C : Nat} {p : PlanN} {fa : Int} {cs : List Int} {s : ClS} {rd : Int} {B : Nat} {m : CMap}

/-- Rounds is one more, and clocks are set. -/
theorem Cl.closed (h : Cl w O C p fa cs s rd B m) {g gc : Nat} {cs' : List Int} (hg : g < w.heap.size) (hgO : g ∉ O) (hcell : ∀ j, j < cs'.length → w.cell? ⟨g, j, none⟩ = some (.int .i64 (cs'.getD j 0))) (rd' : Int) :
    Cl ((w.setCell ⟨C, 12, none⟩ (.int .i64 rd')).setCell ⟨C, 11, none⟩ (.slice (some ⟨g, 0, none⟩) cs'.length gc)) (g :: O) C p fa cs' s rd' B { m with X := g :: m.X, cb := g, ccap := gc } ∧ Turns C C w ((w.setCell ⟨C, 12, none⟩ (.int .i64 rd')).setCell ⟨C, 11, none⟩ (.slice (some ⟨g, 0, none⟩) cs'.length gc)) := by
  have hT : Turns C C w ((w.setCell ⟨C, 12, none⟩ (.int .i64 rd')).setCell ⟨C, 11, none⟩ (.slice (some ⟨g, 0, none⟩) cs'.length gc)) := ((Turns.refl C C w).set (p := ⟨C, 12, none⟩) (.inl rfl) _).set (p := ⟨C, 11, none⟩) (.inl rfl) _
  refine ⟨?_, hT⟩
  obtain ⟨Of, h⟩ := h
  have hCO : C ∈ O := h.sub iB C (by rw [h.ob]; exact List.mem_cons_self)
  have hgC : g ≠ C := fun e => hgO (e ▸ hCO)
  have b := h.base
  have cC : ∀ j, j ≠ 11 → j ≠ 12 → ((w.setCell ⟨C, 12, none⟩ (.int .i64 rd')).setCell ⟨C, 11, none⟩ (.slice (some ⟨g, 0, none⟩) cs'.length gc)).cell? ⟨C, j, none⟩ = w.cell? ⟨C, j, none⟩ := fun j h1 h2 => (cell_other (.inr h1)).trans (cell_other (.inr h2))
  have cX : ∀ c j, c ≠ C → ((w.setCell ⟨C, 12, none⟩ (.int .i64 rd')).setCell ⟨C, 11, none⟩ (.slice (some ⟨g, 0, none⟩) cs'.length gc)).cell? ⟨c, j, none⟩ = w.cell? ⟨c, j, none⟩ := fun c j hc => (cell_other (.inl hc)).trans (cell_other (.inl hc))
  have nX : ∀ c, c ∈ m.X → c ≠ C := fun c hc e => b.nC (e ▸ hc)
  have hsz : ((w.setCell ⟨C, 12, none⟩ (.int .i64 rd')).setCell ⟨C, 11, none⟩ (.slice (some ⟨g, 0, none⟩) cs'.length gc)).heap.size = w.heap.size := by simp
  have same : ∀ i, i ≠ iB → Same (Of i) w ((w.setCell ⟨C, 12, none⟩ (.int .i64 rd')).setCell ⟨C, 11, none⟩ (.slice (some ⟨g, 0, none⟩) cs'.length gc)) := fun i hi => ⟨hT.size, fun c hc => by
    have : c ≠ C := fun e => h.fam.ap i iB hi c hc (by rw [h.ob, e]; exact List.mem_cons_self)
    exact hT.block c (h.fam.lt i c hc) this this⟩
  refine ⟨setO Of iB (C :: g :: m.X), ⟨?_, ?_, ?_, ?_, ?_, fun j hj => ?_, fun k hk => ?_, fun k j hk hj hb => ?_, fun k j hk hj hb => ?_⟩⟩
  · refine ⟨(cC 0 (by decide) (by decide)).trans b.c0, (cC 1 (by decide) (by decide)).trans b.c1, (cC 3 (by decide) (by decide)).trans b.c3, (cC 4 (by decide) (by decide)).trans b.c4, (cC 5 (by decide) (by decide)).trans b.c5, (cC 6 (by decide) (by decide)).trans b.c6, (cC 10 (by decide) (by decide)).trans b.c10, cell_set ((cell_other (.inr (by decide))).trans b.c11), (cell_other (.inr (by decide))).trans (cell_set b.c12), (cC 13 (by decide) (by decide)).trans b.c13, (cC 14 (by decide) (by decide)).trans b.c14, fun i => soft_set.trans (soft_set.trans (b.z i)), by rw [hsz]; exact b.lc, ?_, fun c hc => ?_, fun j hj => (cX g j hgC).trans (hcell j hj), List.mem_cons_self, fun h0 => ?_, fun j hj => (cX _ _ (nX _ b.ndX)).trans (b.nd j hj), List.mem_cons_of_mem _ b.ndX, fun h0 => ⟨(b.la h0).1, List.mem_cons_of_mem _ (b.la h0).2⟩, fun k hk => ?_, fun k hk => ⟨List.mem_cons_of_mem _ (b.en k hk).1, fun j hj => (cX _ _ (nX _ (b.en k hk).1)).trans ((b.en k hk).2 j hj)⟩, fun k j hk hj hb => ?_⟩
    · intro hc
      rcases List.mem_cons.1 hc with e | e
      · exact hgC e.symm
      · exact b.nC e
    · rw [hsz]
      rcases List.mem_cons.1 hc with e | e
      · subst e; exact hg
      · exact b.lx c e
    · obtain ⟨sb, off, e, hb, hc⟩ := b.sl h0
      exact ⟨sb, off, e, List.mem_cons_of_mem _ hb, fun i hi => ⟨(cX _ _ (nX _ hb)).trans (hc i hi).1, (cX _ _ (nX _ hb)).trans (hc i hi).2.1, (cX _ _ (nX _ hb)).trans (hc i hi).2.2⟩⟩
    · have hl := nX _ (b.la (by omega)).2
      obtain ⟨a1, a2, a3⟩ := b.lk k hk
      exact ⟨(cX _ _ hl).trans a1, (cX _ _ hl).trans a2, (cX _ _ hl).trans a3⟩
    · obtain ⟨a1, a2, a3⟩ := b.dn k j hk hj hb
      exact ⟨List.mem_cons_of_mem _ a1, (cX _ _ (nX _ a1)).trans a2, (cX _ _ (nX _ a1)).trans a3⟩
  · rw [setO_at]
  · refine ⟨fun i c hc => ?_, fun i j hij => ?_⟩
    · rw [hsz]
      by_cases e : i = iB
      · rw [e, setO_at] at hc
        rcases List.mem_cons.1 hc with y | y
        · subst y; exact b.lc
        · rcases List.mem_cons.1 y with z | z
          · subst z; exact hg
          · exact b.lx c z
      · rw [setO_not _ _ e] at hc; exact h.fam.lt i c hc
    · have key : ∀ i, i ≠ iB → Apart (C :: g :: m.X) (Of i) := fun i hi c hc hx => by
        rcases List.mem_cons.1 hc with y | y
        · exact h.fam.ap iB i (Ne.symm hi) c (by rw [h.ob, y]; exact List.mem_cons_self) hx
        · rcases List.mem_cons.1 y with z | z
          · exact hgO (z ▸ h.sub i c hx)
          · exact h.fam.ap iB i (Ne.symm hi) c (by rw [h.ob]; exact List.mem_cons_of_mem _ z) hx
      by_cases e : i = iB
      · rw [e, setO_at, setO_not _ _ (fun y => hij (e.trans y.symm))]
        exact key j (fun y => hij (e.trans y.symm))
      · rw [setO_not _ _ e]
        by_cases e' : j = iB
        · rw [e', setO_at]; exact (key i e).symm
        · rw [setO_not _ _ e']; exact h.fam.ap i j hij
  · intro i c hc
    by_cases e : i = iB
    · rw [e, setO_at] at hc
      rcases List.mem_cons.1 hc with y | y
      · subst y; exact List.mem_cons_of_mem _ hCO
      · rcases List.mem_cons.1 y with z | z
        · subst z; exact List.mem_cons_self
        · exact List.mem_cons_of_mem _ (h.sub iB c (by rw [h.ob]; exact List.mem_cons_of_mem _ z))
    · rw [setO_not _ _ e] at hc; exact List.mem_cons_of_mem _ (h.sub i c hc)
  · intro c hc
    rw [hsz]
    rcases List.mem_cons.1 hc with y | y
    · subst y; exact hg
    · exact h.lo c y
  · obtain ⟨⟨a1, a2⟩, a3⟩ := h.node j hj
    rw [setO_not _ _ (by intro y; cases y)]
    exact ⟨⟨a1.same (a2 ▸ same (iN j) (by intro y; cases y)), a2⟩, a3⟩
  · rw [setO_not _ _ (by intro y; cases y)]
    exact ⟨(h.snd k hk).1.keep (same (iS k) (by intro y; cases y)), (h.snd k hk).2⟩
  · rw [setO_not _ _ (by intro y; cases y)]
    obtain ⟨a, b, q, r⟩ := h.rcv k j hk hj hb
    exact ⟨a, b, q.keep (same (iR k j) (by intro y; cases y)), r⟩
  · rw [setO_not _ _ (by intro y; cases y)]
    obtain ⟨l, q, r⟩ := h.que k j hk hj hb
    exact ⟨l, q.keep (same (iQ k j) (by intro y; cases y)), r⟩

theorem csendsIn {V wr : World} (h : InCl O V wr C p fa cs s rd B m) (H : HapS) (i : Nat) (mode : Int) (hi : i < p.ns) (hl : H.lies = bitI fa) (hm : H.mode (p.S.nd i) = mode) (hnd : 0 ≤ p.nd i) (hwn : p.S.nd i < p.n) (hnn : p.nodes = p.n) (hn : p.n ≤ 16) (hB0 : 1 ≤ B)
    (hr1 : 1 ≤ p.round) (hr2 : p.round ≤ 137438953472) (hrd : 0 ≤ rd) (hf0 : 0 ≤ p.fr i) (hf1 : p.fr i ≤ 1099511627776) (hnl : p.nl ≤ 8) (hB : B ≤ 9999990) (hlk : ∀ k, k < p.nl → 0 ≤ p.lf k ∧ 0 ≤ p.lb k ∧ p.lb k ≤ 1099511627776) :
    Calls Tryz.prog 19 #[.pointer (some ⟨C, 0, none⟩), .int .i64 i, .int .i64 mode] wr fun e w' => ∃ mem sent LK SQ SD, e = .returned (.tuple #[.agg #[.int .i64 (p.S.nd i : Nat), .int .i64 i, .int .i64 mem, .int .i64 LK, .int .i64 SQ, .string SD], .bool sent]) ∧ ((LK = msgLk (s.goes p.S H rd i).2 ∧ SQ = msgSeq (s.goes p.S H rd i).2 ∧ SD = msgDat (s.goes p.S H rd i).2) ∧ MsgIn p (s.goes p.S H rd i).2 ∧ sent = s.sends H (p.S.nd i) ∧ (sent = true → mem = bitsV (s.tells p.S H (p.S.nd i)) p.n)) ∧ InCl O V w' C p fa cs (s.sentS p H rd i) rd B m := by
  obtain ⟨O', h, c⟩ := h
  have hmsg := c.msg H i
  refine (csendsA c H i mode hi hl hm hnd hwn hnn hn hB0 hr1 hr2 hrd hf0 hf1 hnl hB hlk).mono ?_
  rintro e w' ⟨mem, sent, he, h1, h2, O'', h3, h4⟩
  exact ⟨mem, sent, _, _, _, he, ⟨⟨rfl, rfl, rfl⟩, hmsg, h1, h2⟩, O'', h.trans h3, h4⟩
theorem cslotIn {V wr : World} {H : HapS} {i : Nat} {mem l0 l1 LK SQ : Int} {SD : ByteArray} {sent : Bool} (h : InCl O V wr C p fa cs (s.sentS p H rd i) rd B m) (hx : (LK = msgLk (s.goes p.S H rd i).2 ∧ SQ = msgSeq (s.goes p.S H rd i).2 ∧ SD = msgDat (s.goes p.S H rd i).2) ∧ MsgIn p (s.goes p.S H rd i).2 ∧ sent = s.sends H (p.S.nd i) ∧ (sent = true → mem = bitsV (s.tells p.S H (p.S.nd i)) p.n)) (hw : p.S.nd i < p.n) (hn : p.n ≤ 16) (hB : B ≤ 9999000) (h0 : ∀ j, j < p.n → bitI l0 j = H.lost i 0 j) (h1 : ∀ j, j < p.n → bitI l1 j = H.lost i 1 j) :
    Calls Tryz.prog 21 #[.pointer (some ⟨C, 0, none⟩), .agg #[.int .i64 (p.S.nd i : Nat), .int .i64 i, .int .i64 mem, .int .i64 LK, .int .i64 SQ, .string SD], .bool sent, .agg #[.int .i64 l0, .int .i64 l1]] wr fun e w' => e = .returned (.tuple #[]) ∧ InCl O V w' C p fa cs (s.slot p.S H rd i) rd (B + 5 * p.n) m := by
  obtain ⟨O', h, c⟩ := h
  obtain ⟨⟨rfl, rfl, rfl⟩, hm, hs, hmem⟩ := hx
  refine (cslot_any c hm hw hn hB hs hmem h0 h1).mono ?_
  rintro e w' ⟨he, O'', h3, h4⟩
  exact ⟨he, O'', h.trans h3, h4⟩
end
end Go.Proofs.YtdmokcnoljlogaaGreatDoor

/- The program's cluster: Play, walked (10.2, 10.3). -/
namespace Go.Proofs.YtdmokcnoljlogaaGreatDoor
open Go.RowKit

section
variable {w : World} {O : List Nat} {C : Nat} {p : PlanN} {fa : Int} {cs : List Int} {s : ClS} {rd : Int} {B : Nat} {m : CMap}

theorem InCl.start {V : World} (h : InCl O w V C p fa cs s rd B m) : ∃ O1, Foot O O1 w V ∧ InCl O1 V V C p fa cs s rd B m := by
  obtain ⟨O1, h1, h2⟩ := h
  exact ⟨O1, h1, O1, Foot.refl _ _, h2⟩

/-- What Play answers. -/
def PlayIs (w w' : World) (O : List Nat) (C : Nat) (p : PlanN) (fa : Int) (cs : List Int) (s : ClS) (rd : Int) (B : Nat) (m : CMap) (r : RoundN) (e : Ending) : Prop :=
  ∃ O', Foot O O' w w' ∧ ((cluFar p fa cs r = true ∧ e = .returned (errV 6) ∧ Cl w' O' C p fa cs s rd B m) ∨ (cluFar p fa cs r = false ∧ e = .returned (errV 0) ∧ ∃ m', Cl w' O' C p fa (cluTo p fa cs r) (cluOn p fa s rd r) (rd + 1) (B + 2600) m'))

set_option maxRecDepth 100000 in
set_option maxHeartbeats 4000000 in
theorem cplay_any (h : Cl w O C p fa cs s rd B m) (hok : CluOk p fa cs) (hrd : 0 ≤ rd) (hrd1 : rd ≤ 1000000) (hB0 : 1 ≤ B) (hB : B ≤ 9000000) (r : RoundN) (a : RoundAt) (hr : r.In a w) (hma : ∀ b off, a.ma = some ⟨b, off, none⟩ → 0 < r.modes.length → b ∉ O) :
    Calls Tryz.prog 8 #[.pointer (some ⟨C, 0, none⟩), r.val a] w fun e w' => PlayIs w w' O C p fa cs s rd B m r e := by
  have hb := hok.plan.bounds
  have hnn : p.nodes = (p.n : Int) := by show p.nodes = (p.nodes.toNat : Int); have := hb.n1; omega
  have hn16 : p.n ≤ 16 := by have := hb.n2; omega
  have hn1 : 1 ≤ p.n := by have := hb.n1; omega
  obtain ⟨f, hf⟩ : ∃ f : Nat, p.faulty = f := ⟨p.faulty.toNat, by have := hb.f0; omega⟩
  have hf3 : 3 * f + 1 ≤ p.n := by have := hb.f3; omega
  have HAG : Hid (∀ v, Below w.heap.size w v → Calls Tryz.prog 17 #[.pointer (some ⟨C, 0, none⟩), r.val a] v fun e w' => Below v.heap.size v w' ∧ AgreedIs v w' p.n (cluFar p fa cs r) (clocksTo p.n f (bitI fa) p.jitter p.drift (fun i => cs.getD i 0) r.reads r.drifts) e) := fun v hv => by
    have hc := h.below hv
    have b := hc.base
    have c0 := b.c0
    have c1 := b.c1
    have c11 := b.c11
    rw [hnn] at c0
    rw [hf] at c1
    rw [hok.len] at c11
    have hag := cagreed_any C m.cb p.n m.ccap f fa p.jitter p.drift cs hok.len v c0 c1 b.c3 b.c4 b.c10 c11 b.ck hok.inn hf3 hn16 hb.j0 hb.j1 hb.d0 hb.d1 r a (hr.below hv)
    have e : f = p.faulty.toNat := by rw [hf]; rfl
    unfold cluFar
    rw [← e]
    exact hag
  have HLO : Hid (∀ v, Below w.heap.size w v → Calls Tryz.prog 18 #[.pointer (some ⟨C, 0, none⟩), .slice a.la r.nL a.lc] v fun e w' => ∃ T, e = .returned (.slice (some ⟨T, 0, none⟩) p.ns p.ns) ∧ v.heap.size ≤ T ∧ LTab w' T p.ns (lostF r r.nL) ∧ Below v.heap.size v w') := fun v hv => clost_any C m.sa p.ns m.scap r a.la a.lc v (h.below hv).base.c6 hb.ns (hr.losses.below hv) hr.lL
  have HOF : Hid (∀ (V wr : World) (s1 : ClS) (B1 j : Nat), InCl O V wr C p fa cs s1 rd B1 m → Below w.heap.size w V → Calls Tryz.prog 20 #[.slice a.ma r.modes.length a.mc, .int .i64 j] wr fun e w' => e = .returned (.int .i64 ((r.hap fa).mode j)) ∧ w' = wr) := fun V wr s1 B1 j hI hV => cof_any a.ma a.mc r.modes j r.modes.length rfl hr.lM wr (fun h0 => by
    obtain ⟨b, off, e, hl, hc⟩ := hr.modes h0
    have hn := hma b off e h0
    have hlV : b < V.heap.size := Nat.lt_of_lt_of_le hl hV.size
    exact ⟨b, off, e, Nat.lt_of_lt_of_le hlV hI.size, fun x hx => (hI.box hlV hn (off + x)).trans ((hV.cell (p := ⟨b, off + x, none⟩) hl).trans (hc x hx))⟩)
  have HSE : Hid (∀ (O1 : List Nat) (V wr : World) (s1 : ClS) (B1 i : Nat), InCl O1 V wr C p fa cs s1 rd B1 m → i < p.ns → 1 ≤ B1 → B1 ≤ 9999000 → Calls Tryz.prog 19 #[.pointer (some ⟨C, 0, none⟩), .int .i64 i, .int .i64 ((r.hap fa).mode (p.S.nd i))] wr fun e w' => ∃ mem sent LK SQ SD, e = .returned (.tuple #[.agg #[.int .i64 (p.S.nd i : Nat), .int .i64 i, .int .i64 mem, .int .i64 LK, .int .i64 SQ, .string SD], .bool sent]) ∧ ((LK = msgLk (s1.goes p.S (r.hap fa) rd i).2 ∧ SQ = msgSeq (s1.goes p.S (r.hap fa) rd i).2 ∧ SD = msgDat (s1.goes p.S (r.hap fa) rd i).2) ∧ MsgIn p (s1.goes p.S (r.hap fa) rd i).2 ∧ sent = s1.sends (r.hap fa) (p.S.nd i) ∧ (sent = true → mem = bitsV (s1.tells p.S (r.hap fa) (p.S.nd i)) p.n)) ∧ InCl O1 V w' C p fa cs (s1.sentS p (r.hap fa) rd i) rd B1 m) := fun O1 V wr s1 B1 i hI hi h1 h2 => by
    obtain ⟨⟨t1, t2⟩, t3, t4⟩ := hb.slot i hi
    have := hb.r1
    exact csendsIn hI (r.hap fa) i _ hi rfl rfl t1 (by show (p.nd i).toNat < p.n; omega) hnn hn16 h1 hb.r0 hb.r1 hrd t3 (by omega) hb.nl (by omega) (fun k hk => by
      obtain ⟨⟨l1, _⟩, _, ⟨l3, l4⟩, _⟩ := hb.link k hk
      exact ⟨l1, by omega, by omega⟩)
  have HHE : Hid (∀ (O1 : List Nat) (V wr : World) (s1 : ClS) (B1 i : Nat) (mem LK SQ : Int) (SD : ByteArray) (sent : Bool), InCl O1 V wr C p fa cs (s1.sentS p (r.hap fa) rd i) rd B1 m → i < p.ns → B1 ≤ 9999000 → ((LK = msgLk (s1.goes p.S (r.hap fa) rd i).2 ∧ SQ = msgSeq (s1.goes p.S (r.hap fa) rd i).2 ∧ SD = msgDat (s1.goes p.S (r.hap fa) rd i).2) ∧ MsgIn p (s1.goes p.S (r.hap fa) rd i).2 ∧ sent = s1.sends (r.hap fa) (p.S.nd i) ∧ (sent = true → mem = bitsV (s1.tells p.S (r.hap fa) (p.S.nd i)) p.n)) → Calls Tryz.prog 21 #[.pointer (some ⟨C, 0, none⟩), .agg #[.int .i64 (p.S.nd i : Nat), .int .i64 i, .int .i64 mem, .int .i64 LK, .int .i64 SQ, .string SD], .bool sent, .agg #[.int .i64 (lostF r r.nL i 0), .int .i64 (lostF r r.nL i 1)]] wr fun e w' => e = .returned (.tuple #[]) ∧ InCl O1 V w' C p fa cs (s1.slot p.S (r.hap fa) rd i) rd (B1 + 80) m) := fun O1 V wr s1 B1 i mem LK SQ SD sent hI hi h2 hx => by
    obtain ⟨⟨t1, t2⟩, t3, t4⟩ := hb.slot i hi
    refine (cslotIn hI hx (by show (p.nd i).toNat < p.n; omega) hn16 h2 (fun j hj => lostF_bit r i 0 (by omega) r.nL) (fun j hj => lostF_bit r i 1 (by omega) r.nL)).mono ?_
    rintro e w' ⟨he, hi'⟩
    exact ⟨he, hi'.more (by omega)⟩
  have HDN : Hid (∀ v (O1 : List Nat) (m1 : CMap) (s1 : ClS) g gc, Cl v O1 C p fa cs s1 rd (B + 80 * p.ns) m1 → g < v.heap.size → g ∉ O1 → (∀ j, j < p.n → v.cell? ⟨g, j, none⟩ = some (.int .i64 (clocksTo p.n f (bitI fa) p.jitter p.drift (fun i => cs.getD i 0) r.reads r.drifts j))) → ∃ m', Cl ((v.setCell ⟨C, 12, none⟩ (.int .i64 (rd + 1))).setCell ⟨C, 11, none⟩ (.slice (some ⟨g, 0, none⟩) p.n gc)) (g :: O1) C p fa (cluTo p fa cs r) s1 (rd + 1) (B + 2600) m' ∧ Turns C C v ((v.setCell ⟨C, 12, none⟩ (.int .i64 (rd + 1))).setCell ⟨C, 11, none⟩ (.slice (some ⟨g, 0, none⟩) p.n gc))) := fun v O1 m1 s1 g gc hc hg hgO hcell => by
    have e : f = p.faulty.toNat := by rw [hf]; rfl
    have hlen : (cluTo p fa cs r).length = p.n := by simp [cluTo]
    have := hc.closed (g := g) (gc := gc) (cs' := cluTo p fa cs r) hg hgO (fun j hj => by
      rw [hlen] at hj
      rw [hcell j hj]
      unfold cluTo
      rw [← e]
      simp [hj]) (rd + 1)
    rw [hlen] at this
    exact ⟨_, this.1.more (by have := hb.ns; omega), this.2⟩
  have HC0 : Hid (Cl w O C p fa cs s rd B m) := h
  have HSL : Hid (∀ i, i < p.ns → ∃ b off, m.sa = some ⟨b, off, none⟩ ∧ b ∈ m.X ∧ p.nd i = ((p.S.nd i : Nat) : Int)) := fun i hi => by
    obtain ⟨b, off, h1, h2, _⟩ := h.base.sl (by omega)
    obtain ⟨⟨t1, t2⟩, _⟩ := hb.slot i hi
    exact ⟨b, off, h1, h2, by show p.nd i = ((p.nd i).toNat : Int); omega⟩
  have HRD : Hid (0 ≤ rd ∧ rd ≤ 1000000) := ⟨hrd, hrd1⟩
  have HNS : Hid (p.ns ≤ 32 ∧ B ≤ 9000000 ∧ 1 ≤ B ∧ 1 ≤ p.n) := ⟨hb.ns, hB, hB0, hn1⟩
  have HON : Hid (cluOn p fa s rd r = s.slots p.S (r.hap fa) rd p.ns) := rfl
  generalize hFX : clocksTo p.n f (bitI fa) p.jitter p.drift (fun i => cs.getD i 0) r.reads r.drifts = CT at HAG HDN
  clear hFX
  unfold RoundN.val at HAG ⊢
  obtain ⟨nL, hnL⟩ : ∃ nL, r.nL = nL := ⟨_, rfl⟩
  obtain ⟨nR, hnR⟩ : ∃ nR, r.nR = nR := ⟨_, rfl⟩
  obtain ⟨nD, hnD⟩ : ∃ nD, r.drifts.length = nD := ⟨_, rfl⟩
  obtain ⟨nM, hnM⟩ : ∃ nM, r.modes.length = nM := ⟨_, rfl⟩
  rw [hnL, hnR, hnD, hnM] at HAG
  rw [hnL] at HLO HHE
  rw [hnM] at HOF
  rw [hnL, hnR, hnD, hnM]
  obtain ⟨⟨q0, q1, q2, q3⟩, qB, qS⟩ := box4 w (.slice a.la nL a.lc) (.slice a.ra nR a.rc) (.slice a.da nD a.dc) (.slice a.ma nM a.mc) 35
  have HQB : Hid (Below w.heap.size w (w.alloc (.cells #[.slice a.la nL a.lc, .slice a.ra nR a.rc, .slice a.da nD a.dc, .slice a.ma nM a.mc] 35))) := qB
  have hag := HAG.out (w.alloc (.cells #[.slice a.la nL a.lc, .slice a.ra nR a.rc, .slice a.da nD a.dc, .slice a.ma nM a.mc] 35)) qB
  have HFO : Hid (w.heap.size ∉ O) := fun y => Nat.lt_irrefl _ (h.lt _ y)
  have hl1 : w.heap.size < (w.alloc (.cells #[.slice a.la nL a.lc, .slice a.ra nR a.rc, .slice a.da nD a.dc, .slice a.ma nM a.mc] 35)).heap.size := by rw [qS]; omega
  obtain ⟨n, hpn⟩ : ∃ n, p.n = n := ⟨_, rfl⟩
  have HPN : Hid (p.n = n) := hpn
  rw [hpn] at hag HDN
  obtain ⟨ns, hpns⟩ : ∃ ns, p.ns = ns := ⟨_, rfl⟩
  have HPNS : Hid (p.ns = ns) := hpns
  rw [hpns] at HLO
  have HPO : Hid (∀ (w' : World) (e : Ending), PlayIs w w' O C p fa cs s rd B m r e ↔ PlayIs w w' O C p fa cs s rd B m r e) := fun _ _ => Iff.rfl
  clear hnL hnR hnD hnM hr h hok hb hnn hn16 hn1 hf hf3 hrd HPO qB hpn hpns hB0 hB
  go_enter Tryz.func8, Tryz.ntmps8
  go_wp2_with fail
  refine hag.mono ?_
  rintro e v1 ⟨hb1, hAI⟩
  generalize (w.alloc (.cells #[.slice a.la nL a.lc, .slice a.ra nR a.rc, .slice a.da nD a.dc, .slice a.ma nM a.mc] 35)) = V at *
  clear hag HAG
  rcases hAI with ⟨hBY, rfl⟩ | ⟨hBY, g, gc, rfl, hg, hgc⟩
  · have HD : Hid (PlayIs w v1 O C p fa cs s rd B m r (.returned (errV 6))) := by
      have hbb : Below w.heap.size w v1 := HQB.out.trans ⟨hb1.os, hb1.tape, hb1.output, hb1.size, fun c hc => hb1.block c (Nat.lt_of_lt_of_le hc HQB.out.size)⟩
      exact ⟨O, Foot.of_below hbb, .inl ⟨hBY, rfl, HC0.out.below hbb⟩⟩
    clear HDN HHE HSE HOF HLO
    have h6 : errV 6 = .iface 39 (.int .i64 6) := rfl
    rw [h6] at HD ⊢
    go_wp2
    go_ret
    exact HD.out
  · have hbb : Below w.heap.size w v1 := HQB.out.trans ⟨hb1.os, hb1.tape, hb1.output, hb1.size, fun c hc => hb1.block c (Nat.lt_of_lt_of_le hc HQB.out.size)⟩
    have hlo := HLO.out v1 hbb
    have y0 := (hb1.cell (p := ⟨w.heap.size, 0, none⟩) hl1).trans q0
    have hl2 : w.heap.size < v1.heap.size := Nat.lt_of_lt_of_le hl1 hb1.size
    have HB1 : Hid (Below w.heap.size w v1 ∧ Below V.heap.size V v1) := ⟨hbb, hb1⟩
    have HGC : Hid ((V.heap.size ≤ g ∧ g < v1.heap.size) ∧ ∀ j, j < n → v1.cell? ⟨g, j, none⟩ = some (.int .i64 (CT j))) := ⟨hg, hgc⟩
    have HFA : Hid (cluFar p fa cs r = false) := hBY
    clear HLO hbb hb1 hg hgc hBY
    go_wp2_with fail
    refine hlo.mono ?_
    rintro e v2 ⟨T, rfl, hT, hLT, hb2⟩
    have HV2 : Hid ((w.heap.size < v2.heap.size ∧ v2.cell? ⟨w.heap.size, 3, none⟩ = some (.slice a.ma nM a.mc)) ∧ ((V.heap.size ≤ g ∧ g < v2.heap.size) ∧ ∀ j, j < n → v2.cell? ⟨g, j, none⟩ = some (.int .i64 (CT j))) ∧ (V.heap.size ≤ T ∧ LTab v2 T ns (lostF r nL)) ∧ Below w.heap.size w v2) := by
      obtain ⟨h1, h2⟩ := HB1.out
      obtain ⟨⟨g1, g2⟩, g3⟩ := HGC.out
      have hV2 : Below V.heap.size V v2 := h2.trans (hb2.mono h2.size)
      exact ⟨⟨Nat.lt_of_lt_of_le hl2 hb2.size, (hV2.cell (p := ⟨w.heap.size, 3, none⟩) hl1).trans q3⟩, ⟨⟨g1, Nat.lt_of_lt_of_le g2 hb2.size⟩, fun j hj => (hb2.cell (p := ⟨g, j, none⟩) g2).trans (g3 j hj)⟩, ⟨Nat.le_trans h2.size hT, hLT⟩, h1.trans (hb2.mono h1.size)⟩
    have HI0 : Hid (InCl O v2 v2 C p fa cs s rd B m) := ⟨O, Foot.refl _ _, HC0.out.below HV2.out.2.2.2⟩
    have HOO : Hid (∀ c, c ∈ O → c < w.heap.size) := HC0.out.lt
    have hVw : w.heap.size < V.heap.size := hl1
    have hlC := HI0.out.base.lc
    have c6 := HI0.out.base.c6
    rw [HPNS.out] at c6
    clear hlo hT hLT hb2 HB1 HGC y0 hl2 q0 q1 q2 q3 hl1 qS
    go_wp2_with fail
    clear c6 hlC
    go_loopw [31] (fun t wr => ∃ i : Nat, i ≤ ns ∧ t = .int .i64 i ∧ Hid (InCl O v2 wr C p fa cs (s.slots p.S (r.hap fa) rd i) rd (B + 80 * i) m)) (fun t _ => ns - (intOf t).toNat)
    case atStart => exact ⟨0, Nat.zero_le _, rfl, HI0⟩
    case round =>
      clear HI0
      obtain ⟨i, hi, rfl, HI⟩ := hrel
      by_cases hlt : i < ns
      · have hns32 : ns ≤ 32 := by have := HNS.out.1; rw [HPNS.out] at this; exact this
        have ii : (i : Int) < (ns : Int) := by omega
        obtain ⟨sb, soff, hsa, hsX, hsc⟩ := HI.out.base.sl (by rw [HPNS.out]; omega)
        obtain ⟨s0, s1, s2⟩ := hsc i (by rw [HPNS.out]; exact hlt)
        have hsl := HI.out.base.lx _ hsX
        have hiP : Hid (i < p.ns) := by show i < p.ns; rw [HPNS.out]; exact hlt
        obtain ⟨_, _, _, _, hnd⟩ := HSL.out i hiP.out
        rw [hnd] at s0
        rw [hsa]
        have HBW : Hid (Below w.heap.size w v2) := HV2.out.2.2.2
        have rm : wr.cell? ⟨w.heap.size, 3, none⟩ = some (.slice a.ma nM a.mc) := (HI.out.box HV2.out.1.1 (fun y => Nat.lt_irrefl _ (HOO.out _ y)) 3).trans HV2.out.1.2
        have hlw : w.heap.size < wr.heap.size := Nat.lt_of_lt_of_le HV2.out.1.1 HI.out.size
        obtain ⟨FRi, hFRi⟩ : ∃ x, p.fr i = x := ⟨_, rfl⟩
        obtain ⟨TDi, hTDi⟩ : ∃ x, p.td i = x := ⟨_, rfl⟩
        rw [hFRi] at s1
        rw [hTDi] at s2
        obtain ⟨who, hwho⟩ : ∃ x : Nat, p.S.nd i = x := ⟨_, rfl⟩
        have HWHO : Hid (p.S.nd i = who) := hwho
        rw [hwho] at s0
        clear hFRi hTDi hsc hwho hnd
        obtain ⟨b0, b1, b2, bB, bS⟩ := box3 wr (.int .i64 who) (.int .i64 FRi) (.int .i64 TDi) 61
        have rm1 := (bB.cell (p := ⟨w.heap.size, 3, none⟩) hlw).trans rm
        have hwb : w.heap.size < (wr.alloc (.cells #[.int .i64 who, .int .i64 FRi, .int .i64 TDi] 61)).heap.size := by rw [bS]; omega
        have hwc : wr.heap.size < (wr.alloc (.cells #[.int .i64 who, .int .i64 FRi, .int .i64 TDi] 61)).heap.size := by rw [bS]; omega
        have HI1 : Hid (InCl O v2 (wr.alloc (.cells #[.int .i64 who, .int .i64 FRi, .int .i64 TDi] 61)) C p fa cs (s.slots p.S (r.hap fa) rd i) rd (B + 80 * i) m) := HI.out.below bB
        have hof := HOF.out v2 (wr.alloc (.cells #[.int .i64 who, .int .i64 FRi, .int .i64 TDi] 61)) _ _ who HI1.out HBW.out
        have hse := HSE.out O v2 (wr.alloc (.cells #[.int .i64 who, .int .i64 FRi, .int .i64 TDi] 61)) _ _ i HI1.out hiP.out (by have := HNS.out; omega) (by have := HNS.out; have := hiP.out; omega)
        rw [HWHO.out] at hse
        clear bB bS rm HI hsl hsa hsX
        go_wp2_with fail
        clear s0 s1 s2
        generalize (wr.alloc (.cells #[.int .i64 who, .int .i64 FRi, .int .i64 TDi] 61)) = V1 at *
        refine hof.mono ?_
        rintro e v7 ⟨rfl, hv7⟩
        replace hv7 := hv7.symm
        subst hv7
        clear hof
        go_wp2_with fail
        refine hse.mono ?_
        rintro e v3 ⟨mem, sent, LK, SQ, SD, rfl, hx, hI3⟩
        obtain ⟨fx, fz, fB, fS⟩ := box_any v3 #[.int .i64 who, .int .i64 i, .int .i64 mem, .int .i64 LK, .int .i64 SQ, .string SD] 72
        obtain ⟨O3, hF3, hC3⟩ := hI3
        have HF3 : Hid (Foot O O3 v2 (v3.alloc (.cells #[.int .i64 who, .int .i64 i, .int .i64 mem, .int .i64 LK, .int .i64 SQ, .string SD] 72))) := hF3.trans (Foot.of_below fB)
        have hI4 : InCl O v2 (v3.alloc (.cells #[.int .i64 who, .int .i64 i, .int .i64 mem, .int .i64 LK, .int .i64 SQ, .string SD] 72)) C p fa cs ((s.slots p.S (r.hap fa) rd i).sentS p (r.hap fa) rd i) rd (B + 80 * i) m := ⟨O3, HF3.out, hC3.below fB⟩
        have hI5 : InCl O3 (v3.alloc (.cells #[.int .i64 who, .int .i64 i, .int .i64 mem, .int .i64 LK, .int .i64 SQ, .string SD] 72)) (v3.alloc (.cells #[.int .i64 who, .int .i64 i, .int .i64 mem, .int .i64 LK, .int .i64 SQ, .string SD] 72)) C p fa cs ((s.slots p.S (r.hap fa) rd i).sentS p (r.hap fa) rd i) rd (B + 80 * i) m := ⟨O3, Foot.refl _ _, hC3.below fB⟩
        have HBO : Hid (v3.heap.size ∉ O3 ∧ T ∉ O3) := ⟨fun y => Nat.lt_irrefl _ (hC3.lt _ y), fun y => by
          rcases hF3.fresh _ y with q | q
          · have := HOO.out _ q; have := HV2.out.2.2.1.1; omega
          · have := HV2.out.2.2.1.2.lt; omega⟩
        have g0 : (v3.alloc (.cells #[.int .i64 who, .int .i64 i, .int .i64 mem, .int .i64 LK, .int .i64 SQ, .string SD] 72)).cell? ⟨v3.heap.size, 0, none⟩ = some (.int .i64 who) := fx 0 _ rfl
        have g1 : (v3.alloc (.cells #[.int .i64 who, .int .i64 i, .int .i64 mem, .int .i64 LK, .int .i64 SQ, .string SD] 72)).cell? ⟨v3.heap.size, 1, none⟩ = some (.int .i64 i) := fx 1 _ rfl
        have g2 : (v3.alloc (.cells #[.int .i64 who, .int .i64 i, .int .i64 mem, .int .i64 LK, .int .i64 SQ, .string SD] 72)).cell? ⟨v3.heap.size, 2, none⟩ = some (.int .i64 mem) := fx 2 _ rfl
        have g3 : (v3.alloc (.cells #[.int .i64 who, .int .i64 i, .int .i64 mem, .int .i64 LK, .int .i64 SQ, .string SD] 72)).cell? ⟨v3.heap.size, 3, none⟩ = some (.int .i64 LK) := fx 3 _ rfl
        have g4 : (v3.alloc (.cells #[.int .i64 who, .int .i64 i, .int .i64 mem, .int .i64 LK, .int .i64 SQ, .string SD] 72)).cell? ⟨v3.heap.size, 4, none⟩ = some (.int .i64 SQ) := fx 4 _ rfl
        have g5 : (v3.alloc (.cells #[.int .i64 who, .int .i64 i, .int .i64 mem, .int .i64 LK, .int .i64 SQ, .string SD] 72)).cell? ⟨v3.heap.size, 5, none⟩ = some (.string SD) := fx 5 _ rfl
        have hgl : v3.heap.size < (v3.alloc (.cells #[.int .i64 who, .int .i64 i, .int .i64 mem, .int .i64 LK, .int .i64 SQ, .string SD] 72)).heap.size := by rw [fS]; omega
        have hTO : T ∉ O := fun y => by have := HOO.out _ y; have := HV2.out.2.2.1.1; omega
        have hTl : T < v2.heap.size := HV2.out.2.2.1.2.lt
        have t0 : (v3.alloc (.cells #[.int .i64 who, .int .i64 i, .int .i64 mem, .int .i64 LK, .int .i64 SQ, .string SD] 72)).cell? ⟨T, i * 2, none⟩ = some (.int .i64 (lostF r nL i 0)) := (hI4.box hTl hTO (i * 2)).trans (HV2.out.2.2.1.2.c i 0 hlt (by decide))
        have t1 : (v3.alloc (.cells #[.int .i64 who, .int .i64 i, .int .i64 mem, .int .i64 LK, .int .i64 SQ, .string SD] 72)).cell? ⟨T, i * 2 + 1, none⟩ = some (.int .i64 (lostF r nL i 1)) := (hI4.box hTl hTO (i * 2 + 1)).trans (HV2.out.2.2.1.2.c i 1 hlt (by decide))
        have hTw : T < (v3.alloc (.cells #[.int .i64 who, .int .i64 i, .int .i64 mem, .int .i64 LK, .int .i64 SQ, .string SD] 72)).heap.size := Nat.lt_of_lt_of_le hTl hI4.size
        have hhe := fun (u : Nat) => HHE.out O3 (v3.alloc (.cells #[.int .i64 who, .int .i64 i, .int .i64 mem, .int .i64 LK, .int .i64 SQ, .string SD] 72)) ((v3.alloc (.cells #[.int .i64 who, .int .i64 i, .int .i64 mem, .int .i64 LK, .int .i64 SQ, .string SD] 72)).drewN u) _ _ i mem LK SQ SD sent (hI5.drawn u) hiP.out (by have := HNS.out; have := hiP.out; omega) (by rw [HWHO.out]; exact hx)
        rw [HWHO.out] at hhe
        have HNX : Hid (∀ v, InCl O v2 v C p fa cs ((s.slots p.S (r.hap fa) rd i).slot p.S (r.hap fa) rd i) rd (B + 80 * i + 80) m → InCl O v2 v C p fa cs (s.slots p.S (r.hap fa) rd (i + 1)) rd (B + 80 * (i + 1)) m) := fun v hv => hv
        generalize lostF r nL i 0 = L0 at *
        generalize lostF r nL i 1 = L1 at *
        clear hse hx hF3 hC3 fx fz fB fS hI4 hI5 rm1 hwb
        go_wp2_with fail
        generalize (v3.alloc (.cells #[.int .i64 who, .int .i64 i, .int .i64 mem, .int .i64 LK, .int .i64 SQ, .string SD] 72)) = V3 at *
        go_region_held3 (fun u => (u.cell? ⟨v3.heap.size, 0, none⟩ = some (.int .i64 who) ∧ u.cell? ⟨v3.heap.size, 1, none⟩ = some (.int .i64 i) ∧ u.cell? ⟨v3.heap.size, 2, none⟩ = some (.int .i64 mem) ∧ u.cell? ⟨v3.heap.size, 3, none⟩ = some (.int .i64 LK) ∧ u.cell? ⟨v3.heap.size, 4, none⟩ = some (.int .i64 SQ) ∧ u.cell? ⟨v3.heap.size, 5, none⟩ = some (.string SD)) ∧ u.cell? ⟨T, i * 2, none⟩ = some (.int .i64 L0) ∧ u.cell? ⟨T, i * 2 + 1, none⟩ = some (.int .i64 L1)) (go_keep) (first
          | (go_at_call 21; refine (hhe _).mono ?_; rintro e v4 ⟨rfl, hI6⟩; have HI6 : Hid (InCl O v2 v4 C p fa cs (s.slots p.S (r.hap fa) rd (i + 1)) rd (B + 80 * (i + 1)) m) := (by obtain ⟨O9, f9, c9⟩ := hI6; exact HNX.out _ ⟨O9, HF3.out.trans f9, c9⟩); have z0 := (hI6.box hgl HBO.out.1 0).trans g0; have z1 := (hI6.box hgl HBO.out.1 1).trans g1; have z2 := (hI6.box hgl HBO.out.1 2).trans g2; have z3 := (hI6.box hgl HBO.out.1 3).trans g3; have z4 := (hI6.box hgl HBO.out.1 4).trans g4; have z5 := (hI6.box hgl HBO.out.1 5).trans g5; have z6 := (hI6.box hTw HBO.out.2 (i * 2)).trans t0; have z7 := (hI6.box hTw HBO.out.2 (i * 2 + 1)).trans t1; clear hI6))
        clear z0 z1 z2 z3 z4 z5 z6 z7 g0 g1 g2 g3 g4 g5 t0 t1 hhe HNX HF3
        go_wp2
        go_roundw
        case rel => exact ⟨i + 1, by omega, by go_num, HI6⟩
        case measure => simp [intOf]; omega
      · have hin : i = ns := by omega
        have hlC := HI.out.base.lc
        have c12 := HI.out.base.c12
        have c11 := HI.out.base.c11
        have zC := HI.out.base.z
        have z11 := zC 11
        have z12 := zC 12
        have kk : decide (i < ns) = false := decide_eq_false hlt
        have HD : Hid (PlayIs w ((wr.setCell ⟨C, 12, none⟩ (.int .i64 (rd + 1))).setCell ⟨C, 11, none⟩ (.slice (some ⟨g, 0, none⟩) n gc)) O C p fa cs s rd B m r (.returned (errV 0))) := by
          obtain ⟨O9, f9, c9⟩ := HI.out
          obtain ⟨⟨g1, g2⟩, g3⟩ := HV2.out.2.1
          have hgO : g ∉ O := fun y => by have := HOO.out _ y; omega
          have hg9 : g ∉ O9 := fun y => by
            rcases f9.fresh _ y with q | q
            · exact hgO q
            · omega
          rw [hin] at c9
          have c9' : Cl wr O9 C p fa cs (s.slots p.S (r.hap fa) rd p.ns) rd (B + 80 * p.ns) m := by rw [HPNS.out]; exact c9
          obtain ⟨m', d1, d2⟩ := HDN.out wr O9 m _ g gc c9' (Nat.lt_of_lt_of_le g2 f9.size) hg9 (fun j hj => (f9.cell (p := ⟨g, j, none⟩) g2 hgO).trans (g3 j hj))
          have hF : Foot O O9 w wr := (Foot.of_below HV2.out.2.2.2).trans f9
          refine ⟨g :: O9, ⟨d2.os.trans hF.os, d2.tape.trans hF.tape, d2.output.trans hF.output, Nat.le_trans hF.size d2.size, fun c hc hnc => ?_, fun c hc => ?_⟩, .inr ⟨HFA.out, rfl, m', by rw [HON.out]; exact d1⟩⟩
          · have hcC : c ≠ C := fun e => hnc (e ▸ HC0.out.mem)
            exact (d2.block c (Nat.lt_of_lt_of_le hc hF.size) hcC hcC).trans (hF.block c hc hnc)
          · rcases List.mem_cons.1 hc with y | y
            · subst y; right; omega
            · exact hF.fresh c y
        clear hin HI HDN zC
        have hrw : -9223372036854775808 ≤ rd + 1 := by have := HRD.out; omega
        go_wp2
        go_ret
        exact HD.out
end
end Go.Proofs.YtdmokcnoljlogaaGreatDoor
