/- ClusterOrder's state: a cluster beside rows of numbers of the statement's own, and what each call does to it (ahead of stage 9). -/
import Derived.Test.YtdmokcnoljlogaaGreatDoorWordsB
import Derived.Test.YtdmokcnoljlogaaGreatDoorWordsC
import Derived.Test.YtdmokcnoljlogaaGreatDoorWordsA
import Derived.Laws.BytesArg
namespace Go.Proofs.YtdmokcnoljlogaaGreatDoor
open Go.RowKit

/-- A slot turns nothing of what was put. -/
theorem slots_all {s : ClS} {p : PlanS} {h : HapS} {rd : Int} (hw : ∀ k, (s.links k).went ≤ (s.links k).all.length) : ∀ i k, ((s.slots p h rd i).links k).all = (s.links k).all ∧ ((s.slots p h rd i).links k).went ≤ (s.links k).all.length := by
  intro i
  induction i with
  | zero => intro k; exact ⟨rfl, hw k⟩
  | succ i ih =>
    intro k
    have hs : ∀ k, LinkStep ((s.slots p h rd i).links k) (((s.slots p h rd i).goes p h rd i).1 k) k ((s.slots p h rd i).goes p h rd i).2 := fun k => by
      unfold ClS.goes
      by_cases q : (s.slots p h rd i).sends h (p.nd i) = true
      · rw [if_pos q]
        exact linksTo_step (fun k => by rw [(ih k).1]; exact (ih k).2) p.nl k
      · rw [if_neg q]
        exact .inl ⟨rfl, rfl, fun _ _ e => by cases e⟩
    have e : ((s.slots p h rd (i + 1)).links k) = ((s.slots p h rd i).goes p h rd i).1 k := rfl
    rw [e]
    have ihk := ih k
    rcases hs k with ⟨h1, h2, _⟩ | ⟨h1, h2, h3, _⟩
    · rw [h1, h2]; exact ihk
    · rw [h1, h2]
      refine ⟨ihk.1, ?_⟩
      rw [ihk.1] at h3
      omega

/-- The statement's own rows: what was put, by links; what came last, by links and nodes. -/
structure OwnRows (w : World) (PB LB : Nat) (LR : Nat → Nat) (nl n : Nat) (pu : Nat → Nat) (lo : Nat → Nat → Nat) : Prop where
  p : ∀ k, k < nl → w.cell? ⟨PB, k, none⟩ = some (.int .i64 (pu k))
  pz : ∀ k, w.frozen? ⟨PB, k, none⟩ = false
  l : ∀ k, k < nl → w.cell? ⟨LB, k, none⟩ = some (.slice (some ⟨LR k, 0, none⟩) n n)
  r : ∀ k j, k < nl → j < n → w.cell? ⟨LR k, j, none⟩ = some (.int .i64 (lo k j))
  rz : ∀ k j, k < nl → w.frozen? ⟨LR k, j, none⟩ = false
  pl : PB < w.heap.size
  ll : LB < w.heap.size
  rl : ∀ k, k < nl → LR k < w.heap.size
  d1 : ∀ k, k < nl → LR k ≠ PB ∧ LR k ≠ LB
  d2 : ∀ k k', k < nl → k' < nl → k ≠ k' → LR k ≠ LR k'
  d3 : PB ≠ LB
/-- None of its blocks is one of O. -/
def OwnApart (O : List Nat) (PB LB : Nat) (LR : Nat → Nat) (nl : Nat) : Prop := ∀ c, c ∈ O → c ≠ PB ∧ c ≠ LB ∧ ∀ k, k < nl → c ≠ LR k
section
variable {w w' : World} {PB LB : Nat} {LR : Nat → Nat} {nl n : Nat} {pu : Nat → Nat} {lo : Nat → Nat → Nat} {O O' : List Nat}
theorem OwnRows.same (h : OwnRows w PB LB LR nl n pu lo) (hs : w.heap.size ≤ w'.heap.size) (hb : ∀ c, (c = PB ∨ c = LB ∨ ∃ k, k < nl ∧ c = LR k) → w'.heap[c]? = w.heap[c]?) : OwnRows w' PB LB LR nl n pu lo := by
  have c1 : ∀ p : Addr, (p.block = PB ∨ p.block = LB ∨ ∃ k, k < nl ∧ p.block = LR k) → w'.cell? p = w.cell? p := fun p q => World.cell?_of_block (w := w) (hb _ q)
  have c2 : ∀ p : Addr, (p.block = PB ∨ p.block = LB ∨ ∃ k, k < nl ∧ p.block = LR k) → w'.frozen? p = w.frozen? p := fun p q => World.frozen?_of_block (w := w) (hb _ q)
  exact ⟨fun k hk => (c1 ⟨PB, k, none⟩ (.inl rfl)).trans (h.p k hk), fun k => (c2 ⟨PB, k, none⟩ (.inl rfl)).trans (h.pz k), fun k hk => (c1 ⟨LB, k, none⟩ (.inr (.inl rfl))).trans (h.l k hk), fun k j hk hj => (c1 ⟨LR k, j, none⟩ (.inr (.inr ⟨k, hk, rfl⟩))).trans (h.r k j hk hj), fun k j hk => (c2 ⟨LR k, j, none⟩ (.inr (.inr ⟨k, hk, rfl⟩))).trans (h.rz k j hk), Nat.lt_of_lt_of_le h.pl hs, Nat.lt_of_lt_of_le h.ll hs, fun k hk => Nat.lt_of_lt_of_le (h.rl k hk) hs, h.d1, h.d2, h.d3⟩
theorem OwnRows.below (h : OwnRows w PB LB LR nl n pu lo) (hb : Below w.heap.size w w') : OwnRows w' PB LB LR nl n pu lo := h.same hb.size fun c hc => hb.block c (by
  rcases hc with rfl | rfl | ⟨k, hk, rfl⟩
  · exact h.pl
  · exact h.ll
  · exact h.rl k hk)
theorem OwnRows.foot (h : OwnRows w PB LB LR nl n pu lo) (ha : OwnApart O PB LB LR nl) (hf : Foot O O' w w') : OwnRows w' PB LB LR nl n pu lo ∧ OwnApart O' PB LB LR nl := by
  refine ⟨h.same hf.size fun c hc => hf.block c ?_ ?_, fun c hc => ?_⟩
  · rcases hc with rfl | rfl | ⟨k, hk, rfl⟩
    · exact h.pl
    · exact h.ll
    · exact h.rl k hk
  · intro q
    have := ha c q
    rcases hc with rfl | rfl | ⟨k, hk, rfl⟩
    · exact this.1 rfl
    · exact this.2.1 rfl
    · exact this.2.2 k hk rfl
  · rcases hf.fresh c hc with q | q
    · exact ha c q
    · exact ⟨by have := h.pl; omega, by have := h.ll; omega, fun k hk => by have := h.rl k hk; omega⟩
theorem OwnRows.setP (h : OwnRows w PB LB LR nl n pu lo) (k : Nat) (x : Nat) : OwnRows (w.setCell ⟨PB, k, none⟩ (.int .i64 x)) PB LB LR nl n (fun k' => if k' = k then x else pu k') lo := by
  refine ⟨fun k' hk' => ?_, fun k => soft_set.trans (h.pz k), fun k' hk' => (cell_other (.inl (Ne.symm h.d3))).trans (h.l k' hk'), fun k' j hk' hj => (cell_other (.inl (h.d1 k' hk').1)).trans (h.r k' j hk' hj), fun k' j hk' => soft_set.trans (h.rz k' j hk'), by simpa using h.pl, by simpa using h.ll, fun k' hk' => by simpa using h.rl k' hk', h.d1, h.d2, h.d3⟩
  by_cases e : k' = k
  · subst e; rw [if_pos rfl]; exact cell_set (h.p k' hk')
  · rw [if_neg e]; exact (cell_other (.inr e)).trans (h.p k' hk')
theorem OwnRows.setR (h : OwnRows w PB LB LR nl n pu lo) {k : Nat} (hk : k < nl) (j : Nat) (x : Nat) : OwnRows (w.setCell ⟨LR k, j, none⟩ (.int .i64 x)) PB LB LR nl n pu (fun k' j' => if k' = k ∧ j' = j then x else lo k' j') := by
  refine ⟨fun k' hk' => (cell_other (.inl (Ne.symm (h.d1 k hk).1))).trans (h.p k' hk'), fun k => soft_set.trans (h.pz k), fun k' hk' => (cell_other (.inl (Ne.symm (h.d1 k hk).2))).trans (h.l k' hk'), fun k' j' hk' hj' => ?_, fun k' j hk' => soft_set.trans (h.rz k' j hk'), by simpa using h.pl, by simpa using h.ll, fun k' hk' => by simpa using h.rl k' hk', h.d1, h.d2, h.d3⟩
  by_cases e : k' = k
  · subst e
    by_cases e2 : j' = j
    · subst e2; rw [if_pos ⟨rfl, rfl⟩]; exact cell_set (h.r k' j' hk' hj')
    · rw [if_neg (fun q => e2 q.2)]; exact (cell_other (.inr e2)).trans (h.r k' j' hk' hj')
  · rw [if_neg (fun q => e q.1)]; exact (cell_other (.inl (h.d2 k' k hk' hk e))).trans (h.r k' j' hk' hj')
end

/-- The text that is put as a link's message. -/
def msgT (x k : Nat) : ByteArray := strOfNums [((x + 1 : Nat) : Int), (k : Int)]
theorem msgT_size (x k : Nat) : (msgT x k).size = 2 := rfl
theorem msgT_at {x k : Nat} (hx : x + 1 ≤ 255) (hk : k ≤ 255) (w : World) : (Instr.index 9 (.string (msgT x k)) (.int .i64 0)).run Tryz.prog w = .ok (.int .u8 ((x : Int) + 1)) w ∧ (Instr.index 9 (.string (msgT x k)) (.int .i64 1)).run Tryz.prog w = .ok (.int .u8 (k : Int)) w := by
  constructor
  · rw [run_index_string w 9 (msgT x k) .i64 0 Tryz.underlying9, dif_pos (by rw [msgT_size]; decide)]
    have e0 : ((msgT x k)[(0 : Int).toNat]'(by rw [msgT_size]; decide)).toNat = x + 1 := by
      show (UInt8.ofNat ((x + 1 : Nat) : Int).toNat).toNat = x + 1
      rw [Int.toNat_natCast, UInt8.toNat_ofNat']
      omega
    rw [e0]
    rfl
  · rw [run_index_string w 9 (msgT x k) .i64 1 Tryz.underlying9, dif_pos (by rw [msgT_size]; decide)]
    have e1 : ((msgT x k)[(1 : Int).toNat]'(by rw [msgT_size]; decide)).toNat = k := by
      show (UInt8.ofNat (k : Int).toNat).toNat = k
      rw [Int.toNat_natCast, UInt8.toNat_ofNat']
      omega
    rw [e1]
/-- The state: Q is what the cluster's senders have, beside pu, what the row says was put. -/
structure OrdSt (Clu : World → List Nat → Nat → PlanN → Int → List Int → ClS → Int → Nat → Prop) (w : World) (base C : Nat) (p : PlanN) (fa : Int) (PB LB : Nat) (LR : Nat → Nat) (pu Q : Nat → Nat) (B : Nat) : Prop where
  ex : ∃ O cs s rd T lo, Clu w O C p fa cs s rd T ∧ T ≤ B ∧ OwnRows w PB LB LR p.nl p.n pu lo ∧ OwnApart O PB LB LR p.nl ∧ (∀ c, c ∈ O → base ≤ c) ∧ (∀ k, k < p.nl → (s.links k).all.length = Q k ∧ ∀ x, x < Q k → (s.links k).all.getD x ByteArray.empty = msgT x k) ∧ ∀ k j, OrdK (s.links k) (s.newest k j) (s.ports k j) (lo k j)

section
variable {Clu : World → List Nat → Nat → PlanN → Int → List Int → ClS → Int → Nat → Prop} {w w' : World} {base C : Nat} {p : PlanN} {fa : Int} {PB LB : Nat} {LR : Nat → Nat} {pu Q : Nat → Nat} {B : Nat}
theorem OrdSt.below (ops : CluOps Clu) (h : OrdSt Clu w base C p fa PB LB LR pu Q B) (hb : Below w.heap.size w w') : OrdSt Clu w' base C p fa PB LB LR pu Q B := by
  obtain ⟨O, cs, s, rd, T, lo, h1, h2, h3, h4, h5, h6, h7⟩ := h.ex
  exact ⟨O, cs, s, rd, T, lo, ops.keep h1 (Same.of_below hb (ops.lt h1)), h2, h3.below hb, h4, h5, h6, h7⟩
theorem OrdSt.play (ops : CluOps Clu) (h : OrdSt Clu w base C p fa PB LB LR pu Q B) (hB : B ≤ 3000) (hba : base ≤ w.heap.size) (r : RoundN) (a : RoundAt) (hr : r.In a w) (hm : ∀ b off, a.ma = some ⟨b, off, none⟩ → 0 < r.modes.length → b < base) :
    Calls Tryz.prog 8 #[.pointer (some ⟨C, 0, none⟩), r.val a] w fun e w' => ∃ K, e = .returned (errV K) ∧ OrdSt Clu w' base C p fa PB LB LR pu Q (B + 1) ∧ Below base w w' := by
  obtain ⟨O, cs, s, rd, T, lo, h1, h2, h3, h4, h5, h6, h7⟩ := h.ex
  refine (ops.play r a h1 (by omega) hr (fun b off e0 e1 y => by have := hm b off e0 e1; have := h5 b y; omega)).mono ?_
  rintro e w' ⟨O', hf, hx⟩
  have hfo := h3.foot h4 hf
  rcases hx with ⟨_, rfl, hC⟩ | ⟨_, rfl, hC⟩
  · exact ⟨6, rfl, ⟨O', cs, s, rd, T, lo, hC, by omega, hfo.1, hfo.2, hf.above h5 hba, h6, h7⟩, hf.below h5 hba⟩
  · refine ⟨0, rfl, ⟨O', _, _, _, _, lo, hC, by omega, hfo.1, hfo.2, hf.above h5 hba, fun k hk => ?_, ClS.ord_slots h7 _ rd p.ns⟩, hf.below h5 hba⟩
    have := (slots_all (p := p.S) (h := r.hap fa) (rd := rd) (fun k => (h7 k 0).1) p.ns k).1
    show ((s.slots p.S (r.hap fa) rd p.ns).links k).all.length = _ ∧ _
    unfold cluOn
    rw [this]
    exact h6 k hk
theorem OrdSt.put (ops : CluOps Clu) {V : World} (h : OrdSt Clu w base C p fa PB LB LR pu Q B) (hV : Below w.heap.size w V) (hB : B ≤ 3000) (hba : base ≤ w.heap.size) (k : Nat) (hk : k < p.nl) :
    Calls Tryz.prog 11 #[.pointer (some ⟨C, 0, none⟩), .int .i64 k, .string (msgT (Q k) k)] V fun e w' => (Below base V w' ∧ ∀ c, w.heap.size ≤ c → c < V.heap.size → w'.heap[c]? = V.heap[c]?) ∧ ((e = .returned .nilIface ∧ OrdSt Clu w' base C p fa PB LB LR pu (fun k' => if k' = k then Q k + 1 else Q k') (B + 1)) ∨ ∃ K, K ≠ 0 ∧ e = .returned (.iface 39 (.int .i64 K)) ∧ OrdSt Clu w' base C p fa PB LB LR pu Q (B + 1)) := by
  obtain ⟨O, cs, s, rd, T, lo, h1, h2, h3, h4, h5, h6, h7⟩ := h.ex
  have hlt := ops.lt h1
  replace h1 := ops.keep h1 (Same.of_below hV hlt)
  replace h3 := h3.below hV
  replace hba := Nat.le_trans hba hV.size
  refine (ops.put k (msgT (Q k) k) h1 (by omega) hk).mono ?_
  rintro e w' ⟨rfl, O', hf, hC⟩
  have hfo := h3.foot h4 hf
  refine ⟨⟨hf.below h5 hba, fun c h1 h2 => hf.block c h2 (fun q => by have := hlt c q; omega)⟩, ?_⟩
  by_cases hK : s.putK p k (msgT (Q k) k) = 0
  · refine .inl ⟨by rw [hK]; rfl, O', cs, _, rd, _, lo, hC, by omega, hfo.1, hfo.2, hf.above h5 hba, fun k' hk' => ?_, fun k' j => ?_⟩
    · have hput : ((s.put p k (msgT (Q k) k)).links k).all = (s.links k).all ++ [msgT (Q k) k] := by
        show (if k = k then _ else s.links k).all = _
        rw [if_pos rfl]
        show putAll (putK _ _ _) _ _ = _
        rw [show putK ((s.links k).all.length - (s.links k).went) (p.lq k) (msgT (Q k) k) = 0 from hK]
        rfl
      by_cases e : k' = k
      · subst e
        rw [if_pos rfl, hput]
        have h8 := h6 k' hk'
        refine ⟨by simp [h8.1], fun x hx => ?_⟩
        rcases Nat.lt_or_ge x (Q k') with q | q
        · have := h8.2 x q
          simp only [List.getD] at this ⊢
          rw [List.getElem?_append_left (by omega)]
          exact this
        · obtain rfl : x = Q k' := by omega
          simp only [List.getD]
          rw [List.getElem?_append_right (by omega), h8.1, Nat.sub_self]
          rfl
      · rw [if_neg e]
        have : ((s.put p k (msgT (Q k) k)).links k') = s.links k' := if_neg e
        rw [this]
        exact h6 k' hk'
    · by_cases e : k' = k
      · subst e
        refine (h7 k' j).put (d := msgT (Q k') k') ?_ ?_
        · show (if k' = k' then _ else s.links k').all = _
          rw [if_pos rfl]
          show putAll (putK _ _ _) _ _ = _
          rw [show putK ((s.links k').all.length - (s.links k').went) (p.lq k') (msgT (Q k') k') = 0 from hK]
          rfl
        · show (if k' = k' then _ else s.links k').went = _
          rw [if_pos rfl]
      · have : ((s.put p k (msgT (Q k) k)).links k') = s.links k' := if_neg e
        rw [this]
        exact h7 k' j
  · have hall : ∀ k', ((s.put p k (msgT (Q k) k)).links k').all = (s.links k').all ∧ ((s.put p k (msgT (Q k) k)).links k').went = (s.links k').went := fun k' => by
      by_cases e : k' = k
      · subst e
        refine ⟨?_, ?_⟩
        · show (if k' = k' then _ else s.links k').all = _
          rw [if_pos rfl]
          show putAll (putK _ _ _) _ _ = _
          exact if_neg hK
        · show (if k' = k' then _ else s.links k').went = _
          rw [if_pos rfl]
      · have : ((s.put p k (msgT (Q k) k)).links k') = s.links k' := if_neg e
        rw [this]
        exact ⟨rfl, rfl⟩
    refine .inr ⟨_, hK, by unfold errV; rw [if_neg hK], O', cs, _, rd, _, lo, hC, by omega, hfo.1, hfo.2, hf.above h5 hba, fun k' hk' => by rw [(hall k').1]; exact h6 k' hk', fun k' j => ?_⟩
    exact (h7 k' j).not (hall k').1 (by rw [(hall k').2]; exact Nat.le_refl _) (by rw [(hall k').1, (hall k').2]; exact (h7 k' j).1)
/-- The statement's own store into the row of what was put. -/
theorem OrdSt.setP (ops : CluOps Clu) (h : OrdSt Clu w base C p fa PB LB LR pu Q B) (k x : Nat) : OrdSt Clu (w.setCell ⟨PB, k, none⟩ (.int .i64 x)) base C p fa PB LB LR (fun k' => if k' = k then x else pu k') Q B := by
  obtain ⟨O, cs, s, rd, T, lo, h1, h2, h3, h4, h5, h6, h7⟩ := h.ex
  refine ⟨O, cs, s, rd, T, lo, ops.keep h1 ⟨by simp, fun c hc => ?_⟩, h2, h3.setP k x, h4, h5, h6, h7⟩
  exact ((Turns.refl PB PB w).set (p := ⟨PB, k, none⟩) (.inl rfl) (.int .i64 (x : Int))).block c (ops.lt h1 c hc) (h4 c hc).1 (h4 c hc).1
theorem OrdSt.cellP (h : OrdSt Clu w base C p fa PB LB LR pu Q B) {k : Nat} (hk : k < p.nl) : w.cell? ⟨PB, k, none⟩ = some (.int .i64 (pu k)) ∧ w.frozen? ⟨PB, k, none⟩ = false ∧ PB < w.heap.size := by
  obtain ⟨O, cs, s, rd, T, lo, h1, h2, h3, h4, h5, h6, h7⟩ := h.ex
  exact ⟨h3.p k hk, h3.pz k, h3.pl⟩
theorem OrdSt.recv (ops : CluOps Clu) (h : OrdSt Clu w base C p fa PB LB LR pu Q B) (hba : base ≤ w.heap.size) (k j : Nat) (hk : k < p.nl) (hj : j < p.n) :
    Calls Tryz.prog 12 #[.pointer (some ⟨C, 0, none⟩), .int .i64 j, .int .i64 k] w fun e w' => Below base w w' ∧ ((∃ K, e = .returned (.tuple #[.string ByteArray.empty, .iface 39 (.int .i64 K)]) ∧ OrdSt Clu w' base C p fa PB LB LR pu Q B) ∨ ∃ x lo, e = .returned (.tuple #[.string (msgT x k), .nilIface]) ∧ x < Q k ∧ lo ≤ x ∧ w'.cell? ⟨LB, k, none⟩ = some (.slice (some ⟨LR k, 0, none⟩) p.n p.n) ∧ w'.cell? ⟨LR k, j, none⟩ = some (.int .i64 (lo : Nat)) ∧ w'.frozen? ⟨LR k, j, none⟩ = false ∧ LR k < w'.heap.size ∧ LB < w'.heap.size ∧ PB < w'.heap.size ∧ w'.cell? ⟨PB, k, none⟩ = some (.int .i64 (pu k)) ∧ OrdSt Clu (w'.setCell ⟨LR k, j, none⟩ (.int .i64 (x + 1 : Nat))) base C p fa PB LB LR pu Q B) := by
  obtain ⟨O, cs, s, rd, T, lo, h1, h2, h3, h4, h5, h6, h7⟩ := h.ex
  by_cases hb : bitI (p.lt k) j = true
  · refine (ops.recv j k h1 hj hk hb).mono ?_
    rintro e w' ⟨rfl, O', hf, hC⟩
    have hfo := h3.foot h4 hf
    refine ⟨hf.below h5 hba, ?_⟩
    cases hp : s.ports k j with
    | nil =>
      refine .inl ⟨8, rfl, O', cs, _, rd, T, lo, hC, h2, hfo.1, hfo.2, hf.above h5 hba, h6, fun k' j' => ?_⟩
      show OrdK (s.links k') (s.newest k' j') (if k' = k ∧ j' = j then (s.ports k j).tail else s.ports k' j') (lo k' j')
      by_cases e : k' = k ∧ j' = j
      · rw [if_pos e, e.1, e.2, hp]
        have := h7 k j
        rw [hp] at this
        exact this
      · rw [if_neg e]; exact h7 k' j'
    | cons d l =>
      have h8 := h7 k j
      rw [hp] at h8
      obtain ⟨x, g1, g2, g3, g4⟩ := h8.receive
      have h9 := h6 k hk
      refine .inr ⟨x, lo k j, ?_, by omega, g1, hfo.1.l k hk, hfo.1.r k j hk hj, hfo.1.rz k j hk, hfo.1.rl k hk, hfo.1.ll, hfo.1.pl, hfo.1.p k hk, O', cs, _, rd, T, _, ops.keep hC ⟨by simp, fun c hc => ?_⟩, h2, hfo.1.setR hk j (x + 1), hfo.2, hf.above h5 hba, h6, fun k' j' => ?_⟩
      · show Ending.returned (.tuple #[.string (recvD (d :: l)), errV (recvK (d :: l))]) = _
        have e1 : recvD (d :: l) = msgT x k := by rw [← h9.2 x (by omega), ← g3]; rfl
        have e2 : errV (recvK (d :: l)) = .nilIface := rfl
        rw [e1, e2]
      · have hne := (hfo.2 c hc).2.2 k hk
        have ht := ((Turns.refl (LR k) (LR k) w').set (p := ⟨LR k, j, none⟩) (.inl rfl) (.int .i64 ((x + 1 : Nat) : Int))).block c (ops.lt hC c hc) hne hne
        exact ht
      · show OrdK (s.links k') (s.newest k' j') (if k' = k ∧ j' = j then (s.ports k j).tail else s.ports k' j') (if k' = k ∧ j' = j then x + 1 else lo k' j')
        by_cases e : k' = k ∧ j' = j
        · rw [if_pos e, if_pos e, e.1, e.2, hp]
          exact g4
        · rw [if_neg e, if_neg e]; exact h7 k' j'
  · refine (ops.recv_bad j k h1 (fun q => hb (by simpa using q.2.2))).mono ?_
    rintro e w' ⟨rfl, hb'⟩
    exact ⟨⟨hb'.os, hb'.tape, hb'.output, hb'.size, fun c hc => hb'.block c (Nat.lt_of_lt_of_le hc hba)⟩, .inl ⟨2, rfl, h.below ops hb'⟩⟩
end
end Go.Proofs.YtdmokcnoljlogaaGreatDoor
