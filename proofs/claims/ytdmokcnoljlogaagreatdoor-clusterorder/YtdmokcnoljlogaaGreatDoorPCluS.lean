/- The program's cluster: sends, what goes in a slot (10.3). -/
import Derived.Test.YtdmokcnoljlogaaGreatDoorPCluL
namespace Go.Proofs.YtdmokcnoljlogaaGreatDoor
open Go.RowKit

theorem asked_far {S : SendS} {t bag : Int} (ht : 1099511627776 < t) : S.asked t bag = S ∧ sendK S.all.length S.went t S.now S.last bag = 2 := by
  have e : sendK S.all.length S.went t S.now S.last bag = 2 := by
    unfold sendK
    rw [if_pos (by omega)]
  refine ⟨?_, e⟩
  unfold SendS.asked
  rw [e]
  rfl
theorem linksTo_far {P : PlanS} {who : Nat} {t : Int} {L : Nat → SendS} (ht : 1099511627776 < t) : ∀ n, linksTo P who t L n = (L, none) := by
  intro n
  induction n with
  | zero => rfl
  | succ n ih =>
    by_cases h : P.lf n = who
    · rw [linksTo_ask h (by rw [ih]), ih]
      obtain ⟨e1, e2⟩ := asked_far (S := L n) (bag := P.lb n) ht
      show (_, if sendK (L n).all.length (L n).went t (L n).now (L n).last (P.lb n) = 0 then _ else _) = _
      rw [e2, if_neg (by decide)]
      congr 1
      funext j
      by_cases q : j = n
      · subst q; rw [if_pos rfl]; exact e1
      · rw [if_neg q]
    · rw [linksTo_skip h, ih]
theorem mul_far {rd R : Int} (h1 : 1 ≤ R) (h : 1099511627776 / R < rd) : 1099511627776 < rd * R := by
  have := Int.lt_mul_ediv_self_add (x := 1099511627776) (k := R) (by omega)
  have h3 : R * (1099511627776 / R) + R ≤ R * rd := by
    have : R * (1099511627776 / R + 1) ≤ R * rd := Int.mul_le_mul_of_nonneg_left (by omega) (by omega)
    rw [Int.mul_add, Int.mul_one] at this
    exact this
  rw [Int.mul_comm rd R]
  omega
theorem mul_near {rd R : Int} (h1 : 1 ≤ R) (h0 : 0 ≤ rd) (h : rd ≤ 1099511627776 / R) : 0 ≤ rd * R ∧ rd * R ≤ 1099511627776 := by
  refine ⟨Int.mul_nonneg h0 (by omega), ?_⟩
  have h3 : R * rd ≤ R * (1099511627776 / R) := Int.mul_le_mul_of_nonneg_left h (by omega)
  have := Int.mul_ediv_self_le (x := 1099511627776) (k := R) (by omega)
  rw [Int.mul_comm rd R]
  omega

theorem pow_bitsV {n k : Nat} (hn : n ≤ 16) (hk : k < n) : ((2 : Int) ^ k) = bitsV (fun j => decide (j = k)) n := by
  have h := or_bit (fun _ => false) hn hk
  have e : bitsV (fun _ => false) n = 0 := by
    clear h hk hn
    induction n with
    | zero => rfl
    | succ n ih => simp only [bitsV]; rw [ih]; rfl
  have p2 := pow_small (k := k) (by omega)
  rw [e, pow_cast, show (0 : Int) = ((0 : Nat) : Int) from rfl, i64_or_nat 0 (2 ^ k) (by decide) (by omega), Nat.zero_or] at h
  rw [pow_cast, h]
  refine bitsV_congr fun j _ => ?_
  by_cases q : j = k
  · rw [if_pos q, decide_eq_true q]
  · rw [if_neg q, decide_eq_false q]
theorem xor_bits (a b : Nat → Bool) {n : Nat} (hn : n ≤ 16) : bits BinOp.xor .i64 (bitsV a n) (bitsV b n) = bitsV (fun j => a j != b j) n := by
  obtain ⟨x, hx, hxl, hxb⟩ := bitsV_nat a n
  obtain ⟨y, hy, hyl, hyb⟩ := bitsV_nat b n
  have p1 := pow_small hn
  rw [hx, hy, i64_xor_nat x y (by omega) (by omega)]
  refine is_bitsV fun j => ?_
  rw [Nat.testBit_xor, hxb, hyb]
  by_cases q : j < n
  · rw [decide_eq_true q]; simp
  · rw [decide_eq_false q]; rfl
/-- What one that is wrong tells. -/
theorem wrong_bits (t : Nat → Bool) {n who nx : Nat} (hn : n ≤ 16) (h1 : who < n) (h2 : nx < n) : bits BinOp.xor .i64 (bitsV t n) (bits BinOp.or .i64 (2 ^ who) (2 ^ nx)) = bitsV (fun j => if j = who ∨ j = nx then !t j else t j) n := by
  rw [pow_bitsV hn h1, or_bit _ hn h2, xor_bits _ _ hn]
  refine bitsV_congr fun j _ => ?_
  by_cases q2 : j = nx
  · simp [q2]
  · by_cases q1 : j = who
    · simp [q1]
    · simp [q1, q2]

section
variable {w : World} {O : List Nat} {C : Nat} {p : PlanN} {fa : Int} {cs : List Int} {s : ClS} {rd : Int} {B : Nat} {m : CMap}

theorem cload_any (h : Cl w O C p fa cs s rd B m) (F who : Nat) (i mem fr : Int) (hF : F < w.heap.size) (hFO : F ∉ O) (hz : ∀ i, w.frozen? ⟨F, i, none⟩ = false)
    (f0 : w.cell? ⟨F, 0, none⟩ = some (.int .i64 who)) (f1 : w.cell? ⟨F, 1, none⟩ = some (.int .i64 i)) (f2 : w.cell? ⟨F, 2, none⟩ = some (.int .i64 mem)) (f3 : w.cell? ⟨F, 3, none⟩ = some (.int .i64 (-1))) (f4 : w.cell? ⟨F, 4, none⟩ = some (.int .i64 0)) (f5 : w.cell? ⟨F, 5, none⟩ = some (.string ByteArray.empty))
    (hr1 : 1 ≤ p.round) (hr2 : p.round ≤ 137438953472) (hrd : 0 ≤ rd) (hf0 : 0 ≤ fr) (hf1 : fr ≤ 1099511627776) (hnl : p.nl ≤ 8) (hB : B ≤ 9999990)
    (hlk : ∀ k, k < p.nl → 0 ≤ p.lf k ∧ 0 ≤ p.lb k ∧ p.lb k ≤ 1099511627776) :
    Calls Tryz.prog 44 #[.pointer (some ⟨C, 0, none⟩), .pointer (some ⟨F, 0, none⟩), .int .i64 fr] w fun e w' => e = .returned (.tuple #[]) ∧ InBox O F w w' C p fa cs ⟨s.nodes, (linksTo p.S who (rd * p.round + fr) s.links p.nl).1, s.newest, s.ports⟩ rd B m ∧
      (w'.cell? ⟨F, 0, none⟩ = some (.int .i64 who) ∧ w'.cell? ⟨F, 1, none⟩ = some (.int .i64 i) ∧ w'.cell? ⟨F, 2, none⟩ = some (.int .i64 mem) ∧ w'.cell? ⟨F, 3, none⟩ = some (.int .i64 (msgLk (linksTo p.S who (rd * p.round + fr) s.links p.nl).2)) ∧ w'.cell? ⟨F, 4, none⟩ = some (.int .i64 (msgSeq (linksTo p.S who (rd * p.round + fr) s.links p.nl).2)) ∧ w'.cell? ⟨F, 5, none⟩ = some (.string (msgDat (linksTo p.S who (rd * p.round + fr) s.links p.nl).2))) := by
  have far : 1099511627776 < rd * p.round + fr → ∀ w', Below w.heap.size w w' → InBox O F w w' C p fa cs ⟨s.nodes, (linksTo p.S who (rd * p.round + fr) s.links p.nl).1, s.newest, s.ports⟩ rd B m ∧
      (w'.cell? ⟨F, 0, none⟩ = some (.int .i64 who) ∧ w'.cell? ⟨F, 1, none⟩ = some (.int .i64 i) ∧ w'.cell? ⟨F, 2, none⟩ = some (.int .i64 mem) ∧ w'.cell? ⟨F, 3, none⟩ = some (.int .i64 (msgLk (linksTo p.S who (rd * p.round + fr) s.links p.nl).2)) ∧ w'.cell? ⟨F, 4, none⟩ = some (.int .i64 (msgSeq (linksTo p.S who (rd * p.round + fr) s.links p.nl).2)) ∧ w'.cell? ⟨F, 5, none⟩ = some (.string (msgDat (linksTo p.S who (rd * p.round + fr) s.links p.nl).2))) := fun hfar w' hb => by
    have cc := fun j => hb.cell (p := ⟨F, j, none⟩) hF
    rw [linksTo_far hfar]
    exact ⟨⟨O, Foot.of_below hb, hFO, h.below hb⟩, (cc 0).trans f0, (cc 1).trans f1, (cc 2).trans f2, (cc 3).trans f3, (cc 4).trans f4, (cc 5).trans f5⟩
  by_cases k1 : 1099511627776 / p.round < rd
  · refine (cload_far h F fr hr1 hr2 k1).mono ?_
    rintro e w' ⟨he, hb⟩
    exact ⟨he, far (by have := mul_far hr1 k1; omega) w' hb⟩
  · obtain ⟨m0, m1⟩ := mul_near (R := p.round) hr1 hrd (by omega)
    by_cases k2 : 1099511627776 < rd * p.round + fr
    · refine (cload_err h F fr hr1 hr2 (by omega) m0 m1 hf0 hf1 k2).mono ?_
      rintro e w' ⟨he, hb⟩
      exact ⟨he, far k2 w' hb⟩
    · exact cload_go h F who i mem fr (rd * p.round + fr) hF hFO hz f0 f1 f2 f3 f4 f5 hr1 hr2 (by omega) m0 m1 hf0 hf1 rfl (by omega) hnl hB hlk

theorem csendsN {V wr : World} (h : InCl O V wr C p fa cs s rd B m) (j : Nat) (hj : j < p.n) (hB : 1 ≤ B) :
    Calls Tryz.prog 43 #[.pointer (some ⟨m.P j, 0, none⟩)] wr fun e w' => e = .returned (.tuple #[.int .i64 (if sendsB (s.nodes j).g (s.nodes j).b (s.nodes j).fz = true then bitsV (s.nodes j).t p.n else 0), .bool (sendsB (s.nodes j).g (s.nodes j).b (s.nodes j).fz)]) ∧ InCl O V w' C p fa cs (s.setNode j (s.nodes j).sent) rd B m := by
  obtain ⟨O', h, c⟩ := h
  obtain ⟨n1, ⟨⟨n2, n3⟩, n4, n5⟩, n6⟩ := c.nod hj
  refine (pSends_any n1).mono ?_
  rintro e w' ⟨he, q1, q2⟩
  obtain ⟨O'', h2, c2⟩ := n6 w' B (s.nodes j).sent q1 q2 (by
    unfold NodeIn NodeS.sent
    simp only []
    constructor <;> split <;> omega) (Nat.le_refl _)
  exact ⟨he, O'', h.trans h2, c2⟩

theorem box_any (w : World) (xs : Array Value) (t : TypeId) : (∀ (i : Nat) (k : Value), xs[i]? = some k → (w.alloc (.cells xs t)).cell? ⟨w.heap.size, i, none⟩ = some k) ∧ (∀ i, (w.alloc (.cells xs t)).frozen? ⟨w.heap.size, i, none⟩ = false) ∧ Below w.heap.size w (w.alloc (.cells xs t)) ∧ (w.alloc (.cells xs t)).heap.size = w.heap.size + 1 :=
  ⟨fun i k hi => by simpa using hi, fun i => by simp, (Below.refl _ _).alloc (Nat.le_refl _) _, by simp⟩
theorem six_stores {v : World} {R : Nat} {a0 a1 a2 a3 a4 a5 : Value} (x0 : v.cell? ⟨R, 0, none⟩ = some a0) (x1 : v.cell? ⟨R, 1, none⟩ = some a1) (x2 : v.cell? ⟨R, 2, none⟩ = some a2) (x3 : v.cell? ⟨R, 3, none⟩ = some a3) (x4 : v.cell? ⟨R, 4, none⟩ = some a4) (x5 : v.cell? ⟨R, 5, none⟩ = some a5) (a b c d e f : Value) :
    ((((((((v.setCell ⟨R, 0, none⟩ a).setCell ⟨R, 1, none⟩ b).setCell ⟨R, 2, none⟩ c).setCell ⟨R, 3, none⟩ d).setCell ⟨R, 4, none⟩ e)).setCell ⟨R, 5, none⟩ f).cell? ⟨R, 0, none⟩ = some a ∧ (((((((v.setCell ⟨R, 0, none⟩ a).setCell ⟨R, 1, none⟩ b).setCell ⟨R, 2, none⟩ c).setCell ⟨R, 3, none⟩ d).setCell ⟨R, 4, none⟩ e)).setCell ⟨R, 5, none⟩ f).cell? ⟨R, 1, none⟩ = some b ∧ (((((((v.setCell ⟨R, 0, none⟩ a).setCell ⟨R, 1, none⟩ b).setCell ⟨R, 2, none⟩ c).setCell ⟨R, 3, none⟩ d).setCell ⟨R, 4, none⟩ e)).setCell ⟨R, 5, none⟩ f).cell? ⟨R, 2, none⟩ = some c ∧ (((((((v.setCell ⟨R, 0, none⟩ a).setCell ⟨R, 1, none⟩ b).setCell ⟨R, 2, none⟩ c).setCell ⟨R, 3, none⟩ d).setCell ⟨R, 4, none⟩ e)).setCell ⟨R, 5, none⟩ f).cell? ⟨R, 3, none⟩ = some d ∧ (((((((v.setCell ⟨R, 0, none⟩ a).setCell ⟨R, 1, none⟩ b).setCell ⟨R, 2, none⟩ c).setCell ⟨R, 3, none⟩ d).setCell ⟨R, 4, none⟩ e)).setCell ⟨R, 5, none⟩ f).cell? ⟨R, 4, none⟩ = some e ∧ (((((((v.setCell ⟨R, 0, none⟩ a).setCell ⟨R, 1, none⟩ b).setCell ⟨R, 2, none⟩ c).setCell ⟨R, 3, none⟩ d).setCell ⟨R, 4, none⟩ e)).setCell ⟨R, 5, none⟩ f).cell? ⟨R, 5, none⟩ = some f) ∧ Turns R R v (((((((v.setCell ⟨R, 0, none⟩ a).setCell ⟨R, 1, none⟩ b).setCell ⟨R, 2, none⟩ c).setCell ⟨R, 3, none⟩ d).setCell ⟨R, 4, none⟩ e)).setCell ⟨R, 5, none⟩ f) :=
  ⟨⟨(cell_other (.inr (by decide))).trans ((cell_other (.inr (by decide))).trans ((cell_other (.inr (by decide))).trans ((cell_other (.inr (by decide))).trans ((cell_other (.inr (by decide))).trans (cell_set (x0)))))), (cell_other (.inr (by decide))).trans ((cell_other (.inr (by decide))).trans ((cell_other (.inr (by decide))).trans ((cell_other (.inr (by decide))).trans (cell_set ((cell_other (.inr (by decide))).trans (x1)))))), (cell_other (.inr (by decide))).trans ((cell_other (.inr (by decide))).trans ((cell_other (.inr (by decide))).trans (cell_set ((cell_other (.inr (by decide))).trans ((cell_other (.inr (by decide))).trans (x2)))))), (cell_other (.inr (by decide))).trans ((cell_other (.inr (by decide))).trans (cell_set ((cell_other (.inr (by decide))).trans ((cell_other (.inr (by decide))).trans ((cell_other (.inr (by decide))).trans (x3)))))), (cell_other (.inr (by decide))).trans (cell_set ((cell_other (.inr (by decide))).trans ((cell_other (.inr (by decide))).trans ((cell_other (.inr (by decide))).trans ((cell_other (.inr (by decide))).trans (x4)))))), cell_set ((cell_other (.inr (by decide))).trans ((cell_other (.inr (by decide))).trans ((cell_other (.inr (by decide))).trans ((cell_other (.inr (by decide))).trans ((cell_other (.inr (by decide))).trans (x5))))))⟩, ((((((Turns.refl R R v).set (p := ⟨R, 0, none⟩) (.inl rfl) a).set (p := ⟨R, 1, none⟩) (.inl rfl) b).set (p := ⟨R, 2, none⟩) (.inl rfl) c).set (p := ⟨R, 3, none⟩) (.inl rfl) d).set (p := ⟨R, 4, none⟩) (.inl rfl) e).set (p := ⟨R, 5, none⟩) (.inl rfl) f⟩
/-- What a box beside a cluster is told leaves the cluster. -/
theorem InCl.beside {V v v' : World} {R : Nat} (h : InCl O V v C p fa cs s rd B m) (hT : Turns R R v v') (hR : R < V.heap.size) (hRO : R ∉ O) {w : World} (h0 : Foot O O w V) (hw : w.heap.size ≤ R) : ∃ O', Foot O O' w v' ∧ Cl v' O' C p fa cs s rd B m := by
  obtain ⟨O', h1, h2⟩ := h
  have hn : R ∉ O' := fun y => by
    rcases h1.fresh R y with q | q
    · exact hRO q
    · omega
  have h3 := h0.trans h1
  refine ⟨O', ⟨hT.os.trans h3.os, hT.tape.trans h3.tape, hT.output.trans h3.output, Nat.le_trans h3.size hT.size, fun c hc hnc => (hT.block c (Nat.lt_of_lt_of_le hc h3.size) (by omega) (by omega)).trans (h3.block c hc hnc), h3.fresh⟩, h2.keep ⟨hT.size, fun c hc => hT.block c (h2.lt c hc) (fun e => hn (e ▸ hc)) (fun e => hn (e ▸ hc))⟩⟩
theorem Foot.aside {O2 : List Nat} {R : Nat} {v v' : World} (h : Foot O O2 w v) (hT : Turns R R v v') (hR : w.heap.size ≤ R) : Foot O O2 w v' :=
  ⟨hT.os.trans h.os, hT.tape.trans h.tape, hT.output.trans h.output, Nat.le_trans h.size hT.size, fun c hc hnc => (hT.block c (Nat.lt_of_lt_of_le hc h.size) (by omega) (by omega)).trans (h.block c hc hnc), h.fresh⟩
theorem Cl.aside {R : Nat} {v' : World} (h : Cl w O C p fa cs s rd B m) (hT : Turns R R w v') (hR : R ∉ O) : Cl v' O C p fa cs s rd B m :=
  h.keep ⟨hT.size, fun c hc => hT.block c (h.lt c hc) (fun e => hR (e ▸ hc)) (fun e => hR (e ▸ hc))⟩
theorem three_boxes (w : World) (a b c d e f x y z a' b' c' d' e' f' : Value) (t u v : TypeId) (V : World) (hV : V = (((w.alloc (.cells #[a, b, c, d, e, f] t)).alloc (.cells #[x, y, z] u)).alloc (.cells #[a', b', c', d', e', f'] v))) :
    (∀ (i : Nat) (k : Value), (#[a, b, c, d, e, f] : Array Value)[i]? = some k → V.cell? ⟨w.heap.size, i, none⟩ = some k) ∧ (∀ (i : Nat) (k : Value), (#[x, y, z] : Array Value)[i]? = some k → V.cell? ⟨w.heap.size + 1, i, none⟩ = some k) ∧ (∀ (i : Nat) (k : Value), (#[a', b', c', d', e', f'] : Array Value)[i]? = some k → V.cell? ⟨w.heap.size + 1 + 1, i, none⟩ = some k) ∧ (∀ i, V.frozen? ⟨w.heap.size, i, none⟩ = false) ∧ (∀ i, V.frozen? ⟨w.heap.size + 1 + 1, i, none⟩ = false) ∧ Below w.heap.size w V ∧ V.heap.size = w.heap.size + 3 := by
  subst hV
  obtain ⟨p1, p2, p3, p4⟩ := box_any w #[a, b, c, d, e, f] t
  generalize w.alloc (.cells #[a, b, c, d, e, f] t) = W1 at *
  obtain ⟨q1, q2, q3, q4⟩ := box_any W1 #[x, y, z] u
  rw [p4] at q1 q2 q4
  generalize W1.alloc (.cells #[x, y, z] u) = W2 at *
  obtain ⟨r1, r2, r3, r4⟩ := box_any W2 #[a', b', c', d', e', f'] v
  rw [q4] at r1 r2 r4
  generalize W2.alloc (.cells #[a', b', c', d', e', f'] v) = W3 at *
  have k1 : ∀ i, W3.cell? ⟨w.heap.size, i, none⟩ = W1.cell? ⟨w.heap.size, i, none⟩ := fun i => (r3.cell (p := ⟨w.heap.size, i, none⟩) (by show w.heap.size < _; omega)).trans (q3.cell (p := ⟨w.heap.size, i, none⟩) (by show w.heap.size < _; omega))
  have k2 : ∀ i, W3.cell? ⟨w.heap.size + 1, i, none⟩ = W2.cell? ⟨w.heap.size + 1, i, none⟩ := fun i => r3.cell (p := ⟨w.heap.size + 1, i, none⟩) (by show w.heap.size + 1 < _; omega)
  refine ⟨fun i k hi => (k1 i).trans (p1 i k hi), fun i k hi => (k2 i).trans (q1 i k hi), r1, fun i => ?_, r2, ?_, r4⟩
  · exact (r3.frozen (p := ⟨w.heap.size, i, none⟩) (by show w.heap.size < _; omega)).trans ((q3.frozen (p := ⟨w.heap.size, i, none⟩) (by show w.heap.size < _; omega)).trans (p2 i))
  · exact (p3.trans (q3.mono (by omega))).trans (r3.mono (by omega))

-- WALKS
set_option maxRecDepth 100000 in
set_option maxHeartbeats 4000000 in
theorem csends_no0 (h : Cl w O C p fa cs s rd B m) (i who : Nat) (mode : Int) (hi : i < p.ns) (hw : p.nd i = who) (hwn : who < p.n) (hnn : p.nodes = p.n) (hn : p.n ≤ 16) (hB0 : 1 ≤ B) (hs : sendsB (s.nodes who).g (s.nodes who).b (s.nodes who).fz = false) (hb : bitI fa who = false) :
    Calls Tryz.prog 19 #[.pointer (some ⟨C, 0, none⟩), .int .i64 i, .int .i64 mode] w fun e w' => e = .returned (.tuple #[frameV who i 0 (-1) 0 ByteArray.empty, .bool false]) ∧ ∃ O', Foot O O' w w' ∧ Cl w' O' C p fa cs (s.setNode who (s.nodes who).sent) rd B m := by
  obtain ⟨sb, soff, hsa, hsX, hsc⟩ := h.base.sl (by omega)
  obtain ⟨s0, s1, s2⟩ := hsc i hi
  have c6 := h.base.c6
  rw [hsa] at c6
  have hsl := h.base.lx _ hsX
  have hlC := h.base.lc
  have ii : (i : Int) < (p.ns : Int) := by omega
  rw [hw] at s0
  obtain ⟨FR, hFR⟩ : ∃ FR, p.fr i = FR := ⟨_, rfl⟩
  obtain ⟨TD, hTD⟩ : ∃ TD, p.td i = TD := ⟨_, rfl⟩
  rw [hFR] at s1
  rw [hTD] at s2
  have HFR : Hid (p.fr i = FR) := hFR
  obtain ⟨V, hVe⟩ : ∃ V, V = (((w.alloc (.cells #[.int .i64 0, .int .i64 0, .int .i64 0, .int .i64 0, .int .i64 0, .string ⟨#[]⟩] 72)).alloc (.cells #[.int .i64 who, .int .i64 FR, .int .i64 TD] 61)).alloc (.cells #[.int .i64 who, .int .i64 i, .int .i64 0, .int .i64 (-1), .int .i64 0, .string ⟨#[]⟩] 72)) := ⟨_, rfl⟩
  obtain ⟨bR, bS, bF, zR, zF, hBel, hsz⟩ := three_boxes w _ _ _ _ _ _ _ _ _ _ _ _ _ _ _ _ _ _ V hVe
  have HV0 : Hid (Foot O O w V) := Foot.of_below hBel
  have hc := h.below hBel
  have HX : Hid ((w.heap.size ∉ O ∧ w.heap.size + 1 ∉ O ∧ w.heap.size + 1 + 1 ∉ O) ∧ V.heap.size = w.heap.size + 3) := ⟨⟨fun y => Nat.lt_irrefl _ (h.lt _ y), fun y => by have := h.lt _ y; omega, fun y => by have := h.lt _ y; omega⟩, hsz⟩
  have HBR : Hid _ := bR
  have HBS : Hid _ := bS
  have HBF : Hid _ := bF
  have HZ : Hid _ := And.intro zR zF
  have HI0 : Hid (InCl O V V C p fa cs s rd B m) := ⟨O, Foot.refl _ _, hc⟩
  have HN : Hid (p.n ≤ 16 ∧ who < p.n ∧ p.nodes = p.n ∧ 1 ≤ B) := ⟨hn, hwn, hnn, hB0⟩
  have c13 := hc.base.c13
  have cnd := hc.base.nd who hwn
  have hnb := hc.base.lx _ hc.base.ndX
  have hlV := hc.base.lc
  have b0 : V.cell? ⟨w.heap.size + 1, 0, none⟩ = some (.int .i64 who) := bS 0 _ rfl
  have hse := fun (u : Nat) => csendsN (HI0.out.drawn u) who hwn hB0
  have HSE : Hid _ := hse
  obtain ⟨n, hpn⟩ : ∃ n, p.n = n := ⟨_, rfl⟩
  have HPN : Hid (p.n = n) := hpn
  have hsw : w.heap.size + 1 < V.heap.size := by omega
  have ww : (who : Int) < (n : Int) := by omega
  rw [hpn] at c13
  have HVE : Hid (V = _) := hVe
  clear hse bR bS bF zR zF hBel hsz hVe h hc hFR hTD hpn hwn hn hnn hsa hsc hw hi hsX
  have HS : Hid (sendsB (s.nodes who).g (s.nodes who).b (s.nodes who).fz = false) := hs
  rw [hs, if_neg (by decide)] at HSE
  go_enter Tryz.func19, Tryz.ntmps19
  go_wp2_with fail
  rw [← HVE.out]
  clear HVE c6 s0 s1 s2 hsl hlC
  go_region_held3 (fun u => u.cell? ⟨C, 13, none⟩ = some (.slice (some ⟨m.nb, 0, none⟩) n m.ncap) ∧ u.cell? ⟨w.heap.size + 1, 0, none⟩ = some (.int .i64 who) ∧ u.cell? ⟨m.nb, who, none⟩ = some (.pointer (some ⟨m.P who, 0, none⟩))) (go_keep) (first
    | (go_at_call 43; refine (HSE.out _).mono ?_; rintro ev v1 ⟨rfl, hI1⟩; have HI1 : Hid (InCl O V v1 C p fa cs (s.setNode who (s.nodes who).sent) rd B m) := hI1; have y13 := hI1.base.c13; rw [HPN.out] at y13; have y0 := (hI1.box hsw HX.out.1.2.1 0).trans b0; have ynd := hI1.base.nd who HN.out.2.1))
  have c10 := HI1.out.base.c10
  have hlC1 := HI1.out.base.lc
  have hsw1 : w.heap.size + 1 < v1.heap.size := Nat.lt_of_lt_of_le hsw HI1.out.size
  have cR : ∀ (j : Nat) (u : Value), (#[.int .i64 0, .int .i64 0, .int .i64 0, .int .i64 0, .int .i64 0, .string ⟨#[]⟩] : Array Value)[j]? = some u → v1.cell? ⟨w.heap.size, j, none⟩ = some u := fun j u hu => (HI1.out.box (by have := HX.out.2; omega) HX.out.1.1 j).trans (HBR.out j u hu)
  have cF : ∀ (j : Nat) (u : Value), (#[.int .i64 who, .int .i64 i, .int .i64 0, .int .i64 (-1), .int .i64 0, .string ⟨#[]⟩] : Array Value)[j]? = some u → v1.cell? ⟨w.heap.size + 1 + 1, j, none⟩ = some u := fun j u hu => (HI1.out.box (by have := HX.out.2; omega) HX.out.1.2.2 j).trans (HBF.out j u hu)
  have HcR : Hid _ := cR
  have HcF : Hid _ := cF
  have hhas := fun v => chas_any fa who (by have := HN.out; omega) v
  clear hI1 y13 ynd cR cF c13 cnd b0
  rw [hb] at hhas
  go_wp2_with fail
  go_quiet (first | (go_at_call 23; refine Calls.quiet_of_same (hhas _)))
  have hFl : w.heap.size + 1 + 1 < v1.heap.size := by have := HX.out.2; have := HI1.out.size; omega
  have hRl : w.heap.size < v1.heap.size := by omega
  have zr : ∀ j, v1.frozen? ⟨w.heap.size, j, none⟩ = false := fun j => by
    obtain ⟨O1, q1, _⟩ := HI1.out
    exact (q1.frozen (p := ⟨w.heap.size, j, none⟩) (by show w.heap.size < _; have := HX.out.2; omega) HX.out.1.1).trans (HZ.out.1 j)
  have zf : ∀ j, v1.frozen? ⟨w.heap.size + 1 + 1, j, none⟩ = false := fun j => by
    obtain ⟨O1, q1, _⟩ := HI1.out
    exact (q1.frozen (p := ⟨w.heap.size + 1 + 1, j, none⟩) (by show w.heap.size + 1 + 1 < _; have := HX.out.2; omega) HX.out.1.2.2).trans (HZ.out.2 j)
  have f0 : v1.cell? ⟨w.heap.size + 1 + 1, 0, none⟩ = some (.int .i64 who) := HcF.out 0 _ rfl
  have f1 : v1.cell? ⟨w.heap.size + 1 + 1, 1, none⟩ = some (.int .i64 i) := HcF.out 1 _ rfl
  have f2 : v1.cell? ⟨w.heap.size + 1 + 1, 2, none⟩ = some (.int .i64 0) := HcF.out 2 _ rfl
  have f3 : v1.cell? ⟨w.heap.size + 1 + 1, 3, none⟩ = some (.int .i64 (-1)) := HcF.out 3 _ rfl
  have f4 : v1.cell? ⟨w.heap.size + 1 + 1, 4, none⟩ = some (.int .i64 0) := HcF.out 4 _ rfl
  have f5 : v1.cell? ⟨w.heap.size + 1 + 1, 5, none⟩ = some (.string ⟨#[]⟩) := HcF.out 5 _ rfl
  have r0 : v1.cell? ⟨w.heap.size, 0, none⟩ = some (.int .i64 0) := HcR.out 0 _ rfl
  have r1 : v1.cell? ⟨w.heap.size, 1, none⟩ = some (.int .i64 0) := HcR.out 1 _ rfl
  have r2 : v1.cell? ⟨w.heap.size, 2, none⟩ = some (.int .i64 0) := HcR.out 2 _ rfl
  have r3 : v1.cell? ⟨w.heap.size, 3, none⟩ = some (.int .i64 0) := HcR.out 3 _ rfl
  have r4 : v1.cell? ⟨w.heap.size, 4, none⟩ = some (.int .i64 0) := HcR.out 4 _ rfl
  have r5 : v1.cell? ⟨w.heap.size, 5, none⟩ = some (.string ⟨#[]⟩) := HcR.out 5 _ rfl
  have zr0 := zr 0
  have zr1 := zr 1
  have zr2 := zr 2
  have zr3 := zr 3
  have zr4 := zr 4
  have zr5 := zr 5
  have h6 := fun u : Nat => six_stores (v := v1.drewN u) r0 r1 r2 r3 r4 r5 (.int .i64 who) (.int .i64 i) (.int .i64 0) (.int .i64 (-1)) (.int .i64 0) (.string ⟨#[]⟩)
  have H6 : Hid _ := h6
  clear h6 zr zf HcR HcF HBR HBS HBF
  go_wp2_with fail
  obtain ⟨⟨w0, w1, w2, w3, w4, w5⟩, hT⟩ := H6.out _
  have HD : Hid (∃ O', _) := (HI1.out.drawn _).beside hT (by have := HX.out.2; omega) HX.out.1.1 HV0.out (Nat.le_refl _)
  exact bodyPost_ret (v := .tuple #[frameV who i 0 (-1) 0 ByteArray.empty, .bool false]) (by simp [results, Tryz.results19, go_sem, w0, w1, w2, w3, w4, w5]; rfl) rfl ⟨rfl, HD.out⟩

set_option maxRecDepth 100000 in
set_option maxHeartbeats 4000000 in
theorem csends_no1 (h : Cl w O C p fa cs s rd B m) (i who : Nat) (mode : Int) (hi : i < p.ns) (hw : p.nd i = who) (hwn : who < p.n) (hnn : p.nodes = p.n) (hn : p.n ≤ 16) (hB0 : 1 ≤ B) (hs : sendsB (s.nodes who).g (s.nodes who).b (s.nodes who).fz = false) (hb : bitI fa who = true) :
    Calls Tryz.prog 19 #[.pointer (some ⟨C, 0, none⟩), .int .i64 i, .int .i64 mode] w fun e w' => e = .returned (.tuple #[frameV who i 0 (-1) 0 ByteArray.empty, .bool false]) ∧ ∃ O', Foot O O' w w' ∧ Cl w' O' C p fa cs (s.setNode who (s.nodes who).sent) rd B m := by
  obtain ⟨sb, soff, hsa, hsX, hsc⟩ := h.base.sl (by omega)
  obtain ⟨s0, s1, s2⟩ := hsc i hi
  have c6 := h.base.c6
  rw [hsa] at c6
  have hsl := h.base.lx _ hsX
  have hlC := h.base.lc
  have ii : (i : Int) < (p.ns : Int) := by omega
  rw [hw] at s0
  obtain ⟨FR, hFR⟩ : ∃ FR, p.fr i = FR := ⟨_, rfl⟩
  obtain ⟨TD, hTD⟩ : ∃ TD, p.td i = TD := ⟨_, rfl⟩
  rw [hFR] at s1
  rw [hTD] at s2
  have HFR : Hid (p.fr i = FR) := hFR
  obtain ⟨V, hVe⟩ : ∃ V, V = (((w.alloc (.cells #[.int .i64 0, .int .i64 0, .int .i64 0, .int .i64 0, .int .i64 0, .string ⟨#[]⟩] 72)).alloc (.cells #[.int .i64 who, .int .i64 FR, .int .i64 TD] 61)).alloc (.cells #[.int .i64 who, .int .i64 i, .int .i64 0, .int .i64 (-1), .int .i64 0, .string ⟨#[]⟩] 72)) := ⟨_, rfl⟩
  obtain ⟨bR, bS, bF, zR, zF, hBel, hsz⟩ := three_boxes w _ _ _ _ _ _ _ _ _ _ _ _ _ _ _ _ _ _ V hVe
  have HV0 : Hid (Foot O O w V) := Foot.of_below hBel
  have hc := h.below hBel
  have HX : Hid ((w.heap.size ∉ O ∧ w.heap.size + 1 ∉ O ∧ w.heap.size + 1 + 1 ∉ O) ∧ V.heap.size = w.heap.size + 3) := ⟨⟨fun y => Nat.lt_irrefl _ (h.lt _ y), fun y => by have := h.lt _ y; omega, fun y => by have := h.lt _ y; omega⟩, hsz⟩
  have HBR : Hid _ := bR
  have HBS : Hid _ := bS
  have HBF : Hid _ := bF
  have HZ : Hid _ := And.intro zR zF
  have HI0 : Hid (InCl O V V C p fa cs s rd B m) := ⟨O, Foot.refl _ _, hc⟩
  have HN : Hid (p.n ≤ 16 ∧ who < p.n ∧ p.nodes = p.n ∧ 1 ≤ B) := ⟨hn, hwn, hnn, hB0⟩
  have c13 := hc.base.c13
  have cnd := hc.base.nd who hwn
  have hnb := hc.base.lx _ hc.base.ndX
  have hlV := hc.base.lc
  have b0 : V.cell? ⟨w.heap.size + 1, 0, none⟩ = some (.int .i64 who) := bS 0 _ rfl
  have hse := fun (u : Nat) => csendsN (HI0.out.drawn u) who hwn hB0
  have HSE : Hid _ := hse
  obtain ⟨n, hpn⟩ : ∃ n, p.n = n := ⟨_, rfl⟩
  have HPN : Hid (p.n = n) := hpn
  have hsw : w.heap.size + 1 < V.heap.size := by omega
  have ww : (who : Int) < (n : Int) := by omega
  rw [hpn] at c13
  have HVE : Hid (V = _) := hVe
  clear hse bR bS bF zR zF hBel hsz hVe h hc hFR hTD hpn hwn hn hnn hsa hsc hw hi hsX
  have HS : Hid (sendsB (s.nodes who).g (s.nodes who).b (s.nodes who).fz = false) := hs
  rw [hs, if_neg (by decide)] at HSE
  go_enter Tryz.func19, Tryz.ntmps19
  go_wp2_with fail
  rw [← HVE.out]
  clear HVE c6 s0 s1 s2 hsl hlC
  go_region_held3 (fun u => u.cell? ⟨C, 13, none⟩ = some (.slice (some ⟨m.nb, 0, none⟩) n m.ncap) ∧ u.cell? ⟨w.heap.size + 1, 0, none⟩ = some (.int .i64 who) ∧ u.cell? ⟨m.nb, who, none⟩ = some (.pointer (some ⟨m.P who, 0, none⟩))) (go_keep) (first
    | (go_at_call 43; refine (HSE.out _).mono ?_; rintro ev v1 ⟨rfl, hI1⟩; have HI1 : Hid (InCl O V v1 C p fa cs (s.setNode who (s.nodes who).sent) rd B m) := hI1; have y13 := hI1.base.c13; rw [HPN.out] at y13; have y0 := (hI1.box hsw HX.out.1.2.1 0).trans b0; have ynd := hI1.base.nd who HN.out.2.1))
  have c10 := HI1.out.base.c10
  have hlC1 := HI1.out.base.lc
  have hsw1 : w.heap.size + 1 < v1.heap.size := Nat.lt_of_lt_of_le hsw HI1.out.size
  have cR : ∀ (j : Nat) (u : Value), (#[.int .i64 0, .int .i64 0, .int .i64 0, .int .i64 0, .int .i64 0, .string ⟨#[]⟩] : Array Value)[j]? = some u → v1.cell? ⟨w.heap.size, j, none⟩ = some u := fun j u hu => (HI1.out.box (by have := HX.out.2; omega) HX.out.1.1 j).trans (HBR.out j u hu)
  have cF : ∀ (j : Nat) (u : Value), (#[.int .i64 who, .int .i64 i, .int .i64 0, .int .i64 (-1), .int .i64 0, .string ⟨#[]⟩] : Array Value)[j]? = some u → v1.cell? ⟨w.heap.size + 1 + 1, j, none⟩ = some u := fun j u hu => (HI1.out.box (by have := HX.out.2; omega) HX.out.1.2.2 j).trans (HBF.out j u hu)
  have HcR : Hid _ := cR
  have HcF : Hid _ := cF
  have hhas := fun v => chas_any fa who (by have := HN.out; omega) v
  clear hI1 y13 ynd cR cF c13 cnd b0
  rw [hb] at hhas
  go_wp2_with fail
  go_quiet (first | (go_at_call 23; refine Calls.quiet_of_same (hhas _)))
  have hFl : w.heap.size + 1 + 1 < v1.heap.size := by have := HX.out.2; have := HI1.out.size; omega
  have hRl : w.heap.size < v1.heap.size := by omega
  have zr : ∀ j, v1.frozen? ⟨w.heap.size, j, none⟩ = false := fun j => by
    obtain ⟨O1, q1, _⟩ := HI1.out
    exact (q1.frozen (p := ⟨w.heap.size, j, none⟩) (by show w.heap.size < _; have := HX.out.2; omega) HX.out.1.1).trans (HZ.out.1 j)
  have zf : ∀ j, v1.frozen? ⟨w.heap.size + 1 + 1, j, none⟩ = false := fun j => by
    obtain ⟨O1, q1, _⟩ := HI1.out
    exact (q1.frozen (p := ⟨w.heap.size + 1 + 1, j, none⟩) (by show w.heap.size + 1 + 1 < _; have := HX.out.2; omega) HX.out.1.2.2).trans (HZ.out.2 j)
  have f0 : v1.cell? ⟨w.heap.size + 1 + 1, 0, none⟩ = some (.int .i64 who) := HcF.out 0 _ rfl
  have f1 : v1.cell? ⟨w.heap.size + 1 + 1, 1, none⟩ = some (.int .i64 i) := HcF.out 1 _ rfl
  have f2 : v1.cell? ⟨w.heap.size + 1 + 1, 2, none⟩ = some (.int .i64 0) := HcF.out 2 _ rfl
  have f3 : v1.cell? ⟨w.heap.size + 1 + 1, 3, none⟩ = some (.int .i64 (-1)) := HcF.out 3 _ rfl
  have f4 : v1.cell? ⟨w.heap.size + 1 + 1, 4, none⟩ = some (.int .i64 0) := HcF.out 4 _ rfl
  have f5 : v1.cell? ⟨w.heap.size + 1 + 1, 5, none⟩ = some (.string ⟨#[]⟩) := HcF.out 5 _ rfl
  have r0 : v1.cell? ⟨w.heap.size, 0, none⟩ = some (.int .i64 0) := HcR.out 0 _ rfl
  have r1 : v1.cell? ⟨w.heap.size, 1, none⟩ = some (.int .i64 0) := HcR.out 1 _ rfl
  have r2 : v1.cell? ⟨w.heap.size, 2, none⟩ = some (.int .i64 0) := HcR.out 2 _ rfl
  have r3 : v1.cell? ⟨w.heap.size, 3, none⟩ = some (.int .i64 0) := HcR.out 3 _ rfl
  have r4 : v1.cell? ⟨w.heap.size, 4, none⟩ = some (.int .i64 0) := HcR.out 4 _ rfl
  have r5 : v1.cell? ⟨w.heap.size, 5, none⟩ = some (.string ⟨#[]⟩) := HcR.out 5 _ rfl
  have zr0 := zr 0
  have zr1 := zr 1
  have zr2 := zr 2
  have zr3 := zr 3
  have zr4 := zr 4
  have zr5 := zr 5
  have h6 := fun u : Nat => six_stores (v := v1.drewN u) r0 r1 r2 r3 r4 r5 (.int .i64 who) (.int .i64 i) (.int .i64 0) (.int .i64 (-1)) (.int .i64 0) (.string ⟨#[]⟩)
  have H6 : Hid _ := h6
  clear h6 zr zf HcR HcF HBR HBS HBF
  go_wp2_with fail
  obtain ⟨⟨w0, w1, w2, w3, w4, w5⟩, hT⟩ := H6.out _
  have HD : Hid (∃ O', _) := (HI1.out.drawn _).beside hT (by have := HX.out.2; omega) HX.out.1.1 HV0.out (Nat.le_refl _)
  exact bodyPost_ret (v := .tuple #[frameV who i 0 (-1) 0 ByteArray.empty, .bool false]) (by simp [results, Tryz.results19, go_sem, w0, w1, w2, w3, w4, w5]; rfl) rfl ⟨rfl, HD.out⟩

set_option maxRecDepth 100000 in
set_option maxHeartbeats 4000000 in
theorem csends_mute (h : Cl w O C p fa cs s rd B m) (i who : Nat) (mode : Int) (hi : i < p.ns) (hw : p.nd i = who) (hwn : who < p.n) (hnn : p.nodes = p.n) (hn : p.n ≤ 16) (hB0 : 1 ≤ B) (hs : sendsB (s.nodes who).g (s.nodes who).b (s.nodes who).fz = true) (hb : bitI fa who = true) (hm : mode = 1) :
    Calls Tryz.prog 19 #[.pointer (some ⟨C, 0, none⟩), .int .i64 i, .int .i64 mode] w fun e w' => e = .returned (.tuple #[frameV who i 0 (-1) 0 ByteArray.empty, .bool false]) ∧ ∃ O', Foot O O' w w' ∧ Cl w' O' C p fa cs (s.setNode who (s.nodes who).sent) rd B m := by
  obtain ⟨sb, soff, hsa, hsX, hsc⟩ := h.base.sl (by omega)
  obtain ⟨s0, s1, s2⟩ := hsc i hi
  have c6 := h.base.c6
  rw [hsa] at c6
  have hsl := h.base.lx _ hsX
  have hlC := h.base.lc
  have ii : (i : Int) < (p.ns : Int) := by omega
  rw [hw] at s0
  obtain ⟨FR, hFR⟩ : ∃ FR, p.fr i = FR := ⟨_, rfl⟩
  obtain ⟨TD, hTD⟩ : ∃ TD, p.td i = TD := ⟨_, rfl⟩
  rw [hFR] at s1
  rw [hTD] at s2
  have HFR : Hid (p.fr i = FR) := hFR
  obtain ⟨V, hVe⟩ : ∃ V, V = (((w.alloc (.cells #[.int .i64 0, .int .i64 0, .int .i64 0, .int .i64 0, .int .i64 0, .string ⟨#[]⟩] 72)).alloc (.cells #[.int .i64 who, .int .i64 FR, .int .i64 TD] 61)).alloc (.cells #[.int .i64 who, .int .i64 i, .int .i64 0, .int .i64 (-1), .int .i64 0, .string ⟨#[]⟩] 72)) := ⟨_, rfl⟩
  obtain ⟨bR, bS, bF, zR, zF, hBel, hsz⟩ := three_boxes w _ _ _ _ _ _ _ _ _ _ _ _ _ _ _ _ _ _ V hVe
  have HV0 : Hid (Foot O O w V) := Foot.of_below hBel
  have hc := h.below hBel
  have HX : Hid ((w.heap.size ∉ O ∧ w.heap.size + 1 ∉ O ∧ w.heap.size + 1 + 1 ∉ O) ∧ V.heap.size = w.heap.size + 3) := ⟨⟨fun y => Nat.lt_irrefl _ (h.lt _ y), fun y => by have := h.lt _ y; omega, fun y => by have := h.lt _ y; omega⟩, hsz⟩
  have HBR : Hid _ := bR
  have HBS : Hid _ := bS
  have HBF : Hid _ := bF
  have HZ : Hid _ := And.intro zR zF
  have HI0 : Hid (InCl O V V C p fa cs s rd B m) := ⟨O, Foot.refl _ _, hc⟩
  have HN : Hid (p.n ≤ 16 ∧ who < p.n ∧ p.nodes = p.n ∧ 1 ≤ B) := ⟨hn, hwn, hnn, hB0⟩
  have c13 := hc.base.c13
  have cnd := hc.base.nd who hwn
  have hnb := hc.base.lx _ hc.base.ndX
  have hlV := hc.base.lc
  have b0 : V.cell? ⟨w.heap.size + 1, 0, none⟩ = some (.int .i64 who) := bS 0 _ rfl
  have hse := fun (u : Nat) => csendsN (HI0.out.drawn u) who hwn hB0
  have HSE : Hid _ := hse
  obtain ⟨n, hpn⟩ : ∃ n, p.n = n := ⟨_, rfl⟩
  have HPN : Hid (p.n = n) := hpn
  have hsw : w.heap.size + 1 < V.heap.size := by omega
  have ww : (who : Int) < (n : Int) := by omega
  rw [hpn] at c13
  have HVE : Hid (V = _) := hVe
  clear hse bR bS bF zR zF hBel hsz hVe h hc hFR hTD hpn hwn hn hnn hsa hsc hw hi hsX
  have HS : Hid (sendsB (s.nodes who).g (s.nodes who).b (s.nodes who).fz = true) := hs
  rw [hs, if_pos rfl] at HSE
  obtain ⟨M, hM⟩ : ∃ M, bitsV (s.nodes who).t p.n = M := ⟨_, rfl⟩
  have HM : Hid (bitsV (s.nodes who).t p.n = M) := hM
  rw [hM] at HSE
  clear hM
  subst hm
  go_enter Tryz.func19, Tryz.ntmps19
  go_wp2_with fail
  rw [← HVE.out]
  clear HVE c6 s0 s1 s2 hsl hlC
  go_region_held3 (fun u => u.cell? ⟨C, 13, none⟩ = some (.slice (some ⟨m.nb, 0, none⟩) n m.ncap) ∧ u.cell? ⟨w.heap.size + 1, 0, none⟩ = some (.int .i64 who) ∧ u.cell? ⟨m.nb, who, none⟩ = some (.pointer (some ⟨m.P who, 0, none⟩))) (go_keep) (first
    | (go_at_call 43; refine (HSE.out _).mono ?_; rintro ev v1 ⟨rfl, hI1⟩; have HI1 : Hid (InCl O V v1 C p fa cs (s.setNode who (s.nodes who).sent) rd B m) := hI1; have y13 := hI1.base.c13; rw [HPN.out] at y13; have y0 := (hI1.box hsw HX.out.1.2.1 0).trans b0; have ynd := hI1.base.nd who HN.out.2.1))
  have c10 := HI1.out.base.c10
  have hlC1 := HI1.out.base.lc
  have hsw1 : w.heap.size + 1 < v1.heap.size := Nat.lt_of_lt_of_le hsw HI1.out.size
  have cR : ∀ (j : Nat) (u : Value), (#[.int .i64 0, .int .i64 0, .int .i64 0, .int .i64 0, .int .i64 0, .string ⟨#[]⟩] : Array Value)[j]? = some u → v1.cell? ⟨w.heap.size, j, none⟩ = some u := fun j u hu => (HI1.out.box (by have := HX.out.2; omega) HX.out.1.1 j).trans (HBR.out j u hu)
  have cF : ∀ (j : Nat) (u : Value), (#[.int .i64 who, .int .i64 i, .int .i64 0, .int .i64 (-1), .int .i64 0, .string ⟨#[]⟩] : Array Value)[j]? = some u → v1.cell? ⟨w.heap.size + 1 + 1, j, none⟩ = some u := fun j u hu => (HI1.out.box (by have := HX.out.2; omega) HX.out.1.2.2 j).trans (HBF.out j u hu)
  have HcR : Hid _ := cR
  have HcF : Hid _ := cF
  have hhas := fun v => chas_any fa who (by have := HN.out; omega) v
  clear hI1 y13 ynd cR cF c13 cnd b0
  rw [hb] at hhas
  go_wp2_with fail
  go_quiet (first | (go_at_call 23; refine Calls.quiet_of_same (hhas _)))
  have hFl : w.heap.size + 1 + 1 < v1.heap.size := by have := HX.out.2; have := HI1.out.size; omega
  have hRl : w.heap.size < v1.heap.size := by omega
  have zr : ∀ j, v1.frozen? ⟨w.heap.size, j, none⟩ = false := fun j => by
    obtain ⟨O1, q1, _⟩ := HI1.out
    exact (q1.frozen (p := ⟨w.heap.size, j, none⟩) (by show w.heap.size < _; have := HX.out.2; omega) HX.out.1.1).trans (HZ.out.1 j)
  have zf : ∀ j, v1.frozen? ⟨w.heap.size + 1 + 1, j, none⟩ = false := fun j => by
    obtain ⟨O1, q1, _⟩ := HI1.out
    exact (q1.frozen (p := ⟨w.heap.size + 1 + 1, j, none⟩) (by show w.heap.size + 1 + 1 < _; have := HX.out.2; omega) HX.out.1.2.2).trans (HZ.out.2 j)
  have f0 : v1.cell? ⟨w.heap.size + 1 + 1, 0, none⟩ = some (.int .i64 who) := HcF.out 0 _ rfl
  have f1 : v1.cell? ⟨w.heap.size + 1 + 1, 1, none⟩ = some (.int .i64 i) := HcF.out 1 _ rfl
  have f2 : v1.cell? ⟨w.heap.size + 1 + 1, 2, none⟩ = some (.int .i64 0) := HcF.out 2 _ rfl
  have f3 : v1.cell? ⟨w.heap.size + 1 + 1, 3, none⟩ = some (.int .i64 (-1)) := HcF.out 3 _ rfl
  have f4 : v1.cell? ⟨w.heap.size + 1 + 1, 4, none⟩ = some (.int .i64 0) := HcF.out 4 _ rfl
  have f5 : v1.cell? ⟨w.heap.size + 1 + 1, 5, none⟩ = some (.string ⟨#[]⟩) := HcF.out 5 _ rfl
  have r0 : v1.cell? ⟨w.heap.size, 0, none⟩ = some (.int .i64 0) := HcR.out 0 _ rfl
  have r1 : v1.cell? ⟨w.heap.size, 1, none⟩ = some (.int .i64 0) := HcR.out 1 _ rfl
  have r2 : v1.cell? ⟨w.heap.size, 2, none⟩ = some (.int .i64 0) := HcR.out 2 _ rfl
  have r3 : v1.cell? ⟨w.heap.size, 3, none⟩ = some (.int .i64 0) := HcR.out 3 _ rfl
  have r4 : v1.cell? ⟨w.heap.size, 4, none⟩ = some (.int .i64 0) := HcR.out 4 _ rfl
  have r5 : v1.cell? ⟨w.heap.size, 5, none⟩ = some (.string ⟨#[]⟩) := HcR.out 5 _ rfl
  have zr0 := zr 0
  have zr1 := zr 1
  have zr2 := zr 2
  have zr3 := zr 3
  have zr4 := zr 4
  have zr5 := zr 5
  have h6 := fun u : Nat => six_stores (v := v1.drewN u) r0 r1 r2 r3 r4 r5 (.int .i64 who) (.int .i64 i) (.int .i64 0) (.int .i64 (-1)) (.int .i64 0) (.string ⟨#[]⟩)
  have H6 : Hid _ := h6
  clear h6 zr zf HcR HcF HBR HBS HBF
  go_wp2_with fail
  obtain ⟨⟨w0, w1, w2, w3, w4, w5⟩, hT⟩ := H6.out _
  have HD : Hid (∃ O', _) := (HI1.out.drawn _).beside hT (by have := HX.out.2; omega) HX.out.1.1 HV0.out (Nat.le_refl _)
  exact bodyPost_ret (v := .tuple #[frameV who i 0 (-1) 0 ByteArray.empty, .bool false]) (by simp [results, Tryz.results19, go_sem, w0, w1, w2, w3, w4, w5]; rfl) rfl ⟨rfl, HD.out⟩

set_option maxRecDepth 100000 in
set_option maxHeartbeats 4000000 in
theorem csends_right0 (h : Cl w O C p fa cs s rd B m) (i who : Nat) (mode : Int) (hi : i < p.ns) (hw : p.nd i = who) (hwn : who < p.n) (hnn : p.nodes = p.n) (hn : p.n ≤ 16) (hB0 : 1 ≤ B) (hs : sendsB (s.nodes who).g (s.nodes who).b (s.nodes who).fz = true) (hb : bitI fa who = false) (hr1 : 1 ≤ p.round) (hr2 : p.round ≤ 137438953472) (hrd : 0 ≤ rd) (hf0 : 0 ≤ p.fr i) (hf1 : p.fr i ≤ 1099511627776) (hnl : p.nl ≤ 8) (hB : B ≤ 9999990) (hlk : ∀ k, k < p.nl → 0 ≤ p.lf k ∧ 0 ≤ p.lb k ∧ p.lb k ≤ 1099511627776) :
    Calls Tryz.prog 19 #[.pointer (some ⟨C, 0, none⟩), .int .i64 i, .int .i64 mode] w fun e w' => e = .returned (.tuple #[frameV who i (bitsV (s.nodes who).t p.n) (msgLk (linksTo p.S who (rd * p.round + p.fr i) s.links p.nl).2) (msgSeq (linksTo p.S who (rd * p.round + p.fr i) s.links p.nl).2) (msgDat (linksTo p.S who (rd * p.round + p.fr i) s.links p.nl).2), .bool true]) ∧ ∃ O', Foot O O' w w' ∧ Cl w' O' C p fa cs ⟨(s.setNode who (s.nodes who).sent).nodes, (linksTo p.S who (rd * p.round + p.fr i) s.links p.nl).1, s.newest, s.ports⟩ rd B m := by
  obtain ⟨sb, soff, hsa, hsX, hsc⟩ := h.base.sl (by omega)
  obtain ⟨s0, s1, s2⟩ := hsc i hi
  have c6 := h.base.c6
  rw [hsa] at c6
  have hsl := h.base.lx _ hsX
  have hlC := h.base.lc
  have ii : (i : Int) < (p.ns : Int) := by omega
  rw [hw] at s0
  obtain ⟨FR, hFR⟩ : ∃ FR, p.fr i = FR := ⟨_, rfl⟩
  obtain ⟨TD, hTD⟩ : ∃ TD, p.td i = TD := ⟨_, rfl⟩
  rw [hFR] at s1
  rw [hTD] at s2
  have HFR : Hid (p.fr i = FR) := hFR
  obtain ⟨V, hVe⟩ : ∃ V, V = (((w.alloc (.cells #[.int .i64 0, .int .i64 0, .int .i64 0, .int .i64 0, .int .i64 0, .string ⟨#[]⟩] 72)).alloc (.cells #[.int .i64 who, .int .i64 FR, .int .i64 TD] 61)).alloc (.cells #[.int .i64 who, .int .i64 i, .int .i64 0, .int .i64 (-1), .int .i64 0, .string ⟨#[]⟩] 72)) := ⟨_, rfl⟩
  obtain ⟨bR, bS, bF, zR, zF, hBel, hsz⟩ := three_boxes w _ _ _ _ _ _ _ _ _ _ _ _ _ _ _ _ _ _ V hVe
  have HV0 : Hid (Foot O O w V) := Foot.of_below hBel
  have hc := h.below hBel
  have HX : Hid ((w.heap.size ∉ O ∧ w.heap.size + 1 ∉ O ∧ w.heap.size + 1 + 1 ∉ O) ∧ V.heap.size = w.heap.size + 3) := ⟨⟨fun y => Nat.lt_irrefl _ (h.lt _ y), fun y => by have := h.lt _ y; omega, fun y => by have := h.lt _ y; omega⟩, hsz⟩
  have HBR : Hid _ := bR
  have HBS : Hid _ := bS
  have HBF : Hid _ := bF
  have HZ : Hid _ := And.intro zR zF
  have HI0 : Hid (InCl O V V C p fa cs s rd B m) := ⟨O, Foot.refl _ _, hc⟩
  have HN : Hid (p.n ≤ 16 ∧ who < p.n ∧ p.nodes = p.n ∧ 1 ≤ B) := ⟨hn, hwn, hnn, hB0⟩
  have c13 := hc.base.c13
  have cnd := hc.base.nd who hwn
  have hnb := hc.base.lx _ hc.base.ndX
  have hlV := hc.base.lc
  have b0 : V.cell? ⟨w.heap.size + 1, 0, none⟩ = some (.int .i64 who) := bS 0 _ rfl
  have hse := fun (u : Nat) => csendsN (HI0.out.drawn u) who hwn hB0
  have HSE : Hid _ := hse
  obtain ⟨n, hpn⟩ : ∃ n, p.n = n := ⟨_, rfl⟩
  have HPN : Hid (p.n = n) := hpn
  have hsw : w.heap.size + 1 < V.heap.size := by omega
  have ww : (who : Int) < (n : Int) := by omega
  rw [hpn] at c13
  have HVE : Hid (V = _) := hVe
  clear hse bR bS bF zR zF hBel hsz hVe h hc hFR hTD hpn hwn hn hnn hsa hsc hw hi hsX
  have HS : Hid (sendsB (s.nodes who).g (s.nodes who).b (s.nodes who).fz = true) := hs
  rw [hs, if_pos rfl] at HSE
  obtain ⟨M, hM⟩ : ∃ M, bitsV (s.nodes who).t p.n = M := ⟨_, rfl⟩
  have HM : Hid (bitsV (s.nodes who).t p.n = M) := hM
  rw [hM] at HSE
  clear hM
  have HB9 : Hid ((1 ≤ p.round ∧ p.round ≤ 137438953472 ∧ 0 ≤ rd ∧ 0 ≤ p.fr i ∧ p.fr i ≤ 1099511627776 ∧ p.nl ≤ 8 ∧ B ≤ 9999990) ∧ ∀ k, k < p.nl → 0 ≤ p.lf k ∧ 0 ≤ p.lb k ∧ p.lb k ≤ 1099511627776) := ⟨⟨hr1, hr2, hrd, hf0, hf1, hnl, hB⟩, hlk⟩
  clear hr1 hr2 hrd hf0 hf1 hnl hB hlk
  go_enter Tryz.func19, Tryz.ntmps19
  go_wp2_with fail
  rw [← HVE.out]
  clear HVE c6 s0 s1 s2 hsl hlC
  go_region_held3 (fun u => u.cell? ⟨C, 13, none⟩ = some (.slice (some ⟨m.nb, 0, none⟩) n m.ncap) ∧ u.cell? ⟨w.heap.size + 1, 0, none⟩ = some (.int .i64 who) ∧ u.cell? ⟨m.nb, who, none⟩ = some (.pointer (some ⟨m.P who, 0, none⟩))) (go_keep) (first
    | (go_at_call 43; refine (HSE.out _).mono ?_; rintro ev v1 ⟨rfl, hI1⟩; have HI1 : Hid (InCl O V v1 C p fa cs (s.setNode who (s.nodes who).sent) rd B m) := hI1; have y13 := hI1.base.c13; rw [HPN.out] at y13; have y0 := (hI1.box hsw HX.out.1.2.1 0).trans b0; have ynd := hI1.base.nd who HN.out.2.1))
  have c10 := HI1.out.base.c10
  have hlC1 := HI1.out.base.lc
  have hsw1 : w.heap.size + 1 < v1.heap.size := Nat.lt_of_lt_of_le hsw HI1.out.size
  have cR : ∀ (j : Nat) (u : Value), (#[.int .i64 0, .int .i64 0, .int .i64 0, .int .i64 0, .int .i64 0, .string ⟨#[]⟩] : Array Value)[j]? = some u → v1.cell? ⟨w.heap.size, j, none⟩ = some u := fun j u hu => (HI1.out.box (by have := HX.out.2; omega) HX.out.1.1 j).trans (HBR.out j u hu)
  have cF : ∀ (j : Nat) (u : Value), (#[.int .i64 who, .int .i64 i, .int .i64 0, .int .i64 (-1), .int .i64 0, .string ⟨#[]⟩] : Array Value)[j]? = some u → v1.cell? ⟨w.heap.size + 1 + 1, j, none⟩ = some u := fun j u hu => (HI1.out.box (by have := HX.out.2; omega) HX.out.1.2.2 j).trans (HBF.out j u hu)
  have HcR : Hid _ := cR
  have HcF : Hid _ := cF
  have hhas := fun v => chas_any fa who (by have := HN.out; omega) v
  clear hI1 y13 ynd cR cF c13 cnd b0
  rw [hb] at hhas
  go_wp2_with fail
  go_quiet (first | (go_at_call 23; refine Calls.quiet_of_same (hhas _)))
  have hFl : w.heap.size + 1 + 1 < v1.heap.size := by have := HX.out.2; have := HI1.out.size; omega
  have hRl : w.heap.size < v1.heap.size := by omega
  have zr : ∀ j, v1.frozen? ⟨w.heap.size, j, none⟩ = false := fun j => by
    obtain ⟨O1, q1, _⟩ := HI1.out
    exact (q1.frozen (p := ⟨w.heap.size, j, none⟩) (by show w.heap.size < _; have := HX.out.2; omega) HX.out.1.1).trans (HZ.out.1 j)
  have zf : ∀ j, v1.frozen? ⟨w.heap.size + 1 + 1, j, none⟩ = false := fun j => by
    obtain ⟨O1, q1, _⟩ := HI1.out
    exact (q1.frozen (p := ⟨w.heap.size + 1 + 1, j, none⟩) (by show w.heap.size + 1 + 1 < _; have := HX.out.2; omega) HX.out.1.2.2).trans (HZ.out.2 j)
  have f0 : v1.cell? ⟨w.heap.size + 1 + 1, 0, none⟩ = some (.int .i64 who) := HcF.out 0 _ rfl
  have f1 : v1.cell? ⟨w.heap.size + 1 + 1, 1, none⟩ = some (.int .i64 i) := HcF.out 1 _ rfl
  have f2 : v1.cell? ⟨w.heap.size + 1 + 1, 2, none⟩ = some (.int .i64 0) := HcF.out 2 _ rfl
  have f3 : v1.cell? ⟨w.heap.size + 1 + 1, 3, none⟩ = some (.int .i64 (-1)) := HcF.out 3 _ rfl
  have f4 : v1.cell? ⟨w.heap.size + 1 + 1, 4, none⟩ = some (.int .i64 0) := HcF.out 4 _ rfl
  have f5 : v1.cell? ⟨w.heap.size + 1 + 1, 5, none⟩ = some (.string ⟨#[]⟩) := HcF.out 5 _ rfl
  have HLD : Hid (∀ u, Calls Tryz.prog 44 #[.pointer (some ⟨C, 0, none⟩), .pointer (some ⟨w.heap.size + 1 + 1, 0, none⟩), .int .i64 FR] ((v1.drewN u).setCell ⟨w.heap.size + 1 + 1, 2, none⟩ (.int .i64 M)) fun e w' => e = .returned (.tuple #[]) ∧ ∃ LK SQ SD, (LK = msgLk (linksTo p.S who (rd * p.round + p.fr i) s.links p.nl).2 ∧ SQ = msgSeq (linksTo p.S who (rd * p.round + p.fr i) s.links p.nl).2 ∧ SD = msgDat (linksTo p.S who (rd * p.round + p.fr i) s.links p.nl).2) ∧
      (∃ O2, Foot O O2 w w' ∧ w.heap.size ∉ O2 ∧ Cl w' O2 C p fa cs ⟨(s.setNode who (s.nodes who).sent).nodes, (linksTo p.S who (rd * p.round + p.fr i) s.links p.nl).1, s.newest, s.ports⟩ rd B m) ∧ w.heap.size + 1 + 1 < w'.heap.size ∧
      (w'.cell? ⟨w.heap.size + 1 + 1, 0, none⟩ = some (.int .i64 who) ∧ w'.cell? ⟨w.heap.size + 1 + 1, 1, none⟩ = some (.int .i64 i) ∧ w'.cell? ⟨w.heap.size + 1 + 1, 2, none⟩ = some (.int .i64 M) ∧ w'.cell? ⟨w.heap.size + 1 + 1, 3, none⟩ = some (.int .i64 LK) ∧ w'.cell? ⟨w.heap.size + 1 + 1, 4, none⟩ = some (.int .i64 SQ) ∧ w'.cell? ⟨w.heap.size + 1 + 1, 5, none⟩ = some (.string SD)) ∧
      ∀ j, w'.cell? ⟨w.heap.size, j, none⟩ = v1.cell? ⟨w.heap.size, j, none⟩ ∧ w'.frozen? ⟨w.heap.size, j, none⟩ = false) := by
    intro u
    obtain ⟨⟨g1, g2, g3, g4, g5, g6, g7⟩, g8⟩ := HB9.out
    obtain ⟨O1, q1, q2⟩ := HI1.out
    have hn1 : w.heap.size + 1 + 1 ∉ O1 := fun y => by
      rcases q1.fresh _ y with z | z
      · exact HX.out.1.2.2 z
      · have := HX.out.2; omega
    have hn0 : w.heap.size ∉ O1 := fun y => by
      rcases q1.fresh _ y with z | z
      · exact HX.out.1.1 z
      · have := HX.out.2; omega
    have hT : Turns (w.heap.size + 1 + 1) (w.heap.size + 1 + 1) v1 ((v1.drewN u).setCell ⟨w.heap.size + 1 + 1, 2, none⟩ (.int .i64 M)) := (Turns.drawn u).set (p := ⟨w.heap.size + 1 + 1, 2, none⟩) (.inl rfl) _
    have q3 := q2.aside hT hn1
    have cc : ∀ j, j ≠ 2 → ((v1.drewN u).setCell ⟨w.heap.size + 1 + 1, 2, none⟩ (.int .i64 M)).cell? ⟨w.heap.size + 1 + 1, j, none⟩ = v1.cell? ⟨w.heap.size + 1 + 1, j, none⟩ := fun j hj => cell_other (.inr hj)
    refine (cload_any q3 (w.heap.size + 1 + 1) who i M FR (Nat.lt_of_lt_of_le hFl hT.size) hn1 (fun j => soft_set.trans (zf j)) ((cc 0 (by decide)).trans f0) ((cc 1 (by decide)).trans f1) (cell_set f2) ((cc 3 (by decide)).trans f3) ((cc 4 (by decide)).trans f4) ((cc 5 (by decide)).trans f5) g1 g2 g3 (HFR.out ▸ g4) (HFR.out ▸ g5) g6 g7 g8).mono ?_
    rintro e w' ⟨he, ⟨O2, k1, k2, k3⟩, d0, d1, d2, d3, d4, d5⟩
    rw [← HFR.out] at k3 d3 d4 d5
    have hsz : v1.heap.size ≤ w'.heap.size := Nat.le_trans hT.size k1.size
    refine ⟨he, _, _, _, ⟨rfl, rfl, rfl⟩, ⟨O2, ?_, ?_, k3⟩, by omega, ⟨d0, d1, d2, d3, d4, d5⟩, fun j => ⟨?_, ?_⟩⟩
    · have q4 := HV0.out.trans q1
      have q5 := q4.aside hT (by omega)
      refine ⟨k1.os.trans q5.os, k1.tape.trans q5.tape, k1.output.trans q5.output, Nat.le_trans q5.size k1.size, fun c hc hnc => ?_, fun c hc => ?_⟩
      · refine (k1.block c (Nat.lt_of_lt_of_le hc q5.size) (fun y => ?_)).trans (q5.block c hc hnc)
        rcases List.mem_cons.1 y with z | z
        · omega
        · rcases q5.fresh c z with z | z
          · exact hnc z
          · omega
      · rcases k1.fresh c (List.mem_cons_of_mem _ hc) with y | y
        · rcases List.mem_cons.1 y with z | z
          · exact absurd (z ▸ hc) k2
          · exact q5.fresh c z
        · exact .inr (Nat.le_trans q5.size y)
    · intro y
      rcases k1.fresh _ (List.mem_cons_of_mem _ y) with z | z
      · rcases List.mem_cons.1 z with z | z
        · omega
        · exact hn0 z
      · have := hT.size; omega
    · exact (k1.cell (p := ⟨w.heap.size, j, none⟩) (Nat.lt_of_lt_of_le hRl hT.size) (fun y => by
        rcases List.mem_cons.1 y with z | z
        · exact absurd z (by show w.heap.size ≠ _; omega)
        · exact hn0 z)).trans (cell_other (.inl (by show w.heap.size ≠ _; omega)))
    · exact (k1.frozen (p := ⟨w.heap.size, j, none⟩) (Nat.lt_of_lt_of_le hRl hT.size) (fun y => by
        rcases List.mem_cons.1 y with z | z
        · exact absurd z (by show w.heap.size ≠ _; omega)
        · exact hn0 z)).trans (soft_set.trans (zr j))
  have y1 : v1.cell? ⟨w.heap.size + 1, 1, none⟩ = some (.int .i64 FR) := (HI1.out.box hsw HX.out.1.2.1 1).trans (HBS.out 1 _ rfl)
  have zf2 := zf 2
  clear zr zf HBR HBS HBF HcF
  go_wp2_with fail
  refine (HLD.out _).mono ?_
  rintro e v2 ⟨rfl, LK, SQ, SD, hmsg, hcl, hl2, ⟨d0, d1, d2, d3, d4, d5⟩, hRR⟩
  have HMSG : Hid _ := hmsg
  have HCL : Hid _ := hcl
  have r0 := (hRR 0).1.trans (HcR.out 0 _ rfl)
  have r1 := (hRR 1).1.trans (HcR.out 1 _ rfl)
  have r2 := (hRR 2).1.trans (HcR.out 2 _ rfl)
  have r3 := (hRR 3).1.trans (HcR.out 3 _ rfl)
  have r4 := (hRR 4).1.trans (HcR.out 4 _ rfl)
  have r5 := (hRR 5).1.trans (HcR.out 5 _ rfl)
  have zr0 := (hRR 0).2
  have zr1 := (hRR 1).2
  have zr2 := (hRR 2).2
  have zr3 := (hRR 3).2
  have zr4 := (hRR 4).2
  have zr5 := (hRR 5).2
  have hl3 : w.heap.size < v2.heap.size := by omega
  have H6 : Hid _ := six_stores r0 r1 r2 r3 r4 r5 (.int .i64 who) (.int .i64 i) (.int .i64 M) (.int .i64 LK) (.int .i64 SQ) (.string SD)
  clear hRR hmsg hcl HLD HcR f0 f1 f2 f3 f4 f5 y0 y1 c10
  go_wp2_with fail
  obtain ⟨⟨w0, w1, w2, w3, w4, w5⟩, hT⟩ := H6.out
  obtain ⟨rfl, rfl, rfl⟩ := HMSG.out
  obtain ⟨O2, k1, k2, k3⟩ := HCL.out
  exact bodyPost_ret (v := .tuple #[frameV who i M (msgLk (linksTo p.S who (rd * p.round + p.fr i) s.links p.nl).2) (msgSeq (linksTo p.S who (rd * p.round + p.fr i) s.links p.nl).2) (msgDat (linksTo p.S who (rd * p.round + p.fr i) s.links p.nl).2), .bool true]) (by simp [results, Tryz.results19, go_sem, w0, w1, w2, w3, w4, w5]; rfl) rfl ⟨(by rw [HM.out]), O2, k1.aside hT (Nat.le_refl _), k3.aside hT k2⟩

set_option maxRecDepth 100000 in
set_option maxHeartbeats 4000000 in
theorem csends_right1 (h : Cl w O C p fa cs s rd B m) (i who : Nat) (mode : Int) (hi : i < p.ns) (hw : p.nd i = who) (hwn : who < p.n) (hnn : p.nodes = p.n) (hn : p.n ≤ 16) (hB0 : 1 ≤ B) (hs : sendsB (s.nodes who).g (s.nodes who).b (s.nodes who).fz = true) (hb : bitI fa who = true) (hm1 : mode ≠ 1) (hm2 : mode ≠ 2) (hr1 : 1 ≤ p.round) (hr2 : p.round ≤ 137438953472) (hrd : 0 ≤ rd) (hf0 : 0 ≤ p.fr i) (hf1 : p.fr i ≤ 1099511627776) (hnl : p.nl ≤ 8) (hB : B ≤ 9999990) (hlk : ∀ k, k < p.nl → 0 ≤ p.lf k ∧ 0 ≤ p.lb k ∧ p.lb k ≤ 1099511627776) :
    Calls Tryz.prog 19 #[.pointer (some ⟨C, 0, none⟩), .int .i64 i, .int .i64 mode] w fun e w' => e = .returned (.tuple #[frameV who i (bitsV (s.nodes who).t p.n) (msgLk (linksTo p.S who (rd * p.round + p.fr i) s.links p.nl).2) (msgSeq (linksTo p.S who (rd * p.round + p.fr i) s.links p.nl).2) (msgDat (linksTo p.S who (rd * p.round + p.fr i) s.links p.nl).2), .bool true]) ∧ ∃ O', Foot O O' w w' ∧ Cl w' O' C p fa cs ⟨(s.setNode who (s.nodes who).sent).nodes, (linksTo p.S who (rd * p.round + p.fr i) s.links p.nl).1, s.newest, s.ports⟩ rd B m := by
  obtain ⟨sb, soff, hsa, hsX, hsc⟩ := h.base.sl (by omega)
  obtain ⟨s0, s1, s2⟩ := hsc i hi
  have c6 := h.base.c6
  rw [hsa] at c6
  have hsl := h.base.lx _ hsX
  have hlC := h.base.lc
  have ii : (i : Int) < (p.ns : Int) := by omega
  rw [hw] at s0
  obtain ⟨FR, hFR⟩ : ∃ FR, p.fr i = FR := ⟨_, rfl⟩
  obtain ⟨TD, hTD⟩ : ∃ TD, p.td i = TD := ⟨_, rfl⟩
  rw [hFR] at s1
  rw [hTD] at s2
  have HFR : Hid (p.fr i = FR) := hFR
  obtain ⟨V, hVe⟩ : ∃ V, V = (((w.alloc (.cells #[.int .i64 0, .int .i64 0, .int .i64 0, .int .i64 0, .int .i64 0, .string ⟨#[]⟩] 72)).alloc (.cells #[.int .i64 who, .int .i64 FR, .int .i64 TD] 61)).alloc (.cells #[.int .i64 who, .int .i64 i, .int .i64 0, .int .i64 (-1), .int .i64 0, .string ⟨#[]⟩] 72)) := ⟨_, rfl⟩
  obtain ⟨bR, bS, bF, zR, zF, hBel, hsz⟩ := three_boxes w _ _ _ _ _ _ _ _ _ _ _ _ _ _ _ _ _ _ V hVe
  have HV0 : Hid (Foot O O w V) := Foot.of_below hBel
  have hc := h.below hBel
  have HX : Hid ((w.heap.size ∉ O ∧ w.heap.size + 1 ∉ O ∧ w.heap.size + 1 + 1 ∉ O) ∧ V.heap.size = w.heap.size + 3) := ⟨⟨fun y => Nat.lt_irrefl _ (h.lt _ y), fun y => by have := h.lt _ y; omega, fun y => by have := h.lt _ y; omega⟩, hsz⟩
  have HBR : Hid _ := bR
  have HBS : Hid _ := bS
  have HBF : Hid _ := bF
  have HZ : Hid _ := And.intro zR zF
  have HI0 : Hid (InCl O V V C p fa cs s rd B m) := ⟨O, Foot.refl _ _, hc⟩
  have HN : Hid (p.n ≤ 16 ∧ who < p.n ∧ p.nodes = p.n ∧ 1 ≤ B) := ⟨hn, hwn, hnn, hB0⟩
  have c13 := hc.base.c13
  have cnd := hc.base.nd who hwn
  have hnb := hc.base.lx _ hc.base.ndX
  have hlV := hc.base.lc
  have b0 : V.cell? ⟨w.heap.size + 1, 0, none⟩ = some (.int .i64 who) := bS 0 _ rfl
  have hse := fun (u : Nat) => csendsN (HI0.out.drawn u) who hwn hB0
  have HSE : Hid _ := hse
  obtain ⟨n, hpn⟩ : ∃ n, p.n = n := ⟨_, rfl⟩
  have HPN : Hid (p.n = n) := hpn
  have hsw : w.heap.size + 1 < V.heap.size := by omega
  have ww : (who : Int) < (n : Int) := by omega
  rw [hpn] at c13
  have HVE : Hid (V = _) := hVe
  clear hse bR bS bF zR zF hBel hsz hVe h hc hFR hTD hpn hwn hn hnn hsa hsc hw hi hsX
  have HS : Hid (sendsB (s.nodes who).g (s.nodes who).b (s.nodes who).fz = true) := hs
  rw [hs, if_pos rfl] at HSE
  obtain ⟨M, hM⟩ : ∃ M, bitsV (s.nodes who).t p.n = M := ⟨_, rfl⟩
  have HM : Hid (bitsV (s.nodes who).t p.n = M) := hM
  rw [hM] at HSE
  clear hM
  have HB9 : Hid ((1 ≤ p.round ∧ p.round ≤ 137438953472 ∧ 0 ≤ rd ∧ 0 ≤ p.fr i ∧ p.fr i ≤ 1099511627776 ∧ p.nl ≤ 8 ∧ B ≤ 9999990) ∧ ∀ k, k < p.nl → 0 ≤ p.lf k ∧ 0 ≤ p.lb k ∧ p.lb k ≤ 1099511627776) := ⟨⟨hr1, hr2, hrd, hf0, hf1, hnl, hB⟩, hlk⟩
  clear hr1 hr2 hrd hf0 hf1 hnl hB hlk
  have k1 : (mode == 1) = false := by simpa using hm1
  have k2 : (mode == 2) = false := by simpa using hm2
  clear hm1 hm2
  go_enter Tryz.func19, Tryz.ntmps19
  go_wp2_with fail
  rw [← HVE.out]
  clear HVE c6 s0 s1 s2 hsl hlC
  go_region_held3 (fun u => u.cell? ⟨C, 13, none⟩ = some (.slice (some ⟨m.nb, 0, none⟩) n m.ncap) ∧ u.cell? ⟨w.heap.size + 1, 0, none⟩ = some (.int .i64 who) ∧ u.cell? ⟨m.nb, who, none⟩ = some (.pointer (some ⟨m.P who, 0, none⟩))) (go_keep) (first
    | (go_at_call 43; refine (HSE.out _).mono ?_; rintro ev v1 ⟨rfl, hI1⟩; have HI1 : Hid (InCl O V v1 C p fa cs (s.setNode who (s.nodes who).sent) rd B m) := hI1; have y13 := hI1.base.c13; rw [HPN.out] at y13; have y0 := (hI1.box hsw HX.out.1.2.1 0).trans b0; have ynd := hI1.base.nd who HN.out.2.1))
  have c10 := HI1.out.base.c10
  have hlC1 := HI1.out.base.lc
  have hsw1 : w.heap.size + 1 < v1.heap.size := Nat.lt_of_lt_of_le hsw HI1.out.size
  have cR : ∀ (j : Nat) (u : Value), (#[.int .i64 0, .int .i64 0, .int .i64 0, .int .i64 0, .int .i64 0, .string ⟨#[]⟩] : Array Value)[j]? = some u → v1.cell? ⟨w.heap.size, j, none⟩ = some u := fun j u hu => (HI1.out.box (by have := HX.out.2; omega) HX.out.1.1 j).trans (HBR.out j u hu)
  have cF : ∀ (j : Nat) (u : Value), (#[.int .i64 who, .int .i64 i, .int .i64 0, .int .i64 (-1), .int .i64 0, .string ⟨#[]⟩] : Array Value)[j]? = some u → v1.cell? ⟨w.heap.size + 1 + 1, j, none⟩ = some u := fun j u hu => (HI1.out.box (by have := HX.out.2; omega) HX.out.1.2.2 j).trans (HBF.out j u hu)
  have HcR : Hid _ := cR
  have HcF : Hid _ := cF
  have hhas := fun v => chas_any fa who (by have := HN.out; omega) v
  clear hI1 y13 ynd cR cF c13 cnd b0
  rw [hb] at hhas
  go_wp2_with fail
  go_quiet (first | (go_at_call 23; refine Calls.quiet_of_same (hhas _)))
  have hFl : w.heap.size + 1 + 1 < v1.heap.size := by have := HX.out.2; have := HI1.out.size; omega
  have hRl : w.heap.size < v1.heap.size := by omega
  have zr : ∀ j, v1.frozen? ⟨w.heap.size, j, none⟩ = false := fun j => by
    obtain ⟨O1, q1, _⟩ := HI1.out
    exact (q1.frozen (p := ⟨w.heap.size, j, none⟩) (by show w.heap.size < _; have := HX.out.2; omega) HX.out.1.1).trans (HZ.out.1 j)
  have zf : ∀ j, v1.frozen? ⟨w.heap.size + 1 + 1, j, none⟩ = false := fun j => by
    obtain ⟨O1, q1, _⟩ := HI1.out
    exact (q1.frozen (p := ⟨w.heap.size + 1 + 1, j, none⟩) (by show w.heap.size + 1 + 1 < _; have := HX.out.2; omega) HX.out.1.2.2).trans (HZ.out.2 j)
  have f0 : v1.cell? ⟨w.heap.size + 1 + 1, 0, none⟩ = some (.int .i64 who) := HcF.out 0 _ rfl
  have f1 : v1.cell? ⟨w.heap.size + 1 + 1, 1, none⟩ = some (.int .i64 i) := HcF.out 1 _ rfl
  have f2 : v1.cell? ⟨w.heap.size + 1 + 1, 2, none⟩ = some (.int .i64 0) := HcF.out 2 _ rfl
  have f3 : v1.cell? ⟨w.heap.size + 1 + 1, 3, none⟩ = some (.int .i64 (-1)) := HcF.out 3 _ rfl
  have f4 : v1.cell? ⟨w.heap.size + 1 + 1, 4, none⟩ = some (.int .i64 0) := HcF.out 4 _ rfl
  have f5 : v1.cell? ⟨w.heap.size + 1 + 1, 5, none⟩ = some (.string ⟨#[]⟩) := HcF.out 5 _ rfl
  have HLD : Hid (∀ u, Calls Tryz.prog 44 #[.pointer (some ⟨C, 0, none⟩), .pointer (some ⟨w.heap.size + 1 + 1, 0, none⟩), .int .i64 FR] ((v1.drewN u).setCell ⟨w.heap.size + 1 + 1, 2, none⟩ (.int .i64 M)) fun e w' => e = .returned (.tuple #[]) ∧ ∃ LK SQ SD, (LK = msgLk (linksTo p.S who (rd * p.round + p.fr i) s.links p.nl).2 ∧ SQ = msgSeq (linksTo p.S who (rd * p.round + p.fr i) s.links p.nl).2 ∧ SD = msgDat (linksTo p.S who (rd * p.round + p.fr i) s.links p.nl).2) ∧
      (∃ O2, Foot O O2 w w' ∧ w.heap.size ∉ O2 ∧ Cl w' O2 C p fa cs ⟨(s.setNode who (s.nodes who).sent).nodes, (linksTo p.S who (rd * p.round + p.fr i) s.links p.nl).1, s.newest, s.ports⟩ rd B m) ∧ w.heap.size + 1 + 1 < w'.heap.size ∧
      (w'.cell? ⟨w.heap.size + 1 + 1, 0, none⟩ = some (.int .i64 who) ∧ w'.cell? ⟨w.heap.size + 1 + 1, 1, none⟩ = some (.int .i64 i) ∧ w'.cell? ⟨w.heap.size + 1 + 1, 2, none⟩ = some (.int .i64 M) ∧ w'.cell? ⟨w.heap.size + 1 + 1, 3, none⟩ = some (.int .i64 LK) ∧ w'.cell? ⟨w.heap.size + 1 + 1, 4, none⟩ = some (.int .i64 SQ) ∧ w'.cell? ⟨w.heap.size + 1 + 1, 5, none⟩ = some (.string SD)) ∧
      ∀ j, w'.cell? ⟨w.heap.size, j, none⟩ = v1.cell? ⟨w.heap.size, j, none⟩ ∧ w'.frozen? ⟨w.heap.size, j, none⟩ = false) := by
    intro u
    obtain ⟨⟨g1, g2, g3, g4, g5, g6, g7⟩, g8⟩ := HB9.out
    obtain ⟨O1, q1, q2⟩ := HI1.out
    have hn1 : w.heap.size + 1 + 1 ∉ O1 := fun y => by
      rcases q1.fresh _ y with z | z
      · exact HX.out.1.2.2 z
      · have := HX.out.2; omega
    have hn0 : w.heap.size ∉ O1 := fun y => by
      rcases q1.fresh _ y with z | z
      · exact HX.out.1.1 z
      · have := HX.out.2; omega
    have hT : Turns (w.heap.size + 1 + 1) (w.heap.size + 1 + 1) v1 ((v1.drewN u).setCell ⟨w.heap.size + 1 + 1, 2, none⟩ (.int .i64 M)) := (Turns.drawn u).set (p := ⟨w.heap.size + 1 + 1, 2, none⟩) (.inl rfl) _
    have q3 := q2.aside hT hn1
    have cc : ∀ j, j ≠ 2 → ((v1.drewN u).setCell ⟨w.heap.size + 1 + 1, 2, none⟩ (.int .i64 M)).cell? ⟨w.heap.size + 1 + 1, j, none⟩ = v1.cell? ⟨w.heap.size + 1 + 1, j, none⟩ := fun j hj => cell_other (.inr hj)
    refine (cload_any q3 (w.heap.size + 1 + 1) who i M FR (Nat.lt_of_lt_of_le hFl hT.size) hn1 (fun j => soft_set.trans (zf j)) ((cc 0 (by decide)).trans f0) ((cc 1 (by decide)).trans f1) (cell_set f2) ((cc 3 (by decide)).trans f3) ((cc 4 (by decide)).trans f4) ((cc 5 (by decide)).trans f5) g1 g2 g3 (HFR.out ▸ g4) (HFR.out ▸ g5) g6 g7 g8).mono ?_
    rintro e w' ⟨he, ⟨O2, k1, k2, k3⟩, d0, d1, d2, d3, d4, d5⟩
    rw [← HFR.out] at k3 d3 d4 d5
    have hsz : v1.heap.size ≤ w'.heap.size := Nat.le_trans hT.size k1.size
    refine ⟨he, _, _, _, ⟨rfl, rfl, rfl⟩, ⟨O2, ?_, ?_, k3⟩, by omega, ⟨d0, d1, d2, d3, d4, d5⟩, fun j => ⟨?_, ?_⟩⟩
    · have q4 := HV0.out.trans q1
      have q5 := q4.aside hT (by omega)
      refine ⟨k1.os.trans q5.os, k1.tape.trans q5.tape, k1.output.trans q5.output, Nat.le_trans q5.size k1.size, fun c hc hnc => ?_, fun c hc => ?_⟩
      · refine (k1.block c (Nat.lt_of_lt_of_le hc q5.size) (fun y => ?_)).trans (q5.block c hc hnc)
        rcases List.mem_cons.1 y with z | z
        · omega
        · rcases q5.fresh c z with z | z
          · exact hnc z
          · omega
      · rcases k1.fresh c (List.mem_cons_of_mem _ hc) with y | y
        · rcases List.mem_cons.1 y with z | z
          · exact absurd (z ▸ hc) k2
          · exact q5.fresh c z
        · exact .inr (Nat.le_trans q5.size y)
    · intro y
      rcases k1.fresh _ (List.mem_cons_of_mem _ y) with z | z
      · rcases List.mem_cons.1 z with z | z
        · omega
        · exact hn0 z
      · have := hT.size; omega
    · exact (k1.cell (p := ⟨w.heap.size, j, none⟩) (Nat.lt_of_lt_of_le hRl hT.size) (fun y => by
        rcases List.mem_cons.1 y with z | z
        · exact absurd z (by show w.heap.size ≠ _; omega)
        · exact hn0 z)).trans (cell_other (.inl (by show w.heap.size ≠ _; omega)))
    · exact (k1.frozen (p := ⟨w.heap.size, j, none⟩) (Nat.lt_of_lt_of_le hRl hT.size) (fun y => by
        rcases List.mem_cons.1 y with z | z
        · exact absurd z (by show w.heap.size ≠ _; omega)
        · exact hn0 z)).trans (soft_set.trans (zr j))
  have y1 : v1.cell? ⟨w.heap.size + 1, 1, none⟩ = some (.int .i64 FR) := (HI1.out.box hsw HX.out.1.2.1 1).trans (HBS.out 1 _ rfl)
  have zf2 := zf 2
  clear zr zf HBR HBS HBF HcF
  go_wp2_with fail
  refine (HLD.out _).mono ?_
  rintro e v2 ⟨rfl, LK, SQ, SD, hmsg, hcl, hl2, ⟨d0, d1, d2, d3, d4, d5⟩, hRR⟩
  have HMSG : Hid _ := hmsg
  have HCL : Hid _ := hcl
  have r0 := (hRR 0).1.trans (HcR.out 0 _ rfl)
  have r1 := (hRR 1).1.trans (HcR.out 1 _ rfl)
  have r2 := (hRR 2).1.trans (HcR.out 2 _ rfl)
  have r3 := (hRR 3).1.trans (HcR.out 3 _ rfl)
  have r4 := (hRR 4).1.trans (HcR.out 4 _ rfl)
  have r5 := (hRR 5).1.trans (HcR.out 5 _ rfl)
  have zr0 := (hRR 0).2
  have zr1 := (hRR 1).2
  have zr2 := (hRR 2).2
  have zr3 := (hRR 3).2
  have zr4 := (hRR 4).2
  have zr5 := (hRR 5).2
  have hl3 : w.heap.size < v2.heap.size := by omega
  have H6 : Hid _ := six_stores r0 r1 r2 r3 r4 r5 (.int .i64 who) (.int .i64 i) (.int .i64 M) (.int .i64 LK) (.int .i64 SQ) (.string SD)
  clear hRR hmsg hcl HLD HcR f0 f1 f2 f3 f4 f5 y0 y1 c10
  go_wp2_with fail
  obtain ⟨⟨w0, w1, w2, w3, w4, w5⟩, hT⟩ := H6.out
  obtain ⟨rfl, rfl, rfl⟩ := HMSG.out
  obtain ⟨O2, k1, k2, k3⟩ := HCL.out
  exact bodyPost_ret (v := .tuple #[frameV who i M (msgLk (linksTo p.S who (rd * p.round + p.fr i) s.links p.nl).2) (msgSeq (linksTo p.S who (rd * p.round + p.fr i) s.links p.nl).2) (msgDat (linksTo p.S who (rd * p.round + p.fr i) s.links p.nl).2), .bool true]) (by simp [results, Tryz.results19, go_sem, w0, w1, w2, w3, w4, w5]; rfl) rfl ⟨(by rw [HM.out]), O2, k1.aside hT (Nat.le_refl _), k3.aside hT k2⟩

end
end Go.Proofs.YtdmokcnoljlogaaGreatDoor
