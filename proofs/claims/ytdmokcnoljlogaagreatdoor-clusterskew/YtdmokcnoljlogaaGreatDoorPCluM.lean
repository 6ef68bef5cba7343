/- The program's cluster in memory: where all lies, and that a call on one of its parts leaves all others (10.1). -/
import Derived.Test.YtdmokcnoljlogaaGreatDoorWordsB
import Derived.Test.YtdmokcnoljlogaaGreatDoorProgHears
import Derived.Test.YtdmokcnoljlogaaGreatDoorProgNode3
import Derived.Test.YtdmokcnoljlogaaGreatDoorPRcv
import Derived.Test.YtdmokcnoljlogaaGreatDoorPSend2
import Derived.Test.YtdmokcnoljlogaaGreatDoorPQue
namespace Go.Proofs.YtdmokcnoljlogaaGreatDoor
open Go.RowKit

/-- The parts of a cluster: the base, a node, a link's sender, a link's receiver and port at a node. -/
abbrev CIx := Nat × Nat × Nat
abbrev iB : CIx := (0, 0, 0)
abbrev iN (j : Nat) : CIx := (1, j, 0)
abbrev iS (k : Nat) : CIx := (2, k, 0)
abbrev iR (k j : Nat) : CIx := (3, k, j)
abbrev iQ (k j : Nat) : CIx := (4, k, j)

/-- Where all lies. -/
structure CMap where
  X : List Nat
  cb : Nat
  ccap : Nat
  sa : Option Addr
  scap : Nat
  nb : Nat
  ncap : Nat
  la : Option Addr
  lb : Nat
  lcap : Nat
  P : Nat → Nat
  S : Nat → Nat
  E : Nat → Nat
  D : Nat → Nat → Nat
  R : Nat → Nat → Nat
  Q : Nat → Nat → Nat

/-- The base: the struct at C, and rows that are only read (blocks X). -/
structure CBase (w : World) (C : Nat) (p : PlanN) (fa : Int) (cs : List Int) (rd : Int) (m : CMap) : Prop where
  c0 : w.cell? ⟨C, 0, none⟩ = some (.int .i64 p.nodes)
  c1 : w.cell? ⟨C, 1, none⟩ = some (.int .i64 p.faulty)
  c3 : w.cell? ⟨C, 3, none⟩ = some (.int .i64 p.jitter)
  c4 : w.cell? ⟨C, 4, none⟩ = some (.int .i64 p.drift)
  c5 : w.cell? ⟨C, 5, none⟩ = some (.int .i64 p.round)
  c6 : w.cell? ⟨C, 6, none⟩ = some (.slice m.sa p.ns m.scap)
  c10 : w.cell? ⟨C, 10, none⟩ = some (.int .i64 fa)
  c11 : w.cell? ⟨C, 11, none⟩ = some (.slice (some ⟨m.cb, 0, none⟩) cs.length m.ccap)
  c12 : w.cell? ⟨C, 12, none⟩ = some (.int .i64 rd)
  c13 : w.cell? ⟨C, 13, none⟩ = some (.slice (some ⟨m.nb, 0, none⟩) p.n m.ncap)
  c14 : w.cell? ⟨C, 14, none⟩ = some (.slice m.la p.nl m.lcap)
  z : ∀ i, w.frozen? ⟨C, i, none⟩ = false
  lc : C < w.heap.size
  nC : C ∉ m.X
  lx : ∀ c, c ∈ m.X → c < w.heap.size
  ck : ∀ j, j < cs.length → w.cell? ⟨m.cb, j, none⟩ = some (.int .i64 (cs.getD j 0))
  ckX : m.cb ∈ m.X
  sl : 0 < p.ns → ∃ b off, m.sa = some ⟨b, off, none⟩ ∧ b ∈ m.X ∧ ∀ i, i < p.ns → w.cell? ⟨b, off + i * 3, none⟩ = some (.int .i64 (p.nd i)) ∧ w.cell? ⟨b, off + i * 3 + 1, none⟩ = some (.int .i64 (p.fr i)) ∧ w.cell? ⟨b, off + i * 3 + 2, none⟩ = some (.int .i64 (p.td i))
  nd : ∀ j, j < p.n → w.cell? ⟨m.nb, j, none⟩ = some (.pointer (some ⟨m.P j, 0, none⟩))
  ndX : m.nb ∈ m.X
  la : 0 < p.nl → m.la = some ⟨m.lb, 0, none⟩ ∧ m.lb ∈ m.X
  lk : ∀ k, k < p.nl → w.cell? ⟨m.lb, k * 3, none⟩ = some (.int .i64 (p.lf k)) ∧ w.cell? ⟨m.lb, k * 3 + 1, none⟩ = some (.pointer (some ⟨m.S k, 0, none⟩)) ∧ w.cell? ⟨m.lb, k * 3 + 2, none⟩ = some (.slice (some ⟨m.E k, 0, none⟩) p.n p.n)
  en : ∀ k, k < p.nl → m.E k ∈ m.X ∧ ∀ j, j < p.n → w.cell? ⟨m.E k, j, none⟩ = some (.pointer (if bitI (p.lt k) j = true then some ⟨m.D k j, 0, none⟩ else none))
  dn : ∀ k j, k < p.nl → j < p.n → bitI (p.lt k) j = true → m.D k j ∈ m.X ∧ w.cell? ⟨m.D k j, 0, none⟩ = some (.pointer (some ⟨m.R k j, 0, none⟩)) ∧ w.cell? ⟨m.D k j, 1, none⟩ = some (.pointer (some ⟨m.Q k j, 0, none⟩))

theorem CBase.keep {w w' : World} {C : Nat} {p : PlanN} {fa : Int} {cs : List Int} {rd : Int} {m : CMap} (h : CBase w C p fa cs rd m) (k : Same (C :: m.X) w w') : CBase w' C p fa cs rd m := by
  have cc : ∀ i, w'.cell? ⟨C, i, none⟩ = w.cell? ⟨C, i, none⟩ := fun i => k.cell (p := ⟨C, i, none⟩) List.mem_cons_self
  have cx : ∀ b i, b ∈ m.X → w'.cell? ⟨b, i, none⟩ = w.cell? ⟨b, i, none⟩ := fun b i hb => k.cell (p := ⟨b, i, none⟩) (List.mem_cons_of_mem _ hb)
  refine ⟨(cc 0).trans h.c0, (cc 1).trans h.c1, (cc 3).trans h.c3, (cc 4).trans h.c4, (cc 5).trans h.c5, (cc 6).trans h.c6, (cc 10).trans h.c10, (cc 11).trans h.c11, (cc 12).trans h.c12, (cc 13).trans h.c13, (cc 14).trans h.c14, fun i => (k.frozen (p := ⟨C, i, none⟩) List.mem_cons_self).trans (h.z i), Nat.lt_of_lt_of_le h.lc k.1, h.nC, fun c hc => Nat.lt_of_lt_of_le (h.lx c hc) k.1, fun j hj => (cx _ _ h.ckX).trans (h.ck j hj), h.ckX, fun h0 => ?_, fun j hj => (cx _ _ h.ndX).trans (h.nd j hj), h.ndX, h.la, fun i hi => ?_, fun i hi => ⟨(h.en i hi).1, fun j hj => (cx _ _ (h.en i hi).1).trans ((h.en i hi).2 j hj)⟩, fun i j hi hj hb => ?_⟩
  · obtain ⟨b, off, e, hb, hc⟩ := h.sl h0
    exact ⟨b, off, e, hb, fun i hi => ⟨(cx _ _ hb).trans (hc i hi).1, (cx _ _ hb).trans (hc i hi).2.1, (cx _ _ hb).trans (hc i hi).2.2⟩⟩
  · have hl := (h.la (by omega)).2
    obtain ⟨a, b, c⟩ := h.lk i hi
    exact ⟨(cx _ _ hl).trans a, (cx _ _ hl).trans b, (cx _ _ hl).trans c⟩
  · obtain ⟨a, b, c⟩ := h.dn i j hi hj hb
    exact ⟨a, (cx _ _ a).trans b, (cx _ _ a).trans c⟩

/-- Numbers of a node, of a sender, that are not beyond. -/
def NodeIn (B : Nat) (N : NodeS) : Prop := (0 ≤ N.g ∧ N.g ≤ B) ∧ 0 ≤ N.b ∧ N.b ≤ B
def SendIn (B : Nat) (S : SendS) : Prop := S.all.length ≤ B ∧ (0 ≤ S.last ∧ S.last ≤ 1099511627776) ∧ ∀ d ∈ S.all, d.size ≤ 40

/-- All of it. -/
structure CM (w : World) (O : List Nat) (Of : CIx → List Nat) (C : Nat) (p : PlanN) (fa : Int) (cs : List Int) (s : ClS) (rd : Int) (B : Nat) (m : CMap) : Prop where
  base : CBase w C p fa cs rd m
  ob : Of iB = C :: m.X
  fam : Fam w Of
  sub : ∀ i c, c ∈ Of i → c ∈ O
  lo : ∀ c, c ∈ O → c < w.heap.size
  node : ∀ j, j < p.n → (ProgNode w (m.P j) j p.n (bitsV (s.nodes j).t p.n) (s.nodes j).g (s.nodes j).b (s.nodes j).fz ∧ Of (iN j) = [m.P j]) ∧ NodeIn B (s.nodes j)
  snd : ∀ k, k < p.nl → Sdr w (Of (iS k)) (m.S k) (p.lb k) (p.lq k) (s.links k).all (s.links k).went (s.links k).last (s.links k).now ∧ SendIn B (s.links k)
  rcv : ∀ k j, k < p.nl → j < p.n → bitI (p.lt k) j = true → ∃ a b, Rcv w (Of (iR k j)) (m.R k j) (s.newest k j) a b ∧ ((0 ≤ a ∧ a ≤ B) ∧ 0 ≤ b ∧ b ≤ B) ∧ s.newest k j ≤ 255
  que : ∀ k j, k < p.nl → j < p.n → bitI (p.lt k) j = true → ∃ lost, Que w (Of (iQ k j)) (m.Q k j) 16 (s.ports k j) lost ∧ (0 ≤ lost ∧ lost ≤ B) ∧ (s.ports k j).length ≤ 16

def Cl (w : World) (O : List Nat) (C : Nat) (p : PlanN) (fa : Int) (cs : List Int) (s : ClS) (rd : Int) (B : Nat) (m : CMap) : Prop := ∃ Of, CM w O Of C p fa cs s rd B m

section
variable {w w' : World} {O : List Nat} {Of : CIx → List Nat} {C : Nat} {p : PlanN} {fa : Int} {cs : List Int} {s : ClS} {rd : Int} {B : Nat} {m : CMap}

theorem ProgNode.same {P : Nat} {id : Int} {n : Nat} {mm g b : Int} {fz : Bool} (h : ProgNode w P id n mm g b fz) (k : Same [P] w w') : ProgNode w' P id n mm g b fz :=
  have c : ∀ i, w'.cell? ⟨P, i, none⟩ = w.cell? ⟨P, i, none⟩ := fun i => k.cell (p := ⟨P, i, none⟩) List.mem_cons_self
  ⟨(c 0).trans h.c0, (c 1).trans h.c1, (c 2).trans h.c2, (c 3).trans h.c3, (c 4).trans h.c4, (c 5).trans h.c5, fun i => (k.frozen (p := ⟨P, i, none⟩) List.mem_cons_self).trans (h.z i), Nat.lt_of_lt_of_le h.lp k.1⟩

theorem Cl.base (h : Cl w O C p fa cs s rd B m) : CBase w C p fa cs rd m := by obtain ⟨_, h⟩ := h; exact h.base
theorem Cl.lt (h : Cl w O C p fa cs s rd B m) : ∀ c, c ∈ O → c < w.heap.size := by obtain ⟨_, h⟩ := h; exact h.lo
theorem Cl.mem (h : Cl w O C p fa cs s rd B m) : C ∈ O := by
  obtain ⟨_, h⟩ := h
  exact h.sub iB C (by rw [h.ob]; exact List.mem_cons_self)
theorem Cl.keep (h : Cl w O C p fa cs s rd B m) (k : Same O w w') : Cl w' O C p fa cs s rd B m := by
  obtain ⟨Of, h⟩ := h
  have hs : ∀ i, Same (Of i) w w' := fun i => k.part (h.sub i)
  refine ⟨Of, h.base.keep (h.ob ▸ hs iB), h.ob, ⟨fun i c hc => Nat.lt_of_lt_of_le (h.fam.lt i c hc) k.1, h.fam.ap⟩, h.sub, fun c hc => Nat.lt_of_lt_of_le (h.lo c hc) k.1, fun j hj => ?_, fun i hi => ⟨(h.snd i hi).1.keep (hs _), (h.snd i hi).2⟩, fun i j hi hj hb => ?_, fun i j hi hj hb => ?_⟩
  · obtain ⟨⟨a, b⟩, c⟩ := h.node j hj
    exact ⟨⟨a.same (b ▸ hs (iN j)), b⟩, c⟩
  · obtain ⟨a, b, q, r⟩ := h.rcv i j hi hj hb
    exact ⟨a, b, q.keep (hs _), r⟩
  · obtain ⟨l, q, r⟩ := h.que i j hi hj hb
    exact ⟨l, q.keep (hs _), r⟩
theorem Cl.below (h : Cl w O C p fa cs s rd B m) (k : Below w.heap.size w w') : Cl w' O C p fa cs s rd B m := h.keep (Same.of_below k h.lt)
theorem Cl.more {B' : Nat} (h : Cl w O C p fa cs s rd B m) (hB : B ≤ B') : Cl w O C p fa cs s rd B' m := by
  obtain ⟨Of, h⟩ := h
  refine ⟨Of, h.base, h.ob, h.fam, h.sub, h.lo, fun j hj => ⟨(h.node j hj).1, ?_⟩, fun i hi => ⟨(h.snd i hi).1, ?_⟩, fun i j hi hj hb => ?_, fun i j hi hj hb => ?_⟩
  · obtain ⟨⟨a, b⟩, c, d⟩ := (h.node j hj).2
    exact ⟨⟨a, by omega⟩, c, by omega⟩
  · obtain ⟨a, b⟩ := (h.snd i hi).2
    exact ⟨by omega, b⟩
  · obtain ⟨a, b, q, ⟨⟨r1, r2⟩, r3, r4⟩, t⟩ := h.rcv i j hi hj hb
    exact ⟨a, b, q, ⟨⟨r1, by omega⟩, r3, by omega⟩, t⟩
  · obtain ⟨l, q, ⟨r1, r2⟩, t⟩ := h.que i j hi hj hb
    exact ⟨l, q, ⟨r1, by omega⟩, t⟩
/-- Only what is there counts. -/
theorem Cl.agree {s' : ClS} (h : Cl w O C p fa cs s rd B m) (h1 : ∀ j, j < p.n → s'.nodes j = s.nodes j) (h2 : ∀ k, k < p.nl → s'.links k = s.links k) (h3 : ∀ k j, k < p.nl → j < p.n → bitI (p.lt k) j = true → s'.newest k j = s.newest k j ∧ s'.ports k j = s.ports k j) : Cl w O C p fa cs s' rd B m := by
  obtain ⟨Of, h⟩ := h
  refine ⟨Of, h.base, h.ob, h.fam, h.sub, h.lo, fun j hj => ?_, fun i hi => ?_, fun i j hi hj hb => ?_, fun i j hi hj hb => ?_⟩
  · rw [h1 j hj]; exact h.node j hj
  · rw [h2 i hi]; exact h.snd i hi
  · rw [(h3 i j hi hj hb).1]; exact h.rcv i j hi hj hb
  · rw [(h3 i j hi hj hb).2]; exact h.que i j hi hj hb

/-- A call on a part. -/
theorem CM.turn (h : CM w O Of C p fa cs s rd B m) {i : CIx} {Y : List Nat} (hi : i ≠ iB) (k : Foot (Of i) Y w w') (hY : ∀ c, c ∈ Y → c < w'.heap.size) :
    (Foot O (O ++ Y) w w' ∧ CBase w' C p fa cs rd m ∧ setO Of i Y iB = C :: m.X) ∧ Fam w' (setO Of i Y) ∧ (∀ i' c, c ∈ setO Of i Y i' → c ∈ O ++ Y) ∧ (∀ c, c ∈ O ++ Y → c < w'.heap.size) ∧ ∀ i', i' ≠ i → Same (Of i') w w' ∧ setO Of i Y i' = Of i' := by
  have hs : ∀ i', i' ≠ i → Same (Of i') w w' := fun i' h' => h.fam.same k h'
  refine ⟨⟨⟨k.os, k.tape, k.output, k.size, fun c hc hn => k.block c hc (fun y => hn (h.sub i c y)), fun c hc => ?_⟩, h.base.keep (h.ob ▸ hs iB (Ne.symm hi)), by rw [setO_not _ _ (Ne.symm hi)]; exact h.ob⟩, h.fam.step k hY, fun i' c hc => ?_, fun c hc => ?_, fun i' h' => ⟨hs i' h', setO_not _ _ h'⟩⟩
  · rcases List.mem_append.1 hc with q | q
    · exact .inl q
    · rcases k.fresh c q with r | r
      · exact .inl (h.sub i c r)
      · exact .inr r
  · by_cases e : i' = i
    · subst e; rw [setO_at] at hc; exact List.mem_append.2 (.inr hc)
    · rw [setO_not _ _ e] at hc; exact List.mem_append.2 (.inl (h.sub i' c hc))
  · rcases List.mem_append.1 hc with q | q
    · exact Nat.lt_of_lt_of_le (h.lo c q) k.size
    · exact hY c q

def ClS.setNode (s : ClS) (j : Nat) (N : NodeS) : ClS := ⟨fun x => if x = j then N else s.nodes x, s.links, s.newest, s.ports⟩
def ClS.setSend (s : ClS) (k : Nat) (S : SendS) : ClS := ⟨s.nodes, fun x => if x = k then S else s.links x, s.newest, s.ports⟩
def ClS.setNew (s : ClS) (k j : Nat) (v : Int) : ClS := ⟨s.nodes, s.links, fun x y => if x = k ∧ y = j then v else s.newest x y, s.ports⟩
def ClS.setPort (s : ClS) (k j : Nat) (v : List ByteArray) : ClS := ⟨s.nodes, s.links, s.newest, fun x y => if x = k ∧ y = j then v else s.ports x y⟩

theorem Cl.nod (h : Cl w O C p fa cs s rd B m) {j : Nat} (hj : j < p.n) : ProgNode w (m.P j) j p.n (bitsV (s.nodes j).t p.n) (s.nodes j).g (s.nodes j).b (s.nodes j).fz ∧ NodeIn B (s.nodes j) ∧
    ∀ (w' : World) (B' : Nat) (N : NodeS), ProgNode w' (m.P j) j p.n (bitsV N.t p.n) N.g N.b N.fz → Turns (m.P j) (m.P j) w w' → NodeIn B' N → B ≤ B' → ∃ O', Foot O O' w w' ∧ Cl w' O' C p fa cs (s.setNode j N) rd B' m := by
  have h0 := h
  obtain ⟨Of, h⟩ := h
  obtain ⟨⟨a, b⟩, c⟩ := h.node j hj
  refine ⟨a, c, fun w' B' N hN hT hB hBB => ?_⟩
  obtain ⟨Of, h⟩ := h0.more hBB
  obtain ⟨⟨a, b⟩, _⟩ := h.node j hj
  have kf : Foot (Of (iN j)) [m.P j] w w' := by rw [b]; exact Foot.of_turns hT List.mem_cons_self List.mem_cons_self
  obtain ⟨⟨t1, t2, t3⟩, t4, t5, t6, t7⟩ := h.turn (by intro e; cases e) kf (by intro c hc; simp only [List.mem_cons, List.not_mem_nil, or_false] at hc; subst hc; exact hN.lp)
  refine ⟨_, t1, _, t2, t3, t4, t5, t6, fun x hx => ?_, fun i hi => ?_, fun i x hi hx hb => ?_, fun i x hi hx hb => ?_⟩
  · by_cases e : x = j
    · subst e
      show (ProgNode w' (m.P x) x p.n (bitsV (if x = x then N else s.nodes x).t p.n) (if x = x then N else s.nodes x).g (if x = x then N else s.nodes x).b (if x = x then N else s.nodes x).fz ∧ setO Of (iN x) [m.P x] (iN x) = [m.P x]) ∧ NodeIn B' (if x = x then N else s.nodes x)
      rw [if_pos rfl, setO_at]
      exact ⟨⟨hN, rfl⟩, hB⟩
    · show (ProgNode w' (m.P x) x p.n (bitsV (if x = j then N else s.nodes x).t p.n) (if x = j then N else s.nodes x).g (if x = j then N else s.nodes x).b (if x = j then N else s.nodes x).fz ∧ setO Of (iN j) [m.P j] (iN x) = [m.P x]) ∧ NodeIn B' (if x = j then N else s.nodes x)
      obtain ⟨u1, u2⟩ := t7 (iN x) (by intro y; cases y; exact e rfl)
      rw [if_neg e, u2]
      obtain ⟨⟨v1, v2⟩, v3⟩ := h.node x hx
      exact ⟨⟨v1.same (v2 ▸ u1), v2⟩, v3⟩
  · obtain ⟨u1, u2⟩ := t7 (iS i) (by intro y; cases y)
    rw [u2]
    exact ⟨(h.snd i hi).1.keep u1, (h.snd i hi).2⟩
  · obtain ⟨u1, u2⟩ := t7 (iR i x) (by intro y; cases y)
    rw [u2]
    obtain ⟨a, b, q, r⟩ := h.rcv i x hi hx hb
    exact ⟨a, b, q.keep u1, r⟩
  · obtain ⟨u1, u2⟩ := t7 (iQ i x) (by intro y; cases y)
    rw [u2]
    obtain ⟨l, q, r⟩ := h.que i x hi hx hb
    exact ⟨l, q.keep u1, r⟩

theorem Cl.sdr (h : Cl w O C p fa cs s rd B m) {k : Nat} (hk : k < p.nl) : ∃ OS, Sdr w OS (m.S k) (p.lb k) (p.lq k) (s.links k).all (s.links k).went (s.links k).last (s.links k).now ∧ SendIn B (s.links k) ∧
    ∀ (w' : World) (OS' : List Nat) (B' : Nat) (S : SendS), Sdr w' OS' (m.S k) (p.lb k) (p.lq k) S.all S.went S.last S.now → Foot OS OS' w w' → SendIn B' S → B ≤ B' → ∃ O', Foot O O' w w' ∧ Cl w' O' C p fa cs (s.setSend k S) rd B' m := by
  obtain ⟨Of, h⟩ := h
  refine ⟨Of (iS k), (h.snd k hk).1, (h.snd k hk).2, fun w' OS' B' S hS hF hB hBB => ?_⟩
  obtain ⟨⟨t1, t2, t3⟩, t4, t5, t6, t7⟩ := h.turn (by intro e; cases e) hF hS.lt
  refine ⟨_, t1, _, t2, t3, t4, t5, t6, fun x hx => ?_, fun i hi => ?_, fun i x hi hx hb => ?_, fun i x hi hx hb => ?_⟩
  · obtain ⟨u1, u2⟩ := t7 (iN x) (by intro y; cases y)
    rw [u2]
    obtain ⟨⟨v1, v2⟩, ⟨v3, v4⟩, v5, v6⟩ := h.node x hx
    exact ⟨⟨v1.same (v2 ▸ u1), v2⟩, ⟨v3, Int.le_trans v4 (by omega)⟩, v5, Int.le_trans v6 (by omega)⟩
  · by_cases e : i = k
    · subst e
      show Sdr w' (setO Of (iS i) OS' (iS i)) (m.S i) (p.lb i) (p.lq i) (if i = i then S else s.links i).all (if i = i then S else s.links i).went (if i = i then S else s.links i).last (if i = i then S else s.links i).now ∧ SendIn B' (if i = i then S else s.links i)
      rw [if_pos rfl, setO_at]
      exact ⟨hS, hB⟩
    · show Sdr w' (setO Of (iS k) OS' (iS i)) (m.S i) (p.lb i) (p.lq i) (if i = k then S else s.links i).all (if i = k then S else s.links i).went (if i = k then S else s.links i).last (if i = k then S else s.links i).now ∧ SendIn B' (if i = k then S else s.links i)
      obtain ⟨u1, u2⟩ := t7 (iS i) (by intro y; cases y; exact e rfl)
      rw [if_neg e, u2]
      obtain ⟨v1, v2, v3⟩ := h.snd i hi
      exact ⟨v1.keep u1, Nat.le_trans v2 hBB, v3⟩
  · obtain ⟨u1, u2⟩ := t7 (iR i x) (by intro y; cases y)
    rw [u2]
    obtain ⟨a, b, q, ⟨⟨r1, r2⟩, r3, r4⟩, r5⟩ := h.rcv i x hi hx hb
    exact ⟨a, b, q.keep u1, ⟨⟨r1, by omega⟩, r3, by omega⟩, r5⟩
  · obtain ⟨u1, u2⟩ := t7 (iQ i x) (by intro y; cases y)
    rw [u2]
    obtain ⟨l, q, ⟨r1, r2⟩, r3⟩ := h.que i x hi hx hb
    exact ⟨l, q.keep u1, ⟨r1, by omega⟩, r3⟩

theorem Cl.rcv (h : Cl w O C p fa cs s rd B m) {k j : Nat} (hk : k < p.nl) (hj : j < p.n) (hb : bitI (p.lt k) j = true) : ∃ OR a b, Rcv w OR (m.R k j) (s.newest k j) a b ∧ ((0 ≤ a ∧ a ≤ B) ∧ 0 ≤ b ∧ b ≤ B) ∧ s.newest k j ≤ 255 ∧
    ∀ (w' : World) (OR' : List Nat) (B' : Nat) (v a' b' : Int), Rcv w' OR' (m.R k j) v a' b' → Foot OR OR' w w' → ((0 ≤ a' ∧ a' ≤ B') ∧ 0 ≤ b' ∧ b' ≤ B') → v ≤ 255 → B ≤ B' → ∃ O', Foot O O' w w' ∧ Cl w' O' C p fa cs (s.setNew k j v) rd B' m := by
  obtain ⟨Of, h⟩ := h
  obtain ⟨a, b, q, r, t⟩ := h.rcv k j hk hj hb
  refine ⟨Of (iR k j), a, b, q, r, t, fun w' OR' B' v a' b' hS hF hB hv hBB => ?_⟩
  obtain ⟨⟨t1, t2, t3⟩, t4, t5, t6, t7⟩ := h.turn (by intro e; cases e) hF hS.lt
  refine ⟨_, t1, _, t2, t3, t4, t5, t6, fun x hx => ?_, fun i hi => ?_, fun i x hi hx hb => ?_, fun i x hi hx hb => ?_⟩
  · obtain ⟨u1, u2⟩ := t7 (iN x) (by intro y; cases y)
    rw [u2]
    obtain ⟨⟨v1, v2⟩, ⟨v3, v4⟩, v5, v6⟩ := h.node x hx
    exact ⟨⟨v1.same (v2 ▸ u1), v2⟩, ⟨v3, Int.le_trans v4 (by omega)⟩, v5, Int.le_trans v6 (by omega)⟩
  · obtain ⟨u1, u2⟩ := t7 (iS i) (by intro y; cases y)
    rw [u2]
    obtain ⟨v1, v2, v3⟩ := h.snd i hi
    exact ⟨v1.keep u1, Nat.le_trans v2 hBB, v3⟩
  · by_cases e : i = k ∧ x = j
    · obtain ⟨rfl, rfl⟩ := e
      show ∃ a b, Rcv w' (setO Of (iR i x) OR' (iR i x)) (m.R i x) (if i = i ∧ x = x then v else s.newest i x) a b ∧ _ ∧ (if i = i ∧ x = x then v else s.newest i x) ≤ 255
      rw [if_pos ⟨rfl, rfl⟩, setO_at]
      exact ⟨a', b', hS, hB, hv⟩
    · show ∃ a b, Rcv w' (setO Of (iR k j) OR' (iR i x)) (m.R i x) (if i = k ∧ x = j then v else s.newest i x) a b ∧ _ ∧ (if i = k ∧ x = j then v else s.newest i x) ≤ 255
      obtain ⟨u1, u2⟩ := t7 (iR i x) (by intro y; cases y; exact e ⟨rfl, rfl⟩)
      rw [if_neg e, u2]
      obtain ⟨a, b, q, ⟨⟨r1, r2⟩, r3, r4⟩, r5⟩ := h.rcv i x hi hx hb
      exact ⟨a, b, q.keep u1, ⟨⟨r1, by omega⟩, r3, by omega⟩, r5⟩
  · obtain ⟨u1, u2⟩ := t7 (iQ i x) (by intro y; cases y)
    rw [u2]
    obtain ⟨l, q, ⟨r1, r2⟩, r3⟩ := h.que i x hi hx hb
    exact ⟨l, q.keep u1, ⟨r1, by omega⟩, r3⟩

theorem Cl.que (h : Cl w O C p fa cs s rd B m) {k j : Nat} (hk : k < p.nl) (hj : j < p.n) (hb : bitI (p.lt k) j = true) : ∃ OQ lost, Que w OQ (m.Q k j) 16 (s.ports k j) lost ∧ (0 ≤ lost ∧ lost ≤ B) ∧ (s.ports k j).length ≤ 16 ∧
    ∀ (w' : World) (OQ' : List Nat) (B' : Nat) (v : List ByteArray) (lost' : Int), Que w' OQ' (m.Q k j) 16 v lost' → Foot OQ OQ' w w' → (0 ≤ lost' ∧ lost' ≤ B') → v.length ≤ 16 → B ≤ B' → ∃ O', Foot O O' w w' ∧ Cl w' O' C p fa cs (s.setPort k j v) rd B' m := by
  obtain ⟨Of, h⟩ := h
  obtain ⟨l, q, r, t⟩ := h.que k j hk hj hb
  refine ⟨Of (iQ k j), l, q, r, t, fun w' OQ' B' v l' hS hF hB hv hBB => ?_⟩
  obtain ⟨⟨t1, t2, t3⟩, t4, t5, t6, t7⟩ := h.turn (by intro e; cases e) hF hS.lt
  refine ⟨_, t1, _, t2, t3, t4, t5, t6, fun x hx => ?_, fun i hi => ?_, fun i x hi hx hb => ?_, fun i x hi hx hb => ?_⟩
  · obtain ⟨u1, u2⟩ := t7 (iN x) (by intro y; cases y)
    rw [u2]
    obtain ⟨⟨v1, v2⟩, ⟨v3, v4⟩, v5, v6⟩ := h.node x hx
    exact ⟨⟨v1.same (v2 ▸ u1), v2⟩, ⟨v3, Int.le_trans v4 (by omega)⟩, v5, Int.le_trans v6 (by omega)⟩
  · obtain ⟨u1, u2⟩ := t7 (iS i) (by intro y; cases y)
    rw [u2]
    obtain ⟨v1, v2, v3⟩ := h.snd i hi
    exact ⟨v1.keep u1, Nat.le_trans v2 hBB, v3⟩
  · obtain ⟨u1, u2⟩ := t7 (iR i x) (by intro y; cases y)
    rw [u2]
    obtain ⟨a, b, q, ⟨⟨r1, r2⟩, r3, r4⟩, r5⟩ := h.rcv i x hi hx hb
    exact ⟨a, b, q.keep u1, ⟨⟨r1, by omega⟩, r3, by omega⟩, r5⟩
  · by_cases e : i = k ∧ x = j
    · obtain ⟨rfl, rfl⟩ := e
      show ∃ l, Que w' (setO Of (iQ i x) OQ' (iQ i x)) (m.Q i x) 16 (if i = i ∧ x = x then v else s.ports i x) l ∧ _ ∧ (if i = i ∧ x = x then v else s.ports i x).length ≤ 16
      rw [if_pos ⟨rfl, rfl⟩, setO_at]
      exact ⟨l', hS, hB, hv⟩
    · show ∃ l, Que w' (setO Of (iQ k j) OQ' (iQ i x)) (m.Q i x) 16 (if i = k ∧ x = j then v else s.ports i x) l ∧ _ ∧ (if i = k ∧ x = j then v else s.ports i x).length ≤ 16
      obtain ⟨u1, u2⟩ := t7 (iQ i x) (by intro y; cases y; exact e ⟨rfl, rfl⟩)
      rw [if_neg e, u2]
      obtain ⟨l, q, ⟨r1, r2⟩, r3⟩ := h.que i x hi hx hb
      exact ⟨l, q.keep u1, ⟨r1, by omega⟩, r3⟩
end
end Go.Proofs.YtdmokcnoljlogaaGreatDoor
