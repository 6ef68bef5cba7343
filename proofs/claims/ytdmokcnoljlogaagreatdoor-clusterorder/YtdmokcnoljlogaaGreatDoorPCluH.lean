/- The program's cluster: hear, what all others hear in a slot (10.3). -/
import Derived.Test.YtdmokcnoljlogaaGreatDoorPCluT
namespace Go.Proofs.YtdmokcnoljlogaaGreatDoor
open Go.RowKit

/-- A message's link, as a frame bears it. -/
def msgLk (mk : Option (Nat × Int × ByteArray)) : Int := match mk with | none => -1 | some (k, _, _) => k
def MsgIn (p : PlanN) (mk : Option (Nat × Int × ByteArray)) : Prop := ∀ k q d, mk = some (k, q, d) → k < p.nl ∧ d.size ≤ 40
/-- What a message that comes to a node does. -/
def ClS.takeM (s : ClS) (p : PlanN) (mk : Option (Nat × Int × ByteArray)) (j : Nat) : ClS := match mk with | none => s | some (k, q, d) => if bitI (p.lt k) j = true then s.take1 k j q d else s

theorem takeB_self {q : Int} : takeB q q = false := by
  by_cases h : 0 ≤ q ∧ q ≤ 255
  · rw [takeB_ahead h h.1 h.2]
    unfold aheadB
    have : (q - q + 255) % 255 = 0 := by omega
    rw [this]
    simp
  · exact takeB_low h
theorem take1_again (s : ClS) (k j : Nat) (q : Int) (d : ByteArray) : (s.take1 k j q d).take1 k j q d = s.take1 k j q d := by
  cases h : takeB (s.newest k j) q
  · have e : s.take1 k j q d = s := if_neg (by rw [h]; decide)
    rw [e, e]
  · have e : s.take1 k j q d = (s.setNew k j q).setPort k j (if (s.ports k j).length < 16 then s.ports k j ++ [d] else s.ports k j) := if_pos h
    have e2 : (s.take1 k j q d).newest k j = q := by rw [e]; exact if_pos ⟨rfl, rfl⟩
    have e3 : takeB ((s.take1 k j q d).newest k j) q = false := by rw [e2]; exact takeB_self
    exact if_neg (by rw [e3]; decide)
theorem takeM_again (s : ClS) (p : PlanN) (mk : Option (Nat × Int × ByteArray)) (j : Nat) : (s.takeM p mk j).takeM p mk j = s.takeM p mk j := by
  match mk with
  | none => rfl
  | some (k, q, d) =>
    show (if bitI (p.lt k) j = true then ClS.take1 (if bitI (p.lt k) j = true then s.take1 k j q d else s) k j q d else (if bitI (p.lt k) j = true then s.take1 k j q d else s)) = (if bitI (p.lt k) j = true then s.take1 k j q d else s)
    split
    · exact take1_again s k j q d
    · rfl
theorem takeM_nodes (s : ClS) (p : PlanN) (mk : Option (Nat × Int × ByteArray)) (j : Nat) : (s.takeM p mk j).nodes = s.nodes := by
  match mk with
  | none => rfl
  | some (k, q, d) =>
    show (if bitI (p.lt k) j = true then s.take1 k j q d else s).nodes = s.nodes
    unfold ClS.take1
    split
    · split <;> rfl
    · rfl

section
variable {w : World} {O : List Nat} {C : Nat} {p : PlanN} {fa : Int} {cs : List Int} {s : ClS} {rd : Int} {B : Nat} {m : CMap}

theorem ctakeM (h : Cl w O C p fa cs s rd B m) (nd i mem : Int) (mk : Option (Nat × Int × ByteArray)) (j : Nat) (hj : j < p.n) (hm : MsgIn p mk) (hB : B ≤ 9999990) :
    Calls Tryz.prog 46 #[.pointer (some ⟨C, 0, none⟩), frameV nd i mem (msgLk mk) (msgSeq mk) (msgDat mk), .int .i64 j] w fun e w' => e = .returned (.tuple #[]) ∧ ∃ O', Foot O O' w w' ∧ Cl w' O' C p fa cs (s.takeM p mk j) rd (B + 2) m := by
  match mk with
  | none =>
    refine (ctake_none C nd i mem 0 ByteArray.empty j w).mono ?_
    rintro e w' ⟨he, hw⟩
    exact ⟨he, O, Foot.of_below hw, (h.below hw).more (by omega)⟩
  | some (k, q, d) =>
    obtain ⟨h1, h2⟩ := hm k q d rfl
    exact ctake_any h nd i mem q d j k hj h1 h2 hB

/-- Whether what is sent comes to a node over the first channels. -/
def cameB (sent : Bool) (l0 l1 : Int) (j : Nat) (c : Nat) : Bool := sent && ((decide (1 ≤ c) && !bitI l0 j) || (decide (2 ≤ c) && !bitI l1 j))
/-- What all up to a node make of what they hear. -/
def ClS.hearTo (s : ClS) (p : PlanN) (who : Nat) (mem : Int) (mk : Option (Nat × Int × ByteArray)) (sent : Bool) (l0 l1 : Int) : Nat → ClS
  | 0 => s
  | j + 1 =>
    if j = who then s.hearTo p who mem mk sent l0 l1 j else
      (if cameB sent l0 l1 j 2 = true then (s.hearTo p who mem mk sent l0 l1 j).takeM p mk j else s.hearTo p who mem mk sent l0 l1 j).setNode j ((s.nodes j).hears j p.n who (if cameB sent l0 l1 j 2 = true then judgeV p.n (s.nodes j).t (tb mem) who mem else 0))

theorem hearTo_nodes {who : Nat} {mem : Int} {mk : Option (Nat × Int × ByteArray)} {sent : Bool} {l0 l1 : Int} : ∀ j x, j ≤ x → (s.hearTo p who mem mk sent l0 l1 j).nodes x = s.nodes x := by
  intro j
  induction j with
  | zero => intro x _; rfl
  | succ j ih =>
    intro x hx
    show ClS.nodes (if j = who then s.hearTo p who mem mk sent l0 l1 j else (if cameB sent l0 l1 j 2 = true then (s.hearTo p who mem mk sent l0 l1 j).takeM p mk j else s.hearTo p who mem mk sent l0 l1 j).setNode j _) x = s.nodes x
    split
    · exact ih x (by omega)
    · show (if x = j then _ else ClS.nodes (if cameB sent l0 l1 j 2 = true then (s.hearTo p who mem mk sent l0 l1 j).takeM p mk j else s.hearTo p who mem mk sent l0 l1 j) x) = s.nodes x
      rw [if_neg (by omega)]
      split
      · rw [takeM_nodes]; exact ih x (by omega)
      · exact ih x (by omega)
theorem cameB_zero (sent : Bool) (l0 l1 : Int) (j : Nat) : cameB sent l0 l1 j 0 = false := by unfold cameB; simp
theorem cameB_succ (sent : Bool) (l0 l1 : Int) (j c : Nat) (hc : c < 2) : cameB sent l0 l1 j (c + 1) = (cameB sent l0 l1 j c || (sent && !bitI (if c = 0 then l0 else l1) j)) := by
  have : c = 0 ∨ c = 1 := by omega
  rcases this with rfl | rfl
  · unfold cameB; simp
  · unfold cameB; cases sent <;> simp

/-- A cluster that lies where calls on it have led. -/
def InCl (O : List Nat) (V wr : World) (C : Nat) (p : PlanN) (fa : Int) (cs : List Int) (s : ClS) (rd : Int) (B : Nat) (m : CMap) : Prop := ∃ O', Foot O O' V wr ∧ Cl wr O' C p fa cs s rd B m
theorem InCl.box {V wr : World} (h : InCl O V wr C p fa cs s rd B m) {b : Nat} (hb : b < V.heap.size) (hn : b ∉ O) (i : Nat) : wr.cell? ⟨b, i, none⟩ = V.cell? ⟨b, i, none⟩ := by
  obtain ⟨_, h, _⟩ := h
  exact h.cell (p := ⟨b, i, none⟩) hb hn
theorem InCl.size {V wr : World} (h : InCl O V wr C p fa cs s rd B m) : V.heap.size ≤ wr.heap.size := by
  obtain ⟨_, h, _⟩ := h
  exact h.size
theorem InCl.base {V wr : World} (h : InCl O V wr C p fa cs s rd B m) : CBase wr C p fa cs rd m := by
  obtain ⟨_, _, h⟩ := h
  exact h.base
theorem InCl.below {V wr w' : World} (h : InCl O V wr C p fa cs s rd B m) (k : Below wr.heap.size wr w') : InCl O V w' C p fa cs s rd B m := by
  obtain ⟨O', h, c⟩ := h
  exact ⟨O', h.trans (Foot.of_below k), c.below k⟩
theorem InCl.drawn {V wr : World} (h : InCl O V wr C p fa cs s rd B m) (u : Nat) : InCl O V (wr.drewN u) C p fa cs s rd B m := h.below ⟨rfl, rfl, rfl, Nat.le_refl _, fun _ _ => rfl⟩
theorem InCl.more {V wr : World} {B' : Nat} (h : InCl O V wr C p fa cs s rd B m) (hB : B ≤ B') : InCl O V wr C p fa cs s rd B' m := by
  obtain ⟨O', h, c⟩ := h
  exact ⟨O', h, c.more hB⟩
theorem InCl.on {V wr w' : World} {s' : ClS} {B' : Nat} (h : InCl O V wr C p fa cs s rd B m) (k : ∀ O', Cl wr O' C p fa cs s rd B m → ∃ O'', Foot O' O'' wr w' ∧ Cl w' O'' C p fa cs s' rd B' m) : InCl O V w' C p fa cs s' rd B' m := by
  obtain ⟨O', h, c⟩ := h
  obtain ⟨O'', h2, c2⟩ := k O' c
  exact ⟨O'', h.trans h2, c2⟩

set_option maxRecDepth 100000 in
theorem pidx0 (x y : Int) (w : World) : (Instr.index 77 (.agg #[.int .i64 x, .int .i64 y]) (.int .i64 0)).run Tryz.prog w = .ok (.int .i64 x) w := rfl
set_option maxRecDepth 100000 in
theorem pidx1 (x y : Int) (w : World) : (Instr.index 77 (.agg #[.int .i64 x, .int .i64 y]) (.int .i64 1)).run Tryz.prog w = .ok (.int .i64 y) w := rfl
theorem pidx (x y : Int) (c : Nat) (hc : c < 2) (w : World) : (Instr.index 77 (.agg #[.int .i64 x, .int .i64 y]) (.int .i64 c)).run Tryz.prog w = .ok (.int .i64 (if c = 0 then x else y)) w := by
  have : c = 0 ∨ c = 1 := by omega
  rcases this with rfl | rfl
  · exact pidx0 x y w
  · exact pidx1 x y w

theorem ctakeI {V wr : World} (h : InCl O V wr C p fa cs s rd B m) (nd i mem : Int) (mk : Option (Nat × Int × ByteArray)) (j : Nat) (hj : j < p.n) (hm : MsgIn p mk) (hB : B ≤ 9999990) :
    Calls Tryz.prog 46 #[.pointer (some ⟨C, 0, none⟩), frameV nd i mem (msgLk mk) (msgSeq mk) (msgDat mk), .int .i64 j] wr fun e w' => e = .returned (.tuple #[]) ∧ InCl O V w' C p fa cs (s.takeM p mk j) rd (B + 2) m := by
  obtain ⟨O', h, c⟩ := h
  refine (ctakeM c nd i mem mk j hj hm hB).mono ?_
  rintro e w' ⟨he, O'', h2, c2⟩
  exact ⟨he, O'', h.trans h2, c2⟩
theorem cjudgeI {V wr : World} (h : InCl O V wr C p fa cs s rd B m) (j : Nat) (hj : j < p.n) (hn : p.n ≤ 16) (frm mem : Int) :
    Calls Tryz.prog 45 #[.pointer (some ⟨m.P j, 0, none⟩), .int .i64 frm, .int .i64 mem] wr fun e w' => e = .returned (.int .i64 (judgeV p.n (s.nodes j).t (tb mem) frm mem)) ∧ InCl O V w' C p fa cs s rd B m := by
  obtain ⟨O', h, c⟩ := h
  refine (pJudges_any (c.nod hj).1 frm mem hn).mono ?_
  rintro e w' ⟨he, q, rfl⟩
  exact ⟨he, InCl.drawn ⟨O', h, c⟩ q⟩
theorem chearI {V wr : World} (h : InCl O V wr C p fa cs s rd B m) (j : Nat) (hj : j < p.n) (hn : p.n ≤ 16) (frm what : Int) (hB : B ≤ 9999990) :
    Calls Tryz.prog 47 #[.pointer (some ⟨m.P j, 0, none⟩), .int .i64 frm, .int .i64 what] wr fun e w' => e = .returned (.tuple #[]) ∧ InCl O V w' C p fa cs (s.setNode j { t := heT j p.n (s.nodes j).fz frm what (s.nodes j).t, g := heG j p.n (s.nodes j).fz frm what (s.nodes j).g, b := heB j p.n (s.nodes j).fz frm what (s.nodes j).b, fz := (s.nodes j).fz }) rd (B + 1) m := by
  obtain ⟨O', h, c⟩ := h
  obtain ⟨n1, ⟨⟨n2, n3⟩, n4, n5⟩, n6⟩ := c.nod hj
  refine (pHears_all n1 frm what hn n2 (by omega) n4 (by omega)).mono ?_
  rintro e w' ⟨he, q1, q2⟩
  obtain ⟨O'', h2, c2⟩ := n6 w' (B + 1) { t := heT j p.n (s.nodes j).fz frm what (s.nodes j).t, g := heG j p.n (s.nodes j).fz frm what (s.nodes j).g, b := heB j p.n (s.nodes j).fz frm what (s.nodes j).b, fz := (s.nodes j).fz } q1 q2 (by
    unfold NodeIn heG heB
    simp only []
    constructor <;> split <;> omega) (Nat.le_succ _)
  exact ⟨he, O'', h.trans h2, c2⟩

theorem two_boxes (w : World) (a b c d e f x y : Value) (t u : TypeId) (V : World) (hV : V = (w.alloc (.cells #[a, b, c, d, e, f] t)).alloc (.cells #[x, y] u)) :
    (∀ (i : Nat) (v : Value), (#[a, b, c, d, e, f] : Array Value)[i]? = some v → V.cell? ⟨w.heap.size, i, none⟩ = some v) ∧ (∀ (i : Nat) (v : Value), (#[x, y] : Array Value)[i]? = some v → V.cell? ⟨w.heap.size + 1, i, none⟩ = some v) ∧ Below w.heap.size w V ∧ V.heap.size = w.heap.size + 2 := by
  subst hV
  refine ⟨fun i v hi => ?_, fun i v hi => ?_, ((Below.refl _ _).alloc (Nat.le_refl _) _).alloc (by simp) _, by simp⟩
  · rw [World.cell?_alloc_lt _ _ _ (by simp)]
    simp
    simpa using hi
  · have e : w.heap.size + 1 = (w.alloc (.cells #[a, b, c, d, e, f] t)).heap.size := by simp
    rw [e]
    simp
    simpa using hi

set_option maxRecDepth 100000 in
set_option maxHeartbeats 2000000 in
theorem chear_any (h : Cl w O C p fa cs s rd B m) (who : Nat) (i mem : Int) (mk : Option (Nat × Int × ByteArray)) (sent : Bool) (l0 l1 : Int) (hwho : who < p.n) (hn : p.n ≤ 16) (hm : MsgIn p mk) (hB : B ≤ 9999000) :
    Calls Tryz.prog 21 #[.pointer (some ⟨C, 0, none⟩), frameV who i mem (msgLk mk) (msgSeq mk) (msgDat mk), .bool sent, .agg #[.int .i64 l0, .int .i64 l1]] w fun e w' => e = .returned (.tuple #[]) ∧ ∃ O', Foot O O' w w' ∧ Cl w' O' C p fa cs (s.hearTo p who mem mk sent l0 l1 p.n) rd (B + 5 * p.n) m := by
  have HM : Hid (MsgIn p mk) := hm
  have HT : Hid (∀ (V wr : World) (s : ClS) (B j : Nat), InCl O V wr C p fa cs s rd B m → j < p.n → B ≤ 9999990 → Calls Tryz.prog 46 #[.pointer (some ⟨C, 0, none⟩), .agg #[.int .i64 who, .int .i64 i, .int .i64 mem, .int .i64 (msgLk mk), .int .i64 (msgSeq mk), .string (msgDat mk)], .int .i64 j] wr fun e w' => e = .returned (.tuple #[]) ∧ InCl O V w' C p fa cs (s.takeM p mk j) rd (B + 2) m) := fun V wr s B j h hj hB => ctakeI h who i mem mk j hj hm hB
  clear hm
  unfold frameV
  generalize msgLk mk = lk at *
  generalize msgSeq mk = q at *
  generalize msgDat mk = d at *
  obtain ⟨V, hVe⟩ : ∃ V, V = (w.alloc (.cells #[.int .i64 who, .int .i64 i, .int .i64 mem, .int .i64 lk, .int .i64 q, .string d] 72)).alloc (.cells #[.int .i64 l0, .int .i64 l1] 77) := ⟨_, rfl⟩
  obtain ⟨bx, by2, hBel, hsz⟩ := two_boxes w _ _ _ _ _ _ _ _ _ _ V hVe
  have HV0 : Hid (Foot O O w V) := Foot.of_below hBel
  have hc := h.below hBel
  have HI0 : Hid (InCl O V V C p fa cs s rd B m) := ⟨O, Foot.refl _ _, hc⟩
  have HX : Hid ((w.heap.size ∉ O ∧ w.heap.size + 1 ∉ O) ∧ (∀ (i' : Nat) (v : Value), (#[.int .i64 who, .int .i64 i, .int .i64 mem, .int .i64 lk, .int .i64 q, .string d] : Array Value)[i']? = some v → V.cell? ⟨w.heap.size, i', none⟩ = some v) ∧ (∀ (i' : Nat) (v : Value), (#[.int .i64 l0, .int .i64 l1] : Array Value)[i']? = some v → V.cell? ⟨w.heap.size + 1, i', none⟩ = some v) ∧ V.heap.size = w.heap.size + 2) := ⟨⟨fun y => Nat.lt_irrefl _ (h.lt _ y), fun y => by have := h.lt _ y; omega⟩, bx, by2, hsz⟩
  have c13 := hc.base.c13
  have hlC := hc.base.lc
  have HN : Hid (p.n ≤ 16 ∧ who < p.n ∧ B ≤ 9999000) := ⟨hn, hwho, hB⟩
  have hVe' := hVe.symm
  obtain ⟨n, hpn⟩ : ∃ n, p.n = n := ⟨_, rfl⟩
  have HPN : Hid (p.n = n) := hpn
  rw [hpn] at c13 hn hwho ⊢
  clear h hc hBel hVe bx by2 hpn hB
  go_enter Tryz.func21, Tryz.ntmps21
  go_wp2_with fail
  clear hVe' c13 hsz hlC HM
  go_loopw [18] (fun t wr => ∃ j : Nat, j ≤ n ∧ t = .int .i64 j ∧ Hid (InCl O V wr C p fa cs (s.hearTo p who mem mk sent l0 l1 j) rd (B + 5 * j) m)) (fun t _ => n - (intOf t).toNat)
  case atStart => exact ⟨0, Nat.zero_le _, rfl, HI0⟩
  case round =>
    obtain ⟨j, hj, rfl, HI⟩ := hrel
    by_cases hlt : j < n
    · have jj : (j : Int) < (n : Int) := by omega
      have cnd := HI.out.base.nd j (by rw [HPN.out]; exact hlt)
      have hnb := HI.out.base.lx _ HI.out.base.ndX
      have hbw : w.heap.size < wr.heap.size := by have := HI.out.size; have := HX.out.2.2.2; omega
      have hbw2 : w.heap.size + 1 < wr.heap.size := by have := HI.out.size; have := HX.out.2.2.2; omega
      have f0 : wr.cell? ⟨w.heap.size, 0, none⟩ = some (.int .i64 who) := (HI.out.box (by have := HX.out.2.2.2; omega) HX.out.1.1 0).trans (HX.out.2.1 0 _ rfl)
      have a0 : wr.cell? ⟨w.heap.size + 1, 0, none⟩ = some (.int .i64 l0) := (HI.out.box (by have := HX.out.2.2.2; omega) HX.out.1.2 0).trans (HX.out.2.2.1 0 _ rfl)
      have a1 : wr.cell? ⟨w.heap.size + 1, 1, none⟩ = some (.int .i64 l1) := (HI.out.box (by have := HX.out.2.2.2; omega) HX.out.1.2 1).trans (HX.out.2.2.1 1 _ rfl)
      have HLT : Hid (j < n) := hlt
      by_cases hwj : j = who
      · have HI2 : Hid (InCl O V wr C p fa cs (s.hearTo p who mem mk sent l0 l1 (j + 1)) rd (B + 5 * (j + 1)) m) := by
          have e : s.hearTo p who mem mk sent l0 l1 (j + 1) = s.hearTo p who mem mk sent l0 l1 j := if_pos hwj
          show InCl _ _ _ _ _ _ _ _ _ _ _
          rw [e]
          exact HI.out.more (by omega)
        subst hwj
        clear HI a0 a1
        go_wp2
        go_roundw
        case rel => exact ⟨j + 1, by omega, by go_num, HI2⟩
        case measure => simp [intOf]; omega
      · have kw : ((j : Int) == (who : Int)) = false := by simp; omega
        have HW : Hid (¬ j = who) := hwj
        clear hwj
        go_wp2_with fail
        clear f0 a0 a1 cnd kw
        go_loopw [10, 28] (fun x t v => ∃ c : Nat, c ≤ 2 ∧ t = .int .i64 c ∧ x = .int .i64 (if cameB sent l0 l1 j c = true then judgeV p.n (s.nodes j).t (tb mem) who mem else 0) ∧ Hid (InCl O V v C p fa cs (if cameB sent l0 l1 j c = true then (s.hearTo p who mem mk sent l0 l1 j).takeM p mk j else s.hearTo p who mem mk sent l0 l1 j) rd (B + 5 * j + 2 * c) m)) (fun _ t _ => 2 - (intOf t).toNat)
        case atStart =>
          refine ⟨0, by decide, rfl, ?_, ?_⟩
          · rw [cameB_zero]; rfl
          · rw [cameB_zero]; exact HI
        case round =>
          clear HI
          obtain ⟨c, hc, rfl, rfl, HJ⟩ := hrel
          have HJN : Hid ((if cameB sent l0 l1 j c = true then (s.hearTo p who mem mk sent l0 l1 j).takeM p mk j else s.hearTo p who mem mk sent l0 l1 j).nodes j = s.nodes j) := by
            show _ = _
            split
            · rw [takeM_nodes]; exact hearTo_nodes j j (Nat.le_refl _)
            · exact hearTo_nodes j j (Nat.le_refl _)
          by_cases hc2 : c < 2
          · have hix := pidx l0 l1 c hc2
            have cc2 : (c : Int) < 2 := by omega
            have HS := cameB_succ sent l0 l1 j c hc2
            have HSU : Hid (cameB sent l0 l1 j (c + 1) = (cameB sent l0 l1 j c || (sent && !bitI (if c = 0 then l0 else l1) j))) := HS
            clear HS
            have HJ16 : Hid (j ≤ 16) := by show j ≤ 16; omega
            generalize (if c = 0 then l0 else l1) = lc at *
            have hhas := fun v => chas_any lc j HJ16.out v
            cases hs : sent && !bitI lc j
            · have HE : Hid (cameB sent l0 l1 j (c + 1) = cameB sent l0 l1 j c) := by show _ = _; rw [HSU.out, hs, Bool.or_false]
              have HJ2 : Hid (InCl O V wr C p fa cs (if cameB sent l0 l1 j (c + 1) = true then (s.hearTo p who mem mk sent l0 l1 j).takeM p mk j else s.hearTo p who mem mk sent l0 l1 j) rd (B + 5 * j + 2 * (c + 1)) m) := by
                show InCl _ _ _ _ _ _ _ _ _ _ _
                rw [HE.out]
                exact HJ.out.more (by omega)
              clear HJ HSU
              generalize hWH : (if cameB sent l0 l1 j c = true then judgeV p.n (s.nodes j).t (tb mem) who mem else 0) = WH
              have HWH : Hid (WH = (if cameB sent l0 l1 j (c + 1) = true then judgeV p.n (s.nodes j).t (tb mem) who mem else 0)) := by show _ = _; rw [HE.out]; exact hWH.symm
              clear hWH HE HJN
              cases sent
              · clear hhas hs
                go_wp2
                go_roundw
                case rel => exact ⟨c + 1, by omega, by go_num, by rw [HWH.out], HJ2⟩
                case measure => simp [intOf]; omega
              · have hb2 : bitI lc j = true := by simpa using hs
                rw [hb2] at hhas
                clear hs hb2
                go_wp2_with fail
                refine (hhas _).mono ?_
                rintro e v1 ⟨rfl, hv⟩
                replace hv := hv.symm
                subst hv
                go_wp2
                go_roundw
                case rel => exact ⟨c + 1, by omega, by go_num, by rw [HWH.out], HJ2⟩
                case measure => simp [intOf]; omega
            · have hsent : sent = true := by cases sent <;> simp_all
              have hb2 : bitI lc j = false := by cases sent <;> simp_all
              have HE : Hid (cameB sent l0 l1 j (c + 1) = true) := by show _ = _; rw [HSU.out, hs, Bool.or_true]
              rw [hb2] at hhas
              have f0 : wr.cell? ⟨w.heap.size, 0, none⟩ = some (.int .i64 who) := (HJ.out.box (by have := HX.out.2.2.2; omega) HX.out.1.1 0).trans (HX.out.2.1 0 _ rfl)
              have f2 : wr.cell? ⟨w.heap.size, 2, none⟩ = some (.int .i64 mem) := (HJ.out.box (by have := HX.out.2.2.2; omega) HX.out.1.1 2).trans (HX.out.2.1 2 _ rfl)
              have hbw3 : w.heap.size < wr.heap.size := by have := HJ.out.size; have := HX.out.2.2.2; omega
              have hjud := cjudgeI HJ.out j (by rw [HPN.out]; exact HLT.out) HN.out.1 who mem
              rw [HJN.out] at hjud
              have HTW : Hid ((if cameB sent l0 l1 j c = true then (s.hearTo p who mem mk sent l0 l1 j).takeM p mk j else s.hearTo p who mem mk sent l0 l1 j).takeM p mk j = (s.hearTo p who mem mk sent l0 l1 j).takeM p mk j) := by
                show _ = _
                split
                · exact takeM_again _ _ _ _
                · rfl
              clear hs HSU
              generalize (if cameB sent l0 l1 j c = true then (s.hearTo p who mem mk sent l0 l1 j).takeM p mk j else s.hearTo p who mem mk sent l0 l1 j) = SC at *
              generalize (if cameB sent l0 l1 j c = true then judgeV p.n (s.nodes j).t (tb mem) who mem else 0) = WH at *
              obtain ⟨JV, hJV⟩ : ∃ JV, judgeV p.n (s.nodes j).t (tb mem) who mem = JV := ⟨_, rfl⟩
              have HJV : Hid (judgeV p.n (s.nodes j).t (tb mem) who mem = JV) := hJV
              rw [hJV] at hjud
              clear hJV HJN
              have HSE : Hid (sent = true) := hsent
              subst hsent
              go_wp2_with fail
              refine (hhas _).mono ?_
              rintro e v1 ⟨rfl, hv⟩
              replace hv := hv.symm
              subst hv
              go_wp2_with fail
              refine hjud.mono ?_
              rintro e v1 ⟨rfl, hI1⟩
              have HI1 : Hid (InCl O V v1 C p fa cs SC rd (B + 5 * j + 2 * c) m) := hI1
              have y : ∀ (i' : Nat) (v : Value), (#[.int .i64 who, .int .i64 i, .int .i64 mem, .int .i64 lk, .int .i64 q, .string d] : Array Value)[i']? = some v → v1.cell? ⟨w.heap.size, i', none⟩ = some v := fun i' v hv => (hI1.box (by have := HX.out.2.2.2; omega) HX.out.1.1 i').trans (HX.out.2.1 i' v hv)
              have g0 : v1.cell? ⟨w.heap.size, 0, none⟩ = some (.int .i64 who) := y 0 _ rfl
              have g1 : v1.cell? ⟨w.heap.size, 1, none⟩ = some (.int .i64 i) := y 1 _ rfl
              have g2 : v1.cell? ⟨w.heap.size, 2, none⟩ = some (.int .i64 mem) := y 2 _ rfl
              have g3 : v1.cell? ⟨w.heap.size, 3, none⟩ = some (.int .i64 lk) := y 3 _ rfl
              have g4 : v1.cell? ⟨w.heap.size, 4, none⟩ = some (.int .i64 q) := y 4 _ rfl
              have g5 : v1.cell? ⟨w.heap.size, 5, none⟩ = some (.string d) := y 5 _ rfl
              have hbw4 : w.heap.size < v1.heap.size := by have := hI1.size; have := HX.out.2.2.2; omega
              clear y hjud HJ hI1
              go_wp2_with fail
              refine (HT.out V v1 SC _ j HI1.out (by rw [HPN.out]; exact HLT.out) (by have := HN.out; omega)).mono ?_
              rintro e v2 ⟨rfl, hI2⟩
              have HI2 : Hid (InCl O V v2 C p fa cs (if cameB true l0 l1 j (c + 1) = true then (s.hearTo p who mem mk true l0 l1 j).takeM p mk j else s.hearTo p who mem mk true l0 l1 j) rd (B + 5 * j + 2 * (c + 1)) m) := by
                show InCl _ _ _ _ _ _ _ _ _ _ _
                rw [HE.out, if_pos rfl, ← HTW.out]
                exact hI2
              have HWH : Hid (JV = (if cameB true l0 l1 j (c + 1) = true then judgeV p.n (s.nodes j).t (tb mem) who mem else 0)) := by show _ = _; rw [HE.out, if_pos rfl]; exact HJV.out.symm
              clear hI2 HI1 HTW HE g0 g1 g2 g3 g4 g5
              go_wp2
              go_roundw
              case rel => exact ⟨c + 1, by omega, by go_num, by rw [HWH.out], HI2⟩
              case measure => simp [intOf]; omega
          · obtain rfl : c = 2 := by omega
            have f0 : wr.cell? ⟨w.heap.size, 0, none⟩ = some (.int .i64 who) := (HJ.out.box (by have := HX.out.2.2.2; omega) HX.out.1.1 0).trans (HX.out.2.1 0 _ rfl)
            have hbw3 : w.heap.size < wr.heap.size := by have := HJ.out.size; have := HX.out.2.2.2; omega
            have HWE : Hid (∃ WH, (if cameB sent l0 l1 j 2 = true then judgeV p.n (s.nodes j).t (tb mem) who mem else 0) = WH) := ⟨_, rfl⟩
            have hhr := chearI HJ.out j (by rw [HPN.out]; exact HLT.out) HN.out.1 who (if cameB sent l0 l1 j 2 = true then judgeV p.n (s.nodes j).t (tb mem) who mem else 0) (by have := HN.out; omega)
            have HST : Hid (s.hearTo p who mem mk sent l0 l1 (j + 1) = (if cameB sent l0 l1 j 2 = true then (s.hearTo p who mem mk sent l0 l1 j).takeM p mk j else s.hearTo p who mem mk sent l0 l1 j).setNode j ((s.nodes j).hears j p.n who (if cameB sent l0 l1 j 2 = true then judgeV p.n (s.nodes j).t (tb mem) who mem else 0))) := if_neg HW.out
            rw [HJN.out] at hhr
            generalize (if cameB sent l0 l1 j 2 = true then judgeV p.n (s.nodes j).t (tb mem) who mem else 0) = WH at *
            clear HWE HJN HJ
            go_wp2_with fail
            refine hhr.mono ?_
            rintro e v1 ⟨rfl, hI1⟩
            have HI2 : Hid (InCl O V v1 C p fa cs (s.hearTo p who mem mk sent l0 l1 (j + 1)) rd (B + 5 * (j + 1)) m) := by
              show InCl _ _ _ _ _ _ _ _ _ _ _
              rw [HST.out]
              exact hI1
            clear hI1 hhr HST
            go_wp2
            go_roundw
            case rel => exact ⟨j + 1, by omega, by go_num, HI2⟩
            case measure => simp [intOf]; omega
    · have hjn : j = n := by omega
      have HD : Hid (∃ O', Foot O O' w wr ∧ Cl wr O' C p fa cs (s.hearTo p who mem mk sent l0 l1 n) rd (B + 5 * n) m) := by
        obtain ⟨O', h1, h2⟩ := HI.out
        rw [hjn] at h2
        exact ⟨O', HV0.out.trans h1, h2⟩
      have kk : decide (j < n) = false := decide_eq_false (by omega)
      clear hjn hlt HI
      go_wp2
      exact bodyPost_end (v := .tuple #[]) (by simp [results, Tryz.results21, go_sem]) rfl ⟨rfl, HD.out⟩
end
end Go.Proofs.YtdmokcnoljlogaaGreatDoor
