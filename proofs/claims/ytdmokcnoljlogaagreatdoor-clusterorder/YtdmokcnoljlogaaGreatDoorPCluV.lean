/- The program's cluster: a slot, sent and heard, is what the plain words say (10.3). -/
import Derived.Test.YtdmokcnoljlogaaGreatDoorPCluS2
namespace Go.Proofs.YtdmokcnoljlogaaGreatDoor
open Go.RowKit

theorem linksTo_all {P : PlanS} {who : Nat} {t : Int} {L : Nat → SendS} : ∀ n j, ((linksTo P who t L n).1 j).all = (L j).all := by
  intro n
  induction n with
  | zero => intro j; rfl
  | succ n ih =>
    intro j
    by_cases h : P.lf n = who
    · cases q : (linksTo P who t L n).2 with
      | none =>
        rw [linksTo_ask h q]
        show (if j = n then ((linksTo P who t L n).1 n).asked t (P.lb n) else (linksTo P who t L n).1 j).all = _
        split
        · next e => subst e; exact ih j
        · exact ih j
      | some x =>
        have e : linksTo P who t L (n + 1) = linksTo P who t L n := by
          show (if _ then _ else _) = _
          rw [if_pos (.inl (by rw [q]; rfl))]
        rw [e]
        exact ih j
    · rw [linksTo_skip h]
      exact ih j
theorem linksTo_dat {P : PlanS} {who : Nat} {t : Int} {L : Nat → SendS} : ∀ n k q d, (linksTo P who t L n).2 = some (k, q, d) → ∃ x, d = (L k).all.getD x ByteArray.empty := by
  intro n
  induction n with
  | zero => intro k q d h; cases h
  | succ n ih =>
    intro k q d hm
    by_cases h : P.lf n = who
    · cases y : (linksTo P who t L n).2 with
      | none =>
        rw [linksTo_ask h y] at hm
        by_cases hK : sendK ((linksTo P who t L n).1 n).all.length ((linksTo P who t L n).1 n).went t ((linksTo P who t L n).1 n).now ((linksTo P who t L n).1 n).last (P.lb n) = 0
        · simp only [if_pos hK] at hm
          injection hm with hm
          injection hm with h1 h2
          injection h2 with h2 h3
          subst h1
          exact ⟨_, by rw [← h3, linksTo_all]⟩
        · simp only [if_neg hK] at hm
          cases hm
      | some x =>
        have e : linksTo P who t L (n + 1) = linksTo P who t L n := by
          show (if _ then _ else _) = _
          rw [if_pos (.inl (by rw [y]; rfl))]
        rw [e] at hm
        exact ih k q d hm
    · rw [linksTo_skip h] at hm
      exact ih k q d hm

section
variable {w : World} {O : List Nat} {C : Nat} {p : PlanN} {fa : Int} {cs : List Int} {s : ClS} {rd : Int} {B : Nat} {m : CMap}

theorem Cl.msg (h : Cl w O C p fa cs s rd B m) (H : HapS) (i : Nat) : MsgIn p (s.goes p.S H rd i).2 := by
  intro k q d hm
  unfold ClS.goes at hm
  by_cases hs : s.sends H (p.S.nd i) = true
  · rw [if_pos hs] at hm
    have h1 := ((linksTo_own (p := p.S) (who := p.S.nd i) (t := rd * p.S.round + p.S.fr i) (L := s.links) p.S.nl).1 k q d hm).1
    refine ⟨h1, ?_⟩
    obtain ⟨x, hx⟩ := linksTo_dat _ _ _ _ hm
    obtain ⟨_, _, hB, _⟩ := h.sdr h1
    rw [hx, List.getD_eq_getElem?_getD]
    cases y : (s.links k).all[x]? with
    | none => decide
    | some v => exact hB.2.2 v (List.mem_of_getElem? y)
  · rw [if_neg hs] at hm
    cases hm

/-- What a message that comes to a node changes there. -/
def tookB (s : ClS) (p : PlanN) (mk : Option (Nat × Int × ByteArray)) (k j : Nat) : Bool := match mk with | none => false | some (k', q, _) => decide (k' = k) && (bitI (p.lt k) j && takeB (s.newest k j) q)
theorem takeM_newest (s : ClS) (p : PlanN) (mk : Option (Nat × Int × ByteArray)) (j k x : Nat) : (s.takeM p mk j).newest k x = if x = j ∧ tookB s p mk k j = true then msgSeq mk else s.newest k x := by
  match mk with
  | none =>
    show s.newest k x = _
    rw [if_neg (fun e => by cases e.2)]
  | some (k', q, d) =>
    show (if bitI (p.lt k') j = true then s.take1 k' j q d else s).newest k x = if x = j ∧ (decide (k' = k) && (bitI (p.lt k) j && takeB (s.newest k j) q)) = true then q else s.newest k x
    by_cases hb : bitI (p.lt k') j = true
    · rw [if_pos hb]
      unfold ClS.take1
      by_cases hT : takeB (s.newest k' j) q = true
      · rw [if_pos hT]
        show (if k = k' ∧ x = j then q else s.newest k x) = _
        by_cases e : k = k' ∧ x = j
        · obtain ⟨rfl, rfl⟩ := e
          rw [if_pos ⟨rfl, rfl⟩, if_pos ⟨rfl, by rw [hb, hT]; simp⟩]
        · rw [if_neg e, if_neg]
          rintro ⟨e1, e2⟩
          rw [Bool.and_eq_true, decide_eq_true_eq] at e2
          exact e ⟨e2.1.symm, e1⟩
      · rw [if_neg hT, if_neg]
        rintro ⟨_, e2⟩
        rw [Bool.and_eq_true, decide_eq_true_eq, Bool.and_eq_true] at e2
        obtain ⟨rfl, _, e3⟩ := e2
        exact hT e3
    · rw [if_neg hb, if_neg]
      rintro ⟨_, e2⟩
      rw [Bool.and_eq_true, decide_eq_true_eq, Bool.and_eq_true] at e2
      obtain ⟨rfl, e3, _⟩ := e2
      exact hb e3
theorem takeM_ports (s : ClS) (p : PlanN) (mk : Option (Nat × Int × ByteArray)) (j k x : Nat) : (s.takeM p mk j).ports k x = if x = j ∧ tookB s p mk k j = true ∧ (s.ports k j).length < 16 then s.ports k j ++ [msgDat mk] else s.ports k x := by
  match mk with
  | none =>
    show s.ports k x = _
    rw [if_neg (fun e => by cases e.2.1)]
  | some (k', q, d) =>
    show (if bitI (p.lt k') j = true then s.take1 k' j q d else s).ports k x = if x = j ∧ (decide (k' = k) && (bitI (p.lt k) j && takeB (s.newest k j) q)) = true ∧ (s.ports k j).length < 16 then s.ports k j ++ [d] else s.ports k x
    by_cases hb : bitI (p.lt k') j = true
    · rw [if_pos hb]
      unfold ClS.take1
      by_cases hT : takeB (s.newest k' j) q = true
      · rw [if_pos hT]
        show (if k = k' ∧ x = j then (if (s.ports k' j).length < 16 then s.ports k' j ++ [d] else s.ports k' j) else s.ports k x) = _
        by_cases e : k = k' ∧ x = j
        · obtain ⟨rfl, rfl⟩ := e
          rw [if_pos ⟨rfl, rfl⟩]
          by_cases hl : (s.ports k x).length < 16
          · rw [if_pos hl, if_pos ⟨rfl, by rw [hb, hT]; simp, hl⟩]
          · rw [if_neg hl, if_neg (fun y => hl y.2.2)]
        · rw [if_neg e, if_neg]
          rintro ⟨e1, e2, _⟩
          rw [Bool.and_eq_true, decide_eq_true_eq] at e2
          exact e ⟨e2.1.symm, e1⟩
      · rw [if_neg hT, if_neg]
        rintro ⟨_, e2, _⟩
        rw [Bool.and_eq_true, decide_eq_true_eq, Bool.and_eq_true] at e2
        obtain ⟨rfl, _, e3⟩ := e2
        exact hT e3
    · rw [if_neg hb, if_neg]
      rintro ⟨_, e2, _⟩
      rw [Bool.and_eq_true, decide_eq_true_eq, Bool.and_eq_true] at e2
      obtain ⟨rfl, e3, _⟩ := e2
      exact hb e3
theorem takeM_links (s : ClS) (p : PlanN) (mk : Option (Nat × Int × ByteArray)) (j : Nat) : (s.takeM p mk j).links = s.links := by
  match mk with
  | none => rfl
  | some (k, q, d) =>
    show (if bitI (p.lt k) j = true then s.take1 k j q d else s).links = s.links
    unfold ClS.take1
    split
    · split <;> rfl
    · rfl
theorem tookB_same {s s' : ClS} {p : PlanN} {mk : Option (Nat × Int × ByteArray)} {k j : Nat} (h : s.newest k j = s'.newest k j) : tookB s p mk k j = tookB s' p mk k j := by
  match mk with
  | none => rfl
  | some (k', q, d) =>
    show (decide (k' = k) && (bitI (p.lt k) j && takeB (s.newest k j) q)) = (decide (k' = k) && (bitI (p.lt k) j && takeB (s'.newest k j) q))
    rw [h]

/-- What all up to a node made of it, place by place. -/
theorem hearTo_is (s : ClS) (p : PlanN) (who : Nat) (mem : Int) (mk : Option (Nat × Int × ByteArray)) (sent : Bool) (l0 l1 : Int) : ∀ J,
    (∀ x, (s.hearTo p who mem mk sent l0 l1 J).nodes x = if x < J ∧ x ≠ who then (s.nodes x).hears x p.n who (if cameB sent l0 l1 x 2 = true then judgeV p.n (s.nodes x).t (tb mem) who mem else 0) else s.nodes x) ∧
    (s.hearTo p who mem mk sent l0 l1 J).links = s.links ∧
    (∀ k x, (s.hearTo p who mem mk sent l0 l1 J).newest k x = if (x < J ∧ x ≠ who ∧ cameB sent l0 l1 x 2 = true) ∧ tookB s p mk k x = true then msgSeq mk else s.newest k x) ∧
    ∀ k x, (s.hearTo p who mem mk sent l0 l1 J).ports k x = if (x < J ∧ x ≠ who ∧ cameB sent l0 l1 x 2 = true) ∧ tookB s p mk k x = true ∧ (s.ports k x).length < 16 then s.ports k x ++ [msgDat mk] else s.ports k x := by
  intro J
  induction J with
  | zero =>
    refine ⟨fun x => ?_, rfl, fun k x => ?_, fun k x => ?_⟩
    · rw [if_neg (fun e => Nat.not_lt_zero _ e.1)]; rfl
    · rw [if_neg (fun e => Nat.not_lt_zero _ e.1.1)]; rfl
    · rw [if_neg (fun e => Nat.not_lt_zero _ e.1.1)]; rfl
  | succ J ih =>
    obtain ⟨ih1, ih2, ih3, ih4⟩ := ih
    have hn : (s.hearTo p who mem mk sent l0 l1 J).nodes J = s.nodes J := hearTo_nodes J J (Nat.le_refl _)
    generalize hR : s.hearTo p who mem mk sent l0 l1 J = R at *
    have hst : s.hearTo p who mem mk sent l0 l1 (J + 1) = if J = who then R else (if cameB sent l0 l1 J 2 = true then R.takeM p mk J else R).setNode J ((s.nodes J).hears J p.n who (if cameB sent l0 l1 J 2 = true then judgeV p.n (s.nodes J).t (tb mem) who mem else 0)) := by
      rw [← hR]; rfl
    by_cases hw : J = who
    · rw [hst, if_pos hw]
      refine ⟨fun x => ?_, ih2, fun k x => ?_, fun k x => ?_⟩
      · rw [ih1]
        by_cases q : x < J ∧ x ≠ who
        · rw [if_pos q, if_pos (show x < J + 1 ∧ x ≠ who from ⟨by omega, q.2⟩)]
        · rw [if_neg q, if_neg (show ¬ (x < J + 1 ∧ x ≠ who) by omega)]
      · rw [ih3]
        by_cases q : (x < J ∧ x ≠ who ∧ cameB sent l0 l1 x 2 = true) ∧ tookB s p mk k x = true
        · rw [if_pos q, if_pos ⟨⟨by omega, q.1.2⟩, q.2⟩]
        · rw [if_neg q, if_neg]
          rintro ⟨⟨e1, e2, e3⟩, e4⟩
          exact q ⟨⟨by omega, e2, e3⟩, e4⟩
      · rw [ih4]
        by_cases q : (x < J ∧ x ≠ who ∧ cameB sent l0 l1 x 2 = true) ∧ tookB s p mk k x = true ∧ (s.ports k x).length < 16
        · rw [if_pos q, if_pos ⟨⟨by omega, q.1.2⟩, q.2⟩]
        · rw [if_neg q, if_neg]
          rintro ⟨⟨e1, e2, e3⟩, e4⟩
          exact q ⟨⟨by omega, e2, e3⟩, e4⟩
    · rw [hst, if_neg hw]
      have hNJ : ∀ k, R.newest k J = s.newest k J := fun k => by rw [ih3, if_neg (fun e => Nat.lt_irrefl _ e.1.1)]
      have hPJ : ∀ k, R.ports k J = s.ports k J := fun k => by rw [ih4, if_neg (fun e => Nat.lt_irrefl _ e.1.1)]
      refine ⟨fun x => ?_, ?_, fun k x => ?_, fun k x => ?_⟩
      · show (if x = J then _ else (if cameB sent l0 l1 J 2 = true then R.takeM p mk J else R).nodes x) = _
        by_cases e : x = J
        · subst e
          rw [if_pos rfl, if_pos (show x < x + 1 ∧ x ≠ who from ⟨by omega, hw⟩)]
        · rw [if_neg e]
          have e2 : (if cameB sent l0 l1 J 2 = true then R.takeM p mk J else R).nodes x = R.nodes x := by
            split
            · rw [takeM_nodes]
            · rfl
          rw [e2, ih1]
          by_cases q : x < J ∧ x ≠ who
          · rw [if_pos q, if_pos (show x < J + 1 ∧ x ≠ who from ⟨by omega, q.2⟩)]
          · rw [if_neg q, if_neg (show ¬ (x < J + 1 ∧ x ≠ who) by omega)]
      · show (if cameB sent l0 l1 J 2 = true then R.takeM p mk J else R).links = s.links
        split
        · rw [takeM_links]; exact ih2
        · exact ih2
      · show (if cameB sent l0 l1 J 2 = true then R.takeM p mk J else R).newest k x = _
        by_cases hc : cameB sent l0 l1 J 2 = true
        · rw [if_pos hc, takeM_newest, tookB_same (hNJ k)]
          by_cases e : x = J
          · subst e
            by_cases t : tookB s p mk k x = true
            · rw [if_pos ⟨rfl, t⟩, if_pos ⟨⟨by omega, hw, hc⟩, t⟩]
            · rw [if_neg (fun y => t y.2), if_neg (fun y => t y.2)]
              exact hNJ k
          · rw [if_neg (fun y => e y.1), ih3]
            by_cases q : (x < J ∧ x ≠ who ∧ cameB sent l0 l1 x 2 = true) ∧ tookB s p mk k x = true
            · rw [if_pos q, if_pos ⟨⟨by omega, q.1.2⟩, q.2⟩]
            · rw [if_neg q, if_neg]
              rintro ⟨⟨e1, e2, e3⟩, e4⟩
              exact q ⟨⟨by omega, e2, e3⟩, e4⟩
        · rw [if_neg hc, ih3]
          by_cases q : (x < J ∧ x ≠ who ∧ cameB sent l0 l1 x 2 = true) ∧ tookB s p mk k x = true
          · rw [if_pos q, if_pos ⟨⟨by omega, q.1.2⟩, q.2⟩]
          · rw [if_neg q, if_neg]
            rintro ⟨⟨e1, e2, e3⟩, e4⟩
            by_cases e : x = J
            · subst e; exact hc e3
            · exact q ⟨⟨by omega, e2, e3⟩, e4⟩
      · show (if cameB sent l0 l1 J 2 = true then R.takeM p mk J else R).ports k x = _
        by_cases hc : cameB sent l0 l1 J 2 = true
        · rw [if_pos hc, takeM_ports, tookB_same (hNJ k), hPJ k]
          by_cases e : x = J
          · subst e
            by_cases t : tookB s p mk k x = true ∧ (s.ports k x).length < 16
            · rw [if_pos ⟨rfl, t⟩, if_pos ⟨⟨by omega, hw, hc⟩, t⟩]
            · rw [if_neg (fun y => t y.2), if_neg (fun y => t y.2)]
              exact hPJ k
          · rw [if_neg (fun y => e y.1), ih4]
            by_cases q : (x < J ∧ x ≠ who ∧ cameB sent l0 l1 x 2 = true) ∧ tookB s p mk k x = true ∧ (s.ports k x).length < 16
            · rw [if_pos q, if_pos ⟨⟨by omega, q.1.2⟩, q.2⟩]
            · rw [if_neg q, if_neg]
              rintro ⟨⟨e1, e2, e3⟩, e4⟩
              exact q ⟨⟨by omega, e2, e3⟩, e4⟩
        · rw [if_neg hc, ih4]
          by_cases q : (x < J ∧ x ≠ who ∧ cameB sent l0 l1 x 2 = true) ∧ tookB s p mk k x = true ∧ (s.ports k x).length < 16
          · rw [if_pos q, if_pos ⟨⟨by omega, q.1.2⟩, q.2⟩]
          · rw [if_neg q, if_neg]
            rintro ⟨⟨e1, e2, e3⟩, e4⟩
            by_cases e : x = J
            · subst e; exact hc e3
            · exact q ⟨⟨by omega, e2, e3⟩, e4⟩

theorem judge_is {n who : Nat} {t s' : Nat → Bool} (hw : who < n) : judgeV n t (tb (bitsV s' n)) who (bitsV s' n) = if judB n who s' t = true then 1 else 2 := by
  have hb := bitsV_in s' n
  have e : judB n who (tb (bitsV s' n)) t = judB n who s' t := by
    rw [Bool.eq_iff_iff, judB_iff, judB_iff]
    constructor
    · rintro ⟨h1, h2⟩
      refine ⟨?_, fun j hj hne => ?_⟩
      · rw [tb_bitsV, decide_eq_true hw] at h1; simpa using h1
      · have := h2 j hj hne
        rw [tb_bitsV, decide_eq_true hj] at this
        simpa using this
    · rintro ⟨h1, h2⟩
      refine ⟨?_, fun j hj hne => ?_⟩
      · rw [tb_bitsV, decide_eq_true hw]; simpa using h1
      · rw [tb_bitsV, decide_eq_true hj]
        simpa using h2 j hj hne
  unfold judgeV
  rw [Int.toNat_natCast, e]
  by_cases h : judB n who s' t = true
  · rw [if_pos h, if_pos ⟨⟨by omega, by omega⟩, hb.1, hb.2, h⟩]
  · rw [if_neg h, if_neg (fun y => h y.2.2.2)]

/-- What a slot makes, sent and heard. -/
def ClS.sentS (s : ClS) (p : PlanN) (H : HapS) (rd : Int) (i : Nat) : ClS := ⟨(s.setNode (p.S.nd i) (s.nodes (p.S.nd i)).sent).nodes, (s.goes p.S H rd i).1, s.newest, s.ports⟩
theorem slot_is {H : HapS} {i : Nat} {mem l0 l1 : Int} {sent : Bool} (hw : p.S.nd i < p.n) (hs : sent = s.sends H (p.S.nd i)) (hmem : sent = true → mem = bitsV (s.tells p.S H (p.S.nd i)) p.n) (h0 : ∀ j, j < p.n → bitI l0 j = H.lost i 0 j) (h1 : ∀ j, j < p.n → bitI l1 j = H.lost i 1 j) :
    (∀ x, x < p.n → (s.slot p.S H rd i).nodes x = ((s.sentS p H rd i).hearTo p (p.S.nd i) mem (s.goes p.S H rd i).2 sent l0 l1 p.n).nodes x) ∧ (∀ k, (s.slot p.S H rd i).links k = ((s.sentS p H rd i).hearTo p (p.S.nd i) mem (s.goes p.S H rd i).2 sent l0 l1 p.n).links k) ∧
    ∀ k x, x < p.n → (s.slot p.S H rd i).newest k x = ((s.sentS p H rd i).hearTo p (p.S.nd i) mem (s.goes p.S H rd i).2 sent l0 l1 p.n).newest k x ∧ (s.slot p.S H rd i).ports k x = ((s.sentS p H rd i).hearTo p (p.S.nd i) mem (s.goes p.S H rd i).2 sent l0 l1 p.n).ports k x := by
  obtain ⟨q1, q2, q3, q4⟩ := hearTo_is (s.sentS p H rd i) p (p.S.nd i) mem (s.goes p.S H rd i).2 sent l0 l1 p.n
  have hcame : ∀ x, x < p.n → cameB sent l0 l1 x 2 = s.comes H i (p.S.nd i) x := fun x hx => by
    unfold cameB ClS.comes
    rw [hs, h0 x hx, h1 x hx]
    simp
  have htook : ∀ k x, x < p.n → x ≠ p.S.nd i → (cameB sent l0 l1 x 2 = true ∧ tookB (s.sentS p H rd i) p (s.goes p.S H rd i).2 k x = true ↔ s.takes p.S H i (s.goes p.S H rd i).2 k x = true) := fun k x hx hne => by
    rw [hcame x hx]
    cases hg : (s.goes p.S H rd i).2 with
    | none => exact ⟨(fun e => by cases e.2), (fun e => by cases e)⟩
    | some v =>
      obtain ⟨k', q, d⟩ := v
      show _ ∧ (decide (k' = k) && (bitI (p.lt k) x && takeB (s.newest k x) q)) = true ↔ (decide (k' = k) && (bitI (p.lt k) x && (s.comes H i (p.S.nd i) x && (decide (x < p.n ∧ x ≠ p.S.nd i) && takeB (s.newest k x) q)))) = true
      rw [decide_eq_true (show x < p.n ∧ x ≠ p.S.nd i from ⟨hx, hne⟩)]
      simp only [Bool.and_eq_true, Bool.true_and]
      constructor
      · rintro ⟨a, b, c, d⟩; exact ⟨b, c, a, d⟩
      · rintro ⟨b, c, a, d⟩; exact ⟨a, b, c, d⟩
  have hown : ∀ k, s.takes p.S H i (s.goes p.S H rd i).2 k (p.S.nd i) = false := fun k => by
    cases hg : (s.goes p.S H rd i).2 with
    | none => rfl
    | some v =>
      obtain ⟨k', q, d⟩ := v
      show (decide (k' = k) && (bitI (p.lt k) (p.S.nd i) && (s.comes H i (p.S.nd i) (p.S.nd i) && (decide (p.S.nd i < p.n ∧ p.S.nd i ≠ p.S.nd i) && takeB (s.newest k (p.S.nd i)) q)))) = false
      rw [decide_eq_false (show ¬ (p.S.nd i < p.n ∧ p.S.nd i ≠ p.S.nd i) from fun y => y.2 rfl)]
      simp
  refine ⟨fun x hx => ?_, fun k => ?_, fun k x hx => ⟨?_, ?_⟩⟩
  · rw [q1 x]
    show (if x = p.S.nd i then (s.nodes x).sent else (s.nodes x).hears x p.n (p.S.nd i) (s.what p.S H i (p.S.nd i) x)) = _
    by_cases e : x = p.S.nd i
    · rw [if_pos e, if_neg (fun y => y.2 e), e]
      show _ = (if p.S.nd i = p.S.nd i then _ else _)
      rw [if_pos rfl]
    · have hsn : (s.sentS p H rd i).nodes x = s.nodes x := if_neg e
      rw [if_neg e, if_pos ⟨hx, e⟩, hsn]
      congr 1
      unfold ClS.what
      rw [hcame x hx]
      by_cases hc : s.comes H i (p.S.nd i) x = true
      · rw [if_pos hc, if_pos hc]
        have hsent : sent = true := by
          unfold ClS.comes at hc
          rw [Bool.and_eq_true] at hc
          rw [hs]; exact hc.1
        rw [hmem hsent, judge_is hw]
        rfl
      · rw [if_neg hc, if_neg hc]
  · rw [q2]; rfl
  · rw [q3 k x]
    show (if s.takes p.S H i (s.goes p.S H rd i).2 k x = true then msgSeq (s.goes p.S H rd i).2 else s.newest k x) = _
    by_cases e : x = p.S.nd i
    · rw [e, hown k, if_neg (by decide), if_neg (fun y => y.1.2.1 rfl)]
      rfl
    · by_cases t : s.takes p.S H i (s.goes p.S H rd i).2 k x = true
      · obtain ⟨a, b⟩ := (htook k x hx e).2 t
        rw [if_pos t, if_pos ⟨⟨hx, e, a⟩, b⟩]
      · rw [if_neg t, if_neg (fun y => t ((htook k x hx e).1 ⟨y.1.2.2, y.2⟩))]
        rfl
  · rw [q4 k x]
    show (if s.takes p.S H i (s.goes p.S H rd i).2 k x = true ∧ (s.ports k x).length < 16 then s.ports k x ++ [msgDat (s.goes p.S H rd i).2] else s.ports k x) = _
    by_cases e : x = p.S.nd i
    · rw [e, if_neg (fun y => by rw [hown k] at y; cases y.1), if_neg (fun y => y.1.2.1 rfl)]
      rfl
    · by_cases t : s.takes p.S H i (s.goes p.S H rd i).2 k x = true ∧ (s.ports k x).length < 16
      · obtain ⟨a, b⟩ := (htook k x hx e).2 t.1
        rw [if_pos t, if_pos ⟨⟨hx, e, a⟩, b, t.2⟩]
        rfl
      · rw [if_neg t, if_neg (fun y => t ⟨(htook k x hx e).1 ⟨y.1.2.2, y.2.1⟩, y.2.2⟩)]
        rfl

/-- sends, whatever comes. -/
theorem csendsA (h : Cl w O C p fa cs s rd B m) (H : HapS) (i : Nat) (mode : Int) (hi : i < p.ns) (hl : H.lies = bitI fa) (hm : H.mode (p.S.nd i) = mode) (hnd : 0 ≤ p.nd i) (hwn : p.S.nd i < p.n) (hnn : p.nodes = p.n) (hn : p.n ≤ 16) (hB0 : 1 ≤ B)
    (hr1 : 1 ≤ p.round) (hr2 : p.round ≤ 137438953472) (hrd : 0 ≤ rd) (hf0 : 0 ≤ p.fr i) (hf1 : p.fr i ≤ 1099511627776) (hnl : p.nl ≤ 8) (hB : B ≤ 9999990) (hlk : ∀ k, k < p.nl → 0 ≤ p.lf k ∧ 0 ≤ p.lb k ∧ p.lb k ≤ 1099511627776) :
    Calls Tryz.prog 19 #[.pointer (some ⟨C, 0, none⟩), .int .i64 i, .int .i64 mode] w fun e w' => ∃ mem sent, e = .returned (.tuple #[frameV (p.S.nd i : Nat) i mem (msgLk (s.goes p.S H rd i).2) (msgSeq (s.goes p.S H rd i).2) (msgDat (s.goes p.S H rd i).2), .bool sent]) ∧ sent = s.sends H (p.S.nd i) ∧ (sent = true → mem = bitsV (s.tells p.S H (p.S.nd i)) p.n) ∧ ∃ O', Foot O O' w w' ∧ Cl w' O' C p fa cs (s.sentS p H rd i) rd B m := by
  have hw : p.nd i = ((p.S.nd i : Nat) : Int) := by show p.nd i = ((p.nd i).toNat : Int); omega
  generalize hwho : p.S.nd i = who at *
  have silent : s.sends H who = false → ∀ e w', (e = .returned (.tuple #[frameV who i 0 (-1) 0 ByteArray.empty, .bool false]) ∧ ∃ O', Foot O O' w w' ∧ Cl w' O' C p fa cs (s.setNode who (s.nodes who).sent) rd B m) → ∃ mem sent, e = Ending.returned (.tuple #[frameV who i mem (msgLk (s.goes p.S H rd i).2) (msgSeq (s.goes p.S H rd i).2) (msgDat (s.goes p.S H rd i).2), .bool sent]) ∧ sent = s.sends H who ∧ (sent = true → mem = bitsV (s.tells p.S H who) p.n) ∧ ∃ O', Foot O O' w w' ∧ Cl w' O' C p fa cs (s.sentS p H rd i) rd B m := by
    rintro hs e w' ⟨he, hc⟩
    have hg : s.goes p.S H rd i = (s.links, none) := by
      unfold ClS.goes
      rw [hwho, if_neg (by rw [hs]; decide)]
    refine ⟨0, false, ?_, hs.symm, (fun y => by cases y), ?_⟩
    · rw [he, hg]; rfl
    · unfold ClS.sentS
      rw [hg, hwho]
      exact hc
  have sending : s.sends H who = true → ∀ e w' (mem : Int), mem = bitsV (s.tells p.S H who) p.n → (e = .returned (.tuple #[frameV who i mem (msgLk (linksTo p.S who (rd * p.round + p.fr i) s.links p.nl).2) (msgSeq (linksTo p.S who (rd * p.round + p.fr i) s.links p.nl).2) (msgDat (linksTo p.S who (rd * p.round + p.fr i) s.links p.nl).2), .bool true]) ∧ ∃ O', Foot O O' w w' ∧ Cl w' O' C p fa cs ⟨(s.setNode who (s.nodes who).sent).nodes, (linksTo p.S who (rd * p.round + p.fr i) s.links p.nl).1, s.newest, s.ports⟩ rd B m) → ∃ mem sent, e = Ending.returned (.tuple #[frameV who i mem (msgLk (s.goes p.S H rd i).2) (msgSeq (s.goes p.S H rd i).2) (msgDat (s.goes p.S H rd i).2), .bool sent]) ∧ sent = s.sends H who ∧ (sent = true → mem = bitsV (s.tells p.S H who) p.n) ∧ ∃ O', Foot O O' w w' ∧ Cl w' O' C p fa cs (s.sentS p H rd i) rd B m := by
    rintro hs e w' mem hmem ⟨he, hc⟩
    have hg : s.goes p.S H rd i = linksTo p.S who (rd * p.round + p.fr i) s.links p.nl := by
      unfold ClS.goes
      rw [hwho, if_pos hs]
      rfl
    refine ⟨mem, true, ?_, hs.symm, fun _ => hmem, ?_⟩
    · rw [he, hg]
    · unfold ClS.sentS
      rw [hg, hwho]
      exact hc
  cases q : sendsB (s.nodes who).g (s.nodes who).b (s.nodes who).fz
  · have hs : s.sends H who = false := by unfold ClS.sends; rw [q]; rfl
    cases hb : bitI fa who
    · exact (csends_no0 h i who mode hi hw hwn hnn hn hB0 q hb).mono (silent hs)
    · exact (csends_no1 h i who mode hi hw hwn hnn hn hB0 q hb).mono (silent hs)
  · cases hb : bitI fa who
    · have hmo : H.modeOf who = 0 := by unfold HapS.modeOf; rw [hl, hb, if_neg (by decide)]
      have hs : s.sends H who = true := by unfold ClS.sends; rw [q, hmo]; rfl
      refine (csends_right0 h i who mode hi hw hwn hnn hn hB0 q hb hr1 hr2 hrd hf0 hf1 hnl hB hlk).mono fun e w' hx => sending hs e w' _ ?_ hx
      refine bitsV_congr fun j _ => ?_
      show _ = if H.modeOf who = 2 ∧ _ then _ else _
      rw [hmo, if_neg (fun y => by cases y.1)]
    · have hmo : H.modeOf who = mode := by unfold HapS.modeOf; rw [hl, hb, if_pos rfl, hm]
      by_cases k1 : mode = 1
      · have hs : s.sends H who = false := by unfold ClS.sends; rw [q, hmo, k1]; rfl
        exact (csends_mute h i who mode hi hw hwn hnn hn hB0 q hb k1).mono (silent hs)
      · have hs : s.sends H who = true := by unfold ClS.sends; rw [q, hmo, decide_eq_true k1]; rfl
        by_cases k2 : mode = 2
        · refine (csends_wrong h i who mode hi hw hwn hnn hn hB0 q hb k2 hr1 hr2 hrd hf0 hf1 hnl hB hlk).mono fun e w' hx => sending hs e w' _ ?_ hx
          refine bitsV_congr fun j _ => ?_
          show _ = if H.modeOf who = 2 ∧ (j = who ∨ j = (who + 1) % p.n) then _ else _
          rw [hmo, k2]
          by_cases e : j = who ∨ j = (who + 1) % p.n
          · rw [if_pos e, if_pos ⟨rfl, e⟩]
          · rw [if_neg e, if_neg (fun y => e y.2)]
        · refine (csends_right1 h i who mode hi hw hwn hnn hn hB0 q hb k1 k2 hr1 hr2 hrd hf0 hf1 hnl hB hlk).mono fun e w' hx => sending hs e w' _ ?_ hx
          refine bitsV_congr fun j _ => ?_
          show _ = if H.modeOf who = 2 ∧ _ then _ else _
          rw [hmo, if_neg (fun y => k2 y.1)]

/-- hear, behind sends: the slot. -/
theorem cslot_any {H : HapS} {i : Nat} {mem l0 l1 : Int} {sent : Bool} (h : Cl w O C p fa cs (s.sentS p H rd i) rd B m) (hm : MsgIn p (s.goes p.S H rd i).2) (hw : p.S.nd i < p.n) (hn : p.n ≤ 16) (hB : B ≤ 9999000) (hs : sent = s.sends H (p.S.nd i)) (hmem : sent = true → mem = bitsV (s.tells p.S H (p.S.nd i)) p.n) (h0 : ∀ j, j < p.n → bitI l0 j = H.lost i 0 j) (h1 : ∀ j, j < p.n → bitI l1 j = H.lost i 1 j) :
    Calls Tryz.prog 21 #[.pointer (some ⟨C, 0, none⟩), frameV (p.S.nd i : Nat) i mem (msgLk (s.goes p.S H rd i).2) (msgSeq (s.goes p.S H rd i).2) (msgDat (s.goes p.S H rd i).2), .bool sent, .agg #[.int .i64 l0, .int .i64 l1]] w fun e w' => e = .returned (.tuple #[]) ∧ ∃ O', Foot O O' w w' ∧ Cl w' O' C p fa cs (s.slot p.S H rd i) rd (B + 5 * p.n) m := by
  refine (chear_any h (p.S.nd i) i mem (s.goes p.S H rd i).2 sent l0 l1 hw hn hm hB).mono ?_
  rintro e w' ⟨he, O', hf, hc⟩
  obtain ⟨e1, e2, e3⟩ := slot_is (p := p) (s := s) (rd := rd) hw hs hmem h0 h1
  exact ⟨he, O', hf, hc.agree e1 (fun k _ => e2 k) (fun k j _ hj _ => e3 k j hj)⟩
end
end Go.Proofs.YtdmokcnoljlogaaGreatDoor
