/- The program's cluster: take, a message that comes to a node (10.3). -/
import Derived.Test.YtdmokcnoljlogaaGreatDoorPCluP
namespace Go.Proofs.YtdmokcnoljlogaaGreatDoor
open Go.RowKit

/-- A frame as it goes about. -/
def frameV (nd i mem : Int) (lk q : Int) (d : ByteArray) : Value := .agg #[.int .i64 nd, .int .i64 i, .int .i64 mem, .int .i64 lk, .int .i64 q, .string d]

/-- What a message that comes does. -/
def ClS.take1 (s : ClS) (k j : Nat) (q : Int) (d : ByteArray) : ClS := if takeB (s.newest k j) q = true then (s.setNew k j q).setPort k j (if (s.ports k j).length < 16 then s.ports k j ++ [d] else s.ports k j) else s

section
variable {w : World} {O : List Nat} {C : Nat} {p : PlanN} {fa : Int} {cs : List Int} {s : ClS} {rd : Int} {B : Nat} {m : CMap}

set_option maxHeartbeats 1000000 in
theorem ctake_none (C : Nat) (nd i mem q : Int) (d : ByteArray) (j : Int) (w : World) :
    Calls Tryz.prog 46 #[.pointer (some ⟨C, 0, none⟩), frameV nd i mem (-1) q d, .int .i64 j] w fun e w' => e = .returned (.tuple #[]) ∧ Below w.heap.size w w' := by
  unfold frameV
  go_enter Tryz.func46, Tryz.ntmps46
  go_wp2
  exact bodyPost_ret (v := .tuple #[]) (by simp [results, Tryz.results46, go_sem]) rfl ⟨rfl, (Below.refl _ _).alloc (Nat.le_refl _) _⟩

theorem box6 (w : World) (a b c d e : Value) (f : Value) (t : TypeId) : (∀ (i : Nat) (v : Value), (#[a, b, c, d, e, f] : Array Value)[i]? = some v → (w.alloc (.cells #[a, b, c, d, e, f] t)).cell? ⟨w.heap.size, i, none⟩ = some v) ∧ Below w.heap.size w (w.alloc (.cells #[a, b, c, d, e, f] t)) ∧ w.heap.size < (w.alloc (.cells #[a, b, c, d, e, f] t)).heap.size := by
  refine ⟨fun i v hi => ?_, (Below.refl _ _).alloc (Nat.le_refl _) _, by simp⟩
  simp
  simpa using hi

set_option maxRecDepth 100000 in
set_option maxHeartbeats 1000000 in
theorem ctake_not (h : Cl w O C p fa cs s rd B m) (nd i mem q : Int) (d : ByteArray) (j k : Nat) (hj : j < p.n) (hk : k < p.nl) (hb : bitI (p.lt k) j = false) :
    Calls Tryz.prog 46 #[.pointer (some ⟨C, 0, none⟩), frameV nd i mem k q d, .int .i64 j] w fun e w' => e = .returned (.tuple #[]) ∧ Below w.heap.size w w' := by
  unfold frameV
  obtain ⟨la1, la2⟩ := h.base.la (by omega)
  obtain ⟨hbx, hV, hF⟩ := box6 w (.int .i64 nd) (.int .i64 i) (.int .i64 mem) (.int .i64 k) (.int .i64 q) (.string d) 72
  have h2 := h.below hV
  have f3 : (w.alloc (.cells #[.int .i64 nd, .int .i64 i, .int .i64 mem, .int .i64 k, .int .i64 q, .string d] 72)).cell? ⟨w.heap.size, 3, none⟩ = some (.int .i64 k) := hbx 3 _ rfl
  have HV : Hid (Below w.heap.size w (w.alloc (.cells #[.int .i64 nd, .int .i64 i, .int .i64 mem, .int .i64 k, .int .i64 q, .string d] 72))) := hV
  obtain ⟨l0, l1, l2⟩ := h2.base.lk k hk
  obtain ⟨e1, e2⟩ := h2.base.en k hk
  have e3 := e2 j hj
  rw [hb, if_neg (by decide)] at e3
  have c14 := h2.base.c14
  rw [la1] at c14
  have hll := h2.base.lx _ la2
  have hel := h2.base.lx _ e1
  have hlC := h2.base.lc
  have kk : (k : Int) < (p.nl : Int) := by omega
  have jj : (j : Int) < (p.n : Int) := by omega
  have k1 : ((k : Int) == -1) = false := by simp
  obtain ⟨n, hn⟩ : ∃ n, p.n = n := ⟨_, rfl⟩
  rw [hn] at l2 jj
  clear h h2 la1 la2 e2 hb hbx hV hj hn
  go_enter Tryz.func46, Tryz.ntmps46
  go_wp2_with fail
  generalize w.alloc (.cells #[.int .i64 nd, .int .i64 i, .int .i64 mem, .int .i64 k, .int .i64 q, .string d] 72) = V at *
  go_quiet (fail)
  go_wp2_with fail
  go_quiet (fail)
  go_wp2
  exact bodyPost_end (v := .tuple #[]) (by simp [results, Tryz.results46, go_sem]) rfl ⟨rfl, ⟨HV.out.os, HV.out.tape, HV.out.output, HV.out.size, HV.out.block⟩⟩

theorem tk_in9 {nw x : Int} (h : nw ≤ 255) : tkNew (takeB nw x) x nw ≤ 255 := by
  unfold tkNew
  split
  · next q => exact (takeB_in q).2
  · exact h
theorem put16 (l : List ByteArray) (d : ByteArray) (hd : d.size ≤ 40) : putAll (putK l.length 16 d) l d = if l.length < 16 then l ++ [d] else l := by
  by_cases q : l.length < 16
  · have e : putK l.length 16 d = 0 := by
      unfold putK
      rw [if_neg (show ¬ 40 < d.size by omega), if_neg (show ¬ (16 : Int) ≤ (l.length : Int) by omega)]
    rw [e, if_pos q]
    rfl
  · have e : putK l.length 16 d = 12 := by
      unfold putK
      rw [if_neg (show ¬ 40 < d.size by omega), if_pos (show (16 : Int) ≤ (l.length : Int) by omega)]
    rw [e, if_neg q]
    rfl
theorem Foot.box {O O' : List Nat} {V v : World} {b : Nat} (k : Foot O O' V v) (hb : b < V.heap.size) (hO : ∀ c, c ∈ O → c < b) (i : Nat) : v.cell? ⟨b, i, none⟩ = V.cell? ⟨b, i, none⟩ := k.cell (p := ⟨b, i, none⟩) hb (fun y => Nat.lt_irrefl _ (hO b y))

set_option maxRecDepth 100000 in
set_option maxHeartbeats 2000000 in
theorem ctake_end (h : Cl w O C p fa cs s rd B m) (nd i mem q : Int) (d : ByteArray) (j k : Nat) (hj : j < p.n) (hk : k < p.nl) (hb : bitI (p.lt k) j = true) (hd : d.size ≤ 40) (hB : B ≤ 9999990) :
    Calls Tryz.prog 46 #[.pointer (some ⟨C, 0, none⟩), frameV nd i mem k q d, .int .i64 j] w fun e w' => e = .returned (.tuple #[]) ∧ ∃ O', Foot O O' w w' ∧ Cl w' O' C p fa cs (s.take1 k j q d) rd (B + 2) m := by
  unfold frameV
  obtain ⟨la1, la2⟩ := h.base.la (by omega)
  obtain ⟨hbx, hV, hF⟩ := box6 w (.int .i64 nd) (.int .i64 i) (.int .i64 mem) (.int .i64 k) (.int .i64 q) (.string d) 72
  have h2 := h.below hV
  have f3 : (w.alloc (.cells #[.int .i64 nd, .int .i64 i, .int .i64 mem, .int .i64 k, .int .i64 q, .string d] 72)).cell? ⟨w.heap.size, 3, none⟩ = some (.int .i64 k) := hbx 3 _ rfl
  have f4 : (w.alloc (.cells #[.int .i64 nd, .int .i64 i, .int .i64 mem, .int .i64 k, .int .i64 q, .string d] 72)).cell? ⟨w.heap.size, 4, none⟩ = some (.int .i64 q) := hbx 4 _ rfl
  have f5 : (w.alloc (.cells #[.int .i64 nd, .int .i64 i, .int .i64 mem, .int .i64 k, .int .i64 q, .string d] 72)).cell? ⟨w.heap.size, 5, none⟩ = some (.string d) := hbx 5 _ rfl
  have HV : Hid (Below w.heap.size w (w.alloc (.cells #[.int .i64 nd, .int .i64 i, .int .i64 mem, .int .i64 k, .int .i64 q, .string d] 72))) := hV
  have HL : Hid (∀ c, c ∈ O → c < w.heap.size) := h.lt
  obtain ⟨l0, l1, l2⟩ := h2.base.lk k hk
  obtain ⟨e1, e2⟩ := h2.base.en k hk
  have e3 := e2 j hj
  rw [hb, if_pos rfl] at e3
  have c14 := h2.base.c14
  rw [la1] at c14
  have hll := h2.base.lx _ la2
  have hel := h2.base.lx _ e1
  have hlC := h2.base.lc
  obtain ⟨d1, d2, d3⟩ := h2.base.dn k j hk hj hb
  have hdl := h2.base.lx _ d1
  have kk : (k : Int) < (p.nl : Int) := by omega
  have jj : (j : Int) < (p.n : Int) := by omega
  have k1 : ((k : Int) == -1) = false := by simp
  obtain ⟨n, hn⟩ : ∃ n, p.n = n := ⟨_, rfl⟩
  have HN : Hid (j < p.n ∧ k < p.nl ∧ bitI (p.lt k) j = true) := ⟨hj, hk, hb⟩
  rw [hn] at l2 jj
  have HC2 : Hid (Cl (w.alloc (.cells #[.int .i64 nd, .int .i64 i, .int .i64 mem, .int .i64 k, .int .i64 q, .string d] 72)) O C p fa cs s rd B m) := h2
  clear h h2 la1 la2 e2 hb hbx hV hj hn
  go_enter Tryz.func46, Tryz.ntmps46
  go_wp2_with fail
  generalize w.alloc (.cells #[.int .i64 nd, .int .i64 i, .int .i64 mem, .int .i64 k, .int .i64 q, .string d] 72) = V at *
  go_quiet (fail)
  clear c14 l0 l1 l2 e3
  have HTk : Hid (∀ (u : Nat) , Calls Tryz.prog 73 #[.pointer (some ⟨m.R k j, 0, none⟩), .agg #[.int .i64 q, .string d]] (V.drewN u) fun e w' => e = .returned (.bool (takeB (s.newest k j) q)) ∧ ∃ O', Foot O O' V w' ∧ Cl w' O' C p fa cs (s.setNew k j (tkNew (takeB (s.newest k j) q) q (s.newest k j))) rd (B + 1) m) := by
    intro u
    obtain ⟨hj, hk, hb⟩ := HN.out
    have hcd : Cl (V.drewN u) O C p fa cs s rd B m := HC2.out.below ⟨rfl, rfl, rfl, Nat.le_refl _, fun _ _ => rfl⟩
    obtain ⟨OR, a, b, r1, ⟨⟨r2, r3⟩, r4, r5⟩, r6, r7⟩ := hcd.rcv hk hj hb
    refine (rcvTake r1 q d r6 r2 (by omega) r4 (by omega)).mono ?_
    rintro e w' ⟨he, OR', t1, t2⟩
    refine ⟨he, ?_⟩
    obtain ⟨O', y1, y2⟩ := r7 w' OR' (B + 1) _ _ _ t1 t2 (by unfold tkTold tkNot; split <;> omega) (tk_in9 r6) (Nat.le_succ _)
    exact ⟨O', (Foot.drawn O V u).trans y1, y2⟩
  have HSt : Hid (takeB (s.newest k j) q = true → s.take1 k j q d = (s.setNew k j q).setPort k j (if (s.ports k j).length < 16 then s.ports k j ++ [d] else s.ports k j)) := fun hT => if_pos hT
  have HSf : Hid (takeB (s.newest k j) q = false → s.take1 k j q d = s) := fun hT => if_neg (by rw [hT]; decide)
  cases hT : takeB (s.newest k j) q
  · rw [hT] at HTk
    have HSF : Hid (s.take1 k j q d = s) := HSf.out hT
    clear HSt HSf hT
    go_wp2_with fail
    go_region_held3 (fun u => u.cell? ⟨w.heap.size, 4, none⟩ = some (.int .i64 q) ∧ u.cell? ⟨w.heap.size, 5, none⟩ = some (.string d) ∧ u.cell? ⟨m.D k j, 0, none⟩ = some (.pointer (some ⟨m.R k j, 0, none⟩))) (go_keep) (first
      | (go_at_call 73; refine (HTk.out _).mono ?_; rintro ev v1 ⟨rfl, O1, hf1, hc1⟩; have HC3 : Hid (Cl v1 O1 C p fa cs (s.setNew k j (tkNew false q (s.newest k j))) rd (B + 1) m) := hc1; have HF1 : Hid (Foot O O1 V v1) := hf1; have g4 := (hf1.box hF HL.out 4).trans f4; have g5 := (hf1.box hF HL.out 5).trans f5; have g0 := (hc1.base.dn k j HN.out.2.1 HN.out.1 HN.out.2.2).2.1))
    have HD : Hid (∃ O', Foot O O' w v1 ∧ Cl v1 O' C p fa cs (s.take1 k j q d) rd (B + 2) m) := by
      refine ⟨O1, (Foot.of_below HV.out).trans HF1.out, ?_⟩
      rw [HSF.out]
      refine (HC3.out.more (Nat.le_succ _)).agree (fun _ _ => rfl) (fun _ _ => rfl) (fun k' j' _ _ _ => ⟨?_, rfl⟩)
      show s.newest k' j' = if k' = k ∧ j' = j then tkNew false q (s.newest k j) else s.newest k' j'
      split
      · next e => obtain ⟨rfl, rfl⟩ := e; rfl
      · rfl
    clear HC3 HF1 hf1 hc1 g0 g4 g5
    go_wp2
    exact bodyPost_end (v := .tuple #[]) (by simp [results, Tryz.results46, go_sem]) rfl ⟨rfl, HD.out⟩
  · rw [hT] at HTk
    have HST : Hid (s.take1 k j q d = (s.setNew k j q).setPort k j (if (s.ports k j).length < 16 then s.ports k j ++ [d] else s.ports k j)) := HSt.out hT
    clear HSt HSf hT
    go_wp2_with fail
    go_region_held3 (fun u => u.cell? ⟨w.heap.size, 4, none⟩ = some (.int .i64 q) ∧ u.cell? ⟨w.heap.size, 5, none⟩ = some (.string d) ∧ u.cell? ⟨m.D k j, 0, none⟩ = some (.pointer (some ⟨m.R k j, 0, none⟩))) (go_keep) (first
      | (go_at_call 73; refine (HTk.out _).mono ?_; rintro ev v1 ⟨rfl, O1, hf1, hc1⟩; have HC3 : Hid (Cl v1 O1 C p fa cs (s.setNew k j (tkNew true q (s.newest k j))) rd (B + 1) m) := hc1; have HF1 : Hid (Foot O O1 V v1) := hf1; have g4 := (hf1.box hF HL.out 4).trans f4; have g5 := (hf1.box hF HL.out 5).trans f5; have g0 := (hc1.base.dn k j HN.out.2.1 HN.out.1 HN.out.2.2).2.1))
    have HN1 : Hid (w.heap.size ∉ O1) := fun y => by
      rcases HF1.out.fresh _ y with z | z
      · exact Nat.lt_irrefl _ (HL.out _ z)
      · omega
    have HQ : Hid (∀ (u : Nat), Calls Tryz.prog 74 #[.pointer (some ⟨m.Q k j, 0, none⟩), .string d] (v1.drewN u) fun e w' => (∃ E, e = .returned E) ∧ ∃ O', Foot O1 O' v1 w' ∧ Cl w' O' C p fa cs (s.take1 k j q d) rd (B + 2) m) := by
      intro u
      obtain ⟨hj, hk, hb⟩ := HN.out
      have hcd : Cl (v1.drewN u) O1 C p fa cs (s.setNew k j (tkNew true q (s.newest k j))) rd (B + 1) m := HC3.out.below ⟨rfl, rfl, rfl, Nat.le_refl _, fun _ _ => rfl⟩
      obtain ⟨OQ, lost, r1, ⟨r2, r3⟩, r4, r5⟩ := hcd.que hk hj hb
      refine (queSend r1 d (by omega) (by omega)).mono ?_
      rintro e w' ⟨he, OQ', t1, t2⟩
      refine ⟨⟨_, he⟩, ?_⟩
      have r4' : (s.ports k j).length ≤ 16 := r4
      have e1 := put16 (s.ports k j) d hd
      obtain ⟨O', y1, y2⟩ := r5 w' OQ' (B + 2) _ _ t1 t2 (by unfold lostK; split <;> omega) (by
        show (putAll (putK (s.ports k j).length 16 d) (s.ports k j) d).length ≤ 16
        rw [e1]
        split
        · simp only [List.length_append, List.length_cons, List.length_nil]; omega
        · omega) (Nat.le_succ _)
      refine ⟨O', (Foot.drawn O1 v1 u).trans y1, ?_⟩
      rw [HST.out, ← e1]
      exact y2
    have g1 := (HC3.out.base.dn k j HN.out.2.1 HN.out.1 HN.out.2.2).2.2
    have hdl1 := HC3.out.base.lx _ d1
    have hfl1 : w.heap.size < v1.heap.size := Nat.lt_of_lt_of_le hF HF1.out.size
    have HF0 : Hid (Foot O O1 w v1) := (Foot.of_below HV.out).trans HF1.out
    clear HC3 HF1 hf1 hc1 g0 g4 HTk
    go_wp2_with fail
    go_region_held3 (fun u => u.cell? ⟨w.heap.size, 5, none⟩ = some (.string d) ∧ u.cell? ⟨m.D k j, 1, none⟩ = some (.pointer (some ⟨m.Q k j, 0, none⟩))) (go_keep) (first
      | (go_at_call 74; refine (HQ.out _).mono ?_; rintro ev v2 ⟨⟨E, rfl⟩, O2, hf2, hc2⟩; have HD : Hid (∃ O', Foot O O' w v2 ∧ Cl v2 O' C p fa cs (s.take1 k j q d) rd (B + 2) m) := ⟨O2, HF0.out.trans hf2, hc2⟩; have y5 := (hf2.cell (p := ⟨w.heap.size, 5, none⟩) hfl1 HN1.out).trans g5; have y1 := (hc2.base.dn k j HN.out.2.1 HN.out.1 HN.out.2.2).2.2))
    go_wp2
    exact bodyPost_end (v := .tuple #[]) (by simp [results, Tryz.results46, go_sem]) rfl ⟨rfl, HD.out⟩

/-- take, whatever comes. -/
theorem ctake_any (h : Cl w O C p fa cs s rd B m) (nd i mem q : Int) (d : ByteArray) (j k : Nat) (hj : j < p.n) (hk : k < p.nl) (hd : d.size ≤ 40) (hB : B ≤ 9999990) :
    Calls Tryz.prog 46 #[.pointer (some ⟨C, 0, none⟩), frameV nd i mem k q d, .int .i64 j] w fun e w' => e = .returned (.tuple #[]) ∧ ∃ O', Foot O O' w w' ∧ Cl w' O' C p fa cs (if bitI (p.lt k) j = true then s.take1 k j q d else s) rd (B + 2) m := by
  cases hb : bitI (p.lt k) j
  · refine (ctake_not h nd i mem q d j k hj hk hb).mono ?_
    rintro e w' ⟨he, hw⟩
    exact ⟨he, O, Foot.of_below hw, (h.below hw).more (by omega)⟩
  · exact ctake_end h nd i mem q d j k hj hk hb hd hB
end
end Go.Proofs.YtdmokcnoljlogaaGreatDoor
