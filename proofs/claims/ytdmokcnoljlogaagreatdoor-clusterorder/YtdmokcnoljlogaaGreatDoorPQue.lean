/- The program's queuing port: where it lies, and its words NewQueuing, Send, Receive, Many and Lost (8.2). -/
import Derived.Test.YtdmokcnoljlogaaGreatDoorProg
import Derived.Test.YtdmokcnoljlogaaGreatDoorWordsB
import Derived.Test.YtdmokcnoljlogaaGreatDoorWordsA
import Derived.Test.YtdmokcnoljlogaaGreatDoorDelOwn
import Derived.Deep.AppendLies
import Derived.RegionTactic
import Derived.WalkSpells
import Derived.WalkLawsBesides
namespace Go.Proofs.YtdmokcnoljlogaaGreatDoor
open Go.RowKit

theorem Tryz.infoStr8 : (Tryz.prog.info? 9).map (fun i => (i.zero, i.size, i.bytes)) = some (some (.string ByteArray.empty), 1, 16) := by kernel_rfl

/-- The program's queuing port in memory: its struct at P, what is there in a row of its own from block B on. -/
structure PQueue (w : World) (B P : Nat) (most : Int) (all : List ByteArray) (lost : Int) (v : Value) : Prop where
  c0 : w.cell? ⟨P, 0, none⟩ = some (.int .i64 most)
  c1 : w.cell? ⟨P, 1, none⟩ = some v
  c2 : w.cell? ⟨P, 2, none⟩ = some (.int .i64 lost)
  z : ∀ i, w.frozen? ⟨P, i, none⟩ = false
  own : w.ownsRow B 9 1 v all.length (all.map Value.string)
  lp : P < B
  lb : B ≤ w.heap.size
/-- The program's queuing port: its blocks O, its struct at P. -/
def Que (w : World) (O : List Nat) (P : Nat) (most : Int) (all : List ByteArray) (lost : Int) : Prop :=
  ∃ v, PQueue w (P + 1) P most all lost v ∧ O = P :: v.ownBlock.toList
theorem PQueue.keep {w' : World} {w : World} {B P : Nat} {most lost : Int} {all : List ByteArray} {v : Value} (h : PQueue w B P most all lost v) (k : Same (P :: v.ownBlock.toList) w w') : PQueue w' B P most all lost v := by
  have hp : P ∈ P :: v.ownBlock.toList := List.mem_cons.2 (.inl rfl)
  exact ⟨(k.cell (p := ⟨P, 0, none⟩) hp).trans h.c0, (k.cell (p := ⟨P, 1, none⟩) hp).trans h.c1, (k.cell (p := ⟨P, 2, none⟩) hp).trans h.c2, fun i => (k.frozen (p := ⟨P, i, none⟩) hp).trans (h.z i), owns_same h.own k (fun g hg => List.mem_cons.2 (.inr (by simpa using hg))), h.lp, Nat.le_trans h.lb k.1⟩
theorem Que.lt {w : World} {O : List Nat} {P : Nat} {most lost : Int} {all : List ByteArray} (h : Que w O P most all lost) : ∀ c, c ∈ O → c < w.heap.size := by
  obtain ⟨v, h, rfl⟩ := h
  intro c hc
  rcases List.mem_cons.1 hc with y | y
  · have := h.lp; have := h.lb; omega
  · exact (h.own.lt c (by simpa using y)).2
theorem Que.keep {w' : World} {w : World} {O : List Nat} {P : Nat} {most lost : Int} {all : List ByteArray} (h : Que w O P most all lost) (k : Same O w w') : Que w' O P most all lost := by
  obtain ⟨v, h, rfl⟩ := h
  exact ⟨v, h.keep k, rfl⟩

set_option maxHeartbeats 1000000 in
theorem queNew_bad (most : Int) (w : World) (hb : ¬ (1 ≤ most ∧ most ≤ 16)) :
    Calls Tryz.prog 80 #[.int .i64 most] w fun e w' => e = .returned (.tuple #[.pointer none, errV 2]) ∧ Below w.heap.size w w' := by
  by_cases k1 : most < 1
  · clear hb
    go_enter Tryz.func80, Tryz.ntmps80
    go_wp2
    go_ret2
    exact ⟨rfl, Below.refl _ _⟩
  · have k1' : decide (most < 1) = false := decide_eq_false k1
    have k2 : 16 < most := by omega
    clear hb k1
    go_enter Tryz.func80, Tryz.ntmps80
    go_wp2
    go_ret2
    exact ⟨rfl, Below.refl _ _⟩
set_option maxHeartbeats 1000000 in
theorem queNew_good (most : Int) (w : World) (hb : 1 ≤ most ∧ most ≤ 16) :
    Calls Tryz.prog 80 #[.int .i64 most] w fun e w' => ∃ O P, e = .returned (.tuple #[.pointer (some ⟨P, 0, none⟩), .nilIface]) ∧ Que w' O P most [] 0 ∧ Below w.heap.size w w' ∧ ∀ c, c ∈ O → w.heap.size ≤ c := by
  have k1 : decide (most < 1) = false := decide_eq_false (by omega)
  have k2 : decide (16 < most) = false := decide_eq_false (by omega)
  clear hb
  have fin : Que (w.alloc (.cells #[.int .i64 most, .slice none 0 0, .int .i64 0] 130)) [w.heap.size] w.heap.size most [] 0 :=
    ⟨.slice none 0 0, ⟨by simp, by simp, by simp, fun i => by simp, World.ownsRow_nil _ _ _ _, by omega, by simp⟩, rfl⟩
  have HF : Hid _ := fin
  clear fin
  go_enter Tryz.func80, Tryz.ntmps80
  go_wp2
  go_ret2
  exact ⟨_, _, rfl, HF.out, (Below.refl _ _).alloc (Nat.le_refl _) _, fun c hc => by
    simp only [List.mem_cons, List.not_mem_nil, or_false] at hc
    omega⟩

set_option maxRecDepth 100000 in
set_option maxHeartbeats 2000000 in
theorem qsend_full {w : World} {B P : Nat} {most lost : Int} {all : List ByteArray} {v : Value} (h : PQueue w B P most all lost v) (d : ByteArray) (hd : d.size ≤ 40) (hq : most ≤ (all.length : Int)) (hl : 0 ≤ lost ∧ lost ≤ 10000000) :
    Calls Tryz.prog 74 #[.pointer (some ⟨P, 0, none⟩), .string d] w fun e w' => e = .returned (errV 12) ∧ PQueue w' B P most all (lost + 1) v ∧ Turns P P w w' := by
  have HH : Hid (PQueue w B P most all lost v) := h
  have HF : Hid (∀ q : Nat, PQueue ((w.drewN q).setCell ⟨P, 2, none⟩ (.int .i64 (lost + 1))) B P most all (lost + 1) v ∧ Turns P P w ((w.drewN q).setCell ⟨P, 2, none⟩ (.int .i64 (lost + 1)))) := fun q =>
    ⟨⟨(cell_other (.inr (by decide))).trans HH.out.c0, (cell_other (.inr (by decide))).trans HH.out.c1, cell_set HH.out.c2, fun i => soft_set.trans (HH.out.z i), owns_put HH.out.own HH.out.lp, HH.out.lp, by have := HH.out.lb; simp; omega⟩, (Turns.drawn q).set (p := ⟨P, 2, none⟩) (.inl rfl) _⟩
  obtain ⟨c0, c1, c2, z, own, lp, lb⟩ := h
  obtain ⟨a, cap, rfl⟩ := owns_form own
  have hd2 : decide (40 < (d.size : Int)) = false := decide_eq_false (by omega)
  have hlp : P < w.heap.size := by omega
  have z2 := z 2
  clear own z HH
  obtain ⟨n, hn⟩ : ∃ n, all.length = n := ⟨_, rfl⟩
  rw [hn] at c1 hq HF ⊢
  clear hn
  go_enter Tryz.func74, Tryz.ntmps74
  go_wp2_with fail
  go_quiet (fail)
  go_wp2
  go_ret
  exact ⟨rfl, HF.out _⟩

set_option maxRecDepth 100000 in
set_option maxHeartbeats 2000000 in
theorem qsend_ok {w : World} {B P : Nat} {most lost : Int} {all : List ByteArray} {v : Value} (h : PQueue w B P most all lost v) (d : ByteArray) (hd : d.size ≤ 40) (hq : (all.length : Int) < most) (ha : all.length ≤ 10000000) :
    Calls Tryz.prog 74 #[.pointer (some ⟨P, 0, none⟩), .string d] w fun e w' => e = .returned (errV 0) ∧ ∃ v', PQueue w' B P most (all ++ [d]) lost v' ∧ Turns P (v.ownBlock.getD P) w w' ∧ (v'.ownBlock = v.ownBlock ∨ ∃ g, w.heap.size ≤ g ∧ v'.ownBlock = some g) := by
  obtain ⟨c0, c1, c2, z, own, lp, lb⟩ := h
  obtain ⟨i0, hi, hz0, hz1, hz2⟩ := info_parts Tryz.infoStr8
  obtain ⟨a, cap, rfl⟩ := owns_form own
  have hd2 : decide (40 < (d.size : Int)) = false := decide_eq_false (by omega)
  have hq2 : decide (most ≤ (all.length : Int)) = false := decide_eq_false (by omega)
  have z1 := z 1
  have HZ : Hid (∀ i, w.frozen? ⟨P, i, none⟩ = false) := z
  have hlp : P < w.heap.size := by omega
  obtain ⟨n, hn⟩ : ∃ n, all.length = n := ⟨_, rfl⟩
  have HN : Hid (all.length = n) := hn
  rw [hn] at own hq2 c1 ha
  have HOwn : Hid (w.ownsRow B 9 1 (.slice a n cap) n (all.map Value.string)) := own
  rw [hn]
  clear own hq z hn
  go_enter Tryz.func74, Tryz.ntmps74
  go_wp2_with fail
  go_quiet (fail)
  have hOq : (w.drewN nq).ownsRow B 9 1 (.slice a n cap) n (all.map Value.string) := HOwn.out
  go_wp2_with (at_builtin; refine wpList_append_own_at _ rfl _ _ 126 rfl B 9 i0 (.string ByteArray.empty) 1 16 Tryz.underlying126 hi hz0 hz1 hz2 rfl (by decide) (.slice a n cap) n _ rfl (hOq.alloc _) ⟨w.heap.size, 0, none⟩ 1 1 [.string d] rfl rfl (cell_one_new _ _ _) (by simp [Value.oneCell']) (by unfold maxLen; omega) (by omega) (by simp; omega) ?_; apply Hid.out)
  unfold Hid
  intro v' w3 hown' hgrow _ hat
  have hrow : ∀ g, (Value.slice a n cap).ownBlock = some g → B ≤ g ∧ g < w.heap.size := fun g hg => HOwn.out.lt g hg
  have hD : ∀ C, Below C w (w.drewN nq) := fun _ => ⟨rfl, rfl, rfl, Nat.le_refl _, fun _ _ => rfl⟩
  have hB3 : Below B w w3 := (((hD B).alloc lb _).grown hgrow (by simp; omega) (fun g hg => (hrow g hg).1))
  have HT3 : Hid (Turns P ((Value.slice a n cap).ownBlock.getD P) w w3) := by
    have hA : Below w.heap.size w ((w.drewN nq).alloc (.cells #[.string d] 9)) := (hD w.heap.size).alloc (Nat.le_refl _) _
    refine ⟨hB3.os, hB3.tape, hB3.output, hB3.size, fun c hc h1 h2 => ?_⟩
    refine (hgrow.block c (by have := hA.size; omega) (fun e => ?_)).trans (hA.block c hc)
    rw [← e] at h2
    exact h2 rfl
  have HAt : Hid (v'.ownBlock = (Value.slice a n cap).ownBlock ∨ ∃ g, w.heap.size ≤ g ∧ v'.ownBlock = some g) := by
    rcases hat with y | y
    · exact .inl y
    · exact .inr ⟨_, by omega, y⟩
  obtain ⟨a3, cap3, rfl⟩ := owns_form hown'
  have HO3 : Hid (w3.ownsRow B 9 1 (.slice a3 (n + 1) cap3) (n + 1) (all.map Value.string ++ [.string d])) := hown'
  have cc : ∀ i, w3.cell? ⟨P, i, none⟩ = w.cell? ⟨P, i, none⟩ := fun i => hB3.cell (p := ⟨P, i, none⟩) lp
  have HZ3 : Hid (∀ i, w3.frozen? ⟨P, i, none⟩ = false) := fun i => (hB3.frozen (p := ⟨P, i, none⟩) lp).trans (HZ.out i)
  have y1 := (cc 1).trans c1
  have zz1 := HZ3.out 1
  have hs3 := hB3.size
  have hl3 : P < w3.heap.size := by omega
  have fin : PQueue (w3.setCell ⟨P, 1, none⟩ (.slice a3 (n + 1) cap3)) B P most (all ++ [d]) lost (.slice a3 (n + 1) cap3) :=
    ⟨(cell_other (.inr (by decide))).trans ((cc 0).trans c0), cell_set y1, (cell_other (.inr (by decide))).trans ((cc 2).trans c2), fun i => soft_set.trans (HZ3.out i), by
      have e0 := HN.out
      have e1 : (all ++ [d]).length = n + 1 := by simp; omega
      rw [e1, List.map_append]
      exact owns_put HO3.out lp, lp, by simp; omega⟩
  have HFin : Hid _ := fin
  have HTT : Hid _ := HT3.out.set (p := ⟨P, 1, none⟩) (.inl rfl) (.slice a3 (n + 1) cap3)
  clear fin cc hown' hgrow hat hB3 hrow hOq c0 c1 c2
  go_wp2
  go_ret
  exact ⟨rfl, _, HFin.out, HTT.out, HAt.out⟩

set_option maxHeartbeats 1000000 in
theorem qsend_limit (P : Nat) (w : World) (d : ByteArray) (hd : 40 < d.size) :
    Calls Tryz.prog 74 #[.pointer (some ⟨P, 0, none⟩), .string d] w fun e w' => e = .returned (errV 4) ∧ w' = w := by
  have k : (40 : Int) < (d.size : Int) := by omega
  go_enter Tryz.func74, Tryz.ntmps74
  go_wp2
  go_ret
  exact ⟨rfl, rfl⟩

theorem queSend {w : World} {O : List Nat} {P : Nat} {most lost : Int} {all : List ByteArray} (h : Que w O P most all lost) (d : ByteArray) (ha : all.length ≤ 10000000) (hl : 0 ≤ lost ∧ lost ≤ 10000000) :
    Calls Tryz.prog 74 #[.pointer (some ⟨P, 0, none⟩), .string d] w fun e w' => e = .returned (errV (putK all.length most d)) ∧ ∃ O', Que w' O' P most (putAll (putK all.length most d) all d) (lostK (putK all.length most d) lost) ∧ Foot O O' w w' := by
  obtain ⟨v, h, rfl⟩ := h
  have hP : P ∈ P :: v.ownBlock.toList := List.mem_cons.2 (.inl rfl)
  unfold putAll lostK putK
  by_cases h1 : 40 < d.size
  · simp only [if_pos h1]
    refine (qsend_limit P w d h1).mono ?_
    rintro e w' ⟨rfl, rfl⟩
    exact ⟨rfl, _, ⟨v, h, rfl⟩, Foot.refl _ _⟩
  · simp only [if_neg h1]
    by_cases h2 : most ≤ (all.length : Int)
    · simp only [if_pos h2]
      refine (qsend_full h d (by omega) h2 hl).mono ?_
      rintro e w' ⟨rfl, h', ht⟩
      exact ⟨rfl, _, ⟨v, h', rfl⟩, Foot.of_turns ht hP hP⟩
    · simp only [if_neg h2]
      refine (qsend_ok h d (by omega) (by omega) ha).mono ?_
      rintro e w' ⟨rfl, v', h', ht, hat⟩
      refine ⟨rfl, _, ⟨v', h', rfl⟩, ?_⟩
      refine ⟨ht.os, ht.tape, ht.output, ht.size, fun c hc hn => ?_, fun c hc => ?_⟩
      · have hP : c ≠ P := fun y => hn (List.mem_cons.2 (.inl y))
        refine ht.block c hc hP ?_
        cases e : v.ownBlock with
        | none => exact hP
        | some g =>
          intro y
          refine hn (List.mem_cons.2 (.inr ?_))
          rw [e, y]
          exact List.mem_singleton.2 rfl
      · rcases List.mem_cons.1 hc with y | y
        · exact .inl (List.mem_cons.2 (.inl y))
        · rcases hat with z | ⟨g, hg, z⟩
          · rw [z] at y; exact .inl (List.mem_cons.2 (.inr y))
          · rw [z] at y
            have : c = g := by simpa using y
            exact .inr (by omega)

set_option maxRecDepth 100000 in
set_option maxHeartbeats 2000000 in
theorem recv_none {w : World} {B P : Nat} {most lost : Int} {v : Value} (h : PQueue w B P most [] lost v) :
    Calls Tryz.prog 28 #[.pointer (some ⟨P, 0, none⟩)] w fun e w' => e = .returned (.tuple #[.string ByteArray.empty, errV 8]) ∧ w' = w := by
  obtain ⟨c0, c1, c2, z, own, lp, lb⟩ := h
  obtain ⟨a, cap, rfl⟩ := owns_form own
  have hlp : P < w.heap.size := by omega
  have c1' : w.cell? ⟨P, 1, none⟩ = some (.slice a 0 cap) := c1
  clear own z c1
  go_enter Tryz.func28, Tryz.ntmps28
  go_wp2
  go_ret2
  exact ⟨rfl, rfl⟩

set_option maxRecDepth 100000 in
set_option maxHeartbeats 2000000 in
theorem recv_ok {x : ByteArray} {w : World} {B P : Nat} {most lost : Int} {all : List ByteArray} {v : Value} (h : PQueue w B P most (x :: all) lost v) (ha : all.length ≤ 10000000) :
    Calls Tryz.prog 28 #[.pointer (some ⟨P, 0, none⟩)] w fun e w' => e = .returned (.tuple #[.string x, errV 0]) ∧ ∃ v', PQueue w' B P most all lost v' ∧ Turns P (v.ownBlock.getD P) w w' ∧ v'.ownBlock = v.ownBlock := by
  obtain ⟨c0, c1, c2, z, own, lp, lb⟩ := h
  obtain ⟨g, cap, rfl, hg, hgl⟩ := own.form (by simp)
  have g0 : w.cell? ⟨g, 0, none⟩ = some (.string x) := by
    have := own.cells (g := g) rfl 0 (.string x) rfl
    simpa [Addr.add] using this
  have hD := del_own (xs := x :: all) own (by simp)
  have HO : Hid _ := hD
  have hgP : g ≠ P := by omega
  have hlp : P < w.heap.size := by omega
  have hcl : (x :: all).length = all.length + 1 := rfl
  have n1 := ha
  rw [hcl] at c1 hD HO own
  have HZ : Hid (∀ i, w.frozen? ⟨P, i, none⟩ = false) := z
  obtain ⟨n, hn⟩ : ∃ n, all.length = n := ⟨_, rfl⟩
  have HN : Hid (all.length = n) := hn
  rw [hn] at c1 hD n1
  rw [hcl, hn]
  clear own z hn HO ha hcl
  go_enter Tryz.func28, Tryz.ntmps28
  go_wp2_with fail
  refine hD.mono ?_
  rintro e W ⟨rfl, hOW, hT⟩
  have wc : ∀ i, W.cell? ⟨P, i, none⟩ = w.cell? ⟨P, i, none⟩ := fun i => hT.cell (p := ⟨P, i, none⟩) hlp (Ne.symm hgP) (Ne.symm hgP)
  have w0 := (wc 0).trans c0
  have w1 := (wc 1).trans c1
  have w2 := (wc 2).trans c2
  have wz : ∀ i, W.frozen? ⟨P, i, none⟩ = false := fun i => (hT.frozen (p := ⟨P, i, none⟩) hlp (Ne.symm hgP) (Ne.symm hgP)).trans (HZ.out i)
  have z1 := wz 1
  have lW : P < W.heap.size := Nat.lt_of_lt_of_le hlp hT.size
  have fin : PQueue (W.setCell ⟨P, 1, none⟩ (.slice (some ⟨g, 0, none⟩) n cap)) B P most all lost (.slice (some ⟨g, 0, none⟩) n cap) :=
    ⟨(cell_other (.inr (by decide))).trans w0, cell_set w1, (cell_other (.inr (by decide))).trans w2, fun i => soft_set.trans (wz i), by
      rw [HN.out]
      exact owns_put hOW lp, lp, by have := hT.size; simp; omega⟩
  have HFin : Hid _ := fin
  have HTT : Hid (Turns P g w (W.setCell ⟨P, 1, none⟩ (.slice (some ⟨g, 0, none⟩) n cap))) := Turns.set (Turns.trans (Turns.refl P g w) ⟨hT.os, hT.tape, hT.output, hT.size, fun c hc _ h2 => hT.block c hc h2 h2⟩) (p := ⟨P, 1, none⟩) (.inl rfl) _
  clear fin wc wz hOW hT hD
  go_wp2
  go_ret2
  exact ⟨rfl, _, HFin.out, HTT.out, rfl⟩

theorem queReceive {w : World} {O : List Nat} {P : Nat} {most lost : Int} {all : List ByteArray} (h : Que w O P most all lost) (ha : all.length ≤ 10000000) :
    Calls Tryz.prog 28 #[.pointer (some ⟨P, 0, none⟩)] w fun e w' => e = .returned (.tuple #[.string (recvD all), errV (recvK all)]) ∧ ∃ O', Que w' O' P most all.tail lost ∧ Foot O O' w w' := by
  obtain ⟨v, h, rfl⟩ := h
  have hP : P ∈ P :: v.ownBlock.toList := List.mem_cons.2 (.inl rfl)
  cases all with
  | nil =>
    refine (recv_none h).mono ?_
    rintro e w' ⟨rfl, rfl⟩
    exact ⟨rfl, _, ⟨v, h, rfl⟩, Foot.refl _ _⟩
  | cons x all =>
    refine (recv_ok h (by simp at ha; omega)).mono ?_
    rintro e w' ⟨rfl, v', h', ht, hat⟩
    refine ⟨rfl, _, ⟨v', h', rfl⟩, ?_⟩
    rw [hat]
    refine Foot.of_turns ht hP ?_
    cases e : v.ownBlock with
    | none => exact List.mem_cons.2 (.inl rfl)
    | some g => exact List.mem_cons.2 (.inr (List.mem_singleton.2 rfl))
end Go.Proofs.YtdmokcnoljlogaaGreatDoor
