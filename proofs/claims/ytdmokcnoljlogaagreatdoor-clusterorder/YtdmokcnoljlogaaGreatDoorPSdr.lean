/- The program's sender: where it lies, and its words NewSender and Put (7.1). -/
import Derived.Test.YtdmokcnoljlogaaGreatDoorProg
import Derived.Test.YtdmokcnoljlogaaGreatDoorWordsB
import Derived.Test.YtdmokcnoljlogaaGreatDoorWordsA
import Derived.Deep.AppendLies
import Derived.RegionTactic
import Derived.WalkSpells
import Derived.WalkLawsBesides
namespace Go.Proofs.YtdmokcnoljlogaaGreatDoor
open Go.RowKit

theorem Tryz.infoStr7 : (Tryz.prog.info? 9).map (fun i => (i.zero, i.size, i.bytes)) = some (some (.string ByteArray.empty), 1, 16) := by kernel_rfl

/-- The first time at which one may go again. -/
def freeV (went : Nat) (last bag : Int) : Int := if went = 0 then 0 else last + bag

/-- The program's sender in memory: its struct at P, what waits in a row of its own from block B on. -/
structure PSendr (w : World) (B P : Nat) (bag queue : Int) (all : List ByteArray) (v : Value) (went : Nat) (last now : Int) : Prop where
  c0 : w.cell? ⟨P, 0, none⟩ = some (.int .i64 bag)
  c1 : w.cell? ⟨P, 1, none⟩ = some (.int .i64 queue)
  c2 : w.cell? ⟨P, 2, none⟩ = some v
  c3 : w.cell? ⟨P, 3, none⟩ = some (.int .i64 now)
  c4 : w.cell? ⟨P, 4, none⟩ = some (.int .i64 (freeV went last bag))
  c5 : w.cell? ⟨P, 5, none⟩ = some (.int .i64 (ordN went))
  z : ∀ i, w.frozen? ⟨P, i, none⟩ = false
  own : w.ownsRow B 9 1 v (all.length - went) ((all.drop went).map Value.string)
  lp : P < B
  lb : B ≤ w.heap.size
  we : went ≤ all.length

/-- The program's sender: its blocks O, its struct at P. -/
def Sdr (w : World) (O : List Nat) (P : Nat) (bag queue : Int) (all : List ByteArray) (went : Nat) (last now : Int) : Prop :=
  ∃ v, PSendr w (P + 1) P bag queue all v went last now ∧ O = P :: v.ownBlock.toList
theorem Sdr.mem {w : World} {O : List Nat} {P : Nat} {bag queue : Int} {all : List ByteArray} {went : Nat} {last now : Int} (h : Sdr w O P bag queue all went last now) : P ∈ O := by
  obtain ⟨v, _, rfl⟩ := h
  exact List.mem_cons.2 (.inl rfl)
theorem Sdr.lt {w : World} {O : List Nat} {P : Nat} {bag queue : Int} {all : List ByteArray} {went : Nat} {last now : Int} (h : Sdr w O P bag queue all went last now) : ∀ c, c ∈ O → c < w.heap.size := by
  obtain ⟨v, h, rfl⟩ := h
  intro c hc
  rcases List.mem_cons.1 hc with y | y
  · have := h.lp; have := h.lb; omega
  · exact (h.own.lt c (by simpa using y)).2
theorem Sdr.keep {w' : World} {w : World} {O : List Nat} {P : Nat} {bag queue : Int} {all : List ByteArray} {went : Nat} {last now : Int} (h : Sdr w O P bag queue all went last now) (k : Same O w w') : Sdr w' O P bag queue all went last now := by
  obtain ⟨v, h, rfl⟩ := h
  have hp : P ∈ P :: v.ownBlock.toList := List.mem_cons.2 (.inl rfl)
  exact ⟨v, ⟨(k.cell (p := ⟨P, 0, none⟩) hp).trans h.c0, (k.cell (p := ⟨P, 1, none⟩) hp).trans h.c1, (k.cell (p := ⟨P, 2, none⟩) hp).trans h.c2, (k.cell (p := ⟨P, 3, none⟩) hp).trans h.c3, (k.cell (p := ⟨P, 4, none⟩) hp).trans h.c4, (k.cell (p := ⟨P, 5, none⟩) hp).trans h.c5, fun i => (k.frozen (p := ⟨P, i, none⟩) hp).trans (h.z i), owns_same h.own k (fun g hg => List.mem_cons.2 (.inr (by simpa using hg))), h.lp, Nat.le_trans h.lb k.1, h.we⟩, rfl⟩
theorem PSendr.drawn {w : World} {B P : Nat} {bag queue : Int} {all : List ByteArray} {v : Value} {went : Nat} {last now : Int} (h : PSendr w B P bag queue all v went last now) (q : Nat) : PSendr (w.drewN q) B P bag queue all v went last now := ⟨h.c0, h.c1, h.c2, h.c3, h.c4, h.c5, h.z, h.own, h.lp, h.lb, h.we⟩

set_option maxHeartbeats 1000000 in
theorem sdrNew_bad (bag queue : Int) (w : World) (hb : ¬ ((1 ≤ bag ∧ bag ≤ 1099511627776) ∧ 1 ≤ queue ∧ queue ≤ 16)) :
    Calls Tryz.prog 79 #[.agg #[.int .i64 0, .int .i64 0, .int .i64 bag, .int .i64 queue]] w fun e w' => e = .returned (.tuple #[.pointer none, errV 2]) ∧ Below w.heap.size w w' := by
  by_cases k1 : bag < 1
  · clear hb
    go_enter Tryz.func79, Tryz.ntmps79
    go_wp2
    go_ret2
    exact ⟨rfl, (Below.refl _ _).alloc (Nat.le_refl _) _⟩
  · have k1' : decide (bag < 1) = false := decide_eq_false k1
    by_cases k2 : 1099511627776 < bag
    · clear hb k1
      go_enter Tryz.func79, Tryz.ntmps79
      go_wp2
      go_ret2
      exact ⟨rfl, (Below.refl _ _).alloc (Nat.le_refl _) _⟩
    · have k2' : decide (1099511627776 < bag) = false := decide_eq_false k2
      by_cases k3 : queue < 1
      · clear hb k1 k2
        go_enter Tryz.func79, Tryz.ntmps79
        go_wp2
        go_ret2
        exact ⟨rfl, (Below.refl _ _).alloc (Nat.le_refl _) _⟩
      · have k3' : decide (queue < 1) = false := decide_eq_false k3
        have k4 : 16 < queue := by omega
        clear hb k1 k2 k3
        go_enter Tryz.func79, Tryz.ntmps79
        go_wp2
        go_ret2
        exact ⟨rfl, (Below.refl _ _).alloc (Nat.le_refl _) _⟩

/-- A new one. -/
theorem psdr_new {w : World} {bag queue : Int} : Sdr (w.alloc (.cells #[.int .i64 bag, .int .i64 queue, .slice none 0 0, .int .i64 0, .int .i64 0, .int .i64 0] 128)) [w.heap.size] w.heap.size bag queue [] 0 0 0 := by
  have c : ∀ (i : Nat) (u : Value), (#[.int .i64 bag, .int .i64 queue, .slice none 0 0, .int .i64 0, .int .i64 0, .int .i64 0] : Array Value)[i]? = some u → (w.alloc (.cells #[.int .i64 bag, .int .i64 queue, .slice none 0 0, .int .i64 0, .int .i64 0, .int .i64 0] 128)).cell? ⟨w.heap.size, i, none⟩ = some u := fun i u hi => by
    simp
    simpa using hi
  exact ⟨.slice none 0 0, ⟨c 0 _ rfl, c 1 _ rfl, c 2 _ rfl, c 3 _ rfl, c 4 _ rfl, c 5 _ rfl, fun i => by simp, World.ownsRow_nil _ _ _ _, by omega, by simp, Nat.le_refl _⟩, rfl⟩

set_option maxHeartbeats 1000000 in
theorem sdrNew_good (bag queue : Int) (w : World) (hb : (1 ≤ bag ∧ bag ≤ 1099511627776) ∧ 1 ≤ queue ∧ queue ≤ 16) :
    Calls Tryz.prog 79 #[.agg #[.int .i64 0, .int .i64 0, .int .i64 bag, .int .i64 queue]] w fun e w' => ∃ O P, e = .returned (.tuple #[.pointer (some ⟨P, 0, none⟩), .nilIface]) ∧ Sdr w' O P bag queue [] 0 0 0 ∧ Below w.heap.size w w' ∧ ∀ c, c ∈ O → w.heap.size ≤ c := by
  have k1 : decide (bag < 1) = false := decide_eq_false (by omega)
  have k2 : decide (1099511627776 < bag) = false := decide_eq_false (by omega)
  have k3 : decide (queue < 1) = false := decide_eq_false (by omega)
  have k4 : decide (16 < queue) = false := decide_eq_false (by omega)
  clear hb
  have hR := fun (V : World) => psdr_new (w := V) (bag := bag) (queue := queue)
  have HR : Hid _ := hR
  clear hR
  go_enter Tryz.func79, Tryz.ntmps79
  go_wp2
  have fin := HR.out (w.alloc (.cells #[.int .i64 0, .int .i64 0, .int .i64 bag, .int .i64 queue] 54))
  rw [show (w.alloc (.cells #[.int .i64 0, .int .i64 0, .int .i64 bag, .int .i64 queue] 54)).heap.size = w.heap.size + 1 by simp] at fin
  go_ret2
  exact ⟨_, _, rfl, fin, ((Below.refl _ _).alloc (Nat.le_refl _) _).alloc (by simp) _, fun c hc => by
    simp only [List.mem_cons, List.not_mem_nil, or_false] at hc
    omega⟩

set_option maxHeartbeats 1000000 in
theorem put_limit {w : World} {B P : Nat} {bag queue : Int} {all : List ByteArray} {v : Value} {went : Nat} {last now : Int} (h : PSendr w B P bag queue all v went last now) (d : ByteArray) (hd : 40 < d.size) :
    Calls Tryz.prog 26 #[.pointer (some ⟨P, 0, none⟩), .string d] w fun e w' => e = .returned (errV 4) ∧ w' = w := by
  have _ := h
  have k : (40 : Int) < (d.size : Int) := by omega
  go_enter Tryz.func26, Tryz.ntmps26
  go_wp2
  go_ret
  exact ⟨rfl, rfl⟩

set_option maxRecDepth 100000 in
set_option maxHeartbeats 2000000 in
theorem put_full {w : World} {B P : Nat} {bag queue : Int} {all : List ByteArray} {v : Value} {went : Nat} {last now : Int} (h : PSendr w B P bag queue all v went last now) (d : ByteArray) (hd : d.size ≤ 40) (hq : queue ≤ ((all.length - went : Nat) : Int)) (ha : all.length ≤ 10000000) :
    Calls Tryz.prog 26 #[.pointer (some ⟨P, 0, none⟩), .string d] w fun e w' => e = .returned (errV 12) ∧ ∃ q, w' = w.drewN q := by
  obtain ⟨c0, c1, c2, c3, c4, c5, z, own, lp, lb, we⟩ := h
  obtain ⟨a, cap, rfl⟩ := owns_form own
  have hd2 : decide (40 < (d.size : Int)) = false := decide_eq_false (by omega)
  have hlp : P < w.heap.size := by omega
  have hn : all.length - went ≤ 10000000 := by omega
  clear own z we
  generalize all.length - went = n at *
  go_enter Tryz.func26, Tryz.ntmps26
  go_wp2_with fail
  go_quiet (fail)
  go_wp2
  go_ret
  exact ⟨rfl, _, rfl⟩

set_option maxRecDepth 100000 in
set_option maxHeartbeats 2000000 in
theorem put_ok {w : World} {B P : Nat} {bag queue : Int} {all : List ByteArray} {v : Value} {went : Nat} {last now : Int} (h : PSendr w B P bag queue all v went last now) (d : ByteArray) (hd : d.size ≤ 40) (hq : ((all.length - went : Nat) : Int) < queue) (ha : all.length ≤ 10000000) :
    Calls Tryz.prog 26 #[.pointer (some ⟨P, 0, none⟩), .string d] w fun e w' => e = .returned (errV 0) ∧ ∃ v', PSendr w' B P bag queue (all ++ [d]) v' went last now ∧ Turns P (v.ownBlock.getD P) w w' ∧ (v'.ownBlock = v.ownBlock ∨ ∃ g, w.heap.size ≤ g ∧ v'.ownBlock = some g) := by
  obtain ⟨c0, c1, c2, c3, c4, c5, z, own, lp, lb, we⟩ := h
  obtain ⟨i0, hi, hz0, hz1, hz2⟩ := info_parts Tryz.infoStr7
  obtain ⟨a, cap, rfl⟩ := owns_form own
  have hd2 : decide (40 < (d.size : Int)) = false := decide_eq_false (by omega)
  have hq2 : decide (queue ≤ ((all.length - went : Nat) : Int)) = false := decide_eq_false (by omega)
  have z2 := z 2
  have HZ : Hid (∀ i, w.frozen? ⟨P, i, none⟩ = false) := z
  have hlp : P < w.heap.size := by omega
  obtain ⟨n, hn⟩ : ∃ n, all.length - went = n := ⟨_, rfl⟩
  have HN : Hid (all.length - went = n ∧ went ≤ all.length) := ⟨hn, we⟩
  rw [hn] at own hq2 c2
  have HOwn : Hid (w.ownsRow B 9 1 (.slice a n cap) n ((all.drop went).map Value.string)) := own
  have hn1 : n ≤ 10000000 := by omega
  rw [hn]
  clear own hq z hn we ha
  go_enter Tryz.func26, Tryz.ntmps26
  go_wp2_with fail
  go_quiet (fail)
  have hOq : (w.drewN nq).ownsRow B 9 1 (.slice a n cap) n ((all.drop went).map Value.string) := HOwn.out
  go_wp2_with (at_builtin; refine wpList_append_own_at _ rfl _ _ 126 rfl B 9 i0 (.string ByteArray.empty) 1 16 Tryz.underlying126 hi hz0 hz1 hz2 rfl (by decide) (.slice a n cap) n _ rfl (hOq.alloc _) ⟨w.heap.size, 0, none⟩ 1 1 [.string d] rfl rfl (cell_one_new _ _ _) (by simp [Value.oneCell']) (by unfold maxLen; omega) (by omega) (by simp; omega) ?_; apply Hid.out)
  unfold Hid
  intro v' w3 hown' hgrow _ hat
  have hrow : ∀ g, (Value.slice a n cap).ownBlock = some g → B ≤ g ∧ g < w.heap.size := fun g hg => HOwn.out.lt g hg
  have hD : ∀ C, Below C w (w.drewN nq) := fun _ => ⟨rfl, rfl, rfl, Nat.le_refl _, fun _ _ => rfl⟩
  have hB3 : Below B w w3 := (((hD B).alloc lb _).grown hgrow (by simp; omega) (fun g hg => (hrow g hg).1))
  have HT3 : Hid (Turns P ((Value.slice a n cap).ownBlock.getD P) w w3) := by
    have hA : Below w.heap.size w ((w.drewN nq).alloc (.cells #[.string d] 9)) := (hD w.heap.size).alloc (Nat.le_refl _) _
    refine ⟨hB3.os, hB3.tape, hB3.output, hB3.size, fun c hc h1 h2 => ?_⟩
    refine (hgrow.block c (by have := hA.size; omega) (fun e => ?_)).trans (hA.block c hc)
    rw [← e] at h2
    exact h2 rfl
  have HAt : Hid (v'.ownBlock = (Value.slice a n cap).ownBlock ∨ ∃ g, w.heap.size ≤ g ∧ v'.ownBlock = some g) := by
    rcases hat with y | y
    · exact .inl y
    · exact .inr ⟨_, by omega, y⟩
  obtain ⟨a3, cap3, rfl⟩ := owns_form hown'
  have HO3 : Hid (w3.ownsRow B 9 1 (.slice a3 (n + 1) cap3) (n + 1) ((all.drop went).map Value.string ++ [.string d])) := by rw [List.map_drop]; exact hown'
  have cc : ∀ i, w3.cell? ⟨P, i, none⟩ = w.cell? ⟨P, i, none⟩ := fun i => hB3.cell (p := ⟨P, i, none⟩) lp
  have HZ3 : Hid (∀ i, w3.frozen? ⟨P, i, none⟩ = false) := fun i => (hB3.frozen (p := ⟨P, i, none⟩) lp).trans (HZ.out i)
  have y2 := (cc 2).trans c2
  have zz2 := HZ3.out 2
  have hs3 := hB3.size
  have hl3 : P < w3.heap.size := by omega
  have fin : PSendr (w3.setCell ⟨P, 2, none⟩ (.slice a3 (n + 1) cap3)) B P bag queue (all ++ [d]) (.slice a3 (n + 1) cap3) went last now :=
    ⟨(cell_other (.inr (by decide))).trans ((cc 0).trans c0), (cell_other (.inr (by decide))).trans ((cc 1).trans c1), cell_set y2, (cell_other (.inr (by decide))).trans ((cc 3).trans c3), (cell_other (.inr (by decide))).trans ((cc 4).trans c4), (cell_other (.inr (by decide))).trans ((cc 5).trans c5), fun i => soft_set.trans (HZ3.out i), by
      have e0 := HN.out
      have e1 : (all ++ [d]).length - went = n + 1 := by simp; omega
      have e2 : ((all ++ [d]).drop went).map Value.string = (all.drop went).map Value.string ++ [.string d] := by
        rw [List.drop_append_of_le_length e0.2, List.map_append]; rfl
      rw [e1, e2]
      exact owns_put HO3.out lp, lp, by simp; omega, by have := HN.out; simp; omega⟩
  have HFin : Hid _ := fin
  have HTT : Hid _ := HT3.out.set (p := ⟨P, 2, none⟩) (.inl rfl) (.slice a3 (n + 1) cap3)
  clear fin cc hown' hgrow hat hB3 hrow hOq c0 c1 c2 c3 c4 c5
  go_wp2
  go_ret
  exact ⟨rfl, _, HFin.out, HTT.out, HAt.out⟩

theorem sdrPut {w : World} {O : List Nat} {P : Nat} {bag queue : Int} {all : List ByteArray} {went : Nat} {last now : Int} (h : Sdr w O P bag queue all went last now) (d : ByteArray) (ha : all.length ≤ 10000000) :
    Calls Tryz.prog 26 #[.pointer (some ⟨P, 0, none⟩), .string d] w fun e w' => e = .returned (errV (putK (all.length - went) queue d)) ∧ ∃ O', Sdr w' O' P bag queue (putAll (putK (all.length - went) queue d) all d) went last now ∧ Foot O O' w w' := by
  obtain ⟨v, h, rfl⟩ := h
  unfold putAll putK
  by_cases h1 : 40 < d.size
  · simp only [if_pos h1]
    refine (put_limit h d h1).mono ?_
    rintro e w' ⟨rfl, rfl⟩
    exact ⟨rfl, _, ⟨v, h, rfl⟩, Foot.refl _ _⟩
  · simp only [if_neg h1]
    by_cases h2 : queue ≤ ((all.length - went : Nat) : Int)
    · simp only [if_pos h2]
      refine (put_full h d (by omega) h2 ha).mono ?_
      rintro e w' ⟨rfl, q, rfl⟩
      exact ⟨rfl, _, ⟨v, h.drawn q, rfl⟩, Foot.drawn _ _ _⟩
    · simp only [if_neg h2]
      refine (put_ok h d (by omega) (by omega) ha).mono ?_
      rintro e w' ⟨rfl, v', h', ht, hat⟩
      refine ⟨rfl, _, ⟨v', h', rfl⟩, ?_⟩
      refine ⟨ht.os, ht.tape, ht.output, ht.size, fun c hc hn => ?_, fun c hc => ?_⟩
      · have hP : c ≠ P := fun y => hn (List.mem_cons.2 (.inl y))
        refine ht.block c hc hP ?_
        cases e : v.ownBlock with
        | none => exact hP
        | some g =>
          intro y
          refine hn (List.mem_cons.2 (.inr ?_))
          rw [e, y]
          exact List.mem_singleton.2 rfl
      · rcases List.mem_cons.1 hc with y | y
        · exact .inl (List.mem_cons.2 (.inl y))
        · rcases hat with z | ⟨g, hg, z⟩
          · rw [z] at y; exact .inl (List.mem_cons.2 (.inr y))
          · rw [z] at y
            have : c = g := by simpa using y
            exact .inr (by omega)
end Go.Proofs.YtdmokcnoljlogaaGreatDoor
