/- The document's answer's sender: where it lies, and its words Order, Put and Send (ahead of stage 7). -/
import Derived.Test.YthcnhfjhppmmdabDoorProg
import Derived.Test.YthcnhfjhppmmdabDoorInAny
import Derived.Test.YthcnhfjhppmmdabDoorCellSet
import Derived.Test.YthcnhfjhppmmdabDoorTakeWords
import Derived.Test.YthcnhfjhppmmdabDoorOwnInts
import Derived.Test.YthcnhfjhppmmdabDoorOwnPut
import Derived.Deep.AppendLies
import Derived.RegionTactic
import Derived.WalkSpells
import Derived.WalkLawsBesides
namespace Go.Proofs.YthcnhfjhppmmdabDoor
open Go.RowKit

theorem Tryd.infoStr : (Tryd.prog.info? 9).map (fun i => (i.zero, i.size, i.bytes)) = some (some (.string ByteArray.empty), 1, 16) := by kernel_rfl

/-- The document's answer's sender in memory: its struct at P, all that was put in a row of its own from block B on. -/
structure RefSendr (w : World) (B P : Nat) (bag queue : Int) (all : List ByteArray) (v : Value) (went : Nat) (last now : Int) : Prop where
  c0 : w.cell? ⟨P, 0, none⟩ = some (.int .i64 bag)
  c1 : w.cell? ⟨P, 1, none⟩ = some (.int .i64 queue)
  c2 : w.cell? ⟨P, 2, none⟩ = some v
  c3 : w.cell? ⟨P, 3, none⟩ = some (.int .i64 went)
  c4 : w.cell? ⟨P, 4, none⟩ = some (.int .i64 last)
  c5 : w.cell? ⟨P, 5, none⟩ = some (.int .i64 now)
  z : ∀ i, w.frozen? ⟨P, i, none⟩ = false
  own : w.ownsRow B 9 1 v all.length (all.map Value.string)
  lp : P < B
  lb : B ≤ w.heap.size
  we : went ≤ all.length

set_option maxHeartbeats 1000000 in
theorem refOrder_any (k : Nat) (hk : k ≤ 4611686018427387904) (w : World) : Calls Tryd.prog 63 #[.int .i64 k] w fun e w' => e = .returned (.int .i64 (ordN k)) ∧ w' = w := by
  by_cases h0 : k = 0
  · subst h0
    go_enter Tryd.func63, Tryd.ntmps63
    go_wp2
    go_ret
    exact ⟨rfl, rfl⟩
  · have k1 : ((k : Int) == 0) = false := by simp; omega
    have e : ordN k = Int.tmod ((k : Int) - 1) 255 + 1 := by
      unfold ordN
      rw [if_neg h0, Int.tmod_eq_emod_of_nonneg (by omega)]
      omega
    have hm : 0 ≤ Int.tmod ((k : Int) - 1) 255 ∧ Int.tmod ((k : Int) - 1) 255 < 255 := by
      rw [Int.tmod_eq_emod_of_nonneg (by omega)]
      omega
    rw [e]
    clear e h0
    generalize hx : Int.tmod ((k : Int) - 1) 255 = x at *
    go_enter Tryd.func63, Tryd.ntmps63
    go_wp2
    go_ret
    exact ⟨rfl, rfl⟩


theorem RefSendr.drawn {w : World} {B P : Nat} {bag queue : Int} {all : List ByteArray} {v : Value} {went : Nat} {last now : Int} (h : RefSendr w B P bag queue all v went last now) (q : Nat) : RefSendr (w.drewN q) B P bag queue all v went last now := ⟨h.c0, h.c1, h.c2, h.c3, h.c4, h.c5, h.z, h.own, h.lp, h.lb, h.we⟩

set_option maxHeartbeats 1000000 in
theorem refPut_limit {w : World} {B P : Nat} {bag queue : Int} {all : List ByteArray} {v : Value} {went : Nat} {last now : Int} (h : RefSendr w B P bag queue all v went last now) (d : ByteArray) (hd : 40 < d.size) :
    Calls Tryd.prog 40 #[.pointer (some ⟨P, 0, none⟩), .string d] w fun e w' => e = .returned (.int .i64 4) ∧ w' = w := by
  have _ := h
  have k : (40 : Int) < (d.size : Int) := by omega
  go_enter Tryd.func40, Tryd.ntmps40
  go_wp2
  go_ret
  exact ⟨rfl, rfl⟩

set_option maxRecDepth 100000 in
set_option maxHeartbeats 2000000 in
theorem refPut_full {w : World} {B P : Nat} {bag queue : Int} {all : List ByteArray} {v : Value} {went : Nat} {last now : Int} (h : RefSendr w B P bag queue all v went last now) (d : ByteArray) (hd : d.size ≤ 40) (hq : queue ≤ (all.length : Int) - (went : Int)) (ha : all.length ≤ 1000000) :
    Calls Tryd.prog 40 #[.pointer (some ⟨P, 0, none⟩), .string d] w fun e w' => e = .returned (.int .i64 12) ∧ ∃ q, w' = w.drewN q := by
  obtain ⟨c0, c1, c2, c3, c4, c5, z, own, lp, lb, we⟩ := h
  obtain ⟨a, cap, rfl⟩ := owns_form own
  have hd2 : decide (40 < (d.size : Int)) = false := decide_eq_false (by omega)
  have hlp : P < w.heap.size := by omega
  clear own z
  generalize all.length = n at *
  have hwr : IntKind.i64.wrap ((n : Int) - (went : Int)) = (n : Int) - (went : Int) := by rw [IntKind.wrap_i64]; omega
  go_enter Tryd.func40, Tryd.ntmps40
  go_wp2_with fail
  go_quiet (fail)
  go_wp2
  go_ret
  exact ⟨rfl, _, rfl⟩

set_option maxRecDepth 100000 in
set_option maxHeartbeats 2000000 in
theorem refPut_ok {w : World} {B P : Nat} {bag queue : Int} {all : List ByteArray} {v : Value} {went : Nat} {last now : Int} (h : RefSendr w B P bag queue all v went last now) (d : ByteArray) (hd : d.size ≤ 40) (hq : (all.length : Int) - (went : Int) < queue) (ha : all.length ≤ 1000000) :
    Calls Tryd.prog 40 #[.pointer (some ⟨P, 0, none⟩), .string d] w fun e w' => e = .returned (.int .i64 0) ∧ ∃ v', RefSendr w' B P bag queue (all ++ [d]) v' went last now ∧ Turns P (v.ownBlock.getD P) w w' ∧ (v'.ownBlock = v.ownBlock ∨ ∃ g, w.heap.size ≤ g ∧ v'.ownBlock = some g) := by
  have HH : Hid (RefSendr w B P bag queue all v went last now) := h
  obtain ⟨c0, c1, c2, c3, c4, c5, z, own, lp, lb, we⟩ := h
  obtain ⟨i0, hi, hz0, hz1, hz2⟩ := info_parts Tryd.infoStr
  obtain ⟨a, cap, rfl⟩ := owns_form own
  have HOwn : Hid (w.ownsRow B 9 1 (.slice a all.length cap) all.length (all.map Value.string)) := own
  have hd2 : decide (40 < (d.size : Int)) = false := decide_eq_false (by omega)
  have hq2 : decide (queue ≤ (all.length : Int) - (went : Int)) = false := decide_eq_false (by omega)
  have z2 := z 2
  have HZ : Hid (∀ i, w.frozen? ⟨P, i, none⟩ = false) := z
  have hlp : P < w.heap.size := by omega
  clear own hq z
  obtain ⟨n, hn⟩ : ∃ n, all.length = n := ⟨_, rfl⟩
  have HN : Hid (all.length = n) := hn
  rw [hn] at HOwn hq2 c2 ha we HH
  rw [hn]
  clear hn
  have hwr : IntKind.i64.wrap ((n : Int) - (went : Int)) = (n : Int) - (went : Int) := by rw [IntKind.wrap_i64]; omega
  go_enter Tryd.func40, Tryd.ntmps40
  go_wp2_with fail
  go_quiet (fail)
  have hOq : (w.drewN nq).ownsRow B 9 1 (.slice a n cap) n (all.map Value.string) := HOwn.out
  go_wp2_with (at_builtin; refine wpList_append_own_at _ rfl _ _ 94 rfl B 9 i0 (.string ByteArray.empty) 1 16 Tryd.underlying94 hi hz0 hz1 hz2 rfl (by decide) (.slice a n cap) n _ rfl (hOq.alloc _) ⟨w.heap.size, 0, none⟩ 1 1 [.string d] rfl rfl (cell_one_new _ _ _) (by simp [Value.oneCell']) (by unfold maxLen; omega) (by omega) (by simp; omega) ?_; apply Hid.out)
  unfold Hid
  intro v' w3 hown' hgrow _ hat
  have hrow : ∀ g, (Value.slice a n cap).ownBlock = some g → B ≤ g ∧ g < w.heap.size := fun g hg => HOwn.out.lt g hg
  have hD : ∀ C, Below C w (w.drewN nq) := fun _ => ⟨rfl, rfl, rfl, Nat.le_refl _, fun _ _ => rfl⟩
  have hB3 : Below B w w3 := (((hD B).alloc lb _).grown hgrow (by simp; omega) (fun g hg => (hrow g hg).1))
  have HT3 : Hid (Turns P ((Value.slice a n cap).ownBlock.getD P) w w3) := by
    have hA : Below w.heap.size w ((w.drewN nq).alloc (.cells #[.string d] 9)) := (hD w.heap.size).alloc (Nat.le_refl _) _
    refine ⟨hB3.os, hB3.tape, hB3.output, hB3.size, fun c hc h1 h2 => ?_⟩
    refine (hgrow.block c (by have := hA.size; omega) (fun e => ?_)).trans (hA.block c hc)
    rw [← e] at h2
    exact h2 rfl
  have HAt : Hid (v'.ownBlock = (Value.slice a n cap).ownBlock ∨ ∃ g, w.heap.size ≤ g ∧ v'.ownBlock = some g) := by
    rcases hat with y | y
    · exact .inl y
    · exact .inr ⟨_, by omega, y⟩
  obtain ⟨a3, cap3, rfl⟩ := owns_form hown'
  have HO3 : Hid (w3.ownsRow B 9 1 (.slice a3 (n + 1) cap3) (n + 1) (all.map Value.string ++ [.string d])) := hown'
  have cc : ∀ i, w3.cell? ⟨P, i, none⟩ = w.cell? ⟨P, i, none⟩ := fun i => hB3.cell (p := ⟨P, i, none⟩) lp
  have HZ3 : Hid (∀ i, w3.frozen? ⟨P, i, none⟩ = false) := fun i => (hB3.frozen (p := ⟨P, i, none⟩) lp).trans (HZ.out i)
  have y2 := (cc 2).trans c2
  have zz2 := HZ3.out 2
  have hs3 := hB3.size
  have hl3 : P < w3.heap.size := by omega
  have fin : RefSendr (w3.setCell ⟨P, 2, none⟩ (.slice a3 (n + 1) cap3)) B P bag queue (all ++ [d]) (.slice a3 (n + 1) cap3) went last now :=
    ⟨(cell_other (.inr (by decide))).trans ((cc 0).trans c0), (cell_other (.inr (by decide))).trans ((cc 1).trans c1), cell_set y2, (cell_other (.inr (by decide))).trans ((cc 3).trans c3), (cell_other (.inr (by decide))).trans ((cc 4).trans c4), (cell_other (.inr (by decide))).trans ((cc 5).trans c5), fun i => soft_set.trans (HZ3.out i), by
      have e1 : (all ++ [d]).length = n + 1 := by simp [HN.out]
      have e2 : (all ++ [d]).map Value.string = all.map Value.string ++ [.string d] := by simp
      rw [e1, e2]
      exact owns_put HO3.out lp, lp, by simp; omega, by have := HN.out; simp; omega⟩
  have HFin : Hid _ := fin
  have HTT : Hid _ := HT3.out.set (p := ⟨P, 2, none⟩) (.inl rfl) (.slice a3 (n + 1) cap3)
  clear fin cc hown' hgrow hat hB3 hrow hOq c0 c1 c2 c3 c4 c5
  go_wp2
  go_ret
  exact ⟨rfl, _, HFin.out, HTT.out, HAt.out⟩
end Go.Proofs.YthcnhfjhppmmdabDoor
