/- The program's node: where it lies, and its words New, Members, Frozen, Counts, Hears, Sends, Judges, Back: what becomes of a node; nothing else is turned. -/
import Derived.Test.YtdmokcnoljlogaaGreatDoorProg
import Derived.Test.YtdmokcnoljlogaaGreatDoorWordsA
import Derived.Test.YtdmokcnoljlogaaGreatDoorWordsC
import Derived.WalkKit
import Derived.WalkSpells
import Derived.WalkLawsBesides
namespace Go.Proofs.YtdmokcnoljlogaaGreatDoor
open Go.RowKit

/-- The program's node in memory: its struct at P. -/
structure ProgNode (w : World) (P : Nat) (id : Int) (n : Nat) (m : Int) (g b : Int) (fz : Bool) : Prop where
  c0 : w.cell? ⟨P, 0, none⟩ = some (.int .i64 id)
  c1 : w.cell? ⟨P, 1, none⟩ = some (.int .i64 n)
  c2 : w.cell? ⟨P, 2, none⟩ = some (.int .i64 m)
  c3 : w.cell? ⟨P, 3, none⟩ = some (.bool fz)
  c4 : w.cell? ⟨P, 4, none⟩ = some (.int .i64 g)
  c5 : w.cell? ⟨P, 5, none⟩ = some (.int .i64 b)
  z : ∀ i, w.frozen? ⟨P, i, none⟩ = false
  lp : P < w.heap.size

theorem ProgNode.keep {w : World} {P : Nat} {id : Int} {n : Nat} {m g b : Int} {fz : Bool} {w' : World} (h : ProgNode w P id n m g b fz) {P' Q' : Nat} (k : Turns P' Q' w w') (h1 : P ≠ P') (h2 : P ≠ Q') : ProgNode w' P id n m g b fz :=
  ⟨(k.cell (p := ⟨P, 0, none⟩) h.lp h1 h2).trans h.c0, (k.cell (p := ⟨P, 1, none⟩) h.lp h1 h2).trans h.c1, (k.cell (p := ⟨P, 2, none⟩) h.lp h1 h2).trans h.c2, (k.cell (p := ⟨P, 3, none⟩) h.lp h1 h2).trans h.c3, (k.cell (p := ⟨P, 4, none⟩) h.lp h1 h2).trans h.c4, (k.cell (p := ⟨P, 5, none⟩) h.lp h1 h2).trans h.c5, fun i => (k.frozen (p := ⟨P, i, none⟩) h.lp h1 h2).trans (h.z i), Nat.lt_of_lt_of_le h.lp k.size⟩
theorem ProgNode.drawn {w : World} {P : Nat} {id : Int} {n : Nat} {m g b : Int} {fz : Bool} (h : ProgNode w P id n m g b fz) (q : Nat) : ProgNode (w.drewN q) P id n m g b fz := ⟨h.c0, h.c1, h.c2, h.c3, h.c4, h.c5, h.z, h.lp⟩
theorem ProgNode.members {w : World} {P : Nat} {id : Int} {n : Nat} {m g b : Int} {fz : Bool} (h : ProgNode w P id n m g b fz) (m' : Int) : ProgNode (w.setCell ⟨P, 2, none⟩ (.int .i64 m')) P id n m' g b fz :=
  ⟨(cell_other (.inr (by decide))).trans h.c0, (cell_other (.inr (by decide))).trans h.c1, cell_set h.c2, (cell_other (.inr (by decide))).trans h.c3, (cell_other (.inr (by decide))).trans h.c4, (cell_other (.inr (by decide))).trans h.c5, fun i => soft_set.trans (h.z i), by simpa using h.lp⟩
theorem ProgNode.freeze {w : World} {P : Nat} {id : Int} {n : Nat} {m g b : Int} {fz : Bool} (h : ProgNode w P id n m g b fz) (f' : Bool) : ProgNode (w.setCell ⟨P, 3, none⟩ (.bool f')) P id n m g b f' :=
  ⟨(cell_other (.inr (by decide))).trans h.c0, (cell_other (.inr (by decide))).trans h.c1, (cell_other (.inr (by decide))).trans h.c2, cell_set h.c3, (cell_other (.inr (by decide))).trans h.c4, (cell_other (.inr (by decide))).trans h.c5, fun i => soft_set.trans (h.z i), by simpa using h.lp⟩
theorem ProgNode.good {w : World} {P : Nat} {id : Int} {n : Nat} {m g b : Int} {fz : Bool} (h : ProgNode w P id n m g b fz) (g' : Int) : ProgNode (w.setCell ⟨P, 4, none⟩ (.int .i64 g')) P id n m g' b fz :=
  ⟨(cell_other (.inr (by decide))).trans h.c0, (cell_other (.inr (by decide))).trans h.c1, (cell_other (.inr (by decide))).trans h.c2, (cell_other (.inr (by decide))).trans h.c3, cell_set h.c4, (cell_other (.inr (by decide))).trans h.c5, fun i => soft_set.trans (h.z i), by simpa using h.lp⟩
theorem ProgNode.bad {w : World} {P : Nat} {id : Int} {n : Nat} {m g b : Int} {fz : Bool} (h : ProgNode w P id n m g b fz) (b' : Int) : ProgNode (w.setCell ⟨P, 5, none⟩ (.int .i64 b')) P id n m g b' fz :=
  ⟨(cell_other (.inr (by decide))).trans h.c0, (cell_other (.inr (by decide))).trans h.c1, (cell_other (.inr (by decide))).trans h.c2, (cell_other (.inr (by decide))).trans h.c3, (cell_other (.inr (by decide))).trans h.c4, cell_set h.c5, fun i => soft_set.trans (h.z i), by simpa using h.lp⟩

set_option maxHeartbeats 1000000 in
theorem pNew_bad (id nodes : Int) (w : World) (hb : ¬ ((1 ≤ nodes ∧ nodes ≤ 16) ∧ 0 ≤ id ∧ id < nodes)) :
    Calls Tryz.prog 58 #[.int .i64 id, .int .i64 nodes] w fun e w' => e = .returned (.tuple #[.pointer none, .iface 39 (.int .i64 1)]) ∧ Below w.heap.size w w' := by
  by_cases k1 : nodes < 1
  · clear hb
    go_enter Tryz.func58, Tryz.ntmps58
    go_wp2
    go_ret2
    exact ⟨rfl, (Below.refl _ _).alloc (Nat.le_refl _) _⟩
  · have k1' : decide (nodes < 1) = false := decide_eq_false k1
    by_cases k2 : 16 < nodes
    · clear hb k1
      go_enter Tryz.func58, Tryz.ntmps58
      go_wp2
      go_ret2
      exact ⟨rfl, (Below.refl _ _).alloc (Nat.le_refl _) _⟩
    · have k2' : decide (16 < nodes) = false := decide_eq_false k2
      by_cases k3 : 0 ≤ id
      · have k4 : decide (id < nodes) = false := decide_eq_false (by omega)
        clear hb k1 k2
        go_enter Tryz.func58, Tryz.ntmps58
        go_wp2
        go_ret2
        exact ⟨rfl, (Below.refl _ _).alloc (Nat.le_refl _) _⟩
      · have k4 : decide (0 ≤ id) = false := decide_eq_false k3
        clear hb k1 k2 k3
        go_enter Tryz.func58, Tryz.ntmps58
        go_wp2
        go_ret2
        exact ⟨rfl, (Below.refl _ _).alloc (Nat.le_refl _) _⟩

set_option maxHeartbeats 1000000 in
theorem pAnew_any {w : World} {P : Nat} {id : Int} {n : Nat} {m g b : Int} {fz : Bool} (h : ProgNode w P id n m g b fz) :
    Calls Tryz.prog 68 #[.pointer (some ⟨P, 0, none⟩)] w fun e w' => e = .returned (.tuple #[]) ∧ ProgNode w' P id n m 1 0 fz ∧ Turns P P w w' := by
  have HH : Hid (ProgNode w P id n m g b fz) := h
  obtain ⟨c0, c1, c2, c3, c4, c5, z, lp⟩ := h
  have z4 := z 4
  have z5 := z 5
  clear z
  go_enter Tryz.func68, Tryz.ntmps68
  go_wp2
  exact bodyPost_end (v := .tuple #[]) (by simp [results, Tryz.results68, go_sem]) rfl ⟨rfl, (HH.out.good 1).bad 0, ((Turns.refl _ _ _).set (p := ⟨P, 4, none⟩) (.inl rfl) _).set (p := ⟨P, 5, none⟩) (.inl rfl) _⟩

set_option maxHeartbeats 1000000 in
theorem pNew_good (id : Int) (n : Nat) (w : World) (h1 : 1 ≤ n) (h2 : n ≤ 16) (h3 : 0 ≤ id) (h4 : id < n) :
    Calls Tryz.prog 58 #[.int .i64 id, .int .i64 n] w fun e w' => e = .returned (.tuple #[.pointer (some ⟨w.heap.size, 0, none⟩), .nilIface]) ∧ ProgNode w' w.heap.size id n (2 ^ n - 1) 1 0 false ∧ Below w.heap.size w w' := by
  have p0 := pow_pos n
  have p1 : (2 : Int) ^ n ≤ 2 ^ 16 := pow_le h2
  have p2 : (2 : Int) ^ 16 = 65536 := by decide
  have k1 : decide ((n : Int) < 1) = false := decide_eq_false (by omega)
  have k2 : decide (16 < (n : Int)) = false := decide_eq_false (by omega)
  have HV : Hid (ProgNode (w.alloc (.cells #[.int .i64 id, .int .i64 n, .int .i64 (2 ^ n - 1), .bool false, .int .i64 0, .int .i64 0] 156)) w.heap.size id n (2 ^ n - 1) 0 0 false) := by
    have c : ∀ (i : Nat) (v : Value), (#[.int .i64 id, .int .i64 n, .int .i64 (2 ^ n - 1), .bool false, .int .i64 0, .int .i64 0] : Array Value)[i]? = some v → (w.alloc (.cells #[.int .i64 id, .int .i64 n, .int .i64 (2 ^ n - 1), .bool false, .int .i64 0, .int .i64 0] 156)).cell? ⟨w.heap.size, i, none⟩ = some v := fun i v hi => by
      simp
      simpa using hi
    exact ⟨c 0 _ rfl, c 1 _ rfl, c 2 _ rfl, c 3 _ rfl, c 4 _ rfl, c 5 _ rfl, fun i => by simp, by simp⟩
  have HN := pAnew_any HV.out
  have HB : Hid (Below w.heap.size w (w.alloc (.cells #[.int .i64 id, .int .i64 n, .int .i64 (2 ^ n - 1), .bool false, .int .i64 0, .int .i64 0] 156))) := (Below.refl _ _).alloc (Nat.le_refl _) _
  go_enter Tryz.func58, Tryz.ntmps58
  go_wp2_with (first | (go_at_call 68; apply Hid.out) | go_in)
  unfold Hid
  refine HN.mono ?_
  rintro e w1 ⟨rfl, hN1, hT1⟩
  have hB1 : Below w.heap.size w w1 := HB.out.trans (hT1.below (by simp) (Nat.le_refl _) (Nat.le_refl _))
  go_wp2
  go_ret2
  exact ⟨rfl, hN1, hB1⟩
end Go.Proofs.YtdmokcnoljlogaaGreatDoor
