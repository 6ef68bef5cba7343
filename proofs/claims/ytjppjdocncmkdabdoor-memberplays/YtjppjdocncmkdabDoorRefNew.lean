/- The document's answer's NewMember: a node of its own; new memory alone is made (ahead of stage 6). -/
import Derived.Test.YtjppjdocncmkdabDoorRefMember
import Derived.Test.YtjppjdocncmkdabDoorOwnInts
import Derived.Laws.MakeOwn
namespace Go.Proofs.YtjppjdocncmkdabDoor
open Go.RowKit

theorem Tryd.infoBool : (Tryd.prog.info? 4).map (fun i => (i.zero, i.size, i.bytes)) = some (some (.bool false), 1, 1) := by kernel_rfl

set_option maxHeartbeats 1000000 in
theorem refNew_bad (id nodes : Int) (w : World) (hb : ¬ ((1 ≤ nodes ∧ nodes ≤ 16) ∧ 0 ≤ id ∧ id < nodes)) :
    Calls Tryd.prog 24 #[.int .i64 id, .int .i64 nodes] w fun e w' => e = .returned (.tuple #[.pointer none, .bool false]) ∧ w' = w := by
  by_cases k1 : 1 ≤ nodes
  · by_cases k2 : nodes ≤ 16
    · by_cases k3 : 0 ≤ id
      · have k4 : decide (id ≤ nodes - 1) = false := decide_eq_false (by omega)
        clear hb
        go_enter Tryd.func24, Tryd.ntmps24
        go_wp2
        go_ret2
        exact ⟨rfl, rfl⟩
      · have k4 : decide (0 ≤ id) = false := decide_eq_false k3
        clear hb k3
        go_enter Tryd.func24, Tryd.ntmps24
        go_wp2
        go_ret2
        exact ⟨rfl, rfl⟩
    · have k4 : decide (nodes ≤ 16) = false := decide_eq_false k2
      clear hb k2
      go_enter Tryd.func24, Tryd.ntmps24
      go_wp2
      go_ret2
      exact ⟨rfl, rfl⟩
  · have k4 : decide (1 ≤ nodes) = false := decide_eq_false k1
    clear hb k1
    go_enter Tryd.func24, Tryd.ntmps24
    go_wp2
    go_ret2
    exact ⟨rfl, rfl⟩

set_option maxHeartbeats 2000000 in
theorem refNew_good (id : Int) (n : Nat) (w : World) (h1 : 1 ≤ n) (h2 : n ≤ 16) (h3 : 0 ≤ id) (h4 : id < n) :
    Calls Tryd.prog 24 #[.int .i64 id, .int .i64 n] w fun e w' => e = .returned (.tuple #[.pointer (some ⟨w.heap.size + 1, 0, none⟩), .bool true]) ∧ RefNode w' (w.heap.size + 1) w.heap.size id n (fun _ => true) 1 0 false ∧ Below w.heap.size w w' := by
  obtain ⟨i0, hi, hz0, hz1, hz2⟩ := info_parts Tryd.infoBool
  have hmk := run_makeSlice (P := Tryd.prog) w 83 4 i0 _ Tryd.underlying83 hi hz0 .i64 .i64 (n : Int) (n : Int) (by omega) (Int.le_refl _) (by rw [hz1]; simp; omega) (by rw [hz2]; omega) (by omega)
  rw [hz1] at hmk
  simp only [Int.toNat_natCast, Nat.mul_one] at hmk
  obtain ⟨CC, hCC⟩ : ∃ CC, madeCells (Value.bool false).cells n = CC := ⟨_, rfl⟩
  have hel : ∀ j, j < n → CC[j]? = some (.bool false) := fun j hj => by rw [← hCC]; simp [madeCells, Value.cells, hj, Nat.mod_one]
  have hsz : CC.size = n := by rw [← hCC]; exact size_madeCells _ _
  rw [hCC] at hmk
  clear hi hz0 hz1 hz2 hCC
  have g1 : (1 : Int) ≤ (n : Int) := by omega
  have g2 : (n : Int) ≤ 16 := by omega
  have g4 : id ≤ (n : Int) - 1 := by omega
  go_enter Tryd.func24, Tryd.ntmps24
  go_wp2
  obtain ⟨V, hVe⟩ : ∃ V, V = (w.alloc (.cells CC 4)).alloc (.cells #[.int .i64 id, .int .i64 n, .slice (some ⟨w.heap.size, 0, none⟩) n n, .int .i64 1, .int .i64 0, .bool false] 85) := ⟨_, rfl⟩
  have HV : Hid (RefNode V (w.heap.size + 1) w.heap.size id n (fun _ => false) 1 0 false) := by
    rw [hVe]
    have c : ∀ (i : Nat) (v : Value), (#[.int .i64 id, .int .i64 n, .slice (some ⟨w.heap.size, 0, none⟩) n n, .int .i64 1, .int .i64 0, .bool false] : Array Value)[i]? = some v → ((w.alloc (.cells CC 4)).alloc (.cells #[.int .i64 id, .int .i64 n, .slice (some ⟨w.heap.size, 0, none⟩) n n, .int .i64 1, .int .i64 0, .bool false] 85)).cell? ⟨w.heap.size + 1, i, none⟩ = some v := fun i v hi => by
      simp
      simpa using hi
    refine ⟨c 0 _ rfl, c 1 _ rfl, c 2 _ rfl, c 3 _ rfl, c 4 _ rfl, c 5 _ rfl, fun i => by simp, fun j hj => ?_, fun j => ?_, by omega, by simp, by simp; omega⟩
    · rw [World.cell?_alloc_lt _ _ _ (by simp)]
      have := hel j hj
      simp
      simpa using this
    · simp
  have hB : Below w.heap.size w V := by rw [hVe]; exact ((Below.refl _ _).alloc (Nat.le_refl _) _).alloc (by simp) _
  rw [← hVe]
  clear hVe hel hsz hmk
  go_loopw [29] (fun v wr => ∃ q : Nat, q ≤ n ∧ v = .int .i64 q ∧ Hid (RefNode wr (w.heap.size + 1) w.heap.size id n (fun j => decide (j < q)) 1 0 false) ∧ Hid (Below w.heap.size w wr)) (fun v _ => n - (intOf v).toNat)
  case atStart => exact ⟨0, Nat.zero_le _, rfl, HV.out.same (fun j hj => by simp), hB⟩
  case round =>
    obtain ⟨q, hq, rfl, hN, hTu⟩ := hrel
    by_cases hlt : q < n
    · have HNX : Hid (RefNode (wr.setCell ⟨w.heap.size, q, none⟩ (.bool true)) (w.heap.size + 1) w.heap.size id n (fun j => decide (j < q + 1)) 1 0 false) := (hN.out.take q true hlt).same fun j _ => by
        by_cases y : j = q
        · subst y; rw [if_pos rfl]; exact decide_eq_true (by omega)
        · rw [if_neg y]; by_cases v : j < q
          · rw [decide_eq_true v]; exact decide_eq_true (by omega)
          · rw [decide_eq_false v]; exact decide_eq_false (by omega)
      have HTX : Hid (Below w.heap.size w (wr.setCell ⟨w.heap.size, q, none⟩ (.bool true))) := hTu.out.setCell (p := ⟨w.heap.size, q, none⟩) (Nat.le_refl _) _
      obtain ⟨c0, c1, c2, c3, c4, c5, z, row, zr, ne', lp', lq'⟩ := hN.out
      have r0 := row q hlt
      have zq := zr q
      clear z zr row c1 c3 c4 c5
      have kk : (q : Int) < (n : Int) := by omega
      go_wp2
      exact ⟨⟨q + 1, by omega, by go_num, HNX, HTX⟩, by simp [intOf]; omega⟩
    · obtain rfl : q = n := by omega
      have HF : Hid (RefNode wr (w.heap.size + 1) w.heap.size id q (fun _ => true) 1 0 false) := hN.out.same (fun j hj => (decide_eq_true hj).symm)
      go_wp2
      go_ret2
      exact ⟨rfl, HF.out, hTu.out⟩
end Go.Proofs.YtjppjdocncmkdabDoor
