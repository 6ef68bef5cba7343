/- The program's receiver: where it lies, and its words NewReceiver and Take (7.2). -/
import Derived.Test.YtdmokcnoljlogaaGreatDoorProg
import Derived.Test.YtdmokcnoljlogaaGreatDoorWordsB
import Derived.Test.YtdmokcnoljlogaaGreatDoorWordsA
import Derived.RegionTactic
import Derived.WalkSpells
import Derived.WalkLawsBesides
namespace Go.Proofs.YtdmokcnoljlogaaGreatDoor
open Go.RowKit

/-- What a receiver that has no newest number holds in its place. -/
def nwV (nw : Int) : Int := if nw < 0 then 0 else nw

/-- The program's receiver: its blocks O, its struct at P. -/
structure Rcv (w : World) (O : List Nat) (P : Nat) (nw a b : Int) : Prop where
  c0 : w.cell? ⟨P, 0, none⟩ = some (.bool (decide (0 ≤ nw)))
  c1 : w.cell? ⟨P, 1, none⟩ = some (.int .i64 (nwV nw))
  c2 : w.cell? ⟨P, 2, none⟩ = some (.int .i64 a)
  c3 : w.cell? ⟨P, 3, none⟩ = some (.int .i64 b)
  z : ∀ i, w.frozen? ⟨P, i, none⟩ = false
  lp : P < w.heap.size
  own : O = [P]
theorem Rcv.lt {w : World} {O : List Nat} {P : Nat} {nw a b : Int} (h : Rcv w O P nw a b) : ∀ c, c ∈ O → c < w.heap.size := by
  intro c hcc
  rw [h.own] at hcc
  have := h.lp
  simp only [List.mem_cons, List.not_mem_nil, or_false] at hcc
  omega
theorem Rcv.keep {w w' : World} {O : List Nat} {P : Nat} {nw a b : Int} (h : Rcv w O P nw a b) (k : Same O w w') : Rcv w' O P nw a b := by
  have hp : P ∈ O := by rw [h.own]; exact List.mem_cons.2 (.inl rfl)
  exact ⟨(k.cell (p := ⟨P, 0, none⟩) hp).trans h.c0, (k.cell (p := ⟨P, 1, none⟩) hp).trans h.c1, (k.cell (p := ⟨P, 2, none⟩) hp).trans h.c2, (k.cell (p := ⟨P, 3, none⟩) hp).trans h.c3, fun i => (k.frozen (p := ⟨P, i, none⟩) hp).trans (h.z i), Nat.lt_of_lt_of_le h.lp k.1, h.own⟩

set_option maxHeartbeats 1000000 in
theorem rcvNew (w : World) : Calls Tryz.prog 81 #[] w fun e w' => ∃ O P, e = .returned (.pointer (some ⟨P, 0, none⟩)) ∧ Rcv w' O P (-1) 0 0 ∧ Below w.heap.size w w' ∧ ∀ c, c ∈ O → w.heap.size ≤ c := by
  have fin : Rcv (w.alloc (.cells #[.bool false, .int .i64 0, .int .i64 0, .int .i64 0] 186)) [w.heap.size] w.heap.size (-1) 0 0 :=
    ⟨by simp, by simp [nwV], by simp, by simp, fun i => by simp, by simp, rfl⟩
  have HF : Hid _ := fin
  have HB : Hid (Below w.heap.size w (w.alloc (.cells #[.bool false, .int .i64 0, .int .i64 0, .int .i64 0] 186))) := (Below.refl _ _).alloc (Nat.le_refl _) _
  clear fin
  go_enter Tryz.func81, Tryz.ntmps81
  go_wp2
  go_ret
  exact ⟨_, _, rfl, HF.out, HB.out, fun c hc => by
    simp only [List.mem_cons, List.not_mem_nil, or_false] at hc
    omega⟩

/-- Whether a number is ahead of another one, as the program reckons it. -/
def aheadB (nw seq : Int) : Bool := decide (seq ≠ 0) && (decide (1 ≤ (seq - nw + 255) % 255) && decide ((seq - nw + 255) % 255 ≤ 127))
theorem ordN_self {k : Nat} (h : k ≤ 255) : ordN k = (k : Int) := by
  unfold ordN
  split <;> omega
theorem ahead_met {nw seq : Int} (h0 : 0 ≤ nw) (h1 : nw ≤ 255) (h2 : 0 ≤ seq) (h3 : seq ≤ 255) : metB nw seq 127 = aheadB nw seq := by
  obtain ⟨k, rfl⟩ : ∃ k : Nat, nw = k := ⟨nw.toNat, by omega⟩
  have hk : k ≤ 255 := by omega
  rw [Bool.eq_iff_iff, metB_iff]
  unfold aheadB
  rw [← ordN_self hk]
  simp only [ordN_steps, Bool.and_eq_true, decide_eq_true_eq]
  rw [ordN_self hk]
  constructor
  · rintro ⟨d, q1, q2, q3⟩
    unfold ordN at q3
    rw [if_neg (by omega)] at q3
    omega
  · rintro ⟨q1, q2, q3⟩
    refine ⟨((seq - k + 255) % 255).toNat, by omega, by omega, ?_⟩
    unfold ordN
    rw [if_neg (by omega)]
    omega

set_option maxHeartbeats 1000000 in
theorem ahead_any {nw seq : Int} (h0 : 0 ≤ nw) (h1 : nw ≤ 255) (h2 : 0 ≤ seq) (h3 : seq ≤ 255) (w : World) : Calls Tryz.prog 91 #[.int .i64 nw, .int .i64 seq] w fun e w' => e = .returned (.bool (aheadB nw seq)) ∧ w' = w := by
  unfold aheadB
  by_cases k0 : seq = 0
  · subst k0
    go_enter Tryz.func91, Tryz.ntmps91
    go_wp2
    go_ret
    exact ⟨by simp, rfl⟩
  · have k1 : (seq == 0) = false := by simpa using k0
    have hm : Int.tmod (seq - nw + 255) 255 = (seq - nw + 255) % 255 := Int.tmod_eq_emod_of_nonneg (by omega)
    have hx : 0 ≤ (seq - nw + 255) % 255 ∧ (seq - nw + 255) % 255 < 255 := by omega
    rw [decide_eq_true k0, Bool.true_and]
    generalize (seq - nw + 255) % 255 = x at *
    by_cases q1 : 1 ≤ x
    · by_cases q2 : x ≤ 127
      · rw [decide_eq_true q1, decide_eq_true q2]
        go_enter Tryz.func91, Tryz.ntmps91
        go_wp2
        go_ret
        exact ⟨rfl, rfl⟩
      · have q2' := decide_eq_false q2
        rw [decide_eq_true q1, q2']
        clear q2
        go_enter Tryz.func91, Tryz.ntmps91
        go_wp2
        go_ret
        exact ⟨rfl, rfl⟩
    · have q1' := decide_eq_false q1
      rw [q1', Bool.false_and]
      clear q1
      go_enter Tryz.func91, Tryz.ntmps91
      go_wp2
      go_ret
      exact ⟨rfl, rfl⟩

theorem takeB_low {nw seq : Int} (h : ¬ (0 ≤ seq ∧ seq ≤ 255)) : takeB nw seq = false := by
  unfold takeB
  rw [decide_eq_false h, Bool.false_and]
theorem takeB_none {nw seq : Int} (h : 0 ≤ seq ∧ seq ≤ 255) (hn : nw < 0) : takeB nw seq = true := by
  unfold takeB
  rw [decide_eq_true h, decide_eq_true hn]
  rfl
theorem takeB_ahead {nw seq : Int} (h : 0 ≤ seq ∧ seq ≤ 255) (hn : 0 ≤ nw) (h1 : nw ≤ 255) : takeB nw seq = aheadB nw seq := by
  unfold takeB
  rw [decide_eq_true h, decide_eq_false (by omega), ahead_met hn h1 h.1 h.2]
  rfl

set_option maxHeartbeats 1000000 in
theorem isNew_any {w : World} {O : List Nat} {P : Nat} {nw a b : Int} (h : Rcv w O P nw a b) (seq : Int) (hn2 : nw ≤ 255) :
    Calls Tryz.prog 87 #[.pointer (some ⟨P, 0, none⟩), .int .i64 seq] w fun e w' => e = .returned (.bool (takeB nw seq)) ∧ w' = w := by
  obtain ⟨c0, c1, c2, c3, z, lp, own⟩ := h
  clear z own
  by_cases k0 : seq < 0
  · rw [takeB_low (by omega)]
    go_enter Tryz.func87, Tryz.ntmps87
    go_wp2
    go_ret
    exact ⟨rfl, rfl⟩
  · by_cases k1 : 255 < seq
    · have k0' := decide_eq_false k0
      rw [takeB_low (by omega)]
      clear k0
      go_enter Tryz.func87, Tryz.ntmps87
      go_wp2
      go_ret
      exact ⟨rfl, rfl⟩
    · have hs : 0 ≤ seq ∧ seq ≤ 255 := by omega
      have k0' := decide_eq_false k0
      have k1' := decide_eq_false k1
      clear k0 k1
      by_cases hn : nw < 0
      · rw [takeB_none hs hn]
        rw [decide_eq_false (by omega)] at c0
        clear hs
        go_enter Tryz.func87, Tryz.ntmps87
        go_wp2
        go_ret
        exact ⟨rfl, rfl⟩
      · rw [takeB_ahead hs (by omega) hn2]
        rw [decide_eq_true (by omega)] at c0
        have e1 : nwV nw = nw := if_neg hn
        rw [e1] at c1
        have hA := ahead_any (nw := nw) (seq := seq) (by omega) hn2 hs.1 hs.2
        clear hn hs e1
        generalize aheadB nw seq = T at *
        go_enter Tryz.func87, Tryz.ntmps87
        go_wp2_with fail
        refine (hA _).mono ?_
        rintro e w1 ⟨rfl, q⟩
        replace q := q.symm
        subst q
        cases T
        · go_wp2
          go_ret
          exact ⟨rfl, rfl⟩
        · go_wp2
          go_ret
          exact ⟨rfl, rfl⟩

set_option maxHeartbeats 1000000 in
theorem rcvTake {w : World} {O : List Nat} {P : Nat} {nw a b : Int} (h : Rcv w O P nw a b) (seq : Int) (d : ByteArray) (hn2 : nw ≤ 255) (ha0 : 0 ≤ a) (ha : a ≤ 4611686018427387904) (hb0 : 0 ≤ b) (hb : b ≤ 4611686018427387904) :
    Calls Tryz.prog 73 #[.pointer (some ⟨P, 0, none⟩), .agg #[.int .i64 seq, .string d]] w fun e w' => e = .returned (.bool (takeB nw seq)) ∧ ∃ O', Rcv w' O' P (tkNew (takeB nw seq) seq nw) (tkTold (takeB nw seq) a) (tkNot (takeB nw seq) b) ∧ Foot O O' w w' := by
  have hI := fun (w' : World) (k : Same O w w') => isNew_any (h.keep k) seq hn2
  have hin := @takeB_in nw seq
  obtain ⟨T, hT⟩ : ∃ T, takeB nw seq = T := ⟨_, rfl⟩
  rw [hT] at hI hin ⊢
  clear hT
  obtain ⟨c0, c1, c2, c3, z, lp, rfl⟩ := h
  obtain ⟨V, hV⟩ : ∃ V, w.alloc (.cells #[.int .i64 seq, .string d] 159) = V := ⟨_, rfl⟩
  have hB : Below w.heap.size w V := by rw [← hV]; exact (Below.refl w.heap.size w).alloc (Nat.le_refl _) _
  have hIw := hI V (Same.of_below hB (fun c hc => by simp at hc; omega))
  have cc : ∀ i, V.cell? ⟨P, i, none⟩ = w.cell? ⟨P, i, none⟩ := fun i => hB.cell (p := ⟨P, i, none⟩) lp
  have HZ : Hid (∀ i, V.frozen? ⟨P, i, none⟩ = false) := fun i => (hB.frozen (p := ⟨P, i, none⟩) lp).trans (z i)
  have y0 := (cc 0).trans c0
  have y1 := (cc 1).trans c1
  have y2 := (cc 2).trans c2
  have y3 := (cc 3).trans c3
  have zz0 := HZ.out 0
  have zz1 := HZ.out 1
  have zz2 := HZ.out 2
  have zz3 := HZ.out 3
  have x0 : V.cell? ⟨w.heap.size, 0, none⟩ = some (.int .i64 seq) := by rw [← hV]; simp
  have hVs : V.heap.size = w.heap.size + 1 := by rw [← hV]; simp
  have lV : P < V.heap.size := by omega
  have HB : Hid (Below w.heap.size w V) := hB
  clear hI c0 c1 c2 c3 cc z hB
  cases T
  · clear hin
    have HF : Hid (Rcv (V.setCell ⟨P, 3, none⟩ (.int .i64 (b + 1))) [P] P nw a (b + 1)) := ⟨(cell_other (.inr (by decide))).trans y0, (cell_other (.inr (by decide))).trans y1, (cell_other (.inr (by decide))).trans y2, cell_set y3, fun i => soft_set.trans (HZ.out i), by simpa using lV, rfl⟩
    have HT : Hid (Foot [P] [P] w (V.setCell ⟨P, 3, none⟩ (.int .i64 (b + 1)))) := (Foot.of_below HB.out).trans (Foot.of_turns ((Turns.refl P P V).set (p := ⟨P, 3, none⟩) (.inl rfl) _) (List.mem_cons.2 (.inl rfl)) (List.mem_cons.2 (.inl rfl)))
    go_enter Tryz.func73, Tryz.ntmps73
    go_wp2_with fail
    refine hIw.mono ?_
    rintro e w1 ⟨rfl, q⟩
    replace q := q.symm
    subst q
    clear hIw hV
    go_wp2_with fail
    go_region
    go_wp2
    go_ret
    exact ⟨rfl, _, HF.out.keep ⟨Nat.le_refl _, fun _ _ => rfl⟩, HT.out.trans (Foot.drawn _ _ 1)⟩
  · have hs := hin rfl
    clear hin
    have HF : Hid (Rcv (((V.setCell ⟨P, 2, none⟩ (.int .i64 (a + 1))).setCell ⟨P, 0, none⟩ (.bool true)).setCell ⟨P, 1, none⟩ (.int .i64 seq)) [P] P seq (a + 1) b) := by
      refine ⟨?_, ?_, ?_, ?_, fun i => soft_set.trans (soft_set.trans (soft_set.trans (HZ.out i))), by simpa using lV, rfl⟩
      · rw [decide_eq_true hs.1]
        exact (cell_other (.inr (by decide))).trans (cell_set ((cell_other (.inr (by decide))).trans y0))
      · rw [show nwV seq = seq from if_neg (by omega)]
        exact cell_set ((cell_other (.inr (by decide))).trans ((cell_other (.inr (by decide))).trans y1))
      · exact (cell_other (.inr (by decide))).trans ((cell_other (.inr (by decide))).trans (cell_set y2))
      · exact (cell_other (.inr (by decide))).trans ((cell_other (.inr (by decide))).trans ((cell_other (.inr (by decide))).trans y3))
    have HT : Hid (Foot [P] [P] w (((V.setCell ⟨P, 2, none⟩ (.int .i64 (a + 1))).setCell ⟨P, 0, none⟩ (.bool true)).setCell ⟨P, 1, none⟩ (.int .i64 seq))) := (Foot.of_below HB.out).trans (Foot.of_turns ((((Turns.refl P P V).set (p := ⟨P, 2, none⟩) (.inl rfl) _).set (p := ⟨P, 0, none⟩) (.inl rfl) _).set (p := ⟨P, 1, none⟩) (.inl rfl) _) (List.mem_cons.2 (.inl rfl)) (List.mem_cons.2 (.inl rfl)))
    go_enter Tryz.func73, Tryz.ntmps73
    go_wp2_with fail
    refine hIw.mono ?_
    rintro e w1 ⟨rfl, q⟩
    replace q := q.symm
    subst q
    clear hIw hV
    go_wp2_with fail
    go_region
    go_wp2_with fail
    go_region
    go_wp2
    go_ret
    exact ⟨rfl, _, HF.out.keep ⟨Nat.le_refl _, fun _ _ => rfl⟩, HT.out.trans (Foot.drawn _ _ 2)⟩
end Go.Proofs.YtdmokcnoljlogaaGreatDoor
