/- The program's sender: its word Send, whatever it is asked (7.1). -/
import Derived.Test.YtdmokcnoljlogaaGreatDoorPSend
namespace Go.Proofs.YtdmokcnoljlogaaGreatDoor
open Go.RowKit

set_option maxRecDepth 100000 in
set_option maxHeartbeats 2000000 in
theorem send_range (P : Nat) (t : Int) (w : World) (h1 : ¬ (0 ≤ t ∧ t ≤ 1099511627776)) :
    Calls Tryz.prog 70 #[.pointer (some ⟨P, 0, none⟩), .int .i64 t] w fun e w' => e = .returned (.tuple #[.agg #[.int .i64 0, emptyS], errV 2]) ∧ Below w.heap.size w w' := by
  by_cases k1 : t < 0
  · clear h1
    go_enter Tryz.func70, Tryz.ntmps70
    go_wp2
    exact bodyPost_ret (v := .tuple #[.agg #[.int .i64 0, .string ⟨#[]⟩], .iface 39 (.int .i64 2)]) (by simp [results, Tryz.results70, go_sem]) rfl ⟨rfl, (Below.refl _ _).alloc (Nat.le_refl _) _⟩
  · have k1' := decide_eq_false k1
    have k2 : 1099511627776 < t := by omega
    clear h1 k1
    go_enter Tryz.func70, Tryz.ntmps70
    go_wp2
    exact bodyPost_ret (v := .tuple #[.agg #[.int .i64 0, .string ⟨#[]⟩], .iface 39 (.int .i64 2)]) (by simp [results, Tryz.results70, go_sem]) rfl ⟨rfl, (Below.refl _ _).alloc (Nat.le_refl _) _⟩

set_option maxRecDepth 100000 in
set_option maxHeartbeats 2000000 in
theorem send_order {w : World} {B P : Nat} {bag queue : Int} {all : List ByteArray} {v : Value} {went : Nat} {last now : Int} (h : PSendr w B P bag queue all v went last now) (t : Int) (h1 : 0 ≤ t ∧ t ≤ 1099511627776) (h2 : t < now) :
    Calls Tryz.prog 70 #[.pointer (some ⟨P, 0, none⟩), .int .i64 t] w fun e w' => e = .returned (.tuple #[.agg #[.int .i64 0, emptyS], errV 10]) ∧ Below w.heap.size w w' := by
  obtain ⟨c0, c1, c2, c3, c4, c5, z, own, lp, lb, we⟩ := h
  have k1 : decide (t < 0) = false := decide_eq_false (by omega)
  have k2 : decide (1099511627776 < t) = false := decide_eq_false (by omega)
  have lP : P < w.heap.size := by omega
  clear z own h1 c0 c1 c2 c4 c5
  go_enter Tryz.func70, Tryz.ntmps70
  go_wp2
  exact bodyPost_ret (v := .tuple #[.agg #[.int .i64 0, .string ⟨#[]⟩], .iface 39 (.int .i64 10)]) (by simp [results, Tryz.results70, go_sem]) rfl ⟨rfl, (Below.refl _ _).alloc (Nat.le_refl _) _⟩

/-- A sender that was asked at t. -/
theorem PSendr.at_now {w' : World} {w : World} {B P : Nat} {bag queue : Int} {all : List ByteArray} {v : Value} {went : Nat} {last now : Int} (h : PSendr w B P bag queue all v went last now) (k : Below w.heap.size w w') (t : Int) : PSendr (w'.setCell ⟨P, 3, none⟩ (.int .i64 t)) B P bag queue all v went last t := by
  have lP : P < w.heap.size := by have := h.lp; have := h.lb; omega
  have cc : ∀ i, w'.cell? ⟨P, i, none⟩ = w.cell? ⟨P, i, none⟩ := fun i => k.cell (p := ⟨P, i, none⟩) lP
  exact ⟨(cell_other (.inr (by decide))).trans ((cc 0).trans h.c0), (cell_other (.inr (by decide))).trans ((cc 1).trans h.c1), (cell_other (.inr (by decide))).trans ((cc 2).trans h.c2), cell_set ((cc 3).trans h.c3), (cell_other (.inr (by decide))).trans ((cc 4).trans h.c4), (cell_other (.inr (by decide))).trans ((cc 5).trans h.c5), fun i => soft_set.trans ((k.frozen (p := ⟨P, i, none⟩) lP).trans (h.z i)), owns_put (owns_same (X := v.ownBlock.toList) h.own ⟨k.size, fun c hc => k.block c (h.own.lt c (by simpa using hc)).2⟩ (fun g hg => by simpa using hg)) h.lp, h.lp, by have := k.size; have := h.lb; simp; omega, h.we⟩

theorem PSendr.asked {w : World} {B P : Nat} {bag queue : Int} {all : List ByteArray} {v : Value} {went : Nat} {last now : Int} (h : PSendr w B P bag queue all v went last now) (t : Int) : PSendr ((w.setCell ⟨P, 3, none⟩ (.int .i64 t)).alloc (.cells #[.int .i64 0, .string ⟨#[]⟩] 159)) B P bag queue all v went last t ∧ Turns P P w ((w.setCell ⟨P, 3, none⟩ (.int .i64 t)).alloc (.cells #[.int .i64 0, .string ⟨#[]⟩] 159)) := by
  have h' := h.at_now (Below.refl _ _) t
  have ha : Below (w.setCell ⟨P, 3, none⟩ (.int .i64 t)).heap.size (w.setCell ⟨P, 3, none⟩ (.int .i64 t)) ((w.setCell ⟨P, 3, none⟩ (.int .i64 t)).alloc (.cells #[.int .i64 0, .string ⟨#[]⟩] 159)) := (Below.refl _ _).alloc (Nat.le_refl _) _
  refine ⟨h'.keep (Same.of_below ha fun c hc => ?_), ((Turns.refl P P w).set (p := ⟨P, 3, none⟩) (.inl rfl) _).trans (Turns.of_below ha)⟩
  rcases List.mem_cons.1 hc with y | y
  · have := h'.lp; have := h'.lb; omega
  · exact (h'.own.lt c (by simpa using y)).2

set_option maxRecDepth 100000 in
set_option maxHeartbeats 2000000 in
theorem send_none {w : World} {B P : Nat} {bag queue : Int} {all : List ByteArray} {v : Value} {went : Nat} {last now : Int} (h : PSendr w B P bag queue all v went last now) (t : Int) (h1 : 0 ≤ t ∧ t ≤ 1099511627776) (h2 : now ≤ t) (h3 : noneB all.length went t last bag = true) (ha : all.length ≤ 10000000) :
    Calls Tryz.prog 70 #[.pointer (some ⟨P, 0, none⟩), .int .i64 t] w fun e w' => e = .returned (.tuple #[.agg #[.int .i64 0, emptyS], errV 8]) ∧ PSendr w' B P bag queue all v went last t ∧ Turns P P w w' := by
  obtain ⟨HF0, HT0⟩ := h.asked t
  have HF : Hid (PSendr ((w.setCell ⟨P, 3, none⟩ (.int .i64 t)).alloc (.cells #[.int .i64 0, .string ⟨#[]⟩] 159)) B P bag queue all v went last t) := HF0
  have HT : Hid (Turns P P w ((w.setCell ⟨P, 3, none⟩ (.int .i64 t)).alloc (.cells #[.int .i64 0, .string ⟨#[]⟩] 159))) := HT0
  clear HF0 HT0
  obtain ⟨c0, c1, c2, c3, c4, c5, z, own, lp, lb, we⟩ := h
  have k1 : decide (t < 0) = false := decide_eq_false (by omega)
  have k2 : decide (1099511627776 < t) = false := decide_eq_false (by omega)
  have k3 : decide (t < now) = false := decide_eq_false (by omega)
  have lP : P < w.heap.size := by omega
  have z3 := z 3
  obtain ⟨a, cap, rfl⟩ := owns_form own
  have hn1 : all.length - went ≤ 10000000 := by omega
  unfold noneB at h3
  rw [Bool.or_eq_true, Bool.and_eq_true, decide_eq_true_eq, decide_eq_true_eq, decide_eq_true_eq] at h3
  have h4 : all.length - went = 0 ∨ (all.length - went ≠ 0 ∧ t < freeV went last bag) := by
    rcases Nat.eq_zero_or_pos (all.length - went) with q | q
    · exact .inl q
    · refine .inr ⟨by omega, ?_⟩
      rcases h3 with y | ⟨y, y2⟩
      · omega
      · rw [show freeV went last bag = last + bag from if_neg (by omega)]; exact y2
  clear z own h1 h2 h3 c0 c1 c5
  generalize all.length - went = n at *
  generalize freeV went last bag = fr at *
  rcases h4 with h4 | ⟨h4, h5⟩
  · subst h4
    go_enter Tryz.func70, Tryz.ntmps70
    go_wp2
    exact bodyPost_ret (v := .tuple #[.agg #[.int .i64 0, .string ⟨#[]⟩], .iface 39 (.int .i64 8)]) (by simp [results, Tryz.results70, go_sem]) rfl ⟨rfl, HF.out, HT.out⟩
  · have k4 : ((n : Int) == 0) = false := by simp; omega
    clear h4
    go_enter Tryz.func70, Tryz.ntmps70
    go_wp2
    exact bodyPost_ret (v := .tuple #[.agg #[.int .i64 0, .string ⟨#[]⟩], .iface 39 (.int .i64 8)]) (by simp [results, Tryz.results70, go_sem]) rfl ⟨rfl, HF.out, HT.out⟩

set_option maxRecDepth 100000 in
set_option maxHeartbeats 2000000 in
theorem send_ok {w : World} {B P : Nat} {bag queue : Int} {all : List ByteArray} {v : Value} {went : Nat} {last now : Int} (h : PSendr w B P bag queue all v went last now) (t : Int) (h1 : 0 ≤ t ∧ t ≤ 1099511627776) (h2 : now ≤ t) (h3 : noneB all.length went t last bag = false) (ha : all.length ≤ 10000000) (hb0 : 0 ≤ bag) (hb : bag ≤ 1099511627776) :
    Calls Tryz.prog 70 #[.pointer (some ⟨P, 0, none⟩), .int .i64 t] w fun e w' => e = .returned (.tuple #[.agg #[.int .i64 (ordN went), .string (all.getD went ByteArray.empty)], errV 0]) ∧ ∃ v', PSendr w' B P bag queue all v' (went + 1) t t ∧ Turns P (v.ownBlock.getD P) w w' ∧ v'.ownBlock = v.ownBlock := by
  have we0 := h.we
  have hgb : ∀ c, v.ownBlock = some c → B ≤ c := fun c hc => (h.own.lt c hc).1
  have hgl : ∀ c, v.ownBlock = some c → c < w.heap.size := fun c hc => (h.own.lt c hc).2
  unfold noneB at h3
  rw [Bool.or_eq_false_iff, Bool.and_eq_false_iff, decide_eq_false_iff_not, decide_eq_false_iff_not, decide_eq_false_iff_not] at h3
  have hw : went < all.length := by omega
  have h5 : ¬ t < freeV went last bag := by
    unfold freeV
    split
    · omega
    · omega
  obtain ⟨HF0, HT0⟩ := h.asked t
  obtain ⟨V, hV⟩ : ∃ V, (w.setCell ⟨P, 3, none⟩ (.int .i64 t)).alloc (.cells #[.int .i64 0, .string ⟨#[]⟩] 159) = V := ⟨_, rfl⟩
  have hVs : V.heap.size = w.heap.size + 1 := by rw [← hV]; simp
  obtain ⟨V0, h0⟩ : ∃ V0, w.setCell ⟨P, 3, none⟩ (.int .i64 t) = V0 := ⟨_, rfl⟩
  have e0 : V0.heap.size = w.heap.size := by rw [← h0]; simp
  have r0 : V.cell? ⟨w.heap.size, 0, none⟩ = some (.int .i64 0) := by rw [← hV, h0, ← e0]; simp
  have r1 : V.cell? ⟨w.heap.size, 1, none⟩ = some (.string ⟨#[]⟩) := by rw [← hV, h0, ← e0]; simp
  have rz : ∀ i, V.frozen? ⟨w.heap.size, i, none⟩ = false := fun i => by rw [← hV, h0, ← e0]; simp
  clear e0 h0
  rw [hV] at HF0 HT0
  have hR := release_any HF0 t h1.1 h1.2 hb0 hb hw ha
  have HV : Hid (Turns P P w V) := HT0
  obtain ⟨d0, d1, d2, d3, d4, d5, _, ownV, _, _, _⟩ := HF0
  obtain ⟨c0, c1, c2, c3, c4, c5, z, own, lp, lb, we⟩ := h
  have k1 : decide (t < 0) = false := decide_eq_false (by omega)
  have k2 : decide (1099511627776 < t) = false := decide_eq_false (by omega)
  have k3 : decide (t < now) = false := decide_eq_false (by omega)
  have k5 : decide (t < freeV went last bag) = false := decide_eq_false h5
  have lP : P < w.heap.size := by omega
  have z3 := z 3
  obtain ⟨a, cap, rfl⟩ := owns_form own
  have hn1 : all.length - went ≤ 10000000 := by omega
  have k4 : (((all.length - went : Nat) : Int) == 0) = false := by simp; omega
  have HR : Hid (V.cell? ⟨w.heap.size, 0, none⟩ = some (.int .i64 0) ∧ V.cell? ⟨w.heap.size, 1, none⟩ = some (.string ⟨#[]⟩) ∧ ∀ i, V.frozen? ⟨w.heap.size, i, none⟩ = false) := ⟨r0, r1, rz⟩
  have HG : Hid (∀ c, (Value.slice a (all.length - went) cap).ownBlock = some c → c < w.heap.size) := hgl
  clear z own h1 h2 h3 h5 c0 c1 c5 ownV we0 we hw HT0 hgl hgb r0 r1 rz
  generalize all.length - went = n at *
  generalize freeV went last bag = fr at *
  generalize all.getD went ByteArray.empty = D at *
  generalize ordN went = Y at *
  go_enter Tryz.func70, Tryz.ntmps70
  go_wp2_with fail
  refine hR.mono ?_
  rintro e W ⟨rfl, v', hS, hT, hat⟩
  have hbox : w.heap.size ≠ P ∧ w.heap.size ≠ (Value.slice a n cap).ownBlock.getD P := by
    refine ⟨by omega, ?_⟩
    cases e : (Value.slice a n cap).ownBlock with
    | none => show w.heap.size ≠ P; omega
    | some g => have := HG.out g e; show w.heap.size ≠ g; omega
  have q0 := (hT.cell (p := ⟨w.heap.size, 0, none⟩) (show w.heap.size < V.heap.size by omega) hbox.1 hbox.2).trans HR.out.1
  have q1 := (hT.cell (p := ⟨w.heap.size, 1, none⟩) (show w.heap.size < V.heap.size by omega) hbox.1 hbox.2).trans HR.out.2.1
  have qz : ∀ i, W.frozen? ⟨w.heap.size, i, none⟩ = false := fun i => (hT.frozen (p := ⟨w.heap.size, i, none⟩) (show w.heap.size < V.heap.size by omega) hbox.1 hbox.2).trans (HR.out.2.2 i)
  have qz0 := qz 0
  have qz1 := qz 1
  have lW : w.heap.size + 1 ≤ W.heap.size := by have := hT.size; omega
  have HS : Hid _ := hS
  have HT : Hid _ := hT
  have HA : Hid _ := hat
  have HB : Hid (w.heap.size ≠ P ∧ w.heap.size ≠ (Value.slice a n cap).ownBlock.getD P) := hbox
  clear hS hT hat hbox hR qz hV
  go_wp2
  have s0 : ((W.setCell ⟨w.heap.size, 0, none⟩ (.int .i64 Y)).setCell ⟨w.heap.size, 1, none⟩ (.string D)).cell? ⟨w.heap.size, 0, none⟩ = some (.int .i64 Y) := (cell_other (.inr (by decide))).trans (cell_set q0)
  have s1 : ((W.setCell ⟨w.heap.size, 0, none⟩ (.int .i64 Y)).setCell ⟨w.heap.size, 1, none⟩ (.string D)).cell? ⟨w.heap.size, 1, none⟩ = some (.string D) := cell_set ((cell_other (.inr (by decide))).trans q1)
  have ht5 : Turns w.heap.size w.heap.size W ((W.setCell ⟨w.heap.size, 0, none⟩ (.int .i64 Y)).setCell ⟨w.heap.size, 1, none⟩ (.string D)) := ((Turns.refl _ _ _).set (p := ⟨w.heap.size, 0, none⟩) (.inl rfl) _).set (p := ⟨w.heap.size, 1, none⟩) (.inl rfl) _
  have fin5 := HS.out.keep (w' := (W.setCell ⟨w.heap.size, 0, none⟩ (.int .i64 Y)).setCell ⟨w.heap.size, 1, none⟩ (.string D)) ⟨ht5.size, fun c hc => by
    rcases List.mem_cons.1 hc with y | y
    · exact ht5.block c (by omega) (by omega) (by omega)
    · rw [HA.out] at y
      have := HG.out c (by simpa using y)
      exact ht5.block c (by omega) (by omega) (by omega)⟩
  refine bodyPost_ret (v := .tuple #[.agg #[.int .i64 Y, .string D], .nilIface]) (by simp [results, Tryz.results70, go_sem, s0, s1]) rfl ⟨rfl, _, fin5, ?_, HA.out⟩
  have t2 := HV.out
  have t3 := HT.out
  exact ⟨(ht5.os.trans t3.os).trans t2.os, (ht5.tape.trans t3.tape).trans t2.tape, (ht5.output.trans t3.output).trans t2.output, by have := ht5.size; have := t3.size; omega, fun c hc h1 h2 => ((ht5.block c (by have := t3.size; omega) (by omega) (by omega)).trans (t3.block c (by omega) h1 h2)).trans (t2.block c hc h1 h1)⟩

theorem sdrSend {w : World} {O : List Nat} {P : Nat} {bag queue : Int} {all : List ByteArray} {went : Nat} {last now : Int} (h : Sdr w O P bag queue all went last now) (t : Int) (ha : all.length ≤ 10000000) (hl0 : 0 ≤ last) (hl : last ≤ 1099511627776) (hb0 : 0 ≤ bag) (hb : bag ≤ 1099511627776) :
    Calls Tryz.prog 70 #[.pointer (some ⟨P, 0, none⟩), .int .i64 t] w fun e w' => e = .returned (.tuple #[.agg #[.int .i64 (sendSeq (sendK all.length went t now last bag) went), .string (sendDat (sendK all.length went t now last bag) all went)], errV (sendK all.length went t now last bag)]) ∧
      ∃ O', Sdr w' O' P bag queue all (sendWent (sendK all.length went t now last bag) went) (sendLast (sendK all.length went t now last bag) t last) (sendNow (sendK all.length went t now last bag) t now) ∧ Foot O O' w w' := by
  have _ := hl0
  have _ := hl
  have hlt := h.lt
  have hS := h
  obtain ⟨v, h, rfl⟩ := h
  have hP : P ∈ P :: v.ownBlock.toList := List.mem_cons.2 (.inl rfl)
  unfold sendSeq sendDat sendWent sendLast sendNow sendK
  by_cases h1 : 0 ≤ t ∧ t ≤ 1099511627776
  · simp only [h1]
    by_cases h2 : t < now
    · simp only [if_pos h2]
      refine (send_order h t h1 h2).mono ?_
      rintro e w' ⟨rfl, hB⟩
      exact ⟨rfl, _, hS.keep (Same.of_below hB hlt), Foot.of_below hB⟩
    · simp only [if_neg h2]
      by_cases h3 : noneB all.length went t last bag = true
      · simp only [if_pos h3]
        refine (send_none h t h1 (by omega) h3 ha).mono ?_
        rintro e w' ⟨rfl, h', ht⟩
        exact ⟨rfl, _, ⟨v, h', rfl⟩, Foot.of_turns ht hP hP⟩
      · have h3' : noneB all.length went t last bag = false := by simpa using h3
        simp only [h3', Bool.false_eq_true, if_false]
        refine (send_ok h t h1 (by omega) h3' ha hb0 hb).mono ?_
        rintro e w' ⟨rfl, v', h', ht, hat⟩
        refine ⟨rfl, _, ⟨v', h', rfl⟩, ?_⟩
        rw [hat]
        refine Foot.of_turns ht hP ?_
        cases e : v.ownBlock with
        | none => exact List.mem_cons.2 (.inl rfl)
        | some g => exact List.mem_cons.2 (.inr (List.mem_singleton.2 rfl))
  · simp only [h1, not_false_eq_true, if_true]
    refine (send_range P t w h1).mono ?_
    rintro e w' ⟨rfl, hB⟩
    exact ⟨rfl, _, hS.keep (Same.of_below hB hlt), Foot.of_below hB⟩
end Go.Proofs.YtdmokcnoljlogaaGreatDoor
