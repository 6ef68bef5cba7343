/- The program's sender: its word Send (7.1). -/
import Derived.Test.YtdmokcnoljlogaaGreatDoorPSdr
import Derived.Test.YtdmokcnoljlogaaGreatDoorDelOwn
namespace Go.Proofs.YtdmokcnoljlogaaGreatDoor
open Go.RowKit

theorem PSendr.keep {w' : World} {w : World} {B P : Nat} {bag queue : Int} {all : List ByteArray} {v : Value} {went : Nat} {last now : Int} (h : PSendr w B P bag queue all v went last now) (k : Same (P :: v.ownBlock.toList) w w') : PSendr w' B P bag queue all v went last now := by
  have hp : P ∈ P :: v.ownBlock.toList := List.mem_cons.2 (.inl rfl)
  exact ⟨(k.cell (p := ⟨P, 0, none⟩) hp).trans h.c0, (k.cell (p := ⟨P, 1, none⟩) hp).trans h.c1, (k.cell (p := ⟨P, 2, none⟩) hp).trans h.c2, (k.cell (p := ⟨P, 3, none⟩) hp).trans h.c3, (k.cell (p := ⟨P, 4, none⟩) hp).trans h.c4, (k.cell (p := ⟨P, 5, none⟩) hp).trans h.c5, fun i => (k.frozen (p := ⟨P, i, none⟩) hp).trans (h.z i), owns_same h.own k (fun g hg => List.mem_cons.2 (.inr (by simpa using hg))), h.lp, Nat.le_trans h.lb k.1, h.we⟩

theorem ordN_next (k : Nat) : Int.tmod (ordN k) 255 + 1 = ordN (k + 1) := by
  have h := ordN_in k
  rw [Int.tmod_eq_emod_of_nonneg h.1, ← ordN_step]
  unfold stepN
  split <;> omega

set_option maxRecDepth 100000 in
set_option maxHeartbeats 2000000 in
theorem release_any {w : World} {B P : Nat} {bag queue : Int} {all : List ByteArray} {v : Value} {went : Nat} {last now : Int} (h : PSendr w B P bag queue all v went last now) (t : Int) (ht0 : 0 ≤ t) (ht : t ≤ 1099511627776) (hb0 : 0 ≤ bag) (hb : bag ≤ 1099511627776) (hw : went < all.length) (ha : all.length ≤ 10000000) :
    Calls Tryz.prog 86 #[.pointer (some ⟨P, 0, none⟩), .int .i64 t] w fun e w' => e = .returned (.agg #[.int .i64 (ordN went), .string (all.getD went ByteArray.empty)]) ∧ ∃ v', PSendr w' B P bag queue all v' (went + 1) t now ∧ Turns P (v.ownBlock.getD P) w w' ∧ v'.ownBlock = v.ownBlock := by
  obtain ⟨c0, c1, c2, c3, c4, c5, z, own, lp, lb, we⟩ := h
  have hv : v ≠ .slice none 0 0 := by
    rintro rfl
    have := own.1
    rcases own.2 with ⟨_, e⟩ | ⟨g, cap, cur, e, _⟩
    · omega
    · cases e
  rw [← Lib.map_encStr] at own
  obtain ⟨g, cap, rfl, hg, hgl, hcap, hm, hlen, hH⟩ := Lib.holds_of_ownsRow own hv
  have g0 : w.cell? ⟨g, 0, none⟩ = some (.string (all.getD went ByteArray.empty)) := by
    have := (hH 0 (by simp; omega)).1
    rw [Nat.zero_add] at this
    rw [this]
    have e1 : (List.map (fun x : ByteArray => x.data.toList) (List.drop went all)).toArray[0]! = (all.getD went ByteArray.empty).data.toList := by
      rw [getElem!_pos _ _ (by simp; omega)]
      simp [List.getD, List.getElem?_eq_getElem hw]
    rw [e1]
  have HOwn : Hid (w.ownsRow B 9 1 (.slice (some ⟨g, 0, none⟩) (all.length - went) cap) (all.length - went) ((all.drop went).map Value.string)) := by rw [← Lib.map_encStr]; exact own
  have HZ : Hid (∀ i, w.frozen? ⟨P, i, none⟩ = false) := z
  obtain ⟨n, hn⟩ : ∃ n, all.length - went = n := ⟨_, rfl⟩
  have HN : Hid (all.length - went = n ∧ went < all.length) := ⟨hn, hw⟩
  rw [hn] at c2 hcap HOwn ⊢
  have n0 : 0 < n := by omega
  have n1 : n ≤ 10000000 := by omega
  have hgP : g ≠ P := by omega
  generalize all.getD went ByteArray.empty = D at *
  obtain ⟨V, hV⟩ : ∃ V, w.alloc (.cells #[.int .i64 0, .string ⟨#[]⟩] 159) = V := ⟨_, rfl⟩
  have hB : Below w.heap.size w V := by rw [← hV]; exact (Below.refl w.heap.size w).alloc (Nat.le_refl _) _
  have hVs : V.heap.size = w.heap.size + 1 := by rw [← hV]; simp
  have r0 : V.cell? ⟨w.heap.size, 0, none⟩ = some (.int .i64 0) := by rw [← hV]; simp
  have r1 : V.cell? ⟨w.heap.size, 1, none⟩ = some (.string ⟨#[]⟩) := by rw [← hV]; simp
  have rz : ∀ i, V.frozen? ⟨w.heap.size, i, none⟩ = false := fun i => by rw [← hV]; simp
  have cc : ∀ i, V.cell? ⟨P, i, none⟩ = w.cell? ⟨P, i, none⟩ := fun i => hB.cell (p := ⟨P, i, none⟩) (show P < w.heap.size by omega)
  have y0 := (cc 0).trans c0
  have y1 := (cc 1).trans c1
  have y2 := (cc 2).trans c2
  have y3 := (cc 3).trans c3
  have y5 := (cc 5).trans c5
  have yg := (hB.cell (p := ⟨g, 0, none⟩) hgl).trans g0
  have HB : Hid (Below w.heap.size w V) := hB
  have lP : P < w.heap.size := by omega
  obtain ⟨U, hU⟩ : ∃ U, (V.alloc (.cells #[.int .i64 (ordN went), .string D] 159)).drew = U := ⟨_, rfl⟩
  have hUB : Below V.heap.size V U := by rw [← hU]; exact ⟨rfl, rfl, rfl, by simp, fun c hc => ((Below.refl V.heap.size V).alloc (Nat.le_refl _) _).block c hc⟩
  have hUs : U.heap.size = w.heap.size + 1 + 1 := by rw [← hU, ← hVs]; simp
  have x0 : U.cell? ⟨w.heap.size + 1, 0, none⟩ = some (.int .i64 (ordN went)) := by rw [← hU, ← hVs]; simp
  have x1 : U.cell? ⟨w.heap.size + 1, 1, none⟩ = some (.string D) := by rw [← hU, ← hVs]; simp
  have hOU : U.ownsRow B 9 1 (.slice (some ⟨g, 0, none⟩) n cap) n ((all.drop went).map Value.string) := by
    refine owns_same (X := [g]) HOwn.out ⟨by omega, fun c hc => ?_⟩ (fun g' hg' => ?_)
    · have : c = g := by simpa using hc
      subst this
      exact (hUB.block c (by omega)).trans (hB.block c hgl)
    · have : g = g' := by simpa [Value.ownBlock] using hg'
      simp [this]
  have hD := del_own hOU n0
  have HUB : Hid (Below V.heap.size V U) := hUB
  have uc : ∀ i, U.cell? ⟨P, i, none⟩ = w.cell? ⟨P, i, none⟩ := fun i => (hUB.cell (p := ⟨P, i, none⟩) (show P < V.heap.size by omega)).trans (cc i)
  have u2 := (uc 2).trans c2
  have HU : Hid (∀ i, U.cell? ⟨P, i, none⟩ = w.cell? ⟨P, i, none⟩) := uc
  have HUZ : Hid (∀ i, U.frozen? ⟨P, i, none⟩ = false) := fun i => ((hUB.frozen (p := ⟨P, i, none⟩) (show P < V.heap.size by omega)).trans (hB.frozen (p := ⟨P, i, none⟩) lP)).trans (HZ.out i)
  have HU0 : Hid (U.cell? ⟨w.heap.size, 0, none⟩ = some (.int .i64 0)) := (hUB.cell (p := ⟨w.heap.size, 0, none⟩) (show w.heap.size < V.heap.size by omega)).trans r0
  have HU1 : Hid (U.cell? ⟨w.heap.size, 1, none⟩ = some (.string ⟨#[]⟩)) := (hUB.cell (p := ⟨w.heap.size, 1, none⟩) (show w.heap.size < V.heap.size by omega)).trans r1
  have HRZ : Hid (∀ i, U.frozen? ⟨w.heap.size, i, none⟩ = false) := fun i => (hUB.frozen (p := ⟨w.heap.size, i, none⟩) (show w.heap.size < V.heap.size by omega)).trans (rz i)
  have HX0 : Hid (U.cell? ⟨w.heap.size + 1, 0, none⟩ = some (.int .i64 (ordN went))) := x0
  have HX1 : Hid (U.cell? ⟨w.heap.size + 1, 1, none⟩ = some (.string D)) := x1
  have HC : Hid (w.cell? ⟨P, 0, none⟩ = some (.int .i64 bag) ∧ w.cell? ⟨P, 1, none⟩ = some (.int .i64 queue) ∧ w.cell? ⟨P, 3, none⟩ = some (.int .i64 now) ∧ w.cell? ⟨P, 4, none⟩ = some (.int .i64 (freeV went last bag)) ∧ w.cell? ⟨P, 5, none⟩ = some (.int .i64 (ordN went))) := ⟨c0, c1, c3, c4, c5⟩
  have HWU : Hid (Turns P g w U) := ⟨hUB.os.trans hB.os, hUB.tape.trans hB.tape, hUB.output.trans hB.output, by omega, fun c hc _ _ => (hUB.block c (by omega)).trans (hB.block c hc)⟩
  have o1 := ordN_in went
  have hnx := ordN_next went
  generalize ordN went = Y at *
  have hX : 0 ≤ Int.tmod Y 255 ∧ Int.tmod Y 255 < 255 := by rw [Int.tmod_eq_emod_of_nonneg o1.1]; omega
  generalize hXe : Int.tmod Y 255 = X at *
  have HNX : Hid (X + 1 = ordN (went + 1)) := hnx
  clear own hH z hn hw ha we hlen hv cc c0 c1 c2 c3 c4 c5 g0 hB hUB uc x0 x1 rz hnx
  go_enter Tryz.func86, Tryz.ntmps86
  go_wp2_with fail
  go_region
  go_wp2_with fail
  refine hD.mono ?_
  rintro e W ⟨rfl, hOW, hT⟩
  have lU : P < U.heap.size := by omega
  have wc : ∀ i, W.cell? ⟨P, i, none⟩ = w.cell? ⟨P, i, none⟩ := fun i => (hT.cell (p := ⟨P, i, none⟩) lU (Ne.symm hgP) (Ne.symm hgP)).trans (HU.out i)
  have w0 := (wc 0).trans HC.out.1
  have w1 := (wc 1).trans HC.out.2.1
  have w2 := (hT.cell (p := ⟨P, 2, none⟩) lU (Ne.symm hgP) (Ne.symm hgP)).trans u2
  have w3 := (wc 3).trans HC.out.2.2.1
  have w4 := (wc 4).trans HC.out.2.2.2.1
  have w5 := (wc 5).trans HC.out.2.2.2.2
  have wz : ∀ i, W.frozen? ⟨P, i, none⟩ = false := fun i => (hT.frozen (p := ⟨P, i, none⟩) lU (Ne.symm hgP) (Ne.symm hgP)).trans (HUZ.out i)
  have z2 := wz 2
  have z4 := wz 4
  have z5 := wz 5
  have hr : w.heap.size ≠ g := by omega
  have hx : w.heap.size + 1 ≠ g := by omega
  have lr : w.heap.size < U.heap.size := by omega
  have lx : w.heap.size + 1 < U.heap.size := by omega
  have q0 := (hT.cell (p := ⟨w.heap.size, 0, none⟩) lr hr hr).trans HU0.out
  have q1 := (hT.cell (p := ⟨w.heap.size, 1, none⟩) lr hr hr).trans HU1.out
  have qz : ∀ i, W.frozen? ⟨w.heap.size, i, none⟩ = false := fun i => (hT.frozen (p := ⟨w.heap.size, i, none⟩) lr hr hr).trans (HRZ.out i)
  have qz0 := qz 0
  have qz1 := qz 1
  have x0 := (hT.cell (p := ⟨w.heap.size + 1, 0, none⟩) lx hx hx).trans HX0.out
  have x1 := (hT.cell (p := ⟨w.heap.size + 1, 1, none⟩) lx hx hx).trans HX1.out
  have lW : w.heap.size + 1 + 1 ≤ W.heap.size := by have := hT.size; omega
  have HT : Hid (Turns g g U W) := hT
  have HOW : Hid (W.ownsRow B 9 1 (.slice (some ⟨g, 0, none⟩) (n - 1) cap) (n - 1) ((all.drop (went + 1)).map Value.string)) := by
    rw [List.drop_drop] at hOW
    exact hOW
  have HWZ : Hid (∀ i, W.frozen? ⟨P, i, none⟩ = false) := wz
  clear wc wz qz hT hOW hD hOU hU hV
  go_wp2
  obtain ⟨W3, hW3⟩ : ∃ W3, ((W.setCell ⟨P, 2, none⟩ (.slice (some ⟨g, 0, none⟩) (n - 1) cap)).setCell ⟨P, 4, none⟩ (.int .i64 (t + bag))).setCell ⟨P, 5, none⟩ (.int .i64 (X + 1)) = W3 := ⟨_, rfl⟩
  rw [hW3]
  have hS3 : W3.heap.size = W.heap.size := by rw [← hW3]; simp
  have fin : PSendr W3 B P bag queue all (.slice (some ⟨g, 0, none⟩) (n - 1) cap) (went + 1) t now := by
    have e0 := HN.out
    refine ⟨?_, ?_, ?_, ?_, ?_, ?_, fun i => ?_, ?_, lp, by omega, by omega⟩
    · rw [← hW3]; exact (cell_other (.inr (by decide))).trans ((cell_other (.inr (by decide))).trans ((cell_other (.inr (by decide))).trans w0))
    · rw [← hW3]; exact (cell_other (.inr (by decide))).trans ((cell_other (.inr (by decide))).trans ((cell_other (.inr (by decide))).trans w1))
    · rw [← hW3]; exact (cell_other (.inr (by decide))).trans ((cell_other (.inr (by decide))).trans (cell_set w2))
    · rw [← hW3]; exact (cell_other (.inr (by decide))).trans ((cell_other (.inr (by decide))).trans ((cell_other (.inr (by decide))).trans w3))
    · rw [← hW3, show freeV (went + 1) t bag = t + bag from if_neg (by omega)]; exact (cell_other (.inr (by decide))).trans (cell_set ((cell_other (.inr (by decide))).trans w4))
    · rw [← hW3, ← HNX.out]; exact cell_set ((cell_other (.inr (by decide))).trans ((cell_other (.inr (by decide))).trans w5))
    · rw [← hW3]; exact soft_set.trans (soft_set.trans (soft_set.trans (HWZ.out i)))
    · rw [show all.length - (went + 1) = n - 1 by omega, ← hW3]
      exact owns_put (owns_put (owns_put HOW.out lp) lp) lp
  have t3 : Turns P g w W3 := by
    refine HWU.out.trans (Turns.trans ⟨HT.out.os, HT.out.tape, HT.out.output, HT.out.size, fun c hc _ h2 => HT.out.block c hc h2 h2⟩ ?_)
    rw [← hW3]
    exact (((Turns.refl P g W).set (p := ⟨P, 2, none⟩) (.inl rfl) _).set (p := ⟨P, 4, none⟩) (.inl rfl) _).set (p := ⟨P, 5, none⟩) (.inl rfl) _
  have q0' : W3.cell? ⟨w.heap.size, 0, none⟩ = some (.int .i64 0) := by rw [← hW3]; exact (cell_other (.inl (by omega))).trans ((cell_other (.inl (by omega))).trans ((cell_other (.inl (by omega))).trans q0))
  have q1' : W3.cell? ⟨w.heap.size, 1, none⟩ = some (.string ⟨#[]⟩) := by rw [← hW3]; exact (cell_other (.inl (by omega))).trans ((cell_other (.inl (by omega))).trans ((cell_other (.inl (by omega))).trans q1))
  have s0 : ((W3.setCell ⟨w.heap.size, 0, none⟩ (.int .i64 Y)).setCell ⟨w.heap.size, 1, none⟩ (.string D)).cell? ⟨w.heap.size, 0, none⟩ = some (.int .i64 Y) := (cell_other (.inr (by decide))).trans (cell_set q0')
  have s1 : ((W3.setCell ⟨w.heap.size, 0, none⟩ (.int .i64 Y)).setCell ⟨w.heap.size, 1, none⟩ (.string D)).cell? ⟨w.heap.size, 1, none⟩ = some (.string D) := cell_set ((cell_other (.inr (by decide))).trans q1')
  have ht5 : Turns w.heap.size w.heap.size W3 ((W3.setCell ⟨w.heap.size, 0, none⟩ (.int .i64 Y)).setCell ⟨w.heap.size, 1, none⟩ (.string D)) := ((Turns.refl _ _ _).set (p := ⟨w.heap.size, 0, none⟩) (.inl rfl) _).set (p := ⟨w.heap.size, 1, none⟩) (.inl rfl) _
  have fin5 := fin.keep (w' := (W3.setCell ⟨w.heap.size, 0, none⟩ (.int .i64 Y)).setCell ⟨w.heap.size, 1, none⟩ (.string D)) ⟨ht5.size, fun c hc => by
    have : c = P ∨ c = g := by simpa [Value.ownBlock] using hc
    exact ht5.block c (by omega) (by omega) (by omega)⟩
  refine bodyPost_ret (v := .agg #[.int .i64 Y, .string D]) (by simp [results, Tryz.results86, go_sem, s0, s1]) rfl ⟨rfl, _, fin5, ?_, rfl⟩
  exact ⟨ht5.os.trans t3.os, ht5.tape.trans t3.tape, ht5.output.trans t3.output, Nat.le_trans t3.size ht5.size, fun c hc h1 h2 => (ht5.block c (by have := t3.size; omega) (by omega) (by omega)).trans (t3.block c hc h1 h2)⟩
end Go.Proofs.YtdmokcnoljlogaaGreatDoor
