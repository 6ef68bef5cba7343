/- The program's cluster: Spread, Rounds, which numbers are nodes', and links' (10.1). -/
import Derived.Test.YtdmokcnoljlogaaGreatDoorPCluA
import Derived.Test.YtdmokcnoljlogaaGreatDoorWordsB
import Derived.Test.YtdmokcnoljlogaaGreatDoorShelf
import Derived.Test.YtdmokcnoljlogaaGreatDoorWordsC
import Derived.OwnWalk
namespace Go.Proofs.YtdmokcnoljlogaaGreatDoor
open Go.RowKit

theorem fold_in : ∀ (l : List Int) (y lo hi : Int), (lo ≤ y ∧ y ≤ hi) → (∀ x ∈ l, lo ≤ x ∧ x ≤ hi) → (lo ≤ l.foldl max y ∧ l.foldl max y ≤ hi) ∧ lo ≤ l.foldl min y ∧ l.foldl min y ≤ hi := by
  intro l
  induction l with
  | nil => intro y lo hi hy _; exact ⟨hy, hy⟩
  | cons a l ih =>
    intro y lo hi hy h
    have ha := h a List.mem_cons_self
    exact ⟨(ih (max y a) lo hi (by omega) (fun x hx => h x (List.mem_cons_of_mem _ hx))).1, (ih (min y a) lo hi (by omega) (fun x hx => h x (List.mem_cons_of_mem _ hx))).2⟩

set_option maxHeartbeats 1000000 in
/-- agree.Spread. -/
theorem pspread_any (a : Option Addr) (cap : Nat) (l : List Int) (w : World) (hr : IntRow w a l) (hn : l.length ≤ 1000) (hin : ∀ x ∈ l, -2199023255552 ≤ x ∧ x ≤ 2199023255552) :
    Calls Tryz.prog 24 #[.slice a l.length cap] w fun e w' => e = .returned (.int .i64 (spreadL l)) ∧ w' = w := by
  rcases Nat.eq_zero_or_pos l.length with h0 | h0
  · have : l = [] := List.length_eq_zero_iff.1 h0
    subst this
    clear hr hin hn h0
    go_enter Tryz.func24, Tryz.ntmps24
    go_wp2
    go_ret
    exact ⟨rfl, rfl⟩
  obtain ⟨b, off, rfl, hb, hc⟩ := hr h0
  have hne : l ≠ [] := by rintro rfl; simp at h0
  have hm0 : ∃ y, l.headD 0 = y ∧ -2199023255552 ≤ y ∧ y ≤ 2199023255552 := by
    cases l with
    | nil => exact absurd rfl hne
    | cons y l => exact ⟨y, rfl, hin y List.mem_cons_self⟩
  obtain ⟨y0, hy0, hyb⟩ := hm0
  obtain ⟨⟨m1, m2⟩, m3, m4⟩ := fold_in l y0 (-2199023255552) 2199023255552 hyb hin
  have hM := Tryz.slices_Max_int b off l.length cap l w h0 (Nat.le_refl _) (by omega) hc
  have hm := Tryz.slices_Min_int b off l.length cap l w h0 (Nat.le_refl _) (by omega) hc
  rw [List.take_length] at hM hm
  have eM : Lib.maxOf l = l.foldl max y0 := by rw [← hy0]; rfl
  have em : Lib.minOf l = l.foldl min y0 := by rw [← hy0]; rfl
  rw [eM] at hM
  rw [em] at hm
  have HS : Hid (spreadL l = l.foldl max y0 - l.foldl min y0) := by show _ = _; rw [← hy0]; rfl
  rw [HS.out]
  have k1 : ((l.length : Int) == 0) = false := by simp; intro e; exact hne e
  generalize l.foldl max y0 = x at *
  generalize l.foldl min y0 = y at *
  generalize l.length = n at *
  clear hc hin hr hne eM em HS hy0
  go_enter Tryz.func24, Tryz.ntmps24
  go_wp2_with fail
  refine hM.mono ?_
  rintro e w1 ⟨rfl, rfl⟩
  go_wp2_with fail
  refine hm.mono ?_
  rintro e w1 ⟨rfl, rfl⟩
  go_wp2
  go_ret
  exact ⟨rfl, rfl⟩

/-- Those of the first k that do not lie. -/
def rightTo (fa : Int) (cs : List Int) (k : Nat) : List Int := ((List.range k).filter fun i => !bitI fa i).map fun i => cs.getD i 0
theorem rightTo_succ (fa : Int) (cs : List Int) (k : Nat) : rightTo fa cs (k + 1) = rightTo fa cs k ++ (if bitI fa k = true then [] else [cs.getD k 0]) := by
  unfold rightTo
  rw [List.range_succ, List.filter_append, List.map_append]
  congr 1
  cases h : bitI fa k <;> simp [h]
theorem rightTo_len (fa : Int) (cs : List Int) (k : Nat) : (rightTo fa cs k).length ≤ k := by
  unfold rightTo
  rw [List.length_map]
  exact Nat.le_trans (List.length_filter_le _ _) (by simp)
theorem getD_mem9 {l : List Int} {a : Nat} (h : a < l.length) : l.getD a 0 ∈ l := by
  simp [List.getD, List.getElem?_eq_getElem h]
theorem rightTo_mem {fa : Int} {cs : List Int} {k : Nat} (hk : k ≤ cs.length) {x : Int} (h : x ∈ rightTo fa cs k) : x ∈ cs := by
  obtain ⟨i, hi, rfl⟩ := List.mem_map.1 h
  have := List.mem_range.1 (List.mem_filter.1 hi).1
  exact getD_mem9 (by omega)
theorem owns_introw9 {w : World} {base n : Nat} {v : Value} {l : List Int} (h : w.ownsRow base 3 1 v n (l.map (Value.int .i64))) : ∃ a cap, v = .slice a l.length cap ∧ IntRow w a l ∧ l.length = n := by
  have hl : l.length = n := by have := h.1; simpa using this
  rcases h.2 with ⟨rfl, h0⟩ | ⟨g, cap, cur, rfl, hg, hh, _⟩
  · refine ⟨none, 0, by rw [hl, h0], fun q => absurd q (by omega), hl⟩
  · have hlt : g < w.heap.size := by
      rcases Nat.lt_or_ge g w.heap.size with q | q
      · exact q
      · rw [Array.getElem?_eq_none q] at hh; cases hh
    refine ⟨_, cap, by rw [hl], fun _ => ⟨g, 0, rfl, hlt, fun j hj => ?_⟩, hl⟩
    have := h.cells (g := g) rfl j (.int .i64 (l.getD j 0)) (by simp [List.getD, List.getElem?_eq_getElem hj])
    rw [add_at] at this
    exact this

set_option maxRecDepth 100000 in
set_option maxHeartbeats 2000000 in
theorem cspread_any (C : Nat) (fa : Int) (a : Option Addr) (cap : Nat) (cs : List Int) (w : World) (c10 : w.cell? ⟨C, 10, none⟩ = some (.int .i64 fa)) (c11 : w.cell? ⟨C, 11, none⟩ = some (.slice a cs.length cap)) (hr : IntRow w a cs) (hn : cs.length ≤ 16) (hin : ∀ x ∈ cs, -274877906944 ≤ x ∧ x ≤ 274877906944) :
    Calls Tryz.prog 10 #[.pointer (some ⟨C, 0, none⟩)] w fun e w' => e = .returned (.int .i64 (spreadL (rightOf fa cs))) ∧ Below w.heap.size w w' := by
  obtain ⟨n, hln⟩ : ∃ n, cs.length = n := ⟨_, rfl⟩
  have HL : Hid (cs.length = n) := hln
  have HIn : Hid (∀ x ∈ cs, -274877906944 ≤ x ∧ x ≤ 274877906944) := hin
  have HR : Hid (IntRow w a cs) := hr
  have hlC : C < w.heap.size := lt_of_cell9 c10
  obtain ⟨i0, hi, hz0, hz1, hz2⟩ := info_parts Tryz.infoInt
  rw [hln] at hn c11
  clear hin hr hln
  go_enter Tryz.func10, Tryz.ntmps10
  go_wp2_with fail
  go_loopw [3, 11] (fun lv t wr => ∃ k : Nat, k ≤ n ∧ t = .int .i64 k ∧ Hid (wr.ownsRow w.heap.size 3 1 lv (rightTo fa cs k).length ((rightTo fa cs k).map (Value.int .i64))) ∧ Hid (Below w.heap.size w wr)) (fun _ t _ => n - (intOf t).toNat)
  case atStart => exact ⟨0, Nat.zero_le _, rfl, World.ownsRow_nil _ _ _ _, Below.refl _ _⟩
  case round =>
    obtain ⟨k, hk, rfl, hown, hbe⟩ := hrel
    have y10 := (hbe.out.cell (p := ⟨C, 10, none⟩) hlC).trans c10
    have hlC2 : C < wr.heap.size := Nat.lt_of_lt_of_le hlC hbe.out.size
    by_cases hlt : k < n
    · have kk : (k : Int) < (n : Int) := by omega
      obtain ⟨b, off, rfl, hb, hc⟩ := HR.out (by rw [HL.out]; omega)
      have y0 := (hbe.out.cell (p := ⟨b, off + k, none⟩) hb).trans (hc k (by rw [HL.out]; exact hlt))
      have hbw : b < wr.heap.size := Nat.lt_of_lt_of_le hb hbe.out.size
      have HS : Hid (rightTo fa cs (k + 1) = rightTo fa cs k ++ (if bitI fa k = true then [] else [cs.getD k 0])) := rightTo_succ fa cs k
      have hrl := rightTo_len fa cs k
      have hli := chas_any fa k (by omega) wr
      have hs0 := hbe.out.size
      generalize cs.getD k 0 = CK at *
      generalize hRT : rightTo fa cs k = RT at *
      clear hc hRT
      cases hb2 : bitI fa k
      · rw [hb2] at hli
        rw [hb2, if_neg (by decide)] at HS
        go_wp2_with fail
        refine hli.mono ?_
        rintro ev w2 ⟨rfl, h⟩
        replace h := h.symm
        subst h
        have hOq : wr.ownsRow w.heap.size 3 1 u3 RT.length (RT.map (Value.int .i64)) := hown.out
        clear hli
        go_wp2_with (at_builtin; refine wpList_append_own _ rfl _ _ 27 rfl w.heap.size 3 i0 (.int .i64 0) 1 8 Tryz.underlying27 hi hz0 hz1 hz2 rfl (by decide) u3 _ _ rfl (hOq.alloc _) ⟨wr.heap.size, 0, none⟩ 1 1 [.int .i64 CK] rfl rfl (cell_one_new _ _ _) (ints_one [CK]) (by unfold maxLen; omega) (by omega) (by simp; omega) ?_; intro v' w3 hown' hgrow hnil)
        have hb3 : Below w.heap.size w w3 := (hbe.out.alloc hs0 _).grown hgrow (by simp; omega) (fun g hg => (hown.out.lt g hg).1)
        refine ⟨⟨k + 1, by omega, by go_num, ?_, hb3⟩, ?_⟩
        · rw [HS.out, List.map_append, List.length_append]
          exact hown'
        · simp [intOf]; omega
      · rw [hb2] at hli
        rw [hb2, if_pos rfl, List.append_nil] at HS
        go_wp2_with fail
        refine hli.mono ?_
        rintro ev w2 ⟨rfl, h⟩
        replace h := h.symm
        subst h
        clear hli
        go_wp2_with fail
        refine ⟨⟨k + 1, by omega, by go_num, ?_, hbe⟩, ?_⟩
        · rw [HS.out]
          exact hown.out
        · simp [intOf]; omega
    · have hkn : k = n := by omega
      obtain ⟨va, vcap, rfl, hir, hlen2⟩ := owns_introw9 hown.out
      have hsp := pspread_any va vcap (rightTo fa cs k) wr hir (Nat.le_trans (rightTo_len fa cs k) (by omega)) (fun x hx => by have := HIn.out x (rightTo_mem (by rw [HL.out]; exact hk) hx); omega)
      have HE : Hid (rightTo fa cs k = rightOf fa cs) := by show _ = _; rw [hkn, ← HL.out]; rfl
      have kk : decide (k < n) = false := decide_eq_false hlt
      clear hkn hlt hown hir hlen2
      go_wp2_with fail
      refine hsp.mono ?_
      rintro ev w2 ⟨rfl, h⟩
      replace h := h.symm
      subst h
      clear hsp
      go_wp2
      go_ret
      exact ⟨congrArg (fun x => Ending.returned (Value.int .i64 (spreadL x))) HE.out, hbe.out⟩

set_option maxHeartbeats 1000000 in
theorem crounds_any (C : Nat) (rd : Int) (w : World) (c12 : w.cell? ⟨C, 12, none⟩ = some (.int .i64 rd)) :
    Calls Tryz.prog 15 #[.pointer (some ⟨C, 0, none⟩)] w fun e w' => e = .returned (.int .i64 rd) ∧ w' = w := by
  have hlC : C < w.heap.size := lt_of_cell9 c12
  go_enter Tryz.func15, Tryz.ntmps15
  go_wp2
  go_ret
  exact ⟨rfl, rfl⟩

set_option maxHeartbeats 1000000 in
theorem cisNode_any (C : Nat) (nodes x : Int) (w : World) (c0 : w.cell? ⟨C, 0, none⟩ = some (.int .i64 nodes)) :
    Calls Tryz.prog 27 #[.pointer (some ⟨C, 0, none⟩), .int .i64 x] w fun e w' => e = .returned (.bool (decide (0 ≤ x ∧ x < nodes))) ∧ w' = w := by
  have hlC : C < w.heap.size := lt_of_cell9 c0
  by_cases k1 : 0 ≤ x
  · by_cases k2 : x < nodes
    · rw [decide_eq_true (show 0 ≤ x ∧ x < nodes from ⟨k1, k2⟩)]
      go_enter Tryz.func27, Tryz.ntmps27
      go_wp2
      go_ret
      exact ⟨rfl, rfl⟩
    · rw [decide_eq_false (show ¬ (0 ≤ x ∧ x < nodes) by omega)]
      have k2' : decide (x < nodes) = false := decide_eq_false k2
      clear k2
      go_enter Tryz.func27, Tryz.ntmps27
      go_wp2
      go_ret
      exact ⟨rfl, rfl⟩
  · rw [decide_eq_false (show ¬ (0 ≤ x ∧ x < nodes) by omega)]
    have k2' : decide (0 ≤ x) = false := decide_eq_false k1
    clear k1
    go_enter Tryz.func27, Tryz.ntmps27
    go_wp2
    go_ret
    exact ⟨rfl, rfl⟩

set_option maxHeartbeats 1000000 in
theorem cisLink_any (C : Nat) (la : Option Addr) (nl cap : Nat) (x : Int) (w : World) (c14 : w.cell? ⟨C, 14, none⟩ = some (.slice la nl cap)) :
    Calls Tryz.prog 25 #[.pointer (some ⟨C, 0, none⟩), .int .i64 x] w fun e w' => e = .returned (.bool (decide (0 ≤ x ∧ x < nl))) ∧ w' = w := by
  have hlC : C < w.heap.size := lt_of_cell9 c14
  by_cases k1 : 0 ≤ x
  · by_cases k2 : x < (nl : Int)
    · rw [decide_eq_true (show 0 ≤ x ∧ x < (nl : Int) from ⟨k1, k2⟩)]
      go_enter Tryz.func25, Tryz.ntmps25
      go_wp2
      go_ret
      exact ⟨rfl, rfl⟩
    · rw [decide_eq_false (show ¬ (0 ≤ x ∧ x < (nl : Int)) by omega)]
      have k2' : decide (x < (nl : Int)) = false := decide_eq_false k2
      clear k2
      go_enter Tryz.func25, Tryz.ntmps25
      go_wp2
      go_ret
      exact ⟨rfl, rfl⟩
  · rw [decide_eq_false (show ¬ (0 ≤ x ∧ x < (nl : Int)) by omega)]
    have k2' : decide (0 ≤ x) = false := decide_eq_false k1
    clear k1
    go_enter Tryz.func25, Tryz.ntmps25
    go_wp2
    go_ret
    exact ⟨rfl, rfl⟩
end Go.Proofs.YtdmokcnoljlogaaGreatDoor
