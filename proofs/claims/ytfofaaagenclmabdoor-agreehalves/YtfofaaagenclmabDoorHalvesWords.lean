/-
  AgreeHalves in plain words: what the clocks show, how they are read, what they show behind a round.
-/
import Derived.Test.YtfofaaagenclmabDoorAgreeStep
import Derived.Test.YtfofaaagenclmabDoorFirstBad
import Derived.Lib.Slices
namespace Go.Proofs.YtfofaaagenclmabDoor
open Go.RowKit

def pk (a n : Int) : Int := a % 18446744073709551616 % n
theorem pk_in {a n : Int} (h : 0 < n) : 0 ≤ pk a n ∧ pk a n < n := ⟨Int.emod_nonneg _ (by omega), Int.emod_lt_of_pos _ h⟩

/-- What a clock shows. -/
def nowV (cs : List Int) (i : Nat) : Int := pk (cs.getD i 0) 1073741824 - 536870912
theorem nowV_in (cs : List Int) (i : Nat) : -536870912 ≤ nowV cs i ∧ nowV cs i < 536870912 := by
  have := pk_in (a := cs.getD i 0) (n := 1073741824) (by decide)
  unfold nowV
  omega
def atV (l : List Int) (k : Int) : Int := if l.length = 0 then 0 else l.getD (pk k l.length).toNat 0
/-- How one clock reads another one. -/
def rowV (cs lies wrong : List Int) (n f : Nat) (u : Int) (i k : Nat) : Int :=
  if k < f then pk (atV lies ((i : Int) * n + k)) 17179869184 - 8589934592 else nowV cs k - nowV cs i + (pk (atV wrong ((i : Int) * n + k)) (2 * u + 1) - u)
theorem rowV_in (cs lies wrong : List Int) (n f : Nat) (u : Int) (h0 : 0 ≤ u) (h1 : u ≤ 1000) (i k : Nat) : -8589934592 ≤ rowV cs lies wrong n f u i k ∧ rowV cs lies wrong n f u i k ≤ 8589934592 := by
  unfold rowV
  split
  · have := pk_in (a := atV lies ((i : Int) * n + k)) (n := 17179869184) (by decide)
    omega
  · have := pk_in (a := atV wrong ((i : Int) * n + k)) (n := 2 * u + 1) (by omega)
    have := nowV_in cs i
    have := nowV_in cs k
    omega
theorem rowV_right (cs lies wrong : List Int) (n f : Nat) (u : Int) (h0 : 0 ≤ u) (i k : Nat) (hk : f ≤ k) : nowV cs k - nowV cs i - u ≤ rowV cs lies wrong n f u i k ∧ rowV cs lies wrong n f u i k ≤ nowV cs k - nowV cs i + u := by
  unfold rowV
  rw [if_neg (by omega)]
  have := pk_in (a := atV wrong ((i : Int) * n + k)) (n := 2 * u + 1) (by omega)
  omega

def nowL (cs : List Int) (k : Nat) : List Int := (List.range k).map (nowV cs)
def rowL (cs lies wrong : List Int) (n f : Nat) (u : Int) (i k : Nat) : List Int := (List.range k).map (rowV cs lies wrong n f u i)
def rowsL (cs lies wrong : List Int) (n f : Nat) (u : Int) : List (List Int) := (List.range n).map fun i => rowL cs lies wrong n f u i n
def rightL (cs : List Int) (f k : Nat) : List Int := (List.range k).map fun j => nowV cs (f + j)
theorem nowL_len (cs : List Int) (k : Nat) : (nowL cs k).length = k := by simp [nowL]
theorem rightL_len (cs : List Int) (f k : Nat) : (rightL cs f k).length = k := by simp [rightL]
theorem rowL_len (cs lies wrong : List Int) (n f : Nat) (u : Int) (i k : Nat) : (rowL cs lies wrong n f u i k).length = k := by simp [rowL]
theorem rowsL_len (cs lies wrong : List Int) (n f : Nat) (u : Int) : (rowsL cs lies wrong n f u).length = n := by simp [rowsL]
theorem nowL_succ (cs : List Int) (k : Nat) : nowL cs (k + 1) = nowL cs k ++ [nowV cs k] := by simp [nowL, List.range_succ]
theorem rightL_succ (cs : List Int) (f k : Nat) : rightL cs f (k + 1) = rightL cs f k ++ [nowV cs (f + k)] := by simp [rightL, List.range_succ]
theorem rowL_succ (cs lies wrong : List Int) (n f : Nat) (u : Int) (i k : Nat) : rowL cs lies wrong n f u i (k + 1) = rowL cs lies wrong n f u i k ++ [rowV cs lies wrong n f u i k] := by simp [rowL, List.range_succ]
theorem getD_map (g : Nat → Int) {n j : Nat} (h : j < n) : ((List.range n).map g).getD j 0 = g j := by simp [List.getD, h]
theorem getD_rows (cs lies wrong : List Int) (n f : Nat) (u : Int) {j : Nat} (h : j < n) : (rowsL cs lies wrong n f u).getD j [] = rowL cs lies wrong n f u j n := by simp [rowsL, List.getD, h]

theorem any_far {l : List Int} (h : ∀ x ∈ l, -1099511627776 ≤ x ∧ x ≤ 1099511627776) : l.any far = false := by
  rw [List.any_eq_false]
  intro x hx
  rw [far_false.2 (h x hx)]
  decide

/-- Nothing is wrong with any clock. -/
theorem steps_fine (cs lies wrong : List Int) (n f : Nat) (u : Int) (h0 : 0 ≤ u) (h1 : u ≤ 1000) (h3 : 3 * f + 1 ≤ n) : ∀ j, j < n → stepErr n ((nowL cs n).getD j 0) ((rowsL cs lies wrong n f u).getD j []) f = 0 := by
  intro j hj
  have hn := nowV_in cs j
  have e1 : (nowL cs n).getD j 0 = nowV cs j := getD_map _ hj
  rw [getD_rows cs lies wrong n f u hj, e1]
  rw [stepErr_mid (rowL_len ..) (far_false.2 (by omega))]
  refine midErr_0 (by rw [rowL_len]; omega) (any_far fun x hx => ?_)
  obtain ⟨k, hk, rfl⟩ := List.mem_map.1 hx
  have := rowV_in cs lies wrong n f u h0 h1 j k
  omega

/-- What clocks show behind the round. -/
def outV (cs lies wrong : List Int) (n f : Nat) (u : Int) (j : Nat) : Int := setOn n f (nowV cs) (rowV cs lies wrong n f u) j
theorem outs (cs lies wrong : List Int) (n f : Nat) (u : Int) (h0 : 0 ≤ u) (h1 : u ≤ 1000) (h3 : 3 * f + 1 ≤ n) : setTo (nowL cs n) (rowsL cs lies wrong n f u) f n = (List.range n).map (outV cs lies wrong n f u) := by
  unfold setTo
  refine List.map_congr_left fun j hj => ?_
  have hj := List.mem_range.1 hj
  have hz := steps_fine cs lies wrong n f u h0 h1 h3 j hj
  rw [getD_rows cs lies wrong n f u hj] at hz ⊢
  have e1 : (nowL cs n).getD j 0 = nowV cs j := getD_map _ hj
  rw [e1, midVal_ok (stepErr_zero hz).2.2]
  rfl

theorem fold_max (l : List Int) : ∀ a : Int, a ≤ l.foldl max a ∧ (∀ x ∈ l, x ≤ l.foldl max a) ∧ (l.foldl max a = a ∨ l.foldl max a ∈ l) := by
  induction l with
  | nil => intro a; exact ⟨Int.le_refl _, fun x hx => (List.not_mem_nil hx).elim, .inl rfl⟩
  | cons y l ih =>
    intro a
    obtain ⟨h1, h2, h3⟩ := ih (max a y)
    rw [List.foldl_cons]
    refine ⟨by omega, fun x hx => ?_, ?_⟩
    · rcases List.mem_cons.1 hx with rfl | hx
      · omega
      · exact h2 x hx
    · rcases h3 with h3 | h3
      · rw [h3]
        rcases Int.le_total a y with q | q
        · right; rw [Int.max_eq_right q]; exact List.mem_cons_self
        · left; exact Int.max_eq_left q
      · right; exact List.mem_cons_of_mem _ h3
theorem fold_min (l : List Int) : ∀ a : Int, l.foldl min a ≤ a ∧ (∀ x ∈ l, l.foldl min a ≤ x) ∧ (l.foldl min a = a ∨ l.foldl min a ∈ l) := by
  induction l with
  | nil => intro a; exact ⟨Int.le_refl _, fun x hx => (List.not_mem_nil hx).elim, .inl rfl⟩
  | cons y l ih =>
    intro a
    obtain ⟨h1, h2, h3⟩ := ih (min a y)
    rw [List.foldl_cons]
    refine ⟨by omega, fun x hx => ?_, ?_⟩
    · rcases List.mem_cons.1 hx with rfl | hx
      · omega
      · exact h2 x hx
    · rcases h3 with h3 | h3
      · rw [h3]
        rcases Int.le_total a y with q | q
        · left; exact Int.min_eq_left q
        · right; rw [Int.min_eq_right q]; exact List.mem_cons_self
      · right; exact List.mem_cons_of_mem _ h3
theorem max_of {l : List Int} (h : l ≠ []) : Lib.maxOf l ∈ l ∧ ∀ x ∈ l, x ≤ Lib.maxOf l := by
  cases l with
  | nil => exact absurd rfl h
  | cons y l =>
    unfold Lib.maxOf
    obtain ⟨h1, h2, h3⟩ := fold_max (y :: l) y
    refine ⟨?_, h2⟩
    rcases h3 with h3 | h3
    · show List.foldl _ y (y :: l) ∈ _
      rw [h3]; exact List.mem_cons_self
    · exact h3
theorem min_of {l : List Int} (h : l ≠ []) : Lib.minOf l ∈ l ∧ ∀ x ∈ l, Lib.minOf l ≤ x := by
  cases l with
  | nil => exact absurd rfl h
  | cons y l =>
    unfold Lib.minOf
    obtain ⟨h1, h2, h3⟩ := fold_min (y :: l) y
    refine ⟨?_, h2⟩
    rcases h3 with h3 | h3
    · show List.foldl _ y (y :: l) ∈ _
      rw [h3]; exact List.mem_cons_self
    · exact h3
def spr (l : List Int) : Int := Lib.maxOf l - Lib.minOf l

/-- What those that are right show behind the round. -/
def isL (cs lies wrong : List Int) (n f : Nat) (u : Int) (m : Nat) : List Int := (List.range m).map fun j => outV cs lies wrong n f u (f + j)
theorem isL_len (cs lies wrong : List Int) (n f : Nat) (u : Int) (m : Nat) : (isL cs lies wrong n f u m).length = m := by simp [isL]

theorem right_mem {cs : List Int} {f n k : Nat} (h1 : f ≤ k) (h2 : k < n) : nowV cs k ∈ rightL cs f (n - f) :=
  List.mem_map.2 ⟨k - f, List.mem_range.2 (by omega), by rw [Nat.add_sub_cancel' h1]⟩

theorem outV_in (cs lies wrong : List Int) (n f : Nat) (u : Int) (h0 : 0 ≤ u) (h3 : 3 * f + 1 ≤ n) (lo hi : Int) (hlo : ∀ x ∈ rightL cs f (n - f), lo ≤ x) (hhi : ∀ x ∈ rightL cs f (n - f), x ≤ hi) (j : Nat) (hj : j < n - f) :
    lo - u ≤ outV cs lies wrong n f u (f + j) ∧ outV cs lies wrong n f u (f + j) ≤ hi + u :=
  within n f u lo hi (nowV cs) (rowV cs lies wrong n f u) h3 (fun i k _ _ hk _ => rowV_right cs lies wrong n f u h0 i k hk) (fun k h1 h2 => hlo _ (right_mem h1 h2)) (fun k h1 h2 => hhi _ (right_mem h1 h2)) (f + j) (by omega) (by omega)

theorem right_in (cs : List Int) (f m : Nat) : ∀ x ∈ rightL cs f m, -536870912 ≤ x ∧ x ≤ 536870912 := fun x hx => by
  obtain ⟨j, _, rfl⟩ := List.mem_map.1 hx
  have := nowV_in cs (f + j)
  omega

theorem spread_ok (cs lies wrong : List Int) (n f : Nat) (u : Int) (h0 : 0 ≤ u) (h3 : 3 * f + 1 ≤ n) :
    spr (isL cs lies wrong n f u (n - f)) ≤ spr (rightL cs f (n - f)) / 2 + 2 * u + 1 := by
  have e1 : isL cs lies wrong n f u (n - f) ≠ [] := fun e => by have := isL_len cs lies wrong n f u (n - f); rw [e] at this; simp at this; omega
  have e2 : rightL cs f (n - f) ≠ [] := fun e => by have := rightL_len cs f (n - f); rw [e] at this; simp at this; omega
  obtain ⟨a, ha, ea⟩ := List.mem_map.1 (max_of e1).1
  obtain ⟨b, hb, eb⟩ := List.mem_map.1 (min_of e1).1
  have ha := List.mem_range.1 ha
  have hb := List.mem_range.1 hb
  unfold spr
  rw [← ea, ← eb]
  exact halves n f u _ _ (nowV cs) (rowV cs lies wrong n f u) h3 (fun i k _ _ hk _ => rowV_right cs lies wrong n f u h0 i k hk) (fun k h1 h2 => (min_of e2).2 _ (right_mem h1 h2)) (fun k h1 h2 => (max_of e2).2 _ (right_mem h1 h2)) (f + a) (f + b) (by omega) (by omega) (by omega) (by omega)

theorem isL_in (cs lies wrong : List Int) (n f : Nat) (u : Int) (h0 : 0 ≤ u) (h1 : u ≤ 1000) (h3 : 3 * f + 1 ≤ n) : ∀ x ∈ isL cs lies wrong n f u (n - f), -1073741824 ≤ x ∧ x ≤ 1073741824 := fun x hx => by
  obtain ⟨j, hj, rfl⟩ := List.mem_map.1 hx
  have := outV_in cs lies wrong n f u h0 h3 (-536870912) 536870912 (fun x hx => (right_in cs f (n - f) x hx).1) (fun x hx => (right_in cs f (n - f) x hx).2) j (List.mem_range.1 hj)
  omega

/-- The least, and the greatest one, of the first so many. -/
def lowTo (cs : List Int) (f k : Nat) : Int := (rightL cs f k).foldl min (nowV cs f)
def highTo (cs : List Int) (f k : Nat) : Int := (rightL cs f k).foldl max (nowV cs f)
theorem lowTo_succ (cs : List Int) (f k : Nat) : lowTo cs f (k + 1) = min (lowTo cs f k) (nowV cs (f + k)) := by
  unfold lowTo; rw [rightL_succ, List.foldl_append]; rfl
theorem highTo_succ (cs : List Int) (f k : Nat) : highTo cs f (k + 1) = max (highTo cs f k) (nowV cs (f + k)) := by
  unfold highTo; rw [rightL_succ, List.foldl_append]; rfl
theorem lowTo_in (cs : List Int) (f k : Nat) : -536870912 ≤ lowTo cs f k ∧ lowTo cs f k ≤ 536870912 := by
  have := nowV_in cs f
  unfold lowTo
  rcases (fold_min (rightL cs f k) (nowV cs f)).2.2 with h | h
  · rw [h]; omega
  · exact right_in cs f k _ h
theorem highTo_in (cs : List Int) (f k : Nat) : -536870912 ≤ highTo cs f k ∧ highTo cs f k ≤ 536870912 := by
  have := nowV_in cs f
  unfold highTo
  rcases (fold_max (rightL cs f k) (nowV cs f)).2.2 with h | h
  · rw [h]; omega
  · exact right_in cs f k _ h
theorem last_ok (cs lies wrong : List Int) (n f : Nat) (u : Int) (h0 : 0 ≤ u) (h3 : 3 * f + 1 ≤ n) (j : Nat) (hj : j < n - f) :
    lowTo cs f (n - f) - u ≤ outV cs lies wrong n f u (f + j) ∧ outV cs lies wrong n f u (f + j) ≤ highTo cs f (n - f) + u :=
  outV_in cs lies wrong n f u h0 h3 _ _ (fold_min _ _).2.1 (fold_max _ _).2.1 j hj
end Go.Proofs.YtfofaaagenclmabDoor
