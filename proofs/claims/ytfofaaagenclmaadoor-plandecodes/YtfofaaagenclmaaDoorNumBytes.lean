/- Numbers' bytes, seven bits each, the least ones first (plain); rows of one's own. -/
import Derived.Test.YtfofaaagenclmaaDoorProg
import Derived.Test.YtfofaaagenclmaaDoorOpenRows
import Derived.WalkKit
import Derived.WalkSpells
import Derived.WalkLawsBesides
namespace Go.Proofs.YtfofaaagenclmaaDoor
open Go.RowKit

/-- A number's bytes (the first argument: at most so many more). -/
def numB : Nat → Nat → List Int
  | 0, n => [(n : Int)]
  | k + 1, n => if n < 128 then [(n : Int)] else ((n % 128 : Nat) + 128 : Int) :: numB k (n / 128)

theorem numB_len : ∀ k n, 1 ≤ (numB k n).length ∧ (numB k n).length ≤ k + 1
  | 0, n => by simp [numB]
  | k + 1, n => by
    unfold numB
    split
    · simp
    · have := numB_len k (n / 128)
      simp
      omega

theorem Tryd.infoByte : (Tryd.prog.info? 5).map (fun i => (i.zero, i.size, i.bytes)) = some (some (.int .u8 0), 1, 1) := by kernel_rfl

/-- What is owned stays owned where new memory alone is made. -/
theorem owns_below {w w' : World} {base : Nat} {e : TypeId} {size : Nat} {v : Value} {n : Nat} {xs : List Value} (h : w.ownsRow base e size v n xs) (hb : Below w.heap.size w w') : w'.ownsRow base e size v n xs := by
  obtain ⟨h1, h2⟩ := h
  refine ⟨h1, ?_⟩
  rcases h2 with h2 | ⟨g, cap, cur, rfl, hg, hh, r⟩
  · exact .inl h2
  · refine .inr ⟨g, cap, cur, rfl, hg, ?_, r⟩
    have hlt : g < w.heap.size := by
      rcases Nat.lt_or_ge g w.heap.size with q | q
      · exact q
      · rw [Array.getElem?_eq_none q] at hh; cases hh
    rw [hb.block g hlt]; exact hh

/-- A new row of one cell is owned. -/
theorem owns_lit (w : World) (x : Value) (e : TypeId) : (w.alloc (.cells #[x] e)).ownsRow w.heap.size e 1 (.slice (some ⟨w.heap.size, 0, none⟩) 1 1) 1 [x] :=
  ⟨by simp, .inr ⟨w.heap.size, 1, #[x], rfl, Nat.le_refl _, by show (w.heap.push _)[w.heap.size]? = _; simp, Nat.le_refl _, by simp [maxLen], rfl, rfl⟩⟩
theorem owns_mono {w : World} {base base' : Nat} {e : TypeId} {size : Nat} {v : Value} {n : Nat} {xs : List Value} (h : w.ownsRow base e size v n xs) (hb : base' ≤ base) : w.ownsRow base' e size v n xs := by
  obtain ⟨h1, h2⟩ := h
  refine ⟨h1, ?_⟩
  rcases h2 with h2 | ⟨g, cap, cur, hv, hg, r⟩
  · exact .inl h2
  · exact .inr ⟨g, cap, cur, hv, Nat.le_trans hb hg, r⟩
/-- A row that is owned and has something in it. -/
theorem owns_some {w : World} {base : Nat} {e : TypeId} {v : Value} {n : Nat} {xs : List Value} (h : w.ownsRow base e 1 v n xs) (hn : 1 ≤ n) :
    ∃ g cap, v = .slice (some ⟨g, 0, none⟩) n cap ∧ base ≤ g ∧ ∀ j u, xs[j]? = some u → w.cell? ((⟨g, 0, none⟩ : Addr).add j) = some u := by
  rcases h.2 with ⟨_, h0⟩ | ⟨g, cap, cur, hv, hg, r⟩
  · omega
  · exact ⟨g, cap, hv, hg, fun j u hj => h.cells (g := g) (by rw [hv]; rfl) j u hj⟩

def slotsTo (nd fr to : Nat → Int) (k : Nat) : List Int := (List.range k).flatMap fun j => [nd j, fr j, to j]
theorem slotsTo_succ (nd fr to : Nat → Int) (k : Nat) : slotsTo nd fr to (k + 1) = slotsTo nd fr to k ++ [nd k, fr k, to k] := by
  simp [slotsTo, List.range_succ, List.flatMap_append]
theorem slotsTo_len (nd fr to : Nat → Int) (k : Nat) : (slotsTo nd fr to k).length = 3 * k := by
  induction k with
  | zero => simp [slotsTo]
  | succ k ih => rw [slotsTo_succ, List.length_append, ih]; simp; omega
def linksTo (lf lt lb lq : Nat → Int) (k : Nat) : List Int := (List.range k).flatMap fun j => [lf j, lt j, lb j, lq j]
theorem linksTo_succ (lf lt lb lq : Nat → Int) (k : Nat) : linksTo lf lt lb lq (k + 1) = linksTo lf lt lb lq k ++ [lf k, lt k, lb k, lq k] := by
  simp [linksTo, List.range_succ, List.flatMap_append]
theorem linksTo_len (lf lt lb lq : Nat → Int) (k : Nat) : (linksTo lf lt lb lq k).length = 4 * k := by
  induction k with
  | zero => simp [linksTo]
  | succ k ih => rw [linksTo_succ, List.length_append, ih]; simp; omega

/-- The bytes of the first k numbers. -/
def bytesTo (L : List Int) (k : Nat) : List Int := (L.take k).flatMap fun x => numB 5 x.toNat
theorem bytesTo_succ (L : List Int) (k : Nat) (h : k < L.length) : bytesTo L (k + 1) = bytesTo L k ++ numB 5 (L[k]).toNat := by
  unfold bytesTo
  rw [List.take_succ_eq_append_getElem h, List.flatMap_append]
  simp
theorem bytesTo_len (L : List Int) : ∀ k, k ≤ L.length → (bytesTo L k).length ≤ 6 * k := by
  intro k
  induction k with
  | zero => simp [bytesTo]
  | succ k ih =>
    intro h
    rw [bytesTo_succ L k (by omega), List.length_append]
    have := numB_len 5 (L[k]).toNat
    have := ih (by omega)
    omega

theorem bytesTo_pos (L : List Int) (k : Nat) (h : k < L.length) : 1 ≤ (bytesTo L (k + 1)).length := by
  rw [bytesTo_succ L k h, List.length_append]
  have := numB_len 5 (L[k]).toNat
  omega
theorem bytes_one (l : List Int) : ∀ u ∈ l.map (Value.int .u8), u.oneCell' = true := fun u hu => by
  simp at hu; obtain ⟨a, _, rfl⟩ := hu; rfl

theorem Tryd.infoInt : (Tryd.prog.info? 3).map (fun i => (i.zero, i.size, i.bytes)) = some (some (.int .i64 0), 1, 8) := by kernel_rfl

/-- A row that has just been laid is owned, and its cells are there. -/
theorem owns_row (w : World) (cur : Array Value) (e : TypeId) (n : Nat) (hn : cur.size = n) (hm : n ≤ maxLen) (base : Nat) (hb : base ≤ w.heap.size) : (w.alloc (.cells cur e)).ownsRow base e 1 (.slice (some ⟨w.heap.size, 0, none⟩) n n) n cur.toList :=
  ⟨by simp [hn], .inr ⟨w.heap.size, n, cur, rfl, hb, by show (w.heap.push _)[w.heap.size]? = _; simp, Nat.le_refl _, hm, by omega, List.take_of_length_le (by simp [hn])⟩⟩
theorem row_cells (w : World) (cur : Array Value) (e : TypeId) : ∀ j u, cur.toList[j]? = some u → (w.alloc (.cells cur e)).cell? ((⟨w.heap.size, 0, none⟩ : Addr).add j) = some u := by
  intro j u hj
  rw [add_plain]
  simp at hj ⊢
  simpa using hj
theorem ints_one (l : List Int) : ∀ u ∈ l.map (Value.int .i64), u.oneCell' = true := fun u hu => by
  simp at hu; obtain ⟨a, _, rfl⟩ := hu; rfl

def planNums (nodes faulty skew jitter drift round frame : Int) (ns nl nw : Nat) (nd fr to lf lt lb lq wp wf wt : Nat → Int) : List Int := ((([nodes, faulty, skew, jitter, drift, round, (ns : Int)] ++ slotsTo nd fr to ns ++ [(nl : Int)]) ++ linksTo lf lt lb lq nl) ++ [frame, (nw : Int)] ++ slotsTo wp wf wt nw)
theorem planNums_len (nodes faulty skew jitter drift round frame : Int) (ns nl nw : Nat) (nd fr to lf lt lb lq wp wf wt : Nat → Int) : (planNums nodes faulty skew jitter drift round frame ns nl nw nd fr to lf lt lb lq wp wf wt).length = 10 + 3 * ns + 4 * nl + 3 * nw := by
  simp [planNums, slotsTo_len, linksTo_len]; omega

end Go.Proofs.YtfofaaagenclmaaDoor
