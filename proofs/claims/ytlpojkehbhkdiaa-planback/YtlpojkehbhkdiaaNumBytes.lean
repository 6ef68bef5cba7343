/- Numbers' bytes, seven bits each, the least ones first (plain); rows of one's own. -/
import Derived.Test.YtlpojkehbhkdiaaProg
import Derived.Test.YtlpojkehbhkdiaaOwnInts
import Derived.Test.YtlpojkehbhkdiaaOpenRows
import Derived.WalkKit
import Derived.WalkSpells
import Derived.WalkLawsBesides
namespace Go.Proofs.Ytlpojkehbhkdiaa
open Go.RowKit

/-- A number's bytes (the first argument: at most so many more). -/
def numB : Nat → Nat → List Int
  | 0, n => [(n : Int)]
  | k + 1, n => if n < 128 then [(n : Int)] else ((n % 128 : Nat) + 128 : Int) :: numB k (n / 128)

theorem numB_len : ∀ k n, 1 ≤ (numB k n).length ∧ (numB k n).length ≤ k + 1
  | 0, n => by simp [numB]
  | k + 1, n => by
    unfold numB
    split
    · simp
    · have := numB_len k (n / 128)
      simp
      omega

theorem Try.infoByte : (Try.prog.info? 5).map (fun i => (i.zero, i.size, i.bytes)) = some (some (.int .u8 0), 1, 1) := by kernel_rfl

def slotsTo (nd fr to : Nat → Int) (k : Nat) : List Int := (List.range k).flatMap fun j => [nd j, fr j, to j]
theorem slotsTo_succ (nd fr to : Nat → Int) (k : Nat) : slotsTo nd fr to (k + 1) = slotsTo nd fr to k ++ [nd k, fr k, to k] := by
  simp [slotsTo, List.range_succ, List.flatMap_append]
theorem slotsTo_len (nd fr to : Nat → Int) (k : Nat) : (slotsTo nd fr to k).length = 3 * k := by
  induction k with
  | zero => simp [slotsTo]
  | succ k ih => rw [slotsTo_succ, List.length_append, ih]; simp; omega
def linksN (lf lt lb lq : Nat → Int) (k : Nat) : List Int := (List.range k).flatMap fun j => [lf j, lt j, lb j, lq j]
theorem linksN_succ (lf lt lb lq : Nat → Int) (k : Nat) : linksN lf lt lb lq (k + 1) = linksN lf lt lb lq k ++ [lf k, lt k, lb k, lq k] := by
  simp [linksN, List.range_succ, List.flatMap_append]
theorem linksN_len (lf lt lb lq : Nat → Int) (k : Nat) : (linksN lf lt lb lq k).length = 4 * k := by
  induction k with
  | zero => simp [linksN]
  | succ k ih => rw [linksN_succ, List.length_append, ih]; simp; omega

/-- The bytes of the first k numbers. -/
def bytesTo (L : List Int) (k : Nat) : List Int := (L.take k).flatMap fun x => numB 5 x.toNat
theorem bytesTo_succ (L : List Int) (k : Nat) (h : k < L.length) : bytesTo L (k + 1) = bytesTo L k ++ numB 5 (L[k]).toNat := by
  unfold bytesTo
  rw [List.take_succ_eq_append_getElem h, List.flatMap_append]
  simp
theorem bytesTo_len (L : List Int) : ∀ k, k ≤ L.length → (bytesTo L k).length ≤ 6 * k := by
  intro k
  induction k with
  | zero => simp [bytesTo]
  | succ k ih =>
    intro h
    rw [bytesTo_succ L k (by omega), List.length_append]
    have := numB_len 5 (L[k]).toNat
    have := ih (by omega)
    omega

theorem bytesTo_pos (L : List Int) (k : Nat) (h : k < L.length) : 1 ≤ (bytesTo L (k + 1)).length := by
  rw [bytesTo_succ L k h, List.length_append]
  have := numB_len 5 (L[k]).toNat
  omega
theorem bytes_one (l : List Int) : ∀ u ∈ l.map (Value.int .u8), u.oneCell' = true := fun u hu => by
  simp at hu; obtain ⟨a, _, rfl⟩ := hu; rfl

def planNums (nodes faulty skew jitter drift round frame : Int) (ns nl nw : Nat) (nd fr to lf lt lb lq wp wf wt : Nat → Int) : List Int := ((([nodes, faulty, skew, jitter, drift, round, (ns : Int)] ++ slotsTo nd fr to ns ++ [(nl : Int)]) ++ linksN lf lt lb lq nl) ++ [frame, (nw : Int)] ++ slotsTo wp wf wt nw)
theorem planNums_len (nodes faulty skew jitter drift round frame : Int) (ns nl nw : Nat) (nd fr to lf lt lb lq wp wf wt : Nat → Int) : (planNums nodes faulty skew jitter drift round frame ns nl nw nd fr to lf lt lb lq wp wf wt).length = 10 + 3 * ns + 4 * nl + 3 * nw := by
  simp [planNums, slotsTo_len, linksN_len]; omega

end Go.Proofs.Ytlpojkehbhkdiaa
