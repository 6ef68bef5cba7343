/- The document's answer's clock: copied field by field; and what it shows at a time. -/
import Derived.Test.YtpefdjdebglafabDoorProg
import Derived.Test.YtpefdjdebglafabDoorPlain
import Derived.WalkKit
import Derived.WalkSpells
import Derived.WalkLawsBesides
import Derived.Deep.QuietTactic
import Derived.BigQuiet
namespace Go.Proofs.YtpefdjdebglafabDoor
open Go.RowKit

set_option maxHeartbeats 1000000 in
theorem clock_any (f s n d : Int) (w : World) :
    Calls Tryd.prog 20 #[.agg #[.int .i64 f, .int .i64 s, .int .i64 n, .int .i64 d]] w fun e w' => e = .returned (.agg #[.int .i64 f, .int .i64 s, .int .i64 n, .int .i64 d]) ∧ Below w.heap.size w w' := by
  go_enter Tryd.func20, Tryd.ntmps20
  go_wp2
  refine bodyPost_ret (v := .agg #[.int .i64 f, .int .i64 s, .int .i64 n, .int .i64 d]) (by simp [results, Tryd.results20, go_sem]) rfl ⟨rfl, ?_⟩
  repeat (first | refine Below.setCell ?_ (by first | omega | (simp; omega) | simp) _ | refine Below.alloc ?_ (by first | omega | (simp; omega) | simp) _)
  exact Below.refl _ _

/-- Whole parts and the rest, each for itself. -/
theorem parts_eq {x n d : Int} (hd : 1 ≤ d) : x / d * n + x % d * n / d = x * n / d := by
  have e : x * n = x / d * n * d + x % d * n := by
    have h := Int.mul_ediv_add_emod x d
    have h2 : x * n = (d * (x / d) + x % d) * n := by rw [h]
    rw [h2, Int.add_mul, Int.mul_comm d, Int.mul_assoc, Int.mul_assoc, Int.mul_comm d n]
  rw [e, Int.add_comm (x / d * n * d), Int.add_mul_ediv_right _ _ (by omega), Int.add_comm]

theorem ref_bounds {x n d : Int} (h0 : 0 ≤ x) (h1 : x ≤ 1099511627776) (h2 : 1 ≤ n) (h3 : n ≤ 1000000) (h4 : 1 ≤ d) (h5 : d ≤ 1000000) :
    0 ≤ x / d ∧ x / d ≤ 1099511627776 ∧ 0 ≤ x % d ∧ x % d ≤ 1000000 ∧ 0 ≤ x / d * n ∧ x / d * n ≤ 1099511627776000000 ∧ 0 ≤ x % d * n ∧ x % d * n ≤ 1000000000000 ∧ 0 ≤ x % d * n / d ∧ x % d * n / d ≤ 1000000000000 := by
  have a1 : 0 ≤ x / d := Int.ediv_nonneg h0 (by omega)
  have a2 : x / d ≤ 1099511627776 := by
    have := Int.ediv_le_self d h0
    omega
  have a3 : 0 ≤ x % d := Int.emod_nonneg x (by omega)
  have a4 : x % d < d := Int.emod_lt_of_pos x (by omega)
  have p := prod_bounds (x := x / d) (n := n) (M := 1099511627776) (R := 1000000) a1 a2 h2 h3
  have q := prod_bounds (x := x % d) (n := n) (M := 1000000) (R := 1000000) a3 (by omega) h2 h3
  have r1 : 0 ≤ x % d * n / d := Int.ediv_nonneg q.1 (by omega)
  have r2 : x % d * n / d ≤ x % d * n := Int.ediv_le_self d q.1
  exact ⟨a1, a2, a3, by omega, p.1, by have := p.2; omega, q.1, by have := q.2; omega, r1, by have := q.2; omega⟩

set_option maxHeartbeats 1000000 in
theorem shows_walk (f s n d t : Int) (w : World) (h : rightB f s n d = true) (ht : f ≤ t) (ht2 : t ≤ 1099511627776) :
    Calls Tryd.prog 43 #[.agg #[.int .i64 f, .int .i64 s, .int .i64 n, .int .i64 d], .int .i64 t] w fun e w' => e = .returned (.int .i64 (s + (t - f) / d * n + (t - f) % d * n / d)) ∧ Below w.heap.size w w' := by
  obtain ⟨h1, h2, h3, h4, h5, h6, h7, h8, h9, h10⟩ := right_of h
  clear h
  obtain ⟨b1, b2, b3, b4, b5, b6, b7, b8, b9, b10⟩ := ref_bounds (x := t - f) (n := n) (d := d) (by omega) (by omega) h5 h6 h7 h8
  go_enter Tryd.func43, Tryd.ntmps43
  go_wp2
  go_quiet (fail)
  go_wp2
  go_quiet (fail)
  go_wp2
  go_ret
  exact ⟨rfl, below_drewN (below_drewN ((Below.refl _ _).alloc (Nat.le_refl _) _) _) _⟩

theorem shows_any (f s n d t : Int) (w : World) (h : rightB f s n d = true) (ht : f ≤ t) (ht2 : t ≤ 1099511627776) :
    Calls Tryd.prog 43 #[.agg #[.int .i64 f, .int .i64 s, .int .i64 n, .int .i64 d], .int .i64 t] w fun e w' => e = .returned (.int .i64 (s + (t - f) * n / d)) ∧ Below w.heap.size w w' := by
  have e : s + (t - f) / d * n + (t - f) % d * n / d = s + (t - f) * n / d := by rw [Int.add_assoc, parts_eq (right_of h).2.2.2.2.2.2.1]
  have k := shows_walk f s n d t w h ht ht2
  rw [e] at k
  exact k
end Go.Proofs.YtpefdjdebglafabDoor
