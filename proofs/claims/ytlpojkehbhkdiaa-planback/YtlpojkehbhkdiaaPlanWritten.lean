/- What Encode wrote Decode reads: the same plan. (Made by tools/gen_planwritten.py.) -/
import Derived.Test.YtlpojkehbhkdiaaPlanTrip
namespace Go.Proofs.Ytlpojkehbhkdiaa
open Go.RowKit

theorem decode_written (nodes faulty skew jitter drift round frame : Int) (ns nl nw : Nat) (nd fr to lf lt lb lq wp wf wt : Nat → Int) (I : Int) (base : Nat) (v : Value) (u : World)
    (hC : CheckIs nodes faulty skew jitter drift round frame ns nl nw nd fr to lf lt lb lq (fun j => bits BinOp.and .i64 (lt j) (2 ^ (lf j).toNat) != 0) ((2 : Int) ^ nodes.toNat) wp wf wt 0 I)
    (ho : u.ownsRow base 5 1 v (bytesOf (planNums nodes faulty skew jitter drift round frame ns nl nw nd fr to lf lt lb lq wp wf wt)).length ((bytesOf (planNums nodes faulty skew jitter drift round frame ns nl nw nd fr to lf lt lb lq wp wf wt)).map (Value.int .u8))) :
    Calls Try.prog 7 #[v] u fun ev w' => ∃ sb sd ln ld wn we, ev = .returned (.tuple #[.agg #[.int .i64 nodes, .int .i64 faulty, .int .i64 skew, .int .i64 jitter, .int .i64 drift, .int .i64 round, .slice sb ns sd, .slice ln nl ld, .int .i64 frame, .slice wn nw we], .nilIface]) ∧ Rows3 w' sb ns nd fr to ∧ Rows4 w' ln nl lf lt lb lq ∧ Rows3 w' wn nw wp wf wt ∧ Below u.heap.size u w' := by
  obtain ⟨⟨d1, d2, d3⟩, hnn⟩ := nums_ok rfl hC
  have hl := planNums_len nodes faulty skew jitter drift round frame ns nl nw nd fr to lf lt lb lq wp wf wt
  have hpos : 1 ≤ (bytesOf (planNums nodes faulty skew jitter drift round frame ns nl nw nd fr to lf lt lb lq wp wf wt)).length := bytesOf_pos _ (by omega)
  have hmax : (bytesOf (planNums nodes faulty skew jitter drift round frame ns nl nw nd fr to lf lt lb lq wp wf wt)).length ≤ 2000 := Nat.le_trans (bytesOf_len _) (by omega)
  obtain ⟨g, cap, rfl, hcap, hg, hcell⟩ := owns_row_cap ho hpos
  have hby := bytesOf_byte hnn
  obtain ⟨hp, hend, hnth⟩ := places_complete d1 d2 d3 hnn
  obtain ⟨p0, p1, p2, p3, p4, p5, p8, ps, pl, pw⟩ := plan_at nodes faulty skew jitter drift round frame ns nl nw nd fr to lf lt lb lq wp wf wt
  have at' : ∀ {i : Nat} {x : Int}, (planNums nodes faulty skew jitter drift round frame ns nl nw nd fr to lf lt lb lq wp wf wt)[i]? = some x → nth (some (bytesOf (planNums nodes faulty skew jitter drift round frame ns nl nw nd fr to lf lt lb lq wp wf wt))) i = x := fun {i x} e => by
    obtain ⟨h, e'⟩ := List.getElem?_eq_some_iff.1 e
    rw [hnth i h]; exact e'
  obtain ⟨st, hst⟩ : ∃ st : St, st = some (bytesOf (planNums nodes faulty skew jitter drift round frame ns nl nw nd fr to lf lt lb lq wp wf wt)) := ⟨_, rfl⟩
  rw [← hst] at hp at'
  have t1 : (nx (stAt st 6)).2 = stAt st 7 := rfl
  have t2 : (nx (rowsSt 3 32 (stAt st 6))).2 = stAt st (8 + 3 * ns) := by rw [hp.s1]; show stAt st (7 + 3 * ns + 1) = _; congr 1; omega
  have t3 : (nx (rowsSt 4 8 (rowsSt 3 32 (stAt st 6)))).1 = frame := by rw [hp.s2]; exact at' p8
  have t4 : (nx (rowsSt 4 8 (rowsSt 3 32 (stAt st 6)))).2 = stAt st (9 + 3 * ns + 4 * nl) := by rw [hp.s2]; show stAt st (8 + 3 * ns + 4 * nl + 1) = _; congr 1; omega
  have t5 : (nx (stAt st (9 + 3 * ns + 4 * nl))).2 = stAt st (10 + 3 * ns + 4 * nl) := by show stAt st (9 + 3 * ns + 4 * nl + 1) = _; congr 1; omega
  have n0 := at' p0
  have n1 := at' p1
  have n2 := at' p2
  have n3 := at' p3
  have n4 := at' p4
  have n5 := at' p5
  have f0 : ∀ j, j < ns → (fun j => nth (nx (stAt st 6)).2 (3 * j)) j = nd j := fun j hj => by
    show nth (nx (stAt st 6)).2 (3 * j) = _
    rw [t1, nth_add]
    exact at' (by have := (ps j hj).1; simpa [Nat.add_assoc] using this)
  have f1 : ∀ j, j < ns → (fun j => nth (nx (stAt st 6)).2 (3 * j + 1)) j = fr j := fun j hj => by
    show nth (nx (stAt st 6)).2 (3 * j + 1) = _
    rw [t1, nth_add]
    exact at' (by have := (ps j hj).2.1; simpa [Nat.add_assoc] using this)
  have f2 : ∀ j, j < ns → (fun j => nth (nx (stAt st 6)).2 (3 * j + 2)) j = to j := fun j hj => by
    show nth (nx (stAt st 6)).2 (3 * j + 2) = _
    rw [t1, nth_add]
    exact at' (by have := (ps j hj).2.2; simpa [Nat.add_assoc] using this)
  have g0 : ∀ j, j < nl → (fun j => nth (nx (rowsSt 3 32 (stAt st 6))).2 (4 * j)) j = lf j := fun j hj => by
    show nth (nx (rowsSt 3 32 (stAt st 6))).2 (4 * j) = _
    rw [t2, nth_add]
    exact at' (by have := (pl j hj).1; simpa [Nat.add_assoc] using this)
  have g1 : ∀ j, j < nl → (fun j => nth (nx (rowsSt 3 32 (stAt st 6))).2 (4 * j + 1)) j = lt j := fun j hj => by
    show nth (nx (rowsSt 3 32 (stAt st 6))).2 (4 * j + 1) = _
    rw [t2, nth_add]
    exact at' (by have := (pl j hj).2.1; simpa [Nat.add_assoc] using this)
  have g2 : ∀ j, j < nl → (fun j => nth (nx (rowsSt 3 32 (stAt st 6))).2 (4 * j + 2)) j = lb j := fun j hj => by
    show nth (nx (rowsSt 3 32 (stAt st 6))).2 (4 * j + 2) = _
    rw [t2, nth_add]
    exact at' (by have := (pl j hj).2.2.1; simpa [Nat.add_assoc] using this)
  have g3 : ∀ j, j < nl → (fun j => nth (nx (rowsSt 3 32 (stAt st 6))).2 (4 * j + 3)) j = lq j := fun j hj => by
    show nth (nx (rowsSt 3 32 (stAt st 6))).2 (4 * j + 3) = _
    rw [t2, nth_add]
    exact at' (by have := (pl j hj).2.2.2; simpa [Nat.add_assoc] using this)
  have h0 : ∀ j, j < nw → (fun j => nth (nx ((nx (rowsSt 4 8 (rowsSt 3 32 (stAt st 6)))).2)).2 (3 * j)) j = wp j := fun j hj => by
    show nth (nx (nx (rowsSt 4 8 (rowsSt 3 32 (stAt st 6)))).2).2 (3 * j) = _
    rw [t4, t5, nth_add]
    exact at' (by have := (pw j hj).1; simpa [Nat.add_assoc] using this)
  have h1 : ∀ j, j < nw → (fun j => nth (nx ((nx (rowsSt 4 8 (rowsSt 3 32 (stAt st 6)))).2)).2 (3 * j + 1)) j = wf j := fun j hj => by
    show nth (nx (nx (rowsSt 4 8 (rowsSt 3 32 (stAt st 6)))).2).2 (3 * j + 1) = _
    rw [t4, t5, nth_add]
    exact at' (by have := (pw j hj).2.1; simpa [Nat.add_assoc] using this)
  have h2 : ∀ j, j < nw → (fun j => nth (nx ((nx (rowsSt 4 8 (rowsSt 3 32 (stAt st 6)))).2)).2 (3 * j + 2)) j = wt j := fun j hj => by
    show nth (nx (nx (rowsSt 4 8 (rowsSt 3 32 (stAt st 6)))).2).2 (3 * j + 2) = _
    rw [t4, t5, nth_add]
    exact at' (by have := (pw j hj).2.2; simpa [Nat.add_assoc] using this)
  have hC' := hC.congr (fun j hj => (f0 j hj).symm) (fun j hj => (f1 j hj).symm) (fun j hj => (f2 j hj).symm) (fun j hj => (g0 j hj).symm) (fun j hj => (g1 j hj).symm) (fun j hj => (g2 j hj).symm) (fun j hj => (g3 j hj).symm) (fun j hj => (h0 j hj).symm) (fun j hj => (h1 j hj).symm) (fun j hj => (h2 j hj).symm)
  have k1 := hp.n1
  have k2 := hp.n2
  have k3 := hp.n3
  have key := decode_good (some ⟨g, 0, none⟩) cap (bytesOf (planNums nodes faulty skew jitter drift round frame ns nl nw nd fr to lf lt lb lq wp wf wt)) u (fun _ => ⟨g, 0, rfl, hg, hcell⟩) hby hcap hmax hend st hst _ ((2 : Int) ^ nodes.toNat) 0 I (by rw [n0]) (fun _ _ _ => rfl) (by rw [n0, n1, n2, n3, n4, n5, t3, k1, k2, k3]; exact hC') rfl
  rw [n0, n1, n2, n3, n4, n5, t3, k1, k2, k3] at key
  refine key.mono ?_
  rintro ev w' ⟨sb, sd, ln, ld, wn, we, rfl, rs, rl, rw', hb⟩
  exact ⟨sb, sd, ln, ld, wn, we, rfl, rs.congr f0 f1 f2, rl.congr g0 g1 g2 g3, rw'.congr h0 h1 h2, hb⟩
end Go.Proofs.Ytlpojkehbhkdiaa
