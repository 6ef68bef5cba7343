/- Rows that were made, as they lie. -/
import Derived.Test.YtlpojkehbhkdiaaDoorRefLoops0
import Derived.Test.YtlpojkehbhkdiaaDoorRefMain
import Derived.RegionTactic
namespace Go.Proofs.YtlpojkehbhkdiaaDoor
open Go.RowKit

/-- A row of n things of so many cells, in memory of one's own from a block on. -/
def RowsOf (size lo : Nat) (w : World) (v : Value) (n : Nat) (l : List Value) : Prop :=
  l.length = n * size ∧ ((v = .slice none 0 0 ∧ n = 0) ∨ ∃ g cap, v = .slice (some ⟨g, 0, none⟩) n cap ∧ lo ≤ g ∧ g < w.heap.size ∧ n ≤ cap ∧ ∀ i x, l[i]? = some x → w.cell? ⟨g, i, none⟩ = some x)
theorem rows_of {w : World} {base : Nat} {e : TypeId} {size : Nat} {v : Value} {n : Nat} {l : List Value} (h : w.ownsRow base e size v n l) : RowsOf size base w v n l := by
  refine ⟨h.1, ?_⟩
  rcases h.2 with h2 | ⟨g, cap, cur, rfl, hg, hh, hle, _⟩
  · exact .inl h2
  · refine .inr ⟨g, cap, rfl, hg, ?_, hle, fun i x hi => ?_⟩
    · rcases Nat.lt_or_ge g w.heap.size with q | q
      · exact q
      · rw [Array.getElem?_eq_none q] at hh; cases hh
    · have := h.cells (g := g) rfl i x hi
      rwa [add_plain, Nat.zero_add] at this
theorem RowsOf.but2 {size lo : Nat} {w w' : World} {v : Value} {n : Nat} {l : List Value} {A B : Nat} (h : RowsOf size lo w v n l) (hb : But2 A B w w') (hA : A < lo) (hB : B < lo) : RowsOf size lo w' v n l := by
  refine ⟨h.1, ?_⟩
  rcases h.2 with h2 | ⟨g, cap, hv, hg, hz, hle, hc⟩
  · exact .inl h2
  · exact .inr ⟨g, cap, hv, hg, Nat.lt_of_lt_of_le hz hb.size, hle, fun i x hi => hb.cell (hc i x hi) (by omega) (by omega)⟩
theorem RowsOf.frm {size lo : Nat} {w w' : World} {v : Value} {n : Nat} {l : List Value} {A B P : Nat} (h : RowsOf size lo w v n l) (hb : Frm A B P w.heap.size w w') (hA : A < lo) (hB : B < lo) (hP : P < lo) : RowsOf size lo w' v n l := by
  refine ⟨h.1, ?_⟩
  rcases h.2 with h2 | ⟨g, cap, hv, hg, hz, hle, hc⟩
  · exact .inl h2
  · exact .inr ⟨g, cap, hv, hg, Nat.lt_of_lt_of_le hz hb.size, hle, fun i x hi => (World.cell?_of_block (w := w) (hb.block g hz (by omega) (by omega) (by omega))).trans (hc i x hi)⟩
theorem RowsOf.set {size lo : Nat} {w : World} {v : Value} {n : Nat} {l : List Value} {X i : Nat} (h : RowsOf size lo w v n l) (hX : X < lo) (x : Value) : RowsOf size lo (w.setCell ⟨X, i, none⟩ x) v n l := by
  refine ⟨h.1, ?_⟩
  rcases h.2 with h2 | ⟨g, cap, hv, hg, hz, hle, hc⟩
  · exact .inl h2
  · exact .inr ⟨g, cap, hv, hg, by simpa [World.setCell] using hz, hle, fun i x hi => set_far (by omega) (hc i x hi)⟩
/-- The blocks of the two results, as they were laid. -/
def RR (r : Nat) (z f : List Value) (u : World) : Prop := PCells r z u ∧ PCells (r + 1) f u
theorem RR.below {r : Nat} {z f : List Value} {u u' : World} (h : RR r z f u) (hb : Below u.heap.size u u') : RR r z f u' := ⟨h.1.below hb, h.2.below hb⟩
theorem RR.but2 {r A B : Nat} {z f : List Value} {u u' : World} (h : RR r z f u) (hb : But2 A B u u') (h1 : r + 1 < A) (h2 : r + 1 < B) : RR r z f u' := ⟨h.1.but2 hb (by omega) (by omega), h.2.but2 hb (by omega) (by omega)⟩
theorem RR.set {r X i : Nat} {z f : List Value} {u : World} (h : RR r z f u) (hX : r + 1 < X) (x : Value) : RR r z f (u.setCell ⟨X, i, none⟩ x) := ⟨h.1.far (by omega) x, h.2.far (by omega) x⟩
theorem PCells.frm {P A B X Bz : Nat} {l : List Value} {u u' : World} (h : PCells P l u) (hb : Frm A B X Bz u u') (hz : P < Bz) (h1 : P ≠ A) (h2 : P ≠ B) (h3 : P ≠ X) : PCells P l u' := fun i v hi =>
  ⟨(World.cell?_of_block (w := u) (hb.block P hz h1 h2 h3)).trans (h i v hi).1, (World.frozen?_of_block (w := u) (hb.block P hz h1 h2 h3)).trans (h i v hi).2⟩
theorem RR.frm {r A B X Bz : Nat} {z f : List Value} {u u' : World} (h : RR r z f u) (hb : Frm A B X Bz u u') (hz : r + 1 < Bz) (h1 : r + 1 < A) (h2 : r + 1 < B) (h3 : r + 1 < X) : RR r z f u' := ⟨h.1.frm hb (by omega) (by omega) (by omega) (by omega), h.2.frm hb (by omega) (by omega) (by omega) (by omega)⟩
/-- The state behind a row's numbers. -/
theorem many_rows (wd : Nat) (most : Int) (s : St) (m : Int) (h : manySt most s ≠ none → m = (nx s).1) : stAt (manySt most s) (wd * m.toNat) = rowsSt wd most s := by
  unfold rowsSt
  by_cases g : most < (nx s).1
  · have e : manySt most s = none := by unfold manySt; rw [if_pos g]
    rw [if_pos g, e, stAt_none]
  · have e : manySt most s = (nx s).2 := by unfold manySt; rw [if_neg g]
    rw [if_neg g, e]
    by_cases q : (nx s).2 = none
    · rw [q, stAt_none, stAt_none]
    · rw [h (by rw [e]; exact q)]
set_option maxHeartbeats 1000000 in
theorem bareR_any (k : Int) (w : World) : Calls Tryd.prog 21 #[.int .i64 k] w fun e w' => e = .returned (.agg #[.int .i64 k, .int .i64 (-1)]) ∧ Below w.heap.size w w' := by
  go_enter Tryd.func21, Tryd.ntmps21
  go_wp2
  refine bodyPost_ret (v := .agg #[.int .i64 k, .int .i64 (-1)]) (by simp [results, Tryd.results21, go_sem]) rfl ⟨rfl, ?_⟩
  repeat (refine Below.alloc ?_ (by simp; try omega) _)
  exact Below.refl _ _
end Go.Proofs.YtlpojkehbhkdiaaDoor

/- Behind the last loop of the document's answer's Decode. (Made by tools/gen_refend.py.) -/
namespace Go.Proofs.YtlpojkehbhkdiaaDoor
open Go.RowKit

theorem But2.drew {A B : Nat} {a b : World} (h : But2 A B a b) : But2 A B a b.drew := ⟨h.os, h.tape, h.output, h.size, h.block⟩

/-- What follows each loop. -/
def codeRests : Code → List Code
  | .seq a b => codeRests a ++ (if (codeLoops a).isEmpty then [] else [b]) ++ codeRests b
  | .block _ c => codeRests c
  | .scope c => codeRests c
  | .cond _ a b => codeRests a ++ codeRests b
  | _ => []

set_option maxRecDepth 100000 in
set_option maxHeartbeats 2000000 in
theorem dec_end_form (code : Code) (hcode : (Tryd.f12.body.map codeRests).bind (fun l => l[2]?) = some code) (G : Ending → World → Prop) (r0 r1 P A B : Nat) (w u : World) (bad : Bool) (aL : Option Addr) (kk cL : Nat) (h01 : r0 ≠ r1) (hw0 : w.heap.size ≤ r0) (hw1 : w.heap.size ≤ r1) (hB : u.cell? ⟨B, 0, none⟩ = some (.bool bad)) (hA : u.cell? ⟨A, 0, none⟩ = some (.slice aL kk cL)) (hbad : bad = true ∨ 0 < kk) (hz : PCells r0 [.int .i64 0, .int .i64 0, .int .i64 0, .int .i64 0, .int .i64 0, .int .i64 0, .slice none 0 0, .slice none 0 0, .int .i64 0, .slice none 0 0] u) (hf : PCells r1 [.int .i64 0, .int .i64 0] u) (hBe : Below w.heap.size w u)
    (hG : ∀ w', Below w.heap.size w w' → G (.returned (.tuple #[.agg #[.int .i64 0, .int .i64 0, .int .i64 0, .int .i64 0, .int .i64 0, .int .i64 0, .slice none 0 0, .slice none 0 0, .int .i64 0, .slice none 0 0], .agg #[.int .i64 3, .int .i64 (-1)]])) w') (c0 c1 c6 c8 c9 c10 c11 c12 c13 c14 c15 c16 c17 c18 c19 c20 c21 c22 c23 c24 c25 c26 c27 c28 c29 c30 c31 c32 c33 c34 c35 c36 c37 c38 c39 c40 c41 c42 c43 c44 c45 c46 c47 c48 c49 c50 c51 c52 c53 c54 c55 c56 c57 c58 c59 c60 c61 c62 c63 c64 c65 c66 c67 c68 c69 c70 c71 c72 c73 c74 c75 c76 c77 c78 c79 c80 c81 c82 c83 c84 c85 c86 c87 c88 c89 c90 c91 c92 c93 c94 c95 c96 c97 c98 c99 c100 c101 c102 c103 c104 c105 c106 c107 c108 c109 c110 c111 c112 c113 c114 c115 c116 c117 c118 c119 c120 c121 c122 c123 c124 c125 c126 c127 c128 c129 c130 c131 c132 c133 c134 c135 c136 c137 c138 c139 c140 c141 c142 c143 c144 c145 : Value) :
    Code.wp Tryd.prog code (bodyPost Tryd.prog Tryd.f12 G) ⟨List.toArray (c0 :: c1 :: .pointer (some ⟨r0, 0, none⟩) :: .pointer (some ⟨r1, 0, none⟩) :: .pointer (some ⟨P, 0, none⟩) :: .pointer (some ⟨A, 0, none⟩) :: c6 :: .pointer (some ⟨B, 0, none⟩) :: c8 :: c9 :: c10 :: c11 :: c12 :: c13 :: c14 :: c15 :: c16 :: c17 :: c18 :: c19 :: c20 :: c21 :: c22 :: c23 :: c24 :: c25 :: c26 :: c27 :: c28 :: c29 :: c30 :: c31 :: c32 :: c33 :: c34 :: c35 :: c36 :: c37 :: c38 :: c39 :: c40 :: c41 :: c42 :: c43 :: c44 :: c45 :: c46 :: c47 :: c48 :: c49 :: c50 :: c51 :: c52 :: c53 :: c54 :: c55 :: c56 :: c57 :: c58 :: c59 :: c60 :: c61 :: c62 :: c63 :: c64 :: c65 :: c66 :: c67 :: c68 :: c69 :: c70 :: c71 :: c72 :: c73 :: c74 :: c75 :: c76 :: c77 :: c78 :: c79 :: c80 :: c81 :: c82 :: c83 :: c84 :: c85 :: c86 :: c87 :: c88 :: c89 :: c90 :: c91 :: c92 :: c93 :: c94 :: c95 :: c96 :: c97 :: c98 :: c99 :: c100 :: c101 :: c102 :: c103 :: c104 :: c105 :: c106 :: c107 :: c108 :: c109 :: c110 :: c111 :: c112 :: c113 :: c114 :: c115 :: c116 :: c117 :: c118 :: c119 :: c120 :: c121 :: c122 :: c123 :: c124 :: c125 :: c126 :: c127 :: c128 :: c129 :: c130 :: c131 :: c132 :: c133 :: c134 :: c135 :: c136 :: c137 :: c138 :: c139 :: c140 :: c141 :: c142 :: c143 :: c144 :: c145 :: []), []⟩ u := by
  have hb2 : ((Tryd.f12.body.map codeRests).bind (fun l => l[2]?)).getD Code.skip = code := by rw [hcode]; rfl
  obtain rfl := hb2
  clear hcode
  conv => arg 2; whnf
  have HG : Hid (∀ w', Below w.heap.size w w' → G (.returned (.tuple #[.agg #[.int .i64 0, .int .i64 0, .int .i64 0, .int .i64 0, .int .i64 0, .int .i64 0, .slice none 0 0, .slice none 0 0, .int .i64 0, .slice none 0 0], .agg #[.int .i64 3, .int .i64 (-1)]])) w') := hG
  clear hG
  cases bad
  · have hk : (0 : Int) < (kk : Int) := by
      rcases hbad with h | h
      · cases h
      · omega
    clear hbad
    go_wp2_with fail
    refine (bareR_any 3 _).mono ?_
    rintro e w15 ⟨rfl, hb15⟩
    replace hz := hz.below hb15
    replace hf := hf.below hb15
    replace hBe := hBe.trans (hb15.mono hBe.size)
    clear hb15 hA hB
    obtain ⟨p0, q0⟩ := hz 0 _ rfl
    obtain ⟨p1, q1⟩ := hz 1 _ rfl
    obtain ⟨p2, q2⟩ := hz 2 _ rfl
    obtain ⟨p3, q3⟩ := hz 3 _ rfl
    obtain ⟨p4, q4⟩ := hz 4 _ rfl
    obtain ⟨p5, q5⟩ := hz 5 _ rfl
    obtain ⟨p6, q6⟩ := hz 6 _ rfl
    obtain ⟨p7, q7⟩ := hz 7 _ rfl
    obtain ⟨p8, q8⟩ := hz 8 _ rfl
    obtain ⟨p9, q9⟩ := hz 9 _ rfl
    obtain ⟨k0, l0⟩ := hf 0 _ rfl
    obtain ⟨k1, l1⟩ := hf 1 _ rfl
    go_wp2_with fail
    exact bodyPost_ret (v := .tuple #[.agg #[.int .i64 0, .int .i64 0, .int .i64 0, .int .i64 0, .int .i64 0, .int .i64 0, .slice none 0 0, .slice none 0 0, .int .i64 0, .slice none 0 0], .agg #[.int .i64 3, .int .i64 (-1)]]) (by simp [results, Tryd.results12, go_sem, p0, p1, p2, p3, p4, p5, p6, p7, p8, p9, k0, k1]) rfl (HG.out _ ((((((((((((hBe.setCell (p := ⟨r0, 0, none⟩) hw0 _).setCell (p := ⟨r0, 1, none⟩) hw0 _).setCell (p := ⟨r0, 2, none⟩) hw0 _).setCell (p := ⟨r0, 3, none⟩) hw0 _).setCell (p := ⟨r0, 4, none⟩) hw0 _).setCell (p := ⟨r0, 5, none⟩) hw0 _).setCell (p := ⟨r0, 6, none⟩) hw0 _).setCell (p := ⟨r0, 7, none⟩) hw0 _).setCell (p := ⟨r0, 8, none⟩) hw0 _).setCell (p := ⟨r0, 9, none⟩) hw0 _).setCell (p := ⟨r1, 0, none⟩) hw1 _).setCell (p := ⟨r1, 1, none⟩) hw1 _))
  · clear hbad
    go_wp2_with fail
    refine (bareR_any 3 _).mono ?_
    rintro e w15 ⟨rfl, hb15⟩
    replace hz := hz.below hb15
    replace hf := hf.below hb15
    replace hBe := hBe.trans (hb15.mono hBe.size)
    clear hb15 hA hB
    obtain ⟨p0, q0⟩ := hz 0 _ rfl
    obtain ⟨p1, q1⟩ := hz 1 _ rfl
    obtain ⟨p2, q2⟩ := hz 2 _ rfl
    obtain ⟨p3, q3⟩ := hz 3 _ rfl
    obtain ⟨p4, q4⟩ := hz 4 _ rfl
    obtain ⟨p5, q5⟩ := hz 5 _ rfl
    obtain ⟨p6, q6⟩ := hz 6 _ rfl
    obtain ⟨p7, q7⟩ := hz 7 _ rfl
    obtain ⟨p8, q8⟩ := hz 8 _ rfl
    obtain ⟨p9, q9⟩ := hz 9 _ rfl
    obtain ⟨k0, l0⟩ := hf 0 _ rfl
    obtain ⟨k1, l1⟩ := hf 1 _ rfl
    go_wp2_with fail
    exact bodyPost_ret (v := .tuple #[.agg #[.int .i64 0, .int .i64 0, .int .i64 0, .int .i64 0, .int .i64 0, .int .i64 0, .slice none 0 0, .slice none 0 0, .int .i64 0, .slice none 0 0], .agg #[.int .i64 3, .int .i64 (-1)]]) (by simp [results, Tryd.results12, go_sem, p0, p1, p2, p3, p4, p5, p6, p7, p8, p9, k0, k1]) rfl (HG.out _ ((((((((((((hBe.setCell (p := ⟨r0, 0, none⟩) hw0 _).setCell (p := ⟨r0, 1, none⟩) hw0 _).setCell (p := ⟨r0, 2, none⟩) hw0 _).setCell (p := ⟨r0, 3, none⟩) hw0 _).setCell (p := ⟨r0, 4, none⟩) hw0 _).setCell (p := ⟨r0, 5, none⟩) hw0 _).setCell (p := ⟨r0, 6, none⟩) hw0 _).setCell (p := ⟨r0, 7, none⟩) hw0 _).setCell (p := ⟨r0, 8, none⟩) hw0 _).setCell (p := ⟨r0, 9, none⟩) hw0 _).setCell (p := ⟨r1, 0, none⟩) hw1 _).setCell (p := ⟨r1, 1, none⟩) hw1 _))

set_option maxRecDepth 100000 in
set_option maxHeartbeats 4000000 in
theorem dec_end_bad (code : Code) (hcode : (Tryd.f12.body.map codeRests).bind (fun l => l[2]?) = some code) (G : Ending → World → Prop) (r0 r1 P A B : Nat) (w u : World) (x0 x1 x2 x3 x4 x5 xf E I : Int) (sa la wa : Option Addr) (ns nl nw sc lc wc : Nat) (aL : Option Addr) (cL : Nat) (h01 : r0 ≠ r1) (hw0 : w.heap.size ≤ r0) (hw1 : w.heap.size ≤ r1) (hr1 : r0 < u.heap.size) (hr2 : r1 < u.heap.size) (hB : u.cell? ⟨B, 0, none⟩ = some (.bool false)) (hA : u.cell? ⟨A, 0, none⟩ = some (.slice aL 0 cL)) (hz : PCells r0 [.int .i64 0, .int .i64 0, .int .i64 0, .int .i64 0, .int .i64 0, .int .i64 0, .slice none 0 0, .slice none 0 0, .int .i64 0, .slice none 0 0] u) (hf : PCells r1 [.int .i64 0, .int .i64 0] u) (hp : PCells P [.int .i64 x0, .int .i64 x1, .int .i64 x2, .int .i64 x3, .int .i64 x4, .int .i64 x5, .slice sa ns sc, .slice la nl lc, .int .i64 xf, .slice wa nw wc] u) (hBe : Below w.heap.size w u) (hC : Calls Tryd.prog 9 #[.agg #[.int .i64 x0, .int .i64 x1, .int .i64 x2, .int .i64 x3, .int .i64 x4, .int .i64 x5, .slice sa ns sc, .slice la nl lc, .int .i64 xf, .slice wa nw wc]] u fun ev w' => ev = .returned (.agg #[.int .i64 E, .int .i64 I]) ∧ Below u.heap.size u w') (hE : E ≠ 0)
    (hG : ∀ w', Below w.heap.size w w' → G (.returned (.tuple #[.agg #[.int .i64 0, .int .i64 0, .int .i64 0, .int .i64 0, .int .i64 0, .int .i64 0, .slice none 0 0, .slice none 0 0, .int .i64 0, .slice none 0 0], .agg #[.int .i64 E, .int .i64 I]])) w') (c0 c1 c6 c8 c9 c10 c11 c12 c13 c14 c15 c16 c17 c18 c19 c20 c21 c22 c23 c24 c25 c26 c27 c28 c29 c30 c31 c32 c33 c34 c35 c36 c37 c38 c39 c40 c41 c42 c43 c44 c45 c46 c47 c48 c49 c50 c51 c52 c53 c54 c55 c56 c57 c58 c59 c60 c61 c62 c63 c64 c65 c66 c67 c68 c69 c70 c71 c72 c73 c74 c75 c76 c77 c78 c79 c80 c81 c82 c83 c84 c85 c86 c87 c88 c89 c90 c91 c92 c93 c94 c95 c96 c97 c98 c99 c100 c101 c102 c103 c104 c105 c106 c107 c108 c109 c110 c111 c112 c113 c114 c115 c116 c117 c118 c119 c120 c121 c122 c123 c124 c125 c126 c127 c128 c129 c130 c131 c132 c133 c134 c135 c136 c137 c138 c139 c140 c141 c142 c143 c144 c145 : Value) :
    Code.wp Tryd.prog code (bodyPost Tryd.prog Tryd.f12 G) ⟨List.toArray (c0 :: c1 :: .pointer (some ⟨r0, 0, none⟩) :: .pointer (some ⟨r1, 0, none⟩) :: .pointer (some ⟨P, 0, none⟩) :: .pointer (some ⟨A, 0, none⟩) :: c6 :: .pointer (some ⟨B, 0, none⟩) :: c8 :: c9 :: c10 :: c11 :: c12 :: c13 :: c14 :: c15 :: c16 :: c17 :: c18 :: c19 :: c20 :: c21 :: c22 :: c23 :: c24 :: c25 :: c26 :: c27 :: c28 :: c29 :: c30 :: c31 :: c32 :: c33 :: c34 :: c35 :: c36 :: c37 :: c38 :: c39 :: c40 :: c41 :: c42 :: c43 :: c44 :: c45 :: c46 :: c47 :: c48 :: c49 :: c50 :: c51 :: c52 :: c53 :: c54 :: c55 :: c56 :: c57 :: c58 :: c59 :: c60 :: c61 :: c62 :: c63 :: c64 :: c65 :: c66 :: c67 :: c68 :: c69 :: c70 :: c71 :: c72 :: c73 :: c74 :: c75 :: c76 :: c77 :: c78 :: c79 :: c80 :: c81 :: c82 :: c83 :: c84 :: c85 :: c86 :: c87 :: c88 :: c89 :: c90 :: c91 :: c92 :: c93 :: c94 :: c95 :: c96 :: c97 :: c98 :: c99 :: c100 :: c101 :: c102 :: c103 :: c104 :: c105 :: c106 :: c107 :: c108 :: c109 :: c110 :: c111 :: c112 :: c113 :: c114 :: c115 :: c116 :: c117 :: c118 :: c119 :: c120 :: c121 :: c122 :: c123 :: c124 :: c125 :: c126 :: c127 :: c128 :: c129 :: c130 :: c131 :: c132 :: c133 :: c134 :: c135 :: c136 :: c137 :: c138 :: c139 :: c140 :: c141 :: c142 :: c143 :: c144 :: c145 :: []), []⟩ u := by
  have hb2 : ((Tryd.f12.body.map codeRests).bind (fun l => l[2]?)).getD Code.skip = code := by rw [hcode]; rfl
  obtain rfl := hb2
  clear hcode
  conv => arg 2; whnf
  have HG : Hid (∀ w', Below w.heap.size w w' → G (.returned (.tuple #[.agg #[.int .i64 0, .int .i64 0, .int .i64 0, .int .i64 0, .int .i64 0, .int .i64 0, .slice none 0 0, .slice none 0 0, .int .i64 0, .slice none 0 0], .agg #[.int .i64 E, .int .i64 I]])) w') := hG
  have kE : (E != 0) = true := by simpa using hE
  clear hG hE
  obtain ⟨a0, b0⟩ := hp 0 _ rfl
  obtain ⟨a1, b1⟩ := hp 1 _ rfl
  obtain ⟨a2, b2⟩ := hp 2 _ rfl
  obtain ⟨a3, b3⟩ := hp 3 _ rfl
  obtain ⟨a4, b4⟩ := hp 4 _ rfl
  obtain ⟨a5, b5⟩ := hp 5 _ rfl
  obtain ⟨a6, b6⟩ := hp 6 _ rfl
  obtain ⟨a7, b7⟩ := hp 7 _ rfl
  obtain ⟨a8, b8⟩ := hp 8 _ rfl
  obtain ⟨a9, b9⟩ := hp 9 _ rfl
  go_wp2_with fail
  refine hC.mono ?_
  rintro ev w15 ⟨rfl, hb15⟩
  clear hA hB hC
  clear a0 b0
  clear a1 b1
  clear a2 b2
  clear a3 b3
  clear a4 b4
  clear a5 b5
  clear a6 b6
  clear a7 b7
  clear a8 b8
  clear a9 b9
  obtain ⟨W, hWe⟩ : ∃ W, W = w15.alloc (.cells #[.int .i64 E, .int .i64 I] 34) := ⟨_, rfl⟩
  have hbW : Below u.heap.size u W := by rw [hWe]; exact hb15.alloc hb15.size _
  have e0 : W.cell? ⟨w15.heap.size, 0, none⟩ = some (.int .i64 E) := by rw [hWe]; simp
  have e1 : W.cell? ⟨w15.heap.size, 1, none⟩ = some (.int .i64 I) := by rw [hWe]; simp
  replace hz := hz.below hbW
  replace hf := hf.below hbW
  replace hp := hp.below hbW
  replace hBe := hBe.trans (hbW.mono hBe.size)
  have hn0 : r0 ≠ w15.heap.size := by have := hb15.size; omega
  have hn1 : r1 ≠ w15.heap.size := by have := hb15.size; omega
  obtain ⟨p0, q0⟩ := hz 0 _ rfl
  obtain ⟨p1, q1⟩ := hz 1 _ rfl
  obtain ⟨p2, q2⟩ := hz 2 _ rfl
  obtain ⟨p3, q3⟩ := hz 3 _ rfl
  obtain ⟨p4, q4⟩ := hz 4 _ rfl
  obtain ⟨p5, q5⟩ := hz 5 _ rfl
  obtain ⟨p6, q6⟩ := hz 6 _ rfl
  obtain ⟨p7, q7⟩ := hz 7 _ rfl
  obtain ⟨p8, q8⟩ := hz 8 _ rfl
  obtain ⟨p9, q9⟩ := hz 9 _ rfl
  obtain ⟨k0, l0⟩ := hf 0 _ rfl
  obtain ⟨k1, l1⟩ := hf 1 _ rfl
  go_wp2_with fail
  rw [← hWe]
  clear hWe
  go_region
  all_goals go_wp2_with fail
  all_goals exact bodyPost_ret (v := .tuple #[.agg #[.int .i64 0, .int .i64 0, .int .i64 0, .int .i64 0, .int .i64 0, .int .i64 0, .slice none 0 0, .slice none 0 0, .int .i64 0, .slice none 0 0], .agg #[.int .i64 E, .int .i64 I]]) (by simp [results, Tryd.results12, go_sem, p0, p1, p2, p3, p4, p5, p6, p7, p8, p9, k0, k1]) rfl (HG.out _ ((((((((((((hBe.setCell (p := ⟨r0, 0, none⟩) hw0 _).setCell (p := ⟨r0, 1, none⟩) hw0 _).setCell (p := ⟨r0, 2, none⟩) hw0 _).setCell (p := ⟨r0, 3, none⟩) hw0 _).setCell (p := ⟨r0, 4, none⟩) hw0 _).setCell (p := ⟨r0, 5, none⟩) hw0 _).setCell (p := ⟨r0, 6, none⟩) hw0 _).setCell (p := ⟨r0, 7, none⟩) hw0 _).setCell (p := ⟨r0, 8, none⟩) hw0 _).setCell (p := ⟨r0, 9, none⟩) hw0 _).setCell (p := ⟨r1, 0, none⟩) hw1 _).setCell (p := ⟨r1, 1, none⟩) hw1 _).drew)

set_option maxRecDepth 100000 in
set_option maxHeartbeats 4000000 in
theorem dec_end_good (code : Code) (hcode : (Tryd.f12.body.map codeRests).bind (fun l => l[2]?) = some code) (G : Ending → World → Prop) (r0 r1 P A B : Nat) (w u : World) (x0 x1 x2 x3 x4 x5 xf E I : Int) (sa la wa : Option Addr) (ns nl nw sc lc wc : Nat) (aL : Option Addr) (cL : Nat) (h01 : r0 ≠ r1) (hw0 : w.heap.size ≤ r0) (hw1 : w.heap.size ≤ r1) (hr1 : r0 < u.heap.size) (hr2 : r1 < u.heap.size) (hB : u.cell? ⟨B, 0, none⟩ = some (.bool false)) (hA : u.cell? ⟨A, 0, none⟩ = some (.slice aL 0 cL)) (hz : PCells r0 [.int .i64 0, .int .i64 0, .int .i64 0, .int .i64 0, .int .i64 0, .int .i64 0, .slice none 0 0, .slice none 0 0, .int .i64 0, .slice none 0 0] u) (hf : PCells r1 [.int .i64 0, .int .i64 0] u) (hp : PCells P [.int .i64 x0, .int .i64 x1, .int .i64 x2, .int .i64 x3, .int .i64 x4, .int .i64 x5, .slice sa ns sc, .slice la nl lc, .int .i64 xf, .slice wa nw wc] u) (hBe : Below w.heap.size w u) (hC : Calls Tryd.prog 9 #[.agg #[.int .i64 x0, .int .i64 x1, .int .i64 x2, .int .i64 x3, .int .i64 x4, .int .i64 x5, .slice sa ns sc, .slice la nl lc, .int .i64 xf, .slice wa nw wc]] u fun ev w' => ev = .returned (.agg #[.int .i64 E, .int .i64 I]) ∧ Below u.heap.size u w') (hE : E = 0) (hP0 : P ≠ r0) (hP1 : P ≠ r1) (hfine : Fine0 w)
    (hG : ∀ w', Below w.heap.size w w' → But2 r0 r1 u w' → G (.returned (.tuple #[.agg #[.int .i64 x0, .int .i64 x1, .int .i64 x2, .int .i64 x3, .int .i64 x4, .int .i64 x5, .slice sa ns sc, .slice la nl lc, .int .i64 xf, .slice wa nw wc], .agg #[.int .i64 0, .int .i64 (-1)]])) w') (c0 c1 c6 c8 c9 c10 c11 c12 c13 c14 c15 c16 c17 c18 c19 c20 c21 c22 c23 c24 c25 c26 c27 c28 c29 c30 c31 c32 c33 c34 c35 c36 c37 c38 c39 c40 c41 c42 c43 c44 c45 c46 c47 c48 c49 c50 c51 c52 c53 c54 c55 c56 c57 c58 c59 c60 c61 c62 c63 c64 c65 c66 c67 c68 c69 c70 c71 c72 c73 c74 c75 c76 c77 c78 c79 c80 c81 c82 c83 c84 c85 c86 c87 c88 c89 c90 c91 c92 c93 c94 c95 c96 c97 c98 c99 c100 c101 c102 c103 c104 c105 c106 c107 c108 c109 c110 c111 c112 c113 c114 c115 c116 c117 c118 c119 c120 c121 c122 c123 c124 c125 c126 c127 c128 c129 c130 c131 c132 c133 c134 c135 c136 c137 c138 c139 c140 c141 c142 c143 c144 c145 : Value) :
    Code.wp Tryd.prog code (bodyPost Tryd.prog Tryd.f12 G) ⟨List.toArray (c0 :: c1 :: .pointer (some ⟨r0, 0, none⟩) :: .pointer (some ⟨r1, 0, none⟩) :: .pointer (some ⟨P, 0, none⟩) :: .pointer (some ⟨A, 0, none⟩) :: c6 :: .pointer (some ⟨B, 0, none⟩) :: c8 :: c9 :: c10 :: c11 :: c12 :: c13 :: c14 :: c15 :: c16 :: c17 :: c18 :: c19 :: c20 :: c21 :: c22 :: c23 :: c24 :: c25 :: c26 :: c27 :: c28 :: c29 :: c30 :: c31 :: c32 :: c33 :: c34 :: c35 :: c36 :: c37 :: c38 :: c39 :: c40 :: c41 :: c42 :: c43 :: c44 :: c45 :: c46 :: c47 :: c48 :: c49 :: c50 :: c51 :: c52 :: c53 :: c54 :: c55 :: c56 :: c57 :: c58 :: c59 :: c60 :: c61 :: c62 :: c63 :: c64 :: c65 :: c66 :: c67 :: c68 :: c69 :: c70 :: c71 :: c72 :: c73 :: c74 :: c75 :: c76 :: c77 :: c78 :: c79 :: c80 :: c81 :: c82 :: c83 :: c84 :: c85 :: c86 :: c87 :: c88 :: c89 :: c90 :: c91 :: c92 :: c93 :: c94 :: c95 :: c96 :: c97 :: c98 :: c99 :: c100 :: c101 :: c102 :: c103 :: c104 :: c105 :: c106 :: c107 :: c108 :: c109 :: c110 :: c111 :: c112 :: c113 :: c114 :: c115 :: c116 :: c117 :: c118 :: c119 :: c120 :: c121 :: c122 :: c123 :: c124 :: c125 :: c126 :: c127 :: c128 :: c129 :: c130 :: c131 :: c132 :: c133 :: c134 :: c135 :: c136 :: c137 :: c138 :: c139 :: c140 :: c141 :: c142 :: c143 :: c144 :: c145 :: []), []⟩ u := by
  have hb2 : ((Tryd.f12.body.map codeRests).bind (fun l => l[2]?)).getD Code.skip = code := by rw [hcode]; rfl
  obtain rfl := hb2
  clear hcode
  conv => arg 2; whnf
  have HG : Hid (∀ w', Below w.heap.size w w' → But2 r0 r1 u w' → G (.returned (.tuple #[.agg #[.int .i64 x0, .int .i64 x1, .int .i64 x2, .int .i64 x3, .int .i64 x4, .int .i64 x5, .slice sa ns sc, .slice la nl lc, .int .i64 xf, .slice wa nw wc], .agg #[.int .i64 0, .int .i64 (-1)]])) w') := hG
  subst hE
  have hg0 : r0 ≠ 0 := by have := hfine.1; omega
  have hg1 : r1 ≠ 0 := by have := hfine.1; omega
  clear hG
  obtain ⟨a0, b0⟩ := hp 0 _ rfl
  obtain ⟨a1, b1⟩ := hp 1 _ rfl
  obtain ⟨a2, b2⟩ := hp 2 _ rfl
  obtain ⟨a3, b3⟩ := hp 3 _ rfl
  obtain ⟨a4, b4⟩ := hp 4 _ rfl
  obtain ⟨a5, b5⟩ := hp 5 _ rfl
  obtain ⟨a6, b6⟩ := hp 6 _ rfl
  obtain ⟨a7, b7⟩ := hp 7 _ rfl
  obtain ⟨a8, b8⟩ := hp 8 _ rfl
  obtain ⟨a9, b9⟩ := hp 9 _ rfl
  go_wp2_with fail
  refine hC.mono ?_
  rintro ev w15 ⟨rfl, hb15⟩
  clear hA hB hC
  clear a0 b0
  clear a1 b1
  clear a2 b2
  clear a3 b3
  clear a4 b4
  clear a5 b5
  clear a6 b6
  clear a7 b7
  clear a8 b8
  clear a9 b9
  obtain ⟨W, hWe⟩ : ∃ W, W = w15.alloc (.cells #[.int .i64 0, .int .i64 I] 34) := ⟨_, rfl⟩
  have hbW : Below u.heap.size u W := by rw [hWe]; exact hb15.alloc hb15.size _
  have e0 : W.cell? ⟨w15.heap.size, 0, none⟩ = some (.int .i64 0) := by rw [hWe]; simp
  have e1 : W.cell? ⟨w15.heap.size, 1, none⟩ = some (.int .i64 I) := by rw [hWe]; simp
  replace hz := hz.below hbW
  replace hf := hf.below hbW
  replace hp := hp.below hbW
  replace hBe := hBe.trans (hbW.mono hBe.size)
  have hn0 : r0 ≠ w15.heap.size := by have := hb15.size; omega
  have hn1 : r1 ≠ w15.heap.size := by have := hb15.size; omega
  obtain ⟨p0, q0⟩ := hz 0 _ rfl
  obtain ⟨p1, q1⟩ := hz 1 _ rfl
  obtain ⟨p2, q2⟩ := hz 2 _ rfl
  obtain ⟨p3, q3⟩ := hz 3 _ rfl
  obtain ⟨p4, q4⟩ := hz 4 _ rfl
  obtain ⟨p5, q5⟩ := hz 5 _ rfl
  obtain ⟨p6, q6⟩ := hz 6 _ rfl
  obtain ⟨p7, q7⟩ := hz 7 _ rfl
  obtain ⟨p8, q8⟩ := hz 8 _ rfl
  obtain ⟨p9, q9⟩ := hz 9 _ rfl
  obtain ⟨k0, l0⟩ := hf 0 _ rfl
  obtain ⟨k1, l1⟩ := hf 1 _ rfl
  obtain ⟨g2, g0, g1⟩ := hfine.below hBe
  have hbt : But2 r0 r1 u W := ⟨hbW.os, hbW.tape, hbW.output, hbW.size, fun k hk _ _ => hbW.block k hk⟩
  obtain ⟨a0, b0⟩ := hp 0 _ rfl
  obtain ⟨a1, b1⟩ := hp 1 _ rfl
  obtain ⟨a2, b2⟩ := hp 2 _ rfl
  obtain ⟨a3, b3⟩ := hp 3 _ rfl
  obtain ⟨a4, b4⟩ := hp 4 _ rfl
  obtain ⟨a5, b5⟩ := hp 5 _ rfl
  obtain ⟨a6, b6⟩ := hp 6 _ rfl
  obtain ⟨a7, b7⟩ := hp 7 _ rfl
  obtain ⟨a8, b8⟩ := hp 8 _ rfl
  obtain ⟨a9, b9⟩ := hp 9 _ rfl
  go_wp2_with fail
  rw [← hWe]
  clear hWe
  have HBT : Hid (But2 r0 r1 u W) := hbt
  have HBE : Hid (Below w.heap.size w W) := hBe
  clear hbt hBe b0 b1 b2 b3 b4 b5 b6 b7 b8 b9 e0 e1 hz hf hp hbW hb15 hn0 hn1 g2 hfine hr1 hr2
  go_region
  all_goals go_wp2_with fail
  all_goals exact bodyPost_ret (v := .tuple #[.agg #[.int .i64 x0, .int .i64 x1, .int .i64 x2, .int .i64 x3, .int .i64 x4, .int .i64 x5, .slice sa ns sc, .slice la nl lc, .int .i64 xf, .slice wa nw wc], .agg #[.int .i64 0, .int .i64 (-1)]]) (by simp [results, Tryd.results12, go_sem, p0, p1, p2, p3, p4, p5, p6, p7, p8, p9, k0, k1]) rfl (HG.out _ ((((((((((((HBE.out.setCell (p := ⟨r0, 0, none⟩) hw0 _).setCell (p := ⟨r0, 1, none⟩) hw0 _).setCell (p := ⟨r0, 2, none⟩) hw0 _).setCell (p := ⟨r0, 3, none⟩) hw0 _).setCell (p := ⟨r0, 4, none⟩) hw0 _).setCell (p := ⟨r0, 5, none⟩) hw0 _).setCell (p := ⟨r0, 6, none⟩) hw0 _).setCell (p := ⟨r0, 7, none⟩) hw0 _).setCell (p := ⟨r0, 8, none⟩) hw0 _).setCell (p := ⟨r0, 9, none⟩) hw0 _).setCell (p := ⟨r1, 0, none⟩) hw1 _).setCell (p := ⟨r1, 1, none⟩) hw1 _).drew ((((((((((((HBT.out.setA 0 _).setA 1 _).setA 2 _).setA 3 _).setA 4 _).setA 5 _).setA 6 _).setA 7 _).setA 8 _).setA 9 _).setB 0 _).setB 1 _).drew)
end Go.Proofs.YtlpojkehbhkdiaaDoor

/- Between the document's answer's Decode and the words of the program's: states, and rows as they lie. -/
namespace Go.Proofs.YtlpojkehbhkdiaaDoor
open Go.RowKit

theorem rflat3 (g : Nat → Int × Int × Int) : ∀ n, ((((List.range n).map g).flatMap fun x => [Value.int .i64 x.1, .int .i64 x.2.1, .int .i64 x.2.2]).length = n * 3) ∧ ∀ i, i < n → (((List.range n).map g).flatMap fun x => [Value.int .i64 x.1, .int .i64 x.2.1, .int .i64 x.2.2])[i * 3]? = some (.int .i64 (g i).1) ∧ (((List.range n).map g).flatMap fun x => [Value.int .i64 x.1, .int .i64 x.2.1, .int .i64 x.2.2])[i * 3 + 1]? = some (.int .i64 (g i).2.1) ∧ (((List.range n).map g).flatMap fun x => [Value.int .i64 x.1, .int .i64 x.2.1, .int .i64 x.2.2])[i * 3 + 2]? = some (.int .i64 (g i).2.2) := by
  intro n
  induction n with
  | zero => exact ⟨rfl, fun i hi => absurd hi (Nat.not_lt_zero _)⟩
  | succ n ih =>
    obtain ⟨hl, hi⟩ := ih
    rw [List.range_succ, List.map_append, List.flatMap_append]
    refine ⟨by rw [List.length_append, hl]; simp; omega, fun i hlt => ?_⟩
    by_cases h : i < n
    · obtain ⟨a, b, c⟩ := hi i h
      rw [List.getElem?_append_left (by omega), List.getElem?_append_left (by omega), List.getElem?_append_left (by omega)]
      exact ⟨a, b, c⟩
    · obtain rfl : i = n := by omega
      rw [List.getElem?_append_right (by omega), List.getElem?_append_right (by omega), List.getElem?_append_right (by omega), hl, Nat.sub_self, Nat.add_sub_cancel_left, Nat.add_sub_cancel_left]
      exact ⟨rfl, rfl, rfl⟩
theorem rflat4 (g : Nat → Int × Int × Int × Int) : ∀ n, ((((List.range n).map g).flatMap fun x => [Value.int .i64 x.1, .int .i64 x.2.1, .int .i64 x.2.2.1, .int .i64 x.2.2.2]).length = n * 4) ∧ ∀ i, i < n → (((List.range n).map g).flatMap fun x => [Value.int .i64 x.1, .int .i64 x.2.1, .int .i64 x.2.2.1, .int .i64 x.2.2.2])[i * 4]? = some (.int .i64 (g i).1) ∧ (((List.range n).map g).flatMap fun x => [Value.int .i64 x.1, .int .i64 x.2.1, .int .i64 x.2.2.1, .int .i64 x.2.2.2])[i * 4 + 1]? = some (.int .i64 (g i).2.1) ∧ (((List.range n).map g).flatMap fun x => [Value.int .i64 x.1, .int .i64 x.2.1, .int .i64 x.2.2.1, .int .i64 x.2.2.2])[i * 4 + 2]? = some (.int .i64 (g i).2.2.1) ∧ (((List.range n).map g).flatMap fun x => [Value.int .i64 x.1, .int .i64 x.2.1, .int .i64 x.2.2.1, .int .i64 x.2.2.2])[i * 4 + 3]? = some (.int .i64 (g i).2.2.2) := by
  intro n
  induction n with
  | zero => exact ⟨rfl, fun i hi => absurd hi (Nat.not_lt_zero _)⟩
  | succ n ih =>
    obtain ⟨hl, hi⟩ := ih
    rw [List.range_succ, List.map_append, List.flatMap_append]
    refine ⟨by rw [List.length_append, hl]; simp; omega, fun i hlt => ?_⟩
    by_cases h : i < n
    · obtain ⟨a, b, c, d⟩ := hi i h
      rw [List.getElem?_append_left (by omega), List.getElem?_append_left (by omega), List.getElem?_append_left (by omega), List.getElem?_append_left (by omega)]
      exact ⟨a, b, c, d⟩
    · obtain rfl : i = n := by omega
      rw [List.getElem?_append_right (by omega), List.getElem?_append_right (by omega), List.getElem?_append_right (by omega), List.getElem?_append_right (by omega), hl, Nat.sub_self, Nat.add_sub_cancel_left, Nat.add_sub_cancel_left, Nat.add_sub_cancel_left]
      exact ⟨rfl, rfl, rfl, rfl⟩

/-- A row that was made is a slice. -/
theorem rows_slice {size lo : Nat} {w : World} {v : Value} {n : Nat} {l : List Value} (h : RowsOf size lo w v n l) : ∃ a cap, v = .slice a n cap := by
  rcases h.2 with ⟨rfl, rfl⟩ | ⟨g, cap, hv, _⟩
  · exact ⟨none, 0, rfl⟩
  · exact ⟨_, cap, hv⟩
theorem rows3_of {lo : Nat} {w : World} {a : Option Addr} {n cap : Nat} {g : Nat → Int × Int × Int} (h : RowsOf 3 lo w (.slice a n cap) n (((List.range n).map g).flatMap fun x => [Value.int .i64 x.1, .int .i64 x.2.1, .int .i64 x.2.2])) : Rows3 w a n (fun j => (g j).1) (fun j => (g j).2.1) (fun j => (g j).2.2) := by
  intro hn
  rcases h.2 with ⟨_, h0⟩ | ⟨b, c, hv, _, hb, _, hc⟩
  · omega
  · injection hv with hv
    refine ⟨b, 0, hv, hb, fun j hj => ?_⟩
    obtain ⟨x, y, z⟩ := (rflat3 g n).2 j hj
    rw [Nat.zero_add]
    exact ⟨hc _ _ x, hc _ _ y, hc _ _ z⟩
theorem rows4_of {lo : Nat} {w : World} {a : Option Addr} {n cap : Nat} {g : Nat → Int × Int × Int × Int} (h : RowsOf 4 lo w (.slice a n cap) n (((List.range n).map g).flatMap fun x => [Value.int .i64 x.1, .int .i64 x.2.1, .int .i64 x.2.2.1, .int .i64 x.2.2.2])) : Rows4 w a n (fun j => (g j).1) (fun j => (g j).2.1) (fun j => (g j).2.2.1) (fun j => (g j).2.2.2) := by
  intro hn
  rcases h.2 with ⟨_, h0⟩ | ⟨b, c, hv, _, hb, _, hc⟩
  · omega
  · injection hv with hv
    refine ⟨b, 0, hv, hb, fun j hj => ?_⟩
    obtain ⟨x, y, z, t⟩ := (rflat4 g n).2 j hj
    rw [Nat.zero_add]
    exact ⟨hc _ _ x, hc _ _ y, hc _ _ z, hc _ _ t⟩

theorem many_some {most : Int} {s : St} (h : manySt most s ≠ none) : ¬ most < (nx s).1 ∧ manySt most s = (nx s).2 ∧ s ≠ none := by
  by_cases g : most < (nx s).1
  · exact absurd (show manySt most s = none by unfold manySt; rw [if_pos g]) h
  · have e : manySt most s = (nx s).2 := by unfold manySt; rw [if_neg g]
    refine ⟨g, e, ?_⟩
    rintro rfl
    rw [e] at h
    exact h rfl
theorem rowsN_some {most m : Int} {s : St} (h : manySt most s ≠ none) (hm : manySt most s ≠ none → m = (nx s).1) : rowsN most s = m.toNat := by
  unfold rowsN
  rw [if_neg (many_some h).1, hm h]
theorem st_some {s : St} {k : Nat} (h : stAt s k ≠ none) : s ≠ none := by
  rintro rfl
  exact h (stAt_none _)
theorem nx_up {s : St} (h : (nx s).2 ≠ none) : s ≠ none := by
  rintro rfl
  exact h rfl
theorem bytes_nil {L : List Int} (h : bytesOf L = []) : L = [] := by
  cases L with
  | nil => rfl
  | cons y ys =>
    have h1 : (bytesOf (y :: ys)).length = 0 := by rw [h]; rfl
    have h2 := numB_len 5 y.toNat
    simp [bytesOf] at h1
    rw [h1.1] at h2
    simp at h2

/-- Numbers are fine, or not. -/
theorem nums_one {bs : List Int} {m : Nat} (h1 : stAt (some bs) m = some []) (hx : ∃ m r, stAt (some bs) m = some r ∧ r ≠ [] ∧ rd r = none) : False := by
  obtain ⟨k, r, h2, h3, h4⟩ := hx
  have e1 : ∀ j, stAt (some []) (j + 1) = none := fun j => by
    rw [Nat.add_comm, ← stAt_add]
    exact stAt_none j
  have e2 : ∀ j, stAt (some r) (j + 1) = none := fun j => by
    rw [Nat.add_comm, ← stAt_add]
    have : stAt (some r) 1 = none := by
      show (nx (some r)).2 = none
      simp [nx, h4]
    rw [this]
    exact stAt_none j
  rcases Nat.lt_trichotomy m k with g | g | g
  · have := stAt_add (some bs) m (k - m)
    rw [h1, show m + (k - m) = k from by omega, h2, show k - m = (k - m - 1) + 1 from by omega, e1] at this
    cases this
  · rw [g, h2] at h1
    exact h3 (Option.some.inj h1)
  · have := stAt_add (some bs) k (m - k)
    rw [h2, show k + (m - k) = m from by omega, h1, show m - k = (m - k - 1) + 1 from by omega, e2] at this
    cases this

theorem nums_t {w w' : World} {bs : List Int} {ev : Ending} (hby : ∀ x ∈ bs, 0 ≤ x ∧ x < 256) (h : NumsAre w w' bs ev) (hno : ¬ ∃ m r, stAt (some bs) m = some r ∧ r ≠ [] ∧ rd r = none) : ∃ (a : Option Addr) (cap : Nat) (L : List Int), ev = .returned (.tuple #[.slice a L.length cap, .bool true]) ∧ L.length ≤ cap ∧ L.length ≤ bs.length ∧
    (0 < L.length → ∃ b, a = some ⟨b, 0, none⟩ ∧ (w.heap.size ≤ b ∧ b < w'.heap.size) ∧ ∀ j (h : j < L.length), w'.cell? ⟨b, 0 + j, none⟩ = some (.int .i64 L[j])) ∧ bs = bytesOf L ∧ ∀ x ∈ L, 0 ≤ x ∧ x ≤ 1099511627776 := by
  obtain ⟨a, cap, L, okb, he, h1, h2, h3, h4, _⟩ := nums_row hby h
  rcases h with ⟨m, _, _, v, he2, _⟩ | ⟨hx, _⟩
  · rw [he] at he2
    have e : okb = true := by simp at he2; exact he2.2
    subst e
    exact ⟨a, cap, L, he, h1, h2, h3, h4 rfl⟩
  · exact absurd hx hno
theorem nums_f {w w' : World} {bs : List Int} {ev : Ending} (h : NumsAre w w' bs ev) (hx : ∃ m r, stAt (some bs) m = some r ∧ r ≠ [] ∧ rd r = none) : ev = .returned (.tuple #[.slice none 0 0, .bool false]) := by
  rcases h with ⟨m, hm, hst, v, he, ho⟩ | ⟨_, he⟩
  · exact (nums_one hst hx).elim
  · exact he
end Go.Proofs.YtlpojkehbhkdiaaDoor
