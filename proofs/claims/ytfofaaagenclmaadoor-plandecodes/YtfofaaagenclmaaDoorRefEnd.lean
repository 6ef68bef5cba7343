/- Behind the last loop of the document's answer's Decode. (Made by tools/gen_refend.py.) -/
import Derived.Test.YtfofaaagenclmaaDoorRefRows
import Derived.Test.YtfofaaagenclmaaDoorRefMain
import Derived.RegionTactic
namespace Go.Proofs.YtfofaaagenclmaaDoor
open Go.RowKit

theorem But2.drew {A B : Nat} {a b : World} (h : But2 A B a b) : But2 A B a b.drew := ⟨h.os, h.tape, h.output, h.size, h.block⟩

/-- What follows each loop. -/
def codeRests : Code → List Code
  | .seq a b => codeRests a ++ (if (codeLoops a).isEmpty then [] else [b]) ++ codeRests b
  | .block _ c => codeRests c
  | .scope c => codeRests c
  | .cond _ a b => codeRests a ++ codeRests b
  | _ => []

set_option maxRecDepth 100000 in
set_option maxHeartbeats 2000000 in
theorem dec_end_form (code : Code) (hcode : (Tryd.f30.body.map codeRests).bind (fun l => l[2]?) = some code) (G : Ending → World → Prop) (r0 r1 P A B : Nat) (w u : World) (bad : Bool) (aL : Option Addr) (kk cL : Nat) (h01 : r0 ≠ r1) (hw0 : w.heap.size ≤ r0) (hw1 : w.heap.size ≤ r1) (hB : u.cell? ⟨B, 0, none⟩ = some (.bool bad)) (hA : u.cell? ⟨A, 0, none⟩ = some (.slice aL kk cL)) (hbad : bad = true ∨ 0 < kk) (hz : PCells r0 [.int .i64 0, .int .i64 0, .int .i64 0, .int .i64 0, .int .i64 0, .int .i64 0, .slice none 0 0, .slice none 0 0, .int .i64 0, .slice none 0 0] u) (hf : PCells r1 [.int .i64 0, .int .i64 0] u) (hBe : Below w.heap.size w u)
    (hG : ∀ w', Below w.heap.size w w' → G (.returned (.tuple #[.agg #[.int .i64 0, .int .i64 0, .int .i64 0, .int .i64 0, .int .i64 0, .int .i64 0, .slice none 0 0, .slice none 0 0, .int .i64 0, .slice none 0 0], .agg #[.int .i64 3, .int .i64 (-1)]])) w') (c0 c1 c6 c8 c9 c10 c11 c12 c13 c14 c15 c16 c17 c18 c19 c20 c21 c22 c23 c24 c25 c26 c27 c28 c29 c30 c31 c32 c33 c34 c35 c36 c37 c38 c39 c40 c41 c42 c43 c44 c45 c46 c47 c48 c49 c50 c51 c52 c53 c54 c55 c56 c57 c58 c59 c60 c61 c62 c63 c64 c65 c66 c67 c68 c69 c70 c71 c72 c73 c74 c75 c76 c77 c78 c79 c80 c81 c82 c83 c84 c85 c86 c87 c88 c89 c90 c91 c92 c93 c94 c95 c96 c97 c98 c99 c100 c101 c102 c103 c104 c105 c106 c107 c108 c109 c110 c111 c112 c113 c114 c115 c116 c117 c118 c119 c120 c121 c122 c123 c124 c125 c126 c127 c128 c129 c130 c131 c132 c133 c134 c135 c136 c137 c138 c139 c140 c141 c142 c143 c144 c145 : Value) :
    Code.wp Tryd.prog code (bodyPost Tryd.prog Tryd.f30 G) ⟨List.toArray (c0 :: c1 :: .pointer (some ⟨r0, 0, none⟩) :: .pointer (some ⟨r1, 0, none⟩) :: .pointer (some ⟨P, 0, none⟩) :: .pointer (some ⟨A, 0, none⟩) :: c6 :: .pointer (some ⟨B, 0, none⟩) :: c8 :: c9 :: c10 :: c11 :: c12 :: c13 :: c14 :: c15 :: c16 :: c17 :: c18 :: c19 :: c20 :: c21 :: c22 :: c23 :: c24 :: c25 :: c26 :: c27 :: c28 :: c29 :: c30 :: c31 :: c32 :: c33 :: c34 :: c35 :: c36 :: c37 :: c38 :: c39 :: c40 :: c41 :: c42 :: c43 :: c44 :: c45 :: c46 :: c47 :: c48 :: c49 :: c50 :: c51 :: c52 :: c53 :: c54 :: c55 :: c56 :: c57 :: c58 :: c59 :: c60 :: c61 :: c62 :: c63 :: c64 :: c65 :: c66 :: c67 :: c68 :: c69 :: c70 :: c71 :: c72 :: c73 :: c74 :: c75 :: c76 :: c77 :: c78 :: c79 :: c80 :: c81 :: c82 :: c83 :: c84 :: c85 :: c86 :: c87 :: c88 :: c89 :: c90 :: c91 :: c92 :: c93 :: c94 :: c95 :: c96 :: c97 :: c98 :: c99 :: c100 :: c101 :: c102 :: c103 :: c104 :: c105 :: c106 :: c107 :: c108 :: c109 :: c110 :: c111 :: c112 :: c113 :: c114 :: c115 :: c116 :: c117 :: c118 :: c119 :: c120 :: c121 :: c122 :: c123 :: c124 :: c125 :: c126 :: c127 :: c128 :: c129 :: c130 :: c131 :: c132 :: c133 :: c134 :: c135 :: c136 :: c137 :: c138 :: c139 :: c140 :: c141 :: c142 :: c143 :: c144 :: c145 :: []), []⟩ u := by
  have hb2 : ((Tryd.f30.body.map codeRests).bind (fun l => l[2]?)).getD Code.skip = code := by rw [hcode]; rfl
  obtain rfl := hb2
  clear hcode
  conv => arg 2; whnf
  have HG : Hid (∀ w', Below w.heap.size w w' → G (.returned (.tuple #[.agg #[.int .i64 0, .int .i64 0, .int .i64 0, .int .i64 0, .int .i64 0, .int .i64 0, .slice none 0 0, .slice none 0 0, .int .i64 0, .slice none 0 0], .agg #[.int .i64 3, .int .i64 (-1)]])) w') := hG
  clear hG
  cases bad
  · have hk : (0 : Int) < (kk : Int) := by
      rcases hbad with h | h
      · cases h
      · omega
    clear hbad
    go_wp2_with fail
    refine (bareR_any 3 _).mono ?_
    rintro e w15 ⟨rfl, hb15⟩
    replace hz := hz.below hb15
    replace hf := hf.below hb15
    replace hBe := hBe.trans (hb15.mono hBe.size)
    clear hb15 hA hB
    obtain ⟨p0, q0⟩ := hz 0 _ rfl
    obtain ⟨p1, q1⟩ := hz 1 _ rfl
    obtain ⟨p2, q2⟩ := hz 2 _ rfl
    obtain ⟨p3, q3⟩ := hz 3 _ rfl
    obtain ⟨p4, q4⟩ := hz 4 _ rfl
    obtain ⟨p5, q5⟩ := hz 5 _ rfl
    obtain ⟨p6, q6⟩ := hz 6 _ rfl
    obtain ⟨p7, q7⟩ := hz 7 _ rfl
    obtain ⟨p8, q8⟩ := hz 8 _ rfl
    obtain ⟨p9, q9⟩ := hz 9 _ rfl
    obtain ⟨k0, l0⟩ := hf 0 _ rfl
    obtain ⟨k1, l1⟩ := hf 1 _ rfl
    go_wp2_with fail
    exact bodyPost_ret (v := .tuple #[.agg #[.int .i64 0, .int .i64 0, .int .i64 0, .int .i64 0, .int .i64 0, .int .i64 0, .slice none 0 0, .slice none 0 0, .int .i64 0, .slice none 0 0], .agg #[.int .i64 3, .int .i64 (-1)]]) (by simp [results, Tryd.results30, go_sem, p0, p1, p2, p3, p4, p5, p6, p7, p8, p9, k0, k1]) rfl (HG.out _ ((((((((((((hBe.setCell (p := ⟨r0, 0, none⟩) hw0 _).setCell (p := ⟨r0, 1, none⟩) hw0 _).setCell (p := ⟨r0, 2, none⟩) hw0 _).setCell (p := ⟨r0, 3, none⟩) hw0 _).setCell (p := ⟨r0, 4, none⟩) hw0 _).setCell (p := ⟨r0, 5, none⟩) hw0 _).setCell (p := ⟨r0, 6, none⟩) hw0 _).setCell (p := ⟨r0, 7, none⟩) hw0 _).setCell (p := ⟨r0, 8, none⟩) hw0 _).setCell (p := ⟨r0, 9, none⟩) hw0 _).setCell (p := ⟨r1, 0, none⟩) hw1 _).setCell (p := ⟨r1, 1, none⟩) hw1 _))
  · clear hbad
    go_wp2_with fail
    refine (bareR_any 3 _).mono ?_
    rintro e w15 ⟨rfl, hb15⟩
    replace hz := hz.below hb15
    replace hf := hf.below hb15
    replace hBe := hBe.trans (hb15.mono hBe.size)
    clear hb15 hA hB
    obtain ⟨p0, q0⟩ := hz 0 _ rfl
    obtain ⟨p1, q1⟩ := hz 1 _ rfl
    obtain ⟨p2, q2⟩ := hz 2 _ rfl
    obtain ⟨p3, q3⟩ := hz 3 _ rfl
    obtain ⟨p4, q4⟩ := hz 4 _ rfl
    obtain ⟨p5, q5⟩ := hz 5 _ rfl
    obtain ⟨p6, q6⟩ := hz 6 _ rfl
    obtain ⟨p7, q7⟩ := hz 7 _ rfl
    obtain ⟨p8, q8⟩ := hz 8 _ rfl
    obtain ⟨p9, q9⟩ := hz 9 _ rfl
    obtain ⟨k0, l0⟩ := hf 0 _ rfl
    obtain ⟨k1, l1⟩ := hf 1 _ rfl
    go_wp2_with fail
    exact bodyPost_ret (v := .tuple #[.agg #[.int .i64 0, .int .i64 0, .int .i64 0, .int .i64 0, .int .i64 0, .int .i64 0, .slice none 0 0, .slice none 0 0, .int .i64 0, .slice none 0 0], .agg #[.int .i64 3, .int .i64 (-1)]]) (by simp [results, Tryd.results30, go_sem, p0, p1, p2, p3, p4, p5, p6, p7, p8, p9, k0, k1]) rfl (HG.out _ ((((((((((((hBe.setCell (p := ⟨r0, 0, none⟩) hw0 _).setCell (p := ⟨r0, 1, none⟩) hw0 _).setCell (p := ⟨r0, 2, none⟩) hw0 _).setCell (p := ⟨r0, 3, none⟩) hw0 _).setCell (p := ⟨r0, 4, none⟩) hw0 _).setCell (p := ⟨r0, 5, none⟩) hw0 _).setCell (p := ⟨r0, 6, none⟩) hw0 _).setCell (p := ⟨r0, 7, none⟩) hw0 _).setCell (p := ⟨r0, 8, none⟩) hw0 _).setCell (p := ⟨r0, 9, none⟩) hw0 _).setCell (p := ⟨r1, 0, none⟩) hw1 _).setCell (p := ⟨r1, 1, none⟩) hw1 _))

set_option maxRecDepth 100000 in
set_option maxHeartbeats 4000000 in
theorem dec_end_bad (code : Code) (hcode : (Tryd.f30.body.map codeRests).bind (fun l => l[2]?) = some code) (G : Ending → World → Prop) (r0 r1 P A B : Nat) (w u : World) (x0 x1 x2 x3 x4 x5 xf E I : Int) (sa la wa : Option Addr) (ns nl nw sc lc wc : Nat) (aL : Option Addr) (cL : Nat) (h01 : r0 ≠ r1) (hw0 : w.heap.size ≤ r0) (hw1 : w.heap.size ≤ r1) (hr1 : r0 < u.heap.size) (hr2 : r1 < u.heap.size) (hB : u.cell? ⟨B, 0, none⟩ = some (.bool false)) (hA : u.cell? ⟨A, 0, none⟩ = some (.slice aL 0 cL)) (hz : PCells r0 [.int .i64 0, .int .i64 0, .int .i64 0, .int .i64 0, .int .i64 0, .int .i64 0, .slice none 0 0, .slice none 0 0, .int .i64 0, .slice none 0 0] u) (hf : PCells r1 [.int .i64 0, .int .i64 0] u) (hp : PCells P [.int .i64 x0, .int .i64 x1, .int .i64 x2, .int .i64 x3, .int .i64 x4, .int .i64 x5, .slice sa ns sc, .slice la nl lc, .int .i64 xf, .slice wa nw wc] u) (hBe : Below w.heap.size w u) (hC : Calls Tryd.prog 27 #[.agg #[.int .i64 x0, .int .i64 x1, .int .i64 x2, .int .i64 x3, .int .i64 x4, .int .i64 x5, .slice sa ns sc, .slice la nl lc, .int .i64 xf, .slice wa nw wc]] u fun ev w' => ev = .returned (.agg #[.int .i64 E, .int .i64 I]) ∧ Below u.heap.size u w') (hE : E ≠ 0)
    (hG : ∀ w', Below w.heap.size w w' → G (.returned (.tuple #[.agg #[.int .i64 0, .int .i64 0, .int .i64 0, .int .i64 0, .int .i64 0, .int .i64 0, .slice none 0 0, .slice none 0 0, .int .i64 0, .slice none 0 0], .agg #[.int .i64 E, .int .i64 I]])) w') (c0 c1 c6 c8 c9 c10 c11 c12 c13 c14 c15 c16 c17 c18 c19 c20 c21 c22 c23 c24 c25 c26 c27 c28 c29 c30 c31 c32 c33 c34 c35 c36 c37 c38 c39 c40 c41 c42 c43 c44 c45 c46 c47 c48 c49 c50 c51 c52 c53 c54 c55 c56 c57 c58 c59 c60 c61 c62 c63 c64 c65 c66 c67 c68 c69 c70 c71 c72 c73 c74 c75 c76 c77 c78 c79 c80 c81 c82 c83 c84 c85 c86 c87 c88 c89 c90 c91 c92 c93 c94 c95 c96 c97 c98 c99 c100 c101 c102 c103 c104 c105 c106 c107 c108 c109 c110 c111 c112 c113 c114 c115 c116 c117 c118 c119 c120 c121 c122 c123 c124 c125 c126 c127 c128 c129 c130 c131 c132 c133 c134 c135 c136 c137 c138 c139 c140 c141 c142 c143 c144 c145 : Value) :
    Code.wp Tryd.prog code (bodyPost Tryd.prog Tryd.f30 G) ⟨List.toArray (c0 :: c1 :: .pointer (some ⟨r0, 0, none⟩) :: .pointer (some ⟨r1, 0, none⟩) :: .pointer (some ⟨P, 0, none⟩) :: .pointer (some ⟨A, 0, none⟩) :: c6 :: .pointer (some ⟨B, 0, none⟩) :: c8 :: c9 :: c10 :: c11 :: c12 :: c13 :: c14 :: c15 :: c16 :: c17 :: c18 :: c19 :: c20 :: c21 :: c22 :: c23 :: c24 :: c25 :: c26 :: c27 :: c28 :: c29 :: c30 :: c31 :: c32 :: c33 :: c34 :: c35 :: c36 :: c37 :: c38 :: c39 :: c40 :: c41 :: c42 :: c43 :: c44 :: c45 :: c46 :: c47 :: c48 :: c49 :: c50 :: c51 :: c52 :: c53 :: c54 :: c55 :: c56 :: c57 :: c58 :: c59 :: c60 :: c61 :: c62 :: c63 :: c64 :: c65 :: c66 :: c67 :: c68 :: c69 :: c70 :: c71 :: c72 :: c73 :: c74 :: c75 :: c76 :: c77 :: c78 :: c79 :: c80 :: c81 :: c82 :: c83 :: c84 :: c85 :: c86 :: c87 :: c88 :: c89 :: c90 :: c91 :: c92 :: c93 :: c94 :: c95 :: c96 :: c97 :: c98 :: c99 :: c100 :: c101 :: c102 :: c103 :: c104 :: c105 :: c106 :: c107 :: c108 :: c109 :: c110 :: c111 :: c112 :: c113 :: c114 :: c115 :: c116 :: c117 :: c118 :: c119 :: c120 :: c121 :: c122 :: c123 :: c124 :: c125 :: c126 :: c127 :: c128 :: c129 :: c130 :: c131 :: c132 :: c133 :: c134 :: c135 :: c136 :: c137 :: c138 :: c139 :: c140 :: c141 :: c142 :: c143 :: c144 :: c145 :: []), []⟩ u := by
  have hb2 : ((Tryd.f30.body.map codeRests).bind (fun l => l[2]?)).getD Code.skip = code := by rw [hcode]; rfl
  obtain rfl := hb2
  clear hcode
  conv => arg 2; whnf
  have HG : Hid (∀ w', Below w.heap.size w w' → G (.returned (.tuple #[.agg #[.int .i64 0, .int .i64 0, .int .i64 0, .int .i64 0, .int .i64 0, .int .i64 0, .slice none 0 0, .slice none 0 0, .int .i64 0, .slice none 0 0], .agg #[.int .i64 E, .int .i64 I]])) w') := hG
  have kE : (E != 0) = true := by simpa using hE
  clear hG hE
  obtain ⟨a0, b0⟩ := hp 0 _ rfl
  obtain ⟨a1, b1⟩ := hp 1 _ rfl
  obtain ⟨a2, b2⟩ := hp 2 _ rfl
  obtain ⟨a3, b3⟩ := hp 3 _ rfl
  obtain ⟨a4, b4⟩ := hp 4 _ rfl
  obtain ⟨a5, b5⟩ := hp 5 _ rfl
  obtain ⟨a6, b6⟩ := hp 6 _ rfl
  obtain ⟨a7, b7⟩ := hp 7 _ rfl
  obtain ⟨a8, b8⟩ := hp 8 _ rfl
  obtain ⟨a9, b9⟩ := hp 9 _ rfl
  go_wp2_with fail
  refine hC.mono ?_
  rintro ev w15 ⟨rfl, hb15⟩
  clear hA hB hC
  clear a0 b0
  clear a1 b1
  clear a2 b2
  clear a3 b3
  clear a4 b4
  clear a5 b5
  clear a6 b6
  clear a7 b7
  clear a8 b8
  clear a9 b9
  obtain ⟨W, hWe⟩ : ∃ W, W = w15.alloc (.cells #[.int .i64 E, .int .i64 I] 53) := ⟨_, rfl⟩
  have hbW : Below u.heap.size u W := by rw [hWe]; exact hb15.alloc hb15.size _
  have e0 : W.cell? ⟨w15.heap.size, 0, none⟩ = some (.int .i64 E) := by rw [hWe]; simp
  have e1 : W.cell? ⟨w15.heap.size, 1, none⟩ = some (.int .i64 I) := by rw [hWe]; simp
  replace hz := hz.below hbW
  replace hf := hf.below hbW
  replace hp := hp.below hbW
  replace hBe := hBe.trans (hbW.mono hBe.size)
  have hn0 : r0 ≠ w15.heap.size := by have := hb15.size; omega
  have hn1 : r1 ≠ w15.heap.size := by have := hb15.size; omega
  obtain ⟨p0, q0⟩ := hz 0 _ rfl
  obtain ⟨p1, q1⟩ := hz 1 _ rfl
  obtain ⟨p2, q2⟩ := hz 2 _ rfl
  obtain ⟨p3, q3⟩ := hz 3 _ rfl
  obtain ⟨p4, q4⟩ := hz 4 _ rfl
  obtain ⟨p5, q5⟩ := hz 5 _ rfl
  obtain ⟨p6, q6⟩ := hz 6 _ rfl
  obtain ⟨p7, q7⟩ := hz 7 _ rfl
  obtain ⟨p8, q8⟩ := hz 8 _ rfl
  obtain ⟨p9, q9⟩ := hz 9 _ rfl
  obtain ⟨k0, l0⟩ := hf 0 _ rfl
  obtain ⟨k1, l1⟩ := hf 1 _ rfl
  go_wp2_with fail
  rw [← hWe]
  clear hWe
  go_region
  all_goals go_wp2_with fail
  all_goals exact bodyPost_ret (v := .tuple #[.agg #[.int .i64 0, .int .i64 0, .int .i64 0, .int .i64 0, .int .i64 0, .int .i64 0, .slice none 0 0, .slice none 0 0, .int .i64 0, .slice none 0 0], .agg #[.int .i64 E, .int .i64 I]]) (by simp [results, Tryd.results30, go_sem, p0, p1, p2, p3, p4, p5, p6, p7, p8, p9, k0, k1]) rfl (HG.out _ ((((((((((((hBe.setCell (p := ⟨r0, 0, none⟩) hw0 _).setCell (p := ⟨r0, 1, none⟩) hw0 _).setCell (p := ⟨r0, 2, none⟩) hw0 _).setCell (p := ⟨r0, 3, none⟩) hw0 _).setCell (p := ⟨r0, 4, none⟩) hw0 _).setCell (p := ⟨r0, 5, none⟩) hw0 _).setCell (p := ⟨r0, 6, none⟩) hw0 _).setCell (p := ⟨r0, 7, none⟩) hw0 _).setCell (p := ⟨r0, 8, none⟩) hw0 _).setCell (p := ⟨r0, 9, none⟩) hw0 _).setCell (p := ⟨r1, 0, none⟩) hw1 _).setCell (p := ⟨r1, 1, none⟩) hw1 _).drew)

set_option maxRecDepth 100000 in
set_option maxHeartbeats 4000000 in
theorem dec_end_good (code : Code) (hcode : (Tryd.f30.body.map codeRests).bind (fun l => l[2]?) = some code) (G : Ending → World → Prop) (r0 r1 P A B : Nat) (w u : World) (x0 x1 x2 x3 x4 x5 xf E I : Int) (sa la wa : Option Addr) (ns nl nw sc lc wc : Nat) (aL : Option Addr) (cL : Nat) (h01 : r0 ≠ r1) (hw0 : w.heap.size ≤ r0) (hw1 : w.heap.size ≤ r1) (hr1 : r0 < u.heap.size) (hr2 : r1 < u.heap.size) (hB : u.cell? ⟨B, 0, none⟩ = some (.bool false)) (hA : u.cell? ⟨A, 0, none⟩ = some (.slice aL 0 cL)) (hz : PCells r0 [.int .i64 0, .int .i64 0, .int .i64 0, .int .i64 0, .int .i64 0, .int .i64 0, .slice none 0 0, .slice none 0 0, .int .i64 0, .slice none 0 0] u) (hf : PCells r1 [.int .i64 0, .int .i64 0] u) (hp : PCells P [.int .i64 x0, .int .i64 x1, .int .i64 x2, .int .i64 x3, .int .i64 x4, .int .i64 x5, .slice sa ns sc, .slice la nl lc, .int .i64 xf, .slice wa nw wc] u) (hBe : Below w.heap.size w u) (hC : Calls Tryd.prog 27 #[.agg #[.int .i64 x0, .int .i64 x1, .int .i64 x2, .int .i64 x3, .int .i64 x4, .int .i64 x5, .slice sa ns sc, .slice la nl lc, .int .i64 xf, .slice wa nw wc]] u fun ev w' => ev = .returned (.agg #[.int .i64 E, .int .i64 I]) ∧ Below u.heap.size u w') (hE : E = 0) (hP0 : P ≠ r0) (hP1 : P ≠ r1) (hfine : Fine0 w)
    (hG : ∀ w', Below w.heap.size w w' → But2 r0 r1 u w' → G (.returned (.tuple #[.agg #[.int .i64 x0, .int .i64 x1, .int .i64 x2, .int .i64 x3, .int .i64 x4, .int .i64 x5, .slice sa ns sc, .slice la nl lc, .int .i64 xf, .slice wa nw wc], .agg #[.int .i64 0, .int .i64 (-1)]])) w') (c0 c1 c6 c8 c9 c10 c11 c12 c13 c14 c15 c16 c17 c18 c19 c20 c21 c22 c23 c24 c25 c26 c27 c28 c29 c30 c31 c32 c33 c34 c35 c36 c37 c38 c39 c40 c41 c42 c43 c44 c45 c46 c47 c48 c49 c50 c51 c52 c53 c54 c55 c56 c57 c58 c59 c60 c61 c62 c63 c64 c65 c66 c67 c68 c69 c70 c71 c72 c73 c74 c75 c76 c77 c78 c79 c80 c81 c82 c83 c84 c85 c86 c87 c88 c89 c90 c91 c92 c93 c94 c95 c96 c97 c98 c99 c100 c101 c102 c103 c104 c105 c106 c107 c108 c109 c110 c111 c112 c113 c114 c115 c116 c117 c118 c119 c120 c121 c122 c123 c124 c125 c126 c127 c128 c129 c130 c131 c132 c133 c134 c135 c136 c137 c138 c139 c140 c141 c142 c143 c144 c145 : Value) :
    Code.wp Tryd.prog code (bodyPost Tryd.prog Tryd.f30 G) ⟨List.toArray (c0 :: c1 :: .pointer (some ⟨r0, 0, none⟩) :: .pointer (some ⟨r1, 0, none⟩) :: .pointer (some ⟨P, 0, none⟩) :: .pointer (some ⟨A, 0, none⟩) :: c6 :: .pointer (some ⟨B, 0, none⟩) :: c8 :: c9 :: c10 :: c11 :: c12 :: c13 :: c14 :: c15 :: c16 :: c17 :: c18 :: c19 :: c20 :: c21 :: c22 :: c23 :: c24 :: c25 :: c26 :: c27 :: c28 :: c29 :: c30 :: c31 :: c32 :: c33 :: c34 :: c35 :: c36 :: c37 :: c38 :: c39 :: c40 :: c41 :: c42 :: c43 :: c44 :: c45 :: c46 :: c47 :: c48 :: c49 :: c50 :: c51 :: c52 :: c53 :: c54 :: c55 :: c56 :: c57 :: c58 :: c59 :: c60 :: c61 :: c62 :: c63 :: c64 :: c65 :: c66 :: c67 :: c68 :: c69 :: c70 :: c71 :: c72 :: c73 :: c74 :: c75 :: c76 :: c77 :: c78 :: c79 :: c80 :: c81 :: c82 :: c83 :: c84 :: c85 :: c86 :: c87 :: c88 :: c89 :: c90 :: c91 :: c92 :: c93 :: c94 :: c95 :: c96 :: c97 :: c98 :: c99 :: c100 :: c101 :: c102 :: c103 :: c104 :: c105 :: c106 :: c107 :: c108 :: c109 :: c110 :: c111 :: c112 :: c113 :: c114 :: c115 :: c116 :: c117 :: c118 :: c119 :: c120 :: c121 :: c122 :: c123 :: c124 :: c125 :: c126 :: c127 :: c128 :: c129 :: c130 :: c131 :: c132 :: c133 :: c134 :: c135 :: c136 :: c137 :: c138 :: c139 :: c140 :: c141 :: c142 :: c143 :: c144 :: c145 :: []), []⟩ u := by
  have hb2 : ((Tryd.f30.body.map codeRests).bind (fun l => l[2]?)).getD Code.skip = code := by rw [hcode]; rfl
  obtain rfl := hb2
  clear hcode
  conv => arg 2; whnf
  have HG : Hid (∀ w', Below w.heap.size w w' → But2 r0 r1 u w' → G (.returned (.tuple #[.agg #[.int .i64 x0, .int .i64 x1, .int .i64 x2, .int .i64 x3, .int .i64 x4, .int .i64 x5, .slice sa ns sc, .slice la nl lc, .int .i64 xf, .slice wa nw wc], .agg #[.int .i64 0, .int .i64 (-1)]])) w') := hG
  subst hE
  have hg0 : r0 ≠ 0 := by have := hfine.1; omega
  have hg1 : r1 ≠ 0 := by have := hfine.1; omega
  clear hG
  obtain ⟨a0, b0⟩ := hp 0 _ rfl
  obtain ⟨a1, b1⟩ := hp 1 _ rfl
  obtain ⟨a2, b2⟩ := hp 2 _ rfl
  obtain ⟨a3, b3⟩ := hp 3 _ rfl
  obtain ⟨a4, b4⟩ := hp 4 _ rfl
  obtain ⟨a5, b5⟩ := hp 5 _ rfl
  obtain ⟨a6, b6⟩ := hp 6 _ rfl
  obtain ⟨a7, b7⟩ := hp 7 _ rfl
  obtain ⟨a8, b8⟩ := hp 8 _ rfl
  obtain ⟨a9, b9⟩ := hp 9 _ rfl
  go_wp2_with fail
  refine hC.mono ?_
  rintro ev w15 ⟨rfl, hb15⟩
  clear hA hB hC
  clear a0 b0
  clear a1 b1
  clear a2 b2
  clear a3 b3
  clear a4 b4
  clear a5 b5
  clear a6 b6
  clear a7 b7
  clear a8 b8
  clear a9 b9
  obtain ⟨W, hWe⟩ : ∃ W, W = w15.alloc (.cells #[.int .i64 0, .int .i64 I] 53) := ⟨_, rfl⟩
  have hbW : Below u.heap.size u W := by rw [hWe]; exact hb15.alloc hb15.size _
  have e0 : W.cell? ⟨w15.heap.size, 0, none⟩ = some (.int .i64 0) := by rw [hWe]; simp
  have e1 : W.cell? ⟨w15.heap.size, 1, none⟩ = some (.int .i64 I) := by rw [hWe]; simp
  replace hz := hz.below hbW
  replace hf := hf.below hbW
  replace hp := hp.below hbW
  replace hBe := hBe.trans (hbW.mono hBe.size)
  have hn0 : r0 ≠ w15.heap.size := by have := hb15.size; omega
  have hn1 : r1 ≠ w15.heap.size := by have := hb15.size; omega
  obtain ⟨p0, q0⟩ := hz 0 _ rfl
  obtain ⟨p1, q1⟩ := hz 1 _ rfl
  obtain ⟨p2, q2⟩ := hz 2 _ rfl
  obtain ⟨p3, q3⟩ := hz 3 _ rfl
  obtain ⟨p4, q4⟩ := hz 4 _ rfl
  obtain ⟨p5, q5⟩ := hz 5 _ rfl
  obtain ⟨p6, q6⟩ := hz 6 _ rfl
  obtain ⟨p7, q7⟩ := hz 7 _ rfl
  obtain ⟨p8, q8⟩ := hz 8 _ rfl
  obtain ⟨p9, q9⟩ := hz 9 _ rfl
  obtain ⟨k0, l0⟩ := hf 0 _ rfl
  obtain ⟨k1, l1⟩ := hf 1 _ rfl
  obtain ⟨g2, g0, g1⟩ := hfine.below hBe
  have hbt : But2 r0 r1 u W := ⟨hbW.os, hbW.tape, hbW.output, hbW.size, fun k hk _ _ => hbW.block k hk⟩
  obtain ⟨a0, b0⟩ := hp 0 _ rfl
  obtain ⟨a1, b1⟩ := hp 1 _ rfl
  obtain ⟨a2, b2⟩ := hp 2 _ rfl
  obtain ⟨a3, b3⟩ := hp 3 _ rfl
  obtain ⟨a4, b4⟩ := hp 4 _ rfl
  obtain ⟨a5, b5⟩ := hp 5 _ rfl
  obtain ⟨a6, b6⟩ := hp 6 _ rfl
  obtain ⟨a7, b7⟩ := hp 7 _ rfl
  obtain ⟨a8, b8⟩ := hp 8 _ rfl
  obtain ⟨a9, b9⟩ := hp 9 _ rfl
  go_wp2_with fail
  rw [← hWe]
  clear hWe
  have HBT : Hid (But2 r0 r1 u W) := hbt
  have HBE : Hid (Below w.heap.size w W) := hBe
  clear hbt hBe b0 b1 b2 b3 b4 b5 b6 b7 b8 b9 e0 e1 hz hf hp hbW hb15 hn0 hn1 g2 hfine hr1 hr2
  go_region
  all_goals go_wp2_with fail
  all_goals exact bodyPost_ret (v := .tuple #[.agg #[.int .i64 x0, .int .i64 x1, .int .i64 x2, .int .i64 x3, .int .i64 x4, .int .i64 x5, .slice sa ns sc, .slice la nl lc, .int .i64 xf, .slice wa nw wc], .agg #[.int .i64 0, .int .i64 (-1)]]) (by simp [results, Tryd.results30, go_sem, p0, p1, p2, p3, p4, p5, p6, p7, p8, p9, k0, k1]) rfl (HG.out _ ((((((((((((HBE.out.setCell (p := ⟨r0, 0, none⟩) hw0 _).setCell (p := ⟨r0, 1, none⟩) hw0 _).setCell (p := ⟨r0, 2, none⟩) hw0 _).setCell (p := ⟨r0, 3, none⟩) hw0 _).setCell (p := ⟨r0, 4, none⟩) hw0 _).setCell (p := ⟨r0, 5, none⟩) hw0 _).setCell (p := ⟨r0, 6, none⟩) hw0 _).setCell (p := ⟨r0, 7, none⟩) hw0 _).setCell (p := ⟨r0, 8, none⟩) hw0 _).setCell (p := ⟨r0, 9, none⟩) hw0 _).setCell (p := ⟨r1, 0, none⟩) hw1 _).setCell (p := ⟨r1, 1, none⟩) hw1 _).drew ((((((((((((HBT.out.setA 0 _).setA 1 _).setA 2 _).setA 3 _).setA 4 _).setA 5 _).setA 6 _).setA 7 _).setA 8 _).setA 9 _).setB 0 _).setB 1 _).drew)
end Go.Proofs.YtfofaaagenclmaaDoor
