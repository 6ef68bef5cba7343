/- A loop of the document's answer's Decode: rows of three numbers (metronome/api.Window). (Made by tools/gen_refloops.py.) -/
import Derived.Test.YtlpojkehbhkdiaaDoorRefLoops0
namespace Go.Proofs.YtlpojkehbhkdiaaDoor
open Go.RowKit

/-- What is true behind the loop. -/
def Aft3 (K A B C P Bz : Nat) (s : St) (m : Int) (ps : List Value) (w0 : World) (wr : World) : Prop :=
  ∃ (j : Nat) (xs : List (Int × Int × Int)) (v : Value), xs.length = j ∧ (stAt s (3 * m.toNat) ≠ none → j = m.toNat ∧ xs = (List.range j).map (fun i => (nth s (3 * i), nth s (3 * i + 1), nth s (3 * i + 2)))) ∧ NSt K wr A B (stAt s (3 * m.toNat)) ∧ PCells P (ps.set 9 v) wr ∧ wr.ownsRow Bz 61 3 v j (xs.flatMap fun x => [Value.int .i64 x.1, .int .i64 x.2.1, .int .i64 x.2.2]) ∧ wr.cell? ⟨C, 0, none⟩ = some (nextV A B) ∧ Bz ≤ wr.heap.size ∧ Frm A B P Bz w0 wr

set_option maxRecDepth 100000 in
set_option maxHeartbeats 8000000 in
theorem dec_loop3 (body : Code) (hbody : (Tryd.f12.body.map codeLoops).bind (fun l => l[2]?) = some body) (K A B C P Bz : Nat) (s : St) (m : Int) (ps : List Value) (w0 : World) (hAB : A ≠ B) (hPA : P ≠ A) (hPB : P ≠ B) (hCA : C ≠ A) (hCB : C ≠ B) (hPC : P ≠ C) (hKA : K ≤ A) (hKB : K ≤ B) (hPK : P < K) (hA : A < Bz) (hB : B < Bz) (hC : C < Bz) (hP : P < Bz) (hps : ps.length = 10) (hm32 : s ≠ none → m ≤ 32) (Q : Exit → Act → World → Prop) (c0 c1 c2 c3 c5 c6 c9 c10 c11 c12 c15 c16 c17 c18 c19 c20 c21 c22 c23 c24 c25 c26 c27 c28 c29 c30 c31 c32 c33 c34 c35 c36 c37 c38 c39 c40 c41 c42 c43 c44 c45 c46 c47 c48 c49 c50 c51 c52 c53 c54 c55 c56 c57 c58 c59 c60 c61 c62 c63 c64 c65 c66 c67 c68 c69 c70 c71 c72 c73 c74 c75 c76 c77 c78 c79 c80 c81 c82 c83 c84 c85 c86 c87 c88 c89 c90 c91 c92 c93 c94 c95 c96 c97 c98 c99 c100 c101 c102 c103 c129 c130 c131 c132 c133 c134 c135 c136 c137 c138 c139 c140 c141 c142 c143 c144 c145 : Value)
    (hexit : ∀ (t u14 u104 u105 u106 u107 u108 u109 u110 u111 u112 u113 u114 u115 u116 u117 u118 u119 u120 u121 u122 u123 u124 u125 u126 u127 u128 : Value) (wr : World), Aft3 K A B C P Bz s m ps w0 wr → Q (.exit 4) ⟨List.toArray (c0 :: c1 :: c2 :: c3 :: .pointer (some ⟨P, 0, none⟩) :: c5 :: c6 :: .pointer (some ⟨B, 0, none⟩) :: .pointer (some ⟨C, 0, none⟩) :: c9 :: c10 :: c11 :: c12 :: t :: u14 :: c15 :: c16 :: c17 :: c18 :: c19 :: c20 :: c21 :: c22 :: c23 :: c24 :: c25 :: c26 :: c27 :: c28 :: c29 :: c30 :: c31 :: c32 :: c33 :: c34 :: c35 :: c36 :: c37 :: c38 :: c39 :: c40 :: c41 :: c42 :: c43 :: c44 :: c45 :: c46 :: c47 :: c48 :: c49 :: c50 :: c51 :: c52 :: c53 :: c54 :: c55 :: c56 :: c57 :: c58 :: c59 :: c60 :: c61 :: c62 :: c63 :: c64 :: c65 :: c66 :: c67 :: c68 :: c69 :: c70 :: c71 :: c72 :: c73 :: c74 :: c75 :: c76 :: c77 :: c78 :: c79 :: c80 :: c81 :: c82 :: c83 :: c84 :: c85 :: c86 :: c87 :: c88 :: c89 :: c90 :: c91 :: c92 :: c93 :: c94 :: c95 :: c96 :: c97 :: c98 :: c99 :: c100 :: c101 :: c102 :: c103 :: u104 :: u105 :: u106 :: u107 :: u108 :: u109 :: u110 :: u111 :: u112 :: u113 :: u114 :: u115 :: u116 :: u117 :: u118 :: u119 :: u120 :: u121 :: u122 :: u123 :: u124 :: u125 :: u126 :: u127 :: u128 :: c129 :: c130 :: c131 :: c132 :: c133 :: c134 :: c135 :: c136 :: c137 :: c138 :: c139 :: c140 :: c141 :: c142 :: c143 :: c144 :: c145 :: []), []⟩ wr)
    (v0 : Value) (w : World) (hv0 : ps[9]? = some v0) (hN : NSt K w A B s) (hp : PCells P ps w) (ho : w.ownsRow Bz 61 3 v0 0 []) (hcc : w.cell? ⟨C, 0, none⟩ = some (nextV A B)) (hBz : Bz ≤ w.heap.size) (hbe : Frm A B P Bz w0 w) (u14 u104 u105 u106 u107 u108 u109 u110 u111 u112 u113 u114 u115 u116 u117 u118 u119 u120 u121 u122 u123 u124 u125 u126 u127 u128 : Value) :
    Code.wp Tryd.prog (Code.loop body) Q ⟨List.toArray (c0 :: c1 :: c2 :: c3 :: .pointer (some ⟨P, 0, none⟩) :: c5 :: c6 :: .pointer (some ⟨B, 0, none⟩) :: .pointer (some ⟨C, 0, none⟩) :: c9 :: c10 :: c11 :: c12 :: .int .i64 m :: u14 :: c15 :: c16 :: c17 :: c18 :: c19 :: c20 :: c21 :: c22 :: c23 :: c24 :: c25 :: c26 :: c27 :: c28 :: c29 :: c30 :: c31 :: c32 :: c33 :: c34 :: c35 :: c36 :: c37 :: c38 :: c39 :: c40 :: c41 :: c42 :: c43 :: c44 :: c45 :: c46 :: c47 :: c48 :: c49 :: c50 :: c51 :: c52 :: c53 :: c54 :: c55 :: c56 :: c57 :: c58 :: c59 :: c60 :: c61 :: c62 :: c63 :: c64 :: c65 :: c66 :: c67 :: c68 :: c69 :: c70 :: c71 :: c72 :: c73 :: c74 :: c75 :: c76 :: c77 :: c78 :: c79 :: c80 :: c81 :: c82 :: c83 :: c84 :: c85 :: c86 :: c87 :: c88 :: c89 :: c90 :: c91 :: c92 :: c93 :: c94 :: c95 :: c96 :: c97 :: c98 :: c99 :: c100 :: c101 :: c102 :: c103 :: u104 :: u105 :: u106 :: u107 :: u108 :: u109 :: u110 :: u111 :: u112 :: u113 :: u114 :: u115 :: u116 :: u117 :: u118 :: u119 :: u120 :: u121 :: u122 :: u123 :: u124 :: u125 :: u126 :: u127 :: u128 :: c129 :: c130 :: c131 :: c132 :: c133 :: c134 :: c135 :: c136 :: c137 :: c138 :: c139 :: c140 :: c141 :: c142 :: c143 :: c144 :: c145 :: []), []⟩ w := by
  have hb2 : ((Tryd.f12.body.map codeLoops).bind (fun l => l[2]?)).getD Code.skip = body := by rw [hbody]; rfl
  obtain rfl := hb2
  clear hbody
  conv => arg 2; arg 1; whnf
  have HEX : Hid (∀ (t u14 u104 u105 u106 u107 u108 u109 u110 u111 u112 u113 u114 u115 u116 u117 u118 u119 u120 u121 u122 u123 u124 u125 u126 u127 u128 : Value) (wr : World), Aft3 K A B C P Bz s m ps w0 wr → Q (.exit 4) ⟨List.toArray (c0 :: c1 :: c2 :: c3 :: .pointer (some ⟨P, 0, none⟩) :: c5 :: c6 :: .pointer (some ⟨B, 0, none⟩) :: .pointer (some ⟨C, 0, none⟩) :: c9 :: c10 :: c11 :: c12 :: t :: u14 :: c15 :: c16 :: c17 :: c18 :: c19 :: c20 :: c21 :: c22 :: c23 :: c24 :: c25 :: c26 :: c27 :: c28 :: c29 :: c30 :: c31 :: c32 :: c33 :: c34 :: c35 :: c36 :: c37 :: c38 :: c39 :: c40 :: c41 :: c42 :: c43 :: c44 :: c45 :: c46 :: c47 :: c48 :: c49 :: c50 :: c51 :: c52 :: c53 :: c54 :: c55 :: c56 :: c57 :: c58 :: c59 :: c60 :: c61 :: c62 :: c63 :: c64 :: c65 :: c66 :: c67 :: c68 :: c69 :: c70 :: c71 :: c72 :: c73 :: c74 :: c75 :: c76 :: c77 :: c78 :: c79 :: c80 :: c81 :: c82 :: c83 :: c84 :: c85 :: c86 :: c87 :: c88 :: c89 :: c90 :: c91 :: c92 :: c93 :: c94 :: c95 :: c96 :: c97 :: c98 :: c99 :: c100 :: c101 :: c102 :: c103 :: u104 :: u105 :: u106 :: u107 :: u108 :: u109 :: u110 :: u111 :: u112 :: u113 :: u114 :: u115 :: u116 :: u117 :: u118 :: u119 :: u120 :: u121 :: u122 :: u123 :: u124 :: u125 :: u126 :: u127 :: u128 :: c129 :: c130 :: c131 :: c132 :: c133 :: c134 :: c135 :: c136 :: c137 :: c138 :: c139 :: c140 :: c141 :: c142 :: c143 :: c144 :: c145 :: []), []⟩ wr) := hexit
  have HM : Hid (s ≠ none → m ≤ 32) := hm32
  clear hexit hm32
  go_loopw [13] (fun t wr => ∃ (j : Nat) (xs : List (Int × Int × Int)) (v : Value), t = .int .i64 (m - j) ∧ (0 < j → (j : Int) ≤ m) ∧ j ≤ 32 ∧ xs.length = j ∧ Hid (stAt s (3 * j) ≠ none → xs = (List.range j).map (fun i => (nth s (3 * i), nth s (3 * i + 1), nth s (3 * i + 2)))) ∧ NSt K wr A B (stAt s (3 * j)) ∧ PCells P (ps.set 9 v) wr ∧ Hid (wr.ownsRow Bz 61 3 v j (xs.flatMap fun x => [Value.int .i64 x.1, .int .i64 x.2.1, .int .i64 x.2.2])) ∧ wr.cell? ⟨C, 0, none⟩ = some (nextV A B) ∧ Bz ≤ wr.heap.size ∧ Frm A B P Bz w0 wr) (fun t _ => (intOf t).toNat)
  case atStart => exact ⟨0, [], v0, by simp, fun h => absurd h (Nat.lt_irrefl _), Nat.zero_le _, rfl, fun _ => rfl, hN, (by rw [set_id hv0]; exact hp), ho, hcc, hBz, hbe⟩
  case round =>
    clear hN hp ho hcc hBz hbe hv0 v0
    obtain ⟨j, xs, v, rfl, hj, hj32, hxl, hxs, hNj, hpj, hoj, hCj, hBzj, hbj⟩ := hrel
    have hcb := hNj.cellB.1
    by_cases hz : 0 < m - (j : Int)
    · by_cases hsn : stAt s (3 * j) = none
      · rw [hsn] at hcb
        have hcb' : wr.cell? ⟨B, 0, none⟩ = some (.bool true) := hcb
        clear hcb
        have HA : Hid (Aft3 K A B C P Bz s m ps w0 wr) := by
          have hf : stAt s (3 * m.toNat) = none := by
            have e : stAt s (3 * m.toNat) = stAt (stAt s (3 * j)) (3 * m.toNat - 3 * j) := by rw [stAt_add]; congr 1; omega
            rw [e, hsn, stAt_none]
          exact ⟨j, xs, v, hxl, fun h => absurd hf h, by rw [hf, ← hsn]; exact hNj, hpj, hoj.out, hCj, hBzj, hbj⟩
        generalize m - (j : Int) = k at hz ⊢
        clear hj hxs hNj hpj hoj hCj hBzj hbj hsn HM
        go_wp2_with fail
        exact HEX.out _ _ _ _ _ _ _ _ _ _ _ _ _ _ _ _ _ _ _ _ _ _ _ _ _ _ _ _ HA.out
      · have hqe : badOf (stAt s (3 * j)) = false := by
          cases e : stAt s (3 * j) with
          | none => exact absurd e hsn
          | some r => rfl
        rw [hqe] at hcb
        have hm32 : m ≤ 32 := HM.out (by rintro rfl; exact hsn (stAt_none _))
        have hcl : C < wr.heap.size := by omega
        obtain ⟨k, hk⟩ : ∃ k : Int, k = m - (j : Int) := ⟨_, rfl⟩
        have HK : Hid (k = m - (j : Int)) := hk
        have hkp : 0 < k := by omega
        have hk32 : k ≤ 32 := by omega
        have HJ : Hid (j + 1 ≤ 32) := by show _ ≤ _; omega
        rw [← hk]
        obtain ⟨p6, z6⟩ := hpj 9 v (by simp [hps])
        have HXS : Hid (stAt s (3 * j) ≠ none → xs = (List.range j).map (fun i => (nth s (3 * i), nth s (3 * i + 1), nth s (3 * i + 2)))) := hxs
        obtain ⟨Y, hYe⟩ : ∃ Y, Y = wr.alloc (.cells #[.int .i64 0, .int .i64 0, .int .i64 0] 61) := ⟨_, rfl⟩
        have hwY : Below wr.heap.size wr Y := by rw [hYe]; exact (Below.refl _ _).alloc (Nat.le_refl _) _
        have hNY : NSt K Y A B (stAt s (3 * j)) := hNj.below (by omega) (by omega) hwY
        have hpY := hpj.below hwY
        have hCY : Y.cell? ⟨C, 0, none⟩ = _ := (hwY.cell (p := ⟨C, 0, none⟩) hcl).trans hCj
        have hBY : Frm A B P Bz w0 Y := by rw [hYe]; exact hbj.alloc hBzj _
        have HOY : Hid (Y.ownsRow Bz 61 3 v j (xs.flatMap fun x => [Value.int .i64 x.1, .int .i64 x.2.1, .int .i64 x.2.2])) := owns_below hoj.out hwY
        have hYz : wr.heap.size + 1 = Y.heap.size := by rw [hYe]; simp
        have hS : PCells wr.heap.size [.int .i64 0, .int .i64 0, .int .i64 0] Y := by rw [hYe]; exact pcells_new wr #[.int .i64 0, .int .i64 0, .int .i64 0] 61
        obtain ⟨S, hSe⟩ : ∃ S, S = wr.heap.size := ⟨_, rfl⟩
        have hSA : S ≠ A := by omega
        have hSB : S ≠ B := by omega
        have hSC : S ≠ C := by omega
        have hSP : S ≠ P := by omega
        have hSz : Bz ≤ S := by omega
        have hvS : v.ownBlock ≠ some wr.heap.size := own_new_far hoj.out (Nat.le_refl _)
        have hvP : v.ownBlock ≠ some P := own_far hoj.out hP
        have hvC : v.ownBlock ≠ some C := own_far hoj.out hC
        have HVK : Hid (∀ k, k ≤ max A B → v.ownBlock ≠ some k) := fun k hk => own_far hoj.out (by omega)
        have HXL : Hid (xs.length = j) := hxl
        have HJM : Hid (((j + 1 : Nat) : Int) ≤ m) := by show _ ≤ _; omega
        clear hwY hNj hpj hoj hCj hbj hz hj hk hxs hxl hm32 hj32
        unfold nextV at hCY
        go_wp2_with fail
        rw [← hYe, ← hSe]
        rw [← hSe] at hS hYz hvS
        have HSE : Hid (S = wr.heap.size) := hSe
        have hBS : Bz ≤ S := by omega
        clear hYe hcb p6 z6 hSe hBzj hcl
        have hND : NSt K Y.drew A B (stAt s (3 * j)) := hNY
        obtain ⟨v0, z0⟩ := hS 0 _ rfl
        obtain ⟨v1, z1⟩ := hS 1 _ rfl
        obtain ⟨v2, z2⟩ := hS 2 _ rfl
        go_region_held3 (fun u => u.cell? ⟨C, 0, none⟩ = some (.func (.func 26) #[] #[.pointer (some ⟨A, 0, none⟩), .pointer (some ⟨B, 0, none⟩)])) (go_keep) (first
          | (go_at_call 26; refine (next_st A B _ _ hAB hM2).mono ?_; rintro e r3 ⟨y2, rfl, hy2, hM3, hb⟩; (first | replace hb := undrew2 hb | skip); have HY2 : Hid ((nx (nx (stAt s (3 * j))).2).2 ≠ none → y2 = (nx ((nx (nx (stAt s (3 * j))).2).2)).1) := hy2; clear hy2; replace hpY := hpY.but2 hb hPA hPB; replace hCY := hb.cell hCY hCA hCB; have hQ2 := hb.size; replace hBY := hBY.but2 hb (by omega); have HO3 : Hid (World.ownsRow _ _ _ _ _ _ _) := (owns_but2 HO2.out hb hA hB); replace z0 := hb.frozen v0 z0 hSA hSB; replace v0 := hb.cell v0 hSA hSB; replace z1 := hb.frozen v1 z1 hSA hSB; replace v1 := hb.cell v1 hSA hSB; replace z2 := hb.frozen v2 z2 hSA hSB; replace v2 := hb.cell v2 hSA hSB)
          | (go_at_call 26; refine (next_st A B _ _ hAB hM1).mono ?_; rintro e r2 ⟨y1, rfl, hy1, hM2, hb⟩; (first | replace hb := undrew2 hb | skip); have HY1 : Hid ((nx (stAt s (3 * j))).2 ≠ none → y1 = (nx ((nx (stAt s (3 * j))).2)).1) := hy1; clear hy1; replace hpY := hpY.but2 hb hPA hPB; replace hCY := hb.cell hCY hCA hCB; have hQ1 := hb.size; replace hBY := hBY.but2 hb (by omega); have HO2 : Hid (World.ownsRow _ _ _ _ _ _ _) := (owns_but2 HO1.out hb hA hB); replace z0 := hb.frozen v0 z0 hSA hSB; replace v0 := hb.cell v0 hSA hSB; replace z1 := hb.frozen v1 z1 hSA hSB; replace v1 := hb.cell v1 hSA hSB; replace z2 := hb.frozen v2 z2 hSA hSB; replace v2 := hb.cell v2 hSA hSB)
          | (go_at_call 26; refine (next_st A B _ _ hAB hND).mono ?_; rintro e r1 ⟨y0, rfl, hy0, hM1, hb⟩; (first | replace hb := undrew2 hb | skip); have HY0 : Hid (stAt s (3 * j) ≠ none → y0 = (nx (stAt s (3 * j))).1) := hy0; clear hy0; replace hpY := hpY.but2 hb hPA hPB; replace hCY := hb.cell hCY hCA hCB; have hQ0 := hb.size; replace hBY := hBY.but2 hb (by omega); have HO1 : Hid (World.ownsRow _ _ _ _ _ _ _) := (owns_but2 HOY.out hb hA hB); replace z0 := hb.frozen v0 z0 hSA hSB; replace v0 := hb.cell v0 hSA hSB; replace z1 := hb.frozen v1 z1 hSA hSB; replace v1 := hb.cell v1 hSA hSB; replace z2 := hb.frozen v2 z2 hSA hSB; replace v2 := hb.cell v2 hSA hSB))
        obtain ⟨Z, hZe⟩ : ∃ Z, Z = ((r3.setCell ⟨S, 0, none⟩ (.int .i64 y0)).setCell ⟨S, 1, none⟩ (.int .i64 y1)).setCell ⟨S, 2, none⟩ (.int .i64 y2) := ⟨_, rfl⟩
        have hSAB : max A B < S := by omega
        have s0 : Z.cell? ⟨S, 0, none⟩ = some (.int .i64 y0) := by rw [hZe]; exact set_other (by decide) (set_other (by decide) (set_same v0))
        have s1 : Z.cell? ⟨S, 1, none⟩ = some (.int .i64 y1) := by rw [hZe]; exact set_other (by decide) (set_same (set_other (by decide) v1))
        have s2 : Z.cell? ⟨S, 2, none⟩ = some (.int .i64 y2) := by rw [hZe]; exact set_same (set_other (by decide) (set_other (by decide) v2))
        have hNZ : NSt K Z A B ((nx (nx (nx (stAt s (3 * j))).2).2).2) := by rw [hZe]; exact ((hM3.setX hSAB _).setX hSAB _).setX hSAB _
        have hpZ : PCells P (ps.set 9 v) Z := by rw [hZe]; exact ((hpY.far hSP _).far hSP _).far hSP _
        have hCZ : Z.cell? ⟨C, 0, none⟩ = some (nextV A B) := by rw [hZe]; exact set_far hSC (set_far hSC (set_far hSC hCY))
        have hBZ : Frm A B P Bz w0 Z := by rw [hZe]; exact ((hBY.set (.inr hSz) _).set (.inr hSz) _).set (.inr hSz) _
        have HOZ : Hid (Z.ownsRow Bz 61 3 v j (xs.flatMap fun x => [Value.int .i64 x.1, .int .i64 x.2.1, .int .i64 x.2.2])) := by rw [hZe]; exact owns_set (owns_set (owns_set HO3.out hvS _) hvS _) hvS _
        have hZz : S + 1 ≤ Z.heap.size := by rw [hZe]; simp; omega
        rw [← hZe]
        obtain ⟨p6, z6⟩ := hpZ 9 v (by simp [hps])
        have HOA : Hid (World.ownsRow (Z.alloc (.cells #[.int .i64 y0, .int .i64 y1, .int .i64 y2] 61)) Bz 61 3 v j (xs.flatMap fun x => [Value.int .i64 x.1, .int .i64 x.2.1, .int .i64 x.2.2])) := owns_below HOZ.out ((Below.refl _ _).alloc (Nat.le_refl _) _)
        clear hZe v0 v1 v2 z0 z1 z2 hS hM1 hM2 hM3 hND hNY hpY hCY hBY HOY HO1 HO2 HO3 HOZ hQ0 hQ1 hQ2 hYz hvS hb
        obtain ⟨iI, hiI, hz0, hz1, hz2⟩ := info_parts Tryd.infoWindow
        have hj33 := HJ.out
        go_wp2_with (at_builtin; refine wpList_append_own_at _ rfl _ _ 24 rfl Bz 61 iI (.agg #[.int .i64 0, .int .i64 0, .int .i64 0]) 3 24 Tryd.underlying24 hiI hz0 hz1 hz2 rfl (by decide) v j _ rfl HOA.out ⟨Z.heap.size, 0, none⟩ 1 1 [.int .i64 y0, .int .i64 y1, .int .i64 y2] rfl rfl (row_cells Z #[.int .i64 y0, .int .i64 y1, .int .i64 y2] 61) (ints_one [y0, y1, y2]) (by unfold maxLen; omega) (by omega) (by simp; omega) ?_; apply Hid.out)
        unfold Hid
        intro v' w2 hown' hgrow _ _
        obtain ⟨gq, cq, rfl⟩ := owns_slice hown'
        have hAl : Below Z.heap.size Z (Z.alloc (.cells #[.int .i64 y0, .int .i64 y1, .int .i64 y2] 61)) := (Below.refl _ _).alloc (Nat.le_refl _) _
        have hN2 : NSt K w2 A B ((nx (nx (nx (stAt s (3 * j))).2).2).2) := (hNZ.below (by omega) (by omega) hAl).grown hgrow HVK.out (by simp; omega) (by simp; omega)
        have hp2 : PCells P (ps.set 9 v) w2 := (hpZ.below hAl).grown hgrow hvP
        have hC2 : w2.cell? ⟨C, 0, none⟩ = some (nextV A B) := cell_grown (keep_cell hCZ hAl) hgrow hvC
        have hB2 : Frm A B P Bz w0 w2 := (hBZ.alloc (by omega) _).grown hgrow (by simp; omega) (fun z hz => (HOA.out.lt z hz).1)
        have h2z : Z.heap.size ≤ w2.heap.size := Nat.le_trans (by simp) hgrow.size
        have HO2 : Hid (w2.ownsRow Bz 61 3 (.slice (some ⟨gq, 0, none⟩) (j + 1) cq) (j + 1) ((xs ++ [(y0, y1, y2)]).flatMap fun x => [Value.int .i64 x.1, .int .i64 x.2.1, .int .i64 x.2.2])) := by
          show World.ownsRow _ _ _ _ _ _ _
          rw [List.flatMap_append]
          exact hown'
        clear hown' hgrow hAl hNZ hpZ hCZ hBZ HOA s0 s1 s2 p6 z6
        obtain ⟨p6, z6⟩ := hp2 9 v (by simp [hps])
        go_wp2_with fail
        have HF : Hid (stAt s (3 * (j + 1)) ≠ none → xs ++ [(y0, y1, y2)] = (List.range (j + 1)).map (fun i => (nth s (3 * i), nth s (3 * i + 1), nth s (3 * i + 2)))) := fun h => by
          rw [st_three] at h
          obtain ⟨h1, h2, h3⟩ := st_two h
          rw [List.range_succ, List.map_append, ← HXS.out h1, HY0.out h1, HY1.out h2, HY2.out h3]
          rfl
        refine ⟨⟨j + 1, xs ++ [(y0, y1, y2)], .slice (some ⟨gq, 0, none⟩) (j + 1) cq, ?_, fun _ => HJM.out, HJ.out, by simp [HXL.out], HF, ?_, ?_, ?_, set_far hPC hC2, ?_, hB2.set (.inl rfl) _⟩, ?_⟩
        · rw [HK.out]; congr 1; omega
        · rw [st_three]; exact hN2.setLow hKA hKB hPK _
        · have := hp2.set (i := 9) (by simp [hps]) (.slice (some ⟨gq, 0, none⟩) (j + 1) cq)
          rwa [List.set_set] at this
        · exact ownsRow_setCell_below HO2.out hP _
        · simp; omega
        · simp [intOf]; omega
    · have HA : Hid (Aft3 K A B C P Bz s m ps w0 wr) := by
        have hjm : j = m.toNat := by
          rcases Nat.eq_zero_or_pos j with q | q
          · subst q; omega
          · have := hj q; omega
        exact ⟨j, xs, v, hxl, fun h => ⟨hjm, hxs.out (by rw [hjm]; exact h)⟩, by rw [← hjm]; exact hNj, hpj, hoj.out, hCj, hBzj, hbj⟩
      have hz' : decide (0 < m - (j : Int)) = false := decide_eq_false hz
      generalize m - (j : Int) = k at hz hz' ⊢
      clear hj hxs hNj hpj hoj hCj hBzj hbj HM hcb
      go_wp2_with fail
      exact HEX.out _ _ _ _ _ _ _ _ _ _ _ _ _ _ _ _ _ _ _ _ _ _ _ _ _ _ _ _ HA.out
end Go.Proofs.YtlpojkehbhkdiaaDoor
