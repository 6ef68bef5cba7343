/- A loop of the document's answer's Decode: rows of four numbers (metronome/api.Link). (Made by tools/gen_refloops.py.) -/
import Derived.Test.YtlpojkehbhkdiaaDoorSteps
import Derived.Test.YtlpojkehbhkdiaaDoorRefLoops0
import Derived.Deep.AppendLies
namespace Go.Proofs.YtlpojkehbhkdiaaDoor
open Go.RowKit

theorem st_four (s : St) (j : Nat) : stAt s (4 * (j + 1)) = (nx (nx (nx (nx (stAt s (4 * j))).2).2).2).2 := rfl
theorem st_fours {q : St} (h : (nx (nx (nx (nx q).2).2).2).2 ≠ none) : q ≠ none ∧ (nx q).2 ≠ none ∧ (nx (nx q).2).2 ≠ none ∧ (nx (nx (nx q).2).2).2 ≠ none := by
  refine ⟨?_, ?_, ?_, ?_⟩
  · rintro rfl; exact h rfl
  · intro e; rw [e] at h; exact h rfl
  · intro e; rw [e] at h; exact h rfl
  · intro e; rw [e] at h; exact h rfl
/-- What is true behind the loop. -/
def Aft2 (K A B C P Bz : Nat) (s : St) (m : Int) (ps : List Value) (w0 : World) (wr : World) : Prop :=
  ∃ (j : Nat) (xs : List (Int × Int × Int × Int)) (v : Value), xs.length = j ∧ (stAt s (4 * m.toNat) ≠ none → j = m.toNat ∧ xs = (List.range j).map (fun i => (nth s (4 * i), nth s (4 * i + 1), nth s (4 * i + 2), nth s (4 * i + 3)))) ∧ NSt K wr A B (stAt s (4 * m.toNat)) ∧ PCells P (ps.set 7 v) wr ∧ wr.ownsRow Bz 58 4 v j (xs.flatMap fun x => [Value.int .i64 x.1, .int .i64 x.2.1, .int .i64 x.2.2.1, .int .i64 x.2.2.2]) ∧ wr.cell? ⟨C, 0, none⟩ = some (nextV A B) ∧ Bz ≤ wr.heap.size ∧ Frm A B P Bz w0 wr

set_option maxRecDepth 100000 in
set_option maxHeartbeats 8000000 in
theorem dec_loop2 (body : Code) (hbody : (Tryd.f12.body.map codeLoops).bind (fun l => l[1]?) = some body) (K A B C P Bz : Nat) (s : St) (m : Int) (ps : List Value) (w0 : World) (hAB : A ≠ B) (hPA : P ≠ A) (hPB : P ≠ B) (hCA : C ≠ A) (hCB : C ≠ B) (hPC : P ≠ C) (hKA : K ≤ A) (hKB : K ≤ B) (hPK : P < K) (hA : A < Bz) (hB : B < Bz) (hC : C < Bz) (hP : P < Bz) (hps : ps.length = 10) (hm32 : s ≠ none → m ≤ 8) (Q : Exit → Act → World → Prop) (c0 c1 c2 c3 c5 c6 c9 c10 c11 c13 c14 c15 c16 c17 c18 c19 c20 c21 c22 c23 c24 c25 c26 c27 c28 c29 c30 c31 c32 c33 c34 c35 c36 c37 c38 c39 c40 c41 c42 c43 c44 c45 c46 c47 c48 c49 c50 c51 c52 c53 c54 c55 c56 c57 c58 c59 c60 c61 c62 c63 c64 c65 c66 c67 c68 c69 c70 c71 c72 c73 c74 c75 c76 c99 c100 c101 c102 c103 c104 c105 c106 c107 c108 c109 c110 c111 c112 c113 c114 c115 c116 c117 c118 c119 c120 c121 c122 c123 c124 c125 c126 c127 c128 c129 c130 c131 c132 c133 c134 c135 c136 c137 c138 c139 c140 c141 c142 c143 c144 c145 : Value)
    (hexit : ∀ (t u77 u78 u79 u80 u81 u82 u83 u84 u85 u86 u87 u88 u89 u90 u91 u92 u93 u94 u95 u96 u97 u98 : Value) (wr : World), Aft2 K A B C P Bz s m ps w0 wr → Q (.exit 2) ⟨List.toArray (c0 :: c1 :: c2 :: c3 :: .pointer (some ⟨P, 0, none⟩) :: c5 :: c6 :: .pointer (some ⟨B, 0, none⟩) :: .pointer (some ⟨C, 0, none⟩) :: c9 :: c10 :: c11 :: t :: c13 :: c14 :: c15 :: c16 :: c17 :: c18 :: c19 :: c20 :: c21 :: c22 :: c23 :: c24 :: c25 :: c26 :: c27 :: c28 :: c29 :: c30 :: c31 :: c32 :: c33 :: c34 :: c35 :: c36 :: c37 :: c38 :: c39 :: c40 :: c41 :: c42 :: c43 :: c44 :: c45 :: c46 :: c47 :: c48 :: c49 :: c50 :: c51 :: c52 :: c53 :: c54 :: c55 :: c56 :: c57 :: c58 :: c59 :: c60 :: c61 :: c62 :: c63 :: c64 :: c65 :: c66 :: c67 :: c68 :: c69 :: c70 :: c71 :: c72 :: c73 :: c74 :: c75 :: c76 :: u77 :: u78 :: u79 :: u80 :: u81 :: u82 :: u83 :: u84 :: u85 :: u86 :: u87 :: u88 :: u89 :: u90 :: u91 :: u92 :: u93 :: u94 :: u95 :: u96 :: u97 :: u98 :: c99 :: c100 :: c101 :: c102 :: c103 :: c104 :: c105 :: c106 :: c107 :: c108 :: c109 :: c110 :: c111 :: c112 :: c113 :: c114 :: c115 :: c116 :: c117 :: c118 :: c119 :: c120 :: c121 :: c122 :: c123 :: c124 :: c125 :: c126 :: c127 :: c128 :: c129 :: c130 :: c131 :: c132 :: c133 :: c134 :: c135 :: c136 :: c137 :: c138 :: c139 :: c140 :: c141 :: c142 :: c143 :: c144 :: c145 :: []), []⟩ wr)
    (v0 : Value) (w : World) (hv0 : ps[7]? = some v0) (hN : NSt K w A B s) (hp : PCells P ps w) (ho : w.ownsRow Bz 58 4 v0 0 []) (hcc : w.cell? ⟨C, 0, none⟩ = some (nextV A B)) (hBz : Bz ≤ w.heap.size) (hbe : Frm A B P Bz w0 w) (u77 u78 u79 u80 u81 u82 u83 u84 u85 u86 u87 u88 u89 u90 u91 u92 u93 u94 u95 u96 u97 u98 : Value) :
    Code.wp Tryd.prog (Code.loop body) Q ⟨List.toArray (c0 :: c1 :: c2 :: c3 :: .pointer (some ⟨P, 0, none⟩) :: c5 :: c6 :: .pointer (some ⟨B, 0, none⟩) :: .pointer (some ⟨C, 0, none⟩) :: c9 :: c10 :: c11 :: .int .i64 m :: c13 :: c14 :: c15 :: c16 :: c17 :: c18 :: c19 :: c20 :: c21 :: c22 :: c23 :: c24 :: c25 :: c26 :: c27 :: c28 :: c29 :: c30 :: c31 :: c32 :: c33 :: c34 :: c35 :: c36 :: c37 :: c38 :: c39 :: c40 :: c41 :: c42 :: c43 :: c44 :: c45 :: c46 :: c47 :: c48 :: c49 :: c50 :: c51 :: c52 :: c53 :: c54 :: c55 :: c56 :: c57 :: c58 :: c59 :: c60 :: c61 :: c62 :: c63 :: c64 :: c65 :: c66 :: c67 :: c68 :: c69 :: c70 :: c71 :: c72 :: c73 :: c74 :: c75 :: c76 :: u77 :: u78 :: u79 :: u80 :: u81 :: u82 :: u83 :: u84 :: u85 :: u86 :: u87 :: u88 :: u89 :: u90 :: u91 :: u92 :: u93 :: u94 :: u95 :: u96 :: u97 :: u98 :: c99 :: c100 :: c101 :: c102 :: c103 :: c104 :: c105 :: c106 :: c107 :: c108 :: c109 :: c110 :: c111 :: c112 :: c113 :: c114 :: c115 :: c116 :: c117 :: c118 :: c119 :: c120 :: c121 :: c122 :: c123 :: c124 :: c125 :: c126 :: c127 :: c128 :: c129 :: c130 :: c131 :: c132 :: c133 :: c134 :: c135 :: c136 :: c137 :: c138 :: c139 :: c140 :: c141 :: c142 :: c143 :: c144 :: c145 :: []), []⟩ w := by
  have hb2 : ((Tryd.f12.body.map codeLoops).bind (fun l => l[1]?)).getD Code.skip = body := by rw [hbody]; rfl
  obtain rfl := hb2
  clear hbody
  conv => arg 2; arg 1; whnf
  have HEX : Hid (∀ (t u77 u78 u79 u80 u81 u82 u83 u84 u85 u86 u87 u88 u89 u90 u91 u92 u93 u94 u95 u96 u97 u98 : Value) (wr : World), Aft2 K A B C P Bz s m ps w0 wr → Q (.exit 2) ⟨List.toArray (c0 :: c1 :: c2 :: c3 :: .pointer (some ⟨P, 0, none⟩) :: c5 :: c6 :: .pointer (some ⟨B, 0, none⟩) :: .pointer (some ⟨C, 0, none⟩) :: c9 :: c10 :: c11 :: t :: c13 :: c14 :: c15 :: c16 :: c17 :: c18 :: c19 :: c20 :: c21 :: c22 :: c23 :: c24 :: c25 :: c26 :: c27 :: c28 :: c29 :: c30 :: c31 :: c32 :: c33 :: c34 :: c35 :: c36 :: c37 :: c38 :: c39 :: c40 :: c41 :: c42 :: c43 :: c44 :: c45 :: c46 :: c47 :: c48 :: c49 :: c50 :: c51 :: c52 :: c53 :: c54 :: c55 :: c56 :: c57 :: c58 :: c59 :: c60 :: c61 :: c62 :: c63 :: c64 :: c65 :: c66 :: c67 :: c68 :: c69 :: c70 :: c71 :: c72 :: c73 :: c74 :: c75 :: c76 :: u77 :: u78 :: u79 :: u80 :: u81 :: u82 :: u83 :: u84 :: u85 :: u86 :: u87 :: u88 :: u89 :: u90 :: u91 :: u92 :: u93 :: u94 :: u95 :: u96 :: u97 :: u98 :: c99 :: c100 :: c101 :: c102 :: c103 :: c104 :: c105 :: c106 :: c107 :: c108 :: c109 :: c110 :: c111 :: c112 :: c113 :: c114 :: c115 :: c116 :: c117 :: c118 :: c119 :: c120 :: c121 :: c122 :: c123 :: c124 :: c125 :: c126 :: c127 :: c128 :: c129 :: c130 :: c131 :: c132 :: c133 :: c134 :: c135 :: c136 :: c137 :: c138 :: c139 :: c140 :: c141 :: c142 :: c143 :: c144 :: c145 :: []), []⟩ wr) := hexit
  have HM : Hid (s ≠ none → m ≤ 8) := hm32
  clear hexit hm32
  go_loopw [12] (fun t wr => ∃ (j : Nat) (xs : List (Int × Int × Int × Int)) (v : Value), t = .int .i64 (m - j) ∧ (0 < j → (j : Int) ≤ m) ∧ j ≤ 8 ∧ xs.length = j ∧ Hid (stAt s (4 * j) ≠ none → xs = (List.range j).map (fun i => (nth s (4 * i), nth s (4 * i + 1), nth s (4 * i + 2), nth s (4 * i + 3)))) ∧ NSt K wr A B (stAt s (4 * j)) ∧ PCells P (ps.set 7 v) wr ∧ Hid (wr.ownsRow Bz 58 4 v j (xs.flatMap fun x => [Value.int .i64 x.1, .int .i64 x.2.1, .int .i64 x.2.2.1, .int .i64 x.2.2.2])) ∧ wr.cell? ⟨C, 0, none⟩ = some (nextV A B) ∧ Bz ≤ wr.heap.size ∧ Frm A B P Bz w0 wr) (fun t _ => (intOf t).toNat)
  case atStart => exact ⟨0, [], v0, by simp, fun h => absurd h (Nat.lt_irrefl _), Nat.zero_le _, rfl, fun _ => rfl, hN, (by rw [set_id hv0]; exact hp), ho, hcc, hBz, hbe⟩
  case round =>
    clear hN hp ho hcc hBz hbe hv0 v0
    obtain ⟨j, xs, v, rfl, hj, hj32, hxl, hxs, hNj, hpj, hoj, hCj, hBzj, hbj⟩ := hrel
    have hcb := hNj.cellB.1
    by_cases hz : 0 < m - (j : Int)
    · by_cases hsn : stAt s (4 * j) = none
      · rw [hsn] at hcb
        have hcb' : wr.cell? ⟨B, 0, none⟩ = some (.bool true) := hcb
        clear hcb
        have HA : Hid (Aft2 K A B C P Bz s m ps w0 wr) := by
          have hf : stAt s (4 * m.toNat) = none := by
            have e : stAt s (4 * m.toNat) = stAt (stAt s (4 * j)) (4 * m.toNat - 4 * j) := by rw [stAt_add]; congr 1; omega
            rw [e, hsn, stAt_none]
          exact ⟨j, xs, v, hxl, fun h => absurd hf h, by rw [hf, ← hsn]; exact hNj, hpj, hoj.out, hCj, hBzj, hbj⟩
        generalize m - (j : Int) = k at hz ⊢
        clear hj hxs hNj hpj hoj hCj hBzj hbj hsn HM
        go_wp2_with fail
        exact HEX.out _ _ _ _ _ _ _ _ _ _ _ _ _ _ _ _ _ _ _ _ _ _ _ _ HA.out
      · have hqe : badOf (stAt s (4 * j)) = false := by
          cases e : stAt s (4 * j) with
          | none => exact absurd e hsn
          | some r => rfl
        rw [hqe] at hcb
        have hm32 : m ≤ 8 := HM.out (by rintro rfl; exact hsn (stAt_none _))
        have hcl : C < wr.heap.size := by omega
        obtain ⟨k, hk⟩ : ∃ k : Int, k = m - (j : Int) := ⟨_, rfl⟩
        have HK : Hid (k = m - (j : Int)) := hk
        have hkp : 0 < k := by omega
        have hk32 : k ≤ 8 := by omega
        have HJ : Hid (j + 1 ≤ 8) := by show _ ≤ _; omega
        rw [← hk]
        obtain ⟨p6, z6⟩ := hpj 7 v (by simp [hps])
        have HXS : Hid (stAt s (4 * j) ≠ none → xs = (List.range j).map (fun i => (nth s (4 * i), nth s (4 * i + 1), nth s (4 * i + 2), nth s (4 * i + 3)))) := hxs
        have hvP : v.ownBlock ≠ some P := own_far hoj.out hP
        have hvC : v.ownBlock ≠ some C := own_far hoj.out hC
        have HVK : Hid (∀ k, k ≤ max A B → v.ownBlock ≠ some k) := fun k hk => own_far hoj.out (by omega)
        have HXL : Hid (xs.length = j) := hxl
        have HJM : Hid (((j + 1 : Nat) : Int) ≤ m) := by show _ ≤ _; omega
        have HOY : Hid (wr.ownsRow Bz 58 4 v j (xs.flatMap fun x => [Value.int .i64 x.1, .int .i64 x.2.1, .int .i64 x.2.2.1, .int .i64 x.2.2.2])) := hoj
        have hND : NSt K wr.drew A B (stAt s (4 * j)) := hNj
        have hpY := hpj
        have hBY := hbj
        have hCY := hCj
        have hYz : Bz ≤ wr.heap.size := hBzj
        have hj33 := HJ.out
        obtain ⟨iI, hiI, hz0, hz1, hz2⟩ := info_parts Tryd.infoLink
        unfold nextV at hCY
        clear hNj hpj hoj hCj hbj hz hj hk hxs hxl hm32 hj32 hBzj hcl
        go_wp2_with fail
        clear hcb
        refine wp_region_noPanic ?_
        refine wp_region_held_drew (S := fun u => u.cell? ⟨C, 0, none⟩ = some (.func (.func 26) #[] #[.pointer (some ⟨A, 0, none⟩), .pointer (some ⟨B, 0, none⟩)])) (by kernel_rfl) (by (try dsimp only); go_keep) (fun hHeld => ?_)
        refine tk 0 hHeld ?_
        refine tk 2 hHeld ?_
        refine tk 4 hHeld ?_
        refine tk 6 hHeld ?_
        refine tk 8 hHeld ?_
        refine rd2 1 3 (fun K hK => ?_) fun K hK => ?_
        · go_simp
          refine kp hK fun hHeld => ?_
          clear hK K
          refine rdy 3 fun K hK => ?_
          go_simp
          (go_at_call 26; refine (next_st A B _ _ hAB hND).mono ?_; rintro e r1 ⟨y0, rfl, hy0, hM1, hb⟩; (first | replace hb := undrew2 hb | skip); have HY0 : Hid (stAt s (4 * j) ≠ none → y0 = (nx (stAt s (4 * j))).1) := hy0; clear hy0; replace hpY := hpY.but2 hb hPA hPB; replace hCY := hb.cell hCY hCA hCB; have hQ0 := hb.size; replace hBY := hBY.but2 hb (by omega); have HO1 : Hid (World.ownsRow _ _ _ _ _ _ _) := (owns_but2 HOY.out hb hA hB); replace z6 := hb.frozen p6 z6 hPA hPB; replace p6 := hb.cell p6 hPA hPB; have hPz1 : P < r1.heap.size := lt_of_cell p6)
          refine kp hK fun hHeld => ?_
          clear hK K
          refine rdy 5 fun K hK => ?_
          go_simp
          (go_at_call 26; refine (next_st A B _ _ hAB hM1).mono ?_; rintro e r2 ⟨y1, rfl, hy1, hM2, hb⟩; (first | replace hb := undrew2 hb | skip); have HY1 : Hid ((nx (stAt s (4 * j))).2 ≠ none → y1 = (nx ((nx (stAt s (4 * j))).2)).1) := hy1; clear hy1; replace hpY := hpY.but2 hb hPA hPB; replace hCY := hb.cell hCY hCA hCB; have hQ1 := hb.size; replace hBY := hBY.but2 hb (by omega); have HO2 : Hid (World.ownsRow _ _ _ _ _ _ _) := (owns_but2 HO1.out hb hA hB); replace z6 := hb.frozen p6 z6 hPA hPB; replace p6 := hb.cell p6 hPA hPB; have hPz2 : P < r2.heap.size := lt_of_cell p6)
          refine kp hK fun hHeld => ?_
          clear hK K
          refine rdy 7 fun K hK => ?_
          go_simp
          (go_at_call 26; refine (next_st A B _ _ hAB hM2).mono ?_; rintro e r3 ⟨y2, rfl, hy2, hM3, hb⟩; (first | replace hb := undrew2 hb | skip); have HY2 : Hid ((nx (nx (stAt s (4 * j))).2).2 ≠ none → y2 = (nx ((nx (nx (stAt s (4 * j))).2).2)).1) := hy2; clear hy2; replace hpY := hpY.but2 hb hPA hPB; replace hCY := hb.cell hCY hCA hCB; have hQ2 := hb.size; replace hBY := hBY.but2 hb (by omega); have HO3 : Hid (World.ownsRow _ _ _ _ _ _ _) := (owns_but2 HO2.out hb hA hB); replace z6 := hb.frozen p6 z6 hPA hPB; replace p6 := hb.cell p6 hPA hPB; have hPz3 : P < r3.heap.size := lt_of_cell p6)
          refine kp hK fun hHeld => ?_
          clear hK K
          refine rdy 9 fun K hK => ?_
          go_simp
          (go_at_call 26; refine (next_st A B _ _ hAB hM3).mono ?_; rintro e r4 ⟨y3, rfl, hy3, hM4, hb⟩; (first | replace hb := undrew2 hb | skip); have HY3 : Hid ((nx (nx (nx (stAt s (4 * j))).2).2).2 ≠ none → y3 = (nx ((nx (nx (nx (stAt s (4 * j))).2).2).2)).1) := hy3; clear hy3; replace hpY := hpY.but2 hb hPA hPB; replace hCY := hb.cell hCY hCA hCB; have hQ3 := hb.size; replace hBY := hBY.but2 hb (by omega); have HO4 : Hid (World.ownsRow _ _ _ _ _ _ _) := (owns_but2 HO3.out hb hA hB); replace z6 := hb.frozen p6 z6 hPA hPB; replace p6 := hb.cell p6 hPA hPB; have hPz4 : P < r4.heap.size := lt_of_cell p6)
          refine kp hK fun hHeld => ?_
          clear hK K
          refine tk 10 hHeld ?_
          refine rdy 11 fun K hK => ?_
          go_simp
          refine kp hK fun hHeld => ?_
          clear hK K
          refine rdy 12 fun K hK => ?_
          (refine step_append_lies _ (by rfl) _ _ _ (by rfl) Bz 58 iI (.agg #[.int .i64 0, .int .i64 0, .int .i64 0, .int .i64 0]) 4 32 Tryd.underlying23 hiI hz0 hz1 hz2 rfl (by decide) v j _ (by rfl) (owns_below HO4.out ((Below.refl _ _).alloc (Nat.le_refl _) _)) ⟨r4.heap.size, 0, none⟩ 1 1 [.int .i64 y0, .int .i64 y1, .int .i64 y2, .int .i64 y3] (by rfl) rfl (row_cells r4 #[.int .i64 y0, .int .i64 y1, .int .i64 y2, .int .i64 y3] 58) (ints_one [y0, y1, y2, y3]) (by decide) (by unfold maxLen; omega) (by omega) (by simp; omega) (r4.heap.size + 1) (by simp) ?_; intro gq cq w2 hown' hgrow _ _; have hAl : Below r4.heap.size r4 (r4.alloc (.cells #[.int .i64 y0, .int .i64 y1, .int .i64 y2, .int .i64 y3] 58)) := (Below.refl _ _).alloc (Nat.le_refl _) _; have hN2 := (hM4.below (by omega) (by omega) hAl).grown hgrow HVK.out (by simp; omega) (by simp; omega); have hp2 : PCells P (ps.set 7 v) w2 := (hpY.below hAl).grown hgrow hvP; have hC2 := cell_grown (keep_cell hCY hAl) hgrow hvC; have hB2 : Frm A B P Bz w0 w2 := (hBY.alloc (by omega) _).grown hgrow (by simp; omega) (fun z hz => (HO4.out.lt z hz).1); have h2z : r4.heap.size ≤ w2.heap.size := Nat.le_trans (by simp) hgrow.size; have HO5 : Hid (World.ownsRow _ _ _ _ _ _ _) := hown'; obtain ⟨p7, z7⟩ := hp2 7 v (by simp [hps]); clear hown' hgrow hAl)
          refine kp hK fun hHeld => ?_
          clear hK K
          refine tk 13 hHeld ?_
          refine rdy 14 fun K hK => ?_
          go_simp
          refine kp hK fun hHeld => ?_
          clear hK K
          refine dn ?_
          refine NoPanic.normal ?_
          go_wp2_with fail
          have HF : Hid (stAt s (4 * (j + 1)) ≠ none → xs ++ [(y0, y1, y2, y3)] = (List.range (j + 1)).map (fun i => (nth s (4 * i), nth s (4 * i + 1), nth s (4 * i + 2), nth s (4 * i + 3)))) := fun h => by
            rw [st_four] at h
            obtain ⟨h1, h2, h3, h4⟩ := st_fours h
            rw [List.range_succ, List.map_append, ← HXS.out h1, HY0.out h1, HY1.out h2, HY2.out h3, HY3.out h4]
            rfl
          refine ⟨⟨j + 1, xs ++ [(y0, y1, y2, y3)], .slice (some ⟨gq, 0, none⟩) (j + 1) cq, ?_, fun _ => HJM.out, HJ.out, by simp [HXL.out], HF, ?_, ?_, ?_, set_far hPC hC2, ?_, hB2.set (.inl rfl) _⟩, ?_⟩
          · rw [HK.out]; congr 1; omega
          · rw [st_four]; exact hN2.setLow hKA hKB hPK _
          · have := hp2.set (i := 7) (by simp [hps]) (.slice (some ⟨gq, 0, none⟩) (j + 1) cq)
            rwa [List.set_set] at this
          · refine ownsRow_setCell_below ?_ hP _
            rw [List.flatMap_append]
            exact HO5.out
          · simp; omega
          · simp [intOf]; omega
        · go_simp
          (go_at_call 26; refine (next_st A B _ _ hAB hND).mono ?_; rintro e r1 ⟨y0, rfl, hy0, hM1, hb⟩; (first | replace hb := undrew2 hb | skip); have HY0 : Hid (stAt s (4 * j) ≠ none → y0 = (nx (stAt s (4 * j))).1) := hy0; clear hy0; replace hpY := hpY.but2 hb hPA hPB; replace hCY := hb.cell hCY hCA hCB; have hQ0 := hb.size; replace hBY := hBY.but2 hb (by omega); have HO1 : Hid (World.ownsRow _ _ _ _ _ _ _) := (owns_but2 HOY.out hb hA hB); replace z6 := hb.frozen p6 z6 hPA hPB; replace p6 := hb.cell p6 hPA hPB; have hPz1 : P < r1.heap.size := lt_of_cell p6)
          refine kp hK fun hHeld => ?_
          clear hK K
          refine rd2 1 5 (fun K hK => ?_) fun K hK => ?_
          · go_simp
            refine kp hK fun hHeld => ?_
            clear hK K
            refine rdy 5 fun K hK => ?_
            go_simp
            (go_at_call 26; refine (next_st A B _ _ hAB hM1).mono ?_; rintro e r2 ⟨y1, rfl, hy1, hM2, hb⟩; (first | replace hb := undrew2 hb | skip); have HY1 : Hid ((nx (stAt s (4 * j))).2 ≠ none → y1 = (nx ((nx (stAt s (4 * j))).2)).1) := hy1; clear hy1; replace hpY := hpY.but2 hb hPA hPB; replace hCY := hb.cell hCY hCA hCB; have hQ1 := hb.size; replace hBY := hBY.but2 hb (by omega); have HO2 : Hid (World.ownsRow _ _ _ _ _ _ _) := (owns_but2 HO1.out hb hA hB); replace z6 := hb.frozen p6 z6 hPA hPB; replace p6 := hb.cell p6 hPA hPB; have hPz2 : P < r2.heap.size := lt_of_cell p6)
            refine kp hK fun hHeld => ?_
            clear hK K
            refine rdy 7 fun K hK => ?_
            go_simp
            (go_at_call 26; refine (next_st A B _ _ hAB hM2).mono ?_; rintro e r3 ⟨y2, rfl, hy2, hM3, hb⟩; (first | replace hb := undrew2 hb | skip); have HY2 : Hid ((nx (nx (stAt s (4 * j))).2).2 ≠ none → y2 = (nx ((nx (nx (stAt s (4 * j))).2).2)).1) := hy2; clear hy2; replace hpY := hpY.but2 hb hPA hPB; replace hCY := hb.cell hCY hCA hCB; have hQ2 := hb.size; replace hBY := hBY.but2 hb (by omega); have HO3 : Hid (World.ownsRow _ _ _ _ _ _ _) := (owns_but2 HO2.out hb hA hB); replace z6 := hb.frozen p6 z6 hPA hPB; replace p6 := hb.cell p6 hPA hPB; have hPz3 : P < r3.heap.size := lt_of_cell p6)
            refine kp hK fun hHeld => ?_
            clear hK K
            refine rdy 9 fun K hK => ?_
            go_simp
            (go_at_call 26; refine (next_st A B _ _ hAB hM3).mono ?_; rintro e r4 ⟨y3, rfl, hy3, hM4, hb⟩; (first | replace hb := undrew2 hb | skip); have HY3 : Hid ((nx (nx (nx (stAt s (4 * j))).2).2).2 ≠ none → y3 = (nx ((nx (nx (nx (stAt s (4 * j))).2).2).2)).1) := hy3; clear hy3; replace hpY := hpY.but2 hb hPA hPB; replace hCY := hb.cell hCY hCA hCB; have hQ3 := hb.size; replace hBY := hBY.but2 hb (by omega); have HO4 : Hid (World.ownsRow _ _ _ _ _ _ _) := (owns_but2 HO3.out hb hA hB); replace z6 := hb.frozen p6 z6 hPA hPB; replace p6 := hb.cell p6 hPA hPB; have hPz4 : P < r4.heap.size := lt_of_cell p6)
            refine kp hK fun hHeld => ?_
            clear hK K
            refine tk 10 hHeld ?_
            refine rdy 11 fun K hK => ?_
            go_simp
            refine kp hK fun hHeld => ?_
            clear hK K
            refine rdy 12 fun K hK => ?_
            (refine step_append_lies _ (by rfl) _ _ _ (by rfl) Bz 58 iI (.agg #[.int .i64 0, .int .i64 0, .int .i64 0, .int .i64 0]) 4 32 Tryd.underlying23 hiI hz0 hz1 hz2 rfl (by decide) v j _ (by rfl) (owns_below HO4.out ((Below.refl _ _).alloc (Nat.le_refl _) _)) ⟨r4.heap.size, 0, none⟩ 1 1 [.int .i64 y0, .int .i64 y1, .int .i64 y2, .int .i64 y3] (by rfl) rfl (row_cells r4 #[.int .i64 y0, .int .i64 y1, .int .i64 y2, .int .i64 y3] 58) (ints_one [y0, y1, y2, y3]) (by decide) (by unfold maxLen; omega) (by omega) (by simp; omega) (r4.heap.size + 1) (by simp) ?_; intro gq cq w2 hown' hgrow _ _; have hAl : Below r4.heap.size r4 (r4.alloc (.cells #[.int .i64 y0, .int .i64 y1, .int .i64 y2, .int .i64 y3] 58)) := (Below.refl _ _).alloc (Nat.le_refl _) _; have hN2 := (hM4.below (by omega) (by omega) hAl).grown hgrow HVK.out (by simp; omega) (by simp; omega); have hp2 : PCells P (ps.set 7 v) w2 := (hpY.below hAl).grown hgrow hvP; have hC2 := cell_grown (keep_cell hCY hAl) hgrow hvC; have hB2 : Frm A B P Bz w0 w2 := (hBY.alloc (by omega) _).grown hgrow (by simp; omega) (fun z hz => (HO4.out.lt z hz).1); have h2z : r4.heap.size ≤ w2.heap.size := Nat.le_trans (by simp) hgrow.size; have HO5 : Hid (World.ownsRow _ _ _ _ _ _ _) := hown'; obtain ⟨p7, z7⟩ := hp2 7 v (by simp [hps]); clear hown' hgrow hAl)
            refine kp hK fun hHeld => ?_
            clear hK K
            refine tk 13 hHeld ?_
            refine rdy 14 fun K hK => ?_
            go_simp
            refine kp hK fun hHeld => ?_
            clear hK K
            refine dn ?_
            refine NoPanic.normal ?_
            go_wp2_with fail
            have HF : Hid (stAt s (4 * (j + 1)) ≠ none → xs ++ [(y0, y1, y2, y3)] = (List.range (j + 1)).map (fun i => (nth s (4 * i), nth s (4 * i + 1), nth s (4 * i + 2), nth s (4 * i + 3)))) := fun h => by
              rw [st_four] at h
              obtain ⟨h1, h2, h3, h4⟩ := st_fours h
              rw [List.range_succ, List.map_append, ← HXS.out h1, HY0.out h1, HY1.out h2, HY2.out h3, HY3.out h4]
              rfl
            refine ⟨⟨j + 1, xs ++ [(y0, y1, y2, y3)], .slice (some ⟨gq, 0, none⟩) (j + 1) cq, ?_, fun _ => HJM.out, HJ.out, by simp [HXL.out], HF, ?_, ?_, ?_, set_far hPC hC2, ?_, hB2.set (.inl rfl) _⟩, ?_⟩
            · rw [HK.out]; congr 1; omega
            · rw [st_four]; exact hN2.setLow hKA hKB hPK _
            · have := hp2.set (i := 7) (by simp [hps]) (.slice (some ⟨gq, 0, none⟩) (j + 1) cq)
              rwa [List.set_set] at this
            · refine ownsRow_setCell_below ?_ hP _
              rw [List.flatMap_append]
              exact HO5.out
            · simp; omega
            · simp [intOf]; omega
          · go_simp
            (go_at_call 26; refine (next_st A B _ _ hAB hM1).mono ?_; rintro e r2 ⟨y1, rfl, hy1, hM2, hb⟩; (first | replace hb := undrew2 hb | skip); have HY1 : Hid ((nx (stAt s (4 * j))).2 ≠ none → y1 = (nx ((nx (stAt s (4 * j))).2)).1) := hy1; clear hy1; replace hpY := hpY.but2 hb hPA hPB; replace hCY := hb.cell hCY hCA hCB; have hQ1 := hb.size; replace hBY := hBY.but2 hb (by omega); have HO2 : Hid (World.ownsRow _ _ _ _ _ _ _) := (owns_but2 HO1.out hb hA hB); replace z6 := hb.frozen p6 z6 hPA hPB; replace p6 := hb.cell p6 hPA hPB; have hPz2 : P < r2.heap.size := lt_of_cell p6)
            refine kp hK fun hHeld => ?_
            clear hK K
            refine rd2 1 7 (fun K hK => ?_) fun K hK => ?_
            · go_simp
              refine kp hK fun hHeld => ?_
              clear hK K
              refine rdy 7 fun K hK => ?_
              go_simp
              (go_at_call 26; refine (next_st A B _ _ hAB hM2).mono ?_; rintro e r3 ⟨y2, rfl, hy2, hM3, hb⟩; (first | replace hb := undrew2 hb | skip); have HY2 : Hid ((nx (nx (stAt s (4 * j))).2).2 ≠ none → y2 = (nx ((nx (nx (stAt s (4 * j))).2).2)).1) := hy2; clear hy2; replace hpY := hpY.but2 hb hPA hPB; replace hCY := hb.cell hCY hCA hCB; have hQ2 := hb.size; replace hBY := hBY.but2 hb (by omega); have HO3 : Hid (World.ownsRow _ _ _ _ _ _ _) := (owns_but2 HO2.out hb hA hB); replace z6 := hb.frozen p6 z6 hPA hPB; replace p6 := hb.cell p6 hPA hPB; have hPz3 : P < r3.heap.size := lt_of_cell p6)
              refine kp hK fun hHeld => ?_
              clear hK K
              refine rdy 9 fun K hK => ?_
              go_simp
              (go_at_call 26; refine (next_st A B _ _ hAB hM3).mono ?_; rintro e r4 ⟨y3, rfl, hy3, hM4, hb⟩; (first | replace hb := undrew2 hb | skip); have HY3 : Hid ((nx (nx (nx (stAt s (4 * j))).2).2).2 ≠ none → y3 = (nx ((nx (nx (nx (stAt s (4 * j))).2).2).2)).1) := hy3; clear hy3; replace hpY := hpY.but2 hb hPA hPB; replace hCY := hb.cell hCY hCA hCB; have hQ3 := hb.size; replace hBY := hBY.but2 hb (by omega); have HO4 : Hid (World.ownsRow _ _ _ _ _ _ _) := (owns_but2 HO3.out hb hA hB); replace z6 := hb.frozen p6 z6 hPA hPB; replace p6 := hb.cell p6 hPA hPB; have hPz4 : P < r4.heap.size := lt_of_cell p6)
              refine kp hK fun hHeld => ?_
              clear hK K
              refine tk 10 hHeld ?_
              refine rdy 11 fun K hK => ?_
              go_simp
              refine kp hK fun hHeld => ?_
              clear hK K
              refine rdy 12 fun K hK => ?_
              (refine step_append_lies _ (by rfl) _ _ _ (by rfl) Bz 58 iI (.agg #[.int .i64 0, .int .i64 0, .int .i64 0, .int .i64 0]) 4 32 Tryd.underlying23 hiI hz0 hz1 hz2 rfl (by decide) v j _ (by rfl) (owns_below HO4.out ((Below.refl _ _).alloc (Nat.le_refl _) _)) ⟨r4.heap.size, 0, none⟩ 1 1 [.int .i64 y0, .int .i64 y1, .int .i64 y2, .int .i64 y3] (by rfl) rfl (row_cells r4 #[.int .i64 y0, .int .i64 y1, .int .i64 y2, .int .i64 y3] 58) (ints_one [y0, y1, y2, y3]) (by decide) (by unfold maxLen; omega) (by omega) (by simp; omega) (r4.heap.size + 1) (by simp) ?_; intro gq cq w2 hown' hgrow _ _; have hAl : Below r4.heap.size r4 (r4.alloc (.cells #[.int .i64 y0, .int .i64 y1, .int .i64 y2, .int .i64 y3] 58)) := (Below.refl _ _).alloc (Nat.le_refl _) _; have hN2 := (hM4.below (by omega) (by omega) hAl).grown hgrow HVK.out (by simp; omega) (by simp; omega); have hp2 : PCells P (ps.set 7 v) w2 := (hpY.below hAl).grown hgrow hvP; have hC2 := cell_grown (keep_cell hCY hAl) hgrow hvC; have hB2 : Frm A B P Bz w0 w2 := (hBY.alloc (by omega) _).grown hgrow (by simp; omega) (fun z hz => (HO4.out.lt z hz).1); have h2z : r4.heap.size ≤ w2.heap.size := Nat.le_trans (by simp) hgrow.size; have HO5 : Hid (World.ownsRow _ _ _ _ _ _ _) := hown'; obtain ⟨p7, z7⟩ := hp2 7 v (by simp [hps]); clear hown' hgrow hAl)
              refine kp hK fun hHeld => ?_
              clear hK K
              refine tk 13 hHeld ?_
              refine rdy 14 fun K hK => ?_
              go_simp
              refine kp hK fun hHeld => ?_
              clear hK K
              refine dn ?_
              refine NoPanic.normal ?_
              go_wp2_with fail
              have HF : Hid (stAt s (4 * (j + 1)) ≠ none → xs ++ [(y0, y1, y2, y3)] = (List.range (j + 1)).map (fun i => (nth s (4 * i), nth s (4 * i + 1), nth s (4 * i + 2), nth s (4 * i + 3)))) := fun h => by
                rw [st_four] at h
                obtain ⟨h1, h2, h3, h4⟩ := st_fours h
                rw [List.range_succ, List.map_append, ← HXS.out h1, HY0.out h1, HY1.out h2, HY2.out h3, HY3.out h4]
                rfl
              refine ⟨⟨j + 1, xs ++ [(y0, y1, y2, y3)], .slice (some ⟨gq, 0, none⟩) (j + 1) cq, ?_, fun _ => HJM.out, HJ.out, by simp [HXL.out], HF, ?_, ?_, ?_, set_far hPC hC2, ?_, hB2.set (.inl rfl) _⟩, ?_⟩
              · rw [HK.out]; congr 1; omega
              · rw [st_four]; exact hN2.setLow hKA hKB hPK _
              · have := hp2.set (i := 7) (by simp [hps]) (.slice (some ⟨gq, 0, none⟩) (j + 1) cq)
                rwa [List.set_set] at this
              · refine ownsRow_setCell_below ?_ hP _
                rw [List.flatMap_append]
                exact HO5.out
              · simp; omega
              · simp [intOf]; omega
            · go_simp
              (go_at_call 26; refine (next_st A B _ _ hAB hM2).mono ?_; rintro e r3 ⟨y2, rfl, hy2, hM3, hb⟩; (first | replace hb := undrew2 hb | skip); have HY2 : Hid ((nx (nx (stAt s (4 * j))).2).2 ≠ none → y2 = (nx ((nx (nx (stAt s (4 * j))).2).2)).1) := hy2; clear hy2; replace hpY := hpY.but2 hb hPA hPB; replace hCY := hb.cell hCY hCA hCB; have hQ2 := hb.size; replace hBY := hBY.but2 hb (by omega); have HO3 : Hid (World.ownsRow _ _ _ _ _ _ _) := (owns_but2 HO2.out hb hA hB); replace z6 := hb.frozen p6 z6 hPA hPB; replace p6 := hb.cell p6 hPA hPB; have hPz3 : P < r3.heap.size := lt_of_cell p6)
              refine kp hK fun hHeld => ?_
              clear hK K
              refine rd2 1 9 (fun K hK => ?_) fun K hK => ?_
              · go_simp
                refine kp hK fun hHeld => ?_
                clear hK K
                refine rdy 9 fun K hK => ?_
                go_simp
                (go_at_call 26; refine (next_st A B _ _ hAB hM3).mono ?_; rintro e r4 ⟨y3, rfl, hy3, hM4, hb⟩; (first | replace hb := undrew2 hb | skip); have HY3 : Hid ((nx (nx (nx (stAt s (4 * j))).2).2).2 ≠ none → y3 = (nx ((nx (nx (nx (stAt s (4 * j))).2).2).2)).1) := hy3; clear hy3; replace hpY := hpY.but2 hb hPA hPB; replace hCY := hb.cell hCY hCA hCB; have hQ3 := hb.size; replace hBY := hBY.but2 hb (by omega); have HO4 : Hid (World.ownsRow _ _ _ _ _ _ _) := (owns_but2 HO3.out hb hA hB); replace z6 := hb.frozen p6 z6 hPA hPB; replace p6 := hb.cell p6 hPA hPB; have hPz4 : P < r4.heap.size := lt_of_cell p6)
                refine kp hK fun hHeld => ?_
                clear hK K
                refine tk 10 hHeld ?_
                refine rdy 11 fun K hK => ?_
                go_simp
                refine kp hK fun hHeld => ?_
                clear hK K
                refine rdy 12 fun K hK => ?_
                (refine step_append_lies _ (by rfl) _ _ _ (by rfl) Bz 58 iI (.agg #[.int .i64 0, .int .i64 0, .int .i64 0, .int .i64 0]) 4 32 Tryd.underlying23 hiI hz0 hz1 hz2 rfl (by decide) v j _ (by rfl) (owns_below HO4.out ((Below.refl _ _).alloc (Nat.le_refl _) _)) ⟨r4.heap.size, 0, none⟩ 1 1 [.int .i64 y0, .int .i64 y1, .int .i64 y2, .int .i64 y3] (by rfl) rfl (row_cells r4 #[.int .i64 y0, .int .i64 y1, .int .i64 y2, .int .i64 y3] 58) (ints_one [y0, y1, y2, y3]) (by decide) (by unfold maxLen; omega) (by omega) (by simp; omega) (r4.heap.size + 1) (by simp) ?_; intro gq cq w2 hown' hgrow _ _; have hAl : Below r4.heap.size r4 (r4.alloc (.cells #[.int .i64 y0, .int .i64 y1, .int .i64 y2, .int .i64 y3] 58)) := (Below.refl _ _).alloc (Nat.le_refl _) _; have hN2 := (hM4.below (by omega) (by omega) hAl).grown hgrow HVK.out (by simp; omega) (by simp; omega); have hp2 : PCells P (ps.set 7 v) w2 := (hpY.below hAl).grown hgrow hvP; have hC2 := cell_grown (keep_cell hCY hAl) hgrow hvC; have hB2 : Frm A B P Bz w0 w2 := (hBY.alloc (by omega) _).grown hgrow (by simp; omega) (fun z hz => (HO4.out.lt z hz).1); have h2z : r4.heap.size ≤ w2.heap.size := Nat.le_trans (by simp) hgrow.size; have HO5 : Hid (World.ownsRow _ _ _ _ _ _ _) := hown'; obtain ⟨p7, z7⟩ := hp2 7 v (by simp [hps]); clear hown' hgrow hAl)
                refine kp hK fun hHeld => ?_
                clear hK K
                refine tk 13 hHeld ?_
                refine rdy 14 fun K hK => ?_
                go_simp
                refine kp hK fun hHeld => ?_
                clear hK K
                refine dn ?_
                refine NoPanic.normal ?_
                go_wp2_with fail
                have HF : Hid (stAt s (4 * (j + 1)) ≠ none → xs ++ [(y0, y1, y2, y3)] = (List.range (j + 1)).map (fun i => (nth s (4 * i), nth s (4 * i + 1), nth s (4 * i + 2), nth s (4 * i + 3)))) := fun h => by
                  rw [st_four] at h
                  obtain ⟨h1, h2, h3, h4⟩ := st_fours h
                  rw [List.range_succ, List.map_append, ← HXS.out h1, HY0.out h1, HY1.out h2, HY2.out h3, HY3.out h4]
                  rfl
                refine ⟨⟨j + 1, xs ++ [(y0, y1, y2, y3)], .slice (some ⟨gq, 0, none⟩) (j + 1) cq, ?_, fun _ => HJM.out, HJ.out, by simp [HXL.out], HF, ?_, ?_, ?_, set_far hPC hC2, ?_, hB2.set (.inl rfl) _⟩, ?_⟩
                · rw [HK.out]; congr 1; omega
                · rw [st_four]; exact hN2.setLow hKA hKB hPK _
                · have := hp2.set (i := 7) (by simp [hps]) (.slice (some ⟨gq, 0, none⟩) (j + 1) cq)
                  rwa [List.set_set] at this
                · refine ownsRow_setCell_below ?_ hP _
                  rw [List.flatMap_append]
                  exact HO5.out
                · simp; omega
                · simp [intOf]; omega
              · go_simp
                (go_at_call 26; refine (next_st A B _ _ hAB hM3).mono ?_; rintro e r4 ⟨y3, rfl, hy3, hM4, hb⟩; (first | replace hb := undrew2 hb | skip); have HY3 : Hid ((nx (nx (nx (stAt s (4 * j))).2).2).2 ≠ none → y3 = (nx ((nx (nx (nx (stAt s (4 * j))).2).2).2)).1) := hy3; clear hy3; replace hpY := hpY.but2 hb hPA hPB; replace hCY := hb.cell hCY hCA hCB; have hQ3 := hb.size; replace hBY := hBY.but2 hb (by omega); have HO4 : Hid (World.ownsRow _ _ _ _ _ _ _) := (owns_but2 HO3.out hb hA hB); replace z6 := hb.frozen p6 z6 hPA hPB; replace p6 := hb.cell p6 hPA hPB; have hPz4 : P < r4.heap.size := lt_of_cell p6)
                refine kp hK fun hHeld => ?_
                clear hK K
                refine tk 10 hHeld ?_
                refine rd2 1 11 (fun K hK => ?_) fun K hK => ?_
                · go_simp
                  refine kp hK fun hHeld => ?_
                  clear hK K
                  refine rdy 11 fun K hK => ?_
                  go_simp
                  refine kp hK fun hHeld => ?_
                  clear hK K
                  refine rdy 12 fun K hK => ?_
                  (refine step_append_lies _ (by rfl) _ _ _ (by rfl) Bz 58 iI (.agg #[.int .i64 0, .int .i64 0, .int .i64 0, .int .i64 0]) 4 32 Tryd.underlying23 hiI hz0 hz1 hz2 rfl (by decide) v j _ (by rfl) (owns_below HO4.out ((Below.refl _ _).alloc (Nat.le_refl _) _)) ⟨r4.heap.size, 0, none⟩ 1 1 [.int .i64 y0, .int .i64 y1, .int .i64 y2, .int .i64 y3] (by rfl) rfl (row_cells r4 #[.int .i64 y0, .int .i64 y1, .int .i64 y2, .int .i64 y3] 58) (ints_one [y0, y1, y2, y3]) (by decide) (by unfold maxLen; omega) (by omega) (by simp; omega) (r4.heap.size + 1) (by simp) ?_; intro gq cq w2 hown' hgrow _ _; have hAl : Below r4.heap.size r4 (r4.alloc (.cells #[.int .i64 y0, .int .i64 y1, .int .i64 y2, .int .i64 y3] 58)) := (Below.refl _ _).alloc (Nat.le_refl _) _; have hN2 := (hM4.below (by omega) (by omega) hAl).grown hgrow HVK.out (by simp; omega) (by simp; omega); have hp2 : PCells P (ps.set 7 v) w2 := (hpY.below hAl).grown hgrow hvP; have hC2 := cell_grown (keep_cell hCY hAl) hgrow hvC; have hB2 : Frm A B P Bz w0 w2 := (hBY.alloc (by omega) _).grown hgrow (by simp; omega) (fun z hz => (HO4.out.lt z hz).1); have h2z : r4.heap.size ≤ w2.heap.size := Nat.le_trans (by simp) hgrow.size; have HO5 : Hid (World.ownsRow _ _ _ _ _ _ _) := hown'; obtain ⟨p7, z7⟩ := hp2 7 v (by simp [hps]); clear hown' hgrow hAl)
                  refine kp hK fun hHeld => ?_
                  clear hK K
                  refine tk 13 hHeld ?_
                  refine rdy 14 fun K hK => ?_
                  go_simp
                  refine kp hK fun hHeld => ?_
                  clear hK K
                  refine dn ?_
                  refine NoPanic.normal ?_
                  go_wp2_with fail
                  have HF : Hid (stAt s (4 * (j + 1)) ≠ none → xs ++ [(y0, y1, y2, y3)] = (List.range (j + 1)).map (fun i => (nth s (4 * i), nth s (4 * i + 1), nth s (4 * i + 2), nth s (4 * i + 3)))) := fun h => by
                    rw [st_four] at h
                    obtain ⟨h1, h2, h3, h4⟩ := st_fours h
                    rw [List.range_succ, List.map_append, ← HXS.out h1, HY0.out h1, HY1.out h2, HY2.out h3, HY3.out h4]
                    rfl
                  refine ⟨⟨j + 1, xs ++ [(y0, y1, y2, y3)], .slice (some ⟨gq, 0, none⟩) (j + 1) cq, ?_, fun _ => HJM.out, HJ.out, by simp [HXL.out], HF, ?_, ?_, ?_, set_far hPC hC2, ?_, hB2.set (.inl rfl) _⟩, ?_⟩
                  · rw [HK.out]; congr 1; omega
                  · rw [st_four]; exact hN2.setLow hKA hKB hPK _
                  · have := hp2.set (i := 7) (by simp [hps]) (.slice (some ⟨gq, 0, none⟩) (j + 1) cq)
                    rwa [List.set_set] at this
                  · refine ownsRow_setCell_below ?_ hP _
                    rw [List.flatMap_append]
                    exact HO5.out
                  · simp; omega
                  · simp [intOf]; omega
                · go_simp
                  refine kp hK fun hHeld => ?_
                  clear hK K
                  refine rdy 1 fun K hK => ?_
                  go_simp
                  refine kp hK fun hHeld => ?_
                  clear hK K
                  refine rdy 12 fun K hK => ?_
                  (refine step_append_lies _ (by rfl) _ _ _ (by rfl) Bz 58 iI (.agg #[.int .i64 0, .int .i64 0, .int .i64 0, .int .i64 0]) 4 32 Tryd.underlying23 hiI hz0 hz1 hz2 rfl (by decide) v j _ (by rfl) (owns_below HO4.out ((Below.refl _ _).alloc (Nat.le_refl _) _)) ⟨r4.heap.size, 0, none⟩ 1 1 [.int .i64 y0, .int .i64 y1, .int .i64 y2, .int .i64 y3] (by rfl) rfl (row_cells r4 #[.int .i64 y0, .int .i64 y1, .int .i64 y2, .int .i64 y3] 58) (ints_one [y0, y1, y2, y3]) (by decide) (by unfold maxLen; omega) (by omega) (by simp; omega) (r4.heap.size + 1) (by simp) ?_; intro gq cq w2 hown' hgrow _ _; have hAl : Below r4.heap.size r4 (r4.alloc (.cells #[.int .i64 y0, .int .i64 y1, .int .i64 y2, .int .i64 y3] 58)) := (Below.refl _ _).alloc (Nat.le_refl _) _; have hN2 := (hM4.below (by omega) (by omega) hAl).grown hgrow HVK.out (by simp; omega) (by simp; omega); have hp2 : PCells P (ps.set 7 v) w2 := (hpY.below hAl).grown hgrow hvP; have hC2 := cell_grown (keep_cell hCY hAl) hgrow hvC; have hB2 : Frm A B P Bz w0 w2 := (hBY.alloc (by omega) _).grown hgrow (by simp; omega) (fun z hz => (HO4.out.lt z hz).1); have h2z : r4.heap.size ≤ w2.heap.size := Nat.le_trans (by simp) hgrow.size; have HO5 : Hid (World.ownsRow _ _ _ _ _ _ _) := hown'; obtain ⟨p7, z7⟩ := hp2 7 v (by simp [hps]); clear hown' hgrow hAl)
                  refine kp hK fun hHeld => ?_
                  clear hK K
                  refine tk 13 hHeld ?_
                  refine rdy 14 fun K hK => ?_
                  go_simp
                  refine kp hK fun hHeld => ?_
                  clear hK K
                  refine dn ?_
                  refine NoPanic.normal ?_
                  go_wp2_with fail
                  have HF : Hid (stAt s (4 * (j + 1)) ≠ none → xs ++ [(y0, y1, y2, y3)] = (List.range (j + 1)).map (fun i => (nth s (4 * i), nth s (4 * i + 1), nth s (4 * i + 2), nth s (4 * i + 3)))) := fun h => by
                    rw [st_four] at h
                    obtain ⟨h1, h2, h3, h4⟩ := st_fours h
                    rw [List.range_succ, List.map_append, ← HXS.out h1, HY0.out h1, HY1.out h2, HY2.out h3, HY3.out h4]
                    rfl
                  refine ⟨⟨j + 1, xs ++ [(y0, y1, y2, y3)], .slice (some ⟨gq, 0, none⟩) (j + 1) cq, ?_, fun _ => HJM.out, HJ.out, by simp [HXL.out], HF, ?_, ?_, ?_, set_far hPC hC2, ?_, hB2.set (.inl rfl) _⟩, ?_⟩
                  · rw [HK.out]; congr 1; omega
                  · rw [st_four]; exact hN2.setLow hKA hKB hPK _
                  · have := hp2.set (i := 7) (by simp [hps]) (.slice (some ⟨gq, 0, none⟩) (j + 1) cq)
                    rwa [List.set_set] at this
                  · refine ownsRow_setCell_below ?_ hP _
                    rw [List.flatMap_append]
                    exact HO5.out
                  · simp; omega
                  · simp [intOf]; omega
    · have HA : Hid (Aft2 K A B C P Bz s m ps w0 wr) := by
        have hjm : j = m.toNat := by
          rcases Nat.eq_zero_or_pos j with q | q
          · subst q; omega
          · have := hj q; omega
        exact ⟨j, xs, v, hxl, fun h => ⟨hjm, hxs.out (by rw [hjm]; exact h)⟩, by rw [← hjm]; exact hNj, hpj, hoj.out, hCj, hBzj, hbj⟩
      have hz' : decide (0 < m - (j : Int)) = false := decide_eq_false hz
      generalize m - (j : Int) = k at hz hz' ⊢
      clear hj hxs hNj hpj hoj hCj hBzj hbj HM hcb
      go_wp2_with fail
      exact HEX.out _ _ _ _ _ _ _ _ _ _ _ _ _ _ _ _ _ _ _ _ _ _ _ _ HA.out
end Go.Proofs.YtlpojkehbhkdiaaDoor
