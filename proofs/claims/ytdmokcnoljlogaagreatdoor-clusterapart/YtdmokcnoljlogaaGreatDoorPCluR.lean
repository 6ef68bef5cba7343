/- The program's cluster: read, what each node reads of each (10.2). -/
import Derived.Test.YtdmokcnoljlogaaGreatDoorWordsH
import Derived.Test.YtdmokcnoljlogaaGreatDoorPCluB
import Derived.OwnWalk
import Derived.Test.YtdmokcnoljlogaaGreatDoorWordsB
import Derived.Test.YtdmokcnoljlogaaGreatDoorWordsA
import Derived.Deep.AppendLies
import Derived.Deep.RegionHeld3
namespace Go.Proofs.YtdmokcnoljlogaaGreatDoor
open Go.RowKit

set_option maxHeartbeats 1000000 in
theorem capart_any (C cb : Nat) (n ccap : Nat) (cs : List Int) (hcl : cs.length = n) (w : World) (c11 : w.cell? ⟨C, 11, none⟩ = some (.slice (some ⟨cb, 0, none⟩) n ccap)) (ck : ∀ j, j < cs.length → w.cell? ⟨cb, j, none⟩ = some (.int .i64 (cs.getD j 0))) (hin : ∀ x ∈ cs, -274877906944 ≤ x ∧ x ≤ 274877906944) (i j : Nat) (hi : i < n) (hj : j < n) :
    Calls Tryz.prog 66 #[.pointer (some ⟨C, 0, none⟩), .int .i64 i, .int .i64 j] w fun e w' => e = .returned (.int .i64 (cs.getD i 0 - cs.getD j 0)) ∧ ∃ q, w' = w.drewN q := by
  have hlC := lt_of_cell9 c11
  have k0 := ck i (by omega)
  have k1 := ck j (by omega)
  have hlb := lt_of_cell9 k0
  have b0 := hin _ (getD_mem9 (show i < cs.length by omega))
  have b1 := hin _ (getD_mem9 (show j < cs.length by omega))
  have ii : (i : Int) < (n : Int) := by omega
  have jj : (j : Int) < (n : Int) := by omega
  generalize cs.getD i 0 = X at *
  generalize cs.getD j 0 = Y at *
  clear ck hin
  go_enter Tryz.func66, Tryz.ntmps66
  go_wp2_with fail
  go_quiet (fail)
  go_wp2
  go_ret
  exact ⟨rfl, _, rfl⟩

theorem Tryz.infoRow9 : (Tryz.prog.info? 27).map (fun i => (i.zero, i.size, i.bytes)) = some (some (.slice none 0 0), 1, 24) := by kernel_rfl

/-- Rows of readings in memory: I are whole, the next one is v (its memory from Bi on), all others are empty. -/
structure RTab (w : World) (base R n I : Nat) (f : Nat → Nat → Int) (G cap : Nat → Nat) (Bi : Nat) (v : Value) : Prop where
  row : ∀ i, i < I → w.cell? ⟨R, i, none⟩ = some (.slice (some ⟨G i, 0, none⟩) n (cap i))
  cel : ∀ i j, i < I → j < n → w.cell? ⟨G i, j, none⟩ = some (.int .i64 (f i j))
  zG : ∀ i j, i < I → w.frozen? ⟨G i, j, none⟩ = false
  cur : I < n → w.cell? ⟨R, I, none⟩ = some v
  rest : ∀ i, I < i → i < n → w.cell? ⟨R, i, none⟩ = some (.slice none 0 0)
  zR : ∀ i, w.frozen? ⟨R, i, none⟩ = false
  lt : ∀ i, i < I → G i < Bi
  lo : ∀ i, i < I → base ≤ G i ∧ G i ≠ R
  ne : ∀ i i', i < I → i' < I → i ≠ i' → G i ≠ G i'
  lR : R < Bi
  bR : base ≤ R
  lB : Bi ≤ w.heap.size
/-- The next row grows in its own memory. -/
theorem RTab.grow {w w' : World} {base R n I Bi : Nat} {f : Nat → Nat → Int} {G cap : Nat → Nat} {v : Value} (h : RTab w base R n I f G cap Bi v) (hI : I < n) (k : Below Bi w w') (v' : Value) : RTab (w'.setCell ⟨R, I, none⟩ v') base R n I f G cap Bi v' := by
  have cR : ∀ i, w'.cell? ⟨R, i, none⟩ = w.cell? ⟨R, i, none⟩ := fun i => k.cell (p := ⟨R, i, none⟩) h.lR
  have cG : ∀ i j, i < I → w'.cell? ⟨G i, j, none⟩ = w.cell? ⟨G i, j, none⟩ := fun i j hi => k.cell (p := ⟨G i, j, none⟩) (h.lt i hi)
  refine ⟨fun i hi => ?_, fun i j hi hj => ?_, fun i j hi => ?_, fun _ => ?_, fun i h1 h2 => ?_, fun i => ?_, h.lt, h.lo, h.ne, h.lR, h.bR, ?_⟩
  · have : i ≠ I := by omega
    exact (cell_other (.inr this)).trans ((cR i).trans (h.row i hi))
  · exact (cell_other (.inl (h.lo i hi).2)).trans ((cG i j hi).trans (h.cel i j hi hj))
  · exact soft_set.trans ((k.frozen (p := ⟨G i, j, none⟩) (h.lt i hi)).trans (h.zG i j hi))
  · exact cell_set ((cR I).trans (h.cur hI))
  · have : i ≠ I := by omega
    exact (cell_other (.inr this)).trans ((cR i).trans (h.rest i h1 h2))
  · exact soft_set.trans ((k.frozen (p := ⟨R, i, none⟩) h.lR).trans (h.zR i))
  · have := h.lB; have := k.size; simp; omega
theorem RTab.drawn {w : World} {base R n I Bi : Nat} {f : Nat → Nat → Int} {G cap : Nat → Nat} {v : Value} (h : RTab w base R n I f G cap Bi v) (q : Nat) : RTab (w.drewN q) base R n I f G cap Bi v := ⟨h.row, h.cel, h.zG, h.cur, h.rest, h.zR, h.lt, h.lo, h.ne, h.lR, h.bR, h.lB⟩
/-- The next row is whole. -/
theorem RTab.next {w : World} {base R n I Bi : Nat} {f : Nat → Nat → Int} {G cap : Nat → Nat} {v : Value} (h : RTab w base R n I f G cap Bi v) (hI : I < n) (hb : base ≤ Bi) (ho : w.ownsRow Bi 3 1 v n ((List.range n).map fun j => .int .i64 (f I j))) : ∃ G' cap', RTab w base R n (I + 1) f G' cap' w.heap.size (.slice none 0 0) := by
  rcases ho.2 with ⟨_, e⟩ | ⟨g, c, cur, hv, hg, hh, _⟩
  · omega
  · have hgl : g < w.heap.size := by
      rcases Nat.lt_or_ge g w.heap.size with q | q
      · exact q
      · rw [Array.getElem?_eq_none q] at hh; cases hh
    have hcell : ∀ j, j < n → w.cell? ⟨g, j, none⟩ = some (.int .i64 (f I j)) := fun j hj => by
      have := ho.cells (g := g) (by rw [hv]; rfl) j (.int .i64 (f I j)) (by simp [hj])
      rwa [add_at, Nat.zero_add] at this
    have hz : ∀ j, w.frozen? ⟨g, j, none⟩ = false := fun j => by simp [World.frozen?, hh]
    have old : ∀ i, i < I → i ≠ I := fun i hi => by omega
    refine ⟨fun i => if i = I then g else G i, fun i => if i = I then c else cap i, ⟨fun i hi => ?_, fun i j hi hj => ?_, fun i j hi => ?_, fun hI2 => h.rest (I + 1) (by omega) hI2, fun i h1 h2 => h.rest i (by omega) h2, h.zR, fun i hi => ?_, fun i hi => ?_, fun i i' hi hi' hne => ?_, Nat.lt_of_lt_of_le h.lR h.lB, h.bR, Nat.le_refl _⟩⟩
    · by_cases e : i = I
      · subst e; rw [if_pos rfl, if_pos rfl, ← hv]; exact h.cur hI
      · rw [if_neg e, if_neg e]; exact h.row i (by omega)
    · by_cases e : i = I
      · subst e; rw [if_pos rfl]; exact hcell j hj
      · rw [if_neg e]; exact h.cel i j (by omega) hj
    · by_cases e : i = I
      · subst e; rw [if_pos rfl]; exact hz j
      · rw [if_neg e]; exact h.zG i j (by omega)
    · by_cases e : i = I
      · rw [if_pos e]; exact hgl
      · rw [if_neg e]; have := h.lt i (by omega); have := h.lB; omega
    · by_cases e : i = I
      · rw [if_pos e]; have := h.lR; exact ⟨by omega, by omega⟩
      · rw [if_neg e]; exact h.lo i (by omega)
    · by_cases e : i = I
      · rw [if_pos e, if_neg (show ¬ i' = I by omega)]
        have := h.lt i' (by omega); omega
      · rw [if_neg e]
        by_cases e' : i' = I
        · rw [if_pos e']; have := h.lt i (by omega); omega
        · rw [if_neg e']; exact h.ne i i' (by omega) (by omega) hne

/-- A row of one's own behind an append. -/
theorem rgrown {wr w2 w3 : World} {Bi j i gq cq : Nat} {v : Value} {cs : List Int} {X : Int} (h1 : w2.ownsRow Bi 3 1 v j ((List.range j).map fun j => .int .i64 (cs.getD j 0 - cs.getD i 0))) (h2 : Below Bi wr w2) (h3 : Bi ≤ w2.heap.size) (hX : cs.getD j 0 - cs.getD i 0 = X) (ho : w3.ownsRow Bi 3 1 (.slice (some ⟨gq, 0, none⟩) (j + 1) cq) (j + 1) (((List.range j).map fun j => .int .i64 (cs.getD j 0 - cs.getD i 0)) ++ [.int .i64 X])) (hg : (w2.alloc (.cells #[.int .i64 X] 3)).grownBy w3 v.ownBlock) : Below Bi wr w3 ∧ w3.ownsRow Bi 3 1 (.slice (some ⟨gq, 0, none⟩) (j + 1) cq) (j + 1) ((List.range (j + 1)).map fun j => .int .i64 (cs.getD j 0 - cs.getD i 0)) := by
  refine ⟨(h2.alloc h3 _).grown hg (by simp; omega) (fun g hg => (h1.lt g hg).1), ?_⟩
  rw [List.range_succ, List.map_append]
  show w3.ownsRow Bi 3 1 _ (j + 1) (_ ++ [Value.int .i64 (cs.getD j 0 - cs.getD i 0)])
  rw [hX]
  exact ho
theorem RTab.below {w w' : World} {base R n Bi : Nat} {f : Nat → Nat → Int} {G cap : Nat → Nat} {v : Value} (h : RTab w base R n n f G cap Bi v) (k : Below Bi w w') : RTab w' base R n n f G cap Bi v :=
  ⟨fun i hi => (k.cell (p := ⟨R, i, none⟩) h.lR).trans (h.row i hi), fun i j hi hj => (k.cell (p := ⟨G i, j, none⟩) (h.lt i hi)).trans (h.cel i j hi hj), fun i j hi => (k.frozen (p := ⟨G i, j, none⟩) (h.lt i hi)).trans (h.zG i j hi), fun hn => absurd hn (Nat.lt_irrefl _), fun i h1 h2 => absurd h2 (by omega), fun i => (k.frozen (p := ⟨R, i, none⟩) h.lR).trans (h.zR i), h.lt, h.lo, h.ne, h.lR, h.bR, Nat.le_trans h.lB k.size⟩
theorem RTab.set {w : World} {base R n Bi : Nat} {f g : Nat → Nat → Int} {G cap : Nat → Nat} {v : Value} (h : RTab w base R n n f G cap Bi v) {i j : Nat} {x : Int} (hi : i < n) (hj : j < n) (hg : ∀ i' j', i' < n → j' < n → g i' j' = if i' = i ∧ j' = j then x else f i' j') : RTab (w.setCell ⟨G i, j, none⟩ (.int .i64 x)) base R n n g G cap Bi v := by
  refine ⟨fun i' hi' => (cell_other (.inl (Ne.symm (h.lo i hi).2))).trans (h.row i' hi'), fun i' j' hi' hj' => ?_, fun i' j' hi' => soft_set.trans (h.zG i' j' hi'), fun hn => absurd hn (Nat.lt_irrefl _), fun i' h1 h2 => absurd h2 (by omega), fun i' => soft_set.trans (h.zR i'), h.lt, h.lo, h.ne, h.lR, h.bR, ?_⟩
  · rw [hg i' j' hi' hj']
    by_cases e : i' = i ∧ j' = j
    · obtain ⟨rfl, rfl⟩ := e
      rw [if_pos ⟨rfl, rfl⟩]
      exact cell_set (h.cel i' j' hi hj)
    · rw [if_neg e]
      by_cases e1 : i' = i
      · have e2 : j' ≠ j := fun y => e ⟨e1, y⟩
        exact (cell_other (.inr e2)).trans (h.cel i' j' hi' hj')
      · exact (cell_other (.inl (h.ne i' i hi' hi e1))).trans (h.cel i' j' hi' hj')
  · have := h.lB; simpa using this
theorem RTab.agree {w : World} {base R n Bi : Nat} {f g : Nat → Nat → Int} {G cap : Nat → Nat} {v : Value} (h : RTab w base R n n f G cap Bi v) (hg : ∀ i j, i < n → j < n → g i j = f i j) : RTab w base R n n g G cap Bi v := ⟨h.row, fun i j hi hj => by rw [hg i j hi hj]; exact h.cel i j hi hj, h.zG, h.cur, h.rest, h.zR, h.lt, h.lo, h.ne, h.lR, h.bR, h.lB⟩
/-- What the first readings make. -/
def readTo (r : RoundN) (n : Nat) (fa jitter : Int) (cs : List Int) (k : Nat) : Nat → Nat → Int := readAll n (bitI fa) jitter (fun i => cs.getD i 0) ((List.range k).map fun i => ⟨r.rn i, r.ro i, r.ri i⟩)
theorem readTo_succ (r : RoundN) (n : Nat) (fa jitter : Int) (cs : List Int) (k : Nat) : readTo r n fa jitter cs (k + 1) = readOne n (bitI fa) jitter (fun i => cs.getD i 0) ⟨r.rn k, r.ro k, r.ri k⟩ (readTo r n fa jitter cs k) := by
  unfold readTo readAll
  rw [List.range_succ, List.map_append, List.foldl_append]
  rfl
theorem readOne_at {n : Nat} {lies : Nat → Bool} {jitter : Int} {now : Nat → Int} {i j : Nat} {x : Int} {row : Nat → Nat → Int} (hi : i < n) (hj : j < n) (hne : (i : Int) ≠ (j : Int)) (i2 j2 : Nat) : readOne n lies jitter now ⟨i, j, x⟩ row i2 j2 = if i2 = i ∧ j2 = j then (if lies j = true then cutV x 549755813888 else now j - now i + cutV x jitter) else row i2 j2 := by
  unfold readOne
  by_cases e : i2 = i ∧ j2 = j
  · obtain ⟨rfl, rfl⟩ := e
    rw [if_pos (show (0 ≤ (i2 : Int) ∧ (i2 : Int) < n) ∧ (0 ≤ (j2 : Int) ∧ (j2 : Int) < n) ∧ (i2 : Int) ≠ (j2 : Int) ∧ (i2 : Int) = (i2 : Int) ∧ (j2 : Int) = (j2 : Int) from ⟨⟨by omega, by omega⟩, ⟨by omega, by omega⟩, hne, rfl, rfl⟩), if_pos (show i2 = i2 ∧ j2 = j2 from ⟨rfl, rfl⟩)]
  · rw [if_neg e, if_neg]
    rintro ⟨_, _, _, e1, e2⟩
    have e1' : (i2 : Int) = (i : Int) := e1
    have e2' : (j2 : Int) = (j : Int) := e2
    exact e ⟨by omega, by omega⟩
theorem readOne_not {n : Nat} {lies : Nat → Bool} {jitter : Int} {now : Nat → Int} {a b x : Int} {row : Nat → Nat → Int} (h : ¬ ((0 ≤ a ∧ a < n) ∧ (0 ≤ b ∧ b < n) ∧ a ≠ b)) : readOne n lies jitter now ⟨a, b, x⟩ row = row := by
  funext i2 j2
  unfold readOne
  rw [if_neg]
  rintro ⟨e1, e2, e3, _⟩
  exact h ⟨e1, e2, e3⟩
theorem ccutF (most : Int) (v : World) : Calls Tryz.prog 42 #[.int .i64 most] v fun e w' => ∃ L, e = .returned (.func (.func 67) #[] #[.pointer (some ⟨L, 0, none⟩)]) ∧ v.heap.size ≤ L ∧ w'.cell? ⟨L, 0, none⟩ = some (.int .i64 most) ∧ L < w'.heap.size ∧ Below v.heap.size v w' := by
  refine (ccut_any most v).mono ?_
  rintro e w' ⟨he, rfl⟩
  exact ⟨_, he, Nat.le_refl _, by simp, by simp, (Below.refl _ _).alloc (Nat.le_refl _) _⟩
theorem rbox3 (w : World) (a b c : Value) (t : TypeId) : (w.alloc (.cells #[a, b, c] t)).cell? ⟨w.heap.size, 0, none⟩ = some a ∧ (w.alloc (.cells #[a, b, c] t)).cell? ⟨w.heap.size, 1, none⟩ = some b ∧ (w.alloc (.cells #[a, b, c] t)).cell? ⟨w.heap.size, 2, none⟩ = some c ∧ Below w.heap.size w (w.alloc (.cells #[a, b, c] t)) ∧ (w.alloc (.cells #[a, b, c] t)).heap.size = w.heap.size + 1 :=
  ⟨by simp, by simp, by simp, (Below.refl _ _).alloc (Nat.le_refl _) _, by simp⟩
theorem row_one (f : Nat → Int) : ∀ n, ∀ u ∈ (List.range n).map fun j => Value.int .i64 (f j), u.oneCell' = true := fun n u hu => by
  obtain ⟨j, _, rfl⟩ := List.mem_map.1 hu
  rfl

set_option maxRecDepth 100000 in
set_option maxHeartbeats 4000000 in
theorem cread_any (C cb n ccap : Nat) (fa jitter : Int) (cs : List Int) (hcl : cs.length = n) (w : World) (c0 : w.cell? ⟨C, 0, none⟩ = some (.int .i64 n)) (c3 : w.cell? ⟨C, 3, none⟩ = some (.int .i64 jitter)) (c10 : w.cell? ⟨C, 10, none⟩ = some (.int .i64 fa)) (c11 : w.cell? ⟨C, 11, none⟩ = some (.slice (some ⟨cb, 0, none⟩) n ccap)) (ck : ∀ j, j < cs.length → w.cell? ⟨cb, j, none⟩ = some (.int .i64 (cs.getD j 0))) (hin : ∀ x ∈ cs, -274877906944 ≤ x ∧ x ≤ 274877906944) (hn0 : 1 ≤ n) (hn : n ≤ 16) (hji0 : 0 ≤ jitter) (hji : jitter ≤ 137438953472) (r : RoundN) (a : Option Addr) (cap : Nat) (hr : Rows3 w a r.nR r.rn r.ro r.ri) (hnR : r.nR ≤ 9223372036854775807) :
    Calls Tryz.prog 41 #[.pointer (some ⟨C, 0, none⟩), .slice a r.nR cap] w fun e w' => ∃ R G gcap Bi, e = .returned (.slice (some ⟨R, 0, none⟩) n n) ∧ RTab w' w.heap.size R n n (readAll n (bitI fa) jitter (fun i => cs.getD i 0) r.reads) G gcap Bi (.slice none 0 0) ∧ Below w.heap.size w w' := by
  have hlC := lt_of_cell9 c11
  obtain ⟨i0, hi, hz0, hz1, hz2⟩ := info_parts Tryz.infoRow9
  have hmk := run_makeSlice (P := Tryz.prog) w 44 27 i0 _ Tryz.underlying44 hi hz0 .i64 .i64 (n : Int) (n : Int) (by omega) (Int.le_refl _) (by rw [hz1]; simp; omega) (by rw [hz2]; omega) (by omega)
  rw [Int.toNat_natCast, hz1, Nat.mul_one] at hmk
  clear hi hz0 hz1 hz2
  obtain ⟨i1, hiI, hy0, hy1, hy2⟩ := info_parts Tryz.infoInt
  have hlcb := lt_of_cell9 (ck 0 (by omega))
  have hap := fun (v : World) (hv : Below w.heap.size w v) (i j : Nat) (hi : i < n) (hj : j < n) => capart_any C cb n ccap cs hcl v ((hv.cell (p := ⟨C, 11, none⟩) hlC).trans c11) (fun j hj => (hv.cell (p := ⟨cb, j, none⟩) hlcb).trans (ck j hj)) hin i j hi hj
  have HAP : Hid _ := hap
  have HT0 : Hid ((∃ G cap, RTab (w.alloc (.cells (madeCells #[.slice none 0 0] n) 27)) w.heap.size w.heap.size n 0 (fun i j => cs.getD j 0 - cs.getD i 0) G cap (w.alloc (.cells (madeCells #[.slice none 0 0] n) 27)).heap.size (.slice none 0 0)) ∧ Below w.heap.size w (w.alloc (.cells (madeCells #[.slice none 0 0] n) 27))) := by
    have hc : ∀ i, i < n → (w.alloc (.cells (madeCells #[.slice none 0 0] n) 27)).cell? ⟨w.heap.size, i, none⟩ = some (.slice none 0 0) := fun i hi => by simp [madeCells, hi, Nat.mod_one]
    exact ⟨⟨fun _ => 0, fun _ => 0, fun i hi => absurd hi (Nat.not_lt_zero _), fun i _ hi => absurd hi (Nat.not_lt_zero _), fun i _ hi => absurd hi (Nat.not_lt_zero _), fun h => hc 0 h, fun i _ h2 => hc i h2, fun i => by simp, fun i hi => absurd hi (Nat.not_lt_zero _), fun i hi => absurd hi (Nat.not_lt_zero _), fun i _ hi => absurd hi (Nat.not_lt_zero _), by simp, Nat.le_refl _, Nat.le_refl _⟩, (Below.refl _ _).alloc (Nat.le_refl _) _⟩
  have HRR : Hid (Rows3 w a r.nR r.rn r.ro r.ri) := hr
  obtain ⟨nR, hnRe⟩ : ∃ nR, r.nR = nR := ⟨_, rfl⟩
  have HNR : Hid (r.nR = nR) := hnRe
  rw [hnRe] at hnR ⊢
  have HJI : Hid (0 ≤ jitter ∧ jitter ≤ 137438953472) := ⟨hji0, hji⟩
  clear hr hnRe
  have HCS : Hid (cs.length = n ∧ (∀ j, j < cs.length → w.cell? ⟨cb, j, none⟩ = some (.int .i64 (cs.getD j 0))) ∧ ∀ x ∈ cs, -274877906944 ≤ x ∧ x ≤ 274877906944) := ⟨hcl, ck, hin⟩
  clear hcl ck hin hap
  go_enter Tryz.func41, Tryz.ntmps41
  go_wp2_with fail
  clear hmk
  generalize w.alloc (.cells (madeCells #[.slice none 0 0] n) 27) = V at *
  go_loopw [20] (fun t wr => ∃ i : Nat, i ≤ n ∧ t = .int .i64 i ∧ Hid ((∃ G cap, RTab wr w.heap.size w.heap.size n i (fun i j => cs.getD j 0 - cs.getD i 0) G cap wr.heap.size (.slice none 0 0)) ∧ Below w.heap.size w wr)) (fun t _ => n - (intOf t).toNat)
  case atStart => exact ⟨0, Nat.zero_le _, rfl, HT0⟩
  case round =>
    obtain ⟨i, hi, rfl, HI⟩ := hrel
    clear HT0
    by_cases hlt : i < n
    · have ii : (i : Int) < (n : Int) := by omega
      have y11 := (HI.out.2.cell (p := ⟨C, 11, none⟩) hlC).trans c11
      have hlC2 : C < wr.heap.size := Nat.lt_of_lt_of_le hlC HI.out.2.size
      obtain ⟨G, gcap, hTab⟩ := HI.out.1
      have hBel := HI.out.2
      obtain ⟨Bi, hBi⟩ : ∃ Bi, wr.heap.size = Bi := ⟨_, rfl⟩
      rw [hBi] at hTab
      have HJ0 : Hid (∃ v, RTab wr w.heap.size w.heap.size n i (fun i j => cs.getD j 0 - cs.getD i 0) G gcap Bi v ∧ wr.ownsRow Bi 3 1 v 0 ((List.range 0).map fun j => .int .i64 (cs.getD j 0 - cs.getD i 0)) ∧ Below w.heap.size w wr) := ⟨_, hTab, World.ownsRow_nil _ _ _ _, hBel⟩
      have HBi : Hid (w.heap.size ≤ Bi) := by show w.heap.size ≤ Bi; rw [← hBi]; exact hBel.size
      clear hTab hBel HI hBi
      go_wp2_with fail
      clear y11 hlC2
      rename World => wq
      go_loopw [28] (fun t wr => ∃ j : Nat, j ≤ n ∧ t = .int .i64 j ∧ Hid (∃ v, RTab wr w.heap.size w.heap.size n i (fun i j => cs.getD j 0 - cs.getD i 0) G gcap Bi v ∧ wr.ownsRow Bi 3 1 v j ((List.range j).map fun j => .int .i64 (cs.getD j 0 - cs.getD i 0)) ∧ Below w.heap.size w wr)) (fun t _ => n - (intOf t).toNat)
      case atStart => exact ⟨0, Nat.zero_le _, rfl, HJ0⟩
      case round =>
        obtain ⟨j, hj, rfl, HJ⟩ := hrel
        clear HJ0
        by_cases hlj : j < n
        · have jj : (j : Int) < (n : Int) := by omega
          obtain ⟨v, hTab, hown, hBel⟩ := HJ.out
          have yR := hTab.cur hlt
          have zR := hTab.zR i
          have hlR : w.heap.size < wr.heap.size := Nat.lt_of_lt_of_le hTab.lR hTab.lB
          have hapd := HAP.out wr.drew ⟨hBel.os, hBel.tape, hBel.output, hBel.size, hBel.block⟩ j i hlj hlt
          generalize hXe : cs.getD j 0 - cs.getD i 0 = X at hapd
          have HXe : Hid (cs.getD j 0 - cs.getD i 0 = X) := hXe
          have HTB : Hid _ := hTab
          have HOW : Hid (wr.ownsRow Bi 3 1 v j ((List.range j).map fun j => .int .i64 (cs.getD j 0 - cs.getD i 0))) := hown
          have HBW : Hid (Below w.heap.size w wr) := hBel
          have HLT : Hid (i < n) := hlt
          clear hXe HJ hTab hown hBel
          go_wp2_with fail
          -- REGION8
          refine wp_region_noPanic ?_
          refine wp_region_held_drew (S := fun _ => True) (by kernel_rfl) trivial (fun hHeld => ?_)
          refine tk 0 hHeld ?_
          refine tk 1 hHeld ?_
          refine tk 2 hHeld ?_
          refine tk 3 hHeld ?_
          refine tk 4 hHeld ?_
          refine tk 6 hHeld ?_
          refine tk 7 hHeld ?_
          refine tk 8 hHeld ?_
          refine rd2 5 9 (fun K hK => ?_) fun K hK => ?_
          · go_simp
            refine kp hK (fun hHeld => ?_) trivial
            clear hK K
            refine rdy 9 fun K hK => ?_
            go_simp
            (go_at_call 66; refine hapd.mono ?_; rintro e w2 ⟨rfl, q, hw2⟩; have HF2 : Hid (w2.ownsRow Bi 3 1 v j ((List.range j).map fun j => .int .i64 (cs.getD j 0 - cs.getD i 0)) ∧ Below Bi wr w2 ∧ Bi ≤ w2.heap.size) := (by rw [hw2]; exact ⟨HOW.out, ⟨rfl, rfl, rfl, Nat.le_refl _, fun _ _ => rfl⟩, HTB.out.lB⟩); have yR2 : w2.cell? ⟨w.heap.size, i, none⟩ = some v := (by rw [hw2]; exact yR); have zR2 : w2.frozen? ⟨w.heap.size, i, none⟩ = false := (by rw [hw2]; exact zR); have hl2 : w.heap.size < w2.heap.size := (by rw [hw2]; exact hlR); clear hw2)
            refine kp hK (fun hHeld => ?_) trivial
            clear hK K
            refine rdy 10 fun K hK => ?_
            go_simp
            refine kp hK (fun hHeld => ?_) trivial
            clear hK K
            refine rdy 11 fun K hK => ?_
            (refine step_append_lies _ (by rfl) _ _ _ (by rfl) Bi 3 i1 (.int .i64 0) 1 8 Tryz.underlying27 hiI hy0 hy1 hy2 rfl (by decide) v j _ (by rfl) (HF2.out.1.alloc _) ⟨w2.heap.size, 0, none⟩ 1 1 [.int .i64 X] (by rfl) rfl (cell_one_new _ _ _) (ints_one [X]) (by decide) (by unfold maxLen; omega) (by omega) (by have := HF2.out.2.2; simp; omega) (w2.heap.size + 1) (by simp) ?_; intro gq cq w3 hown' hgrow _ _; have HW3 : Hid (Below Bi wr w3 ∧ w3.ownsRow Bi 3 1 (.slice (some ⟨gq, 0, none⟩) (j + 1) cq) (j + 1) ((List.range (j + 1)).map fun j => .int .i64 (cs.getD j 0 - cs.getD i 0))) := rgrown HF2.out.1 HF2.out.2.1 HF2.out.2.2 HXe.out hown' hgrow; have yR3 : w3.cell? ⟨w.heap.size, i, none⟩ = some v := (HW3.out.1.cell (p := ⟨w.heap.size, i, none⟩) HTB.out.lR).trans yR; have zR3 : w3.frozen? ⟨w.heap.size, i, none⟩ = false := (HW3.out.1.frozen (p := ⟨w.heap.size, i, none⟩) HTB.out.lR).trans zR; have hl3 : w.heap.size < w3.heap.size := Nat.lt_of_lt_of_le hlR HW3.out.1.size; clear hown' hgrow)
            refine kp hK (fun hHeld => ?_) trivial
            clear hK K
            refine tk 12 hHeld ?_
            refine rdy 13 fun K hK => ?_
            go_simp
            refine kp hK (fun hHeld => ?_) trivial
            clear hK K
            refine dn ?_
            refine NoPanic.normal ?_
            have HN : Hid (∃ v, RTab (w3.setCell ⟨w.heap.size, i, none⟩ (.slice (some ⟨gq, 0, none⟩) (j + 1) cq)) w.heap.size w.heap.size n i (fun i j => cs.getD j 0 - cs.getD i 0) G gcap Bi v ∧ (w3.setCell ⟨w.heap.size, i, none⟩ (.slice (some ⟨gq, 0, none⟩) (j + 1) cq)).ownsRow Bi 3 1 v (j + 1) ((List.range (j + 1)).map fun j => .int .i64 (cs.getD j 0 - cs.getD i 0)) ∧ Below w.heap.size w (w3.setCell ⟨w.heap.size, i, none⟩ (.slice (some ⟨gq, 0, none⟩) (j + 1) cq))) :=
              ⟨_, HTB.out.grow HLT.out HW3.out.1 _, owns_put HW3.out.2 HTB.out.lR, (HBW.out.trans (HW3.out.1.mono HBi.out)).trans (((Turns.refl w.heap.size w.heap.size w3).set (p := ⟨w.heap.size, i, none⟩) (.inl rfl) _).below (by omega) (Nat.le_refl _) (Nat.le_refl _))⟩
            clear HF2 HW3 yR2 zR2 yR3 zR3 yR zR hapd
            go_wp2
            go_roundw
            case rel => exact ⟨j + 1, by omega, by go_num, HN⟩
            case measure => simp [intOf]; omega
          · go_simp
            (go_at_call 66; refine hapd.mono ?_; rintro e w2 ⟨rfl, q, hw2⟩; have HF2 : Hid (w2.ownsRow Bi 3 1 v j ((List.range j).map fun j => .int .i64 (cs.getD j 0 - cs.getD i 0)) ∧ Below Bi wr w2 ∧ Bi ≤ w2.heap.size) := (by rw [hw2]; exact ⟨HOW.out, ⟨rfl, rfl, rfl, Nat.le_refl _, fun _ _ => rfl⟩, HTB.out.lB⟩); have yR2 : w2.cell? ⟨w.heap.size, i, none⟩ = some v := (by rw [hw2]; exact yR); have zR2 : w2.frozen? ⟨w.heap.size, i, none⟩ = false := (by rw [hw2]; exact zR); have hl2 : w.heap.size < w2.heap.size := (by rw [hw2]; exact hlR); clear hw2)
            refine kp hK (fun hHeld => ?_) trivial
            clear hK K
            refine rd2 5 10 (fun K hK => ?_) fun K hK => ?_
            · go_simp
              refine kp hK (fun hHeld => ?_) trivial
              clear hK K
              refine rdy 10 fun K hK => ?_
              go_simp
              refine kp hK (fun hHeld => ?_) trivial
              clear hK K
              refine rdy 11 fun K hK => ?_
              (refine step_append_lies _ (by rfl) _ _ _ (by rfl) Bi 3 i1 (.int .i64 0) 1 8 Tryz.underlying27 hiI hy0 hy1 hy2 rfl (by decide) v j _ (by rfl) (HF2.out.1.alloc _) ⟨w2.heap.size, 0, none⟩ 1 1 [.int .i64 X] (by rfl) rfl (cell_one_new _ _ _) (ints_one [X]) (by decide) (by unfold maxLen; omega) (by omega) (by have := HF2.out.2.2; simp; omega) (w2.heap.size + 1) (by simp) ?_; intro gq cq w3 hown' hgrow _ _; have HW3 : Hid (Below Bi wr w3 ∧ w3.ownsRow Bi 3 1 (.slice (some ⟨gq, 0, none⟩) (j + 1) cq) (j + 1) ((List.range (j + 1)).map fun j => .int .i64 (cs.getD j 0 - cs.getD i 0))) := rgrown HF2.out.1 HF2.out.2.1 HF2.out.2.2 HXe.out hown' hgrow; have yR3 : w3.cell? ⟨w.heap.size, i, none⟩ = some v := (HW3.out.1.cell (p := ⟨w.heap.size, i, none⟩) HTB.out.lR).trans yR; have zR3 : w3.frozen? ⟨w.heap.size, i, none⟩ = false := (HW3.out.1.frozen (p := ⟨w.heap.size, i, none⟩) HTB.out.lR).trans zR; have hl3 : w.heap.size < w3.heap.size := Nat.lt_of_lt_of_le hlR HW3.out.1.size; clear hown' hgrow)
              refine kp hK (fun hHeld => ?_) trivial
              clear hK K
              refine tk 12 hHeld ?_
              refine rdy 13 fun K hK => ?_
              go_simp
              refine kp hK (fun hHeld => ?_) trivial
              clear hK K
              refine dn ?_
              refine NoPanic.normal ?_
              have HN : Hid (∃ v, RTab (w3.setCell ⟨w.heap.size, i, none⟩ (.slice (some ⟨gq, 0, none⟩) (j + 1) cq)) w.heap.size w.heap.size n i (fun i j => cs.getD j 0 - cs.getD i 0) G gcap Bi v ∧ (w3.setCell ⟨w.heap.size, i, none⟩ (.slice (some ⟨gq, 0, none⟩) (j + 1) cq)).ownsRow Bi 3 1 v (j + 1) ((List.range (j + 1)).map fun j => .int .i64 (cs.getD j 0 - cs.getD i 0)) ∧ Below w.heap.size w (w3.setCell ⟨w.heap.size, i, none⟩ (.slice (some ⟨gq, 0, none⟩) (j + 1) cq))) :=
                ⟨_, HTB.out.grow HLT.out HW3.out.1 _, owns_put HW3.out.2 HTB.out.lR, (HBW.out.trans (HW3.out.1.mono HBi.out)).trans (((Turns.refl w.heap.size w.heap.size w3).set (p := ⟨w.heap.size, i, none⟩) (.inl rfl) _).below (by omega) (Nat.le_refl _) (Nat.le_refl _))⟩
              clear HF2 HW3 yR2 zR2 yR3 zR3 yR zR hapd
              go_wp2
              go_roundw
              case rel => exact ⟨j + 1, by omega, by go_num, HN⟩
              case measure => simp [intOf]; omega
            · go_simp
              refine kp hK (fun hHeld => ?_) trivial
              clear hK K
              refine rdy 5 fun K hK => ?_
              go_simp
              refine kp hK (fun hHeld => ?_) trivial
              clear hK K
              refine rdy 11 fun K hK => ?_
              (refine step_append_lies _ (by rfl) _ _ _ (by rfl) Bi 3 i1 (.int .i64 0) 1 8 Tryz.underlying27 hiI hy0 hy1 hy2 rfl (by decide) v j _ (by rfl) (HF2.out.1.alloc _) ⟨w2.heap.size, 0, none⟩ 1 1 [.int .i64 X] (by rfl) rfl (cell_one_new _ _ _) (ints_one [X]) (by decide) (by unfold maxLen; omega) (by omega) (by have := HF2.out.2.2; simp; omega) (w2.heap.size + 1) (by simp) ?_; intro gq cq w3 hown' hgrow _ _; have HW3 : Hid (Below Bi wr w3 ∧ w3.ownsRow Bi 3 1 (.slice (some ⟨gq, 0, none⟩) (j + 1) cq) (j + 1) ((List.range (j + 1)).map fun j => .int .i64 (cs.getD j 0 - cs.getD i 0))) := rgrown HF2.out.1 HF2.out.2.1 HF2.out.2.2 HXe.out hown' hgrow; have yR3 : w3.cell? ⟨w.heap.size, i, none⟩ = some v := (HW3.out.1.cell (p := ⟨w.heap.size, i, none⟩) HTB.out.lR).trans yR; have zR3 : w3.frozen? ⟨w.heap.size, i, none⟩ = false := (HW3.out.1.frozen (p := ⟨w.heap.size, i, none⟩) HTB.out.lR).trans zR; have hl3 : w.heap.size < w3.heap.size := Nat.lt_of_lt_of_le hlR HW3.out.1.size; clear hown' hgrow)
              refine kp hK (fun hHeld => ?_) trivial
              clear hK K
              refine tk 12 hHeld ?_
              refine rdy 13 fun K hK => ?_
              go_simp
              refine kp hK (fun hHeld => ?_) trivial
              clear hK K
              refine dn ?_
              refine NoPanic.normal ?_
              have HN : Hid (∃ v, RTab (w3.setCell ⟨w.heap.size, i, none⟩ (.slice (some ⟨gq, 0, none⟩) (j + 1) cq)) w.heap.size w.heap.size n i (fun i j => cs.getD j 0 - cs.getD i 0) G gcap Bi v ∧ (w3.setCell ⟨w.heap.size, i, none⟩ (.slice (some ⟨gq, 0, none⟩) (j + 1) cq)).ownsRow Bi 3 1 v (j + 1) ((List.range (j + 1)).map fun j => .int .i64 (cs.getD j 0 - cs.getD i 0)) ∧ Below w.heap.size w (w3.setCell ⟨w.heap.size, i, none⟩ (.slice (some ⟨gq, 0, none⟩) (j + 1) cq))) :=
                ⟨_, HTB.out.grow HLT.out HW3.out.1 _, owns_put HW3.out.2 HTB.out.lR, (HBW.out.trans (HW3.out.1.mono HBi.out)).trans (((Turns.refl w.heap.size w.heap.size w3).set (p := ⟨w.heap.size, i, none⟩) (.inl rfl) _).below (by omega) (Nat.le_refl _) (Nat.le_refl _))⟩
              clear HF2 HW3 yR2 zR2 yR3 zR3 yR zR hapd
              go_wp2
              go_roundw
              case rel => exact ⟨j + 1, by omega, by go_num, HN⟩
              case measure => simp [intOf]; omega
          -- END8
        · have hjn : j = n := by omega
          have HN : Hid ((∃ G cap, RTab wr w.heap.size w.heap.size n (i + 1) (fun i j => cs.getD j 0 - cs.getD i 0) G cap wr.heap.size (.slice none 0 0)) ∧ Below w.heap.size w wr) := by
            obtain ⟨v, h1, h2, h3⟩ := HJ.out
            rw [hjn] at h2
            exact ⟨h1.next hlt HBi.out h2, h3⟩
          have kk : decide (j < n) = false := decide_eq_false hlj
          clear HJ hjn hlj
          go_wp2
          go_roundw
          case rel => exact ⟨i + 1, by omega, by go_num, HN⟩
          case measure => simp [intOf]; omega
    · have hin : i = n := by omega
      obtain ⟨G, gcap, hTab⟩ := HI.out.1
      have HT1 : Hid (RTab wr w.heap.size w.heap.size n n (fun i j => cs.getD j 0 - cs.getD i 0) G gcap wr.heap.size (.slice none 0 0)) := by rw [← hin]; rw [← hin] at hTab; exact hTab
      have HB1 : Hid (Below w.heap.size w wr) := HI.out.2
      have kk : decide (i < n) = false := decide_eq_false hlt
      have y3 := (HB1.out.cell (p := ⟨C, 3, none⟩) hlC).trans c3
      have hlC2 : C < wr.heap.size := Nat.lt_of_lt_of_le hlC HB1.out.size
      have hc1 := fun v => ccutF 549755813888 v
      have hc2 := fun v => ccutF jitter v
      clear hTab HI hin hlt
      go_wp2_with fail
      go_region_held3 (fun u => u.cell? ⟨C, 3, none⟩ = some (.int .i64 jitter)) (go_keep) (first
        | (go_at_call 42; refine (hc2 _).mono ?_; rintro e v2 ⟨L2, rfl, q1, q2, q3, q4⟩; have HL2 : Hid ((wr.heap.size ≤ L1 ∧ L1 < v2.heap.size ∧ v2.cell? ⟨L1, 0, none⟩ = some (.int .i64 549755813888)) ∧ (wr.heap.size ≤ L2 ∧ L2 < v2.heap.size ∧ v2.cell? ⟨L2, 0, none⟩ = some (.int .i64 jitter)) ∧ Below wr.heap.size wr v2) := (by obtain ⟨a1, a2, a3, a4⟩ := HL1.out; exact ⟨⟨a1, Nat.lt_of_lt_of_le a2 q4.size, (q4.cell (p := ⟨L1, 0, none⟩) a2).trans a3⟩, ⟨Nat.le_trans a4.size q1, q3, q2⟩, a4.trans (q4.mono a4.size)⟩); have z3 := (HL2.out.2.2.cell (p := ⟨C, 3, none⟩) hlC2).trans y3; clear q1 q2 q3 q4)
        | (go_at_call 42; refine (hc1 _).mono ?_; rintro e v1 ⟨L1, rfl, q1, q2, q3, q4⟩; have HL1 : Hid (wr.heap.size ≤ L1 ∧ L1 < v1.heap.size ∧ v1.cell? ⟨L1, 0, none⟩ = some (.int .i64 549755813888) ∧ Below wr.heap.size wr v1) := ⟨q1, q3, q2, ⟨q4.os, q4.tape, q4.output, q4.size, q4.block⟩⟩; have z3 := (HL1.out.2.2.2.cell (p := ⟨C, 3, none⟩) hlC2).trans y3; clear q1 q2 q3 q4))
      obtain ⟨Bi, hBi⟩ : ∃ Bi, wr.heap.size = Bi := ⟨_, rfl⟩
      have HST : Hid (RTab v2 w.heap.size w.heap.size n n (readTo r n fa jitter cs 0) G gcap Bi (.slice none 0 0) ∧ ((Bi ≤ L1 ∧ v2.cell? ⟨L1, 0, none⟩ = some (.int .i64 549755813888)) ∧ Bi ≤ L2 ∧ v2.cell? ⟨L2, 0, none⟩ = some (.int .i64 jitter)) ∧ Below w.heap.size w v2) := by
        obtain ⟨⟨a1, a2, a3⟩, ⟨a4, a5, a6⟩, a7⟩ := HL2.out
        rw [hBi] at a1 a4 a7
        have h1 := HT1.out
        rw [hBi] at h1
        exact ⟨h1.below a7, ⟨⟨a1, a3⟩, a4, a6⟩, HB1.out.trans (a7.mono (by rw [← hBi]; exact HB1.out.size))⟩
      have HBi : Hid (w.heap.size ≤ Bi) := by show w.heap.size ≤ Bi; rw [← hBi]; exact HB1.out.size
      clear HL1 HL2 HT1 HB1 y3 hlC2 hc1 hc2 z3 kk hBi
      go_wp2_with fail
      rename World => wq
      go_loopw [55] (fun t wr => ∃ k : Nat, k ≤ nR ∧ t = .int .i64 k ∧ Hid (RTab wr w.heap.size w.heap.size n n (readTo r n fa jitter cs k) G gcap Bi (.slice none 0 0) ∧ ((Bi ≤ L1 ∧ wr.cell? ⟨L1, 0, none⟩ = some (.int .i64 549755813888)) ∧ Bi ≤ L2 ∧ wr.cell? ⟨L2, 0, none⟩ = some (.int .i64 jitter)) ∧ Below w.heap.size w wr)) (fun t _ => nR - (intOf t).toNat)
      case atStart => exact ⟨0, Nat.zero_le _, rfl, HST⟩
      case round =>
        clear HST
        obtain ⟨k, hk, rfl, HI⟩ := hrel
        by_cases hlt : k < nR
        · obtain ⟨b, off, rfl, hb, hc⟩ := HRR.out (by rw [HNR.out]; omega)
          obtain ⟨x0, x1, x2⟩ := hc k (by rw [HNR.out]; exact hlt)
          have y0 := (HI.out.2.2.cell (p := ⟨b, off + k * 3, none⟩) hb).trans x0
          have y1 := (HI.out.2.2.cell (p := ⟨b, off + k * 3 + 1, none⟩) hb).trans x1
          have y2 := (HI.out.2.2.cell (p := ⟨b, off + k * 3 + 2, none⟩) hb).trans x2
          have hbw : b < wr.heap.size := Nat.lt_of_lt_of_le hb HI.out.2.2.size
          have kk : (k : Int) < (nR : Int) := by omega
          have HSU : Hid (readTo r n fa jitter cs (k + 1) = readOne n (bitI fa) jitter (fun i => cs.getD i 0) ⟨r.rn k, r.ro k, r.ri k⟩ (readTo r n fa jitter cs k)) := readTo_succ ..
          generalize r.rn k = NX at *
          generalize r.ro k = OX at *
          generalize r.ri k = IX at *
          obtain ⟨q0, q1, q2, qB, qS⟩ := rbox3 wr (.int .i64 NX) (.int .i64 OX) (.int .i64 IX) 154
          have hlC2 : C < wr.heap.size := Nat.lt_of_lt_of_le hlC HI.out.2.2.size
          have HQB : Hid (Below wr.heap.size wr (wr.alloc (.cells #[.int .i64 NX, .int .i64 OX, .int .i64 IX] 154))) := qB
          have d0 := (qB.cell (p := ⟨C, 0, none⟩) hlC2).trans ((HI.out.2.2.cell (p := ⟨C, 0, none⟩) hlC).trans c0)
          have d10 := (qB.cell (p := ⟨C, 10, none⟩) hlC2).trans ((HI.out.2.2.cell (p := ⟨C, 10, none⟩) hlC).trans c10)
          have hl0 : C < (wr.alloc (.cells #[.int .i64 NX, .int .i64 OX, .int .i64 IX] 154)).heap.size := by rw [qS]; omega
          have hl1 : wr.heap.size < (wr.alloc (.cells #[.int .i64 NX, .int .i64 OX, .int .i64 IX] 154)).heap.size := by rw [qS]; omega
          have hnd := fun (x : Int) => cisNode_any C n x (wr.alloc (.cells #[.int .i64 NX, .int .i64 OX, .int .i64 IX] 154)) d0
          clear x0 x1 x2 hc qS qB
          by_cases hv : (0 ≤ NX ∧ NX < n) ∧ (0 ≤ OX ∧ OX < n) ∧ NX ≠ OX
          · obtain ⟨⟨v1, v2'⟩, ⟨v3, v4⟩, v5⟩ := hv
            obtain ⟨i', rfl⟩ : ∃ i' : Nat, NX = i' := ⟨NX.toNat, by omega⟩
            obtain ⟨j', rfl⟩ : ∃ j' : Nat, OX = j' := ⟨OX.toNat, by omega⟩
            have hii : i' < n := by omega
            have hjj : j' < n := by omega
            have hn1 := hnd (i' : Int)
            have hn2 := hnd (j' : Int)
            rw [decide_eq_true (show 0 ≤ (i' : Int) ∧ (i' : Int) < n from ⟨v1, v2'⟩)] at hn1
            rw [decide_eq_true (show 0 ≤ (j' : Int) ∧ (j' : Int) < n from ⟨v3, v4⟩)] at hn2
            have k5 : ((i' : Int) == (j' : Int)) = false := by simpa using v5
            have hhas := fun v => chas_any fa j' (by omega) v
            have HG : Hid (∀ i2 j2, readTo r n fa jitter cs (k + 1) i2 j2 = if i2 = i' ∧ j2 = j' then (if bitI fa j' = true then cutV IX 549755813888 else cs.getD j' 0 - cs.getD i' 0 + cutV IX jitter) else readTo r n fa jitter cs k i2 j2) := fun i2 j2 => by
              rw [HSU.out]
              exact readOne_at hii hjj v5 i2 j2
            have gR := (HQB.out.cell (p := ⟨w.heap.size, i', none⟩) (Nat.lt_of_lt_of_le HI.out.1.lR HI.out.1.lB)).trans (HI.out.1.row i' hii)
            have gC := (HQB.out.cell (p := ⟨G i', j', none⟩) (Nat.lt_of_lt_of_le (HI.out.1.lt i' hii) HI.out.1.lB)).trans (HI.out.1.cel i' j' hii hjj)
            have gZ := (HQB.out.frozen (p := ⟨G i', j', none⟩) (Nat.lt_of_lt_of_le (HI.out.1.lt i' hii) HI.out.1.lB)).trans (HI.out.1.zG i' j' hii)
            have hGl : G i' < (wr.alloc (.cells #[.int .i64 i', .int .i64 j', .int .i64 IX] 154)).heap.size := by have := HI.out.1.lt i' hii; have := HI.out.1.lB; omega
            have hRl : w.heap.size < (wr.alloc (.cells #[.int .i64 i', .int .i64 j', .int .i64 IX] 154)).heap.size := by have := HI.out.1.lR; have := HI.out.1.lB; omega
            have hGR : G i' ≠ w.heap.size := (HI.out.1.lo i' hii).2
            have hGb : G i' ≠ wr.heap.size := by have := HI.out.1.lt i' hii; have := HI.out.1.lB; omega
            have hGC : G i' ≠ C := by have := (HI.out.1.lo i' hii).1; omega
            have hL1 : L1 < wr.heap.size := lt_of_cell9 HI.out.2.1.1.2
            have hL2 : L2 < wr.heap.size := lt_of_cell9 HI.out.2.1.2.2
            have l1 := (HQB.out.cell (p := ⟨L1, 0, none⟩) hL1).trans HI.out.2.1.1.2
            have l2 := (HQB.out.cell (p := ⟨L2, 0, none⟩) hL2).trans HI.out.2.1.2.2
            have hG1 : G i' ≠ L1 := by have := HI.out.1.lt i' hii; have := HI.out.2.1.1.1; omega
            have hG2 : G i' ≠ L2 := by have := HI.out.1.lt i' hii; have := HI.out.2.1.2.1; omega
            have HNX : Hid (∀ x : Int, ∀ u : Nat, (∀ i2 j2, readTo r n fa jitter cs (k + 1) i2 j2 = if i2 = i' ∧ j2 = j' then x else readTo r n fa jitter cs k i2 j2) → RTab (((wr.alloc (.cells #[.int .i64 i', .int .i64 j', .int .i64 IX] 154)).drewN u).setCell ⟨G i', j', none⟩ (.int .i64 x)) w.heap.size w.heap.size n n (readTo r n fa jitter cs (k + 1)) G gcap Bi (.slice none 0 0) ∧ ((Bi ≤ L1 ∧ (((wr.alloc (.cells #[.int .i64 i', .int .i64 j', .int .i64 IX] 154)).drewN u).setCell ⟨G i', j', none⟩ (.int .i64 x)).cell? ⟨L1, 0, none⟩ = some (.int .i64 549755813888)) ∧ Bi ≤ L2 ∧ (((wr.alloc (.cells #[.int .i64 i', .int .i64 j', .int .i64 IX] 154)).drewN u).setCell ⟨G i', j', none⟩ (.int .i64 x)).cell? ⟨L2, 0, none⟩ = some (.int .i64 jitter)) ∧ Below w.heap.size w (((wr.alloc (.cells #[.int .i64 i', .int .i64 j', .int .i64 IX] 154)).drewN u).setCell ⟨G i', j', none⟩ (.int .i64 x))) := fun x u hg => by
              obtain ⟨t1, ⟨⟨t2, t3⟩, t4, t5⟩, t6⟩ := HI.out
              have hb' : Below wr.heap.size wr ((wr.alloc (.cells #[.int .i64 i', .int .i64 j', .int .i64 IX] 154)).drewN u) := ⟨HQB.out.os, HQB.out.tape, HQB.out.output, HQB.out.size, HQB.out.block⟩
              refine ⟨(t1.below (hb'.mono t1.lB)).set hii hjj (fun i2 j2 _ _ => hg i2 j2), ⟨⟨t2, (cell_other (.inl (Ne.symm hG1))).trans l1⟩, t4, (cell_other (.inl (Ne.symm hG2))).trans l2⟩, ?_⟩
              exact (t6.trans (hb'.mono t6.size)).trans (((Turns.refl (G i') (G i') _).set (p := ⟨G i', j', none⟩) (.inl rfl) _).below (by have := t6.size; have := hb'.size; omega) (t1.lo i' hii).1 (t1.lo i' hii).1)
            have hbd1 : -549755813888 ≤ cutV IX 549755813888 ∧ cutV IX 549755813888 ≤ 549755813888 := cutV_in (by decide)
            have hbd2 : -jitter ≤ cutV IX jitter ∧ cutV IX jitter ≤ jitter := cutV_in hji0
            have gI : (i' : Int) < (n : Int) := by omega
            have gJ : (j' : Int) < (n : Int) := by omega
            clear hnd HSU v5
            go_wp2_with fail
            clear y0 y1 y2
            generalize (wr.alloc (.cells #[.int .i64 i', .int .i64 j', .int .i64 IX] 154)) = V1 at *
            refine hn1.mono ?_
            rintro e v7 ⟨rfl, hv7⟩
            replace hv7 := hv7.symm
            subst hv7
            clear hn1
            go_wp2_with fail
            refine hn2.mono ?_
            rintro e v7 ⟨rfl, hv7⟩
            replace hv7 := hv7.symm
            subst hv7
            clear hn2
            go_wp2_with fail
            go_quiet (first | (go_at_call 23; refine Calls.quiet_of_same (hhas _)))
            have HBV : Hid (Below w.heap.size w V1) := HI.out.2.2.trans (HQB.out.mono HI.out.2.2.size)
            cases hb2 : bitI fa j'
            · rw [hb2] at HG
              have hap := fun (u : Nat) => HAP.out (V1.drewN u) ⟨HBV.out.os, HBV.out.tape, HBV.out.output, HBV.out.size, HBV.out.block⟩ j' i' hjj hii
              have hcl := fun (u : Nat) => ccut1_any IX jitter L2 hji0 (by omega) (V1.drewN u) l2
              have b1 := HCS.out.2.2 _ (getD_mem9 (show i' < cs.length by rw [HCS.out.1]; exact hii))
              have b2 := HCS.out.2.2 _ (getD_mem9 (show j' < cs.length by rw [HCS.out.1]; exact hjj))
              have HN := HNX.out (cs.getD j' 0 - cs.getD i' 0 + cutV IX jitter)
              have HNN : Hid _ := fun u => HN u (fun i2 j2 => by rw [HG.out i2 j2, if_neg (show ¬ false = true by decide)])
              clear HN HG HNX hhas
              generalize cs.getD j' 0 = XJ at *
              generalize cs.getD i' 0 = XI at *
              generalize cutV IX jitter = CV at *
              go_wp2_with fail
              go_region_held3 (fun u => u.cell? ⟨wr.heap.size, 0, none⟩ = some (.int .i64 i') ∧ u.cell? ⟨wr.heap.size, 1, none⟩ = some (.int .i64 j') ∧ u.cell? ⟨wr.heap.size, 2, none⟩ = some (.int .i64 IX) ∧ u.cell? ⟨w.heap.size, i', none⟩ = some (.slice (some ⟨G i', 0, none⟩) n (gcap i')) ∧ u.cell? ⟨L2, 0, none⟩ = some (.int .i64 jitter)) (go_keep) (first
                | (go_at_call 66; refine (hap _).mono ?_; rintro e v8 ⟨rfl, q8, rfl⟩)
                | (go_at_call 67; refine (hcl _).mono ?_; rintro e v9 ⟨rfl, rfl⟩))
              go_wp2
              go_roundw
              case rel => exact ⟨k + 1, by omega, by go_num, HNN.out _⟩
              case measure => simp [intOf]; omega
            · rw [hb2] at HG
              have hcl := fun (u : Nat) => ccut1_any IX 549755813888 L1 (by decide) (by decide) (V1.drewN u) l1
              have HN := HNX.out (cutV IX 549755813888)
              have HNN : Hid _ := fun u => HN u (fun i2 j2 => by rw [HG.out i2 j2, if_pos rfl])
              clear HN HG HNX hhas
              generalize cutV IX 549755813888 = CV at *
              go_wp2_with fail
              go_region_held3 (fun u => u.cell? ⟨wr.heap.size, 0, none⟩ = some (.int .i64 i') ∧ u.cell? ⟨wr.heap.size, 1, none⟩ = some (.int .i64 j') ∧ u.cell? ⟨wr.heap.size, 2, none⟩ = some (.int .i64 IX) ∧ u.cell? ⟨w.heap.size, i', none⟩ = some (.slice (some ⟨G i', 0, none⟩) n (gcap i')) ∧ u.cell? ⟨L1, 0, none⟩ = some (.int .i64 549755813888)) (go_keep) (first
                | (go_at_call 67; refine (hcl _).mono ?_; rintro e v9 ⟨rfl, rfl⟩))
              go_wp2
              go_roundw
              case rel => exact ⟨k + 1, by omega, by go_num, HNN.out _⟩
              case measure => simp [intOf]; omega
          · have HNN : Hid (RTab (wr.alloc (.cells #[.int .i64 NX, .int .i64 OX, .int .i64 IX] 154)) w.heap.size w.heap.size n n (readTo r n fa jitter cs (k + 1)) G gcap Bi (.slice none 0 0) ∧ ((Bi ≤ L1 ∧ (wr.alloc (.cells #[.int .i64 NX, .int .i64 OX, .int .i64 IX] 154)).cell? ⟨L1, 0, none⟩ = some (.int .i64 549755813888)) ∧ Bi ≤ L2 ∧ (wr.alloc (.cells #[.int .i64 NX, .int .i64 OX, .int .i64 IX] 154)).cell? ⟨L2, 0, none⟩ = some (.int .i64 jitter)) ∧ Below w.heap.size w (wr.alloc (.cells #[.int .i64 NX, .int .i64 OX, .int .i64 IX] 154))) := by
              obtain ⟨t1, ⟨⟨t2, t3⟩, t4, t5⟩, t6⟩ := HI.out
              rw [HSU.out, readOne_not hv]
              exact ⟨t1.below (HQB.out.mono t1.lB), ⟨⟨t2, (HQB.out.cell (p := ⟨L1, 0, none⟩) (lt_of_cell9 t3)).trans t3⟩, t4, (HQB.out.cell (p := ⟨L2, 0, none⟩) (lt_of_cell9 t5)).trans t5⟩, t6.trans (HQB.out.mono t6.size)⟩
            clear HI HSU HQB
            by_cases w1 : 0 ≤ NX ∧ NX < (n : Int)
            · by_cases w2 : 0 ≤ OX ∧ OX < (n : Int)
              · obtain rfl : NX = OX := by
                  by_cases e : NX = OX
                  · exact e
                  · exact absurd ⟨w1, w2, e⟩ hv
                have hn1 := hnd NX
                rw [decide_eq_true w1] at hn1
                clear hv hnd
                go_wp2_with fail
                clear y0 y1 y2
                refine hn1.mono ?_
                rintro e v7 ⟨rfl, hv7⟩
                replace hv7 := hv7.symm
                subst hv7
                go_wp2_with fail
                refine hn1.mono ?_
                rintro e v7 ⟨rfl, hv7⟩
                replace hv7 := hv7.symm
                subst hv7
                clear hn1
                go_wp2
                go_roundw
                case rel => exact ⟨k + 1, by omega, by go_num, HNN⟩
                case measure => simp [intOf]; omega
              · have hn1 := hnd NX
                have hn2 := hnd OX
                rw [decide_eq_true w1] at hn1
                rw [decide_eq_false w2] at hn2
                clear hv hnd w1 w2
                go_wp2_with fail
                clear y0 y1 y2
                refine hn1.mono ?_
                rintro e v7 ⟨rfl, hv7⟩
                replace hv7 := hv7.symm
                subst hv7
                clear hn1
                go_wp2_with fail
                refine hn2.mono ?_
                rintro e v7 ⟨rfl, hv7⟩
                replace hv7 := hv7.symm
                subst hv7
                clear hn2
                go_wp2
                go_roundw
                case rel => exact ⟨k + 1, by omega, by go_num, HNN⟩
                case measure => simp [intOf]; omega
            · have hn1 := hnd NX
              rw [decide_eq_false w1] at hn1
              clear hv hnd w1
              go_wp2_with fail
              clear y0 y1 y2
              refine hn1.mono ?_
              rintro e v7 ⟨rfl, hv7⟩
              replace hv7 := hv7.symm
              subst hv7
              clear hn1
              go_wp2
              go_roundw
              case rel => exact ⟨k + 1, by omega, by go_num, HNN⟩
              case measure => simp [intOf]; omega
        · have hkn : k = nR := by omega
          have HD : Hid (RTab wr w.heap.size w.heap.size n n (readAll n (bitI fa) jitter (fun i => cs.getD i 0) r.reads) G gcap Bi (.slice none 0 0) ∧ Below w.heap.size w wr) := by
            obtain ⟨t1, _, t6⟩ := HI.out
            rw [hkn, ← HNR.out] at t1
            exact ⟨t1, t6⟩
          have kk : decide (k < nR) = false := decide_eq_false hlt
          clear hkn hlt HI
          go_wp2
          go_ret
          exact ⟨_, _, _, _, rfl, HD.out.1, HD.out.2⟩
end Go.Proofs.YtdmokcnoljlogaaGreatDoor
