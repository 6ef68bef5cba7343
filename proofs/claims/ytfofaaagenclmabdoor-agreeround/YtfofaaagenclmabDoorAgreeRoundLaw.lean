/- AgreeRound, walked: of every clocks, rows and f it answers true. Conditions: package errors' own variable and the document's answer's variable Fine hold what their texts say. -/
import Derived.Test.YtfofaaagenclmabDoorRefSet
namespace Go.Proofs.YtfofaaagenclmabDoor
open Go.RowKit Go.Shelf Go.Sort

theorem owns_int {w : World} {base n : Nat} {v : Value} {l : List Int} (h : w.ownsRow base 3 1 v n (l.map (Value.int .i64))) : ∃ a cap, v = .slice a l.length cap ∧ IntRow w a l := by
  have hl : l.length = n := by simpa using h.1
  by_cases h0 : n = 0
  · subst h0
    rcases h.2 with ⟨e0, _⟩ | ⟨g, cap, cur, hv, _⟩
    · exact ⟨none, 0, by rw [e0, hl], fun q => by omega⟩
    · exact ⟨some ⟨g, 0, none⟩, cap, by rw [hv, hl], fun q => by omega⟩
  · obtain ⟨g, cap, hv, _, hlt, _, _, _, hH⟩ := Lib.holds_of_ownsRow h (fun e => by
      rcases h.2 with ⟨_, e1⟩ | ⟨g, cap, cur, hv, _⟩
      · omega
      · rw [hv] at e; cases e)
    exact ⟨some ⟨g, 0, none⟩, cap, by rw [hv, hl], fun _ => ⟨g, 0, rfl, hlt, fun j hj => by rw [Nat.zero_add]; exact cell_of_holds hH j hj⟩⟩

set_option maxHeartbeats 1000000 in
theorem sameInts_any (a b : Option Addr) (ca cb : Nat) (l : List Int) (w : World) (ha : IntRow w a l) (hb : IntRow w b l) (hn : l.length ≤ 1000) :
    Calls Tryd.prog 12 #[.slice a l.length ca, .slice b l.length cb] w fun e w' => e = .returned (.bool true) ∧ Below w.heap.size w w' := by
  obtain ⟨n, hl⟩ : ∃ n, l.length = n := ⟨_, rfl⟩
  have HA : Hid (IntRow w a l) := ha
  have HB : Hid (IntRow w b l) := hb
  have HL : Hid (l.length = n) := hl
  rw [hl] at hn ⊢
  clear ha hb hl
  have k1 : ((n : Int) != (n : Int)) = false := by simp
  go_enter Tryd.func12, Tryd.ntmps12
  go_wp2
  go_loopw [5] (fun t wr => ∃ k q : Nat, k ≤ n ∧ t = .int .i64 k ∧ wr = w.drewN q) (fun t _ => n - (intOf t).toNat)
  case atStart => exact ⟨0, 0, Nat.zero_le _, rfl, rfl⟩
  case round =>
    obtain ⟨k, q, hk, rfl, rfl⟩ := hrel
    by_cases hlt : k < n
    · obtain ⟨ba, oa, rfl, _, hca⟩ := HA.out (by rw [HL.out]; omega)
      obtain ⟨bb, ob, rfl, _, hcb⟩ := HB.out (by rw [HL.out]; omega)
      have x0 := hca k (by rw [HL.out]; exact hlt)
      have y0 := hcb k (by rw [HL.out]; exact hlt)
      clear hca hcb
      generalize l.getD k 0 = x at x0 y0
      have k2 : (x != x) = false := by simp
      have x1 : (w.drewN q).cell? ⟨ba, oa + k, none⟩ = some (.int .i64 x) := x0
      have y1 : (w.drewN q).cell? ⟨bb, ob + k, none⟩ = some (.int .i64 x) := y0
      go_wp2_with fail
      go_quiet (fail)
      go_wp2_with fail
      exact ⟨⟨k + 1, _, by omega, by go_num, rfl⟩, by simp [intOf]; omega⟩
    · have : k = n := by omega
      subst this
      go_wp2
      go_ret
      exact ⟨rfl, below_drewN' (Below.refl _ _) _⟩

/-- The document's answer's Set answers these numbers, and this fault. -/
def SetSays (w : World) (args : Array Value) (L : List Int) (e p : Int) : Prop :=
  ∀ u : World, Below w.heap.size w u → Calls Tryd.prog 9 args u fun ev w' => ∃ av cv, ev = .returned (.tuple #[.slice av L.length cv, .agg #[.int .i64 e, .int .i64 p]]) ∧ IntRow w' av L ∧ Below u.heap.size u w'
/-- The program's Round answers these numbers, and an error that tells this fault. -/
def RoundSays (w : World) (args : Array Value) (L : List Int) (e p : Int) : Prop :=
  ∀ u : World, Below w.heap.size w u → Calls Tryd.prog 10 args u fun ev w' => ∃ av cv E, ev = .returned (.tuple #[.slice av L.length cv, E]) ∧ IntRow w' av L ∧ (∀ v : World, Told v → Below w'.heap.size w' v → Calls Tryd.prog 26 #[E] v fun ev w2 => ev = .returned (.tuple #[.int .i64 e, .int .i64 p]) ∧ Below v.heap.size v w2) ∧ Below u.heap.size u w'

set_option maxRecDepth 100000 in
set_option maxHeartbeats 2000000 in
theorem around_walk (a ra : Option Addr) (cap rcap : Nat) (cs : List Int) (rows : List (List Int)) (f : Int) (w : World) (hT : Told w) (ht : TabRow w ra rows) (h1 : cs.length ≤ 20) (h2 : rows.length ≤ 25) (L : List Int) (hL : L.length ≤ 1000) (e p : Int)
    (hS : (∀ r ∈ rows, r.length ≤ 30) → SetSays w #[.slice a cs.length cap, .slice ra rows.length rcap, .int .i64 f] L e p) (hR : (∀ r ∈ rows, r.length ≤ 30) → RoundSays w #[.slice a cs.length cap, .slice ra rows.length rcap, .int .i64 f] L e p) :
    Calls Tryd.prog 4 #[.slice a cs.length cap, .slice ra rows.length rcap, .int .i64 f] w fun ev w' => ev = .returned (.bool true) ∧ Below w.heap.size w w' := by
  obtain ⟨n, hn⟩ : ∃ n, cs.length = n := ⟨_, rfl⟩
  obtain ⟨m, hm⟩ : ∃ m, rows.length = m := ⟨_, rfl⟩
  have HM : Hid (rows.length = m) := hm
  have HS : Hid ((∀ r ∈ rows, r.length ≤ 30) → SetSays w #[.slice a n cap, .slice ra m rcap, .int .i64 f] L e p) := hn ▸ hm ▸ hS
  have HR : Hid ((∀ r ∈ rows, r.length ≤ 30) → RoundSays w #[.slice a n cap, .slice ra m rcap, .int .i64 f] L e p) := hn ▸ hm ▸ hR
  have HT : Hid (TabRow w ra rows) := ht
  rw [hn] at h1 ⊢
  rw [hm] at h2 ⊢
  have k1 : decide ((20 : Int) < (n : Int)) = false := decide_eq_false (by omega)
  have k2 : decide ((25 : Int) < (m : Int)) = false := decide_eq_false (by omega)
  clear hS hR hn hm ht
  go_enter Tryd.func4, Tryd.ntmps4
  go_wp2
  go_loop [7] (fun t => ∃ k : Nat, k ≤ m ∧ t = .int .i64 k ∧ Hid (∀ j, j < k → (rows.getD j []).length ≤ 30)) (fun t => m - (intOf t).toNat)
  case atStart => exact ⟨0, Nat.zero_le _, rfl, fun j hj => absurd hj (Nat.not_lt_zero _)⟩
  case round =>
    obtain ⟨k, hk, rfl, h0⟩ := hrel
    by_cases hlt : k < m
    · obtain ⟨tb, toff, rfl, htb, htc⟩ := HT.out (by rw [HM.out]; omega)
      obtain ⟨rx, rc, y1, _⟩ := htc k (by rw [HM.out]; exact hlt)
      obtain ⟨rl, hrl⟩ : ∃ rl, (rows.getD k []).length = rl := ⟨_, rfl⟩
      have HRL : Hid ((rows.getD k []).length = rl) := hrl
      rw [hrl] at y1
      clear htc hrl
      by_cases h3 : 30 < rl
      · have k3 : (30 : Int) < (rl : Int) := by omega
        go_wp2
        go_ret
        exact ⟨rfl, Below.refl _ _⟩
      · have k3 : decide ((30 : Int) < (rl : Int)) = false := decide_eq_false (by omega)
        go_wp2
        refine ⟨⟨k + 1, by omega, by go_num, fun j hj => ?_⟩, by simp [intOf]; omega⟩
        rcases Nat.lt_succ_iff_lt_or_eq.1 hj with q | q
        · exact h0.out j q
        · rw [q, HRL.out]; omega
    · have : k = m := by omega
      subst this
      have hall : ∀ r ∈ rows, r.length ≤ 30 := fun r hr => by
        obtain ⟨j, hj, rfl⟩ := List.getElem_of_mem hr
        have := h0.out j (by rw [← HM.out]; exact hj)
        simpa [List.getD, hj] using this
      have HS2 : Hid (SetSays w #[.slice a n cap, .slice ra k rcap, .int .i64 f] L e p) := HS.out hall
      have HR2 : Hid (RoundSays w #[.slice a n cap, .slice ra k rcap, .int .i64 f] L e p) := HR.out hall
      obtain ⟨len, hll⟩ : ∃ len, L.length = len := ⟨_, rfl⟩
      have HLL : Hid (L.length = len) := hll
      clear hall HS HR hll
      go_wp2_with fail
      refine (HS2.out _ (Below.refl _ _)).mono ?_
      rintro ev w1 ⟨av, cv, rfl, hI, hb1⟩
      rw [HLL.out]
      go_wp2_with fail
      have hA : Below w1.heap.size w1 (w1.alloc (.cells #[.int .i64 e, .int .i64 p] 34)) := (Below.refl _ _).alloc (Nat.le_refl _) _
      have c0 : (w1.alloc (.cells #[.int .i64 e, .int .i64 p] 34)).cell? ⟨w1.heap.size, 0, none⟩ = some (.int .i64 e) := by simp
      have c1 : (w1.alloc (.cells #[.int .i64 e, .int .i64 p] 34)).cell? ⟨w1.heap.size, 1, none⟩ = some (.int .i64 p) := by simp
      have hz : w1.heap.size < (w1.alloc (.cells #[.int .i64 e, .int .i64 p] 34)).heap.size := by simp
      have hV := below_then hb1 hA
      replace hI := hI.below hA
      have HI : Hid (IntRow _ av L) := hI
      clear hA hb1 HS2 hI
      generalize w1.alloc (.cells #[.int .i64 e, .int .i64 p] 34) = V at hV HI c0 c1 hz ⊢
      refine (HR2.out _ hV).mono ?_
      rintro ev w2 ⟨bv, dv, E, rfl, hJ, hP, hb2⟩
      rw [HLL.out]
      have hV2 := below_then hV hb2
      have HI2 : Hid (IntRow w2 av L) := HI.out.below hb2
      have HJ2 : Hid (IntRow w2 bv L) := hJ
      replace c0 := (hb2.cell (p := ⟨w1.heap.size, 0, none⟩) hz).trans c0
      replace c1 := (hb2.cell (p := ⟨w1.heap.size, 1, none⟩) hz).trans c1
      have hi := is_any E e p w2 (fun v hv hbv => hP v hv hbv) (hT.below hV2)
      clear hb2 hP HI hJ HR2
      go_wp2_with fail
      refine hi.mono ?_
      rintro ev w3 ⟨rfl, hb3⟩
      have hs := sameInts_any bv av dv cv L w3 (HJ2.out.below hb3) (HI2.out.below hb3) hL
      rw [HLL.out] at hs
      go_wp2_with fail
      refine hs.mono ?_
      rintro ev w4 ⟨rfl, hb4⟩
      go_wp2
      go_ret
      exact ⟨rfl, below_then (below_then hV2 hb3) hb4⟩

theorem place_of {w : World} {E : Value} {e i p : Int} (h : AtIs w E e i) (hp : p = if e = 0 then -1 else i) (v : World) (hv : Told v) (hb : Below w.heap.size w v) :
    Calls Tryd.prog 26 #[E] v fun ev w2 => ev = .returned (.tuple #[.int .i64 e, .int .i64 p]) ∧ Below v.heap.size v w2 := by
  subst hp
  rcases h with ⟨rfl, rfl⟩ | ⟨b, rfl, he, c0, c1⟩
  · exact place_nil v
  · have hlt : b < w.heap.size := by
      rcases Nat.lt_or_ge b w.heap.size with q | q
      · exact q
      · simp [World.cell?, Array.getElem?_eq_none q] at c0
    rw [if_neg he]
    exact place_at e i b v hv ((hb.cell (p := ⟨b, 0, none⟩) hlt).trans c0) ((hb.cell (p := ⟨b, 1, none⟩) hlt).trans c1)

theorem around_any (a ra : Option Addr) (cap rcap : Nat) (cs : List Int) (rows : List (List Int)) (f : Int) (w : World) (hT : Told w) (hfine : Fine0 w) (hr : IntRow w a cs) (ht : TabRow w ra rows) :
    Calls Tryd.prog 4 #[.slice a cs.length cap, .slice ra rows.length rcap, .int .i64 f] w fun ev w' => ev = .returned (.bool true) ∧ Below w.heap.size w w' := by
  by_cases h1 : 20 < cs.length
  · generalize cs.length = n at h1
    generalize rows.length = m
    have k1 : (20 : Int) < (n : Int) := by omega
    go_enter Tryd.func4, Tryd.ntmps4
    go_wp2
    go_ret
    exact ⟨rfl, Below.refl _ _⟩
  · by_cases h2 : 25 < rows.length
    · generalize cs.length = n at h1
      generalize rows.length = m at h2
      have k1 : decide ((20 : Int) < (n : Int)) = false := decide_eq_false (by omega)
      have k2 : (25 : Int) < (m : Int) := by omega
      go_enter Tryd.func4, Tryd.ntmps4
      go_wp2
      go_ret
      exact ⟨rfl, Below.refl _ _⟩
    · by_cases h3 : rows.length = cs.length
      rotate_left
      · refine around_walk a ra cap rcap cs rows f w hT ht (by omega) (by omega) [] (by simp) 1 (-1) (fun _ u hu => ?_) (fun _ u hu => ?_)
        · exact (set_len a ra cs.length rows.length cap rcap f u h3).mono fun ev w' ⟨he, hb⟩ => ⟨none, 0, he, fun q => absurd q (Nat.lt_irrefl _), hb⟩
        · exact (round_len a ra cs.length rows.length cap rcap f u h3).mono fun ev w' ⟨he, hb⟩ => ⟨none, 0, _, he, fun q => absurd q (Nat.lt_irrefl _), fun v hv _ => by rw [errV_1]; exact place_e 1 v hv, hb⟩
      · obtain ⟨e, i, hF⟩ := FirstBad.any (fun j => stepErr cs.length (cs.getD j 0) (rows.getD j []) f) cs.length
        by_cases he : e = 0
        · subst he
          refine around_walk a ra cap rcap cs rows f w hT ht (by omega) (by omega) (setTo cs rows f cs.length) (by rw [setTo_len]; omega) 0 (-1) (fun hall u hu => ?_) (fun hall u hu => ?_)
          · refine (set_any a ra cap rcap cs rows f u (hfine.below hu) (hr.below hu) (ht.below hu) h3 (by omega) (fun r q => Nat.le_trans (hall r q) (by decide)) 0 i (-1) hF rfl).mono ?_
            rintro ev w' ⟨v, rfl, ho, _, hb⟩
            obtain ⟨av, cv, rfl, hI⟩ := owns_int (ho rfl)
            exact ⟨av, cv, rfl, hI, hb⟩
          · refine (round_any a ra cap rcap cs rows f u (hT.below hu) (hr.below hu) (ht.below hu) h3 (by omega) (fun r q => Nat.le_trans (hall r q) (by decide)) 0 i hF).mono ?_
            rintro ev w' ⟨v, E, rfl, hA, ho, _, hb⟩
            obtain ⟨av, cv, rfl, hI⟩ := owns_int (ho rfl)
            exact ⟨av, cv, E, rfl, hI, fun v hv hbv => place_of hA rfl v hv hbv, hb⟩
        · refine around_walk a ra cap rcap cs rows f w hT ht (by omega) (by omega) [] (by simp) e i (fun hall u hu => ?_) (fun hall u hu => ?_)
          · refine (set_any a ra cap rcap cs rows f u (hfine.below hu) (hr.below hu) (ht.below hu) h3 (by omega) (fun r q => Nat.le_trans (hall r q) (by decide)) e i i hF (by rw [if_neg he])).mono ?_
            rintro ev w' ⟨v, rfl, _, ho, hb⟩
            exact ⟨none, 0, by rw [ho he]; rfl, fun q => absurd q (Nat.lt_irrefl _), hb⟩
          · refine (round_any a ra cap rcap cs rows f u (hT.below hu) (hr.below hu) (ht.below hu) h3 (by omega) (fun r q => Nat.le_trans (hall r q) (by decide)) e i hF).mono ?_
            rintro ev w' ⟨v, E, rfl, hA, _, ho, hb⟩
            exact ⟨none, 0, E, by rw [ho he]; rfl, fun q => absurd q (Nat.lt_irrefl _), fun v hv hbv => place_of hA (by rw [if_neg he]) v hv hbv, hb⟩
end Go.Proofs.YtfofaaagenclmabDoor
