/- The program's reader: one number off the front of what is left. -/
import Derived.Test.YtlpojkehbhkdiaaDoorPlanRead
import Derived.Test.YtlpojkehbhkdiaaDoorPlanSteps
namespace Go.Proofs.YtlpojkehbhkdiaaDoor
open Go.RowKit

/-- Bytes in memory, none of them in block R. -/
def ByteRow (w : World) (R : Nat) (a : Option Addr) (r : List Int) : Prop :=
  0 < r.length → ∃ b off, a = some ⟨b, off, none⟩ ∧ b < R ∧ ∀ j (h : j < r.length), w.cell? ⟨b, off + j, none⟩ = some (.int .u8 r[j])
/-- What a reader holds. -/
def RS (w : World) (R : Nat) (st : St) : Prop :=
  (w.frozen? ⟨R, 0, none⟩ = false ∧ w.frozen? ⟨R, 1, none⟩ = false) ∧
  match st with
  | none => w.cell? ⟨R, 0, none⟩ = some (.slice none 0 0) ∧ w.cell? ⟨R, 1, none⟩ = some (.bool true)
  | some r => (∃ a cap, w.cell? ⟨R, 0, none⟩ = some (.slice a r.length cap) ∧ r.length ≤ cap ∧ ByteRow w R a r) ∧ w.cell? ⟨R, 1, none⟩ = some (.bool false) ∧ (∀ x ∈ r, 0 ≤ x ∧ x < 256) ∧ r.length ≤ 2000

theorem but_set (w : World) (R i : Nat) (v : Value) : w.grownBy (w.setCell ⟨R, i, none⟩ v) (some R) :=
  ⟨rfl, rfl, rfl, by simp [World.setCell], fun k _ hk => Below.heap_setCell _ _ _ k (fun e => hk (by rw [e]))⟩
theorem but_trans {a b c : World} {R : Nat} (h : a.grownBy b (some R)) (g : b.grownBy c (some R)) : a.grownBy c (some R) :=
  ⟨g.os.trans h.os, g.tape.trans h.tape, g.output.trans h.output, Nat.le_trans h.size g.size, fun k hk hne => (g.block k (Nat.lt_of_lt_of_le hk h.size) hne).trans (h.block k hk hne)⟩
theorem but_drewN (w : World) (R n : Nat) : w.grownBy (w.drewN n) (some R) := ⟨rfl, rfl, rfl, Nat.le_refl _, fun _ _ _ => rfl⟩
theorem set_cells {w : World} {R : Nat} {x y p q : Value} (c0 : w.cell? ⟨R, 0, none⟩ = some x) (c1 : w.cell? ⟨R, 1, none⟩ = some y) :
    ((w.setCell ⟨R, 0, none⟩ p).setCell ⟨R, 1, none⟩ q).cell? ⟨R, 0, none⟩ = some p ∧ ((w.setCell ⟨R, 0, none⟩ p).setCell ⟨R, 1, none⟩ q).cell? ⟨R, 1, none⟩ = some q := by
  have n1 : (⟨R, 1, none⟩ : Addr) ≠ ⟨R, 0, none⟩ := by intro h; cases h
  have e0 : (w.setCell ⟨R, 0, none⟩ p).cell? ⟨R, 0, none⟩ = some p := World.cell?_setCell_same _ _ _ c0
  have e1 : (w.setCell ⟨R, 0, none⟩ p).cell? ⟨R, 1, none⟩ = some y := (World.cell?_setCell_other _ _ _ _ n1.symm).trans c1
  exact ⟨(World.cell?_setCell_other _ _ _ _ n1).trans e0, World.cell?_setCell_same _ _ _ e1⟩
theorem rs_set {w : World} {R nq : Nat} {a : Option Addr} {cap l : Nat} {r : List Int} {p : Value} (f0 : w.frozen? ⟨R, 0, none⟩ = false) (f1 : w.frozen? ⟨R, 1, none⟩ = false) (c0 : w.cell? ⟨R, 0, none⟩ = some p) (c1 : w.cell? ⟨R, 1, none⟩ = some (.bool false))
    (hrow : ByteRow w R a r) (hl : r.length = l) (hcap : l ≤ cap) (hbyte : ∀ x ∈ r, 0 ≤ x ∧ x < 256) (hlen : l ≤ 2000) :
    RS ((w.drewN nq).setCell ⟨R, 0, none⟩ (.slice a l cap)) R (some r) ∧ w.grownBy ((w.drewN nq).setCell ⟨R, 0, none⟩ (.slice a l cap)) (some R) := by
  have hg : w.grownBy ((w.drewN nq).setCell ⟨R, 0, none⟩ (.slice a l cap)) (some R) := but_trans (but_drewN w R nq) (but_set _ _ _ _)
  have n1 : (⟨R, 0, none⟩ : Addr) ≠ ⟨R, 1, none⟩ := by intro h; cases h
  subst hl
  refine ⟨⟨⟨?_, ?_⟩, ⟨a, cap, World.cell?_setCell_same (w.drewN nq) _ _ c0, hcap, ?_⟩, (World.cell?_setCell_other (w.drewN nq) _ _ _ n1).trans c1, hbyte, hlen⟩, hg⟩
  · simp [f0]
  · simp [f1]
  · intro h0
    obtain ⟨b, off, ha, hb, hc⟩ := hrow h0
    exact ⟨b, off, ha, hb, fun j h => grown_cell hg (hc j h) (by simp; omega)⟩

set_option maxHeartbeats 1000000 in
theorem spoil_any (R : Nat) (p q : Value) (w : World) (f0 : w.frozen? ⟨R, 0, none⟩ = false) (f1 : w.frozen? ⟨R, 1, none⟩ = false) (c0 : w.cell? ⟨R, 0, none⟩ = some p) (c1 : w.cell? ⟨R, 1, none⟩ = some q) :
    Calls Tryd.prog 44 #[.pointer (some ⟨R, 0, none⟩)] w fun ev w' => ev = .returned (.tuple #[]) ∧ RS w' R none ∧ w.grownBy w' (some R) := by
  go_enter Tryd.func44, Tryd.ntmps44
  go_wp2
  refine bodyPost_end (results_none rfl _ _ _) rfl ⟨rfl, ⟨⟨?_, ?_⟩, ?_⟩, ?_⟩
  · simp [f0]
  · simp [f1]
  · exact set_cells c0 c1
  · exact but_trans (but_set _ _ _ _) (but_set _ _ _ _)
/-- number, where something is left. -/
theorem pow128 (k : Nat) (h : k < 6) : 1 ≤ (128 : Int) ^ k ∧ (128 : Int) ^ k ≤ 34359738368 := by
  have : k = 0 ∨ k = 1 ∨ k = 2 ∨ k = 3 ∨ k = 4 ∨ k = 5 := by omega
  rcases this with rfl | rfl | rfl | rfl | rfl | rfl <;> decide
theorem pow_mul128 (k : Nat) : (2 : Int) ^ (7 * k) = 128 ^ k := by rw [Int.pow_mul]; rfl

set_option maxHeartbeats 4000000 in
theorem number_some (R : Nat) (r : List Int) (b off cap : Nat) (w : World) (f0 : w.frozen? ⟨R, 0, none⟩ = false) (f1 : w.frozen? ⟨R, 1, none⟩ = false) (c0 : w.cell? ⟨R, 0, none⟩ = some (.slice (some ⟨b, off, none⟩) r.length cap)) (c1 : w.cell? ⟨R, 1, none⟩ = some (.bool false))
    (hb : b < R) (hr : ∀ j (h : j < r.length), w.cell? ⟨b, off + j, none⟩ = some (.int .u8 r[j])) (h0 : 0 < r.length) (hcap : r.length ≤ cap) (hbyte : ∀ x ∈ r, 0 ≤ x ∧ x < 256) (hlen : r.length ≤ 2000) :
    Calls Tryd.prog 35 #[.pointer (some ⟨R, 0, none⟩)] w fun ev w' => ev = .returned (.int .i64 (nx (some r)).1) ∧ RS w' R (nx (some r)).2 ∧ w.grownBy w' (some R) := by
  obtain ⟨n, hn⟩ : ∃ n, r.length = n := ⟨_, rfl⟩
  have HN : Hid (r.length = n) := hn
  rw [hn] at c0 hcap hlen h0
  have HR : Hid (∀ j (h : j < r.length), w.cell? ⟨b, off + j, none⟩ = some (.int .u8 r[j])) := hr
  have HBY : Hid (∀ x ∈ r, 0 ≤ x ∧ x < 256) := hbyte
  clear hn hr hbyte
  go_enter Tryd.func35, Tryd.ntmps35
  by_cases h6 : (n : Int) ≤ 6
  · have k1 : (n : Int) ≤ (cap : Int) := by omega
    go_wp2
    go_quiet (fail)
    go_wp2_with fail
    go_loopw [3, 18] (fun nv t wr => ∃ (k : Nat) (acc : Int), k ≤ n ∧ t = .int .i64 k ∧ nv = .int .i64 acc ∧ 0 ≤ acc ∧ Hid (acc < 128 ^ k) ∧ Hid (rd r = rd1 (6 - k) k acc (r.drop k)) ∧ wr = w.drewN nq) (fun _ t _ => n - (intOf t).toNat)
    case atStart => exact ⟨0, 0, Nat.zero_le _, rfl, rfl, Int.le_refl _, (by show (0 : Int) < 128 ^ 0; decide), rfl, rfl⟩
    case round =>
      obtain ⟨k, acc, hk, rfl, rfl, ha0, ha1, hrd, rfl⟩ := hrel
      by_cases hlt : k < n
      · have hkn : k < n := by omega
        have hk6 : k < 6 := by omega
        have hkr : k < r.length := by rw [HN.out]; exact hkn
        obtain ⟨x, hx⟩ : ∃ x, r[k] = x := ⟨_, rfl⟩
        have y0 := HR.out k hkr
        rw [hx] at y0
        have hxb := HBY.out x (by rw [← hx]; exact List.getElem_mem hkr)
        have hx0 := hxb.1
        have hx1 := hxb.2
        have hdrop : r.drop k = x :: r.drop (k + 1) := by rw [← hx]; exact List.drop_eq_getElem_cons hkr
        obtain ⟨y, hy⟩ : ∃ y, x % 128 * 128 ^ k = y := ⟨_, rfl⟩
        have hp := pow128 k hk6
        have hy0 : 0 ≤ y := by rw [← hy]; exact Int.mul_nonneg (by omega) (by omega)
        have hy1 : y ≤ 127 * 128 ^ k := by rw [← hy]; exact Int.mul_le_mul_of_nonneg_right (by omega) (by omega)
        have ha2 := ha1.out
        have ha3 : acc + y < 128 ^ (k + 1) := by rw [Int.pow_succ]; omega
        have hy2 : y ≤ 4398046511104 := by omega
        have ha4 : acc ≤ 34359738368 := by omega
        have hsh : x % 128 * 2 ^ (7 * k) = y := by rw [← hy, pow_mul128]
        have HA : Hid (acc + y < 128 ^ (k + 1)) := ha3
        have HRD : Hid (rd r = if 128 ≤ x then rd1 (6 - (k + 1)) (k + 1) (acc + y) (r.drop (k + 1)) else if 1099511627776 < acc + y ∨ (x = 0 ∧ 0 < k) then none else some (acc + y, r.drop (k + 1))) := by
          show _ = _
          rw [hrd.out, hdrop, show 6 - k = (6 - (k + 1)) + 1 by omega]
          simp only [rd1]
          rw [hy]
        clear hxb hdrop hy hp hy1 ha1 ha2 ha3 hrd hx
        by_cases g1 : 128 ≤ x
        · have HRD2 : Hid (rd r = rd1 (6 - (k + 1)) (k + 1) (acc + y) (r.drop (k + 1))) := by
            show _ = _
            rw [HRD.out, if_pos g1]
          go_wp2
          go_roundw
          case rel => exact ⟨k + 1, acc + y, by omega, by go_num, rfl, by omega, HA, HRD2, trivial⟩
          case measure => simp [intOf]; omega
        · have g1' : decide (128 ≤ x) = false := decide_eq_false g1
          have HRD2 : Hid (rd r = if 1099511627776 < acc + y ∨ (x = 0 ∧ 0 < k) then none else some (acc + y, r.drop (k + 1))) := by
            show _ = _
            rw [HRD.out, if_neg g1]
          clear HRD
          by_cases g2 : 1099511627776 < acc + y
          · have HNX : Hid (nx (some r) = (0, none)) := nx_bad (by rw [HRD2.out, if_pos (.inl g2)])
            go_wp2_with fail
            refine (spoil_any R _ _ (w.drewN nq) f0 f1 c0 c1).mono ?_
            rintro ev w3 ⟨rfl, hr3, hg3⟩
            go_wp2
            go_ret
            rw [HNX.out]
            exact ⟨rfl, hr3, but_trans (but_drewN w R _) hg3⟩
          · have g2' : decide (1099511627776 < acc + y) = false := decide_eq_false g2
            by_cases g3 : x = 0
            · subst g3
              obtain rfl : y = 0 := by rw [← hsh]; simp
              by_cases g4 : 0 < k
              · have HNX : Hid (nx (some r) = (0, none)) := nx_bad (by rw [HRD2.out, if_pos (.inr ⟨rfl, g4⟩)])
                have g4' : (0 : Int) < (k : Int) := by omega
                go_wp2_with fail
                refine (spoil_any R _ _ (w.drewN nq) f0 f1 c0 c1).mono ?_
                rintro ev w3 ⟨rfl, hr3, hg3⟩
                go_wp2
                go_ret
                rw [HNX.out]
                exact ⟨rfl, hr3, but_trans (but_drewN w R _) hg3⟩
              · have HNX : Hid (nx (some r) = (acc, some (r.drop (k + 1)))) := nx_some (by rw [HRD2.out, if_neg (by rintro (h | ⟨_, h⟩); omega; omega), Int.add_zero])
                have g4' : decide ((0 : Int) < (k : Int)) = false := decide_eq_false (by omega)
                go_wp2
                all_goals go_ret
                · rw [HNX.out]
                  exact ⟨rfl, rs_set f0 f1 c0 c1 (fun h => absurd h (by simp [HN.out]; omega)) (by simp [HN.out]) (by omega) (fun z hz => HBY.out z (List.mem_of_mem_drop hz)) (by omega)⟩
                · rw [HNX.out]
                  exact ⟨rfl, rs_set f0 f1 c0 c1 (fun _ => ⟨b, off + (k + 1), rfl, hb, fun j h => by
                    have h' : k + 1 + j < r.length := by simp at h; omega
                    have e := HR.out (k + 1 + j) h'
                    rw [List.getElem_drop, Nat.add_assoc]; exact e⟩) (by simp [HN.out]) (by omega) (fun z hz => HBY.out z (List.mem_of_mem_drop hz)) (by omega)⟩
            · have g3' : (x == 0) = false := by simpa using g3
              have HNX : Hid (nx (some r) = (acc + y, some (r.drop (k + 1)))) := nx_some (by rw [HRD2.out, if_neg (by rintro (h | ⟨h, _⟩); omega; exact g3 h)])
              go_wp2
              all_goals go_ret
              · rw [HNX.out]
                exact ⟨rfl, rs_set f0 f1 c0 c1 (fun h => absurd h (by simp [HN.out]; omega)) (by simp [HN.out]) (by omega) (fun z hz => HBY.out z (List.mem_of_mem_drop hz)) (by omega)⟩
              · rw [HNX.out]
                exact ⟨rfl, rs_set f0 f1 c0 c1 (fun _ => ⟨b, off + (k + 1), rfl, hb, fun j h => by
                  have h' : k + 1 + j < r.length := by simp at h; omega
                  have e := HR.out (k + 1 + j) h'
                  rw [List.getElem_drop, Nat.add_assoc]; exact e⟩) (by simp [HN.out]) (by omega) (fun z hz => HBY.out z (List.mem_of_mem_drop hz)) (by omega)⟩
      · have hkM : k = n := by omega
        have HNX : Hid (nx (some r) = (0, none)) := nx_bad (by
          rw [hrd.out]
          rw [List.drop_eq_nil_of_le (by rw [HN.out]; omega)]
          rcases (show 6 - k = 0 ∨ ∃ c, 6 - k = c + 1 from (by rcases Nat.eq_zero_or_pos (6 - k) with h | h; exact .inl h; exact .inr ⟨6 - k - 1, by omega⟩)) with h | ⟨c, h⟩
          · rw [h]; rfl
          · rw [h]; rfl)
        go_wp2_with fail
        refine (spoil_any R _ _ (w.drewN nq) f0 f1 c0 c1).mono ?_
        rintro ev w3 ⟨rfl, hr3, hg3⟩
        go_wp2
        go_ret
        rw [HNX.out]
        exact ⟨rfl, hr3, but_trans (but_drewN w R _) hg3⟩
  · have h6' : (6 : Int) < (n : Int) := by omega
    have k1 : (6 : Int) ≤ (cap : Int) := by omega
    go_wp2
    go_quiet (fail)
    go_wp2_with fail
    go_loopw [3, 18] (fun nv t wr => ∃ (k : Nat) (acc : Int), k ≤ 6 ∧ t = .int .i64 k ∧ nv = .int .i64 acc ∧ 0 ≤ acc ∧ Hid (acc < 128 ^ k) ∧ Hid (rd r = rd1 (6 - k) k acc (r.drop k)) ∧ wr = w.drewN nq) (fun _ t _ => 6 - (intOf t).toNat)
    case atStart => exact ⟨0, 0, Nat.zero_le _, rfl, rfl, Int.le_refl _, (by show (0 : Int) < 128 ^ 0; decide), rfl, rfl⟩
    case round =>
      obtain ⟨k, acc, hk, rfl, rfl, ha0, ha1, hrd, rfl⟩ := hrel
      by_cases hlt : k < 6
      · have hkn : k < n := by omega
        have hk6 : k < 6 := by omega
        have hkr : k < r.length := by rw [HN.out]; exact hkn
        obtain ⟨x, hx⟩ : ∃ x, r[k] = x := ⟨_, rfl⟩
        have y0 := HR.out k hkr
        rw [hx] at y0
        have hxb := HBY.out x (by rw [← hx]; exact List.getElem_mem hkr)
        have hx0 := hxb.1
        have hx1 := hxb.2
        have hdrop : r.drop k = x :: r.drop (k + 1) := by rw [← hx]; exact List.drop_eq_getElem_cons hkr
        obtain ⟨y, hy⟩ : ∃ y, x % 128 * 128 ^ k = y := ⟨_, rfl⟩
        have hp := pow128 k hk6
        have hy0 : 0 ≤ y := by rw [← hy]; exact Int.mul_nonneg (by omega) (by omega)
        have hy1 : y ≤ 127 * 128 ^ k := by rw [← hy]; exact Int.mul_le_mul_of_nonneg_right (by omega) (by omega)
        have ha2 := ha1.out
        have ha3 : acc + y < 128 ^ (k + 1) := by rw [Int.pow_succ]; omega
        have hy2 : y ≤ 4398046511104 := by omega
        have ha4 : acc ≤ 34359738368 := by omega
        have hsh : x % 128 * 2 ^ (7 * k) = y := by rw [← hy, pow_mul128]
        have HA : Hid (acc + y < 128 ^ (k + 1)) := ha3
        have HRD : Hid (rd r = if 128 ≤ x then rd1 (6 - (k + 1)) (k + 1) (acc + y) (r.drop (k + 1)) else if 1099511627776 < acc + y ∨ (x = 0 ∧ 0 < k) then none else some (acc + y, r.drop (k + 1))) := by
          show _ = _
          rw [hrd.out, hdrop, show 6 - k = (6 - (k + 1)) + 1 by omega]
          simp only [rd1]
          rw [hy]
        clear hxb hdrop hy hp hy1 ha1 ha2 ha3 hrd hx
        by_cases g1 : 128 ≤ x
        · have HRD2 : Hid (rd r = rd1 (6 - (k + 1)) (k + 1) (acc + y) (r.drop (k + 1))) := by
            show _ = _
            rw [HRD.out, if_pos g1]
          go_wp2
          go_roundw
          case rel => exact ⟨k + 1, acc + y, by omega, by go_num, rfl, by omega, HA, HRD2, trivial⟩
          case measure => simp [intOf]; omega
        · have g1' : decide (128 ≤ x) = false := decide_eq_false g1
          have HRD2 : Hid (rd r = if 1099511627776 < acc + y ∨ (x = 0 ∧ 0 < k) then none else some (acc + y, r.drop (k + 1))) := by
            show _ = _
            rw [HRD.out, if_neg g1]
          clear HRD
          by_cases g2 : 1099511627776 < acc + y
          · have HNX : Hid (nx (some r) = (0, none)) := nx_bad (by rw [HRD2.out, if_pos (.inl g2)])
            go_wp2_with fail
            refine (spoil_any R _ _ (w.drewN nq) f0 f1 c0 c1).mono ?_
            rintro ev w3 ⟨rfl, hr3, hg3⟩
            go_wp2
            go_ret
            rw [HNX.out]
            exact ⟨rfl, hr3, but_trans (but_drewN w R _) hg3⟩
          · have g2' : decide (1099511627776 < acc + y) = false := decide_eq_false g2
            by_cases g3 : x = 0
            · subst g3
              obtain rfl : y = 0 := by rw [← hsh]; simp
              by_cases g4 : 0 < k
              · have HNX : Hid (nx (some r) = (0, none)) := nx_bad (by rw [HRD2.out, if_pos (.inr ⟨rfl, g4⟩)])
                have g4' : (0 : Int) < (k : Int) := by omega
                go_wp2_with fail
                refine (spoil_any R _ _ (w.drewN nq) f0 f1 c0 c1).mono ?_
                rintro ev w3 ⟨rfl, hr3, hg3⟩
                go_wp2
                go_ret
                rw [HNX.out]
                exact ⟨rfl, hr3, but_trans (but_drewN w R _) hg3⟩
              · have HNX : Hid (nx (some r) = (acc, some (r.drop (k + 1)))) := nx_some (by rw [HRD2.out, if_neg (by rintro (h | ⟨_, h⟩); omega; omega), Int.add_zero])
                have g4' : decide ((0 : Int) < (k : Int)) = false := decide_eq_false (by omega)
                go_wp2
                all_goals go_ret
                · rw [HNX.out]
                  exact ⟨rfl, rs_set f0 f1 c0 c1 (fun _ => ⟨b, off + (k + 1), rfl, hb, fun j h => by
                    have h' : k + 1 + j < r.length := by simp at h; omega
                    have e := HR.out (k + 1 + j) h'
                    rw [List.getElem_drop, Nat.add_assoc]; exact e⟩) (by simp [HN.out]) (by omega) (fun z hz => HBY.out z (List.mem_of_mem_drop hz)) (by omega)⟩
            · have g3' : (x == 0) = false := by simpa using g3
              have HNX : Hid (nx (some r) = (acc + y, some (r.drop (k + 1)))) := nx_some (by rw [HRD2.out, if_neg (by rintro (h | ⟨h, _⟩); omega; exact g3 h)])
              go_wp2
              all_goals go_ret
              · rw [HNX.out]
                exact ⟨rfl, rs_set f0 f1 c0 c1 (fun _ => ⟨b, off + (k + 1), rfl, hb, fun j h => by
                  have h' : k + 1 + j < r.length := by simp at h; omega
                  have e := HR.out (k + 1 + j) h'
                  rw [List.getElem_drop, Nat.add_assoc]; exact e⟩) (by simp [HN.out]) (by omega) (fun z hz => HBY.out z (List.mem_of_mem_drop hz)) (by omega)⟩
      · have hkM : k = 6 := by omega
        have HNX : Hid (nx (some r) = (0, none)) := nx_bad (by
          rw [hrd.out]
          rw [hkM]; rfl)
        go_wp2_with fail
        refine (spoil_any R _ _ (w.drewN nq) f0 f1 c0 c1).mono ?_
        rintro ev w3 ⟨rfl, hr3, hg3⟩
        go_wp2
        go_ret
        rw [HNX.out]
        exact ⟨rfl, hr3, but_trans (but_drewN w R _) hg3⟩

set_option maxHeartbeats 1000000 in
theorem number_empty (R : Nat) (a : Option Addr) (cap : Nat) (q : Bool) (w : World) (f0 : w.frozen? ⟨R, 0, none⟩ = false) (f1 : w.frozen? ⟨R, 1, none⟩ = false) (c0 : w.cell? ⟨R, 0, none⟩ = some (.slice a 0 cap)) (c1 : w.cell? ⟨R, 1, none⟩ = some (.bool q)) :
    Calls Tryd.prog 35 #[.pointer (some ⟨R, 0, none⟩)] w fun ev w' => ev = .returned (.int .i64 0) ∧ RS w' R none ∧ w.grownBy w' (some R) := by
  go_enter Tryd.func35, Tryd.ntmps35
  cases a with
  | none =>
    go_wp2
    go_quiet (fail)
    go_wp2_with fail
    refine wp_loop_rounds 1 ?_
    rw [rounds_succ]
    go_wp2_with fail
    refine (spoil_any R _ _ (w.drewN nq) f0 f1 c0 c1).mono ?_
    rintro ev w3 ⟨rfl, hr3, hg3⟩
    go_wp2
    go_ret
    exact ⟨rfl, hr3, but_trans (but_drewN w R _) hg3⟩
  | some ad =>
    go_wp2
    go_quiet (fail)
    go_wp2_with fail
    refine wp_loop_rounds 1 ?_
    rw [rounds_succ]
    go_wp2_with fail
    refine (spoil_any R _ _ (w.drewN nq) f0 f1 c0 c1).mono ?_
    rintro ev w3 ⟨rfl, hr3, hg3⟩
    go_wp2
    go_ret
    exact ⟨rfl, hr3, but_trans (but_drewN w R _) hg3⟩

/-- number, whatever the state. -/
theorem number_st (R : Nat) (st : St) (w : World) (h : RS w R st) :
    Calls Tryd.prog 35 #[.pointer (some ⟨R, 0, none⟩)] w fun ev w' => ev = .returned (.int .i64 (nx st).1) ∧ RS w' R (nx st).2 ∧ w.grownBy w' (some R) := by
  obtain ⟨⟨f0, f1⟩, h⟩ := h
  cases st with
  | none =>
    obtain ⟨c0, c1⟩ := h
    exact number_empty R none 0 true w f0 f1 c0 c1
  | some r =>
    obtain ⟨⟨a, cap, c0, hcap, hrow⟩, c1, hby, hlen⟩ := h
    rcases Nat.eq_zero_or_pos r.length with h0 | h0
    · obtain rfl : r = [] := List.length_eq_zero_iff.1 h0
      exact number_empty R a cap false w f0 f1 c0 c1
    · obtain ⟨b, off, rfl, hb, hc⟩ := hrow h0
      exact number_some R r b off cap w f0 f1 c0 c1 hb hc h0 hcap hby hlen
end Go.Proofs.YtlpojkehbhkdiaaDoor
