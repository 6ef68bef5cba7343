/- The statements' fact 'played', over the contracts of a cluster (ahead of stage 9). -/
import Derived.Test.YtdmokcnoljlogaaGreatDoorWordsB
import Derived.RegionTactic
namespace Go.Proofs.YtdmokcnoljlogaaGreatDoor
open Go.RowKit

/-- The plan of the fact: two nodes, one slot, one link. -/
def playedP : PlanN := ⟨2, 0, 10, 0, 0, 100, 1, 1, 1, 0, fun _ => 0, fun _ => 5, fun _ => 9, fun _ => 0, fun _ => 2, fun _ => 1, fun _ => 1, fun _ => 0, fun _ => 0, fun _ => 0⟩
def playedX : ByteArray := ⟨#[120]⟩
theorem playedP_is {E I : Int} (h : playedP.Is E I) : E = 0 := by
  unfold PlanN.Is CheckIs at h
  rcases h with ⟨h1, _⟩ | ⟨_, e1, i1, e2, i2, e3, i3, F1, F2, F3, R⟩
  · exact absurd (by decide) h1
  · obtain ⟨rfl, rfl⟩ := F1.at_end (fun j hj => by
      have : j = 0 := by have : playedP.ns = 1 := rfl; omega
      subst this
      decide)
    obtain ⟨rfl, rfl⟩ := F2.at_end (fun j hj => by
      have : j = 0 := by have : playedP.nl = 1 := rfl; omega
      subst this
      decide)
    obtain ⟨rfl, rfl⟩ := F3.at_end (fun j hj => absurd hj (Nat.not_lt_zero _))
    exact (R.fine rfl rfl rfl).1
theorem playedP_ok : playedP.Is 0 (-1) :=
  .inr ⟨by decide, 0, 0, 0, 0, 0, 0, .inl ⟨fun j hj => by
    have : j = 0 := by have : playedP.ns = 1 := rfl; omega
    subst this
    decide, rfl, rfl⟩, .inl ⟨fun j hj => by
    have : j = 0 := by have : playedP.nl = 1 := rfl; omega
    subst this
    decide, rfl, rfl⟩, .inl ⟨fun j hj => absurd hj (Nat.not_lt_zero _), rfl, rfl⟩, fun h => absurd rfl h, fun _ h => absurd rfl h, fun _ _ h => absurd rfl h, fun _ _ _ => ⟨rfl, rfl⟩⟩
theorem played_new {K I : Int} (h : NewIs playedP 0 [0, 8] K I) : K = 0 := by
  rcases h with ⟨E, h1, h2, _⟩ | ⟨_, _, h⟩
  · exact absurd (playedP_is h1) h2
  · rcases h with ⟨h1, _⟩ | ⟨_, h⟩
    · exact absurd (by decide) h1
    · rcases h with ⟨h1, _⟩ | ⟨_, h⟩
      · exact absurd (by decide) h1
      · rcases h with ⟨h1, _⟩ | ⟨_, h⟩
        · exact absurd (by decide) h1
        · exact h
theorem srt_two (a b : Int) (h : a ≤ b) : srt [a, b] = [a, b] :=
  List.Perm.eq_of_pairwise (le := fun a b => a ≤ b) (fun a b _ _ h1 h2 => Int.le_antisymm h1 h2) (srt_pair _) (by simpa using h) (srt_perm _)
theorem played_clock (i : Nat) (hi : i < 2) : clocksTo 2 0 (bitI 0) 0 0 (fun i => [0, 8].getD i 0) [] [] i = 4 := by
  have : i = 0 ∨ i = 1 := by omega
  rcases this with rfl | rfl
  · show 0 + midOf [0, 8] 0 + 0 = 4
    unfold midOf rank
    rw [srt_two 0 8 (by decide)]
    decide
  · show 8 + midOf [-8, 0] 0 + 0 = 4
    unfold midOf rank
    rw [srt_two (-8) 0 (by decide)]
    decide
theorem played_to : cluTo playedP 0 [0, 8] RoundN.none = [4, 4] := by
  show (List.range 2).map (clocksTo 2 0 (bitI 0) 0 0 (fun i => [0, 8].getD i 0) [] []) = [4, 4]
  rw [show List.range 2 = [0, 1] from rfl, List.map_cons, List.map_cons, List.map_nil, played_clock 0 (by decide), played_clock 1 (by decide)]
theorem played_far : cluFar playedP 0 [0, 8] RoundN.none = false := by
  show (List.range 2).any (fun i => decide (clocksTo 2 0 (bitI 0) 0 0 (fun i => [0, 8].getD i 0) [] [] i < -274877906944 ∨ 274877906944 < clocksTo 2 0 (bitI 0) 0 0 (fun i => [0, 8].getD i 0) [] [] i)) = false
  rw [show List.range 2 = [0, 1] from rfl, List.any_cons, List.any_cons, List.any_nil, played_clock 0 (by decide), played_clock 1 (by decide)]
  decide
theorem played_put : ClS.start.putK playedP 0 playedX = 0 := by decide
theorem played_port : (cluOn playedP 0 (ClS.start.put playedP 0 playedX) 0 RoundN.none).ports 0 1 = [playedX] := by rfl
theorem played_spread : spreadL (rightOf 0 [4, 4]) = 0 := by decide

set_option maxRecDepth 100000 in
set_option maxHeartbeats 4000000 in
theorem played_any {Clu : World → List Nat → Nat → PlanN → Int → List Int → ClS → Int → Nat → Prop} (ops : CluOps Clu) (w : World) : Calls Tryz.prog 6 #[] w fun e w' => e = .returned (.bool true) ∧ Below w.heap.size w w' := by
  obtain ⟨V, hV⟩ : ∃ V, ((w.alloc (.cells #[.int .i64 0, .int .i64 5, .int .i64 9] 61)).alloc (.cells #[.int .i64 0, .int .i64 2, .int .i64 1, .int .i64 1] 54)).alloc (.cells #[.int .i64 0, .int .i64 8] 3) = V := ⟨_, rfl⟩
  have e1 : (w.alloc (.cells #[.int .i64 0, .int .i64 5, .int .i64 9] 61)).heap.size = w.heap.size + 1 := by simp
  have e2 : ((w.alloc (.cells #[.int .i64 0, .int .i64 5, .int .i64 9] 61)).alloc (.cells #[.int .i64 0, .int .i64 2, .int .i64 1, .int .i64 1] 54)).heap.size = w.heap.size + 1 + 1 := by simp
  have hB : Below w.heap.size w V := by
    rw [← hV]
    exact (((Below.refl _ _).alloc (Nat.le_refl _) _).alloc (by rw [e1]; omega) _).alloc (by rw [e2]; omega) _
  have hS : V.heap.size = w.heap.size + 1 + 1 + 1 := by rw [← hV]; simp
  have hIn : playedP.In ⟨some ⟨w.heap.size, 0, none⟩, 1, some ⟨w.heap.size + 1, 0, none⟩, 1, none, 0⟩ V := by
    refine ⟨fun _ => ⟨w.heap.size, 0, rfl, by omega, fun j hj => ?_⟩, fun _ => ⟨w.heap.size + 1, 0, rfl, by omega, fun j hj => ?_⟩, fun h => absurd h (Nat.lt_irrefl _), fun k _ => (by show (-9223372036854775808 : Int) ≤ 2 ∧ (2 : Int) ≤ 9223372036854775807; decide), by decide, by decide, by decide⟩
    · have : j = 0 := by have : playedP.ns = 1 := rfl; omega
      subst this
      have h2 : ∀ i u, (w.alloc (.cells #[.int .i64 0, .int .i64 5, .int .i64 9] 61)).cell? ⟨w.heap.size, i, none⟩ = some u → V.cell? ⟨w.heap.size, i, none⟩ = some u := fun i u h => by
        rw [← hV, World.cell?_alloc_lt _ _ _ (show w.heap.size < _ by rw [e2]; omega), World.cell?_alloc_lt _ _ _ (show w.heap.size < _ by rw [e1]; omega)]
        exact h
      refine ⟨h2 _ _ ?_, h2 _ _ ?_, h2 _ _ ?_⟩ <;> simp [playedP]
    · have : j = 0 := by have : playedP.nl = 1 := rfl; omega
      subst this
      have h2 : ∀ i u, ((w.alloc (.cells #[.int .i64 0, .int .i64 5, .int .i64 9] 61)).alloc (.cells #[.int .i64 0, .int .i64 2, .int .i64 1, .int .i64 1] 54)).cell? ⟨w.heap.size + 1, i, none⟩ = some u → V.cell? ⟨w.heap.size + 1, i, none⟩ = some u := fun i u h => by
        rw [← hV, World.cell?_alloc_lt _ _ _ (show w.heap.size + 1 < _ by rw [e2]; omega)]
        exact h
      refine ⟨h2 _ _ ?_, h2 _ _ ?_, h2 _ _ ?_, h2 _ _ ?_⟩ <;> (rw [← e1]; simp [playedP])
  have hC : IntRow V (some ⟨w.heap.size + 1 + 1, 0, none⟩) [0, 8] := fun _ => ⟨w.heap.size + 1 + 1, 0, rfl, by omega, fun j hj => by
    have : j = 0 ∨ j = 1 := by have : j < 2 := hj; omega
    have h3 : ∀ W2 : World, (W2.alloc (.cells #[.int .i64 0, .int .i64 8] 3)).cell? ⟨W2.heap.size, 0, none⟩ = some (.int .i64 0) ∧ (W2.alloc (.cells #[.int .i64 0, .int .i64 8] 3)).cell? ⟨W2.heap.size, 1, none⟩ = some (.int .i64 8) := fun W2 => ⟨by simp, by simp⟩
    have h4 := h3 ((w.alloc (.cells #[.int .i64 0, .int .i64 5, .int .i64 9] 61)).alloc (.cells #[.int .i64 0, .int .i64 2, .int .i64 1, .int .i64 1] 54))
    rw [e2, hV] at h4
    rcases this with rfl | rfl
    · exact h4.1
    · exact h4.2⟩
  have hN := ops.new playedP _ 0 _ 2 [0, 8] V hIn hC (by decide) (by decide) (by decide)
  have HB : Hid (Below w.heap.size w V) := hB
  have HOp : Hid (CluOps Clu) := ops
  clear hIn hC hB hS e1 e2 ops
  go_enter Tryz.func6, Tryz.ntmps6
  go_wp2_with fail
  refine hN.mono ?_
  rintro e w1 ⟨hb1, K, I, hK, hr⟩
  obtain rfl := played_new hK
  have HB1 : Hid (Below w.heap.size w w1) := HB.out.trans (hb1.mono HB.out.size)
  have hVl : w.heap.size ≤ V.heap.size := HB.out.size
  clear hN HB hK hV
  rcases hr with ⟨q, _⟩ | ⟨_, O, C, rfl, hCl, hO⟩
  · exact absurd rfl q
  have HO : Hid (∀ c, c ∈ O → w.heap.size ≤ c) := fun c hc => Nat.le_trans hVl (hO c hc)
  have hP := HOp.out.put 0 playedX hCl (by decide) (by decide)
  rw [played_put] at hP
  clear hCl hO hb1 hVl
  rw [errV_0] at hP
  have hPe : (playedX : ByteArray) = ⟨#[120]⟩ := rfl
  rw [hPe] at hP
  go_wp2_with fail
  refine hP.mono ?_
  rintro e w2 ⟨rfl, O2, hf2, hC2⟩
  rw [← hPe] at hC2
  have HB2 : Hid (Below w.heap.size w w2) := HB1.out.trans (hf2.below HO.out HB1.out.size)
  have HO2 : Hid (∀ c, c ∈ O2 → w.heap.size ≤ c) := hf2.above HO.out HB1.out.size
  have hPl := HOp.out.play RoundN.none ⟨none, 0, none, 0, none, 0, none, 0⟩ hC2 (by decide) ⟨fun h => absurd h (Nat.lt_irrefl _), fun h => absurd h (Nat.lt_irrefl _), fun h => absurd h (Nat.lt_irrefl _), fun h => absurd h (Nat.lt_irrefl _), fun x hx => absurd hx (Nat.not_lt_zero _), by decide, by decide, by decide, by decide⟩ (fun _ _ _ h => absurd h (Nat.lt_irrefl _))
  rw [played_far, played_to] at hPl
  clear hP hf2 hC2 HB1 HO
  go_wp2_with fail
  refine hPl.mono ?_
  rintro e w3 ⟨O3, hf3, ⟨q, _⟩ | ⟨_, rfl, hC3⟩⟩
  · cases q
  have HB3 : Hid (Below w.heap.size w w3) := HB2.out.trans (hf3.below HO2.out HB2.out.size)
  have HO3 : Hid (∀ c, c ∈ O3 → w.heap.size ≤ c) := hf3.above HO2.out HB2.out.size
  have hR := HOp.out.recv 1 0 hC3 (by decide) (by decide) (by decide)
  rw [played_port] at hR
  have hR1 : recvD [playedX] = ⟨#[120]⟩ := rfl
  have hR2 : errV (recvK [playedX]) = .nilIface := rfl
  rw [hR1, hR2] at hR
  clear hPl hf3 hC3 HB2 HO2 hR1 hR2
  rw [errV_0]
  go_wp2_with fail
  refine hR.mono ?_
  rintro e w4 ⟨rfl, O4, hf4, hC4⟩
  have HB4 : Hid (Below w.heap.size w w4) := HB3.out.trans (hf4.below HO3.out HB3.out.size)
  have hS := HOp.out.spread hC4
  rw [played_spread] at hS
  have HC4 : Hid _ := hC4
  clear hR hf4 HB3 HO3 hC4
  go_wp2_with fail
  refine hS.mono ?_
  rintro e w5 ⟨rfl, hb5⟩
  have HB5 : Hid (Below w.heap.size w w5) := HB4.out.trans (hb5.mono HB4.out.size)
  have hRd := HOp.out.rounds (HOp.out.keep HC4.out (Same.of_below hb5 (HOp.out.lt HC4.out)))
  have h01 : (0 : Int) + 1 = 1 := rfl
  rw [h01] at hRd
  clear hS hb5 HB4 HC4 h01
  go_wp2_with fail
  refine hRd.mono ?_
  rintro e w6 ⟨rfl, hb6⟩
  have HB6 : Hid (Below w.heap.size w w6) := HB5.out.trans (hb6.mono HB5.out.size)
  clear hRd hb6 HB5
  go_wp2
  go_ret
  exact ⟨rfl, HB6.out⟩
end Go.Proofs.YtdmokcnoljlogaaGreatDoor
