/- The document's answer's Decode (more than 2000 bytes). (Made by tools/gen_refdecode4.py B.) -/
import Derived.Test.YtlpojkehbhkdiaaDoorRefLoop1
import Derived.Test.YtlpojkehbhkdiaaDoorRefLoop2
import Derived.Test.YtlpojkehbhkdiaaDoorRefLoop3
import Derived.Test.YtlpojkehbhkdiaaDoorRefTail
namespace Go.Proofs.YtlpojkehbhkdiaaDoor
open Go.RowKit

set_option maxRecDepth 100000 in
set_option maxHeartbeats 8000000 in
theorem refDecode_B (a : Option Addr) (cap : Nat) (bs : List Int) (w : World) (hrow : 0 < bs.length → ∃ b off, a = some ⟨b, off, none⟩ ∧ b < w.heap.size ∧ ∀ j (h : j < bs.length), w.cell? ⟨b, off + j, none⟩ = some (.int .u8 bs[j])) (hby : ∀ x ∈ bs, 0 ≤ x ∧ x < 256) (hcap : bs.length ≤ cap) (hlen : bs.length ≤ 3000) (G : Ending → World → Prop) (hno : ¬ ∃ m r, stAt (some bs) m = some r ∧ r ≠ [] ∧ rd r = none) (h2 : 2000 < bs.length) (hG1 : ∀ w', Below w.heap.size w w' → G (.returned (.tuple #[.agg #[.int .i64 0, .int .i64 0, .int .i64 0, .int .i64 0, .int .i64 0, .int .i64 0, .slice none 0 0, .slice none 0 0, .int .i64 0, .slice none 0 0], .agg #[.int .i64 3, .int .i64 (-1)]])) w') :
    Calls Tryd.prog 12 #[.slice a bs.length cap] w G := by
  have HG1 := (show Hid _ from hG1)
  clear hG1
  obtain ⟨W, hWe⟩ : ∃ W, W = ((w.alloc (.cells #[.int .i64 0, .int .i64 0, .int .i64 0, .int .i64 0, .int .i64 0, .int .i64 0, .slice none 0 0, .slice none 0 0, .int .i64 0, .slice none 0 0] 26)).alloc (.cells #[.int .i64 0, .int .i64 0] 34)).alloc (.cells #[.int .i64 0, .int .i64 0, .int .i64 0, .int .i64 0, .int .i64 0, .int .i64 0, .slice none 0 0, .slice none 0 0, .int .i64 0, .slice none 0 0] 26) := ⟨_, rfl⟩
  have hW : Below w.heap.size w W := by rw [hWe]; exact (((Below.refl _ _).alloc (Nat.le_refl _) _).alloc (by simp) _).alloc (by simp; omega) _
  have hWs : W.heap.size = w.heap.size + 3 := by rw [hWe]; simp
  have HNU := numbers_any a cap bs W (fun h0 => by
    obtain ⟨b, off, e, hb, hc⟩ := hrow h0
    exact ⟨b, off, e, by omega, fun j h => (hW.cell hb).trans (hc j h)⟩) hby hcap hlen
  have hp : PCells (w.heap.size + 1 + 1) [.int .i64 0, .int .i64 0, .int .i64 0, .int .i64 0, .int .i64 0, .int .i64 0, .slice none 0 0, .slice none 0 0, .int .i64 0, .slice none 0 0] W := by
    rw [hWe]
    have := pcells_new ((w.alloc (.cells #[.int .i64 0, .int .i64 0, .int .i64 0, .int .i64 0, .int .i64 0, .int .i64 0, .slice none 0 0, .slice none 0 0, .int .i64 0, .slice none 0 0] 26)).alloc (.cells #[.int .i64 0, .int .i64 0] 34)) #[.int .i64 0, .int .i64 0, .int .i64 0, .int .i64 0, .int .i64 0, .int .i64 0, .slice none 0 0, .slice none 0 0, .int .i64 0, .slice none 0 0] 26
    simpa using this
  have hRR : RR w.heap.size [.int .i64 0, .int .i64 0, .int .i64 0, .int .i64 0, .int .i64 0, .int .i64 0, .slice none 0 0, .slice none 0 0, .int .i64 0, .slice none 0 0] [.int .i64 0, .int .i64 0] W := by
    rw [hWe]
    have h1 := pcells_new w #[.int .i64 0, .int .i64 0, .int .i64 0, .int .i64 0, .int .i64 0, .int .i64 0, .slice none 0 0, .slice none 0 0, .int .i64 0, .slice none 0 0] 26
    have h2 := pcells_new (w.alloc (.cells #[.int .i64 0, .int .i64 0, .int .i64 0, .int .i64 0, .int .i64 0, .int .i64 0, .slice none 0 0, .slice none 0 0, .int .i64 0, .slice none 0 0] 26)) #[.int .i64 0, .int .i64 0] 34
    refine ⟨(h1.below ((Below.refl _ _).alloc (Nat.le_refl _) _)).below ((Below.refl _ _).alloc (Nat.le_refl _) _), ?_⟩
    have h3 := h2.below ((Below.refl _ _).alloc (Nat.le_refl _) (.cells #[.int .i64 0, .int .i64 0, .int .i64 0, .int .i64 0, .int .i64 0, .int .i64 0, .slice none 0 0, .slice none 0 0, .int .i64 0, .slice none 0 0] 26))
    simpa using h3
  obtain ⟨n, hn⟩ : ∃ n, bs.length = n := ⟨_, rfl⟩
  have HN : Hid (bs.length = n) := hn
  rw [hn] at HNU
  rw [hn]
  clear hn
  have hmf := Tryd.mfr
  go_enter Tryd.func12, Tryd.ntmps12
  go_wp2_with fail
  rw [← hWe]
  clear hWe
  refine HNU.mono ?_
  clear HNU
  rintro ev w1 ⟨hN, hb1⟩
  obtain ⟨a1, cap1, L, hev, hc1, hl1, hr1, hbs, hLr⟩ := nums_t hby hN hno
  subst hev
  have HBS := (show Hid (bs = bytesOf L ∧ ∀ x ∈ L, 0 ≤ x ∧ x ≤ 1099511627776) from ⟨hbs, hLr⟩)
  clear hno hN hbs hLr
  have hws := hb1.size
  replace hp := hp.below hb1
  replace hRR := hRR.below hb1
  obtain ⟨V, hVe⟩ : ∃ V : Bool → World, V = fun bd => ((w1.alloc (.cells #[.slice a1 L.length cap1] 52)).alloc (.cells #[.bool bd] 4)).alloc (.cells #[nextV w1.heap.size (w1.heap.size + 1)] 66) := ⟨_, rfl⟩
  have hNL : ∀ bd, NL W.heap.size (V bd) w1.heap.size (w1.heap.size + 1) L bd := fun bd => by
    rw [hVe]
    have hBl : ∀ o1 o2 o3, Below w1.heap.size w1 (((w1.alloc o1).alloc o2).alloc o3) := fun o1 o2 o3 => (((Below.refl _ _).alloc (Nat.le_refl _) _).alloc (by simp) _).alloc (by simp; omega) _
    refine ⟨⟨?_, ?_⟩, ?_, ⟨a1, cap1, ?_, hc1, fun h0 => ?_⟩, by omega⟩
    · show World.frozen? _ _ = false
      rw [World.frozen?_alloc_old _ _ _ (by simp; omega), World.frozen?_alloc_old _ _ _ (by simp)]; simp
    · show World.frozen? _ _ = false
      rw [World.frozen?_alloc_old _ _ _ (by simp)]
      simp
    · show World.cell? _ _ = _
      rw [World.cell?_alloc_lt _ _ _ (by simp)]
      simp
    · show World.cell? _ _ = _
      rw [World.cell?_alloc_lt _ _ _ (by simp; omega), World.cell?_alloc_lt _ _ _ (by simp)]; simp
    · obtain ⟨b, e, hb, hc⟩ := hr1 h0
      exact ⟨b, 0, e, hb, by omega, fun j h => ((hBl _ _ _).cell (p := ⟨b, 0 + j, none⟩) hb.2).trans (hc j h)⟩
  have hCV : ∀ bd, (V bd).cell? ⟨(w1.heap.size + 1 + 1), 0, none⟩ = some (nextV w1.heap.size (w1.heap.size + 1)) := fun bd => by
    rw [hVe]
    have := (pcells_new ((w1.alloc (.cells #[.slice a1 L.length cap1] 52)).alloc (.cells #[.bool bd] 4)) #[nextV w1.heap.size (w1.heap.size + 1)] 66 0 _ rfl).1
    simpa using this
  have hVB : ∀ bd, Below w1.heap.size w1 (V bd) := fun bd => by
    rw [hVe]; exact (((Below.refl _ _).alloc (Nat.le_refl _) _).alloc (by simp) _).alloc (by simp; omega) _
  obtain ⟨l, hl⟩ : ∃ l, L.length = l := ⟨_, rfl⟩
  have HL : Hid (L.length = l) := hl
  rw [hl] at hVe hc1 hl1
  rw [hl]
  clear hl hr1
  have hVf := congrFun hVe false
  have hVt := congrFun hVe true
  clear hVe
  have h2n : (2000 : Int) < (n : Int) := by rw [← HN.out]; omega
  clear h2
  obtain ⟨st, hst⟩ : ∃ st : St, st = none := ⟨_, rfl⟩
  have hNS : NSt W.heap.size (V true) w1.heap.size (w1.heap.size + 1) st := by rw [hst]; exact ⟨L, hNL true⟩
  have HST : Hid (st = none) := hst
  have hC0 := hCV true
  have hpV := hp.below (hVB true)
  replace hRR := hRR.below (hVB true)
  have hrA : w.heap.size + 1 < w1.heap.size := by omega
  have hrB : w.heap.size + 1 < w1.heap.size + 1 := by omega
  have hrP : w.heap.size + 1 < w.heap.size + 1 + 1 := by omega
  have hVsz := (hVB true).size
  have hBe : Below w.heap.size w (V true) := (hW.trans (hb1.mono (by omega))).trans ((hVB true).mono (by omega))
  have hC3 : w1.heap.size + 1 + 1 < (V true).heap.size := lt_of_cell hC0
  have hAB : w1.heap.size ≠ (w1.heap.size + 1) := by omega
  unfold nextV at hVt
  clear hNL hCV hVB hVf hst
  go_wp2_with fail
  rw [← hVt]
  clear hVt
  generalize V true = V0 at hNS hC0 hpV hVsz hBe hC3 hRR ⊢
  clear V
  have hPA : (w.heap.size + 1 + 1) ≠ w1.heap.size := by omega
  have hPB : (w.heap.size + 1 + 1) ≠ (w1.heap.size + 1) := by omega
  have hCA : (w1.heap.size + 1 + 1) ≠ w1.heap.size := by omega
  have hCB : (w1.heap.size + 1 + 1) ≠ (w1.heap.size + 1) := by omega
  have hPC : (w.heap.size + 1 + 1) ≠ (w1.heap.size + 1 + 1) := by omega
  have hne0 : w.heap.size ≠ w1.heap.size := by omega
  have hne1 : w1.heap.size ≠ w.heap.size := by omega
  have hwA : w.heap.size ≤ w1.heap.size := by omega
  have hwB : w.heap.size ≤ (w1.heap.size + 1) := by omega
  clear hC3
  have hND : NSt W.heap.size V0.drew w1.heap.size (w1.heap.size + 1) st := hNS
  obtain ⟨v0, z0⟩ := hpV 0 _ rfl
  obtain ⟨v1, z1⟩ := hpV 1 _ rfl
  obtain ⟨v2, z2⟩ := hpV 2 _ rfl
  obtain ⟨v3, z3⟩ := hpV 3 _ rfl
  obtain ⟨v4, z4⟩ := hpV 4 _ rfl
  obtain ⟨v5, z5⟩ := hpV 5 _ rfl
  unfold nextV at hC0
  go_region_held3 (fun u => u.cell? ⟨(w1.heap.size + 1 + 1), 0, none⟩ = some (.func (.func 26) #[] #[.pointer (some ⟨w1.heap.size, 0, none⟩), .pointer (some ⟨(w1.heap.size + 1), 0, none⟩)])) (go_keep) (first
    | (go_at_call 26; refine (next_st w1.heap.size (w1.heap.size + 1) _ _ hAB hN5).mono ?_; rintro e u6 ⟨x5, rfl, hx5, hN6, hb⟩; (first | replace hb := undrew2 hb | skip); replace hpV := hpV.but2 hb hPA hPB; replace hRR := hRR.but2 hb hrA hrB; replace hC0 := hb.cell hC0 hCA hCB; replace hBe := hBe.trans (hb.below hwA hwB hBe.size); replace z0 := hb.frozen v0 z0 hPA hPB; replace v0 := hb.cell v0 hPA hPB; replace z1 := hb.frozen v1 z1 hPA hPB; replace v1 := hb.cell v1 hPA hPB; replace z2 := hb.frozen v2 z2 hPA hPB; replace v2 := hb.cell v2 hPA hPB; replace z3 := hb.frozen v3 z3 hPA hPB; replace v3 := hb.cell v3 hPA hPB; replace z4 := hb.frozen v4 z4 hPA hPB; replace v4 := hb.cell v4 hPA hPB; replace z5 := hb.frozen v5 z5 hPA hPB; replace v5 := hb.cell v5 hPA hPB)
    | (go_at_call 26; refine (next_st w1.heap.size (w1.heap.size + 1) _ _ hAB hN4).mono ?_; rintro e u5 ⟨x4, rfl, hx4, hN5, hb⟩; (first | replace hb := undrew2 hb | skip); replace hpV := hpV.but2 hb hPA hPB; replace hRR := hRR.but2 hb hrA hrB; replace hC0 := hb.cell hC0 hCA hCB; replace hBe := hBe.trans (hb.below hwA hwB hBe.size); replace z0 := hb.frozen v0 z0 hPA hPB; replace v0 := hb.cell v0 hPA hPB; replace z1 := hb.frozen v1 z1 hPA hPB; replace v1 := hb.cell v1 hPA hPB; replace z2 := hb.frozen v2 z2 hPA hPB; replace v2 := hb.cell v2 hPA hPB; replace z3 := hb.frozen v3 z3 hPA hPB; replace v3 := hb.cell v3 hPA hPB; replace z4 := hb.frozen v4 z4 hPA hPB; replace v4 := hb.cell v4 hPA hPB; replace z5 := hb.frozen v5 z5 hPA hPB; replace v5 := hb.cell v5 hPA hPB)
    | (go_at_call 26; refine (next_st w1.heap.size (w1.heap.size + 1) _ _ hAB hN3).mono ?_; rintro e u4 ⟨x3, rfl, hx3, hN4, hb⟩; (first | replace hb := undrew2 hb | skip); replace hpV := hpV.but2 hb hPA hPB; replace hRR := hRR.but2 hb hrA hrB; replace hC0 := hb.cell hC0 hCA hCB; replace hBe := hBe.trans (hb.below hwA hwB hBe.size); replace z0 := hb.frozen v0 z0 hPA hPB; replace v0 := hb.cell v0 hPA hPB; replace z1 := hb.frozen v1 z1 hPA hPB; replace v1 := hb.cell v1 hPA hPB; replace z2 := hb.frozen v2 z2 hPA hPB; replace v2 := hb.cell v2 hPA hPB; replace z3 := hb.frozen v3 z3 hPA hPB; replace v3 := hb.cell v3 hPA hPB; replace z4 := hb.frozen v4 z4 hPA hPB; replace v4 := hb.cell v4 hPA hPB; replace z5 := hb.frozen v5 z5 hPA hPB; replace v5 := hb.cell v5 hPA hPB)
    | (go_at_call 26; refine (next_st w1.heap.size (w1.heap.size + 1) _ _ hAB hN2).mono ?_; rintro e u3 ⟨x2, rfl, hx2, hN3, hb⟩; (first | replace hb := undrew2 hb | skip); replace hpV := hpV.but2 hb hPA hPB; replace hRR := hRR.but2 hb hrA hrB; replace hC0 := hb.cell hC0 hCA hCB; replace hBe := hBe.trans (hb.below hwA hwB hBe.size); replace z0 := hb.frozen v0 z0 hPA hPB; replace v0 := hb.cell v0 hPA hPB; replace z1 := hb.frozen v1 z1 hPA hPB; replace v1 := hb.cell v1 hPA hPB; replace z2 := hb.frozen v2 z2 hPA hPB; replace v2 := hb.cell v2 hPA hPB; replace z3 := hb.frozen v3 z3 hPA hPB; replace v3 := hb.cell v3 hPA hPB; replace z4 := hb.frozen v4 z4 hPA hPB; replace v4 := hb.cell v4 hPA hPB; replace z5 := hb.frozen v5 z5 hPA hPB; replace v5 := hb.cell v5 hPA hPB)
    | (go_at_call 26; refine (next_st w1.heap.size (w1.heap.size + 1) _ _ hAB hN1).mono ?_; rintro e u2 ⟨x1, rfl, hx1, hN2, hb⟩; (first | replace hb := undrew2 hb | skip); replace hpV := hpV.but2 hb hPA hPB; replace hRR := hRR.but2 hb hrA hrB; replace hC0 := hb.cell hC0 hCA hCB; replace hBe := hBe.trans (hb.below hwA hwB hBe.size); replace z0 := hb.frozen v0 z0 hPA hPB; replace v0 := hb.cell v0 hPA hPB; replace z1 := hb.frozen v1 z1 hPA hPB; replace v1 := hb.cell v1 hPA hPB; replace z2 := hb.frozen v2 z2 hPA hPB; replace v2 := hb.cell v2 hPA hPB; replace z3 := hb.frozen v3 z3 hPA hPB; replace v3 := hb.cell v3 hPA hPB; replace z4 := hb.frozen v4 z4 hPA hPB; replace v4 := hb.cell v4 hPA hPB; replace z5 := hb.frozen v5 z5 hPA hPB; replace v5 := hb.cell v5 hPA hPB)
    | (go_at_call 26; refine (next_st w1.heap.size (w1.heap.size + 1) _ _ hAB hND).mono ?_; rintro e u1 ⟨x0, rfl, hx0, hN1, hb⟩; (first | replace hb := undrew2 hb | skip); replace hpV := hpV.but2 hb hPA hPB; replace hRR := hRR.but2 hb hrA hrB; replace hC0 := hb.cell hC0 hCA hCB; replace hBe := hBe.trans (hb.below hwA hwB hBe.size); replace z0 := hb.frozen v0 z0 hPA hPB; replace v0 := hb.cell v0 hPA hPB; replace z1 := hb.frozen v1 z1 hPA hPB; replace v1 := hb.cell v1 hPA hPB; replace z2 := hb.frozen v2 z2 hPA hPB; replace v2 := hb.cell v2 hPA hPB; replace z3 := hb.frozen v3 z3 hPA hPB; replace v3 := hb.cell v3 hPA hPB; replace z4 := hb.frozen v4 z4 hPA hPB; replace v4 := hb.cell v4 hPA hPB; replace z5 := hb.frozen v5 z5 hPA hPB; replace v5 := hb.cell v5 hPA hPB))
  go_wp2_with fail
  clear hND hNS hN1 hN2 hN3 hN4 hN5 v0 z0 v1 z1 v2 z2 v3 z3 v4 z4 v5 z5
  have HX0 : Hid (st ≠ none → x0 = (nx st).1) := hx0
  have HX1 : Hid ((nx st).2 ≠ none → x1 = (nx (nx st).2).1) := hx1
  have HX2 : Hid ((nx (nx st).2).2 ≠ none → x2 = (nx (nx (nx st).2).2).1) := hx2
  have HX3 : Hid ((nx (nx (nx st).2).2).2 ≠ none → x3 = (nx (nx (nx (nx st).2).2).2).1) := hx3
  have HX4 : Hid ((nx (nx (nx (nx st).2).2).2).2 ≠ none → x4 = (nx (nx (nx (nx (nx st).2).2).2).2).1) := hx4
  have HX5 : Hid ((nx (nx (nx (nx (nx st).2).2).2).2).2 ≠ none → x5 = (nx (nx (nx (nx (nx (nx st).2).2).2).2).2).1) := hx5
  clear hx0 hx1 hx2 hx3 hx4 hx5
  have hKA : W.heap.size ≤ w1.heap.size := by omega
  have hKB : W.heap.size ≤ (w1.heap.size + 1) := by omega
  have hPK : (w.heap.size + 1 + 1) < W.heap.size := by omega
  have hCP : (w.heap.size + 1 + 1) ≠ (w1.heap.size + 1 + 1) := by omega
  replace hpV := hpV.set (i := 0) (by simp) (.int .i64 x0)
  simp only [List.set_cons_zero] at hpV
  replace hN6 := hN6.setLow hKA hKB (i := 0) hPK (.int .i64 x0)
  replace hC0 := set_far (b := (w.heap.size + 1 + 1)) (i := 0) (v := (.int .i64 x0)) hCP hC0
  replace hBe := hBe.setCell (p := ⟨(w.heap.size + 1 + 1), 0, none⟩) (show w.heap.size ≤ (w.heap.size + 1 + 1) by omega) (.int .i64 x0)
  replace hRR := hRR.set (X := (w.heap.size + 1 + 1)) (i := 0) hrP (.int .i64 x0)
  replace hpV := hpV.set (i := 1) (by simp) (.int .i64 x1)
  simp only [List.set_cons_zero, List.set_cons_succ] at hpV
  replace hN6 := hN6.setLow hKA hKB (i := 1) hPK (.int .i64 x1)
  replace hC0 := set_far (b := (w.heap.size + 1 + 1)) (i := 1) (v := (.int .i64 x1)) hCP hC0
  replace hBe := hBe.setCell (p := ⟨(w.heap.size + 1 + 1), 1, none⟩) (show w.heap.size ≤ (w.heap.size + 1 + 1) by omega) (.int .i64 x1)
  replace hRR := hRR.set (X := (w.heap.size + 1 + 1)) (i := 1) hrP (.int .i64 x1)
  replace hpV := hpV.set (i := 2) (by simp) (.int .i64 x2)
  simp only [List.set_cons_zero, List.set_cons_succ] at hpV
  replace hN6 := hN6.setLow hKA hKB (i := 2) hPK (.int .i64 x2)
  replace hC0 := set_far (b := (w.heap.size + 1 + 1)) (i := 2) (v := (.int .i64 x2)) hCP hC0
  replace hBe := hBe.setCell (p := ⟨(w.heap.size + 1 + 1), 2, none⟩) (show w.heap.size ≤ (w.heap.size + 1 + 1) by omega) (.int .i64 x2)
  replace hRR := hRR.set (X := (w.heap.size + 1 + 1)) (i := 2) hrP (.int .i64 x2)
  replace hpV := hpV.set (i := 3) (by simp) (.int .i64 x3)
  simp only [List.set_cons_zero, List.set_cons_succ] at hpV
  replace hN6 := hN6.setLow hKA hKB (i := 3) hPK (.int .i64 x3)
  replace hC0 := set_far (b := (w.heap.size + 1 + 1)) (i := 3) (v := (.int .i64 x3)) hCP hC0
  replace hBe := hBe.setCell (p := ⟨(w.heap.size + 1 + 1), 3, none⟩) (show w.heap.size ≤ (w.heap.size + 1 + 1) by omega) (.int .i64 x3)
  replace hRR := hRR.set (X := (w.heap.size + 1 + 1)) (i := 3) hrP (.int .i64 x3)
  replace hpV := hpV.set (i := 4) (by simp) (.int .i64 x4)
  simp only [List.set_cons_zero, List.set_cons_succ] at hpV
  replace hN6 := hN6.setLow hKA hKB (i := 4) hPK (.int .i64 x4)
  replace hC0 := set_far (b := (w.heap.size + 1 + 1)) (i := 4) (v := (.int .i64 x4)) hCP hC0
  replace hBe := hBe.setCell (p := ⟨(w.heap.size + 1 + 1), 4, none⟩) (show w.heap.size ≤ (w.heap.size + 1 + 1) by omega) (.int .i64 x4)
  replace hRR := hRR.set (X := (w.heap.size + 1 + 1)) (i := 4) hrP (.int .i64 x4)
  replace hpV := hpV.set (i := 5) (by simp) (.int .i64 x5)
  simp only [List.set_cons_zero, List.set_cons_succ] at hpV
  replace hN6 := hN6.setLow hKA hKB (i := 5) hPK (.int .i64 x5)
  replace hC0 := set_far (b := (w.heap.size + 1 + 1)) (i := 5) (v := (.int .i64 x5)) hCP hC0
  replace hBe := hBe.setCell (p := ⟨(w.heap.size + 1 + 1), 5, none⟩) (show w.heap.size ≤ (w.heap.size + 1 + 1) by omega) (.int .i64 x5)
  replace hRR := hRR.set (X := (w.heap.size + 1 + 1)) (i := 5) hrP (.int .i64 x5)
  generalize ((((((u6.setCell ⟨(w.heap.size + 1 + 1), 0, none⟩ (.int .i64 x0)).setCell ⟨(w.heap.size + 1 + 1), 1, none⟩ (.int .i64 x1)).setCell ⟨(w.heap.size + 1 + 1), 2, none⟩ (.int .i64 x2)).setCell ⟨(w.heap.size + 1 + 1), 3, none⟩ (.int .i64 x3)).setCell ⟨(w.heap.size + 1 + 1), 4, none⟩ (.int .i64 x4)).setCell ⟨(w.heap.size + 1 + 1), 5, none⟩ (.int .i64 x5)) = V1 at hpV hN6 hC0 hBe hRR ⊢
  have hC1 : V1.cell? ⟨(w1.heap.size + 1 + 1), 0, none⟩ = some (nextV w1.heap.size (w1.heap.size + 1)) := hC0
  refine (many_st w1.heap.size (w1.heap.size + 1) (w1.heap.size + 1 + 1) 32 _ _ (by omega) hAB hN6 hC1).mono ?_
  rintro e u7 ⟨m, rfl, hm, hN7, hb⟩
  replace hpV := hpV.but2 hb hPA hPB
  replace hRR := hRR.but2 hb hrA hrB
  replace hC0 := hb.cell hC0 hCA hCB
  replace hBe := hBe.trans (hb.below hwA hwB hBe.size)
  clear hC1 hN6 hb
  go_wp2_with fail
  obtain ⟨s6, hs6⟩ : ∃ s6 : St, s6 = (nx (nx (nx (nx (nx (nx st).2).2).2).2).2).2 := ⟨_, rfl⟩
  rw [← hs6] at hN7 hm
  have hm32 : manySt 32 s6 ≠ none → m ≤ 32 := fun q => by have h0 := hm q; unfold manySt at q; by_cases g : 32 < (nx s6).1; (rw [if_pos g] at q; exact absurd rfl q); omega
  have HS6 : Hid (s6 = (nx (nx (nx (nx (nx (nx st).2).2).2).2).2).2) := hs6
  have HM7 : Hid (manySt 32 s6 ≠ none → m = (nx s6).1) := hm
  clear hs6 hm
  have hC7 : (w1.heap.size + 1 + 1) < u7.heap.size := lt_of_cell hC0
  refine dec_loop1 _ (by rfl) W.heap.size w1.heap.size (w1.heap.size + 1) (w1.heap.size + 1 + 1) (w.heap.size + 1 + 1) u7.heap.size (manySt 32 s6) m [.int .i64 x0, .int .i64 x1, .int .i64 x2, .int .i64 x3, .int .i64 x4, .int .i64 x5, .slice none 0 0, .slice none 0 0, .int .i64 0, .slice none 0 0] u7 hAB hPA hPB hCA hCB hPC hKA hKB hPK (by omega) (by omega) (by omega) (by omega) rfl hm32 _ _ _ _ _ _ _ _ _ _ _ _ _ _ _ _ _ _ _ _ _ _ _ _ _ _ _ _ _ _ _ _ _ _ _ _ _ _ _ _ _ _ _ _ _ _ _ _ _ _ _ _ _ _ _ _ _ _ _ _ _ _ _ _ _ _ _ _ _ _ _ _ _ _ _ _ _ _ _ _ _ _ _ _ _ _ _ _ _ _ _ _ _ _ _ _ _ _ _ _ _ _ _ _ _ _ _ _ _ _ _ _ _ _ _ _ _ ?_ (.slice none 0 0) u7 rfl hN7 hpV (World.ownsRow_nil _ _ _ _) hC0 (Nat.le_refl _) (Frm.refl _ _ _ _ _) _ _ _ _ _ _ _ _ _ _ _ _ _ _ _ _ _ _ _ _ _ _ _ _ _ _
  intro t10 e0 e1 e2 e3 e4 e5 e6 e7 e8 e9 e10 e11 e12 e13 e14 e15 e16 e17 e18 e19 e20 e21 e22 e23 e24 e25 w8 hA8
  obtain ⟨ns, xs, vs, hxl, hxs, hN8, hp8, ho8, hC8, hz8, hF8⟩ := hA8
  replace hRR := hRR.frm hF8 (by omega) hrA hrB hrP
  replace hBe := hBe.trans (hF8.below (k0 := w.heap.size) (by omega) hwA hwB (by omega))
  have HXS : Hid (stAt (manySt 32 s6) (3 * m.toNat) ≠ none → ns = m.toNat ∧ xs = (List.range ns).map (fun i => (nth (manySt 32 s6) (3 * i), nth (manySt 32 s6) (3 * i + 1), nth (manySt 32 s6) (3 * i + 2)))) := hxs
  have HR8 : Hid (RowsOf 3 u7.heap.size w8 vs ns (xs.flatMap fun x => [Value.int .i64 x.1, .int .i64 x.2.1, .int .i64 x.2.2])) := rows_of ho8
  obtain ⟨s8, hs8⟩ : ∃ s8 : St, s8 = stAt (manySt 32 s6) (3 * m.toNat) := ⟨_, rfl⟩
  rw [← hs8] at hN8
  have HS8 : Hid (s8 = stAt (manySt 32 s6) (3 * m.toNat)) := hs8
  simp only [List.set_cons_succ, List.set_cons_zero] at hp8
  clear hN7 hpV hC0 hxs ho8 hF8 hxl hm32 hs8
  go_wp2_with fail
  refine (many_st w1.heap.size (w1.heap.size + 1) (w1.heap.size + 1 + 1) 8 _ _ (by omega) hAB hN8 hC8).mono ?_
  rintro e u9 ⟨m2, rfl, hm2, hN9, hb⟩
  have hq8 := hb.size
  replace hp8 := hp8.but2 hb hPA hPB
  replace hRR := hRR.but2 hb hrA hrB
  replace hC8 := hb.cell hC8 hCA hCB
  replace hBe := hBe.trans (hb.below hwA hwB (by omega))
  have HR9 : Hid (RowsOf _ _ _ _ _ _) := HR8.out.but2 hb (by omega) (by omega)
  have HM9 : Hid (manySt 8 s8 ≠ none → m2 = (nx s8).1) := hm2
  have hm8 : manySt 8 s8 ≠ none → m2 ≤ 8 := fun q => by have h0 := HM9.out q; unfold manySt at q; by_cases g : 8 < (nx s8).1; (rw [if_pos g] at q; exact absurd rfl q); omega
  clear hN8 hb HR8 hm2
  go_wp2_with fail
  have hC9 : (w1.heap.size + 1 + 1) < u9.heap.size := lt_of_cell hC8
  refine dec_loop2 _ (by rfl) W.heap.size w1.heap.size (w1.heap.size + 1) (w1.heap.size + 1 + 1) (w.heap.size + 1 + 1) u9.heap.size (manySt 8 s8) m2 [.int .i64 x0, .int .i64 x1, .int .i64 x2, .int .i64 x3, .int .i64 x4, .int .i64 x5, vs, .slice none 0 0, .int .i64 0, .slice none 0 0] u9 hAB hPA hPB hCA hCB hPC hKA hKB hPK (by omega) (by omega) (by omega) (by omega) rfl hm8 _ _ _ _ _ _ _ _ _ _ _ _ _ _ _ _ _ _ _ _ _ _ _ _ _ _ _ _ _ _ _ _ _ _ _ _ _ _ _ _ _ _ _ _ _ _ _ _ _ _ _ _ _ _ _ _ _ _ _ _ _ _ _ _ _ _ _ _ _ _ _ _ _ _ _ _ _ _ _ _ _ _ _ _ _ _ _ _ _ _ _ _ _ _ _ _ _ _ _ _ _ _ _ _ _ _ _ _ _ _ _ _ _ _ _ _ _ _ _ _ _ ?_ (.slice none 0 0) u9 rfl hN9 hp8 (World.ownsRow_nil _ _ _ _) hC8 (Nat.le_refl _) (Frm.refl _ _ _ _ _) _ _ _ _ _ _ _ _ _ _ _ _ _ _ _ _ _ _ _ _ _ _
  intro t12 f0 f1 f2 f3 f4 f5 f6 f7 f8 f9 f10 f11 f12 f13 f14 f15 f16 f17 f18 f19 f20 f21 w10 hA10
  obtain ⟨nl, ys, vl, hyl, hys, hN10, hp10, ho10, hC10, hz10, hF10⟩ := hA10
  replace hRR := hRR.frm hF10 (by omega) hrA hrB hrP
  replace hBe := hBe.trans (hF10.below (k0 := w.heap.size) (by omega) hwA hwB (by omega))
  have HYS : Hid (stAt (manySt 8 s8) (4 * m2.toNat) ≠ none → nl = m2.toNat ∧ ys = (List.range nl).map (fun i => (nth (manySt 8 s8) (4 * i), nth (manySt 8 s8) (4 * i + 1), nth (manySt 8 s8) (4 * i + 2), nth (manySt 8 s8) (4 * i + 3)))) := hys
  have HR10 : Hid (RowsOf _ _ _ _ _ _) := HR9.out.frm hF10 (by omega) (by omega) (by omega)
  have HL10 : Hid (RowsOf 4 u9.heap.size w10 vl nl (ys.flatMap fun x => [Value.int .i64 x.1, .int .i64 x.2.1, .int .i64 x.2.2.1, .int .i64 x.2.2.2])) := rows_of ho10
  obtain ⟨s10, hs10⟩ : ∃ s10 : St, s10 = stAt (manySt 8 s8) (4 * m2.toNat) := ⟨_, rfl⟩
  rw [← hs10] at hN10
  have HS10 : Hid (s10 = stAt (manySt 8 s8) (4 * m2.toNat)) := hs10
  simp only [List.set_cons_succ, List.set_cons_zero] at hp10
  have hq10 := hF10.size
  clear hN9 hp8 hC8 hys ho10 hF10 hyl hm8 hs10 HR9
  unfold nextV at hC10
  go_wp2_with fail
  refine (next_st w1.heap.size (w1.heap.size + 1) _ _ hAB hN10).mono ?_
  rintro e u11 ⟨xf, rfl, hxf, hN11, hb⟩
  have HXF : Hid (s10 ≠ none → xf = (nx s10).1) := hxf
  have hq11 := hb.size
  replace hp10 := hp10.but2 hb hPA hPB
  replace hRR := hRR.but2 hb hrA hrB
  replace hC10 := hb.cell hC10 hCA hCB
  replace hBe := hBe.trans (hb.below hwA hwB (by omega))
  have HR11 : Hid (RowsOf _ _ _ _ _ _) := HR10.out.but2 hb (by omega) (by omega)
  have HL11 : Hid (RowsOf _ _ _ _ _ _) := HL10.out.but2 hb (by omega) (by omega)
  clear hxf hN10 HR10 HL10 hb
  obtain ⟨p8, z8⟩ := hp10 8 _ rfl
  go_wp2_with fail
  replace hRR := hRR.set (X := (w.heap.size + 1 + 1)) (i := 8) hrP (.int .i64 xf)
  replace hp10 := hp10.set (i := 8) (by simp) (.int .i64 xf)
  simp only [List.set_cons_zero, List.set_cons_succ] at hp10
  replace hN11 := hN11.setLow hKA hKB (i := 8) hPK (.int .i64 xf)
  replace hC10 := set_far (b := (w.heap.size + 1 + 1)) (i := 8) (v := .int .i64 xf) hCP hC10
  replace hBe := hBe.setCell (p := ⟨(w.heap.size + 1 + 1), 8, none⟩) (show w.heap.size ≤ (w.heap.size + 1 + 1) by omega) (.int .i64 xf)
  have HR12 : Hid (RowsOf _ _ (u11.setCell ⟨(w.heap.size + 1 + 1), 8, none⟩ (.int .i64 xf)) _ _ _) := HR11.out.set (by omega) _
  have HL12 : Hid (RowsOf _ _ (u11.setCell ⟨(w.heap.size + 1 + 1), 8, none⟩ (.int .i64 xf)) _ _ _) := HL11.out.set (by omega) _
  have hq12 : w10.heap.size ≤ (u11.setCell ⟨(w.heap.size + 1 + 1), 8, none⟩ (.int .i64 xf)).heap.size := by simpa [World.setCell] using hq11
  generalize u11.setCell ⟨(w.heap.size + 1 + 1), 8, none⟩ (.int .i64 xf) = u12 at hp10 hN11 hC10 hBe HR12 HL12 hq12 hRR ⊢
  clear HR11 HL11 p8 z8
  have hC12 : u12.cell? ⟨(w1.heap.size + 1 + 1), 0, none⟩ = some (nextV w1.heap.size (w1.heap.size + 1)) := hC10
  refine (many_st w1.heap.size (w1.heap.size + 1) (w1.heap.size + 1 + 1) 32 _ _ (by omega) hAB hN11 hC12).mono ?_
  rintro e u13 ⟨m3, rfl, hm3, hN13, hb⟩
  have hq13 := hb.size
  replace hp10 := hp10.but2 hb hPA hPB
  replace hRR := hRR.but2 hb hrA hrB
  replace hC12 := hb.cell hC12 hCA hCB
  replace hBe := hBe.trans (hb.below hwA hwB (by omega))
  have HR13 : Hid (RowsOf _ _ _ _ _ _) := HR12.out.but2 hb (by omega) (by omega)
  have HL13 : Hid (RowsOf _ _ _ _ _ _) := HL12.out.but2 hb (by omega) (by omega)
  obtain ⟨s11, hs11⟩ : ∃ s11 : St, s11 = (nx s10).2 := ⟨_, rfl⟩
  rw [← hs11] at hN13 hm3
  have HS11 : Hid (s11 = (nx s10).2) := hs11
  have HM13 : Hid (manySt 32 s11 ≠ none → m3 = (nx s11).1) := hm3
  have hm33 : manySt 32 s11 ≠ none → m3 ≤ 32 := fun q => by have h0 := HM13.out q; unfold manySt at q; by_cases g : 32 < (nx s11).1; (rw [if_pos g] at q; exact absurd rfl q); omega
  clear hN11 hC10 HR12 HL12 hb hs11 hm3
  go_wp2_with fail
  have hC13 : (w1.heap.size + 1 + 1) < u13.heap.size := lt_of_cell hC12
  refine dec_loop3 _ (by rfl) W.heap.size w1.heap.size (w1.heap.size + 1) (w1.heap.size + 1 + 1) (w.heap.size + 1 + 1) u13.heap.size (manySt 32 s11) m3 [.int .i64 x0, .int .i64 x1, .int .i64 x2, .int .i64 x3, .int .i64 x4, .int .i64 x5, vs, vl, .int .i64 xf, .slice none 0 0] u13 hAB hPA hPB hCA hCB hPC hKA hKB hPK (by omega) (by omega) (by omega) (by omega) rfl hm33 _ _ _ _ _ _ _ _ _ _ _ _ _ _ _ _ _ _ _ _ _ _ _ _ _ _ _ _ _ _ _ _ _ _ _ _ _ _ _ _ _ _ _ _ _ _ _ _ _ _ _ _ _ _ _ _ _ _ _ _ _ _ _ _ _ _ _ _ _ _ _ _ _ _ _ _ _ _ _ _ _ _ _ _ _ _ _ _ _ _ _ _ _ _ _ _ _ _ _ _ _ _ _ _ _ _ _ _ _ _ _ _ _ _ _ _ _ ?_ (.slice none 0 0) u13 rfl hN13 hp10 (World.ownsRow_nil _ _ _ _) hC12 (Nat.le_refl _) (Frm.refl _ _ _ _ _) _ _ _ _ _ _ _ _ _ _ _ _ _ _ _ _ _ _ _ _ _ _ _ _ _ _
  intro t13 h0 h1 h2 h3 h4 h5 h6 h7 h8 h9 h10 h11 h12 h13 h14 h15 h16 h17 h18 h19 h20 h21 h22 h23 h24 h25 w14 hA14
  obtain ⟨nw, zs, vw, hzl, hzs, hN14, hp14, ho14, hC14, hz14, hF14⟩ := hA14
  replace hRR := hRR.frm hF14 (by omega) hrA hrB hrP
  replace hBe := hBe.trans (hF14.below (k0 := w.heap.size) (by omega) hwA hwB (by omega))
  have HZS : Hid (stAt (manySt 32 s11) (3 * m3.toNat) ≠ none → nw = m3.toNat ∧ zs = (List.range nw).map (fun i => (nth (manySt 32 s11) (3 * i), nth (manySt 32 s11) (3 * i + 1), nth (manySt 32 s11) (3 * i + 2)))) := hzs
  have HR14 : Hid (RowsOf _ _ _ _ _ _) := HR13.out.frm hF14 (by omega) (by omega) (by omega)
  have HL14 : Hid (RowsOf _ _ _ _ _ _) := HL13.out.frm hF14 (by omega) (by omega) (by omega)
  have HW14 : Hid (RowsOf 3 u13.heap.size w14 vw nw (zs.flatMap fun x => [Value.int .i64 x.1, .int .i64 x.2.1, .int .i64 x.2.2])) := rows_of ho14
  obtain ⟨s14, hs14⟩ : ∃ s14 : St, s14 = stAt (manySt 32 s11) (3 * m3.toNat) := ⟨_, rfl⟩
  rw [← hs14] at hN14
  have HS14 : Hid (s14 = stAt (manySt 32 s11) (3 * m3.toNat)) := hs14
  simp only [List.set_cons_succ, List.set_cons_zero] at hp14
  have hq14 := hF14.size
  clear hN13 hp10 hC12 hzs ho14 hF14 hzl hm33 hs14 HR13 HL13
  have HEND : Hid (s14 = endSt st) := by (show s14 = endSt st; rw [HS14.out, many_rows 3 32 s11 m3 HM13.out, HS11.out, HS10.out, many_rows 4 8 s8 m2 HM9.out, HS8.out, many_rows 3 32 s6 m HM7.out, HS6.out]; rfl)
  have hse : s14 = none := by rw [HEND.out, HST.out]; rfl
  rw [hse] at hN14
  obtain ⟨Lx, ⟨_, cB, ⟨aL, cL, cA, _⟩, _⟩⟩ := hN14
  iterate 2 (go_step)
  exact dec_end_form _ (by rfl) G w.heap.size (w.heap.size + 1) (w.heap.size + 1 + 1) w1.heap.size (w1.heap.size + 1) w w14 true aL Lx.length cL (by omega) (Nat.le_refl _) (Nat.le_succ _) cB cA (.inl rfl) hRR.1 hRR.2 hBe HG1.out _ _ _ _ _ _ _ _ _ _ _ _ _ _ _ _ _ _ _ _ _ _ _ _ _ _ _ _ _ _ _ _ _ _ _ _ _ _ _ _ _ _ _ _ _ _ _ _ _ _ _ _ _ _ _ _ _ _ _ _ _ _ _ _ _ _ _ _ _ _ _ _ _ _ _ _ _ _ _ _ _ _ _ _ _ _ _ _ _ _ _ _ _ _ _ _ _ _ _ _ _ _ _ _ _ _ _ _ _ _ _ _ _ _ _ _ _ _ _ _ _ _ _ _ _ _ _ _ _ _ _ _ _ _ _ _ _ _ _ _ _
end Go.Proofs.YtlpojkehbhkdiaaDoor
