/- The program's table of windows: its word Share (9.1). -/
import Derived.Test.YtklknbkofmobcacDoorPTab
namespace Go.Proofs.YtklknbkofmobcacDoor
open Go.RowKit

set_option maxRecDepth 100000 in
set_option maxHeartbeats 1000000 in
theorem tabShare {w : World} {O : List Nat} {P : Nat} {frame : Int} {n : Nat} {pt fr to : Nat → Int} (h : Tab w O P frame n pt fr to) (which : Int) (hf : 1 ≤ frame ∧ frame ≤ 1099511627776) (hw : WinsOk pt fr to frame n) (hn1 : n ≤ 1000) :
    Calls Tryd.prog 10 #[.pointer (some ⟨P, 0, none⟩), .int .i64 which] w fun ev w' => ev = .returned (.int .i64 (shareW pt fr to which n)) ∧ Below w.heap.size w w' := by
  obtain ⟨a, cap, c0, c1, hr, lp, _, _, _⟩ := h
  have HR : Hid (Rows3 w a n pt fr to) := hr
  have HW : Hid (WinsOk pt fr to frame n) := hw
  have HSh : Hid (∀ k, k ≤ n → 0 ≤ shareW pt fr to which k ∧ shareW pt fr to which k ≤ 1099511627776) := fun k hk => by
    have h1 := shareW_in hw which k hk
    refine ⟨h1.1, Int.le_trans h1.2 ?_⟩
    split
    · decide
    · have := hw.up (k - 1) (by omega); omega
  clear hr hw
  go_enter Tryd.func10, Tryd.ntmps10
  go_wp2_with fail
  go_loopw [5, 13] (fun sv t wr => ∃ k : Nat, k ≤ n ∧ t = .int .i64 k ∧ sv = .int .i64 (shareW pt fr to which k) ∧ Hid (Below w.heap.size w wr)) (fun _ t _ => n - (intOf t).toNat)
  case atStart => exact ⟨0, Nat.zero_le _, rfl, rfl, Below.refl _ _⟩
  case round =>
    obtain ⟨k, hk, rfl, rfl, hbe⟩ := hrel
    by_cases hlt : k < n
    · obtain ⟨b, off, rfl, hb, hc⟩ := HR.out (by omega)
      obtain ⟨x0, x1, x2⟩ := hc k hlt
      have y0 := (hbe.out.cell (p := ⟨b, off + k * 3, none⟩) hb).trans x0
      have y1 := (hbe.out.cell (p := ⟨b, off + k * 3 + 1, none⟩) hb).trans x1
      have y2 := (hbe.out.cell (p := ⟨b, off + k * 3 + 2, none⟩) hb).trans x2
      have hz : b < wr.heap.size := Nat.lt_of_lt_of_le hb hbe.out.size
      have HBE : Hid (Below w.heap.size w (wr.alloc (.cells #[.int .i64 (pt k), .int .i64 (fr k), .int .i64 (to k)] 37))) := hbe.out.alloc hbe.out.size _
      have hup := HW.out.up k hlt
      have hs1 := HSh.out k (by omega)
      have hs2 := HSh.out (k + 1) (by omega)
      have HS2 : Hid (shareW pt fr to which (k + 1) = shareW pt fr to which k + (if pt k = which then to k - fr k else 0)) := rfl
      clear hc x0 x1 x2
      have kk : (k : Int) < (n : Int) := by omega
      generalize pt k = P0 at *
      generalize fr k = F at *
      generalize to k = T at *
      generalize shareW pt fr to which k = SK at *
      by_cases hp : P0 = which
      · have HS3 : Hid (SK + (T - F) = shareW pt fr to which (k + 1)) := by show _ = _; rw [HS2.out, if_pos hp]
        have hs4 : SK + (T - F) ≤ 1099511627776 := by rw [HS3.out]; exact hs2.2
        have hp' : (P0 == which) = true := by simpa using hp
        clear hp HS2 hs2
        go_wp2_with fail
        exact ⟨⟨k + 1, by omega, by go_num, by rw [← HS3.out], HBE⟩, by simp [intOf]; omega⟩
      · have HS3 : Hid (SK = shareW pt fr to which (k + 1)) := by show _ = _; rw [HS2.out, if_neg hp]; omega
        have hp' : (P0 == which) = false := by simpa using hp
        clear hp HS2 hs2
        go_wp2_with fail
        exact ⟨⟨k + 1, by omega, by go_num, by rw [← HS3.out], HBE⟩, by simp [intOf]; omega⟩
    · obtain rfl : k = n := by omega
      go_wp2
      go_ret
      exact ⟨rfl, hbe.out⟩
end Go.Proofs.YtklknbkofmobcacDoor
