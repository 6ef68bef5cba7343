/- Two plans that are alike are the same (package plain's Same). (Made by tools/gen_same.py.) -/
import Derived.Test.YtlpojkehbhkdiaaPlanSteps
import Derived.Test.YtlpojkehbhkdiaaOpenRows
namespace Go.Proofs.Ytlpojkehbhkdiaa
open Go.RowKit

set_option maxRecDepth 100000 in
set_option maxHeartbeats 4000000 in
theorem same_any (nodes faulty skew jitter drift round frame : Int) (sa la wa sb ln wn : Option Addr) (ns sc sd nl lc ld nw wc wd : Nat) (nd fr to lf lt lb lq wp wf wt : Nat → Int) (w : World) (d1 : ns ≤ 1000) (d2 : nl ≤ 1000) (d3 : nw ≤ 1000)
    (hs : Rows3 w sa ns nd fr to) (hl : Rows4 w la nl lf lt lb lq) (hw : Rows3 w wa nw wp wf wt) (hs2 : Rows3 w sb ns nd fr to) (hl2 : Rows4 w ln nl lf lt lb lq) (hw2 : Rows3 w wn nw wp wf wt) :
    Calls Try.prog 9 #[.agg #[.int .i64 nodes, .int .i64 faulty, .int .i64 skew, .int .i64 jitter, .int .i64 drift, .int .i64 round, .slice sa ns sc, .slice la nl lc, .int .i64 frame, .slice wa nw wc], .agg #[.int .i64 nodes, .int .i64 faulty, .int .i64 skew, .int .i64 jitter, .int .i64 drift, .int .i64 round, .slice sb ns sd, .slice ln nl ld, .int .i64 frame, .slice wn nw wd]] w fun ev w' => ev = .returned (.bool true) ∧ Below w.heap.size w w' := by
  obtain ⟨hc, hV⟩ := box10 nodes faulty skew jitter drift round frame sa la wa ns sc nl lc nw wc w 26
  obtain ⟨V, hVe⟩ : ∃ V, V = w.alloc (.cells #[.int .i64 nodes, .int .i64 faulty, .int .i64 skew, .int .i64 jitter, .int .i64 drift, .int .i64 round, .slice sa ns sc, .slice la nl lc, .int .i64 frame, .slice wa nw wc] 26) := ⟨_, rfl⟩
  rw [← hVe] at hc hV
  obtain ⟨hc2, hV2⟩ := box10 nodes faulty skew jitter drift round frame sb ln wn ns sd nl ld nw wd V 26
  have hVs : V.heap.size = w.heap.size + 1 := by rw [hVe]; simp
  rw [hVs] at hc2
  obtain ⟨U, hUe⟩ : ∃ U, U = V.alloc (.cells #[.int .i64 nodes, .int .i64 faulty, .int .i64 skew, .int .i64 jitter, .int .i64 drift, .int .i64 round, .slice sb ns sd, .slice ln nl ld, .int .i64 frame, .slice wn nw wd] 26) := ⟨_, rfl⟩
  rw [← hUe] at hc2 hV2
  have hU : Below w.heap.size w U := hV.trans (hV2.mono hV.size)
  replace hc := hc.below hV2
  replace hs := hs.below hU
  replace hl := hl.below hU
  replace hw := hw.below hU
  replace hs2 := hs2.below hU
  replace hl2 := hl2.below hU
  replace hw2 := hw2.below hU
  obtain ⟨x0, x1, x2, x3, x4, x5, x6, x7, x8, x9⟩ := hc
  obtain ⟨y0, y1, y2, y3, y4, y5, y6, y7, y8, y9⟩ := hc2
  go_enter Try.func9, Try.ntmps9
  go_wp2_with fail
  rw [← hVe, ← hUe]
  clear hVe hUe
  go_loopw [85] (fun t wr => ∃ (k z : Nat), k ≤ ns ∧ t = .int .i64 k ∧ wr = U.drewN z) (fun t _ => ns - (intOf t).toNat)
  case atStart => exact ⟨0, 0, Nat.zero_le _, rfl, rfl⟩
  case round =>
    obtain ⟨k, z, hk, rfl, rfl⟩ := hrel
    rcases (show k < ns ∨ ns = k by omega) with hlt | hkk
    · obtain ⟨b, off, rfl, hb, hcl⟩ := hs (by omega)
      obtain ⟨r0, r1, r2⟩ := hcl k hlt
      obtain ⟨b2, off2, rfl, hb2, hcl2⟩ := hs2 (by omega)
      obtain ⟨s0, s1, s2⟩ := hcl2 k hlt
      clear hcl hcl2
      go_wp2
      go_quiet (fail)
      go_wp2
      go_roundw
      case rel => exact ⟨k + 1, _, by omega, by go_num, rfl⟩
      case measure => simp [intOf]; omega
    · subst hkk
      clear hk
      go_wp2_with fail
      go_loopw [103] (fun t wr => ∃ (k z : Nat), k ≤ nl ∧ t = .int .i64 k ∧ wr = U.drewN z) (fun t _ => nl - (intOf t).toNat)
      case atStart => exact ⟨0, _, Nat.zero_le _, rfl, rfl⟩
      case round =>
        obtain ⟨k, z, hk, rfl, rfl⟩ := hrel
        rcases (show k < nl ∨ nl = k by omega) with hlt | hkk
        · obtain ⟨b, off, rfl, hb, hcl⟩ := hl (by omega)
          obtain ⟨r0, r1, r2, r3⟩ := hcl k hlt
          obtain ⟨b2, off2, rfl, hb2, hcl2⟩ := hl2 (by omega)
          obtain ⟨s0, s1, s2, s3⟩ := hcl2 k hlt
          clear hcl hcl2
          go_wp2
          go_quiet (fail)
          go_wp2
          go_roundw
          case rel => exact ⟨k + 1, _, by omega, by go_num, rfl⟩
          case measure => simp [intOf]; omega
        · subst hkk
          clear hk
          go_wp2_with fail
          go_loopw [121] (fun t wr => ∃ (k z : Nat), k ≤ nw ∧ t = .int .i64 k ∧ wr = U.drewN z) (fun t _ => nw - (intOf t).toNat)
          case atStart => exact ⟨0, _, Nat.zero_le _, rfl, rfl⟩
          case round =>
            obtain ⟨k, z, hk, rfl, rfl⟩ := hrel
            rcases (show k < nw ∨ nw = k by omega) with hlt | hkk
            · obtain ⟨b, off, rfl, hb, hcl⟩ := hw (by omega)
              obtain ⟨r0, r1, r2⟩ := hcl k hlt
              obtain ⟨b2, off2, rfl, hb2, hcl2⟩ := hw2 (by omega)
              obtain ⟨s0, s1, s2⟩ := hcl2 k hlt
              clear hcl hcl2
              go_wp2
              go_quiet (fail)
              go_wp2
              go_roundw
              case rel => exact ⟨k + 1, _, by omega, by go_num, rfl⟩
              case measure => simp [intOf]; omega
            · subst hkk
              clear hk
              go_wp2
              go_ret
              exact ⟨rfl, below_drewN hU _⟩
end Go.Proofs.Ytlpojkehbhkdiaa
