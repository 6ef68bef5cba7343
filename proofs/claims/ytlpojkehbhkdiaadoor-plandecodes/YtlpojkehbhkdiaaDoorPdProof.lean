/- PlanDecodes, walked: of all bytes it answers true. Conditions: package errors' own variable and the document's answer's variable Fine hold what their texts say. (Made by tools/gen_plandecodes.py.) -/
import Derived.Test.YtlpojkehbhkdiaaDoorRefDecA
import Derived.Test.YtlpojkehbhkdiaaDoorRefDecB
import Derived.Test.YtlpojkehbhkdiaaDoorRefDecC
import Derived.Test.YtlpojkehbhkdiaaDoorPlanDecode
import Derived.Test.YtlpojkehbhkdiaaDoorSame
import Derived.Test.YtlpojkehbhkdiaaDoorTell
import Derived.Test.YtlpojkehbhkdiaaDoorProg
import Derived.Test.YtlpojkehbhkdiaaDoorOpenRows
import Derived.ProofKit
import Derived.Lib.SmallJoins
import Derived.Test.YtlpojkehbhkdiaaDoorDoorLaid2
import Derived.Test.YtlpojkehbhkdiaaDoorCards
import Derived.Test.YtlpojkehbhkdiaaDoorTie
import Derived.SevenTiedAt
import Derived.Carry
namespace Go.Proofs.YtlpojkehbhkdiaaDoor
open Go.RowKit

theorem checkIs_any (nodes faulty skew jitter drift round frame : Int) (ns nl nw : Nat) (nd fr to lf lt lb lq : Nat → Int) (hit : Nat → Bool) (pw : Int) (wp wf wt : Nat → Int) : ∃ E I, CheckIs nodes faulty skew jitter drift round frame ns nl nw nd fr to lf lt lb lq hit pw wp wf wt E I := by
  by_cases h : headErr nodes faulty skew jitter drift round frame ns nl nw = 0
  · obtain ⟨e1, i1, g1⟩ := FirstBad.any (slotErr nd fr to nodes skew round) ns
    obtain ⟨e2, i2, g2⟩ := FirstBad.any (linkErr lf lt lb lq hit nodes pw) nl
    obtain ⟨e3, i3, g3⟩ := FirstBad.any (winErr wp wf wt frame) nw
    by_cases z1 : e1 = 0
    · by_cases z2 : e2 = 0
      · by_cases z3 : e3 = 0
        · exact ⟨0, -1, .inr ⟨h, e1, i1, e2, i2, e3, i3, g1, g2, g3, fun q => absurd z1 q, fun _ q => absurd z2 q, fun _ _ q => absurd z3 q, fun _ _ _ => ⟨rfl, rfl⟩⟩⟩
        · exact ⟨e3, 2000 + i3, .inr ⟨h, e1, i1, e2, i2, e3, i3, g1, g2, g3, fun q => absurd z1 q, fun _ q => absurd z2 q, fun _ _ _ => ⟨rfl, rfl⟩, fun _ _ q => absurd q z3⟩⟩
      · exact ⟨e2, 1000 + i2, .inr ⟨h, e1, i1, e2, i2, e3, i3, g1, g2, g3, fun q => absurd z1 q, fun _ _ => ⟨rfl, rfl⟩, fun _ q => absurd q z2, fun _ q => absurd q z2⟩⟩
    · exact ⟨e1, i1, .inr ⟨h, e1, i1, e2, i2, e3, i3, g1, g2, g3, fun _ => ⟨rfl, rfl⟩, fun q => absurd q z1, fun q => absurd q z1, fun q => absurd q z1⟩⟩
  · exact ⟨_, -1, .inl ⟨h, rfl, rfl⟩⟩

/-- What Place tells of an error. -/
theorem place_errD {w : World} {E : Value} {k p : Int} (h : ErrIs w E k p) (v : World) (hT : Told v) (hb : Below w.heap.size w v) :
    Calls Tryd.prog 15 #[E] v fun e w' => e = .returned (.tuple #[.int .i64 k, .int .i64 p]) ∧ Below v.heap.size v w' := by
  rcases h with ⟨rfl, rfl, rfl⟩ | ⟨rfl, _, rfl⟩ | ⟨b, rfl, _, h1, h2⟩
  · exact place_nil v
  · exact place_e k v hT
  · exact place_at k p b v hT (keep_cell h1 hb) (keep_cell h2 hb)

theorem thenB {w u v : World} (h : Below w.heap.size w u) (k : Below u.heap.size u v) : Below w.heap.size w v := h.trans (k.mono h.size)

/-- The document's answer's Decode answers this plan, and this fault. -/
def RefDec (w : World) (args : Array Value) (nodes faulty skew jitter drift round frame : Int) (ns nl nw : Nat) (nd fr to lf lt lb lq wp wf wt : Nat → Int) (e p : Int) : Prop :=
  ∀ u : World, Below w.heap.size w u → Calls Tryd.prog 12 args u fun ev w' => ∃ sa sc la lc wa wc, ev = .returned (.tuple #[.agg #[.int .i64 nodes, .int .i64 faulty, .int .i64 skew, .int .i64 jitter, .int .i64 drift, .int .i64 round, .slice sa ns sc, .slice la nl lc, .int .i64 frame, .slice wa nw wc], .agg #[.int .i64 e, .int .i64 p]]) ∧ (Rows3 w' sa ns nd fr to ∧ Rows4 w' la nl lf lt lb lq ∧ Rows3 w' wa nw wp wf wt) ∧ Below u.heap.size u w'
/-- The program's Decode answers this plan, and an error that tells this fault. -/
def PlanDec (w : World) (args : Array Value) (nodes faulty skew jitter drift round frame : Int) (ns nl nw : Nat) (nd fr to lf lt lb lq wp wf wt : Nat → Int) (e p : Int) : Prop :=
  ∀ u : World, Below w.heap.size w u → Calls Tryd.prog 13 args u fun ev w' => ∃ sa sc la lc wa wc X, ev = .returned (.tuple #[.agg #[.int .i64 nodes, .int .i64 faulty, .int .i64 skew, .int .i64 jitter, .int .i64 drift, .int .i64 round, .slice sa ns sc, .slice la nl lc, .int .i64 frame, .slice wa nw wc], X]) ∧ ErrIs w' X e p ∧ (Rows3 w' sa ns nd fr to ∧ Rows4 w' la nl lf lt lb lq ∧ Rows3 w' wa nw wp wf wt) ∧ Below u.heap.size u w'

set_option maxRecDepth 100000 in
set_option maxHeartbeats 4000000 in
theorem decodes_walk (a : Option Addr) (n cap : Nat) (w : World) (hT : Told w) (nodes faulty skew jitter drift round frame : Int) (ns nl nw : Nat) (nd fr to lf lt lb lq wp wf wt : Nat → Int) (e p : Int) (d1 : ns ≤ 1000) (d2 : nl ≤ 1000) (d3 : nw ≤ 1000) (hn : n ≤ 3000)
    (h1 : RefDec w #[.slice a n cap] nodes faulty skew jitter drift round frame ns nl nw nd fr to lf lt lb lq wp wf wt e p) (h2 : PlanDec w #[.slice a n cap] nodes faulty skew jitter drift round frame ns nl nw nd fr to lf lt lb lq wp wf wt e p) :
    Calls Tryd.prog 5 #[.slice a n cap] w fun ev w' => ev = .returned (.bool true) ∧ Below w.heap.size w w' := by
  have H1 : Hid (RefDec w #[.slice a n cap] nodes faulty skew jitter drift round frame ns nl nw nd fr to lf lt lb lq wp wf wt e p) := h1
  have H2 : Hid (PlanDec w #[.slice a n cap] nodes faulty skew jitter drift round frame ns nl nw nd fr to lf lt lb lq wp wf wt e p) := h2
  have k1 : decide ((3000 : Int) < (n : Int)) = false := decide_eq_false (by omega)
  clear h1 h2
  go_enter Tryd.func5, Tryd.ntmps5
  go_wp2_with fail
  refine (H1.out _ (Below.refl _ _)).mono ?_
  rintro ev w1 ⟨sa, sc, la, lc, wa, wc, rfl, ⟨r1, r2, r3⟩, hb1⟩
  have HR : Hid (Rows3 w1 sa ns nd fr to ∧ Rows4 w1 la nl lf lt lb lq ∧ Rows3 w1 wa nw wp wf wt) := ⟨r1, r2, r3⟩
  clear r1 r2 r3 H1
  go_wp2_with fail
  obtain ⟨V, hVe⟩ : ∃ V, V = (w1.alloc (.cells #[.int .i64 nodes, .int .i64 faulty, .int .i64 skew, .int .i64 jitter, .int .i64 drift, .int .i64 round, .slice sa ns sc, .slice la nl lc, .int .i64 frame, .slice wa nw wc] 26)).alloc (.cells #[.int .i64 e, .int .i64 p] 34) := ⟨_, rfl⟩
  have hAV : Below w1.heap.size w1 V := by rw [hVe]; exact ((Below.refl _ _).alloc (Nat.le_refl _) _).alloc (by simp) _
  have hcA : Cells10 w1.heap.size nodes faulty skew jitter drift round frame sa la wa ns sc nl lc nw wc V := by
    rw [hVe]
    exact (box10 nodes faulty skew jitter drift round frame sa la wa ns sc nl lc nw wc w1 26).1.below ((Below.refl _ _).alloc (Nat.le_refl _) _)
  have f0 : V.cell? ⟨w1.heap.size + 1, 0, none⟩ = some (.int .i64 e) := by rw [hVe]; simp
  have f1 : V.cell? ⟨w1.heap.size + 1, 1, none⟩ = some (.int .i64 p) := by rw [hVe]; simp
  rw [← hVe]
  clear hVe
  have hwV := thenB hb1 hAV
  have HR2 : Hid (Rows3 V sa ns nd fr to ∧ Rows4 V la nl lf lt lb lq ∧ Rows3 V wa nw wp wf wt) := ⟨HR.out.1.below hAV, HR.out.2.1.below hAV, HR.out.2.2.below hAV⟩
  clear HR hAV hb1
  refine (H2.out _ hwV).mono ?_
  rintro ev w2 ⟨sb, sd, ln, ld, wn, wd, X, rfl, hX, ⟨r1, r2, r3⟩, hb2⟩
  replace f0 := keep_cell f0 hb2
  replace f1 := keep_cell f1 hb2
  have hz2 : w1.heap.size + 1 < w2.heap.size := lt_of_cell f0
  go_wp2_with fail
  obtain ⟨U, hUe⟩ : ∃ U, U = w2.alloc (.cells #[.int .i64 nodes, .int .i64 faulty, .int .i64 skew, .int .i64 jitter, .int .i64 drift, .int .i64 round, .slice sb ns sd, .slice ln nl ld, .int .i64 frame, .slice wn nw wd] 26) := ⟨_, rfl⟩
  obtain ⟨hcB, hAU⟩ := box10 nodes faulty skew jitter drift round frame sb ln wn ns sd nl ld nw wd w2 26
  rw [← hUe] at hcB hAU
  rw [← hUe]
  clear hUe
  have hVU := thenB hb2 hAU
  have hwU := thenB hwV hVU
  have HX : Hid (ErrIs U X e p) := hX.below hAU
  have HR3 : Hid (Rows3 U sa ns nd fr to ∧ Rows4 U la nl lf lt lb lq ∧ Rows3 U wa nw wp wf wt) := ⟨HR2.out.1.below hVU, HR2.out.2.1.below hVU, HR2.out.2.2.below hVU⟩
  have HR4 : Hid (Rows3 U sb ns nd fr to ∧ Rows4 U ln nl lf lt lb lq ∧ Rows3 U wn nw wp wf wt) := ⟨r1.below hAU, r2.below hAU, r3.below hAU⟩
  replace hcA := hcA.below hVU
  clear r1 r2 r3 hX H2 HR2 hAU hb2 hVU
  refine (is_any X e p U (place_errD HX.out) (hT.below hwU)).mono ?_
  rintro ev u3 ⟨rfl, hb3⟩
  have hw3 := thenB hwU hb3
  replace hcA := hcA.below hb3
  replace hcB := hcB.below hb3
  obtain ⟨x0, x1, x2, x3, x4, x5, x6, x7, x8, x9⟩ := hcA
  obtain ⟨y0, y1, y2, y3, y4, y5, y6, y7, y8, y9⟩ := hcB
  have hSm := same_any nodes faulty skew jitter drift round frame sb ln wn sa la wa ns sd sc nl ld lc nw wd wc nd fr to lf lt lb lq wp wf wt u3 d1 d2 d3 (HR4.out.1.below hb3) (HR4.out.2.1.below hb3) (HR4.out.2.2.below hb3) (HR3.out.1.below hb3) (HR3.out.2.1.below hb3) (HR3.out.2.2.below hb3)
  clear f0 f1
  go_wp2_with fail
  refine hSm.mono ?_
  rintro ev u4 ⟨rfl, hb4⟩
  go_wp2
  go_ret
  exact ⟨rfl, thenB hw3 hb4⟩

theorem rowsN_le (most : Int) (st : St) (k : Nat) (h : most ≤ k) : rowsN most st ≤ k := by
  unfold rowsN
  split
  · exact Nat.zero_le _
  · omega

theorem decodes_any (a : Option Addr) (cap : Nat) (bs : List Int) (w : World) (hT : Told w) (hfine : Fine0 w) (hrow : 0 < bs.length → ∃ b off, a = some ⟨b, off, none⟩ ∧ b < w.heap.size ∧ ∀ j (h : j < bs.length), w.cell? ⟨b, off + j, none⟩ = some (.int .u8 bs[j])) (hby : ∀ x ∈ bs, 0 ≤ x ∧ x < 256) (hcap : bs.length ≤ cap) :
    Calls Tryd.prog 5 #[.slice a bs.length cap] w fun ev w' => ev = .returned (.bool true) ∧ Below w.heap.size w w' := by
  by_cases h3 : 3000 < bs.length
  · generalize bs.length = n at h3
    have h4 : (3000 : Int) < (n : Int) := by omega
    clear hrow hcap
    go_enter Tryd.func5, Tryd.ntmps5
    go_wp2_with fail
    go_ret
    exact ⟨rfl, Below.refl _ _⟩
  have hrowU : ∀ u : World, Below w.heap.size w u → 0 < bs.length → ∃ b off, a = some ⟨b, off, none⟩ ∧ b < u.heap.size ∧ ∀ j (h : j < bs.length), u.cell? ⟨b, off + j, none⟩ = some (.int .u8 bs[j]) := fun u hu h0 => by
    obtain ⟨b, off, e, hb, hc⟩ := hrow h0
    exact ⟨b, off, e, Nat.lt_of_lt_of_le hb hu.size, fun j h => (hu.cell (p := ⟨b, off + j, none⟩) hb).trans (hc j h)⟩
  have hlen : bs.length ≤ 3000 := by omega
  have form : ∀ (hR : ∀ u : World, Below w.heap.size w u → ∀ G : Ending → World → Prop, (∀ w', Below u.heap.size u w' → G (.returned (.tuple #[.agg #[.int .i64 0, .int .i64 0, .int .i64 0, .int .i64 0, .int .i64 0, .int .i64 0, .slice none 0 0, .slice none 0 0, .int .i64 0, .slice none 0 0], .agg #[.int .i64 3, .int .i64 (-1)]])) w') → Calls Tryd.prog 12 #[.slice a bs.length cap] u G)
      (hP : ∀ u : World, Below w.heap.size w u → Calls Tryd.prog 13 #[.slice a bs.length cap] u fun ev w' => ev = .returned (.tuple #[.agg #[.int .i64 0, .int .i64 0, .int .i64 0, .int .i64 0, .int .i64 0, .int .i64 0, .slice none 0 0, .slice none 0 0, .int .i64 0, .slice none 0 0], .iface 32 (.int .i64 3)]) ∧ Below u.heap.size u w'),
      Calls Tryd.prog 5 #[.slice a bs.length cap] w fun ev w' => ev = .returned (.bool true) ∧ Below w.heap.size w w' := fun hR hP => by
    refine decodes_walk a bs.length cap w hT 0 0 0 0 0 0 0 0 0 0 (fun _ => 0) (fun _ => 0) (fun _ => 0) (fun _ => 0) (fun _ => 0) (fun _ => 0) (fun _ => 0) (fun _ => 0) (fun _ => 0) (fun _ => 0) 3 (-1) (Nat.zero_le _) (Nat.zero_le _) (Nat.zero_le _) hlen (fun u hu => ?_) (fun u hu => ?_)
    · exact hR u hu _ (fun w' hb => ⟨none, 0, none, 0, none, 0, rfl, ⟨fun q => absurd q (Nat.lt_irrefl _), fun q => absurd q (Nat.lt_irrefl _), fun q => absurd q (Nat.lt_irrefl _)⟩, hb⟩)
    · exact (hP u hu).mono fun ev w' ⟨he, hb⟩ => ⟨none, 0, none, 0, none, 0, _, he, .inr (.inl ⟨rfl, by decide, rfl⟩), ⟨fun q => absurd q (Nat.lt_irrefl _), fun q => absurd q (Nat.lt_irrefl _), fun q => absurd q (Nat.lt_irrefl _)⟩, hb⟩
  by_cases hx : ∃ m r, stAt (some bs) m = some r ∧ r ≠ [] ∧ rd r = none
  · refine form (fun u hu G hG => refDecode_A a cap bs u (hrowU u hu) hby hcap hlen G hx hG) (fun u hu => ?_)
    by_cases h2 : 2000 < bs.length
    · exact decode_long a bs.length cap u h2
    · exact decode_form a cap bs u (hrowU u hu) hby hcap (by omega) (nums_bad hby hx)
  by_cases h2 : 2000 < bs.length
  · exact form (fun u hu G hG => refDecode_B a cap bs u (hrowU u hu) hby hcap hlen G hx h2 hG) (fun u hu => decode_long a bs.length cap u h2)
  obtain ⟨st, hst⟩ : ∃ st : St, st = some bs := ⟨_, rfl⟩
  obtain ⟨E, I, hC⟩ := checkIs_any (nth st 0) (nth st 1) (nth st 2) (nth st 3) (nth st 4) (nth st 5) (nx (rowsSt 4 8 (rowsSt 3 32 (stAt st 6)))).1 (rowsN 32 (stAt st 6)) (rowsN 8 (rowsSt 3 32 (stAt st 6))) (rowsN 32 ((nx (rowsSt 4 8 (rowsSt 3 32 (stAt st 6)))).2)) (fun j => nth (nx (stAt st 6)).2 (3 * j)) (fun j => nth (nx (stAt st 6)).2 (3 * j + 1)) (fun j => nth (nx (stAt st 6)).2 (3 * j + 2)) (fun j => nth (nx (rowsSt 3 32 (stAt st 6))).2 (4 * j)) (fun j => nth (nx (rowsSt 3 32 (stAt st 6))).2 (4 * j + 1)) (fun j => nth (nx (rowsSt 3 32 (stAt st 6))).2 (4 * j + 2)) (fun j => nth (nx (rowsSt 3 32 (stAt st 6))).2 (4 * j + 3)) (fun j => bits BinOp.and .i64 ((fun j => nth (nx (rowsSt 3 32 (stAt st 6))).2 (4 * j + 1)) j) (2 ^ ((fun j => nth (nx (rowsSt 3 32 (stAt st 6))).2 (4 * j)) j).toNat) != 0) ((2 : Int) ^ (nth st 0).toNat) (fun j => nth (nx ((nx (rowsSt 4 8 (rowsSt 3 32 (stAt st 6)))).2)).2 (3 * j)) (fun j => nth (nx ((nx (rowsSt 4 8 (rowsSt 3 32 (stAt st 6)))).2)).2 (3 * j + 1)) (fun j => nth (nx ((nx (rowsSt 4 8 (rowsSt 3 32 (stAt st 6)))).2)).2 (3 * j + 2))
  by_cases hE : endSt (some bs) = some []
  rotate_left
  · exact form (fun u hu G hG => refDecode_C a cap bs u (hrowU u hu) hby hcap hlen G hx (by omega) (hfine.below hu) st hst _ _ E I rfl (fun _ _ _ => rfl) hC (fun _ => hG) (fun q => absurd q hE) (fun q => absurd q hE)) (fun u hu => decode_form a cap bs u (hrowU u hu) hby hcap (by omega) hE)
  · by_cases hEE : E = 0
    · refine decodes_walk a bs.length cap w hT (nth st 0) (nth st 1) (nth st 2) (nth st 3) (nth st 4) (nth st 5) (nx (rowsSt 4 8 (rowsSt 3 32 (stAt st 6)))).1 (rowsN 32 (stAt st 6)) (rowsN 8 (rowsSt 3 32 (stAt st 6))) (rowsN 32 ((nx (rowsSt 4 8 (rowsSt 3 32 (stAt st 6)))).2)) (fun j => nth (nx (stAt st 6)).2 (3 * j)) (fun j => nth (nx (stAt st 6)).2 (3 * j + 1)) (fun j => nth (nx (stAt st 6)).2 (3 * j + 2)) (fun j => nth (nx (rowsSt 3 32 (stAt st 6))).2 (4 * j)) (fun j => nth (nx (rowsSt 3 32 (stAt st 6))).2 (4 * j + 1)) (fun j => nth (nx (rowsSt 3 32 (stAt st 6))).2 (4 * j + 2)) (fun j => nth (nx (rowsSt 3 32 (stAt st 6))).2 (4 * j + 3)) (fun j => nth (nx ((nx (rowsSt 4 8 (rowsSt 3 32 (stAt st 6)))).2)).2 (3 * j)) (fun j => nth (nx ((nx (rowsSt 4 8 (rowsSt 3 32 (stAt st 6)))).2)).2 (3 * j + 1)) (fun j => nth (nx ((nx (rowsSt 4 8 (rowsSt 3 32 (stAt st 6)))).2)).2 (3 * j + 2)) 0 (-1) (rowsN_le _ _ _ (by decide)) (rowsN_le _ _ _ (by decide)) (rowsN_le _ _ _ (by decide)) hlen (fun u hu => ?_) (fun u hu => ?_)
      · exact refDecode_C a cap bs u (hrowU u hu) hby hcap hlen _ hx (by omega) (hfine.below hu) st hst _ _ E I rfl (fun _ _ _ => rfl) hC (fun q => absurd hE q) (fun _ q => absurd hEE q) (fun _ _ sa sc la lc wa wc w' hr hb => ⟨sa, sc, la, lc, wa, wc, rfl, hr, hb⟩)
      · refine (decode_good a cap bs u (hrowU u hu) hby hcap (by omega) hE st hst _ _ E I rfl (fun _ _ _ => rfl) hC hEE).mono ?_
        rintro ev w' ⟨sa, sc, la, lc, wa, wc, he, r1, r2, r3, hb⟩
        exact ⟨sa, sc, la, lc, wa, wc, _, he, .inl ⟨rfl, rfl, rfl⟩, ⟨r1, r2, r3⟩, hb⟩
    · refine decodes_walk a bs.length cap w hT 0 0 0 0 0 0 0 0 0 0 (fun _ => 0) (fun _ => 0) (fun _ => 0) (fun _ => 0) (fun _ => 0) (fun _ => 0) (fun _ => 0) (fun _ => 0) (fun _ => 0) (fun _ => 0) E I (Nat.zero_le _) (Nat.zero_le _) (Nat.zero_le _) hlen (fun u hu => ?_) (fun u hu => ?_)
      · exact refDecode_C a cap bs u (hrowU u hu) hby hcap hlen _ hx (by omega) (hfine.below hu) st hst _ _ E I rfl (fun _ _ _ => rfl) hC (fun q => absurd hE q) (fun _ _ w' hb => ⟨none, 0, none, 0, none, 0, rfl, ⟨fun q => absurd q (Nat.lt_irrefl _), fun q => absurd q (Nat.lt_irrefl _), fun q => absurd q (Nat.lt_irrefl _)⟩, hb⟩) (fun _ q => absurd q hEE)
      · refine (decode_bad a cap bs u (hrowU u hu) hby hcap (by omega) hE st hst _ _ E I rfl (fun _ _ _ => rfl) hC hEE).mono ?_
        rintro ev w' ⟨X, he, hX, hb⟩
        exact ⟨none, 0, none, 0, none, 0, X, he, hX, ⟨fun q => absurd q (Nat.lt_irrefl _), fun q => absurd q (Nat.lt_irrefl _), fun q => absurd q (Nat.lt_irrefl _)⟩, hb⟩
end Go.Proofs.YtlpojkehbhkdiaaDoor

/- Bytes that came in, opened, as numbers. -/
namespace Go.Proofs.YtlpojkehbhkdiaaDoor
open Go.ChangeShapes Go.WideShapes Go.ChangeAt Go.RowKit Go.Joins Go.Deep

theorem Tryd.cellsByteB : Tryd.prog.cellsOf 5 = 1 := by kernel_rfl

set_option maxRecDepth 100000 in
/-- A slice of bytes that came in. -/
theorem open_bytesD {H : Type} {enc : TypeId × Value → H} {w : World} {spare : Nat → Bool} {held : Bool} {r : Reach} {b0 : Nat} {v : Value} {d : DataW H} {p : List MemPlace}
    (hv : Value.okWide Tryd.prog w r b0 36 v) (h : DataW.Trod enc Tryd.prog w 0 spare held 36 v d p) :
    ∃ (a : Option Addr) (cap : Nat) (bs : List Int), v = .slice a bs.length cap ∧ (0 < bs.length → ∃ b off, a = some ⟨b, off, none⟩ ∧ b < w.heap.size ∧ ∀ j (h : j < bs.length), w.cell? ⟨b, off + j, none⟩ = some (.int .u8 bs[j])) ∧ (∀ x ∈ bs, 0 ≤ x ∧ x < 256) ∧ bs.length ≤ cap := by
  obtain ⟨a1, len, cap, rfl⟩ := okWide_slice Tryd.underlying36 hv
  obtain ⟨fuel, hf⟩ := h
  rcases open_ints Tryd.underlying36 Tryd.underlying5 Tryd.cellsByteB hf with ⟨hcs, _⟩ | ⟨a, len', cap', zs, hcs, _, hl, hm, hz, _, hcell, hwz⟩
  · simp [Value.cells] at hcs
    obtain ⟨rfl, rfl, rfl⟩ := hcs
    exact ⟨none, 0, [], rfl, fun hn => absurd hn (Nat.lt_irrefl _), fun c hc => (List.not_mem_nil hc).elim, Nat.le_refl _⟩
  · simp [Value.cells] at hcs
    obtain ⟨rfl, rfl, rfl⟩ := hcs
    have hle : len ≤ zs.length := by rw [hz]; split <;> omega
    have hlen : (zs.take len).length = len := by simp; omega
    refine ⟨some a, cap, zs.take len, by rw [hlen], fun hn => ?_, fun x hx => ?_, by rw [hlen]; exact hl⟩
    · rw [hlen] at hn
      have h0 := hcell 0 (by omega)
      obtain ⟨b, off, spot⟩ := a
      have hs : spot = none := by simpa [Addr.add] using World.cell?_spot h0
      subst hs
      refine ⟨b, off, rfl, ?_, fun j hj => ?_⟩
      · rw [add_plain] at h0
        rcases Nat.lt_or_ge b w.heap.size with q | q
        · exact q
        · simp [World.cell?, Array.getElem?_eq_none q] at h0
      · rw [hlen] at hj
        have hc := hcell j (by omega)
        rw [add_plain] at hc
        rw [hc]
        have hjz : j < zs.length := by omega
        simp [List.getD, hjz]
    · have := hwz x (List.mem_of_mem_take hx)
      simp [Lit.wf, IntKind.min, IntKind.max, IntKind.bits, IntKind.signed] at this
      omega
end Go.Proofs.YtlpojkehbhkdiaaDoor

/- Of all bytes: the plan that they are, or that they are none, is what the document's answer says (PlanDecodes answers true, and its argument reads as before). Conditions: package errors' own variable errorType and the document's answer's variable Fine are laid by the program's text (the card ties them). -/
namespace Go.Proofs.YtlpojkehbhkdiaaDoor
open Go Go.ChangeShapes Go.WideShapes Go.ChangeAt Go.RowKit Go.Joins

theorem Tryd.laidOut : laidOutB Tryd.prog = true := by kernel_rfl

set_option maxRecDepth 100000 in
theorem pdec_lifted (os : Os) (started : os.Started) (H : Type) (enc : TypeId × Value → H) :
    ReturnsInHanded {} Tryd.checked os 5 .any (fun w args => (Rows.planDecodesSpec.pre enc Tryd.prog Tryd.f5 [] false w args ∧ laidMetH Tryd.prog laidList w) ∧ sizedMet enc Tryd.prog Tryd.f5 (OpenSpec.ofChange Rows.planDecodesSpec) false w args)
      (Rows.planDecodesSpec.post enc Tryd.prog Tryd.f5 false true false false) := by
  refine returnsInHanded_of_change_and (C := Tryd.checked) (X := fun w _ => laidMetH Tryd.prog laidList w) (fun _ _ _ hh h => h.of_heap hh) own started (by kernel_rfl) Tryd.func5
    (ChangeSpec.witness_at (enc := enc) (C := Tryd.checked) (os := os) (X := fun w _ => laidMetH Tryd.prog laidList w) false (laidHeap (World.holding Tryd.prog os ⟨#[], #[], []⟩)) #[.slice none 0 0] 8 rfl (by kernel_rfl) (by kernel_rfl) (by kernel_rfl) (by kernel_rfl) (by kernel_rfl) (laid_met os _)) ?_
  intro W base args ds gs before hval0 hW _ _ hL _
  have hval : ∀ (j : Nat) t v, Tryd.f5.params[j]? = some t → args[j]? = some v → Value.okWide Tryd.prog W .any base t v := hval0
  have hW' := hW
  obtain ⟨p, q, hA0, hV0, rfl, hfz, hnd⟩ := hW
  have hA : DataW.TrodAll enc Tryd.prog W 0 (fun _ => true) true Tryd.f5.params.toList args.toList ds p := hA0
  have hV : DataW.TrodVars enc Tryd.prog W (fun _ => true) [] gs q := hV0
  rw [Tryd.params5] at hA hval
  obtain ⟨v0, d0, rfl, rfl, h0⟩ := trodAll_one hA
  obtain ⟨rfl, rfl⟩ : gs = [] ∧ q = [] := by
    cases gs with
    | nil => exact ⟨rfl, hV⟩
    | cons g r => exact absurd hV (by intro h; cases h)
  have h0k := h0
  have hlt : ∀ x ∈ p, x.block < W.heap.size := fun x hx => by simpa using hW'.lt x (by simpa using hx)
  obtain ⟨a, cap, l, rfl, hr, hby, hcap⟩ := open_bytesD (hval 0 36 v0 rfl rfl) h0
  clear hA0 hval0 h0 hA hval
  refine (decodes_any a cap l W (told_of_laid hL) (fine_of_laid hL) hr hby hcap).mono fun e W' ⟨he, bel⟩ => ?_
  subst he
  exact ⟨_, rfl, _, _, _, [], _, [], hW', trodAll_mk1 (shut_bool Tryd.underlying4 _), trodAll_mk1 (Below.trod Tryd.laidOut (by kernel_rfl) (of_decide_eq_true (by kernel_rfl)) h0k bel hlt), rfl, bel.frame _, fun h => by cases h⟩

theorem pdec_row : Rows.PlanDecodesSaid :=
  OpenClaim.holds_of_wide 5 Tryd.f5 rfl rfl rfl rfl rfl rfl rfl ⟨rfl, rfl, rfl, rfl, rfl⟩ rfl rfl rfl rfl rfl (by kernel_rfl) Tryd.func5 (by kernel_rfl)
    (of_decide_eq_true (by kernel_rfl)) (by unfold Func.isWrapper; rw [if_neg (of_decide_eq_false (by kernel_rfl))]; exact ⟨rfl, rfl⟩)
    (fun os started H enc _ => pdec_lifted os started H enc)

theorem pdec_func : Tryd.prog.funcNamed Rows.planDecodesRow.func = some 5 := by kernel_rfl
theorem pdec_holds : Rows.PlanDecodesCardSaid :=
  Claim7.holds_tied_plain_at .later [] [.handle, .data] true Rows.planDecodesCard.stood.harness true
    pdec_row (fun _ h => by cases h) (by kernel_rfl) (fun _ h => by cases h) planDecodes_row_tie rfl ⟨rfl, rfl⟩ (by kernel_rfl) rfl
    (fun f fn hf hfn => by
      obtain rfl : f = 5 := Option.some.inj (pdec_func.symm.trans hf) |>.symm
      obtain rfl : fn = Tryd.f5 := (Option.some.inj (Tryd.func5.symm.trans hfn)).symm
      exact ⟨by kernel_rfl, fun j t ht => by
        rw [Tryd.params5] at ht
        have h3 : t = 36 := by
          rcases j with _ | j
          · simpa using ht.symm
          · simp at ht
        subst h3
        exact (show Tryd.prog.wantsStandIn 36 = false by kernel_rfl)⟩)
    (by kernel_rfl)
#print axioms pdec_holds
end Go.Proofs.YtlpojkehbhkdiaaDoor
