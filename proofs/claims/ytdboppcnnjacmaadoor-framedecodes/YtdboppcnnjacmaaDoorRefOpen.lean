/- The document's answer's Open: the frame that bytes are, or that they are none. -/
import Derived.Test.YtdboppcnnjacmaaDoorFrameEncodesLaw
import Derived.BigRegion
namespace Go.Proofs.YtdboppcnnjacmaaDoor
open Go.RowKit Go.Lib

/-- The frame of noughts, and ErrForm. -/
def OpenNo (w : World) (e : Ending) (w' : World) : Prop := e = .returned (.tuple #[.agg #[.int .i64 0, .int .i64 0, .int .i64 0, .int .i64 0, .int .i64 0, .string ⟨#[]⟩], .int .i64 3]) ∧ Below w.heap.size w w'

set_option maxRecDepth 100000 in
set_option maxHeartbeats 2000000 in
theorem open_short (a : Option Addr) (cap n : Nat) (w : World) (hn : n < 7) :
    Calls Tryd.prog 36 #[.slice a n cap] w (OpenNo w) := by
  have hV : Below w.heap.size w (w.alloc (.cells #[.int .i64 0, .int .i64 0, .int .i64 0, .int .i64 0, .int .i64 0, .string ⟨#[]⟩] 69)) := (Below.refl _ _).alloc (Nat.le_refl _) _
  have h1 : (n : Int) < 7 := by omega
  go_enter Tryd.func36, Tryd.ntmps36
  go_wp2_with fail
  exact bodyPost_ret (v := .tuple #[.agg #[.int .i64 0, .int .i64 0, .int .i64 0, .int .i64 0, .int .i64 0, .string ⟨#[]⟩], .int .i64 3]) (by simp [results, Tryd.results36, go_sem]) rfl ⟨rfl, hV⟩

/-- What Open says, once the frame is read: its bytes are these, or not. -/
def OpenSays (w : World) (node slot members link seq : Int) (S : ByteArray) (l : List Nat) (e : Ending) (w' : World) : Prop :=
  (Enc l node slot members link seq S → e = .returned (.tuple #[.agg #[.int .i64 node, .int .i64 slot, .int .i64 members, .int .i64 link, .int .i64 seq, .string S], .int .i64 0]) ∧ Below w.heap.size w w') ∧
  (¬ Enc l node slot members link seq S → OpenNo w e w')

theorem cell_other {u : World} {b i j : Nat} {x v : Value} (h : u.cell? ⟨b, j, none⟩ = some x) (hij : i ≠ j) : (u.setCell ⟨b, i, none⟩ v).cell? ⟨b, j, none⟩ = some x := by
  rw [World.cell?_setCell_other (h := by intro e; cases e; exact hij rfl)]; exact h
theorem cell_far {u : World} {b c i j : Nat} {x v : Value} (h : u.cell? ⟨c, j, none⟩ = some x) (hbc : b ≠ c) : (u.setCell ⟨b, i, none⟩ v).cell? ⟨c, j, none⟩ = some x := by
  rw [World.cell?_setCell_other (h := by intro e; cases e; exact hbc rfl)]; exact h
theorem cell_same {u : World} {b i : Nat} {x v : Value} (h : u.cell? ⟨b, i, none⟩ = some x) : (u.setCell ⟨b, i, none⟩ v).cell? ⟨b, i, none⟩ = some v := World.cell?_setCell_same _ _ _ h
theorem Cells6.far {b c i : Nat} {node slot members link seq : Int} {S : ByteArray} {u : World} (h : Cells6 c node slot members link seq S u) (hbc : b ≠ c) (v : Value) : Cells6 c node slot members link seq S (u.setCell ⟨b, i, none⟩ v) :=
  ⟨cell_far h.1 hbc, cell_far h.2.1 hbc, cell_far h.2.2.1 hbc, cell_far h.2.2.2.1 hbc, cell_far h.2.2.2.2.1 hbc, cell_far h.2.2.2.2.2 hbc⟩
theorem Cells6.last {b : Nat} {node slot members link seq seq' : Int} {S S' : ByteArray} {u : World} (h : Cells6 b node slot members link seq S u) : Cells6 b node slot members link seq' S' ((u.setCell ⟨b, 4, none⟩ (.int .i64 seq')).setCell ⟨b, 5, none⟩ (.string S')) :=
  ⟨cell_other (cell_other h.1 (by decide)) (by decide), cell_other (cell_other h.2.1 (by decide)) (by decide), cell_other (cell_other h.2.2.1 (by decide)) (by decide), cell_other (cell_other h.2.2.2.1 (by decide)) (by decide), cell_other (cell_same h.2.2.2.2.1) (by decide), cell_same (cell_other h.2.2.2.2.2 (by decide))⟩
theorem Fz.set {b : Nat} {u : World} (h : Fz b u) (a : Addr) (v : Value) : Fz b (u.setCell a v) := fun o => by simpa using h o

set_option maxRecDepth 100000 in
set_option maxHeartbeats 4000000 in
theorem open_in (b off cap n : Nat) (l0 l1 l2 l3 l4 seq : Nat) (S : ByteArray) (l : List Nat) (w : World) (hl : l.length = n) (hb : ∀ c ∈ l, c < 256) (hrow : ByteRow w (some ⟨b, off, none⟩) l) (h7 : 7 ≤ n) (hn : n ≤ 200) (q0 : l0 < 256) (q1 : l1 < 256) (q2 : l2 < 256) (q3 : l3 < 256) (q4 : l4 < 256) (hS : S.size ≤ 200)
    (y0 : w.cell? ⟨b, off + 0, none⟩ = some (.int .u8 l0)) (y1 : w.cell? ⟨b, off + 1, none⟩ = some (.int .u8 l1)) (y2 : w.cell? ⟨b, off + 2, none⟩ = some (.int .u8 l2)) (y3 : w.cell? ⟨b, off + 3, none⟩ = some (.int .u8 l3)) (y4 : w.cell? ⟨b, off + 4, none⟩ = some (.int .u8 l4))
    (h : (l4 = 0 ∧ seq = 0 ∧ S = ⟨#[]⟩) ∨ (1 ≤ l4 ∧ 9 ≤ n ∧ seq < 256 ∧ w.cell? ⟨b, off + 5, none⟩ = some (.int .u8 seq) ∧ n ≤ cap ∧ ∀ u : World, Below w.heap.size w u → (convert 55 9 (.slice (some ⟨b, off + 7, none⟩) (n - 2 - 7) (cap - 7))).run Tryd.prog u = .ok (.string S) u)) :
    Calls Tryd.prog 36 #[.slice (some ⟨b, off, none⟩) n cap] w (OpenSays w l0 l1 ((l2 * 256 + l3 : Nat) : Int) ((l4 : Int) - 1) seq S l) := by
  have hor : (l2 : Int) * 256 + (l3 : Int) = ((l2 * 256 + l3 : Nat) : Int) := by omega
  generalize l2 * 256 + l3 = mm at hor ⊢
  obtain ⟨V, hVe⟩ : ∃ V, V = w.alloc (.cells #[.int .i64 0, .int .i64 0, .int .i64 0, .int .i64 0, .int .i64 0, .string ⟨#[]⟩] 69) := ⟨_, rfl⟩
  have hV : Below w.heap.size w V := by rw [hVe]; exact (Below.refl _ _).alloc (Nat.le_refl _) _
  have e1 : decide ((n : Int) < 7) = false := decide_eq_false (by omega)
  have k0 : (l0 : Int) < 256 := by omega
  have k1 : (l1 : Int) < 256 := by omega
  have k2 : (l2 : Int) < 256 := by omega
  have k3 : (l3 : Int) < 256 := by omega
  have k4 : (l4 : Int) < 256 := by omega
  have y0' := cell_keep y0 hV
  have y1' := cell_keep y1 hV
  have y2' := cell_keep y2 hV
  have y3' := cell_keep y3 hV
  have y4' := cell_keep y4 hV
  have hbl := cell_lt y0
  simp only [Nat.add_zero] at y0'
  have HVE : Hid (V = w.alloc (.cells #[.int .i64 0, .int .i64 0, .int .i64 0, .int .i64 0, .int .i64 0, .string ⟨#[]⟩] 69)) := hVe
  have HL : Hid (l.length = n) := hl
  have HB : Hid (∀ c ∈ l, c < 256) := hb
  have HR : Hid (ByteRow w (some ⟨b, off, none⟩) l) := hrow
  clear y0 y1 y2 y3 y4 hVe hl hb hrow
  go_enter Tryd.func36, Tryd.ntmps36
  go_wp2_with fail
  rw [← HVE.out]
  have hbV : b < V.heap.size := cell_lt y0'
  go_region
  clear y0' y1' y2' y3' y4' hbV hor
  obtain rfl := HVE.out
  clear HVE
  have hz1 : (w.alloc (.cells #[.int .i64 0, .int .i64 0, .int .i64 0, .int .i64 0, .int .i64 0, .string ⟨#[]⟩] 69)).heap.size = w.heap.size + 1 := by simp
  have hA : Below (w.alloc (.cells #[.int .i64 0, .int .i64 0, .int .i64 0, .int .i64 0, .int .i64 0, .string ⟨#[]⟩] 69)).heap.size (w.alloc (.cells #[.int .i64 0, .int .i64 0, .int .i64 0, .int .i64 0, .int .i64 0, .string ⟨#[]⟩] 69)) ((w.alloc (.cells #[.int .i64 0, .int .i64 0, .int .i64 0, .int .i64 0, .int .i64 0, .string ⟨#[]⟩] 69)).alloc (.cells #[.int .i64 l0, .int .i64 l1, .int .i64 mm, .int .i64 ((l4 : Int) - 1), .int .i64 0, .string ⟨#[]⟩] 69)).drew := ((Below.refl _ _).alloc (Nat.le_refl _) _).drew
  have hZ := (box6 0 0 0 0 0 ⟨#[]⟩ w 69).below hA
  have hF : Cells6 (w.heap.size + 1) l0 l1 mm ((l4 : Int) - 1) 0 ⟨#[]⟩ ((w.alloc (.cells #[.int .i64 0, .int .i64 0, .int .i64 0, .int .i64 0, .int .i64 0, .string ⟨#[]⟩] 69)).alloc (.cells #[.int .i64 l0, .int .i64 l1, .int .i64 mm, .int .i64 ((l4 : Int) - 1), .int .i64 0, .string ⟨#[]⟩] 69)).drew := by
    have := box6 l0 l1 mm ((l4 : Int) - 1) 0 ⟨#[]⟩ (w.alloc (.cells #[.int .i64 0, .int .i64 0, .int .i64 0, .int .i64 0, .int .i64 0, .string ⟨#[]⟩] 69)) 69
    rw [hz1] at this
    exact this
  have fz0 := (Fz.new w #[.int .i64 0, .int .i64 0, .int .i64 0, .int .i64 0, .int .i64 0, .string ⟨#[]⟩] 69).below hA (by simp)
  have fz1 : Fz (w.heap.size + 1) ((w.alloc (.cells #[.int .i64 0, .int .i64 0, .int .i64 0, .int .i64 0, .int .i64 0, .string ⟨#[]⟩] 69)).alloc (.cells #[.int .i64 l0, .int .i64 l1, .int .i64 mm, .int .i64 ((l4 : Int) - 1), .int .i64 0, .string ⟨#[]⟩] 69)).drew := by
    have := Fz.new (w.alloc (.cells #[.int .i64 0, .int .i64 0, .int .i64 0, .int .i64 0, .int .i64 0, .string ⟨#[]⟩] 69)) #[.int .i64 l0, .int .i64 l1, .int .i64 mm, .int .i64 ((l4 : Int) - 1), .int .i64 0, .string ⟨#[]⟩] 69
    rw [hz1] at this
    exact this
  have hU := below_on hV hA
  have hUz : w.heap.size + 2 = ((w.alloc (.cells #[.int .i64 0, .int .i64 0, .int .i64 0, .int .i64 0, .int .i64 0, .string ⟨#[]⟩] 69)).alloc (.cells #[.int .i64 l0, .int .i64 l1, .int .i64 mm, .int .i64 ((l4 : Int) - 1), .int .i64 0, .string ⟨#[]⟩] 69)).drew.heap.size := by simp
  rw [hz1]
  clear hA hV hz1
  generalize ((w.alloc (.cells #[.int .i64 0, .int .i64 0, .int .i64 0, .int .i64 0, .int .i64 0, .string ⟨#[]⟩] 69)).alloc (.cells #[.int .i64 l0, .int .i64 l1, .int .i64 mm, .int .i64 ((l4 : Int) - 1), .int .i64 0, .string ⟨#[]⟩] 69)).drew = U at hZ hF fz0 fz1 hU hUz ⊢
  obtain ⟨f0, f1, f2, f3, f4, f5⟩ := hF.below (Below.refl _ _)
  rcases h with ⟨rfl, rfl, rfl⟩ | ⟨h4, h9, hs, ys, hcap, hcv⟩
  · have e5 : (((0 : Nat) : Int) - 1) = -1 := rfl
    have e6 : ((0 : Nat) : Int) = 0 := rfl
    rw [e5] at hF f3
    simp only [e6]
    clear e5 e6
    go_wp2_with fail
    by_cases hm : mayB l0 l1 mm (-1) 0 (⟨#[]⟩ : ByteArray).size = true
    · have hlt := encB_lt hm
      have hln := encB_len hm
      by_cases heq : encB l0 l1 mm (-1) 0 (⟨#[]⟩ : ByteArray) = l
      · refine (refBytes_yes l0 l1 mm (-1) 0 (⟨#[]⟩ : ByteArray) _ hm).mono ?_
        rw [heq]
        rintro e w3 ⟨v, rfl, ho, hb3⟩
        replace hZ := hZ.below hb3
        replace fz0 := fz0.below hb3 (by omega)
        replace hF := hF.below hb3
        replace hU := below_on hU hb3
        have c1 := text_own ho (by rw [← heq]; omega) w3 (Below.refl _ _)
        have c3 := conv_row (HR.out.below hU) cap
        rw [HL.out] at c3
        clear hb3 ho
        obtain ⟨z0, z1, z2, z3, z4, z5⟩ := hZ.below (Below.refl _ _)
        have g0 := fz0 0
        have g1 := fz0 1
        have g2 := fz0 2
        have g3 := fz0 3
        have g4 := fz0 4
        have g5 := fz0 5
        obtain ⟨f0, f1, f2, f3, f4, f5⟩ := hF.below (Below.refl _ _)
        go_wp2_with fail
        refine bodyPost_ret (v := .tuple #[.agg #[.int .i64 l0, .int .i64 l1, .int .i64 mm, .int .i64 (-1), .int .i64 0, .string ⟨#[]⟩], .int .i64 0]) (by simp [results, Tryd.results36, go_sem, z0, z1, z2, z3, z4, z5]) rfl ⟨fun _ => ⟨rfl, (((((hU.setCell (Nat.le_refl _) _).setCell (Nat.le_refl _) _).setCell (Nat.le_refl _) _).setCell (Nat.le_refl _) _).setCell (Nat.le_refl _) _).setCell (Nat.le_refl _) _⟩, fun hne => absurd ⟨hm, heq.symm⟩ hne⟩
      · refine (refBytes_yes l0 l1 mm (-1) 0 (⟨#[]⟩ : ByteArray) _ hm).mono ?_
        have HNE : Hid (¬ Enc l l0 l1 mm (-1) 0 (⟨#[]⟩ : ByteArray)) := fun he => heq he.2.symm
        generalize encB l0 l1 mm (-1) 0 (⟨#[]⟩ : ByteArray) = m at heq hlt hln ⊢
        clear hm
        rintro e w3 ⟨v, rfl, ho, hb3⟩
        replace hZ := hZ.below hb3
        replace fz0 := fz0.below hb3 (by omega)
        replace hU := below_on hU hb3
        have c1 := text_own ho (by omega) w3 (Below.refl _ _)
        have c3 := conv_row (HR.out.below hU) cap
        rw [HL.out] at c3
        have n1 : ((strN m).toList == (strN l).toList) = false := toList_ne (fun e => heq (strN_inj hlt HB.out e))
        have n2 : ((strN m).toList != (strN l).toList) = true := by rw [bne, n1]; rfl
        clear hb3 ho hF heq hlt hln
        obtain ⟨z0, z1, z2, z3, z4, z5⟩ := hZ.below (Below.refl _ _)
        have g0 := fz0 0
        have g1 := fz0 1
        have g2 := fz0 2
        have g3 := fz0 3
        have g4 := fz0 4
        have g5 := fz0 5
        go_wp2_with fail
        refine bodyPost_ret (v := .tuple #[.agg #[.int .i64 0, .int .i64 0, .int .i64 0, .int .i64 0, .int .i64 0, .string ⟨#[]⟩], .int .i64 3]) (by simp [results, Tryd.results36, go_sem, z0, z1, z2, z3, z4, z5]) rfl ⟨fun he => absurd he HNE.out, fun _ => ⟨rfl, (((((hU.setCell (Nat.le_refl _) _).setCell (Nat.le_refl _) _).setCell (Nat.le_refl _) _).setCell (Nat.le_refl _) _).setCell (Nat.le_refl _) _).setCell (Nat.le_refl _) _⟩⟩
    · refine (refBytes_no l0 l1 mm (-1) 0 (⟨#[]⟩ : ByteArray) _ (Nat.zero_le _) (by simpa using hm)).mono ?_
      have HNE : Hid (¬ Enc l l0 l1 mm (-1) 0 (⟨#[]⟩ : ByteArray)) := fun he => hm he.1
      clear hm
      rintro e w3 ⟨rfl, hb3⟩
      replace hZ := hZ.below hb3
      replace fz0 := fz0.below hb3 (by omega)
      replace hU := below_on hU hb3
      clear hb3 hF
      obtain ⟨z0, z1, z2, z3, z4, z5⟩ := hZ.below (Below.refl _ _)
      have g0 := fz0 0
      have g1 := fz0 1
      have g2 := fz0 2
      have g3 := fz0 3
      have g4 := fz0 4
      have g5 := fz0 5
      go_wp2_with fail
      refine bodyPost_ret (v := .tuple #[.agg #[.int .i64 0, .int .i64 0, .int .i64 0, .int .i64 0, .int .i64 0, .string ⟨#[]⟩], .int .i64 3]) (by simp [results, Tryd.results36, go_sem, z0, z1, z2, z3, z4, z5]) rfl ⟨fun he => absurd he HNE.out, fun _ => ⟨rfl, (((((hU.setCell (Nat.le_refl _) _).setCell (Nat.le_refl _) _).setCell (Nat.le_refl _) _).setCell (Nat.le_refl _) _).setCell (Nat.le_refl _) _).setCell (Nat.le_refl _) _⟩⟩
  · have e3 : (1 : Int) ≤ (l4 : Int) := by omega
    have e4 : decide ((n : Int) < 9) = false := decide_eq_false (by omega)
    have cv1 := hcv U hU
    have cv2 := hcv U.drew hU.drew
    have cv3 := hcv (U.setCell ⟨w.heap.size + 1, 4, none⟩ (.int .i64 seq)).drew (hU.setCell (Nat.le_succ _) _).drew
    have ys' := cell_keep ys hU
    have t4 := fz1 4
    have t5 := fz1 5
    have e7 : (9 : Int) ≤ (n : Int) := by omega
    have e8 : (n : Int) ≤ (cap : Int) := by omega
    have e9 : (n : Int) ≤ 200 := by omega
    have k5 : (seq : Int) < 256 := by omega
    clear hcv ys
    go_wp2_with fail
    go_region
    have hU2 : Below w.heap.size w ((U.setCell ⟨w.heap.size + 1, 4, none⟩ (.int .i64 seq)).setCell ⟨w.heap.size + 1, 5, none⟩ (.string S)).drew := ((hU.setCell (p := ⟨w.heap.size + 1, 4, none⟩) (Nat.le_succ _) _).setCell (p := ⟨w.heap.size + 1, 5, none⟩) (Nat.le_succ _) _).drew
    have hZ2 : Cells6 w.heap.size 0 0 0 0 0 ⟨#[]⟩ ((U.setCell ⟨w.heap.size + 1, 4, none⟩ (.int .i64 seq)).setCell ⟨w.heap.size + 1, 5, none⟩ (.string S)).drew := (hZ.far (Nat.succ_ne_self _) _).far (Nat.succ_ne_self _) _
    have hF2 : Cells6 (w.heap.size + 1) l0 l1 mm ((l4 : Int) - 1) seq S ((U.setCell ⟨w.heap.size + 1, 4, none⟩ (.int .i64 seq)).setCell ⟨w.heap.size + 1, 5, none⟩ (.string S)).drew := hF.last
    have fz2 : Fz w.heap.size ((U.setCell ⟨w.heap.size + 1, 4, none⟩ (.int .i64 seq)).setCell ⟨w.heap.size + 1, 5, none⟩ (.string S)).drew := (fz0.set _ _).set _ _
    have hUz2 : w.heap.size + 2 = ((U.setCell ⟨w.heap.size + 1, 4, none⟩ (.int .i64 seq)).setCell ⟨w.heap.size + 1, 5, none⟩ (.string S)).drew.heap.size := by simpa using hUz
    clear hU hZ hF fz0 fz1 hUz cv1 cv2 cv3 ys' t4 t5 f0 f1 f2 f3 f4 f5
    generalize ((U.setCell ⟨w.heap.size + 1, 4, none⟩ (.int .i64 seq)).setCell ⟨w.heap.size + 1, 5, none⟩ (.string S)).drew = U2 at hU2 hZ2 hF2 fz2 hUz2 ⊢
    have hU := hU2
    have hZ := hZ2
    have hF := hF2
    have fz0 := fz2
    clear hU2 hZ2 fz2
    obtain ⟨f0, f1, f2, f3, f4, f5⟩ := hF2
    go_wp2_with fail
    by_cases hm : mayB l0 l1 mm ((l4 : Int) - 1) seq S.size = true
    · have hlt := encB_lt hm
      have hln := encB_len hm
      by_cases heq : encB l0 l1 mm ((l4 : Int) - 1) seq S = l
      · refine (refBytes_yes l0 l1 mm ((l4 : Int) - 1) seq S _ hm).mono ?_
        rw [heq]
        rintro e w3 ⟨v, rfl, ho, hb3⟩
        replace hZ := hZ.below hb3
        replace fz0 := fz0.below hb3 (by omega)
        replace hF := hF.below hb3
        replace hU := below_on hU hb3
        have c1 := text_own ho (by rw [← heq]; omega) w3 (Below.refl _ _)
        have c3 := conv_row (HR.out.below hU) cap
        rw [HL.out] at c3
        clear hb3 ho
        obtain ⟨z0, z1, z2, z3, z4, z5⟩ := hZ.below (Below.refl _ _)
        have g0 := fz0 0
        have g1 := fz0 1
        have g2 := fz0 2
        have g3 := fz0 3
        have g4 := fz0 4
        have g5 := fz0 5
        obtain ⟨f0, f1, f2, f3, f4, f5⟩ := hF.below (Below.refl _ _)
        go_wp2_with fail
        refine bodyPost_ret (v := .tuple #[.agg #[.int .i64 l0, .int .i64 l1, .int .i64 mm, .int .i64 ((l4 : Int) - 1), .int .i64 seq, .string S], .int .i64 0]) (by simp [results, Tryd.results36, go_sem, z0, z1, z2, z3, z4, z5]) rfl ⟨fun _ => ⟨rfl, (((((hU.setCell (Nat.le_refl _) _).setCell (Nat.le_refl _) _).setCell (Nat.le_refl _) _).setCell (Nat.le_refl _) _).setCell (Nat.le_refl _) _).setCell (Nat.le_refl _) _⟩, fun hne => absurd ⟨hm, heq.symm⟩ hne⟩
      · refine (refBytes_yes l0 l1 mm ((l4 : Int) - 1) seq S _ hm).mono ?_
        have HNE : Hid (¬ Enc l l0 l1 mm ((l4 : Int) - 1) seq S) := fun he => heq he.2.symm
        generalize encB l0 l1 mm ((l4 : Int) - 1) seq S = m at heq hlt hln ⊢
        clear hm
        rintro e w3 ⟨v, rfl, ho, hb3⟩
        replace hZ := hZ.below hb3
        replace fz0 := fz0.below hb3 (by omega)
        replace hU := below_on hU hb3
        have c1 := text_own ho (by omega) w3 (Below.refl _ _)
        have c3 := conv_row (HR.out.below hU) cap
        rw [HL.out] at c3
        have n1 : ((strN m).toList == (strN l).toList) = false := toList_ne (fun e => heq (strN_inj hlt HB.out e))
        have n2 : ((strN m).toList != (strN l).toList) = true := by rw [bne, n1]; rfl
        clear hb3 ho hF heq hlt hln
        obtain ⟨z0, z1, z2, z3, z4, z5⟩ := hZ.below (Below.refl _ _)
        have g0 := fz0 0
        have g1 := fz0 1
        have g2 := fz0 2
        have g3 := fz0 3
        have g4 := fz0 4
        have g5 := fz0 5
        go_wp2_with fail
        refine bodyPost_ret (v := .tuple #[.agg #[.int .i64 0, .int .i64 0, .int .i64 0, .int .i64 0, .int .i64 0, .string ⟨#[]⟩], .int .i64 3]) (by simp [results, Tryd.results36, go_sem, z0, z1, z2, z3, z4, z5]) rfl ⟨fun he => absurd he HNE.out, fun _ => ⟨rfl, (((((hU.setCell (Nat.le_refl _) _).setCell (Nat.le_refl _) _).setCell (Nat.le_refl _) _).setCell (Nat.le_refl _) _).setCell (Nat.le_refl _) _).setCell (Nat.le_refl _) _⟩⟩
    · refine (refBytes_no l0 l1 mm ((l4 : Int) - 1) seq S _ (by unfold maxLen; omega) (by simpa using hm)).mono ?_
      have HNE : Hid (¬ Enc l l0 l1 mm ((l4 : Int) - 1) seq S) := fun he => hm he.1
      clear hm
      rintro e w3 ⟨rfl, hb3⟩
      replace hZ := hZ.below hb3
      replace fz0 := fz0.below hb3 (by omega)
      replace hU := below_on hU hb3
      clear hb3 hF
      obtain ⟨z0, z1, z2, z3, z4, z5⟩ := hZ.below (Below.refl _ _)
      have g0 := fz0 0
      have g1 := fz0 1
      have g2 := fz0 2
      have g3 := fz0 3
      have g4 := fz0 4
      have g5 := fz0 5
      go_wp2_with fail
      refine bodyPost_ret (v := .tuple #[.agg #[.int .i64 0, .int .i64 0, .int .i64 0, .int .i64 0, .int .i64 0, .string ⟨#[]⟩], .int .i64 3]) (by simp [results, Tryd.results36, go_sem, z0, z1, z2, z3, z4, z5]) rfl ⟨fun he => absurd he HNE.out, fun _ => ⟨rfl, (((((hU.setCell (Nat.le_refl _) _).setCell (Nat.le_refl _) _).setCell (Nat.le_refl _) _).setCell (Nat.le_refl _) _).setCell (Nat.le_refl _) _).setCell (Nat.le_refl _) _⟩⟩
end Go.Proofs.YtdboppcnnjacmaaDoor
