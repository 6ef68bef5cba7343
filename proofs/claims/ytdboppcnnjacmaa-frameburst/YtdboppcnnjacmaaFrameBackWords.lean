/- FrameBack's words, walked: sent, and the statement itself. -/
import Derived.Test.YtdboppcnnjacmaaFrameDecode
import Derived.Lib.SlBytesConst
namespace Go.Proofs.Ytdboppcnnjacmaa
open Go.RowKit Go.Lib

set_option maxRecDepth 100000 in
theorem nine_sum : crcOf 65535 [49, 50, 51, 52, 53, 54, 55, 56, 57] = 10673 := by decide +kernel

theorem row_marked (U : World) (l : List Nat) (cur : Array Value) (hc : cur.toList = by8 l) (t : TypeId) (f : Nat × Nat) : ByteRow (U.alloc (.cells cur t f)) (some ⟨U.heap.size, 0, none⟩) l := fun _ =>
  ⟨U.heap.size, 0, rfl, by simp, fun j hj => by
    have h2 : (by8 l)[j]? = some (.int .u8 (l[j] : Nat)) := by simp [by8, hj]
    rw [← hc] at h2
    have h3 : (U.alloc (.cells cur t f)).heap[U.heap.size]? = some (.cells cur t f) := by
      show (U.heap.push (.cells cur t f))[U.heap.size]? = _
      simp
    unfold World.cell?
    rw [h3]
    simp only [Nat.zero_add]
    rw [Array.getElem?_toList] at h2
    exact h2⟩

set_option maxRecDepth 100000 in
set_option maxHeartbeats 4000000 in
theorem sent_any (w : World) : Calls Try.prog 16 #[] w fun e w' => e = .returned (.bool true) ∧ Below w.heap.size w w' := by
  have hm : mayB 2 5 300 1 9 (⟨#[120]⟩ : ByteArray).size = true := by decide +kernel
  have hV : Below w.heap.size w (w.alloc (.cells #[.int .i64 2, .int .i64 5, .int .i64 300, .int .i64 1, .int .i64 9, .string ⟨#[120]⟩] 44)) := (Below.refl _ _).alloc (Nat.le_refl _) _
  have hC := box6 2 5 300 1 9 ⟨#[120]⟩ w 44
  have HE : Hid (∀ u, Calls Try.prog 15 #[.agg #[.int .i64 2, .int .i64 5, .int .i64 300, .int .i64 1, .int .i64 9, .string ⟨#[120]⟩]] u fun e w' => ∃ v, e = .returned (.tuple #[v, .nilIface]) ∧ OwnB w' u.heap.size v (encB 2 5 300 1 9 ⟨#[120]⟩) ∧ Below u.heap.size u w') := fun u => encode_yes 2 5 300 1 9 ⟨#[120]⟩ u hm
  have hL := encB_len hm
  have HEN : Hid (Enc (encB 2 5 300 1 9 ⟨#[120]⟩) 2 5 300 1 9 ⟨#[120]⟩) := ⟨hm, rfl⟩
  clear hm
  generalize encB 2 5 300 1 9 ⟨#[120]⟩ = L at HE HEN hL
  go_enter Try.func16, Try.ntmps16
  go_wp2_with fail
  generalize w.alloc (.cells #[.int .i64 2, .int .i64 5, .int .i64 300, .int .i64 1, .int .i64 9, .string ⟨#[120]⟩] 44) = V at hV hC ⊢
  refine (HE.out _).mono ?_
  clear HE
  rintro e w1 ⟨v, rfl, ho, hb1⟩
  replace hV := below_on hV hb1
  replace hC := hC.below hb1
  clear hb1
  obtain ⟨g, c2, rfl, hg, hrow⟩ := ho.row (by omega)
  have hcap : L.length ≤ c2 := ho.cap_le
  have HD := decode_yes _ c2 L w1 hrow hcap _ _ _ _ _ _ HEN.out
  have HD' : Hid (Calls Try.prog 17 _ w1 _) := HD
  clear HD hrow ho HEN hg
  generalize L.length = n at HD' hL hcap ⊢
  go_wp2_with fail
  refine HD'.out.mono ?_
  clear HD'
  rintro e w2 ⟨rfl, hb2⟩
  replace hV := below_on hV hb2
  replace hC := hC.below hb2
  clear hb2
  have hW : Below w2.heap.size w2 (w2.alloc (.cells #[.int .i64 2, .int .i64 5, .int .i64 300, .int .i64 1, .int .i64 9, .string ⟨#[120]⟩] 44)) := (Below.refl _ _).alloc (Nat.le_refl _) _
  have hwz : w.heap.size < w2.heap.size := cell_lt hC.1
  replace hC := hC.below hW
  obtain ⟨x0, x1, x2, x3, x4, x5⟩ := hC
  go_wp2_with fail
  have kc := run_convert_bytes_const (P := Try.prog) (w2.alloc (.cells #[.int .i64 2, .int .i64 5, .int .i64 300, .int .i64 1, .int .i64 9, .string ⟨#[120]⟩] 44)) 35 5 #[.int .u8 49, .int .u8 50, .int .u8 51, .int .u8 52, .int .u8 53, .int .u8 54, .int .u8 55, .int .u8 56, .int .u8 57] 9 9 Try.underlying35 Try.underlying5
  have hU : (w2.alloc (.cells #[.int .i64 2, .int .i64 5, .int .i64 300, .int .i64 1, .int .i64 9, .string ⟨#[120]⟩] 44)).heap.size = w2.heap.size + 1 := by simp
  generalize w2.alloc (.cells #[.int .i64 2, .int .i64 5, .int .i64 300, .int .i64 1, .int .i64 9, .string ⟨#[120]⟩] 44) = U at kc hU hW ⊢
  rw [hU] at kc
  rw [kc]
  clear kc
  have hrow := row_marked U [49, 50, 51, 52, 53, 54, 55, 56, 57] #[.int .u8 49, .int .u8 50, .int .u8 51, .int .u8 52, .int .u8 53, .int .u8 54, .int .u8 55, .int .u8 56, .int .u8 57] rfl 5 (9, 9 + 1)
  rw [hU] at hrow
  have HS := sum_any _ 9 [49, 50, 51, 52, 53, 54, 55, 56, 57] _ hrow (by simp) (by simp)
  rw [nine_sum] at HS
  have HS' : Hid (Calls Try.prog 25 _ _ _) := HS
  clear HS hrow x0 x1 x2 x3 x4 x5
  go_wp2_with fail
  refine HS'.out.mono ?_
  rintro e w3 ⟨rfl, rfl⟩
  go_wp2_with fail
  go_ret
  exact ⟨rfl, (below_on hV hW).alloc (below_on hV hW).size _⟩
end Go.Proofs.Ytdboppcnnjacmaa
