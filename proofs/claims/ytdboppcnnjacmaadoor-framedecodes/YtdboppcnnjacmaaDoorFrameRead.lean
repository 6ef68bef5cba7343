/- The program's read: a frame's numbers and Data from where they stand. -/
import Derived.Test.YtdboppcnnjacmaaDoorFrameEncode
import Derived.Laws.BytesArg
import Derived.BigRegion
import Derived.Test.YtdboppcnnjacmaaDoorFrameBits
namespace Go.Proofs.YtdboppcnnjacmaaDoor
open Go.RowKit Go.Lib

/-- Bytes as a text. -/
def strN (l : List Nat) : ByteArray := strOfNums (l.map fun (n : Nat) => (n : Int))
theorem strN_size (l : List Nat) : (strN l).size = l.length := by simp [strN, strOfNums_size]
theorem nats_strN (l : List Nat) (h : ∀ c ∈ l, c < 256) : natsOf (strN l) = l := by
  simp only [natsOf, strN, strOfNums_data, List.map_map]
  refine (List.map_congr_left fun c hc => ?_).trans (List.map_id l)
  have := h c hc
  simp only [Function.comp, Int.toNat_natCast, UInt8.toNat_ofNat', id]
  omega
theorem strN_nats (S : ByteArray) : strN (natsOf S) = S := by
  have h : (strN (natsOf S)).data.toList = S.data.toList := by
    simp only [natsOf, strN, strOfNums_data, List.map_map]
    refine (List.map_congr_left fun c _ => ?_).trans (List.map_id _)
    simp
  exact Go.WideShapes.bytes_inj h
theorem strN_nil : strN [] = ByteArray.empty := rfl

/-- A text that is cut out of bytes. -/
theorem run_strN {w : World} {b off : Nat} {l : List Nat} (h : ∀ j (h : j < l.length), w.cell? ⟨b, off + j, none⟩ = some (.int .u8 (l[j] : Nat))) (cap : Nat) : (convert 55 9 (.slice (some ⟨b, off, none⟩) l.length cap)).run Tryd.prog w = .ok (.string (strN l)) w := by
  refine run_convert_bytes_arg w 55 5 Tryd.underlying55 Tryd.underlying5 b off l.length cap (l.map fun (n : Nat) => (n : Int)) (by simp) (fun i hi => ?_) 9 Tryd.underlying9
  rw [h i hi]
  simp [hi]

set_option maxRecDepth 100000 in
set_option maxHeartbeats 2000000 in
theorem read_out (a : Option Addr) (cap n : Nat) (w : World) (hn : n < 7 ∨ 49 < n) (hl : n ≤ 1000) :
    Calls Tryd.prog 58 #[.slice a n cap] w fun e w' => e = .returned (.agg #[.int .i64 0, .int .i64 0, .int .i64 0, .int .i64 0, .int .i64 0, .string ⟨#[]⟩]) ∧ Below w.heap.size w w' := by
  have hV : Below w.heap.size w (w.alloc (.cells #[.int .i64 0, .int .i64 0, .int .i64 0, .int .i64 0, .int .i64 0, .string ⟨#[]⟩] 67)) := (Below.refl _ _).alloc (Nat.le_refl _) _
  rcases hn with h | h
  · have h1 : (n : Int) < 7 := by omega
    go_enter Tryd.func58, Tryd.ntmps58
    go_wp2_with fail
    exact bodyPost_ret (v := .agg #[.int .i64 0, .int .i64 0, .int .i64 0, .int .i64 0, .int .i64 0, .string ⟨#[]⟩]) (by simp [results, Tryd.results58, go_sem]) rfl ⟨rfl, hV⟩
  · have h1 : (49 : Int) < (n : Int) := by omega
    have h2 : decide ((n : Int) < 7) = false := decide_eq_false (by omega)
    go_enter Tryd.func58, Tryd.ntmps58
    go_wp2_with fail
    exact bodyPost_ret (v := .agg #[.int .i64 0, .int .i64 0, .int .i64 0, .int .i64 0, .int .i64 0, .string ⟨#[]⟩]) (by simp [results, Tryd.results58, go_sem]) rfl ⟨rfl, hV⟩

/-- What stands behind a frame's first numbers, by how many bytes there are. -/
def ReadRest (w : World) (b off cap n l4 : Nat) (seq : Nat) (S : ByteArray) : Prop :=
  ((l4 = 0 ∨ n < 9) ∧ seq = 0 ∧ S = ⟨#[]⟩) ∨ (1 ≤ l4 ∧ 9 ≤ n ∧ seq < 256 ∧ w.cell? ⟨b, off + 5, none⟩ = some (.int .u8 seq) ∧ n ≤ cap ∧ ∀ u : World, Below w.heap.size w u → (convert 55 9 (.slice (some ⟨b, off + 7, none⟩) (n - 2 - 7) (cap - 7))).run Tryd.prog u = .ok (.string S) u)

set_option maxRecDepth 100000 in
set_option maxHeartbeats 4000000 in
theorem read_in (b off cap n : Nat) (l0 l1 l2 l3 l4 seq : Nat) (S : ByteArray) (w : World) (h7 : 7 ≤ n) (h49 : n ≤ 49) (q0 : l0 < 256) (q1 : l1 < 256) (q2 : l2 < 256) (q3 : l3 < 256) (q4 : l4 < 256)
    (y0 : w.cell? ⟨b, off + 0, none⟩ = some (.int .u8 l0)) (y1 : w.cell? ⟨b, off + 1, none⟩ = some (.int .u8 l1)) (y2 : w.cell? ⟨b, off + 2, none⟩ = some (.int .u8 l2)) (y3 : w.cell? ⟨b, off + 3, none⟩ = some (.int .u8 l3)) (y4 : w.cell? ⟨b, off + 4, none⟩ = some (.int .u8 l4))
    (h : ReadRest w b off cap n l4 seq S) :
    Calls Tryd.prog 58 #[.slice (some ⟨b, off, none⟩) n cap] w fun e w' => e = .returned (.agg #[.int .i64 l0, .int .i64 l1, .int .i64 ((l2 * 256 + l3 : Nat) : Int), .int .i64 ((l4 : Int) - 1), .int .i64 seq, .string S]) ∧ Below w.heap.size w w' := by
  have hor := or_bytes l2 l3 q2 q3
  generalize l2 * 256 + l3 = mm at hor ⊢
  obtain ⟨V, hVe⟩ : ∃ V, V = w.alloc (.cells #[.int .i64 0, .int .i64 0, .int .i64 0, .int .i64 0, .int .i64 0, .string ⟨#[]⟩] 67) := ⟨_, rfl⟩
  have hV : Below w.heap.size w V := by rw [hVe]; exact (Below.refl _ _).alloc (Nat.le_refl _) _
  have e1 : decide ((n : Int) < 7) = false := decide_eq_false (by omega)
  have e2 : decide ((49 : Int) < (n : Int)) = false := decide_eq_false (by omega)
  have k0 : (l0 : Int) < 256 := by omega
  have k1 : (l1 : Int) < 256 := by omega
  have k2 : (l2 : Int) < 256 := by omega
  have k3 : (l3 : Int) < 256 := by omega
  have k4 : (l4 : Int) < 256 := by omega
  have y0' := cell_keep y0 hV
  have y1' := cell_keep y1 hV
  have y2' := cell_keep y2 hV
  have y3' := cell_keep y3 hV
  have y4' := cell_keep y4 hV
  have hbl := cell_lt y0
  simp only [Nat.add_zero] at y0'
  have HVE : Hid (V = w.alloc (.cells #[.int .i64 0, .int .i64 0, .int .i64 0, .int .i64 0, .int .i64 0, .string ⟨#[]⟩] 67)) := hVe
  have H : Hid (ReadRest w b off cap n l4 seq S) := h
  clear y0 y1 y2 y3 y4 hVe h
  go_enter Tryd.func58, Tryd.ntmps58
  go_wp2_with fail
  rw [← HVE.out]
  have hbV : b < V.heap.size := cell_lt y0'
  go_region
  clear y0' y1' y2' y3' y4' hbV hor
  obtain rfl := HVE.out
  rcases H.out with ⟨h4, rfl, rfl⟩ | ⟨h4, h9, hs, ys, hcap, hcv⟩
  · rcases h4 with rfl | h4
    · go_wp2_with fail
      exact bodyPost_ret (v := .agg #[.int .i64 l0, .int .i64 l1, .int .i64 mm, .int .i64 (-1), .int .i64 0, .string ⟨#[]⟩]) (by simp [results, Tryd.results58, go_sem]) rfl ⟨rfl, (((Below.refl _ _).alloc (Nat.le_refl _) _).alloc (by simp) _).drew⟩
    · by_cases hl4 : l4 = 0
      · subst hl4
        go_wp2_with fail
        exact bodyPost_ret (v := .agg #[.int .i64 l0, .int .i64 l1, .int .i64 mm, .int .i64 (-1), .int .i64 0, .string ⟨#[]⟩]) (by simp [results, Tryd.results58, go_sem]) rfl ⟨rfl, (((Below.refl _ _).alloc (Nat.le_refl _) _).alloc (by simp) _).drew⟩
      · have e3 : ((l4 : Int) - 1 != -1) = true := by simp; omega
        have e4 : decide ((9 : Int) ≤ (n : Int)) = false := decide_eq_false (by omega)
        go_wp2_with fail
        exact bodyPost_ret (v := .agg #[.int .i64 l0, .int .i64 l1, .int .i64 mm, .int .i64 ((l4 : Int) - 1), .int .i64 0, .string ⟨#[]⟩]) (by simp [results, Tryd.results58, go_sem]) rfl ⟨rfl, (((Below.refl _ _).alloc (Nat.le_refl _) _).alloc (by simp) _).drew⟩
  · have e3 : ((l4 : Int) - 1 != -1) = true := by simp; omega
    have e4 : (9 : Int) ≤ (n : Int) := by omega
    have HCV : Hid (∀ u : World, Below w.heap.size w u → (convert 55 9 (.slice (some ⟨b, off + 7, none⟩) (n - 2 - 7) (cap - 7))).run Tryd.prog u = .ok (.string S) u) := hcv
    clear hcv
    go_wp2_with fail
    rw [HCV.out _ (((Below.refl _ _).alloc (Nat.le_refl _) _).alloc (by simp) _).drew]
    go_wp2_with fail
    exact bodyPost_ret (v := .agg #[.int .i64 l0, .int .i64 l1, .int .i64 mm, .int .i64 ((l4 : Int) - 1), .int .i64 seq, .string S]) (by simp [results, Tryd.results58, go_sem]) rfl ⟨rfl, (((Below.refl _ _).alloc (Nat.le_refl _) _).alloc (by simp) _).drew⟩
end Go.Proofs.YtdboppcnnjacmaaDoor
