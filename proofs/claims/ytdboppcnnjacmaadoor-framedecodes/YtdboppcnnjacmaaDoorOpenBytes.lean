/- Bytes that came in, opened. -/
import Derived.Test.YtdboppcnnjacmaaDoorProg
import Derived.Test.YtdboppcnnjacmaaDoorOpenRows
import Derived.Test.YtdboppcnnjacmaaDoorFrameTwo
import Derived.ProofKit
import Derived.Lib.SmallJoins
namespace Go.Proofs.YtdboppcnnjacmaaDoor
open Go.ChangeShapes Go.WideShapes Go.ChangeAt Go.RowKit Go.Joins Go.Deep

theorem Tryd.cellsByteB : Tryd.prog.cellsOf 5 = 1 := by kernel_rfl

set_option maxRecDepth 100000 in
/-- A slice of bytes that came in. -/
theorem open_bytes {H : Type} {enc : TypeId × Value → H} {w : World} {spare : Nat → Bool} {held : Bool} {r : Reach} {b0 : Nat} {v : Value} {d : DataW H} {p : List MemPlace}
    (hv : Value.okWide Tryd.prog w r b0 55 v) (h : DataW.Trod enc Tryd.prog w 0 spare held 55 v d p) :
    ∃ (a : Option Addr) (cap : Nat) (l : List Nat), v = .slice a l.length cap ∧ ByteRow w a l ∧ (∀ c ∈ l, c < 256) ∧ l.length ≤ cap ∧ l.length ≤ maxLen := by
  obtain ⟨a1, len, cap, rfl⟩ := okWide_slice Tryd.underlying55 hv
  obtain ⟨fuel, hf⟩ := h
  rcases open_ints Tryd.underlying55 Tryd.underlying5 Tryd.cellsByteB hf with ⟨hcs, _⟩ | ⟨a, len', cap', zs, hcs, _, hl, hm, hz, _, hcell, hwz⟩
  · simp [Value.cells] at hcs
    obtain ⟨rfl, rfl, rfl⟩ := hcs
    exact ⟨none, 0, [], rfl, fun hn => absurd hn (Nat.lt_irrefl _), fun c hc => (List.not_mem_nil hc).elim, Nat.le_refl _, Nat.zero_le _⟩
  · simp [Value.cells] at hcs
    obtain ⟨rfl, rfl, rfl⟩ := hcs
    have hle : len ≤ zs.length := by rw [hz]; split <;> omega
    have hby : ∀ n ∈ zs, 0 ≤ n ∧ n < 256 := fun n hn => by
      have := hwz n hn
      simp [Lit.wf, IntKind.min, IntKind.max, IntKind.bits, IntKind.signed] at this
      omega
    have hlen : ((zs.take len).map Int.toNat).length = len := by simp; omega
    refine ⟨some a, cap, (zs.take len).map Int.toNat, by rw [hlen], fun hn => ?_, fun c hc => ?_, by rw [hlen]; exact hl, by rw [hlen]; omega⟩
    · rw [hlen] at hn
      have h0 := hcell 0 (by omega)
      obtain ⟨b, off, spot⟩ := a
      have hs : spot = none := by simpa [Addr.add] using World.cell?_spot h0
      subst hs
      refine ⟨b, off, rfl, ?_, fun j hj => ?_⟩
      · rw [add_plain] at h0
        exact cell_lt h0
      · rw [hlen] at hj
        have hc := hcell j (by omega)
        rw [add_plain] at hc
        rw [hc]
        have hjz : j < zs.length := by omega
        have := hby zs[j] (List.getElem_mem hjz)
        simp only [List.getD, List.getElem?_eq_getElem hjz, Option.getD_some, List.getElem_map, List.getElem_take]
        congr 2
        omega
    · obtain ⟨x, hx, rfl⟩ := List.mem_map.1 hc
      have := hby x (List.mem_of_mem_take hx)
      omega
end Go.Proofs.YtdboppcnnjacmaaDoor
