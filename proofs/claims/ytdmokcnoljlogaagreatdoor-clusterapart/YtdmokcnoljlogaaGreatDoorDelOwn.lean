/- The first one of a row of texts of one's own is taken out (the library's slices.Delete at []string, by the contract that the seat's Shelf lays). -/
import Derived.Test.YtdmokcnoljlogaaGreatDoorProg
import Derived.Test.YtdmokcnoljlogaaGreatDoorShelf
import Derived.Test.YtdmokcnoljlogaaGreatDoorWordsA
import Derived.Lib.OwnBridge
namespace Go.Proofs.YtdmokcnoljlogaaGreatDoor
open Go.RowKit

/-- The first one of a row of one's own is taken out (the library's slices.Delete). -/
theorem del_own {w : World} {B g n cap : Nat} {xs : List ByteArray} (own : w.ownsRow B 9 1 (.slice (some ⟨g, 0, none⟩) n cap) n (xs.map Value.string)) (n0 : 0 < n) :
    Calls Tryz.prog 54 #[.slice (some ⟨g, 0, none⟩) n cap, .int .i64 0, .int .i64 1] w fun e w' => e = .returned (.slice (some ⟨g, 0, none⟩) (n - 1) cap) ∧ w'.ownsRow B 9 1 (.slice (some ⟨g, 0, none⟩) (n - 1) cap) (n - 1) ((xs.drop 1).map Value.string) ∧ Turns g g w w' := by
  rw [← Lib.map_encStr] at own
  obtain ⟨g', cap', hv, hg, hgl, hcap, hm, hlen, hH⟩ := Lib.holds_of_ownsRow own (by simp)
  injection hv with e1 _ e3
  injection e1 with e1
  injection e1 with e1
  subst e1; subst e3
  have hc := Tryz.slices_Delete_string g 0 cap 0 1 (xs.map (fun x : ByteArray => x.data.toList)) w hH (by omega) hm (by omega) (by omega)
  rw [hlen] at hc
  refine hc.mono ?_
  rintro e w' ⟨rfl, q, rfl⟩
  refine ⟨by rw [Nat.sub_zero], ?_, ?_⟩
  · have hy := Lib.ownsRow_putRow (q := q) (k := n - 1) (ys := (xs.map (fun x : ByteArray => x.data.toList)).take 0 ++ (xs.map (fun x : ByteArray => x.data.toList)).drop 1 ++ List.replicate (1 - 0) []) own (by simp at hlen ⊢; omega) (by omega)
    have e2 : ((xs.map (fun x : ByteArray => x.data.toList)).take 0 ++ (xs.map (fun x : ByteArray => x.data.toList)).drop 1 ++ List.replicate (1 - 0) []).take (n - 1) = (xs.drop 1).map (fun x : ByteArray => x.data.toList) := by
      rw [List.take_zero, List.nil_append, List.take_append_of_le_length (by simp at hlen ⊢; omega), List.take_of_length_le (by simp at hlen ⊢; omega), List.map_drop]
    rw [e2, Lib.map_encStr] at hy
    exact hy
  · exact ⟨rfl, rfl, rfl, by simp [Sort.putRow, Sort.mapBlock, Sort.ahead], fun c hc h1 _ => by simp [Sort.putRow, Sort.mapBlock, Sort.ahead, Array.getElem?_modify, Ne.symm h1]⟩
end Go.Proofs.YtdmokcnoljlogaaGreatDoor
