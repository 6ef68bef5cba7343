import Derived.Test.YtooadfgibdjdeaaGreatDoorZP1
import Derived.Test.YtooadfgibdjdeaaGreatDoorZShelf
import Derived.BigQuiet
import Derived.Lib.OwnBridge
import Derived.Shelf.GgClosure.Gives
import Derived.Sort.Grow
import Derived.Sort.OwnSortedInts
import Derived.WalkSpells
namespace Go.Proofs.YtooadfgibdjdeaaGreatDoor
open Go.RowKit
set_option maxRecDepth 100000
set_option maxHeartbeats 16000000
section
theorem del_own {w:World} {B g n cap:Nat} {xs:List ByteArray} (own:w.ownsRow B 9 1 (.slice (some ⟨g,0,none⟩) n cap) n (xs.map Value.string)) (n0:0<n) :
  Calls Tryz.prog 78 #[.slice (some ⟨g,0,none⟩) n cap,.int .i64 0,.int .i64 1] w fun e w'=>e=.returned (.slice (some ⟨g,0,none⟩) (n - 1) cap)∧w'.ownsRow B 9 1 (.slice (some ⟨g,0,none⟩) (n - 1) cap) (n - 1) ((xs.drop 1).map Value.string)∧Turns g g w w':=by
 rw [← Lib.map_encStr] at own
 obtain ⟨g',cap',hv,hg,hgl,hcap,hm,hlen,hH⟩:=Lib.holds_of_ownsRow own (by simp)
 injection hv with e1 _ e3
 injection e1 with e1
 injection e1 with e1
 subst e1;subst e3
 have hc:=Tryz.slices_Delete_string g 0 cap 0 1 (xs.map (fun x:ByteArray=>x.data.toList)) w hH (by omega) hm (by omega) (by omega)
 rw [hlen] at hc
 refine hc.mono ?_
 rintro e w' ⟨rfl,q,rfl⟩
 refine ⟨by rw [Nat.sub_zero],?_,?_⟩
 ·have hy:=Lib.ownsRow_putRow (q:=q) (k:=n - 1) (ys:=(xs.map (fun x:ByteArray=>x.data.toList)).take 0 ++ (xs.map (fun x:ByteArray=>x.data.toList)).drop 1 ++ List.replicate (1 - 0) []) own (by simp at hlen ⊢;omega) (by omega)
  have e2:((xs.map (fun x:ByteArray=>x.data.toList)).take 0 ++ (xs.map (fun x:ByteArray=>x.data.toList)).drop 1 ++ List.replicate (1 - 0) []).take (n - 1)=(xs.drop 1).map (fun x:ByteArray=>x.data.toList):=by
   rw [List.take_zero,List.nil_append,List.take_append_of_le_length (by simp at hlen ⊢;omega),List.take_of_length_le (by simp at hlen ⊢;omega),List.map_drop]
  rw [e2,Lib.map_encStr] at hy
  exact hy
 ·exact ⟨rfl,rfl,rfl,by simp [Sort.putRow,Sort.mapBlock,Sort.ahead],fun c hc h1 _=>by simp [Sort.putRow,Sort.mapBlock,Sort.ahead,Array.getElem?_modify,Ne.symm h1]⟩
end
section
open Go.RowKit Go.Shelf Go.Sort
theorem cell_of_holds {w:World} {g:Nat} {S:List Int} (h:Holds (Value.int .i64) w g 0 S.toArray) (j:Nat) (hj:j<S.length):w.cell? ⟨g,j,none⟩=some (.int .i64 (S.getD j 0)):=by
 have h1:=(h j (by simpa using hj)).1
 rw [Nat.zero_add] at h1
 rw [h1,getElem!_pos _ j (by simpa using hj)]
 simp [List.getD,List.getElem?_eq_getElem hj]
theorem sorted_row {w w1 w2:World} {g nn:Nat} {os:Array Obj} {l:List Int} (hB:Below w.heap.size w w1) (hg:w.heap.size≤g) (hlt:g<w1.heap.size) (hH:Holds (Value.int .i64) w1 g 0 l.toArray)
  (hw2:w2=grow (putRow (Value.int .i64) (Sort.ahead w1 nn) g 0 (l.mergeSort fun x y=>decide (x≤y)).toArray) os) :
  (∀ k,k<l.length→w2.cell? ⟨g,k,none⟩=some (.int .i64 (rank l k)))∧Below w.heap.size w w2:=by
 have hH2:Holds (Value.int .i64) w2 g 0 (srt l).toArray:=by
  subst hw2
  exact holds_grow _ _ os g 0 _ (by simpa [putRow,mapBlock,Sort.ahead] using hlt) (holds_putRow _ _ g 0 _ _ (holds_ahead _ w1 nn g 0 _ hH) (by simp))
 refine ⟨fun k hk=>?_,?_⟩
 ·exact cell_of_holds hH2 k (by rw [srt_length];exact hk)
 ·subst hw2
  exact hB.grown (grownBy_sortedI _) hB.size (fun j hj=>by cases hj;exact hg)
end
end Go.Proofs.YtooadfgibdjdeaaGreatDoor
