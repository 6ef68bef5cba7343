import Derived.Test.YthccoinonjoleaaGreatDoorZAppAt
import Derived.Test.YthccoinonjoleaaGreatDoorZDkAns2
namespace Go.Proofs.YthccoinonjoleaaGreatDoor
open Go.RowKit
set_option maxRecDepth 100000
set_option maxHeartbeats 16000000
section
structure Bld (w:World) (base bb:Nat) (v:Value) (bs:List UInt8):Prop where
 blk:∃ p,(p=.pointer none∨p=.pointer (some ⟨bb,0,none⟩))∧w.heap[bb]? = some (.cells #[p,v] 33 (0,0))
 own:w.ownsRow base 5 1 v bs.length (Lib.byteCells bs)
def Bld.foot (bb:Nat) (v:Value):List Nat:=bb::v.ownBlock.toList
theorem Bld.ne {w:World} {base bb:Nat} {v:Value} {bs:List UInt8} (h:Bld w base bb v bs) {g:Nat} (hg:v.ownBlock=some g):g≠bb:=by
 obtain ⟨p,_,hb⟩:=h.blk
 exact owns_ne h.own hb (by decide) hg
theorem Bld.keep {w w':World} {base bb:Nat} {v:Value} {bs:List UInt8} (h:Bld w base bb v bs) (hs:∀ c,c∈Bld.foot bb v→w'.heap[c]? = w.heap[c]?):Bld w' base bb v bs:=by
 obtain ⟨p,hp,hb⟩:=h.blk
 exact ⟨⟨p,hp,(hs bb List.mem_cons_self).trans hb⟩,owns_at h.own fun g hg=>hs g (by unfold Bld.foot;rw [hg];simp)⟩
theorem Bld.lt {w:World} {base bb:Nat} {v:Value} {bs:List UInt8} (h:Bld w base bb v bs):∀ c,c∈Bld.foot bb v→c<w.heap.size:=fun c hc=>by
 obtain ⟨p,hp,hb⟩:=h.blk
 rcases List.mem_cons.1 hc with q | q
 ·rw [q];exact lt_of_blk hb
 ·cases e:v.ownBlock with
  | none=>rw [e] at q;cases q
  | some g =>
   rw [e] at q
   have:c=g:=by simpa using q
   rw [this]
   exact (h.own.lt g e).2
theorem Tryz.infoByte9:(Tryz.prog.info? 5).map (fun i=>(i.zero,i.size,i.bytes))=some (some (.int .u8 0),1,1):=by kernel_rfl
theorem copyCheck_any {w:World} {base bb:Nat} {v:Value} {bs:List UInt8} (h:Bld w base bb v bs):Calls Tryz.prog 36 #[.pointer (some ⟨bb,0,none⟩)] w fun e w'=>e=.returned (.tuple #[])∧w'.heap[bb]? = some (.cells #[.pointer (some ⟨bb,0,none⟩),v] 33 (0,0))∧(w'=w∨w'=w.setCell ⟨bb,0,none⟩ (.pointer (some ⟨bb,0,none⟩))):=by
 obtain ⟨p,hp,hb⟩:=h.blk
 rcases hp with rfl | rfl
 ·refine (Any.Builder_copyCheck_fresh (P:=Tryz.prog) (ρ:=Tryz.lays156_ren) { Tryz.lays156 with } Tryz.Builder_Extra_156.toX72 bb w (cell_blk hb rfl) (by simp [World.shape?,hb];rfl) (soft_blk hb)).mono fun e w' q=>?_
  exact ⟨q.1,by rw [q.2];exact set_blk hb _,.inr q.2⟩
 ·refine (Any.Builder_copyCheck_used (P:=Tryz.prog) (ρ:=Tryz.lays156_ren) { Tryz.lays156 with } Tryz.Builder_Extra_156.toX72 bb w (cell_blk hb rfl)).mono fun e w' q=>?_
  exact ⟨q.1,by rw [q.2];exact hb,.inl q.2⟩
theorem writeString_any {w:World} {base bb:Nat} {v:Value} {bs:List UInt8} (h:Bld w base bb v bs) (hbase:base≤w.heap.size) (s:ByteArray) (hlen:bs.length+s.size≤140737488355328) :
  Calls Tryz.prog 9 #[.pointer (some ⟨bb,0,none⟩),.string s] w fun e w'=>∃ v',e=.returned (.tuple #[.int .i64 s.size,.nilIface])∧Bld w' base bb v' (bs ++ s.data.toList)∧Foot (Bld.foot bb v) (Bld.foot bb v') w w':=by
 have hC:=copyCheck_any h
 have HN:Hid (∀ g,v.ownBlock=some g→g≠bb):=fun g hg=>h.ne hg
 have HO:Hid (w.ownsRow base 5 1 v bs.length (Lib.byteCells bs)):=h.own
 obtain ⟨i0,hi,hz0,hz1,hz2⟩:=info_parts Tryz.infoByte9
 clear h
 go_enter Tryz.func9,Tryz.ntmps9
 go_wp2_with fail
 refine hC.mono ?_
 rintro e w1 ⟨rfl,hbk,hw1⟩
 have hsz:w1.heap.size=w.heap.size:=by rcases hw1 with rfl | rfl <;> simp
 have hoth:∀ c,c≠bb→w1.heap[c]? = w.heap[c]?:=fun c hc=>by
  rcases hw1 with rfl | rfl
  ·rfl
  ·exact set_other hc _
 have HOth:Hid (∀ c,c≠bb→w1.heap[c]? = w.heap[c]?):=hoth
 have HW:Hid (w1.os=w.os∧w1.tape=w.tape∧w1.output=w.output):=by rcases hw1 with rfl | rfl <;> exact ⟨rfl,rfl,rfl⟩
 have hown:w1.ownsRow base 5 1 v bs.length (Lib.byteCells bs):=owns_at HO.out fun g hg=>hoth g (HN.out g hg)
 have c0:w1.cell? ⟨bb,0,none⟩=some (.pointer (some ⟨bb,0,none⟩)):=cell_blk hbk rfl
 have c1:w1.cell? ⟨bb,1,none⟩=some v:=cell_blk hbk rfl
 have hlt:=lt_of_blk hbk
 clear hw1 hoth hC
 go_wp2_with (at_builtin;refine wpList_append_string_at (P:=Tryz.prog) rfl _ _ 31 9 rfl base 5 i0 Tryz.underlying31 Tryz.underlying9 hi hz0 hz1 hz2 v bs.length (Lib.byteCells bs) rfl hown s rfl (by unfold maxLen;omega) hlen (by omega) ?_;intro ao cap w2 hown2 hgrow hat;have hb2:w2.heap[bb]? = some (.cells #[.pointer (some ⟨bb,0,none⟩),v] 33 (0,0)):=(hgrow.block bb hlt (fun e=>HN.out bb e.symm rfl)).trans hbk;have d1:w2.cell? ⟨bb,1,none⟩=some v:=cell_blk hb2 rfl;have f1:=soft_blk hb2 (i:=1);have HG:Hid (w1.grownBy w2 v.ownBlock):=hgrow;have HA:Hid (∀ g,(Value.slice ao (bs.length+s.size) cap).ownBlock=some g→v.ownBlock=some g∨w1.heap.size≤g):=hat;have HO2:Hid (w2.ownsRow base 5 1 (.slice ao (bs.length+s.size) cap) (bs.length+s.size) (Lib.byteCells bs ++ Lib.strCells s)):=hown2;clear hgrow hat hown2)
 have hlt2:=lt_of_blk hb2
 have hz:(w2.setCell ⟨bb,1,none⟩ (.slice ao (bs.length+s.size) cap)).heap.size=w2.heap.size:=by simp
 have hl:(bs ++ s.data.toList).length=bs.length+s.size:=by rw [List.length_append];rfl
 have hcs:Lib.byteCells bs ++ Lib.strCells s=Lib.byteCells (bs ++ s.data.toList):=by unfold Lib.byteCells Lib.strCells;rw [List.map_append]
 have hne2:∀ g,(Value.slice ao (bs.length+s.size) cap).ownBlock=some g→g≠bb:=fun g hg e=>by
  rcases HA.out g hg with q | q
  ·exact HN.out g q e
  ·omega
 refine bodyPost_ret (v:=.tuple #[.int .i64 s.size,.nilIface]) (by simp [results,Tryz.results9,go_sem]) rfl ?_
 refine ⟨_,rfl,⟨⟨_,.inr rfl,set_blk hb2 _⟩,?_⟩,?_⟩
 ·rw [hl,← hcs]
  exact owns_at HO2.out fun g hg=>set_other (hne2 g hg) _
 ·obtain ⟨o1,o2,o3⟩:=HW.out
  refine ⟨HG.out.os.trans o1,HG.out.tape.trans o2,HG.out.output.trans o3,?_,fun c hc hn=>?_,fun c hc=>?_⟩
  ·have:=HG.out.size
   omega
  ·have hcb:c≠bb:=fun e=>hn (by rw [e];exact List.mem_cons_self)
   rw [set_other hcb,HG.out.block c (by omega) ?_,HOth.out c hcb]
   intro e
   exact hn (by unfold Bld.foot;rw [← e];simp)
  ·rcases List.mem_cons.1 hc with q | q
   ·exact .inl (by rw [q];exact List.mem_cons_self)
   ·cases e:(Value.slice ao (bs.length+s.size) cap).ownBlock with
    | none=>rw [e] at q;cases q
    | some g =>
     rw [e] at q
     have:c=g:=by simpa using q
     subst this
     rcases HA.out c e with z | z
     ·exact .inl (by unfold Bld.foot;rw [z];simp)
     ·exact .inr (by omega)
theorem string_any {w:World} {base bb:Nat} {v:Value} {bs:List UInt8} (h:Bld w base bb v bs) (hbb:base≤bb) (hbase:base≤w.heap.size):Calls Tryz.prog 11 #[.pointer (some ⟨bb,0,none⟩)] w fun e w'=>e=.returned (.string ⟨bs.toArray⟩)∧Below base w w'∧∀ (k:Nat) (ds:Option (List Deferred)),w.heap[k]? = some (Obj.deferred ds)→w'.heap[k]? = some (Obj.deferred ds):=by
 obtain ⟨p,hp,hb⟩:=h.blk
 have hn:v.ownBlock≠some bb:=fun e=>h.ne e rfl
 have ho:w.ownsRow base 5 1 v (Lib.byteCells bs).length (Lib.byteCells bs):=by rw [Lib.byteCells_length];exact h.own
 refine (Tryz.Builder_String_any_k base bb bs w (Lib.IsBuilderF.of ?_) hbase).mono fun e w' q=>⟨q.1,q.2.2.1,fun k ds hk=>q.2.2.2 k (Obj.deferred ds) hk ?_ (fun _ _ z=>by cases z)⟩
 ·rcases hp with rfl | rfl
  ·exact .inl ⟨hbb,v,hb,ho,hn⟩
  ·exact .inr ⟨hbb,v,hb,ho,hn⟩
 ·intro z
  injection z with z
  rw [z,hb] at hk
  cases hk
end
end Go.Proofs.YthccoinonjoleaaGreatDoor
