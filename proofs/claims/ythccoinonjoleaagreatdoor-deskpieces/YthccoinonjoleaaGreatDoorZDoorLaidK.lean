import Derived.Test.YthccoinonjoleaaGreatDoorZDkSession
import Derived.ChangeVars
import Derived.LaidHandle
import Derived.LaidLaws
import Derived.Lib.LaidTab
import Derived.Lib.LaidU8
import Derived.Lib.SmallJoins
import Derived.ProofKit
import Derived.Stop.Joined
namespace Go.Proofs.YthccoinonjoleaaGreatDoor
set_option maxRecDepth 100000
set_option maxHeartbeats 16000000
section
open Go.ChangeShapes Go.WideShapes Go.ChangeAt Go.RowKit Go.Joins
theorem own:ownKnob Tryz.prog.godebug=none:=by kernel_rfl
def typeWord:DataW Unit→String
 | .iface n _=>n
 | _=> ""
theorem Tryz.et:Tryz.prog.globalNamed "errors.errorType" = some 2:=by kernel_rfl
theorem Tryz.p10:Tryz.prog.globalNamed pow10Name=some 1:=by kernel_rfl
theorem Tryz.p10t:(Tryz.prog.globals[1]?).map (·.type)=some 208:=by kernel_rfl
theorem Tryz.er:Tryz.prog.globalNamed "strconv.ErrRange" = some 4:=by kernel_rfl
theorem Tryz.ert:(Tryz.prog.globals[4]?).map (·.type)=some 38:=by kernel_rfl
theorem Tryz.es:Tryz.prog.globalNamed "strconv.ErrSyntax" = some 3:=by kernel_rfl
theorem Tryz.est:(Tryz.prog.globals[3]?).map (·.type)=some 38:=by kernel_rfl
theorem Tryz.rt:(Tryz.prog.cutTypes.find? (·.1 == typeWord Rows.laid_errors_errorType)).map (·.2)=some 259:=by kernel_rfl
theorem Tryz.oneRow:((List.range 317).filter fun t=>Tryz.prog.rowNamed t [101,114,114,111,114]) = [38]:=by kernel_rfl
theorem Tryz.size:Tryz.prog.types.size=317:=by kernel_rfl
def laidData:List (String × DataW Unit):=laidList.filter fun x=>x.2.handleName?.isNone
theorem laid_parts {W:World} (h:laidMetH Tryz.prog laidList W):laidMet Tryz.prog laidData W∧handlesMet Tryz.prog [("errors.errorType",Rows.laid_errors_errorType)] W:=h
theorem told_of_laid {W:World} (h:laidMetH Tryz.prog laidList W):Told W:=by
 obtain ⟨name,u,ty,e1,e2,e3,e4,e5⟩:=(laid_parts h).2 _ (List.mem_singleton.2 rfl)
 have en:name = [101,114,114,111,114]:=(Option.some.inj e1).symm
 subst en
 obtain rfl:=Option.some.inj (Tryz.rt.symm.trans e2)
 have hm:ty∈(List.range 317).filter fun t=>Tryz.prog.rowNamed t [101,114,114,111,114]:=List.mem_filter.2 ⟨List.mem_range.2 (by rw [← Tryz.size];exact e3),e4⟩
 rw [Tryz.oneRow] at hm
 obtain rfl:=List.mem_singleton.1 hm
 have hh:typeHandle Tryz.prog 38=.pointer (some ⟨7,38,none⟩):=by kernel_rfl
 rw [hh] at e5
 unfold Told
 simpa using World.var?_cell Tryz.et e5 0
theorem iface_of_trod {H:Type} {enc:TypeId × Value→H} {P:Program} {w:World} {base:Nat} {sp:Nat→Bool} {held:Bool} {fuel:Nat} {t:TypeId} {m:Array (String × TypeId)} {cs:List Value} {n:String} {d:DataW H} {p:List MemPlace} (ht:P.underlying t=some (.interface m)) (h:DataW.trod enc P w base sp held fuel t cs=some (.iface n d,p)):∃ u v,cs = [.iface u v]:=by
 cases fuel with
 | zero=>simp [DataW.trod] at h
 | succ fuel =>
  rcases cs with _ | ⟨v,_ | ⟨v2,r⟩⟩
  ·simp [DataW.trod,ht] at h
  ·cases v with
   | iface u x=>exact ⟨u,x,rfl⟩
   | _=>simp [DataW.trod,ht] at h
  ·simp [DataW.trod,ht] at h
def tabOf:DataW Unit→List Value
 | .agg l=>l.map fun
  | .lit (.int k z)=>.int k z
  | _=>undef
 | _=>[]
def wordOf:DataW Unit→ByteArray
 | .iface _ (.ptr (.agg [.lit (.string s)]))=>⟨s.toArray⟩
 | _=>ByteArray.empty
theorem laidData_is:laidData = [laidList.getD 0 ("",.agg []),laidList.getD 1 ("",.agg []),(pow10Name,Rows.laid_internal_strconv_uint64pow10),("strconv.ErrRange",Rows.laid_strconv_ErrRange),("strconv.ErrSyntax",Rows.laid_strconv_ErrSyntax)]:=rfl
theorem memPow:(pow10Name,Rows.laid_internal_strconv_uint64pow10)∈laidData:=by rw [laidData_is];exact List.mem_cons_of_mem _ (List.mem_cons_of_mem _ List.mem_cons_self)
theorem memRng:("strconv.ErrRange",Rows.laid_strconv_ErrRange)∈laidData:=by rw [laidData_is];exact List.mem_cons_of_mem _ (List.mem_cons_of_mem _ (List.mem_cons_of_mem _ List.mem_cons_self))
theorem memSyn:("strconv.ErrSyntax",Rows.laid_strconv_ErrSyntax)∈laidData:=by rw [laidData_is];exact List.mem_cons_of_mem _ (List.mem_cons_of_mem _ (List.mem_cons_of_mem _ (List.mem_cons_of_mem _ List.mem_cons_self)))
theorem desk_of_laid {W:World} (h:laidMetH Tryz.prog laidList W):Desk0 W:=by
 have hd:=(laid_parts h).1
 refine ⟨told_of_laid h,?_,?_,?_⟩
 ·obtain ⟨g,t,cs,fuel,p,h1,h2,h3,h4⟩:=Lib.laidMet.reads hd (n:= "strconv.ErrSyntax") (d:=Rows.laid_strconv_ErrSyntax) memSyn
  obtain rfl:=Option.some.inj (Tryz.es.symm.trans h1)
  obtain rfl:=Option.some.inj (Tryz.est.symm.trans h2)
  obtain ⟨u,v,e⟩:=iface_of_trod Tryz.underlying38 h4
  have:=World.var?_cell Tryz.es h3 0
  refine ⟨u,v,?_⟩
  obtain ⟨l⟩:=cs
  simp at e
  subst e
  simpa using this
 ·obtain ⟨g,t,cs,fuel,p,h1,h2,h3,h4⟩:=Lib.laidMet.reads hd (n:= "strconv.ErrRange") (d:=Rows.laid_strconv_ErrRange) memRng
  obtain rfl:=Option.some.inj (Tryz.er.symm.trans h1)
  obtain rfl:=Option.some.inj (Tryz.ert.symm.trans h2)
  obtain ⟨u,v,e⟩:=iface_of_trod Tryz.underlying38 h4
  have:=World.var?_cell Tryz.er h3 0
  refine ⟨u,v,?_⟩
  obtain ⟨l⟩:=cs
  simp at e
  subst e
  simpa using this
 ·obtain ⟨g,t,cs,fuel,p,h1,h2,h3,h4⟩:=Lib.laidMet.reads hd (n:=pow10Name) (d:=Rows.laid_internal_strconv_uint64pow10) memPow
  obtain rfl:=Option.some.inj (Tryz.p10.symm.trans h1)
  obtain rfl:=Option.some.inj (Tryz.p10t.symm.trans h2)
  have:=Lib.cells_of_tab (zs:=Lib.pow10Tab) Tryz.underlying208 Tryz.underlying171 (by kernel_rfl) (by kernel_rfl) h4
  unfold Lib.TabIs
  rw [h3,← this]
theorem cell_lt {W:World} {g:Nat} {v:Value} (h:W.cell? ⟨g,0,none⟩=some v):g<W.heap.size:=by
 rcases Nat.lt_or_ge g W.heap.size with k | k
 ·exact k
 ·simp [World.cell?,Array.getElem?_eq_none k] at h
theorem Desk0.below {W W':World} (h:Desk0 W) (hb:Below W.heap.size W W'):Desk0 W':=by
 refine ⟨?_,?_,?_,?_⟩
 ·exact h.told.below hb
 ·obtain ⟨t,p,q⟩:=h.syn
  exact ⟨t,p,(hb.cell (p:=⟨3,0,none⟩) (cell_lt q)).trans q⟩
 ·obtain ⟨t,p,q⟩:=h.rng
  exact ⟨t,p,(hb.cell (p:=⟨4,0,none⟩) (cell_lt q)).trans q⟩
 ·have q:=Lib.TabIs.cell h.tab Tryz.p10 0 (by decide)
  have hl:=cell_lt q
  have:=h.tab
  unfold Lib.TabIs World.var? at this ⊢
  rw [Tryz.p10] at this ⊢
  simpa [hb.block _ hl] using this
theorem deskW_of_laid {W:World} (h:laidMetH Tryz.prog laidList W):DeskW W.heap.size W:=fun _ hb=>(desk_of_laid h).below hb
def laidHeap (w0:World):World :=
 { w0 with heap:=((((((w0.heap.modify 2 fun
   | .cells _ t frozen=>.cells #[.iface 259 (.agg #[.pointer (some ⟨7,38,none⟩)])] t frozen
   | o=>o).modify 1 fun
   | .cells _ t frozen=>.cells (Lib.pow10Tab.map fun z=>Value.int .u64 z).toArray t frozen
   | o=>o).modify 5 fun
   | .cells _ t frozen=>.cells (tabOf (laidList.getD 0 ("",.agg [])).2).toArray t frozen
   | o=>o).modify 6 fun
   | .cells _ t frozen=>.cells (tabOf (laidList.getD 1 ("",.agg [])).2).toArray t frozen
   | o=>o).modify 4 fun
   | .cells _ t frozen=>.cells #[.iface 287 (.pointer (some ⟨w0.heap.size,0,none⟩))] t frozen
   | o=>o).modify 3 fun
   | .cells _ t frozen=>.cells #[.iface 287 (.pointer (some ⟨w0.heap.size+1,0,none⟩))] t frozen
   | o=>o).push (.cells #[.string (wordOf Rows.laid_strconv_ErrRange)] 289 (0,0)) |>.push (.cells #[.string (wordOf Rows.laid_strconv_ErrSyntax)] 289 (0,0)) }
theorem laid_met (os:Os) (args:Array Value):laidMetH Tryz.prog laidList ((laidHeap (World.holding Tryz.prog os ⟨#[],#[],[]⟩)).forCall (fun _ _=>0) ⟨#[],args,[]⟩).memory :=
 laidMetH_of_parts (laidMet_of_run' 8 (by kernel_rfl) (by kernel_rfl)) (by kernel_rfl)
end
end Go.Proofs.YthccoinonjoleaaGreatDoor
