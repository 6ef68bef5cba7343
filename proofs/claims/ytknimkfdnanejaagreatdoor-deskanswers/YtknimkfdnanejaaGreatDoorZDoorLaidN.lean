import Derived.Test.YtknimkfdnanejaaGreatDoorZT32
import Derived.LaidHandle
import Derived.Lib.LaidU8
import Derived.Stop.Joined
namespace Go.Proofs.YtknimkfdnanejaaGreatDoor
open Go.Proofs.Tryz
set_option maxRecDepth 100000
set_option maxHeartbeats 16000000
open Go.ChangeShapes Go.WideShapes Go.ChangeAt Go.RowKit Go.Joins
variable{W:World}
theorem own:ownKnob Tryz.prog.godebug=none:=by kernel_rfl
def aWb:DataW Unit->String
 |.iface n _=>n
 |_=> ""
theorem Tryz.et:Tryz.prog.globalNamed "errors.errorType"=some 5:=by kernel_rfl
theorem Tryz.p10:Tryz.prog.globalNamed rL=some 4:=by kernel_rfl
theorem Tryz.p10t:(Tryz.prog.globals[4]?).map (·.type)=some 276:=by kernel_rfl
theorem Tryz.er:Tryz.prog.globalNamed "strconv.ErrRange"=some 3:=by kernel_rfl
theorem Tryz.ert:(Tryz.prog.globals[3]?).map (·.type)=some 38:=by kernel_rfl
theorem Tryz.es:Tryz.prog.globalNamed "strconv.ErrSyntax"=some 2:=by kernel_rfl
theorem Tryz.est:(Tryz.prog.globals[2]?).map (·.type)=some 38:=by kernel_rfl
theorem Tryz.fi:Tryz.prog.globalNamed (fM.getD 7 ("",.agg [])).1=some 0:=by kernel_rfl
theorem Tryz.fit:(Tryz.prog.globals[0]?).map (·.type)=some 98:=by kernel_rfl
theorem Tryz.rt:(Tryz.prog.cutTypes.find? (·.1==aWb Rows.laid_errors_errorType)).map (·.2)=some 326:=by kernel_rfl
theorem Tryz.bCz:((List.range 378).filter fun t=>Tryz.prog.rowNamed t [101,114,114,111,114])=[38]:=by kernel_rfl
theorem Tryz.size:Tryz.prog.types.size=378:=by kernel_rfl
def wI:List (String×DataW Unit):=fM.filter fun x=>x.2.handleName?.isNone
theorem F5(h:laidMetH prog fM W):laidMet prog wI W/\handlesMet prog [("errors.errorType",Rows.laid_errors_errorType)] W:=h
theorem aFv(h:laidMetH prog fM W):Told W:=by obtain⟨name,u,ty,e1,e2,e3,e4,e5⟩:=(F5 h).2 _ (List.mem_singleton.2 rfl);have en:name=[101,114,114,111,114]:=(kW e1).symm;subst en;obtain rfl:=kW (Tryz.rt.symm.trans e2);have hm:ty∈(List.range 378).filter fun t=>Tryz.prog.rowNamed t [101,114,114,111,114]:=List.mem_filter.2 ⟨List.mem_range.2 (by rw[<-Tryz.size];exact e3),e4⟩;rw[Tryz.bCz]at hm;obtain rfl:=List.mem_singleton.1 hm;have hh:typeHandle prog 38=.pointer (some (aA 10 38)):=og;rw[hh]at e5;unfold Told;simpa using World.var?_cell Tryz.et e5 0
theorem iface_of_trod{H:Type}{enc:TypeId×Value->H}{P:Program}{w:World}{base:Nat}{sp:Nat->Bool}{held:Bool}{fuel:Nat}{t:TypeId}{m:Array (String×TypeId)}{cs:List Value}{n:String}{d:DataW H}{p:List MemPlace}(ht:P.underlying t=some (.interface m))(h:DataW.trod enc P w base sp held fuel t cs=some (.iface n d,p)):∃u v,cs=[.iface u v]:=by
 cases fuel with
 |zero=>simp[DataW.trod]at h
 |succ fuel=>
  rcases cs with _|⟨v,_|⟨v2,r⟩⟩
  ·simp[DataW.trod,ht]at h
  ·cases v with
   |iface u x=>exact⟨u,x,rfl⟩
   |_=>simp[DataW.trod,ht]at h
  ·simp[DataW.trod,ht]at h
def aO7:DataW Unit->List Value
 |.agg l=>l.map fun
  |.lit (.int k z)=>.int k z
  |_=>undef
 |_=>[]
def bMt:DataW Unit->List Value
 |.agg l=>l.flatMap aO7
 |_=>[]
def aWj:DataW Unit->ByteArray
 |.iface _ (.ptr (.agg [.lit (.string s)]))=>⟨s.toArray⟩
 |_=>ByteArray.empty
def aA4:String:=(fM.getD 7 ("",.agg [])).1
theorem vA:wI=[fM.getD 0 ("",.agg []),fM.getD 1 ("",.agg []),(rL,Rows.laid_internal_strconv_uint64pow10),fM.getD 3 ("",.agg []),("strconv.ErrRange",Rows.laid_strconv_ErrRange),("strconv.ErrSyntax",Rows.laid_strconv_ErrSyntax),(aA4,Rows.laid_metronome_metronomeref_Fine),fM.getD 8 ("",.agg [])]:=rfl
theorem bCq:(rL,Rows.laid_internal_strconv_uint64pow10)∈wI:=by rw[vA];exact kO _ (kO _ (kQ))
theorem bCr:("strconv.ErrRange",Rows.laid_strconv_ErrRange)∈wI:=by rw[vA];exact kO _ (kO _ (kO _ (kO _ (kQ))))
theorem bCs:("strconv.ErrSyntax",Rows.laid_strconv_ErrSyntax)∈wI:=by rw[vA];exact kO _ (kO _ (kO _ (kO _ (kO _ (kQ)))))
theorem aYm:(aA4,Rows.laid_metronome_metronomeref_Fine)∈wI:=by rw[vA];exact kO _ (kO _ (kO _ (kO _ (kO _ (kO _ (kQ))))))
theorem aDy(h:laidMetH prog fM W):nV W:=by
 have hd:=(F5 h).1;refine⟨aFv h,?_,?_,?_⟩
 ·obtain⟨g,t,cs,fuel,p,h1,h2,h3,h4⟩:=Lib.laidMet.reads hd (n:= "strconv.ErrSyntax") (d:=Rows.laid_strconv_ErrSyntax) bCs;obtain rfl:=kW (Tryz.es.symm.trans h1);obtain rfl:=kW (Tryz.est.symm.trans h2);obtain⟨u,v,e⟩:=iface_of_trod underlying38 h4;have:=World.var?_cell Tryz.es h3 0;exact zGc
 ·obtain⟨g,t,cs,fuel,p,h1,h2,h3,h4⟩:=Lib.laidMet.reads hd (n:= "strconv.ErrRange") (d:=Rows.laid_strconv_ErrRange) bCr;obtain rfl:=kW (Tryz.er.symm.trans h1);obtain rfl:=kW (Tryz.ert.symm.trans h2);obtain⟨u,v,e⟩:=iface_of_trod underlying38 h4;have:=World.var?_cell Tryz.er h3 0;exact zGc
 ·obtain⟨g,t,cs,fuel,p,h1,h2,h3,h4⟩:=Lib.laidMet.reads hd (n:=rL) (d:=Rows.laid_internal_strconv_uint64pow10) bCq;obtain rfl:=kW (Tryz.p10.symm.trans h1);obtain rfl:=kW (Tryz.p10t.symm.trans h2);have:=Lib.cells_of_tab (zs:=Lib.pow10Tab) underlying276 underlying235 og og h4;unfold Lib.TabIs;rw[h3,<-this]
theorem aDq{g:Nat}{v:Value}(h:W.cell? (aA g 0)=some v):g<W.heap.size:=by
 rcases Nat.lt_or_ge g W.heap.size with k|k
 ·exact k
 ·simp[World.cell?,Array.getElem?_eq_none k]at h
theorem nV.below{W':World}(h:nV W)(hb:bW W W'):nV W':=by
 refine⟨?_,?_,?_,?_⟩
 ·exact h.told.below hb
 ·obtain⟨t,p,q⟩:=h.syn;exact⟨t,p,bc hb (aDq q) q⟩
 ·obtain⟨t,p,q⟩:=h.rng;exact⟨t,p,bc hb (aDq q) q⟩
 ·have q:=Lib.TabIs.cell h.tab Tryz.p10 0 oe;have hl:=aDq q;have:=h.tab;unfold Lib.TabIs World.var? at this⊢;rw[Tryz.p10]at this⊢;simpa[hb.block _ hl]using this
theorem aBj(h:laidMetH prog fM W):cB W.heap.size W:=fun _ hb=>(aDy h).below hb
theorem aE0(h:laidMetH prog fM W):pT W:=by
 obtain⟨g,t,cs,fuel,p,e1,e2,e3,e4⟩:=Lib.laidMet.reads (F5 h).1 (n:=aA4) (d:=Rows.laid_metronome_metronomeref_Fine) aYm;obtain rfl:=kW (Tryz.fi.symm.trans e1);obtain rfl:=kW (Tryz.fit.symm.trans e2);obtain⟨y0,y1,m,hd,hl,q0,q1⟩:=trod_struct2 underlying98 e4;obtain⟨l⟩:=cs;have hcF:Tryz.prog.cellsOf 98=2:=og;have hcE:Tryz.prog.cellsOf 25=1:=og;have hcI:Tryz.prog.cellsOf 3=1:=og;rw[hcF]at hl
 match l,hl with
 |[v0,v1],_=>
  simp only[hcE,hcI]at q0 q1
  obtain⟨a,f0,g0,_⟩:=DataW.trod_int underlying25 q0
  obtain⟨b,f1,g1,_⟩:=DataW.trod_int underlying3 q1
  simp at f0 f1
  subst f0 f1
  rw[g0,g1]at hd
  unfold Rows.laid_metronome_metronomeref_Fine at hd
  simp at hd
  obtain⟨⟨rfl,rfl⟩,_⟩:=hd
  have c0:W.cell? (aA 0 0)=some (iI 0):=by simpa using World.var?_cell Tryz.fi e3 0
  have c1:W.cell? (aA 0 1)=some (iI (-1)):=by simpa using World.var?_cell Tryz.fi e3 1
  refine⟨?_,c0,c1⟩
  rcases Nat.lt_or_ge 0 W.heap.size with k|k
  ·exact k
  ·simp[World.cell?,Array.getElem?_eq_none k]at c0
def aHb(w0:World):World:=
 { w0 with heap:=(((((((((w0.heap.modify 5 fun
   |.cells _ t frozen=>.cells #[.iface 326 (.agg #[.pointer (some (aA 10 38))])] t frozen
   |o=>o).modify 4 fun
   |.cells _ t frozen=>.cells (Lib.pow10Tab.map fun z=>Value.int .u64 z).toArray t frozen
   |o=>o).modify 8 fun
   |.cells _ t frozen=>.cells (aO7 (fM.getD 0 ("",.agg [])).2).toArray t frozen
   |o=>o).modify 9 fun
   |.cells _ t frozen=>.cells (aO7 (fM.getD 1 ("",.agg [])).2).toArray t frozen
   |o=>o).modify 3 fun
   |.cells _ t frozen=>.cells #[.iface 320 (pP w0.heap.size)] t frozen
   |o=>o).modify 2 fun
   |.cells _ t frozen=>.cells #[.iface 320 (.pointer (some (aA (w0.heap.size+1) 0)))] t frozen
   |o=>o).modify 7 fun
   |.cells _ t frozen=>.cells (bMt (fM.getD 3 ("",.agg [])).2).toArray t frozen
   |o=>o).modify 0 fun
   |.cells _ t frozen=>.cells #[iI 0,iI (-1)] t frozen
   |o=>o).modify 6 fun
   |.cells _ t frozen=>.cells (aO7 (fM.getD 8 ("",.agg [])).2).toArray t frozen
   |o=>o).push (.cells #[sT (aWj Rows.laid_strconv_ErrRange)] 322 (0,0))|>.push (.cells #[sT (aWj Rows.laid_strconv_ErrSyntax)] 322 (0,0)) }
theorem aTx(os:Os)(args:Array Value):laidMetH prog fM ((aHb (World.holding prog os ⟨#[],#[],[]⟩)).forCall (fun _ _=>0) ⟨#[],args,[]⟩).memory:=
 laidMetH_of_parts (laidMet_of_run' 8 (by kernel_rfl) (by kernel_rfl)) (by kernel_rfl)
