import Derived.Test.YtnbomhedoelklaaGreatDoorZDkSession
import Derived.LaidHandle
import Derived.Lib.LaidU8
import Derived.Stop.Joined
namespace Go.Proofs.YtnbomhedoelklaaGreatDoor
open Go.RowKit Go.Proofs.Tryz
set_option maxRecDepth 99999
set_option maxHeartbeats 0
open Go.ChangeShapes Go.WideShapes Go.ChangeAt Go.Joins
theorem own:ownKnob Tryz.prog.godebug=none:=oh
def aVx:DataW Unit->String
 |.iface n _=>n
 |_=> ""
theorem Tryz.et:Tryz.prog.globalNamed "errors.errorType"=some 2:=oh
theorem Tryz.p10:Tryz.prog.globalNamed oA=some 1:=oh
theorem Tryz.p10t:(Tryz.prog.globals[1]?).map (·.type)=some 242:=oh
theorem Tryz.er:Tryz.prog.globalNamed "strconv.ErrRange"=some 4:=oh
theorem Tryz.ert:(Tryz.prog.globals[4]?).map (·.type)=some 24:=oh
theorem Tryz.es:Tryz.prog.globalNamed "strconv.ErrSyntax"=some 3:=oh
theorem Tryz.est:(Tryz.prog.globals[3]?).map (·.type)=some 24:=oh
theorem Tryz.rt:(Tryz.prog.cutTypes.find? (·.1==aVx Rows.laid_errors_errorType)).map (·.2)=some 293:=oh
theorem Tryz.bCo:((List.range 350).filter λt=>Tryz.prog.rowNamed t [101,114,114,111,114])=[24]:=oh
theorem Tryz.size:Tryz.prog.types.size=350:=oh
def pZ:List (String×DataW Unit):=fT.filter λx=>x.2.handleName?.isNone
theorem tV{W:WA}(h:laidMetH prog fT W):laidMet prog pZ W/\handlesMet prog [("errors.errorType",Rows.laid_errors_errorType)] W:=h
theorem aFh{W:WA}(h:laidMetH prog fT W):Told W:=by obtain⟨name,u,ty,e1,e2,e3,e4,e5⟩:=(tV h).2 _ (List.mem_singleton.2 rfl);have en:name=[101,114,114,111,114]:=(kY e1).symm;subst en;obtain rfl:=kY (Tryz.rt.symm.trans e2);have hm:ty∈(List.range 350).filter λt=>Tryz.prog.rowNamed t [101,114,114,111,114]:=List.mem_filter.2 ⟨List.mem_range.2 (by rw[<-Tryz.size];exact e3),e4⟩;rw[Tryz.bCo]at hm;obtain rfl:=List.mem_singleton.1 hm;have hh:typeHandle prog 24=.pointer (some (aA 7 24)):=oh;rw[hh]at e5;unfold Told;simpa using World.var?_cell Tryz.et e5 0
theorem iface_of_trod{H:Type}{enc:WI×WB->H}{P:WJ}{w:WA}{base:Nat}{sp:Nat->Bool}{held:Bool}{fuel:Nat}{t:WI}{m:Array (String×WI)}{cs:List WB}{n:String}{d:DataW H}{p:List MemPlace}(ht:P.underlying t=some (.interface m))(h:DataW.trod enc P w base sp held fuel t cs=some (.iface n d,p)):∃u v,cs=[.iface u v]:=by
 cases fuel with
 |zero=>simp[DataW.trod]at h
 |succ fuel=>
  rcases cs with _|⟨v,_|⟨v2,r⟩⟩
  .simp[DataW.trod,ht]at h
  .cases v with
   |iface u x=>exact⟨u,x,rfl⟩
   |_=>simp[DataW.trod,ht]at h
  .simp[DataW.trod,ht]at h
def bA8:DataW Unit->List WB
 |.agg l=>l.map fun
  |.lit (.int k z)=>.int k z
  |_=>undef
 |_=>[]
def aW7:DataW Unit->WG
 |.iface _ (.ptr (.agg [.lit (.string s)]))=>⟨s.toArray⟩
 |_=>AU
theorem vN:pZ=[fT.getD 0 ("",.agg []),fT.getD 1 ("",.agg []),(oA,Rows.laid_internal_strconv_uint64pow10),("strconv.ErrRange",Rows.laid_strconv_ErrRange),("strconv.ErrSyntax",Rows.laid_strconv_ErrSyntax)]:=rfl
theorem bCf:(oA,Rows.laid_internal_strconv_uint64pow10)∈pZ:=by rw[vN];exact kR _ (kR _ kT)
theorem aTz:("strconv.ErrRange",Rows.laid_strconv_ErrRange)∈pZ:=by rw[vN];exact kR _ (kR _ (kR _ kT))
theorem aU0:("strconv.ErrSyntax",Rows.laid_strconv_ErrSyntax)∈pZ:=by rw[vN];exact kR _ (kR _ (kR _ (kR _ kT)))
theorem aDx{W:WA}(h:laidMetH prog fT W):gW W:=by
 have hd:=(tV h).1;refine⟨aFh h,?_,?_,?_⟩
 .obtain⟨g,t,cs,fuel,p,h1,h2,h3,h4⟩:=Lib.laidMet.reads hd (n:= "strconv.ErrSyntax") (d:=Rows.laid_strconv_ErrSyntax) aU0;obtain rfl:=kY (Tryz.es.symm.trans h1);obtain rfl:=kY (Tryz.est.symm.trans h2);exact zJk
 .obtain⟨g,t,cs,fuel,p,h1,h2,h3,h4⟩:=Lib.laidMet.reads hd (n:= "strconv.ErrRange") (d:=Rows.laid_strconv_ErrRange) aTz;obtain rfl:=kY (Tryz.er.symm.trans h1);obtain rfl:=kY (Tryz.ert.symm.trans h2);have bKb:=0;exact zJk
 .obtain⟨g,t,cs,fuel,p,h1,h2,h3,h4⟩:=Lib.laidMet.reads hd (n:=oA) (d:=Rows.laid_internal_strconv_uint64pow10) bCf;obtain rfl:=kY (Tryz.p10.symm.trans h1);obtain rfl:=kY (Tryz.p10t.symm.trans h2);have:=Lib.cells_of_tab (zs:=Lib.pow10Tab) underlying242 underlying36 oh oh h4;unfold Lib.TabIs;rw[h3,<-this]
theorem aDo{W:WA}{g:Nat}{v:WB}(h:W.cell? (aA g 0)=some v):g<W.1.size:=by
 rcases jB g W.1.size with k|k
 .exact k
 .simp[World.cell?,Array.getElem?_eq_none k]at h
theorem gW.below{W W':WA}(h:gW W)(hb:bW W W'):gW W':=by
 refine⟨?_,?_,?_,?_⟩
 .exact h.told.below hb
 .obtain⟨t,p,q⟩:=h.syn;exact⟨t,p,bc hb (aDo q) q⟩
 .obtain⟨t,p,q⟩:=h.rng;exact⟨t,p,bc hb (aDo q) q⟩
 .have q:=Lib.TabIs.cell h.tab Tryz.p10 0 og;have hl:=aDo q;have:=h.tab;unfold Lib.TabIs World.var? at this⊢;rw[Tryz.p10]at this⊢;simpa[hb.block _ hl]using this
def aH0(w0:WA):WA:=
 { w0 with heap:=((((((w0.1.modify 2 fun
   |.cells _ t frozen=>.cells #[.iface 293 (.agg #[.pointer (some (aA 7 24))])] t frozen
   |o=>o).modify 1 fun
   |.cells _ t frozen=>.cells (Lib.pow10Tab.map λz=>Value.int .u64 z).toArray t frozen
   |o=>o).modify 5 fun
   |.cells _ t frozen=>.cells (bA8 (fT.getD 0 ("",.agg [])).2).toArray t frozen
   |o=>o).modify 6 fun
   |.cells _ t frozen=>.cells (bA8 (fT.getD 1 ("",.agg [])).2).toArray t frozen
   |o=>o).modify 4 fun
   |.cells _ t frozen=>.cells #[.iface 320 (pP w0.1.size)] t frozen
   |o=>o).modify 3 fun
   |.cells _ t frozen=>.cells #[.iface 320 (.pointer (some (aA (w0.1.size+1) 0)))] t frozen
   |o=>o).push (.cells #[sT (aW7 Rows.laid_strconv_ErrRange)] 322 (0,0))|>.push (.cells #[sT (aW7 Rows.laid_strconv_ErrSyntax)] 322 (0,0)) }
theorem aTj(os:Os)(args:Array WB):laidMetH prog fT ((aH0 (World.holding prog os ⟨#[],#[],[]⟩)).forCall (λ_ _=>0) ⟨#[],args,[]⟩).memory:=
 laidMetH_of_parts (laidMet_of_run' 8 oh oh) oh
