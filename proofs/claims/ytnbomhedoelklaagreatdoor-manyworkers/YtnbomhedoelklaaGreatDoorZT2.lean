import Derived.Test.YtnbomhedoelklaaGreatDoorProg
import Derived.Test.YtnbomhedoelklaaGreatDoorZW2
import Derived.BigQuiet
import Derived.RowKitTokens
import Derived.Stop.Asserts
import Derived.WalkLawsBesides
import Derived.WalkSpells
namespace Go.Proofs.YtnbomhedoelklaaGreatDoor
open Go.RowKit Go.Proofs.Tryz
set_option maxRecDepth 99999
set_option maxHeartbeats 0
open Go.Extern.Stop Go.Stop Go.Extern
theorem Tryz.aW4(t:WT)(w:WA):(ReflectliteValue.unpack (.iface 221 (.pointer (some t)))).run prog w
  =.ok (.agg #[.pointer (some (aA 7 221)),pP w.1.size,.int .u64 150]) (w.alloc (.cells #[.pointer (some t)] 221)):=by kernel_rfl
theorem Tryz.bIf(a:WT)(w:WA):(ReflectliteValue.methodAny (ReflectliteValue.valueError "reflectlite.Value.Type" 0) (λt _ _ _=>ReflectliteType.toType t) #[.agg #[.pointer (some (aA 7 221)),.pointer (some a),.int .u64 150]]).run prog w
  =.ok (.iface 293 (.agg #[.pointer (some (aA 7 221))])) w:=by kernel_rfl
theorem Tryz.aKh(h:WB)(w:WA):(Go.method 450 293 (.agg #[h]) "Kind").run prog w=.ok (247,h) w:=oh
theorem Tryz.bFr(w:WA):((ReflectliteType.abiMethod λt=>(λa:Nat=>Value.int IntKind.u8 (a:Int))<$>Rtype.kind t) #[.pointer (some (aA 7 221))]).run prog w=.ok (.int .u8 22) w:=oh
theorem Tryz.bFq(w:WA):((ReflectliteType.abiMethod λt=>(λa:Nat=>Value.int IntKind.u8 (a:Int))<$>Rtype.kind t) #[.pointer (some (aA 7 30))]).run prog w=.ok (.int .u8 2) w:=oh
theorem aN1{P:WJ}{W:WA}{v:WB}{t:WI}{a:WT}{fl:Nat}(z:Sem WB)(f:WI->WT->Nat->Nat->Sem WB)(h:(ReflectliteValue.parts v).run P W=.ok (some (t,a,fl)) W):
  (ReflectliteValue.method z f #[v]).run P W=(f t a fl (fl%32)).run P W:=by have e:ReflectliteValue.method z f #[v]=Bind.bind (ReflectliteValue.parts v) _:=rfl;rw[e];simp only[Sem.run_bind,h,Result.andThen]
theorem bD9{P:WJ}{W:WA}{v x r:WB}{dst src:WI}{a b:WT}{fl g:Nat}(h:(ReflectliteValue.parts v).run P W=.ok (some (dst,a,fl)) W)(k:(ReflectliteValue.parts x).run P W=.ok (some (src,b,g)) W)
  (hfl:fl/256%2=1)(hl:(loadVar src b).run P W=.ok r W)(hd:(Rtype.directlyAssignable dst src).run P W=.ok true W):
  (ReflectliteValue.set #[v,x]).run P W=(Bind.bind (storeVar dst a r) (λ_=>pure (tU #[]))).run P W:=by have e:ReflectliteValue.set #[v,x]=Bind.bind (ReflectliteValue.parts v) _:=rfl;have k2:Sem.run P (ReflectliteValue.parts (#[v,x].getLit (n:=2) 1 rfl og)) W=.ok (some (src,b,g)) W:=k;rw[e];simp only[Sem.run_bind,h,k2,Result.andThen];simp[ReflectliteValue.flagAddr,hfl,hl,hd,Result.andThen]
theorem Tryz.aUj(a:WT)(w:WA):(ReflectliteValue.parts (.agg #[.pointer (some (aA 7 221)),.pointer (some a),.int .u64 150])).run prog w=.ok (some (221,a,150)) w:=oh
theorem Tryz.bBq(a p:WT)(W:WA)(ha:W.cell? a=some (.pointer (some p))):
  (ReflectliteValue.method (ReflectliteValue.valueError "reflectlite.Value.IsNil" 0) ReflectliteValue.isNil #[.agg #[.pointer (some (aA 7 221)),.pointer (some a),.int .u64 150]]).run prog W=.ok (.bool false) W:=by rw[aN1 _ _ (Tryz.aUj a W)];simp[ReflectliteValue.isNil,loadVar,isAgg,underlying,underlying221,ha,Result.andThen]
theorem Tryz.aKg(h:WB)(w:WA):(Go.method 450 293 (.agg #[h]) "Elem").run prog w=.ok (266,.agg #[h]) w:=oh
theorem Tryz.H3(h:WB)(w:WA):(Go.method 450 293 (.agg #[h]) "Implements").run prog w=.ok (267,.agg #[h]) w:=oh
theorem Tryz.yT(h:WB)(w:WA):(Go.method 450 293 (.agg #[h]) "AssignableTo").run prog w=.ok (264,.agg #[h]) w:=oh
theorem Tryz.bEk(w:WA):(ReflectliteType.method ReflectliteType.elem #[.agg #[.pointer (some (aA 7 221))]]).run prog w=.ok (.iface 293 (.agg #[.pointer (some (aA 7 30))])) w:=oh
theorem Tryz.aGw(w:WA):(ReflectliteType.relation "Implements" ReflectliteType.implements_ #[.agg #[.pointer (some (aA 7 30))],.iface 293 (.agg #[.pointer (some (aA 7 24))])]).run prog w=.ok (.bool true) w:=oh
theorem Tryz.aZ6(v:WB)(w:WA):(ReflectliteType.typeOf #[.iface 30 v]).run prog w=.ok (.iface 293 (.agg #[.pointer (some (aA 7 30))])) w:=oh
theorem Tryz.aG2(w:WA):(ReflectliteType.relation "AssignableTo" ReflectliteType.assignableTo #[.agg #[.pointer (some (aA 7 30))],.iface 293 (.agg #[.pointer (some (aA 7 30))])]).run prog w=.ok (.bool true) w:=oh
theorem Tryz.aW3(k:Int)(w:WA):(ReflectliteValue.unpack (.iface 30 (iI k))).run prog w
  =.ok (.agg #[.pointer (some (aA 7 30)),pP w.1.size,.int .u64 130]) (w.alloc (.cells #[iI k] 30)):=by kernel_rfl
theorem Tryz.aX0(w:WA):(Rtype.elem? 221).run prog w=.ok (some 30) w:=oh
theorem Tryz.mkE(p:WT)(w:WA):(ReflectliteValue.mk 30 p ReflectliteValue.flagAddr).run prog w=.ok (.agg #[.pointer (some (aA 7 30)),.pointer (some p),.int .u64 386]) w:=oh
theorem Tryz.bAy(a p:WT)(W:WA)(ha:W.cell? a=some (.pointer (some p))):
  (ReflectliteValue.method (ReflectliteValue.valueError "reflectlite.Value.Elem" 0) ReflectliteValue.elem #[.agg #[.pointer (some (aA 7 221)),.pointer (some a),.int .u64 150]]).run prog W
   =.ok (.agg #[.pointer (some (aA 7 30)),.pointer (some p),.int .u64 386]) W:=by rw[aN1 _ _ (Tryz.aUj a W)];simp[ReflectliteValue.elem,loadVar,isAgg,underlying,underlying221,ha,Result.andThen,Tryz.aX0,Tryz.mkE]
theorem Tryz.aYi(a:WT)(w:WA):(ReflectliteValue.parts (.agg #[.pointer (some (aA 7 30)),.pointer (some a),.int .u64 386])).run prog w=.ok (some (30,a,386)) w:=oh
theorem Tryz.bCq(a:WT)(w:WA):(ReflectliteValue.parts (.agg #[.pointer (some (aA 7 30)),.pointer (some a),.int .u64 130])).run prog w=.ok (some (30,a,130)) w:=oh
theorem Tryz.aWz(w:WA):(Rtype.directlyAssignable 30 30).run prog w=.ok true w:=oh
theorem Tryz.bM5(ta b:WT)(k:Int)(old:WB)(W:WA)(hb:W.cell? b=some (iI k))(ht:W.cell? ta=some old)(hf:W.frozen? ta=false):
  (ReflectliteValue.set #[.agg #[.pointer (some (aA 7 30)),.pointer (some ta),.int .u64 386],.agg #[.pointer (some (aA 7 30)),.pointer (some b),.int .u64 130]]).run prog W
   =.ok (tU #[]) (W.setCell ta (iI k)):=by rw[bD9 (Tryz.aYi ta W) (Tryz.bCq b W) og (r:=iI k) (by simp[loadVar,isAgg,underlying,underlying30,hb,Result.andThen]) (Tryz.aWz W)];simp only[Sem.run_bind,storeVar,Value.cells,storeCells,Addr.add];simp[Result.andThen];rw[run_store prog W ta _ _ ou];simp[ht,hf]
theorem bAg(k:Int)(t:WT)(old:WB)(w:WA)(hg:w.cell? (aA 2 0)=some (.iface 293 (.agg #[.pointer (some (aA 7 24))])))(ht0:w.cell? t=some old)(hf0:w.frozen? t=false):
  Calls prog 145 #[.iface 30 (iI k),.iface 221 (.pointer (some t))] w λev w'=>ev=rT (.bool true)/\w'=((((w.alloc (.cells #[.pointer (some t)] 221)).alloc (.cells #[.pointer (some (aA 7 221)),pP w.1.size,.int .u64 150] 255)).alloc (.cells #[.pointer (some (aA 7 221)),pP w.1.size,.int .u64 150] 255)).alloc (.cells #[iI k] 30)).setCell t (iI k):=zF4
theorem Tryz.aVw(v:WB)(w:WA):(ReflectliteType.typeOf #[.iface 265 v]).run prog w=.ok (.iface 293 (.agg #[.pointer (some (aA 7 265))])) w:=oh
theorem Tryz.aDl(w:WA):(ReflectliteType.relation "AssignableTo" ReflectliteType.assignableTo #[.agg #[.pointer (some (aA 7 265))],.iface 293 (.agg #[.pointer (some (aA 7 30))])]).run prog w=.ok (.bool false) w:=oh
theorem Tryz.bHc(v:WB)(w:WA):(Instr.typeAssert (.iface 265 v) 24 298 true).run prog w=.ok (tU #[.nilIface,.bool false]) w:=run_typeAssert_lacksB underlying298 oh oh v 24 w
theorem Tryz.aOt(v:WB)(w:WA):(Instr.typeAssert (.iface 265 v) 24 301 true).run prog w=.ok (tU #[.iface 265 v,.bool true]) w:=run_typeAssert_hasB underlying301 oh v 24 w
theorem Tryz.aEo(a:WT)(w:WA):(Go.method 450 265 (.pointer (some a)) "Unwrap").run prog w=.ok (259,.pointer (some a)) w:=oh
theorem Tryz.aPv(a:WT)(w:WA):(nilAhead 450 265 (.pointer (some a)) "Unwrap").run prog w=.ok (some false) w:=oh
theorem bDy(k:Int)(a t:WT)(old:WB)(w:WA)(hk:w.cell? a=some (iI k))(hg:w.cell? (aA 2 0)=some (.iface 293 (.agg #[.pointer (some (aA 7 24))])))(ht0:w.cell? t=some old)(hf0:w.frozen? t=false):
  Calls prog 145 #[.iface 265 (.pointer (some a)),.iface 221 (.pointer (some t))] w λev w'=>ev=rT (.bool true)/\w'=((((w.alloc (.cells #[.pointer (some t)] 221)).alloc (.cells #[.pointer (some (aA 7 221)),pP w.1.size,.int .u64 150] 255)).alloc (.cells #[.pointer (some (aA 7 221)),pP w.1.size,.int .u64 150] 255)).alloc (.cells #[iI k] 30)).setCell t (iI k):=have m1:=0;zF4
def Told(w:WA):Prop:=w.cell? (aA 2 0)=some (.iface 293 (.agg #[.pointer (some (aA 7 24))]))
theorem Told.lt{w:WA}(h:Told w):2<w.1.size:=by
 rcases jB 2 w.1.size with k|k
 .exact k
 .simp[Told,World.cell?,Array.getElem?_eq_none k]at h
theorem Told.below{w w':WA}(h:Told w)(hb:bW w w'):Told w':=by have:=hb.cell (p:=(aA 2 0)) h.lt;unfold Told at *;rw[this];exact h
theorem Told.alloc{w:WA}(h:Told w)(o:Obj):Told (w.alloc o):=h.below ((jD _ _).alloc (kG _) _)
theorem aIr(w:WA):Calls prog 108 #[.nilIface] w λe w'=>e=rT (iI 0)/\bW w w':=by go_enter func108,ntmps108;exact zEf
theorem bDd(k:Int)(w:WA)(hg:Told w):Calls prog 108 #[.iface 30 (iI k)] w λe w'=>e=rT (iI k)/\bW w w':=by have hh:=bAg k (aA w.1.size 0) (iI 0) (w.alloc (.cells #[iI 0] 30)) (hg.alloc _) oe oe;exact zB4
theorem aZ4(k:Int)(a:WT)(w:WA)(hg:Told w)(hk:w.cell? a=some (iI k)):Calls prog 108 #[.iface 265 (.pointer (some a))] w λe w'=>e=rT (iI k)/\bW w w':=by
 have hal:a.block<w.1.size:=by exact zDf
 have hh:=bDy k a (aA w.1.size 0) (iI 0) (w.alloc (.cells #[iI 0] 30)) (by rw[World.cell?_alloc_lt _ _ a hal];exact hk) (hg.alloc _) oe oe;clear hk;exact zB4
