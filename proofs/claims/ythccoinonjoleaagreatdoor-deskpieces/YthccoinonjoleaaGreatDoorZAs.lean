import Derived.Test.YthccoinonjoleaaGreatDoorProg
import Derived.LaidEql
import Derived.RowKitTokens
import Derived.Stop.Asserts
import Derived.WalkKit
namespace Go.Proofs.YthccoinonjoleaaGreatDoor
open Go.RowKit
set_option maxRecDepth 100000
set_option maxHeartbeats 16000000
section
open Go.RowKit Go.Extern.Stop Go.Stop Go.Extern
theorem Tryz.valueOfP (t:Addr) (w:World):(ReflectliteValue.unpack (.iface 186 (.pointer (some t)))).run Tryz.prog w
  = .ok (.agg #[.pointer (some ⟨7,186,none⟩),.pointer (some ⟨w.heap.size,0,none⟩),.int .u64 150]) (w.alloc (.cells #[.pointer (some t)] 186)):=by kernel_rfl
theorem Tryz.typeP (a:Addr) (w:World):(ReflectliteValue.methodAny (ReflectliteValue.valueError "reflectlite.Value.Type" 0) (fun t _ _ _=>ReflectliteType.toType t) #[.agg #[.pointer (some ⟨7,186,none⟩),.pointer (some a),.int .u64 150]]).run Tryz.prog w
  = .ok (.iface 259 (.agg #[.pointer (some ⟨7,186,none⟩)])) w:=by kernel_rfl
theorem Tryz.methodKind (h:Value) (w:World):(Go.method 417 259 (.agg #[h]) "Kind").run Tryz.prog w=.ok (218,h) w:=by kernel_rfl
theorem Tryz.kindP (w:World):((ReflectliteType.abiMethod fun t=>(fun a:Nat=>Value.int IntKind.u8 (a:Int)) <$> Rtype.kind t) #[.pointer (some ⟨7,186,none⟩)]).run Tryz.prog w=.ok (.int .u8 22) w:=by kernel_rfl
theorem Tryz.kindE (w:World):((ReflectliteType.abiMethod fun t=>(fun a:Nat=>Value.int IntKind.u8 (a:Int)) <$> Rtype.kind t) #[.pointer (some ⟨7,25,none⟩)]).run Tryz.prog w=.ok (.int .u8 2) w:=by kernel_rfl
theorem meth_at {P:Program} {W:World} {v:Value} {t:TypeId} {a:Addr} {fl:Nat} (z:Sem Value) (f:TypeId→Addr→Nat→Nat→Sem Value) (h:(ReflectliteValue.parts v).run P W=.ok (some (t,a,fl)) W) :
  (ReflectliteValue.method z f #[v]).run P W=(f t a fl (fl % 32)).run P W:=by
 have e:ReflectliteValue.method z f #[v]=Bind.bind (ReflectliteValue.parts v) _:=rfl
 rw [e]
 simp only [Sem.run_bind,h,Result.andThen]
theorem set_at {P:Program} {W:World} {v x r:Value} {dst src:TypeId} {a b:Addr} {fl g:Nat} (h:(ReflectliteValue.parts v).run P W=.ok (some (dst,a,fl)) W) (k:(ReflectliteValue.parts x).run P W=.ok (some (src,b,g)) W)
  (hfl:fl / 256 % 2=1) (hl:(loadVar src b).run P W=.ok r W) (hd:(Rtype.directlyAssignable dst src).run P W=.ok true W) :
  (ReflectliteValue.set #[v,x]).run P W=(Bind.bind (storeVar dst a r) (fun _=>pure (.tuple #[]))).run P W:=by
 have e:ReflectliteValue.set #[v,x]=Bind.bind (ReflectliteValue.parts v) _:=rfl
 have k2:Sem.run P (ReflectliteValue.parts (#[v,x].getLit (n:=2) 1 rfl (by decide))) W=.ok (some (src,b,g)) W:=k
 rw [e]
 simp only [Sem.run_bind,h,k2,Result.andThen]
 simp [ReflectliteValue.flagAddr,hfl,hl,hd,Result.andThen]
theorem Tryz.partsP (a:Addr) (w:World):(ReflectliteValue.parts (.agg #[.pointer (some ⟨7,186,none⟩),.pointer (some a),.int .u64 150])).run Tryz.prog w=.ok (some (186,a,150)) w:=by kernel_rfl
theorem Tryz.isNilP (a p:Addr) (W:World) (ha:W.cell? a=some (.pointer (some p))) :
  (ReflectliteValue.method (ReflectliteValue.valueError "reflectlite.Value.IsNil" 0) ReflectliteValue.isNil #[.agg #[.pointer (some ⟨7,186,none⟩),.pointer (some a),.int .u64 150]]).run Tryz.prog W=.ok (.bool false) W:=by
 rw [meth_at _ _ (Tryz.partsP a W)]
 simp [ReflectliteValue.isNil,loadVar,isAgg,underlying,Tryz.underlying186,ha,Result.andThen]
theorem Tryz.methodElem (h:Value) (w:World):(Go.method 417 259 (.agg #[h]) "Elem").run Tryz.prog w=.ok (237,.agg #[h]) w:=by kernel_rfl
theorem Tryz.methodImplements (h:Value) (w:World):(Go.method 417 259 (.agg #[h]) "Implements").run Tryz.prog w=.ok (238,.agg #[h]) w:=by kernel_rfl
theorem Tryz.methodAssignableTo (h:Value) (w:World):(Go.method 417 259 (.agg #[h]) "AssignableTo").run Tryz.prog w=.ok (235,.agg #[h]) w:=by kernel_rfl
theorem Tryz.elemP (w:World):(ReflectliteType.method ReflectliteType.elem #[.agg #[.pointer (some ⟨7,186,none⟩)]]).run Tryz.prog w=.ok (.iface 259 (.agg #[.pointer (some ⟨7,25,none⟩)])) w:=by kernel_rfl
theorem Tryz.implementsE (w:World):(ReflectliteType.relation "Implements" ReflectliteType.implements_ #[.agg #[.pointer (some ⟨7,25,none⟩)],.iface 259 (.agg #[.pointer (some ⟨7,38,none⟩)])]).run Tryz.prog w=.ok (.bool true) w:=by kernel_rfl
theorem Tryz.typeOfE (v:Value) (w:World):(ReflectliteType.typeOf #[.iface 25 v]).run Tryz.prog w=.ok (.iface 259 (.agg #[.pointer (some ⟨7,25,none⟩)])) w:=by kernel_rfl
theorem Tryz.assignableE (w:World):(ReflectliteType.relation "AssignableTo" ReflectliteType.assignableTo #[.agg #[.pointer (some ⟨7,25,none⟩)],.iface 259 (.agg #[.pointer (some ⟨7,25,none⟩)])]).run Tryz.prog w=.ok (.bool true) w:=by kernel_rfl
theorem Tryz.valueOfE (k:Int) (w:World):(ReflectliteValue.unpack (.iface 25 (.int .i64 k))).run Tryz.prog w
  = .ok (.agg #[.pointer (some ⟨7,25,none⟩),.pointer (some ⟨w.heap.size,0,none⟩),.int .u64 130]) (w.alloc (.cells #[.int .i64 k] 25)):=by kernel_rfl
theorem Tryz.elemOfP (w:World):(Rtype.elem? 186).run Tryz.prog w=.ok (some 25) w:=by kernel_rfl
theorem Tryz.mkE (p:Addr) (w:World):(ReflectliteValue.mk 25 p ReflectliteValue.flagAddr).run Tryz.prog w=.ok (.agg #[.pointer (some ⟨7,25,none⟩),.pointer (some p),.int .u64 386]) w:=by kernel_rfl
theorem Tryz.elemVP (a p:Addr) (W:World) (ha:W.cell? a=some (.pointer (some p))) :
  (ReflectliteValue.method (ReflectliteValue.valueError "reflectlite.Value.Elem" 0) ReflectliteValue.elem #[.agg #[.pointer (some ⟨7,186,none⟩),.pointer (some a),.int .u64 150]]).run Tryz.prog W
   = .ok (.agg #[.pointer (some ⟨7,25,none⟩),.pointer (some p),.int .u64 386]) W:=by
 rw [meth_at _ _ (Tryz.partsP a W)]
 simp [ReflectliteValue.elem,loadVar,isAgg,underlying,Tryz.underlying186,ha,Result.andThen,Tryz.elemOfP,Tryz.mkE]
theorem Tryz.partsEa (a:Addr) (w:World):(ReflectliteValue.parts (.agg #[.pointer (some ⟨7,25,none⟩),.pointer (some a),.int .u64 386])).run Tryz.prog w=.ok (some (25,a,386)) w:=by kernel_rfl
theorem Tryz.partsE (a:Addr) (w:World):(ReflectliteValue.parts (.agg #[.pointer (some ⟨7,25,none⟩),.pointer (some a),.int .u64 130])).run Tryz.prog w=.ok (some (25,a,130)) w:=by kernel_rfl
theorem Tryz.directE (w:World):(Rtype.directlyAssignable 25 25).run Tryz.prog w=.ok true w:=by kernel_rfl
theorem Tryz.setE (ta b:Addr) (k:Int) (old:Value) (W:World) (hb:W.cell? b=some (.int .i64 k)) (ht:W.cell? ta=some old) (hf:W.frozen? ta=false) :
  (ReflectliteValue.set #[.agg #[.pointer (some ⟨7,25,none⟩),.pointer (some ta),.int .u64 386],.agg #[.pointer (some ⟨7,25,none⟩),.pointer (some b),.int .u64 130]]).run Tryz.prog W
   = .ok (.tuple #[]) (W.setCell ta (.int .i64 k)):=by
 rw [set_at (Tryz.partsEa ta W) (Tryz.partsE b W) (by decide) (r:=.int .i64 k) (by simp [loadVar,isAgg,underlying,Tryz.underlying25,hb,Result.andThen]) (Tryz.directE W)]
 simp only [Sem.run_bind,storeVar,Value.cells,storeCells,Addr.add]
 simp [Result.andThen]
 rw [run_store Tryz.prog W ta _ _ (by rfl)]
 simp [ht,hf]
theorem as_hit (k:Int) (t:Addr) (old:Value) (w:World) (hg:w.cell? ⟨2,0,none⟩=some (.iface 259 (.agg #[.pointer (some ⟨7,38,none⟩)]))) (ht0:w.cell? t=some old) (hf0:w.frozen? t=false) :
  Calls Tryz.prog 116 #[.iface 25 (.int .i64 k),.iface 186 (.pointer (some t))] w fun ev w'=>ev=.returned (.bool true)∧w'=((((w.alloc (.cells #[.pointer (some t)] 186)).alloc (.cells #[.pointer (some ⟨7,186,none⟩),.pointer (some ⟨w.heap.size,0,none⟩),.int .u64 150] 221)).alloc (.cells #[.pointer (some ⟨7,186,none⟩),.pointer (some ⟨w.heap.size,0,none⟩),.int .u64 150] 221)).alloc (.cells #[.int .i64 k] 25)).setCell t (.int .i64 k):=by
 have x0:=@run_callFunc_extern Tryz.prog 155 _ (fun args=>ReflectliteValue.unpack (args.getD 0 (.tuple #[]))) Tryz.func155 (by kernel_rfl) (by kernel_rfl) (by kernel_rfl) (by kernel_rfl)
 have x1:=@run_callFunc_extern Tryz.prog 156 _ (ReflectliteValue.methodAny (ReflectliteValue.valueError "reflectlite.Value.Type" 0) (fun t _ _ _=>ReflectliteType.toType t)) Tryz.func156 (by kernel_rfl) (by kernel_rfl) (by kernel_rfl) (by kernel_rfl)
 have x2:=@run_callFunc_extern Tryz.prog 157 _ (ReflectliteValue.method (ReflectliteValue.valueError "reflectlite.Value.IsNil" 0) ReflectliteValue.isNil) Tryz.func157 (by kernel_rfl) (by kernel_rfl) (by kernel_rfl) (by kernel_rfl)
 have x3:=@run_callFunc_extern Tryz.prog 218 _ (ReflectliteType.abiMethod fun t=>do pure (.int .u8 (← Rtype.kind t))) Tryz.func218 (by kernel_rfl) (by kernel_rfl) (by kernel_rfl) (by kernel_rfl)
 have x4:=@run_callFunc_extern Tryz.prog 237 _ (ReflectliteType.method ReflectliteType.elem) Tryz.func237 (by kernel_rfl) (by kernel_rfl) (by kernel_rfl) (by kernel_rfl)
 have x5:=@run_callFunc_extern Tryz.prog 238 _ (ReflectliteType.relation "Implements" ReflectliteType.implements_) Tryz.func238 (by kernel_rfl) (by kernel_rfl) (by kernel_rfl) (by kernel_rfl)
 have x6:=@run_callFunc_extern Tryz.prog 187 _ ReflectliteType.typeOf Tryz.func187 (by kernel_rfl) (by kernel_rfl) (by kernel_rfl) (by kernel_rfl)
 have x7:=@run_callFunc_extern Tryz.prog 235 _ (ReflectliteType.relation "AssignableTo" ReflectliteType.assignableTo) Tryz.func235 (by kernel_rfl) (by kernel_rfl) (by kernel_rfl) (by kernel_rfl)
 have x8:=@run_callFunc_extern Tryz.prog 188 _ (ReflectliteValue.method (ReflectliteValue.valueError "reflectlite.Value.Elem" 0) ReflectliteValue.elem) Tryz.func188 (by kernel_rfl) (by kernel_rfl) (by kernel_rfl) (by kernel_rfl)
 have x9:=@run_callFunc_extern Tryz.prog 189 _ ReflectliteValue.set Tryz.func189 (by kernel_rfl) (by kernel_rfl) (by kernel_rfl) (by kernel_rfl)
 have tO:=Tryz.typeOfE
 have mA:=Tryz.methodAssignableTo
 have aE:=Tryz.assignableE
 have vE:=Tryz.valueOfE
 have f6:=Tryz.valueOfP
 have f7:=Tryz.typeP
 have mK:=Tryz.methodKind
 have mE:=Tryz.methodElem
 have mI:=Tryz.methodImplements
 have kP:=Tryz.kindP
 have kE:=Tryz.kindE
 have eP:=Tryz.elemP
 have iE:=Tryz.implementsE
 have n8:=Tryz.isNilP ⟨w.heap.size,0,none⟩ t ((w.alloc (.cells #[.pointer (some t)] 186)).alloc (.cells #[.pointer (some ⟨7,186,none⟩),.pointer (some ⟨w.heap.size,0,none⟩),.int .u64 150] 221)) (by simp)
 have hlt:2<w.heap.size:=by
  rcases Nat.lt_or_ge 2 w.heap.size with h | h
  ·exact h
  ·simp [World.cell?,Array.getElem?_eq_none h] at hg
 have hg2:((w.alloc (.cells #[.pointer (some t)] 186)).alloc (.cells #[.pointer (some ⟨7,186,none⟩),.pointer (some ⟨w.heap.size,0,none⟩),.int .u64 150] 221)).cell? ⟨2,0,none⟩=some (.iface 259 (.agg #[.pointer (some ⟨7,38,none⟩)])):=by
  rw [World.cell?_alloc_lt _ _ ⟨2,0,none⟩ (by first | (simp;omega) | simp),World.cell?_alloc_lt _ _ ⟨2,0,none⟩ hlt];exact hg
 have htl:t.block<w.heap.size:=by
  rcases Nat.lt_or_ge t.block w.heap.size with h | h
  ·exact h
  ·simp [World.cell?,Array.getElem?_eq_none h] at ht0
 have el:=Tryz.elemVP ⟨w.heap.size,0,none⟩ t (((w.alloc (.cells #[.pointer (some t)] 186)).alloc (.cells #[.pointer (some ⟨7,186,none⟩),.pointer (some ⟨w.heap.size,0,none⟩),.int .u64 150] 221)).alloc (.cells #[.pointer (some ⟨7,186,none⟩),.pointer (some ⟨w.heap.size,0,none⟩),.int .u64 150] 221)) (by rw [World.cell?_alloc_lt _ _ ⟨w.heap.size,0,none⟩ (by simp;omega)];simp)
 have st:=Tryz.setE t ⟨w.heap.size+1+1+1,0,none⟩ k old ((((w.alloc (.cells #[.pointer (some t)] 186)).alloc (.cells #[.pointer (some ⟨7,186,none⟩),.pointer (some ⟨w.heap.size,0,none⟩),.int .u64 150] 221)).alloc (.cells #[.pointer (some ⟨7,186,none⟩),.pointer (some ⟨w.heap.size,0,none⟩),.int .u64 150] 221)).alloc (.cells #[.int .i64 k] 25))
  (by rw [World.cell?_alloc_at _ _ _ _ (by simp)];rfl)
  (by rw [World.cell?_alloc_lt _ _ t (by simp;omega),World.cell?_alloc_lt _ _ t (by simp;omega),World.cell?_alloc_lt _ _ t (by simp;omega),World.cell?_alloc_lt _ _ t htl];exact ht0)
  (by rw [World.frozen?_alloc_old _ _ t (by simp;omega),World.frozen?_alloc_old _ _ t (by simp;omega),World.frozen?_alloc_old _ _ t (by simp;omega),World.frozen?_alloc_old _ _ t (Nat.ne_of_lt htl)];exact hf0)
 go_enter Tryz.func116,Tryz.ntmps116
 go_wp2
 refine wp_loop_rounds 1 ?_
 rw [rounds_succ]
 go_wp2
 go_ret
 exact ⟨rfl,rfl⟩
theorem Tryz.typeOfAt (v:Value) (w:World):(ReflectliteType.typeOf #[.iface 231 v]).run Tryz.prog w=.ok (.iface 259 (.agg #[.pointer (some ⟨7,231,none⟩)])) w:=by kernel_rfl
theorem Tryz.assignableAt (w:World):(ReflectliteType.relation "AssignableTo" ReflectliteType.assignableTo #[.agg #[.pointer (some ⟨7,231,none⟩)],.iface 259 (.agg #[.pointer (some ⟨7,25,none⟩)])]).run Tryz.prog w=.ok (.bool false) w:=by kernel_rfl
theorem Tryz.noAs (v:Value) (w:World):(Instr.typeAssert (.iface 231 v) 38 264 true).run Tryz.prog w=.ok (.tuple #[.nilIface,.bool false]) w:=run_typeAssert_lacksB Tryz.underlying264 (by kernel_rfl) (by kernel_rfl) v 38 w
theorem Tryz.hasUnwrap (v:Value) (w:World):(Instr.typeAssert (.iface 231 v) 38 267 true).run Tryz.prog w=.ok (.tuple #[.iface 231 v,.bool true]) w:=run_typeAssert_hasB Tryz.underlying267 (by kernel_rfl) v 38 w
theorem Tryz.methodUnwrap (a:Addr) (w:World):(Go.method 417 231 (.pointer (some a)) "Unwrap").run Tryz.prog w=.ok (230,.pointer (some a)) w:=by kernel_rfl
theorem Tryz.nilUnwrap (a:Addr) (w:World):(nilAhead 417 231 (.pointer (some a)) "Unwrap").run Tryz.prog w=.ok (some false) w:=by kernel_rfl
theorem as_at (k:Int) (a t:Addr) (old:Value) (w:World) (hk:w.cell? a=some (.int .i64 k)) (hg:w.cell? ⟨2,0,none⟩=some (.iface 259 (.agg #[.pointer (some ⟨7,38,none⟩)]))) (ht0:w.cell? t=some old) (hf0:w.frozen? t=false) :
  Calls Tryz.prog 116 #[.iface 231 (.pointer (some a)),.iface 186 (.pointer (some t))] w fun ev w'=>ev=.returned (.bool true)∧w'=((((w.alloc (.cells #[.pointer (some t)] 186)).alloc (.cells #[.pointer (some ⟨7,186,none⟩),.pointer (some ⟨w.heap.size,0,none⟩),.int .u64 150] 221)).alloc (.cells #[.pointer (some ⟨7,186,none⟩),.pointer (some ⟨w.heap.size,0,none⟩),.int .u64 150] 221)).alloc (.cells #[.int .i64 k] 25)).setCell t (.int .i64 k):=by
 have x0:=@run_callFunc_extern Tryz.prog 155 _ (fun args=>ReflectliteValue.unpack (args.getD 0 (.tuple #[]))) Tryz.func155 (by kernel_rfl) (by kernel_rfl) (by kernel_rfl) (by kernel_rfl)
 have x1:=@run_callFunc_extern Tryz.prog 156 _ (ReflectliteValue.methodAny (ReflectliteValue.valueError "reflectlite.Value.Type" 0) (fun t _ _ _=>ReflectliteType.toType t)) Tryz.func156 (by kernel_rfl) (by kernel_rfl) (by kernel_rfl) (by kernel_rfl)
 have x2:=@run_callFunc_extern Tryz.prog 157 _ (ReflectliteValue.method (ReflectliteValue.valueError "reflectlite.Value.IsNil" 0) ReflectliteValue.isNil) Tryz.func157 (by kernel_rfl) (by kernel_rfl) (by kernel_rfl) (by kernel_rfl)
 have x3:=@run_callFunc_extern Tryz.prog 218 _ (ReflectliteType.abiMethod fun t=>do pure (.int .u8 (← Rtype.kind t))) Tryz.func218 (by kernel_rfl) (by kernel_rfl) (by kernel_rfl) (by kernel_rfl)
 have x4:=@run_callFunc_extern Tryz.prog 237 _ (ReflectliteType.method ReflectliteType.elem) Tryz.func237 (by kernel_rfl) (by kernel_rfl) (by kernel_rfl) (by kernel_rfl)
 have x5:=@run_callFunc_extern Tryz.prog 238 _ (ReflectliteType.relation "Implements" ReflectliteType.implements_) Tryz.func238 (by kernel_rfl) (by kernel_rfl) (by kernel_rfl) (by kernel_rfl)
 have x6:=@run_callFunc_extern Tryz.prog 187 _ ReflectliteType.typeOf Tryz.func187 (by kernel_rfl) (by kernel_rfl) (by kernel_rfl) (by kernel_rfl)
 have x7:=@run_callFunc_extern Tryz.prog 235 _ (ReflectliteType.relation "AssignableTo" ReflectliteType.assignableTo) Tryz.func235 (by kernel_rfl) (by kernel_rfl) (by kernel_rfl) (by kernel_rfl)
 have x8:=@run_callFunc_extern Tryz.prog 188 _ (ReflectliteValue.method (ReflectliteValue.valueError "reflectlite.Value.Elem" 0) ReflectliteValue.elem) Tryz.func188 (by kernel_rfl) (by kernel_rfl) (by kernel_rfl) (by kernel_rfl)
 have x9:=@run_callFunc_extern Tryz.prog 189 _ ReflectliteValue.set Tryz.func189 (by kernel_rfl) (by kernel_rfl) (by kernel_rfl) (by kernel_rfl)
 have tO:=Tryz.typeOfE
 have tA:=Tryz.typeOfAt
 have nA:=Tryz.assignableAt
 have noAs:=Tryz.noAs
 have hasU:=Tryz.hasUnwrap
 have mU:=Tryz.methodUnwrap
 have nU:=Tryz.nilUnwrap
 have mA:=Tryz.methodAssignableTo
 have aE:=Tryz.assignableE
 have vE:=Tryz.valueOfE
 have f6:=Tryz.valueOfP
 have f7:=Tryz.typeP
 have mK:=Tryz.methodKind
 have mE:=Tryz.methodElem
 have mI:=Tryz.methodImplements
 have kP:=Tryz.kindP
 have kE:=Tryz.kindE
 have eP:=Tryz.elemP
 have iE:=Tryz.implementsE
 have n8:=Tryz.isNilP ⟨w.heap.size,0,none⟩ t ((w.alloc (.cells #[.pointer (some t)] 186)).alloc (.cells #[.pointer (some ⟨7,186,none⟩),.pointer (some ⟨w.heap.size,0,none⟩),.int .u64 150] 221)) (by simp)
 have hlt:2<w.heap.size:=by
  rcases Nat.lt_or_ge 2 w.heap.size with h | h
  ·exact h
  ·simp [World.cell?,Array.getElem?_eq_none h] at hg
 have hg2:((w.alloc (.cells #[.pointer (some t)] 186)).alloc (.cells #[.pointer (some ⟨7,186,none⟩),.pointer (some ⟨w.heap.size,0,none⟩),.int .u64 150] 221)).cell? ⟨2,0,none⟩=some (.iface 259 (.agg #[.pointer (some ⟨7,38,none⟩)])):=by
  rw [World.cell?_alloc_lt _ _ ⟨2,0,none⟩ (by first | (simp;omega) | simp),World.cell?_alloc_lt _ _ ⟨2,0,none⟩ hlt];exact hg
 have hal:a.block<w.heap.size:=by
  rcases Nat.lt_or_ge a.block w.heap.size with h | h
  ·exact h
  ·simp [World.cell?,Array.getElem?_eq_none h] at hk
 have hk3:(((w.alloc (.cells #[.pointer (some t)] 186)).alloc (.cells #[.pointer (some ⟨7,186,none⟩),.pointer (some ⟨w.heap.size,0,none⟩),.int .u64 150] 221)).alloc (.cells #[.pointer (some ⟨7,186,none⟩),.pointer (some ⟨w.heap.size,0,none⟩),.int .u64 150] 221)).cell? a=some (.int .i64 k):=by
  rw [World.cell?_alloc_lt _ _ a (by simp;omega),World.cell?_alloc_lt _ _ a (by simp;omega),World.cell?_alloc_lt _ _ a hal];exact hk
 have htl:t.block<w.heap.size:=by
  rcases Nat.lt_or_ge t.block w.heap.size with h | h
  ·exact h
  ·simp [World.cell?,Array.getElem?_eq_none h] at ht0
 have el:=Tryz.elemVP ⟨w.heap.size,0,none⟩ t (((w.alloc (.cells #[.pointer (some t)] 186)).alloc (.cells #[.pointer (some ⟨7,186,none⟩),.pointer (some ⟨w.heap.size,0,none⟩),.int .u64 150] 221)).alloc (.cells #[.pointer (some ⟨7,186,none⟩),.pointer (some ⟨w.heap.size,0,none⟩),.int .u64 150] 221)) (by rw [World.cell?_alloc_lt _ _ ⟨w.heap.size,0,none⟩ (by simp;omega)];simp)
 have st:=Tryz.setE t ⟨w.heap.size+1+1+1,0,none⟩ k old ((((w.alloc (.cells #[.pointer (some t)] 186)).alloc (.cells #[.pointer (some ⟨7,186,none⟩),.pointer (some ⟨w.heap.size,0,none⟩),.int .u64 150] 221)).alloc (.cells #[.pointer (some ⟨7,186,none⟩),.pointer (some ⟨w.heap.size,0,none⟩),.int .u64 150] 221)).alloc (.cells #[.int .i64 k] 25))
  (by rw [World.cell?_alloc_at _ _ _ _ (by simp)];rfl)
  (by rw [World.cell?_alloc_lt _ _ t (by simp;omega),World.cell?_alloc_lt _ _ t (by simp;omega),World.cell?_alloc_lt _ _ t (by simp;omega),World.cell?_alloc_lt _ _ t htl];exact ht0)
  (by rw [World.frozen?_alloc_old _ _ t (by simp;omega),World.frozen?_alloc_old _ _ t (by simp;omega),World.frozen?_alloc_old _ _ t (by simp;omega),World.frozen?_alloc_old _ _ t (Nat.ne_of_lt htl)];exact hf0)
 go_enter Tryz.func116,Tryz.ntmps116
 go_wp2
 refine wp_loop_rounds 2 ?_
 rw [rounds_succ]
 go_wp2
 rw [rounds_succ]
 go_wp2
 go_ret
 exact ⟨rfl,rfl⟩
end
end Go.Proofs.YthccoinonjoleaaGreatDoor
