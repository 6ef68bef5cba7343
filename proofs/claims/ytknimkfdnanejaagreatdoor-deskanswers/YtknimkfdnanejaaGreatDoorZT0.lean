import Derived.Test.YtknimkfdnanejaaGreatDoorProg
import Derived.Test.YtknimkfdnanejaaGreatDoorZW2
import Derived.RowKitTokens
import Derived.Stop.Asserts
import Derived.WalkKit
namespace Go.Proofs.YtknimkfdnanejaaGreatDoor
open Go.RowKit Go.Proofs.Tryz
set_option maxRecDepth 100000
set_option maxHeartbeats 16000000
section
open Go.RowKit Go.Extern.Stop Go.Stop Go.Extern
theorem Tryz.aWf(t:Addr)(w:World):(ReflectliteValue.unpack (.iface 258 (.pointer (some t)))).run prog w
  =.ok (.agg #[.pointer (some (aA 10 258)),pP w.heap.size,.int .u64 150]) (w.alloc (.cells #[.pointer (some t)] 258)):=by kernel_rfl
theorem Tryz.bHx(a:Addr)(w:World):(ReflectliteValue.methodAny (ReflectliteValue.valueError "reflectlite.Value.Type" 0) (fun t _ _ _=>ReflectliteType.toType t) #[.agg #[.pointer (some (aA 10 258)),.pointer (some a),.int .u64 150]]).run prog w
  =.ok (.iface 326 (.agg #[.pointer (some (aA 10 258))])) w:=by kernel_rfl
theorem Tryz.aLb(h:Value)(w:World):(Go.method 478 326 (.agg #[h]) "Kind").run prog w=.ok (260,h) w:=by kernel_rfl
theorem Tryz.bG4(w:World):((ReflectliteType.abiMethod fun t=>(fun a:Nat=>Value.int IntKind.u8 (a:Int))<$>Rtype.kind t) #[.pointer (some (aA 10 258))]).run prog w=.ok (.int .u8 22) w:=by kernel_rfl
theorem Tryz.bG3(w:World):((ReflectliteType.abiMethod fun t=>(fun a:Nat=>Value.int IntKind.u8 (a:Int))<$>Rtype.kind t) #[.pointer (some (aA 10 25))]).run prog w=.ok (.int .u8 2) w:=by kernel_rfl
theorem aO0{P:Program}{W:World}{v:Value}{t:TypeId}{a:Addr}{fl:Nat}(z:Sem Value)(f:TypeId->Addr->Nat->Nat->Sem Value)(h:(ReflectliteValue.parts v).run P W=.ok (some (t,a,fl)) W):
  (ReflectliteValue.method z f #[v]).run P W=(f t a fl (fl%32)).run P W:=by have e:ReflectliteValue.method z f #[v]=Bind.bind (ReflectliteValue.parts v) _:=rfl;rw[e];simp only[Sem.run_bind,h,Result.andThen]
theorem bDw{P:Program}{W:World}{v x r:Value}{dst src:TypeId}{a b:Addr}{fl g:Nat}(h:(ReflectliteValue.parts v).run P W=.ok (some (dst,a,fl)) W)(k:(ReflectliteValue.parts x).run P W=.ok (some (src,b,g)) W)
  (hfl:fl/256%2=1)(hl:(loadVar src b).run P W=.ok r W)(hd:(Rtype.directlyAssignable dst src).run P W=.ok true W):
  (ReflectliteValue.set #[v,x]).run P W=(Bind.bind (storeVar dst a r) (fun _=>pure (tU #[]))).run P W:=by have e:ReflectliteValue.set #[v,x]=Bind.bind (ReflectliteValue.parts v) _:=rfl;have k2:Sem.run P (ReflectliteValue.parts (#[v,x].getLit (n:=2) 1 rfl oe)) W=.ok (some (src,b,g)) W:=k;rw[e];simp only[Sem.run_bind,h,k2,Result.andThen];simp[ReflectliteValue.flagAddr,hfl,hl,hd,Result.andThen]
theorem Tryz.aUe(a:Addr)(w:World):(ReflectliteValue.parts (.agg #[.pointer (some (aA 10 258)),.pointer (some a),.int .u64 150])).run prog w=.ok (some (258,a,150)) w:=by kernel_rfl
theorem Tryz.bC1(a p:Addr)(W:World)(ha:W.cell? a=some (.pointer (some p))):
  (ReflectliteValue.method (ReflectliteValue.valueError "reflectlite.Value.IsNil" 0) ReflectliteValue.isNil #[.agg #[.pointer (some (aA 10 258)),.pointer (some a),.int .u64 150]]).run prog W=.ok (.bool false) W:=by rw[aO0 _ _ (Tryz.aUe a W)];simp[ReflectliteValue.isNil,loadVar,isAgg,underlying,underlying258,ha,Result.andThen]
theorem Tryz.aLa(h:Value)(w:World):(Go.method 478 326 (.agg #[h]) "Elem").run prog w=.ok (280,.agg #[h]) w:=by kernel_rfl
theorem Tryz.N9(h:Value)(w:World):(Go.method 478 326 (.agg #[h]) "Implements").run prog w=.ok (281,.agg #[h]) w:=by kernel_rfl
theorem Tryz.F8(h:Value)(w:World):(Go.method 478 326 (.agg #[h]) "AssignableTo").run prog w=.ok (278,.agg #[h]) w:=by kernel_rfl
theorem Tryz.bEs(w:World):(ReflectliteType.method ReflectliteType.elem #[.agg #[.pointer (some (aA 10 258))]]).run prog w=.ok (.iface 326 (.agg #[.pointer (some (aA 10 25))])) w:=by kernel_rfl
theorem Tryz.aH8(w:World):(ReflectliteType.relation "Implements" ReflectliteType.implements_ #[.agg #[.pointer (some (aA 10 25))],.iface 326 (.agg #[.pointer (some (aA 10 38))])]).run prog w=.ok (.bool true) w:=by kernel_rfl
theorem Tryz.aZx(v:Value)(w:World):(ReflectliteType.typeOf #[.iface 25 v]).run prog w=.ok (.iface 326 (.agg #[.pointer (some (aA 10 25))])) w:=by kernel_rfl
theorem Tryz.aGb(w:World):(ReflectliteType.relation "AssignableTo" ReflectliteType.assignableTo #[.agg #[.pointer (some (aA 10 25))],.iface 326 (.agg #[.pointer (some (aA 10 25))])]).run prog w=.ok (.bool true) w:=by kernel_rfl
theorem Tryz.aWe(k:Int)(w:World):(ReflectliteValue.unpack (.iface 25 (iI k))).run prog w
  =.ok (.agg #[.pointer (some (aA 10 25)),pP w.heap.size,.int .u64 130]) (w.alloc (.cells #[iI k] 25)):=by kernel_rfl
theorem Tryz.aXh(w:World):(Rtype.elem? 258).run prog w=.ok (some 25) w:=by kernel_rfl
theorem Tryz.mkE(p:Addr)(w:World):(ReflectliteValue.mk 25 p ReflectliteValue.flagAddr).run prog w=.ok (.agg #[.pointer (some (aA 10 25)),.pointer (some p),.int .u64 386]) w:=by kernel_rfl
theorem Tryz.bB6(a p:Addr)(W:World)(ha:W.cell? a=some (.pointer (some p))):
  (ReflectliteValue.method (ReflectliteValue.valueError "reflectlite.Value.Elem" 0) ReflectliteValue.elem #[.agg #[.pointer (some (aA 10 258)),.pointer (some a),.int .u64 150]]).run prog W
   =.ok (.agg #[.pointer (some (aA 10 25)),.pointer (some p),.int .u64 386]) W:=by rw[aO0 _ _ (Tryz.aUe a W)];simp[ReflectliteValue.elem,loadVar,isAgg,underlying,underlying258,ha,Result.andThen,Tryz.aXh,Tryz.mkE]
theorem Tryz.aYv(a:Addr)(w:World):(ReflectliteValue.parts (.agg #[.pointer (some (aA 10 25)),.pointer (some a),.int .u64 386])).run prog w=.ok (some (25,a,386)) w:=by kernel_rfl
theorem Tryz.bD0(a:Addr)(w:World):(ReflectliteValue.parts (.agg #[.pointer (some (aA 10 25)),.pointer (some a),.int .u64 130])).run prog w=.ok (some (25,a,130)) w:=by kernel_rfl
theorem Tryz.aXg(w:World):(Rtype.directlyAssignable 25 25).run prog w=.ok true w:=by kernel_rfl
theorem Tryz.bMr(ta b:Addr)(k:Int)(old:Value)(W:World)(hb:W.cell? b=some (iI k))(ht:W.cell? ta=some old)(hf:W.frozen? ta=false):
  (ReflectliteValue.set #[.agg #[.pointer (some (aA 10 25)),.pointer (some ta),.int .u64 386],.agg #[.pointer (some (aA 10 25)),.pointer (some b),.int .u64 130]]).run prog W
   =.ok (tU #[]) (W.setCell ta (iI k)):=by rw[bDw (Tryz.aYv ta W) (Tryz.bD0 b W) oe (r:=iI k) (by simp[loadVar,isAgg,underlying,underlying25,hb,Result.andThen]) (Tryz.aXg W)];simp only[Sem.run_bind,storeVar,Value.cells,storeCells,Addr.add];simp[Result.andThen];rw[run_store prog W ta _ _ oq];simp[ht,hf]
theorem bAw(k:Int)(t:Addr)(old:Value)(w:World)(hg:w.cell? (aA 5 0)=some (.iface 326 (.agg #[.pointer (some (aA 10 38))])))(ht0:w.cell? t=some old)(hf0:w.frozen? t=false):
  Calls prog 165 #[.iface 25 (iI k),.iface 258 (.pointer (some t))] w fun ev w'=>ev=rT (.bool true)/\w'=((((w.alloc (.cells #[.pointer (some t)] 258)).alloc (.cells #[.pointer (some (aA 10 258)),pP w.heap.size,.int .u64 150] 289)).alloc (.cells #[.pointer (some (aA 10 258)),pP w.heap.size,.int .u64 150] 289)).alloc (.cells #[iI k] 25)).setCell t (iI k):=zIs
theorem Tryz.aWa(v:Value)(w:World):(ReflectliteType.typeOf #[.iface 299 v]).run prog w=.ok (.iface 326 (.agg #[.pointer (some (aA 10 299))])) w:=by kernel_rfl
theorem Tryz.aDm(w:World):(ReflectliteType.relation "AssignableTo" ReflectliteType.assignableTo #[.agg #[.pointer (some (aA 10 299))],.iface 326 (.agg #[.pointer (some (aA 10 25))])]).run prog w=.ok (.bool false) w:=by kernel_rfl
theorem Tryz.bHm(v:Value)(w:World):(Instr.typeAssert (.iface 299 v) 38 331 true).run prog w=.ok (tU #[.nilIface,.bool false]) w:=run_typeAssert_lacksB underlying331 og og v 38 w
theorem Tryz.aPb(v:Value)(w:World):(Instr.typeAssert (.iface 299 v) 38 334 true).run prog w=.ok (tU #[.iface 299 v,.bool true]) w:=run_typeAssert_hasB underlying334 og v 38 w
theorem Tryz.aEi(a:Addr)(w:World):(Go.method 478 299 (.pointer (some a)) "Unwrap").run prog w=.ok (275,.pointer (some a)) w:=by kernel_rfl
theorem Tryz.aQ4(a:Addr)(w:World):(nilAhead 478 299 (.pointer (some a)) "Unwrap").run prog w=.ok (some false) w:=by kernel_rfl
theorem bEl(k:Int)(a t:Addr)(old:Value)(w:World)(hk:w.cell? a=some (iI k))(hg:w.cell? (aA 5 0)=some (.iface 326 (.agg #[.pointer (some (aA 10 38))])))(ht0:w.cell? t=some old)(hf0:w.frozen? t=false):
  Calls prog 165 #[.iface 299 (.pointer (some a)),.iface 258 (.pointer (some t))] w fun ev w'=>ev=rT (.bool true)/\w'=((((w.alloc (.cells #[.pointer (some t)] 258)).alloc (.cells #[.pointer (some (aA 10 258)),pP w.heap.size,.int .u64 150] 289)).alloc (.cells #[.pointer (some (aA 10 258)),pP w.heap.size,.int .u64 150] 289)).alloc (.cells #[iI k] 25)).setCell t (iI k):=have m4:=0;zIs
end
def srt(l:List Int):List Int:=l.mergeSort fun x y=>decide (x<=y)
def nP(l:List Int)(k:Nat):Int:=(srt l).getD k 0
def yV(l:List Int)(f:Nat):Int:=(nP l f+nP l (l.length-1-f))/2
theorem getD_at{l:List Int}{i:Nat}(h:i<l.length):l.getD i 0=l[i]:=by simp[List.getD,h]
theorem K6(l:List Int):(srt l).Perm l:=List.mergeSort_perm _ _
theorem mL(l:List Int):(srt l).length=l.length:=(K6 l).length_eq
theorem aVv(l:List Int):List.Pairwise (fun a b=>a<=b) (srt l):=by have h:=List.pairwise_mergeSort (le:=fun x y:Int=>decide (x<=y)) (fun a b c h1 h2=>by simp at *;omega) (fun a b=>by simp;omega) l;exact h.imp (fun h=>by simpa using h)
theorem P2(l:List Int){i j:Nat}(hij:i<=j)(hj:j<l.length):nP l i<=nP l j:=by
 have hl:=mL l;have qC:i<(srt l).length:=od;have D8:j<(srt l).length:=od;unfold nP;rw[getD_at qC,getD_at D8];by_cases e:i=j
 ·subst e;exact Int.le_refl _
 ·exact List.pairwise_iff_getElem.1 (aVv l) i j qC D8 od
theorem aUm(l:List Int){i:Nat}(hi:i<l.length):nP l i∈l:=by
 have qC:i<(srt l).length:=by rw[mL];exact hi
 unfold nP;rw[getD_at qC];exact(K6 l).mem_iff.1 (List.getElem_mem qC)
theorem aCh(l:List Int)(f:Nat)(hf:f<l.length):l.length-f<=l.countP (fun x=>decide (nP l f<=x)):=by
 rw[<-(K6 l).countP_eq];have hsp:srt l=(srt l).take f++(srt l).drop f:=(List.take_append_drop f _).symm;rw[hsp,List.countP_append];have:((srt l).drop f).countP (fun x=>decide (nP l f<=x))=((srt l).drop f).length:=by rw[List.countP_eq_length];intro a ha;obtain⟨k,hk,rfl⟩:=List.getElem_of_mem ha;rw[List.length_drop,mL]at hk;have:=P2 l (i:=f) (j:=f+k) od od;rw[List.getElem_drop];rw[show nP l (f+k)=(srt l)[f+k]'(by rw[mL];omega)from getD_at _]at this;exact zHh
 rw[this,List.length_drop,mL];omega
theorem D7(l:List Int)(k:Nat)(hk:k<l.length):k+1<=l.countP (fun x=>decide (x<=nP l k)):=by
 rw[<-(K6 l).countP_eq];have hsp:srt l=(srt l).take (k+1)++(srt l).drop (k+1):=(List.take_append_drop (k+1) _).symm;rw[hsp,List.countP_append];have:((srt l).take (k+1)).countP (fun x=>decide (x<=nP l k))=((srt l).take (k+1)).length:=by rw[List.countP_eq_length];intro a ha;obtain⟨j,hj,rfl⟩:=List.getElem_of_mem ha;rw[List.length_take,mL]at hj;have:=P2 l (i:=j) (j:=k) od hk;rw[List.getElem_take];rw[show nP l j=(srt l)[j]'(by rw[mL];omega)from getD_at _]at this;exact zHh
 rw[this,List.length_take,mL];omega
theorem Y3(p q r:Nat->Bool):∀l:List Nat,2*l.length<l.countP p+l.countP q+l.countP r->∃x,x∈l/\p x=true/\q x=true/\r x=true
 |[],h=>by simp at h
 |x::l,h=>by
  by_cases hx:p x=true/\q x=true/\r x=true
  ·exact⟨x,kQ,hx⟩
  ·have:=Y3 p q r l (by
    simp only[List.countP_cons,List.length_cons]at h
    cases hp:p x<;>cases hq:q x<;>cases hr:r x<;>simp_all<;>omega)
   obtain⟨y,hy,h3⟩:=this;exact⟨y,kO _ hy,h3⟩
theorem Y2(p q:Nat->Bool)(l:List Nat)(h:l.length<l.countP p+l.countP q):∃x,x∈l/\p x=true/\q x=true:=by
 have:=Y3 p q (fun _=>true) l (by
  rw[show l.countP (fun _=>true)=l.length from List.countP_eq_length.2 (fun _ _=>rfl)];omega)
 obtain⟨x,hx,h1,h2,_⟩:=this;exact⟨x,hx,h1,h2⟩
def mW(n f:Nat)(now:Nat->Int)(row:Nat->Nat->Int)(i:Nat):Int:=now i+yV ((List.range n).map (row i)) f
section
variable{bU k n who:Nat}
def F4(n who:Nat)(m t:Nat->Bool):Bool:=m who&&decide (∀j,j<n->j≠who->m j=t j)
theorem qI{m t:Nat->Bool}:F4 n who m t=true↔m who=true/\∀j,j<n->j≠who->m j=t j:=by unfold F4;rw[Bool.and_eq_true,decide_eq_true_eq]
structure Al where
 M:Nat->Nat->Bool
 G:Nat->Int
 B:Nat->Int
 F:Nat->Bool
 fl:Nat->Bool
 ev:Nat->Bool
 wr:Bool
structure Al.aDa(s:Al)(n:Nat)(h:Nat->Bool):Prop where
 same:∀k,k<n->s.F k=false->s.fl k=false->∀j,j<n->s.M k j=h j
 own:∀k,k<n->s.F k=false->s.M k k=true
 out:∀k,k<n->s.F k=false->s.fl k=true->h k=false/\s.G k=1/\(s.B k=0->∀j,j<n->j≠k->s.M k j=h j)
 bHn:∀k,k<n->s.F k=false->s.fl k=true->s.ev k=true
 pos:∀k,k<n->s.F k=false->1<=s.G k/\0<=s.B k
 clean:∀k,k<n->s.F k=false->s.ev k=false->s.wr=false->s.B k=0
 froze:∀k,k<n->s.F k=true->s.ev k=true\/s.wr=true
end
