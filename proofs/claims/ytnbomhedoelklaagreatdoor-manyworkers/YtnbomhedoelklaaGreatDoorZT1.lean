import Derived.Test.YtnbomhedoelklaaGreatDoorProg
import Derived.Test.YtnbomhedoelklaaGreatDoorZT0
import Derived.Test.YtnbomhedoelklaaGreatDoorRows
import Derived.Test.YtnbomhedoelklaaGreatDoorZW5
import Derived.BigQuiet
import Derived.Conc.Events
import Derived.Deep.AppendLies
import Derived.Deep.RegionHeld3
import Derived.Lib.Bytealg
import Derived.WalkLawsBesides
import Derived.WalkSpells
namespace Go.Proofs.YtnbomhedoelklaaGreatDoor
open Go.RowKit Go.Proofs.Tryz
set_option maxRecDepth 99999
set_option maxHeartbeats 0
section
section
variable(ρ:WN)
def rA(a:WT):WT:={ a with block:=ρ a.block }
def rF:Fn->Fn
 |.yield l=>.yield (ρ l)
 |f=>f
def rV:WB->WB
 |.pointer a=>.pointer (a.map (rA ρ))
 |.slice a l c=>sV (a.map (rA ρ)) l c
 |.map r=>.map (r.map ρ)
 |.chan r=>.chan (r.map ρ)
 |.func fn first cap=>.func (rF ρ fn) (first.map rV) (cap.map rV)
 |.iface t v=>.iface t (rV v)
 |.agg cs=>.agg (cs.map rV)
 |.tuple vs=>.tuple (vs.map rV)
 |v=>v
def rTN:Target->Target
 |.fn f cap=>.fn (rF ρ f) (cap.map (rV ρ))
 |.collected r=>.collected (ρ r)
 |.coroexit c=>.coroexit (ρ c)
 |t=>t
def rD(d:Deferred):Deferred:={ target:=rTN ρ d.target,args:=d.args.map (rV ρ) }
def rE(e:MapEntry):MapEntry:={ e with key:=rV ρ e.key,val:=rV ρ e.val }
def rL(l:Loop):Loop:={ l with tmps:=l.tmps.map (rV ρ),defers:=ρ l.defers }
def rO:Obj->Obj
 |.cells c e f=>.cells (c.map (rV ρ)) e f
 |.pending c e=>.pending (c.map (rV ρ)) e
 |.view a t=>.view (rA ρ a) t
 |.number a b=>.number (rA ρ a) b
 |.map es c=>.map (es.map (rE ρ)) c
 |.chan cap buf cl s r t=>.chan cap (buf.map (rV ρ)) cl s r t
 |.stringIter s p=>.stringIter s p
 |.mapIter m s l t=>.mapIter (m.map ρ) s l t
 |.loop l=>.loop (rL ρ l)
 |.deferred cs=>.deferred (cs.map (·.map (rD ρ)))
 |.coro p=>.coro p
 |.finalizers fs r=>.finalizers fs r
end
structure Qs where
 f:Fn->Prop
 o:Nat->Prop
section
variable(S:Nat->Prop)(Q:Qs)
def Sc:WB->Prop
 |.pointer a=>∀x,a=some x->S x.block\/Q.o x.block
 |.slice a _ _=>∀x,a=some x->S x.block\/Q.o x.block
 |.map r=>∀x,r=some x->S x
 |.chan r=>∀x,r=some x->S x
 |.func fn first cap=>(Q.f fn/\∀l,fn=.yield l->S l)/\(∀v (_:v∈first),Sc v)/\(∀v (_:v∈cap),Sc v)
 |.iface _ v=>Sc v
 |.agg cs=>∀v (_:v∈cs),Sc v
 |.tuple vs=>∀v (_:v∈vs),Sc v
 |_=>True
def ScT:Target->Prop
 |.fn f cap=>(Q.f f/\∀l,f=.yield l->S l)/\∀v∈cap,Sc S Q v
 |.collected r=>S r
 |.nil=>True
 |_=>False
def ScD(d:Deferred):Prop:=ScT S Q d.target/\∀v∈d.args,Sc S Q v
def ScO(C:FuncId->Code->Code->Option Code->Prop):Obj->Prop
 |.cells c _ _=>∀v∈c,Sc S Q v
 |.view a _=>S a.block\/Q.o a.block
 |.number a _=>S a.block\/Q.o a.block
 |.map es _=>∀e∈es,Sc S Q e.key/\Sc S Q e.val
 |.stringIter _ _=>True
 |.loop l=>((∀v∈l.tmps,Sc S Q v)/\S l.defers)/\C l.fn l.assign l.body l.pending
 |.deferred cs=>∀l,cs=some l->∀d∈l,ScD S Q d
 |_=>False
end
theorem Sc.mono{S S':Nat->Prop}{Q:Qs}(h:∀b,S b->S' b):∀{v:WB},Sc S Q v->Sc S' Q v
 |.pointer a,hv=>by simp only[Sc]at *;exact λx hx=>(hv x hx).imp (h _) id
 |.slice a _ _,hv=>by simp only[Sc]at *;exact λx hx=>(hv x hx).imp (h _) id
 |.map r,hv=>by simp only[Sc]at *;exact λx hx=>h _ (hv x hx)
 |.chan r,hv=>by simp only[Sc]at *;exact λx hx=>h _ (hv x hx)
 |.func fn first cap,hv=>by
  simp only[Sc]at *
  exact⟨⟨hv.1.1,λl hl=>h _ (hv.1.2 l hl)⟩,λv hm=>Sc.mono h (hv.2.1 v hm),λv hm=>Sc.mono h (hv.2.2 v hm)⟩
 |.iface _ v,hv=>by simp only[Sc]at *;exact Sc.mono h hv
 |.agg cs,hv=>by simp only[Sc]at *;exact λv hm=>Sc.mono h (hv v hm)
 |.tuple cs,hv=>by simp only[Sc]at *;exact λv hm=>Sc.mono h (hv v hm)
 |.bool _,_|.int _ _,_|.float _ _,_|.complex _ _ _,_|.string _,_|.nilFunc,_|.nilIface,_=>by simp[Sc]
abbrev Z0:Nat->Prop:=λ_=>False
abbrev Q0:Qs:=⟨λ_=>False,λ_=>False⟩
theorem Sc.any{S:Nat->Prop}{Q:Qs}:∀{v:WB},Sc Z0 Q0 v->Sc S Q v
 |.pointer a,hv=>by simp only[Sc]at *;exact λx hx=>(hv x hx).elim False.elim False.elim
 |.slice a _ _,hv=>by simp only[Sc]at *;exact λx hx=>(hv x hx).elim False.elim False.elim
 |.map r,hv=>by simp only[Sc]at *;exact λx hx=>(hv x hx).elim
 |.chan r,hv=>by simp only[Sc]at *;exact λx hx=>(hv x hx).elim
 |.func fn first cap,hv=>by simp only[Sc]at *;exact hv.1.1.elim
 |.iface _ v,hv=>by simp only[Sc]at *;exact Sc.any hv
 |.agg cs,hv=>by simp only[Sc]at *;exact λv hm=>Sc.any (hv v hm)
 |.tuple cs,hv=>by simp only[Sc]at *;exact λv hm=>Sc.any (hv v hm)
 |.bool _,_|.int _ _,_|.float _ _,_|.complex _ _ _,_|.string _,_|.nilFunc,_|.nilIface,_=>by simp[Sc]
theorem ScT.mono{S S':Nat->Prop}{Q:Qs}(h:∀b,S b->S' b){t:Target}(ht:ScT S Q t):ScT S' Q t:=by
 cases t<;>simp only[ScT]at *
 .exact⟨⟨ht.1.1,λl hl=>h _ (ht.1.2 l hl)⟩,λv hv=>(ht.2 v hv).mono h⟩
 .exact h _ ht
theorem ScD.mono{S S':Nat->Prop}{Q:Qs}(h:∀b,S b->S' b){d:Deferred}(hd:ScD S Q d):ScD S' Q d:=⟨hd.1.mono h,λv hv=>(hd.2 v hv).mono h⟩
theorem ScO.mono{S S':Nat->Prop}{Q:Qs}{C:FuncId->Code->Code->Option Code->Prop}(h:∀b,S b->S' b){o:Obj}(ho:ScO S Q C o):ScO S' Q C o:=by
 cases o<;>simp only[ScO]at *
 .exact λv hv=>(ho v hv).mono h
 .exact ho.imp (h _) id
 .exact ho.imp (h _) id
 .exact λe he=>⟨(ho e he).1.mono h,(ho e he).2.mono h⟩
 .exact⟨⟨λv hv=>(ho.1.1 v hv).mono h,h _ ho.1.2⟩,ho.2⟩
 .exact λl hl d hd=>(ho l hl d hd).mono h
structure Sy where
 P:WJ
 G:Nat
 N:Nat
 ρ:WN
 K:Nat->Prop
 rs:WN
 Q:Qs
 C:FuncId->Code->Code->Option Code->Prop
def Sy.S(Y:Sy)(b:Nat):Prop:=b<Y.N/\(b<Y.G->Y.K b)
abbrev Sy.SO(Y:Sy)(b:Nat):Prop:=Y.S b\/Y.Q.o b
def Sy.C8(Y:Sy)(b:Nat):Prop:=∃c,Y.G<=c/\c<Y.N/\Y.ρ c=b
def Sy.Ok(Y:Sy)(e:Event):Prop:=
 match e.loc with
 |.cell a=>e.sync=false/\(Y.C8 a.block\/(a.block<Y.G/\Y.K a.block/\e.write=false))
 |.obj r=>e.sync=false/\Y.C8 r
 |.output=>True
 |.mark (.extern _)=>True
 |.mark .noRoom=>True
 |_=>False
def C9(v:WB):Prop:=∀n,v≠.int .u8 n
def RoK(Y:Sy)(b:Nat)(o o':Option Obj):Prop:=
 ∃c e hi,o'=some (.cells c e (0,hi))/\c.size<hi/\(Y.K b->c.size=Y.rs b/\(∀v∈c,rV Y.ρ v=v/\C9 v)/\∃f,o=some (.cells c e f)/\f.2<=hi)
def RoB(Y:Sy)(b:Nat)(o o':Option Obj):Prop:=
 ¬Y.K b/\∃c e c0 e0,o'=some (.pending c e)/\o=some (.cells c0 e0 (0,0))/\c.size=c0.size/\c0.size≠0
def RoN(Y:Sy)(b:Nat)(o o':Option Obj):Prop:=(¬Y.Q.o b/\RoK Y b o o')\/(Y.Q.o b/\RoB Y b o o')
structure WR(Y:Sy)(w w':WA):Prop where
 idG:∀b,b<Y.G->Y.ρ b=b
 inj:∀b c,Y.ρ b=Y.ρ c->b=c
 gn:Y.G<=w'.1.size
 nN:w'.1.size<=Y.N
 lt:∀b,b<w'.1.size->Y.ρ b<w.1.size
 up:∀i,Y.ρ (w'.1.size+i)=w.1.size+i
 ro:∀b,b<Y.G->RoN Y b w.1[b]? w'.1[b]?
 own:∀b,Y.G<=b->w.1[Y.ρ b]?=w'.1[b]?.map (rO Y.ρ)
 sc:∀(b:Nat)(o:Obj),w'.1[b]?=some o->Y.Q.o b\/ScO Y.S Y.Q Y.C o
 os:w.os=w'.os
 oG:∀b,Y.Q.o b->b<Y.G
structure fY(Y:Sy)(w w1:WA):Prop where
 size:w.1.size<=w1.1.size
 oth:∀b,Y.G<=b->b<w.1.size->¬Y.C8 b->w1.1[b]?=w.1[b]?
 ro:∀b,b<Y.G->w1.1[b]?=w.1[b]?
 tape:w1.tape=w.tape
 os:w1.os=w.os
 out:w1.output=w.output
end
section
variable{a k:WT}{w w1:WA}
theorem aB3{p:WJ}{u:WI}{v:WB}{b:Bool}{l:List WT}(h:w.viewStore p a u k v b=.ok (w1,l)):w1.1.size=w.1.size:=zIy
theorem Y1{α:Type}:∀(x:Ask α)(w:WA),(w.ask x).2.1=w.1
 |.done a,w=>rfl
 |.ask dR range k,w=>by
  simp only[World.ask];split
  .exact Y1 _ _
  .exact Y1 _ _
theorem aVp(c:Sys)(w:WA):(w.sys c).2.1=w.1:=by
 have:=Y1 (Kernel.perform c w.os) w;simp only[World.sys];split
 .rfl
 .rename_i he;rw[he]at this;exact this
def wOf{α:Type}:Result α->WA
 |.ok _ w=>w
 |.halt _ w=>w
theorem aBh{p:WJ}{v:WB}{b:Bool}{l:List WT}(h:w.farStore p a v b=.ok (w1,l)):w1.1.size=w.1.size:=by
 unfold World.farStore at h;split at h
 .split at h
  .rename_i h2;cases h;exact aB3 h2
  .cases h
 .cases h
theorem aId{α:Type}(P:WJ)(m:Sem α):∀(w:WA),w.1.size<=(wOf (m.run P w)).1.size:=by
 induction m with
 |pure a=>intro w;exact kG _
 |load m a k ih=>
  intro w;simp only[Sem.run];(repeat' split)<;>first|exact ih _ _|exact kG _
 |store m a v k ih=>
  intro w
  cases v<;>simp only[Sem.run]<;>(repeat' split)<;>first
   |exact kG _
   |exact kH (by simp[World.setCell]) (ih _)
   |(rename_i h;exact kH (Nat.le_of_eq (aBh h).symm) (ih _))
 |new o k ih=>intro w;simp only[Sem.run];exact kH oe (ih _ _)
 |shape r k ih=>intro w;simp only[Sem.run];exact ih _ _
 |freeze a n k ih=>intro w;simp only[Sem.run];exact kH (by unfold World.freeze;split<;>simp) (ih _)
 |frozen a k ih=>intro w;simp only[Sem.run];exact ih _ _
 |getObj r k ih=>intro w;simp only[Sem.run];(repeat' split)<;>first|exact ih _ _|exact kG _
 |setObj r o k ih=>intro w;simp only[Sem.run];(repeat' split)<;>first|exact kH oe (ih _)|exact kG _
 |choose q k ih=>intro w;simp only[Sem.run];split<;>first|exact ih _ _|exact kH oe (ih _ _)
 |sys c k ih=>intro w;simp only[Sem.run];exact kH (by rw[aVp];exact kG _) (ih _ _)
 |program k ih=>intro w;simp only[Sem.run];exact ih _ _
 |mark m k ih=>intro w;simp only[Sem.run];exact ih _
 |halt h=>intro w;exact kG _
def Bad:Halt->Prop
 |.stuck _=>True
 |.unsupported _=>True
 |_=>False
theorem aC2{u:Unsupported}:Bad (.unsupported u):=trivial
def Can{α:Type}(P:WJ):Sem α->WA->(Except WB α->WA->Prop)->Prop
 |.pure a,w,Q=>Q (.ok a) w
 |.load m a k,w,Q=>match w.cell? a with
  |some v=>Can P (k v) w Q
  |none=>match w.farLoad P a (m==.atomic)with
   |.ok (v,_)=>Can P (k v) w Q
   |.error x=>Bad x
 |.store m a v k,w,Q=>(∀c,v≠.agg c)->(∀c,v≠.tuple c)->match w.cell? a with
  |some _=>w.frozen? a=false->Can P k (w.setCell a v) Q
  |none=>match w.farStore P a v (m==.atomic)with
   |.ok (w,_)=>Can P k w Q
   |.error x=>Bad x
 |.new o k,w,Q=>Can P (k w.1.size) { w with heap:=w.1.push o } Q
 |.shape r k,w,Q=>Can P (k (w.shape? r)) w Q
 |.freeze a n k,w,Q=>Can P k (w.freeze a n) Q
 |.frozen a k,w,Q=>Can P (k (w.frozen? a)) w Q
 |.getObj r k,w,Q=>match w.1[r]? with
  |some (.cells ..)=>True
  |some o=>Can P (k o) w Q
  |none=>True
 |.setObj r o k,w,Q=>match w.1[r]? with
  |some (.cells ..)=>True
  |some _=>Can P k { w with heap:=w.1.setIfInBounds r o } Q
  |none=>True
 |.choose q k,w,Q=>if q.forced then Can P (k 0) w Q else ∃x,Can P (k (q.cut x)) { w with drawn:=w.drawn+1 } Q
 |.sys c k,w,Q=>(∀t,({ w with tape:=t }).sys c=((w.sys c).1,{ w with tape:=t }))/\Can P (k (w.sys c).1) w Q
 |.program k,w,Q=>Can P (k P) w Q
 |.mark _ k,w,Q=>Can P k w Q
 |.halt h,w,Q=>match h with
  |.panic v=>Q (.error v) w
  |h=>Bad h
def on(w:WA)(t:Nat->Question->Nat):WA:={ w with tape:=t }
def aJ2{α:Type}(Q:Except WB α->WA->Prop):Result α->Prop
 |.ok a w=>Q (.ok a) w
 |.halt (.panic v) w=>Q (.error v) w
 |.halt h _=>Bad h
theorem aOd{α:Type}{Q:Except WB α->WA->Prop}{h:Halt}(hb:Bad h):aJ2 Q (.halt h w):=by cases h<;>first|exact hb|exact hb.elim
theorem Z3(P:WJ)(w:WA)(t:Nat->Question->Nat)(a:WT)(b:Bool):(on w t).farLoad P a b=w.farLoad P a b:=rfl
theorem aFn(P:WJ)(w:WA)(t:Nat->Question->Nat)(a k:WT)(u:WI)(v:WB)(b:Bool):(on w t).viewStore P a u k v b=(w.viewStore P a u k v b).map λx=>(on x.1 t,x.2):=by
 unfold World.viewStore;have e:(on w t).seen P a u k b=w.seen P a u k b:=rfl;rw[e];simp only[bind,Except.bind,pure,Except.pure,throwThe,MonadExcept.throw,MonadExceptOf.throw];split
 .rfl
 .split
  .rfl
  .split
   .split
    .rfl
    .split
     .rfl
     .rfl
   .rfl
theorem L5(P:WJ)(w:WA)(t:Nat->Question->Nat)(a:WT)(v:WB)(b:Bool):(on w t).farStore P a v b=(w.farStore P a v b).map λx=>(on x.1 t,x.2):=by
 unfold World.farStore;have e:(on w t).1=w.1:=rfl;rw[e];split
 .rw[aFn];cases w.viewStore P _ _ a v b<;>rfl
 .rfl
theorem S9{p:WJ}{u:WI}{v:WB}{b:Bool}{l:List WT}(h:w.viewStore p a u k v b=.ok (w1,l)):w1.drawn=w.drawn:=have bK3:=0;zIy
theorem Z4{p:WJ}{v:WB}{b:Bool}{l:List WT}(h:w.farStore p a v b=.ok (w1,l)):w1.drawn=w.drawn:=by
 unfold World.farStore at h;split at h
 .split at h
  .rename_i h2;cases h;exact S9 h2
  .cases h
 .cases h
def reT{α:Type}(t:Nat->Question->Nat):Result α->Result α
 |.ok a w=>.ok a (on w t)
 |.halt h w=>.halt h (on w t)
theorem aWs{α:Type}(P:WJ)(Q:Except WB α->WA->Prop)(m:Sem α):
  ∀w,Can P m w Q->∃(t:Nat->Question->Nat)(D:Nat)(r:Result α),w.drawn<=D/\(wOf r).drawn=D/\aJ2 Q r/\∀t',(∀d,w.drawn<=d->d<D->t' d=t d)->m.run P (on w t')=reT t' r:=by
 have stop:∀{m:Sem α}{h:Halt}{w:WA},Bad h->(∀t',m.run P (on w t')=.halt h (on w t'))->∃(t:Nat->Question->Nat)(D:Nat)(r:Result α),w.drawn<=D/\(wOf r).drawn=D/\aJ2 Q r/\∀t',(∀d,w.drawn<=d->d<D->t' d=t d)->m.run P (on w t')=reT t' r:=λ {m h w} hb he=>⟨w.tape,w.drawn,.halt h w,kG _,rfl,aOd hb,λt' _=>he t'⟩
 induction m with
 |pure a=>intro w h;exact⟨w.tape,w.drawn,.ok a w,kG _,rfl,h,λt' _=>rfl⟩
 |load m a k ih=>
  intro w h
  simp only[Can]at h
  cases hc:w.cell? a with
  |some v=>
   rw[hc]at h
   obtain⟨t,D,r,h1,h2,h3,ht⟩:=ih v w h
   refine⟨t,D,r,h1,h2,h3,λt' h'=>?_⟩
   have hc':(on w t').cell? a=some v:=hc
   simp only[Sem.run,hc']
   exact ht t' h'
  |none=>
   rw[hc]at h
   have hc':∀t',(on w t').cell? a=none:=λ_=>hc
   cases hf:w.farLoad P a (m==.atomic)with
   |ok x=>
    rw[hf]at h
    obtain⟨t,D,r,h1,h2,h3,ht⟩:=ih x.1 w h
    refine⟨t,D,r,h1,h2,h3,λt' h'=>?_⟩
    simp only[Sem.run,hc',Z3,hf]
    exact ht t' h'
   |error x=>
    rw[hf]at h
    exact stop h λt'=>by simp only[Sem.run,hc',Z3,hf]
 |store m a v k ih=>
  intro w h
  simp only[Can]at h
  by_cases hv:(∀c,v≠.agg c)/\(∀c,v≠.tuple c)
  .replace h:=h hv.1 hv.2
   cases hc:w.cell? a with
   |some x=>
    rw[hc]at h
    by_cases hz:w.frozen? a=false
    .obtain⟨t,D,r,h1,h2,h3,ht⟩:=ih (w.setCell a v) (h hz)
     refine⟨t,D,r,h1,h2,h3,λt' h'=>?_⟩
     have hc':(on w t').cell? a=some x:=hc
     have hz':(on w t').frozen? a=false:=hz
     cases v<;>first
      |(exact absurd rfl (hv.1 _))
      |(exact absurd rfl (hv.2 _))
      |(simp only[Sem.run,hc',hz'];exact ht t' h')
    .have hc':∀t',(on w t').cell? a=some x:=λ_=>hc
     have hz':∀t',(on w t').frozen? a=true:=λ_=>(by simpa using hz:w.frozen? a=true)
     cases v<;>first
      |(exact absurd rfl (hv.1 _))
      |(exact absurd rfl (hv.2 _))
      |(exact stop (h:=.unsupported (.unsafePointer "a write to bytes that a string shares")) trivial λt'=>by simp only[Sem.run,hc',hz',if_true])
   |none=>
    rw[hc]at h
    have hc':∀t',(on w t').cell? a=none:=λ_=>hc
    cases hf:w.farStore P a v (m==.atomic)with
    |ok x=>
     rw[hf]at h
     obtain⟨t,D,r,h1,h2,h3,ht⟩:=ih x.1 h
     have hd:x.1.drawn=w.drawn:=Z4 (l:=x.2) hf
     rw[hd]at h1 ht
     refine⟨t,D,r,h1,h2,h3,λt' h'=>?_⟩
     have hf':(on w t').farStore P a v (m==.atomic)=.ok (on x.1 t',x.2):=by rw[L5,hf];rfl
     have:=ht t' h'
     cases v<;>first
      |(exact absurd rfl (hv.1 _))
      |(exact absurd rfl (hv.2 _))
      |(simp only[Sem.run,hc',hf'];exact this)
    |error x=>
     rw[hf]at h
     have hf':∀t',(on w t').farStore P a v (m==.atomic)=.error x:=λt'=>by rw[L5,hf];rfl
     cases v<;>first
      |(exact absurd rfl (hv.1 _))
      |(exact absurd rfl (hv.2 _))
      |(refine stop h λt'=>?_;simp only[Sem.run,hc',hf'];done)
  .cases v<;>first
    |exact absurd ⟨λ_=>Value.noConfusion,λ_=>Value.noConfusion⟩ hv
    |exact stop (h:=.stuck "store: not the value of one cell") trivial λt'=>by simp only[Sem.run]
 |new o k ih=>
  intro w h
  obtain⟨t,D,r,h1,h2,h3,ht⟩:=ih _ _ h
  exact⟨t,D,r,h1,h2,h3,λt' h'=>ht t' h'⟩
 |shape r k ih=>
  intro w h
  obtain⟨t,D,r,h1,h2,h3,ht⟩:=ih _ _ h
  exact⟨t,D,r,h1,h2,h3,λt' h'=>ht t' h'⟩
 |freeze a n k ih=>
  intro w h
  obtain⟨t,D,r,h1,h2,h3,ht⟩:=ih _ h
  have e0:(w.freeze a n).drawn=w.drawn:=by unfold World.freeze;split<;>rfl
  rw[e0]at h1 ht
  refine⟨t,D,r,h1,h2,h3,λt' h'=>?_⟩
  have e:(on w t').freeze a n=on (w.freeze a n) t':=by unfold World.freeze;split<;>rfl
  simp only[Sem.run,e]
  exact ht t' h'
 |frozen a k ih=>
  intro w h
  obtain⟨t,D,r,h1,h2,h3,ht⟩:=ih _ _ h
  exact⟨t,D,r,h1,h2,h3,λt' h'=>ht t' h'⟩
 |getObj r k ih=>
  intro w h
  simp only[Can]at h
  have e:∀t',(on w t').1=w.1:=λ_=>rfl
  split at h
  .rename_i h1
   exact stop (h:=.stuck "getObj: a row of cells") trivial λt'=>by simp only[Sem.run,e,h1]
  .rename_i o h1 h2
   obtain⟨t,D,r,q1,q2,q3,ht⟩:=ih _ _ h
   refine⟨t,D,r,q1,q2,q3,λt' h'=>?_⟩
   simp only[Sem.run,e]
   split
   .rename_i q;rw[h2]at q;cases q;exact absurd rfl (h1 _ _ _)
   .rename_i o2 _ ho2;rw[h2]at ho2;cases ho2;exact ht t' h'
   .rename_i q;rw[h2]at q;cases q
  .rename_i h1
   exact stop (h:=.stuck "getObj: no such block") trivial λt'=>by simp only[Sem.run,e,h1]
 |setObj r o k ih=>
  intro w h
  simp only[Can]at h
  have e:∀t',(on w t').1=w.1:=λ_=>rfl
  split at h
  .rename_i h1
   exact stop (h:=.stuck "setObj: a row of cells") trivial λt'=>by simp only[Sem.run,e,h1]
  .rename_i o h1 h2
   obtain⟨t,D,r,q1,q2,q3,ht⟩:=ih _ h
   refine⟨t,D,r,q1,q2,q3,λt' h'=>?_⟩
   simp only[Sem.run,e]
   split
   .rename_i q;rw[h2]at q;cases q;exact absurd rfl (h1 _ _ _)
   .exact ht t' h'
   .rename_i q;rw[h2]at q;cases q
  .rename_i h1
   exact stop (h:=.stuck "setObj: no such block") trivial λt'=>by simp only[Sem.run,e,h1]
 |choose q k ih=>
  intro w h
  simp only[Can]at h
  simp only[Sem.run]
  split at h
  .rename_i hf
   obtain⟨t,D,r,h1,h2,h3,ht⟩:=ih _ _ h
   refine⟨t,D,r,h1,h2,h3,λt' h'=>?_⟩
   rw[kK hf];exact ht t' h'
  .rename_i hf
   obtain⟨x,h⟩:=h
   obtain⟨t,D,r,h1,h2,h3,ht⟩:=ih _ _ h
   simp only at h1
   refine⟨λd q=>if d=w.drawn then x else t d q,D,r,od,h2,h3,λt' h'=>?_⟩
   rw[kJ hf]
   have e1:(on w t').tape (on w t').drawn q=x:=by
    show t' w.drawn q=x
    rw[h' _ (kG _) od];simp
   rw[e1]
   refine ht t' λd hd hD=>?_
   rw[h' d (by simp only at hd;omega) hD]
   funext q
   exact kJ (by simp only at hd;omega)
 |sys c k ih=>
  intro w h
  obtain⟨h1,h2⟩:=h
  obtain⟨t,D,r,q1,q2,q3,ht⟩:=ih _ _ h2
  refine⟨t,D,r,q1,q2,q3,λt' h'=>?_⟩
  have e:(on w t').sys c=((w.sys c).1,on w t'):=h1 t'
  simp only[Sem.run,e]
  exact ht t' h'
 |program k ih=>
  intro w h
  obtain⟨t,D,r,h1,h2,h3,ht⟩:=ih _ _ h
  exact⟨t,D,r,h1,h2,h3,λt' h'=>ht t' h'⟩
 |mark m k ih=>
  intro w h
  obtain⟨t,D,r,h1,h2,h3,ht⟩:=ih _ h
  exact⟨t,D,r,h1,h2,h3,λt' h'=>ht t' h'⟩
 |halt h0=>
  intro w h
  refine⟨w.tape,w.drawn,.halt h0 w,kG _,rfl,?_,λt' _=>rfl⟩
  cases h0<;>exact h
theorem Can.mono{α:Type}{P:WJ}{Q Q':Except WB α->WA->Prop}(h:∀r w,Q r w->Q' r w)(m:Sem α):∀{w},Can P m w Q->Can P m w Q':=by
 induction m with
 |pure a=>intro w;exact h _ _
 |load m a k ih=>
  intro w hc;simp only[Can]at hc⊢
  split at hc
  .exact ih _ hc
  .split at hc<;>first|exact ih _ hc|exact hc
 |store m a v k ih=>
  intro w hc;simp only[Can]at hc⊢
  intro h1 h2
  replace hc:=hc h1 h2
  split at hc
  .exact λhz=>ih (hc hz)
  .split at hc<;>first|exact ih hc|exact hc
 |new o k ih=>intro w hc;exact ih _ hc
 |shape r k ih=>intro w hc;exact ih _ hc
 |freeze a n k ih=>intro w hc;exact ih hc
 |frozen a k ih=>intro w hc;exact ih _ hc
 |getObj r k ih=>intro w hc;simp only[Can]at hc⊢;split at hc<;>first|trivial|exact ih _ hc
 |setObj r o k ih=>intro w hc;simp only[Can]at hc⊢;split at hc<;>first|trivial|exact ih hc
 |choose q k ih=>intro w hc;simp only[Can]at hc⊢;split at hc<;>rename_i hf<;>simp only[hf,if_true]<;>first|exact ih _ hc|exact hc.elim λx hx=>⟨x,ih _ hx⟩
 |sys c k ih=>intro w hc;exact⟨hc.1,ih _ hc.2⟩
 |program k ih=>intro w hc;exact ih _ hc
 |mark m k ih=>intro w hc;exact ih hc
 |halt h0=>intro w hc;cases h0<;>first|exact h _ _ hc|exact hc
theorem Can.bind{α β:Type}{P:WJ}{Q:Except WB β->WA->Prop}(m:Sem α)(f:α->Sem β):∀{w},Can P m w (λr w1=>match r with|.ok a=>Can P (f a) w1 Q|.error v=>Q (.error v) w1)->Can P (m.bind f) w Q:=by
 induction m with
 |pure a=>intro w h;exact h
 |load m a k ih=>
  intro w hc;simp only[Can,Sem.bind]at hc⊢
  split at hc
  .exact ih _ hc
  .split at hc<;>first|exact ih _ hc|exact hc
 |store m a v k ih=>
  intro w hc;simp only[Can,Sem.bind]at hc⊢
  intro h1 h2
  replace hc:=hc h1 h2
  split at hc
  .exact λhz=>ih (hc hz)
  .split at hc<;>first|exact ih hc|exact hc
 |new o k ih=>intro w hc;exact ih _ hc
 |shape r k ih=>intro w hc;exact ih _ hc
 |freeze a n k ih=>intro w hc;exact ih hc
 |frozen a k ih=>intro w hc;exact ih _ hc
 |getObj r k ih=>intro w hc;simp only[Can,Sem.bind]at hc⊢;split at hc<;>first|trivial|exact ih _ hc
 |setObj r o k ih=>intro w hc;simp only[Can,Sem.bind]at hc⊢;split at hc<;>first|trivial|exact ih hc
 |choose q k ih=>intro w hc;simp only[Can,Sem.bind]at hc⊢;split at hc<;>rename_i hf<;>simp only[hf,if_true]<;>first|exact ih _ hc|exact hc.elim λx hx=>⟨x,ih _ hx⟩
 |sys c k ih=>intro w hc;exact⟨hc.1,ih _ hc.2⟩
 |program k ih=>intro w hc;exact ih _ hc
 |mark m k ih=>intro w hc;exact ih hc
 |halt h0=>intro w hc;cases h0<;>exact hc
end
theorem lt_of_cell{w:WA}{a:WT}{v:WB}(h:w.cell? a=some v):a.block<w.1.size:=by
 rcases jB a.block w.1.size with g|g
 .exact g
 .simp[World.cell?,Array.getElem?_eq_none g]at h
theorem aS{w w':WA}{a:WT}{v:WB}(h:w.cell? a=some v)(hb:bW w w'):w'.cell? a=some v:=(hb.cell (lt_of_cell h)).trans h
def gX(w:WA)(E:WB)(e i:Int):Prop:=
 (E=.nilIface/\e=0/\i=-1)\/(E=.iface 30 (iI e)/\e≠0/\i=-1)\/(∃b,E=.iface 265 (pP b)/\e≠0/\w.cell? (aA b 0)=some (iI e)/\w.cell? (aA b 1)=some (iI i))
def dG(k:Int):WB:=if k=0 then .nilIface else .iface 30 (iI k)
theorem aE0:dG 0=.nilIface:=rfl
theorem aSm:dG 1=.iface 30 (iI 1):=rfl
theorem aSn:dG 2=.iface 30 (iI 2):=rfl
section
variable{a b:Act}
theorem zA{α:Type}(l:List α)(i:Nat)(a:α):l.toArray.setIfInBounds i a=(l.set i a).toArray:=by simp
theorem zB{α:Type}(x:α)(l:List α)(a:α):(x::l).set 0 a=a::l:=rfl
theorem zC{α:Type}(x:α)(l:List α)(n:Nat)(a:α):(x::l).set (n+1) a=x::l.set n a:=rfl
theorem opAt{cZ:Array WQ}{i:Nat}{o:WQ}{r:List WQ}(h:cZ.toList.drop i=o::r):cZ[i]?=some o:=by have:=jA (λl=>l[0]?) h;exact zCk
section
variable{P:WJ}{cZ:Array WQ}{Q:Exit->Act->WA->Prop}{md:Region.Mode}{S:WA->Prop}{fuel:Nat}{listed:Array Bool}
theorem tk(i:Nat){v:WB}{w:WA}{oi:WQ}{r:List WQ}(hS:S w)(h:wpAnyH P md cZ Q S fuel (listed.setIfInBounds i true) b w)(hi:cZ.toList.drop i=oi::r:=by exact rfl)(hs:Region.noSelect cZ=true:=by kernel_rfl)(hf:Region.free md cZ listed i=true:=by kernel_rfl)(hr:(Region.ready md cZ listed).contains i=true:=by kernel_rfl)(hQ:∀c a w,Q (.panic c) (a.put oi.dst v) w->Q (.panic c) a w:=by exact λ_ _ _ h=>h)(hy:YieldsIf P cZ S oi v a:=by exact Or.inl ⟨ou,by(intro w hSw;(try dsimp only at hSw);go_simp<;>with_reducible rfl)⟩)(hb:a.put oi.dst v=b:=by(simp only[Act.put,zA,zB,zC];exact rfl)):wpAnyH P md cZ Q S (fuel+1) listed a w:=wpAnyH_take (opAt hi) hs hf hr hQ hy hS (hb▸h)
theorem fJ(i:Nat){o:WQ}{r:List WQ}{w:WA}(h:∀K':Act->WA->Prop,Shut (∀a w,S w->(S w->wpAnyH P md cZ Q S fuel (listed.setIfInBounds i true) a w)->K' a w)->if Region.wanted o (yielded cZ a.tmps)=true then Oper.wp P o a w K' Q else K' (a.put o.dst undef) w)(ho:cZ.toList.drop i=o::r:=by exact rfl)(hr:Region.ready md cZ listed=[i]:=by kernel_rfl):wpAnyH P md cZ Q S (fuel+1) listed a w:=wpAnyH_ready hr oe (AllReadyH.cons (opAt ho) h AllReadyH.nil)
theorem rd2(i j:Nat){o p:WQ}{r s:List WQ}{w:WA}(h:∀K':Act->WA->Prop,Shut (∀a w,S w->(S w->wpAnyH P md cZ Q S fuel (listed.setIfInBounds i true) a w)->K' a w)->if Region.wanted o (yielded cZ a.tmps)=true then Oper.wp P o a w K' Q else K' (a.put o.dst undef) w)(k:∀K':Act->WA->Prop,Shut (∀a w,S w->(S w->wpAnyH P md cZ Q S fuel (listed.setIfInBounds j true) a w)->K' a w)->if Region.wanted p (yielded cZ a.tmps)=true then Oper.wp P p a w K' Q else K' (a.put p.dst undef) w)(ho:cZ.toList.drop i=o::r:=by exact rfl)(hp:cZ.toList.drop j=p::s:=by exact rfl)(hr:Region.ready md cZ listed=[i,j]:=by kernel_rfl):wpAnyH P md cZ Q S (fuel+1) listed a w:=wpAnyH_ready hr oe (AllReadyH.cons (opAt ho) h (AllReadyH.cons (opAt hp) k AllReadyH.nil))
theorem kp{K:Act->WA->Prop}{w:WA}(hK:Shut (∀a w,S w->(S w->wpAnyH P md cZ Q S fuel listed a w)->K a w))(h:S w->wpAnyH P md cZ Q S fuel listed b w)(hs:S w:=by((try dsimp only);go_keep))(hb:a=b:=by((try simp only[Act.put,zA,zB,zC]);exact rfl)):K a w:=hK.out _ _ hs (hb▸h)
theorem dn{w:WA}(h:Q .normal a w)(hr:Region.ready md cZ listed=[]:=by kernel_rfl):wpAnyH P md cZ Q S fuel listed a w:=wpAnyH_done hr h _
end
end
def fT:List (String×DataW Unit):=Rows.manyWorkersRow.laid
def oA:String:=(fT.getD 2 ("",.agg [])).1
def bI(w:WA)(a:Option WT)(l:List Int):Prop:=
 0<l.length->∃b off,a=some (aA b off)/\b<w.1.size/\∀j,j<l.length->w.cell? (aA b (off+j))=some (iI (l.getD j 0))
theorem bI.below{w w':WA}{a:Option WT}{l:List Int}(h:bI w a l)(hb:bW w w'):bI w' a l:=λh0=>by obtain⟨b,off,e,hl,hc⟩:=h h0;exact⟨b,off,e,kC hl hb.size,λj hj=>bc hb hl (hc j hj)⟩
section
variable{base n size:Nat}
theorem Tryz.aEh:(Tryz.prog.info? 3).map (λi=>(i.zero,i.size,i.bytes))=some (some (iI 0),1,8):=oh
theorem mJ(b off n:Nat):((aA b off):WT).add n=(aA b (off+n)):=by simp[Addr.add]
theorem gK{w w':WA}{e:WI}{v:WB}{xs:List WB}(h:w.ownsRow base e size v n xs)(hb:bW w w'):w'.ownsRow base e size v n xs:=zK8
theorem aQ6{w:WA}{aZd:Nat}{e:WI}{v:WB}{xs:List WB}(h:w.ownsRow base e size v n xs)(hb:aZd<=base):w.ownsRow aZd e size v n xs:=by
 obtain⟨h1,h2⟩:=h;refine⟨h1,?_⟩;rcases h2 with h2|⟨g,cap,cur,hv,hg,r⟩
 .exact .inl h2
 .exact .inr ⟨g,cap,cur,hv,kH hb hg,r⟩
theorem aCr{w:WA}{e:WI}{v:WB}{xs:List WB}(h:w.ownsRow base e 1 v n xs)(hn:1<=n):
  ∃g cap,v=sL g n cap/\base<=g/\∀j u,xs[j]?=some u->w.cell? (((aA g 0):WT).add j)=some u:=by
 rcases h.2 with⟨_,h0⟩|⟨g,cap,cur,hv,hg,r⟩
 .omega
 .exact⟨g,cap,hv,hg,λj u hj=>h.cells (g:=g) (by rw[hv];rfl) j u hj⟩
theorem mY(l:List Int):∀u∈l.map (Value.int .i64),u.oneCell'=true:=λu hu=>by simp at hu;obtain⟨a,_,rfl⟩:=hu;rfl
theorem aCx(w:WA)(cur:Array WB)(e:WI):∀j u,cur.toList[j]?=some u->(w.alloc (.cells cur e)).cell? (((aA w.1.size 0):WT).add j)=some u:=by intro j u hj;rw[mJ];simp at hj⊢;simpa using hj
end
section
variable{P Q:Nat}{a w w':WA}
structure aW(P Q:Nat)(w w':WA):Prop where
 os:w'.os=w.os
 tape:w'.tape=w.tape
 output:w'.output=w.output
 size:w.1.size<=w'.1.size
 block:∀c,c<w.1.size->c≠P->c≠Q->w'.1[c]?=w.1[c]?
theorem aW.refl(P Q:Nat)(w:WA):aW P Q w w:=⟨rfl,rfl,rfl,kG _,λ_ _ _ _=>rfl⟩
theorem aW.trans{b c:WA}(h:aW P Q a b)(k:aW P Q b c):aW P Q a c:=
 ⟨k.os.trans h.os,k.tape.trans h.tape,k.output.trans h.output,kH h.size k.size,λi hi h1 h2=>(k.block i (kC hi h.size) h1 h2).trans (h.block i hi h1 h2)⟩
theorem aW.of_below(h:bW w w'):aW P Q w w':=⟨h.os,h.tape,h.output,h.size,λc hc _ _=>h.block c hc⟩
theorem aW.set(h:aW P Q a w){p:WT}(hp:p.block=P\/p.block=Q)(u:WB):aW P Q a (w.setCell p u):=
 h.trans ⟨rfl,rfl,rfl,by simp[World.setCell],λc _ h1 h2=>Below.heap_setCell _ _ _ _ (by rcases hp with e|e<;>rw[e]<;>omega)⟩
theorem aW.below{B:Nat}(h:aW P Q w w')(hB:B<=w.1.size)(hP:B<=P)(hQ:B<=Q):Below B w w':=⟨h.os,h.tape,h.output,h.size,λc hc=>h.block c od od od⟩
theorem aW.cell(h:aW P Q w w'){p:WT}(hp:p.block<w.1.size)(h1:p.block≠P)(h2:p.block≠Q):w'.cell? p=w.cell? p:=jC (w:=w) (h.block p.block hp h1 h2)
theorem aW.frozen(h:aW P Q w w'){p:WT}(hp:p.block<w.1.size)(h1:p.block≠P)(h2:p.block≠Q):w'.frozen? p=w.frozen? p:=World.frozen?_of_block (w:=w) (h.block p.block hp h1 h2)
def bA(t:Nat->Bool):Nat->Int
 |0=>0
 |k+1=>bA t k+(if t k=true then 2^k else 0)
theorem pow_pos(k:Nat):(0:Int)<2^k:=Int.pow_pos og
theorem mV(t:Nat->Bool):∀k,0<=bA t k/\bA t k<2^k
 |0=>⟨Int.le_refl _,(by show(0:Int)<1;decide)⟩
 |k+1=>by have h:=mV t k;have p:=pow_pos k;have e:(2:Int)^(k+1)=2^k*2:=Int.pow_succ 2 k;simp only[bA];split<;>omega
theorem aL2{k n:Nat}(h:k<=n):(2:Int)^k<=2^n:=by
 induction n with
 |zero=>
      obtain rfl:k=0:=od
      exact Int.le_refl _
 |succ n ih=>
  rcases jB k (n+1)with q|q
  .have:=ih od
   have p:=pow_pos n
   have e:(2:Int)^(n+1)=2^n*2:=Int.pow_succ 2 n
   omega
  .obtain rfl:k=n+1:=by omega
   exact Int.le_refl _
end
def srt(l:List Int):List Int:=l.mergeSort λx y=>decide (x<=y)
def nK(l:List Int)(k:Nat):Int:=(srt l).getD k 0
def xU(l:List Int)(f:Nat):Int:=(nK l f+nK l (l.length-1-f))/2
theorem getD_at{l:List Int}{i:Nat}(h:i<l.length):l.getD i 0=l[i]:=by simp[List.getD,h]
theorem A7(l:List Int):(srt l).Perm l:=List.mergeSort_perm _ _
theorem iG(l:List Int):(srt l).length=l.length:=(A7 l).length_eq
theorem aVn(l:List Int):List.Pairwise (λa b=>a<=b) (srt l):=by have h:=List.pairwise_mergeSort (le:=λx y:Int=>decide (x<=y)) (λa b c h1 h2=>by simp at *;omega) (λa b=>by simp;omega) l;exact h.imp (λh=>by simpa using h)
theorem aCu(l:List Int){i j:Nat}(hij:i<=j)(hj:j<l.length):nK l i<=nK l j:=by
 have hl:=iG l;have dN:i<(srt l).length:=od;have hj':j<(srt l).length:=od;unfold nK;rw[getD_at dN,getD_at hj'];by_cases e:i=j
 .subst e;exact Int.le_refl _
 .exact List.pairwise_iff_getElem.1 (aVn l) i j dN hj' od
theorem aUz(l:List Int){i:Nat}(hi:i<l.length):nK l i∈l:=by
 have dN:i<(srt l).length:=by rw[iG];exact hi
 unfold nK;rw[getD_at dN];exact(A7 l).mem_iff.1 (List.getElem_mem dN)
theorem aC9(l:List Int)(f:Nat)(hf:f<l.length):l.length-f<=l.countP (λx=>decide (nK l f<=x)):=by
 rw[<-(A7 l).countP_eq];have hsp:srt l=(srt l).take f++(srt l).drop f:=(List.take_append_drop f _).symm;rw[hsp,List.countP_append];have:((srt l).drop f).countP (λx=>decide (nK l f<=x))=((srt l).drop f).length:=by rw[List.countP_eq_length];intro a ha;obtain⟨k,hk,rfl⟩:=List.getElem_of_mem ha;rw[List.length_drop,iG]at hk;have:=aCu l (i:=f) (j:=f+k) od od;rw[List.getElem_drop];rw[show nK l (f+k)=(srt l)[f+k]'(by rw[iG];omega)from getD_at _]at this;exact zCk
 rw[this,List.length_drop,iG];omega
theorem Y8(l:List Int)(k:Nat)(hk:k<l.length):k+1<=l.countP (λx=>decide (x<=nK l k)):=by
 rw[<-(A7 l).countP_eq];have hsp:srt l=(srt l).take (k+1)++(srt l).drop (k+1):=(List.take_append_drop (k+1) _).symm;rw[hsp,List.countP_append];have:((srt l).take (k+1)).countP (λx=>decide (x<=nK l k))=((srt l).take (k+1)).length:=by rw[List.countP_eq_length];intro a ha;obtain⟨j,hj,rfl⟩:=List.getElem_of_mem ha;rw[List.length_take,iG]at hj;have:=aCu l (i:=j) (j:=k) od hk;rw[List.getElem_take];rw[show nK l j=(srt l)[j]'(by rw[iG];omega)from getD_at _]at this;exact zCk
 rw[this,List.length_take,iG];omega
theorem U0(p q r:Nat->Bool):∀l:List Nat,2*l.length<l.countP p+l.countP q+l.countP r->∃x,x∈l/\p x=true/\q x=true/\r x=true
 |[],h=>by simp at h
 |x::l,h=>by
  by_cases hx:p x=true/\q x=true/\r x=true
  .exact⟨x,kT,hx⟩
  .have:=U0 p q r l (by
    simp only[List.countP_cons,List.length_cons]at h
    cases hp:p x<;>cases hq:q x<;>cases hr:r x<;>simp_all<;>omega)
   obtain⟨y,hy,h3⟩:=this;exact⟨y,kR _ hy,h3⟩
theorem aNc(p q:Nat->Bool)(l:List Nat)(h:l.length<l.countP p+l.countP q):∃x,x∈l/\p x=true/\q x=true:=by
 have:=U0 p q (λ_=>true) l (by
  rw[show l.countP (λ_=>true)=l.length from List.countP_eq_length.2 (λ_ _=>rfl)];omega)
 obtain⟨x,hx,h1,h2,_⟩:=this;exact⟨x,hx,h1,h2⟩
def uJ(n f:Nat)(now:Nat->Int)(row:Nat->Nat->Int)(i:Nat):Int:=now i+xU ((List.range n).map (row i)) f
def N9(a:Int):Int:=if a+1=256 then 1 else a+1
def sI(a:Int):Nat->Int
 |0=>a
 |k+1=>N9 (sI a k)
def aU3(a seq:Int):Nat->Bool
 |0=>false
 |k+1=>aU3 a seq k||decide (sI a (k+1)=seq)
def takeB(nw seq:Int):Bool:=decide (0<=seq/\seq<=255)&&(decide (nw<0)||aU3 nw seq 127)
theorem aR6{a:Int}(h0:0<=a)(h1:a<=255):∀k,0<=sI a k/\sI a k<=255
 |0=>⟨h0,h1⟩
 |k+1=>by have:=aR6 h0 h1 k;show 0<=N9 (sI a k)/\N9 (sI a k)<=255;unfold N9;split<;>omega
def mR(k:Nat):Int:=if k=0 then 0 else(((k-1)%255+1:Nat):Int)
theorem aN9(k:Nat):0<=mR k/\mR k<=255:=by unfold mR;split<;>omega
theorem aCp(k:Nat):N9 (mR k)=mR (k+1):=by
 rcases Nat.eq_zero_or_pos k with rfl|hk
 .decide
 .have e1:mR k=(((k-1)%255+1:Nat):Int):=kJ od;have e2:mR (k+1)=(((k+1-1)%255+1:Nat):Int):=kJ od;rw[e1,e2];unfold N9;split<;>omega
theorem aAf(k:Nat):∀d,sI (mR k) d=mR (k+d)
 |0=>rfl
 |d+1=>by show N9 (sI (mR k) d)=mR (k+(d+1));rw[aAf k d,aCp];rfl
theorem aHe{a seq:Int}:∀{n:Nat},aU3 a seq n=true↔∃d,1<=d/\d<=n/\sI a d=seq
 |0=>⟨λh=>Oa,λ⟨d,h1,h2,_⟩=>od⟩
 |n+1=>by
  show(aU3 a seq n||decide (sI a (n+1)=seq))=true↔_;rw[Bool.or_eq_true,decide_eq_true_eq,aHe];constructor
  .rintro(⟨d,h1,h2,h3⟩|h)
   .exact⟨d,h1,od,h3⟩
   .exact⟨n+1,od,kG _,h⟩
  .rintro⟨d,h1,h2,h3⟩;rcases jB d (n+1)with q|q
   .exact .inl ⟨d,h1,od,h3⟩
   .obtain rfl:d=n+1:=by omega
    exact .inr h3
def P4(t:Bool)(seq nw:Int):Int:=if t=true then seq else nw
def aVt(t:Bool)(a:Int):Int:=if t=true then a+1 else a
def bA9(t:Bool)(b:Int):Int:=if t=true then b else b+1
theorem aIn{nw seq:Int}(h:takeB nw seq=true):0<=seq/\seq<=255:=by unfold takeB at h;rw[AK,decide_eq_true_eq]at h;exact h.1
def aEi(n AE:Nat)(m t:Nat->Bool):Bool:=m AE&&decide (∀j,j<n->j≠AE->m j=t j)
theorem q7{n AE:Nat}{m t:Nat->Bool}:aEi n AE m t=true↔m AE=true/\∀j,j<n->j≠AE->m j=t j:=by unfold aEi;rw[AK,decide_eq_true_eq]
section
variable{e i:Int}{k n:Nat}
def bX(f:Nat->Int)(n:Nat)(e i:Int):Prop:=
 (∀j,j<n->f j=0)/\e=0/\i=0\/∃k:Nat,k<n/\(∀j,j<k->f j=0)/\f k=e/\e≠0/\i=k
theorem bX.aRs{f:Nat->Int}(h:bX f n e i)(hk:k<n)(h0:∀j,j<k->f j=0)(hf:f k≠0):e=f k/\i=k:=by
 rcases h with⟨ha,_,_⟩|⟨k',hk',h0',he,eH,hi⟩
 .exact absurd (ha k hk) hf
 .rcases Nat.lt_trichotomy k k' with g|g|g
  .exact absurd (h0' k g) hf
  .subst g;exact⟨he.symm,hi⟩
  .exact absurd ((h0 k' g).symm.trans he) (Ne.symm eH)
theorem bX.at_end{f:Nat->Int}(h:bX f n e i)(h0:∀j,j<n->f j=0):e=0/\i=0:=by
 rcases h with⟨_,he,hi⟩|⟨k',hk',_,he,eH,_⟩
 .exact⟨he,hi⟩
 .exact absurd ((h0 k' hk').symm.trans he) (Ne.symm eH)
theorem bX.is{f:Nat->Int}(h:bX f n e i)(hk:k<n)(h0:∀j,j<k->f j=0){c:Int}(hf:f k=c)(hc:c≠0):e=c/\i=k:=by have g:=h.aRs hk h0 (by rw[hf];exact hc);exact⟨g.1.trans hf,g.2⟩
theorem bX.any(f:Nat->Int):∀n:Nat,∃e i,bX f n e i:=by
 intro n
 induction n with
 |zero=>exact⟨0,0,.inl ⟨λj hj=>absurd hj (kV _),rfl,rfl⟩⟩
 |succ n ih=>
  obtain⟨e,i,h⟩:=ih
  rcases h with⟨ha,_,_⟩|⟨k,hk,h0,he,eH,hi⟩
  .by_cases hf:f n=0
   .refine⟨0,0,.inl ⟨λj hj=>?_,rfl,rfl⟩⟩
    rcases Nat.lt_succ_iff_lt_or_eq.1 hj with g|g
    .exact ha j g
    .rw[g];exact hf
   .exact⟨f n,n,.inr ⟨n,Nat.lt_succ_self _,ha,rfl,hf,rfl⟩⟩
  .exact⟨e,i,.inr ⟨k,Nat.lt_succ_of_lt hk,h0,he,eH,hi⟩⟩
theorem H4{f:Nat->Int}(h0:∀j,j<k->f j=0)(h:f k=0):∀j,j<k+1->f j=0:=by
 intro j hj;rcases Nat.lt_succ_iff_lt_or_eq.1 hj with g|g
 .exact h0 j g
 .rw[g];exact h
def lJ(pt fr tq:Nat->Int)(frame:Int)(j:Nat):Int:=
 if tq j<=fr j then 1 else if(j=0/\fr j<0)\/(0<j/\fr j<tq (j-1))then 10 else if frame<tq j then 2 else if pt j<0\/5<pt j then 7 else 0
end
def aVj(md:Region.Mode)(cZ:Array WQ):Array Bool->List (Nat×Tmp)->Array WB->Bool
 |_,[],_=>true
 |listed,(i,d)::r,t=>match cZ[i]? with
  |some o=>(o.dst==some d)&& !Region.wanted o (yielded cZ t)&&Region.free md cZ listed i&&(Region.ready md cZ listed).contains i&&aVj md cZ (listed.setIfInBounds i true) r (t.setIfInBounds d undef)
  |none=>false
def bIc(listed:Array Bool)(is:List (Nat×Tmp)):Array Bool:=is.foldl (λl p=>l.setIfInBounds p.1 true) listed
def aIk(a:Act)(is:List (Nat×Tmp)):Act:=is.foldl (λa p=>a.put (some p.2) undef) a
theorem jZ{P:WJ}{md:Region.Mode}{cZ:Array WQ}{Q:Exit->Act->WA->Prop}{S:WA->Prop}(hs:Region.noSelect cZ=true)(hQ:∀c a d w,Q (.panic c) (a.put (some d) undef) w->Q (.panic c) a w){w:WA}(hS:S w){fuel:Nat}:
  ∀(is:List (Nat×Tmp)){listed:Array Bool}{a:Act},aVj md cZ listed is a.tmps=true->wpAnyH P md cZ Q S fuel (bIc listed is) (aIk a is) w->wpAnyH P md cZ Q S (fuel+is.length) listed a w
 |[],_,_,_,h=>h
 |(i,d)::r,listed,a,hb,h=>by
  unfold aVj at hb;split at hb
  .rename_i o ho;simp only[AK,Bool.not_eq_true',beq_iff_eq]at hb;obtain⟨⟨⟨⟨h1,h2⟩,h3⟩,h4⟩,h5⟩:=hb;have ih:=jZ hs hQ hS r (listed:=listed.setIfInBounds i true) (a:=a.put (some d) undef) h5 h;refine wpAnyH_take (i:=i) (oi:=o) (v:=undef) ho hs h3 h4 (by rw[h1];exact λc a w=>hQ c a d w) (Or.inr ⟨h2,rfl⟩) hS ?_;rw[h1];exact ih
  .cases hb
section
variable{M d n x:Int}
def eA(f s n d:Int):Bool:=decide (0<=f/\f<=1099511627776/\-1099511627776<=s/\s<=1099511627776/\1<=n/\n<=1000000/\1<=d/\d<=1000000/\n<=2*d/\d<=2*n)
theorem oU{f s:Int}(h:eA f s n d=true):0<=f/\f<=1099511627776/\-1099511627776<=s/\s<=1099511627776/\1<=n/\n<=1000000/\1<=d/\d<=1000000/\n<=2*d/\d<=2*n:=of_decide_eq_true h
theorem M6{R:Int}(h0:0<=x)(h1:x<=M)(h2:1<=n)(h3:n<=R):0<=x*n/\x*n<=M*R:=
 ⟨Int.mul_nonneg h0 od,Int.mul_le_mul h1 h3 od od⟩
theorem aAi(h0:0<=x)(h1:x<=M)(h2:1<=n)(h4:1<=d)(h5:n<=2*d):0<=x*n/d/\x*n/d<=2*M:=by
 have hx:0<=x*n:=Int.mul_nonneg h0 od;refine⟨Int.ediv_nonneg hx od,?_⟩;have h6:x*n<=(2*M)*d:=by
  have a1:x*n<=x*(2*d):=Int.mul_le_mul_of_nonneg_left h5 h0;have a2:x*(2*d)<=M*(2*d):=Int.mul_le_mul_of_nonneg_right h1 od;have a3:M*(2*d)=(2*M)*d:=by rw[<-Int.mul_assoc,Int.mul_comm M 2]
  omega
 exact Int.ediv_le_of_le_mul od h6
theorem aD2(h0:0<=x)(h1:x<=M)(h2:1<=n)(h4:1<=d)(h5:d<=2*n):0<=(x*d+n-1)/n/\(x*d+n-1)/n<=2*M+1:=by
 have hx:0<=x*d:=Int.mul_nonneg h0 od;refine⟨Int.ediv_nonneg od od,?_⟩;have h6:x*d+n-1<=(2*M+1)*n:=by
  have a1:x*d<=x*(2*n):=Int.mul_le_mul_of_nonneg_left h5 h0;have a2:x*(2*n)<=M*(2*n):=Int.mul_le_mul_of_nonneg_right h1 od;have a3:M*(2*n)=(2*M)*n:=by rw[<-Int.mul_assoc,Int.mul_comm M 2]
  have a4:(2*M+1)*n=(2*M)*n+n:=by rw[Int.add_mul,Int.one_mul]
  omega
 exact Int.ediv_le_of_le_mul od h6
end
theorem wL(n:Nat)(h:n<9223372036854775808):IntKind.i64.wrap (n:Int)=(n:Int):=zB5
theorem aA8(a b:Nat)(ha:a<9223372036854775808)(hb:b<9223372036854775808):bits .or .i64 (a:Int) (b:Int)=((a|||b:Nat):Int):=by show IntKind.i64.wrap ((BitVec.ofInt 64 (a:Int)|||BitVec.ofInt 64 (b:Int)).toNat:Int)=_;rw[BitVec.toNat_or,ofInt_u64 a od,ofInt_u64 b od];exact wL _ (Nat.or_lt_two_pow (n:=63) ha hb)
theorem aGu(a b:Nat)(ha:a<9223372036854775808)(hb:b<9223372036854775808):bits .and .i64 (a:Int) (b:Int)=((a&&&b:Nat):Int):=by show IntKind.i64.wrap ((BitVec.ofInt 64 (a:Int)&&&BitVec.ofInt 64 (b:Int)).toNat:Int)=_;rw[BitVec.toNat_and,ofInt_u64 a od,ofInt_u64 b od];exact wL _ (Nat.and_lt_two_pow (n:=63) a hb)
theorem aGv(a b:Nat)(ha:a<9223372036854775808)(hb:b<9223372036854775808):bits .xor .i64 (a:Int) (b:Int)=((a^^^b:Nat):Int):=by show IntKind.i64.wrap ((BitVec.ofInt 64 (a:Int)^^^BitVec.ofInt 64 (b:Int)).toNat:Int)=_;rw[BitVec.toNat_xor,ofInt_u64 a od,ofInt_u64 b od];exact wL _ (Nat.xor_lt_two_pow (n:=63) ha hb)

def Q8(w:WA)(E:WB)(e i:Int):Prop:=
 (E=.nilIface/\e=0)\/(∃b,E=.iface 265 (pP b)/\e≠0/\w.cell? (aA b 0)=some (iI e)/\w.cell? (aA b 1)=some (iI i))
theorem D9{P:WJ}(w:WA)(base:Nat)(t u ty e:WI)(i:TypeInfo)(ht:P.underlying t=some (.slice e))(hu:P.underlying u=some .string)(hi:P.info? e=some i)(hz:i.zero=some (.int .u8 0))
  (aCg:i.size=1)(hby:i.bytes=1)(v:WB)(n:Nat)(xs:List WB)(cP:w.ownsRow base e 1 v n xs)(s:WG)
  (h63:n+s.size<=maxLen)(aE9:n+s.size<=140737488355328)(d8:base<=w.1.size):
  ∃v' w',(Builtin.append_ #[t,u] ty #[v,sT s]).run P w=.ok v' w'/\w'.ownsRow base e 1 v' (n+s.size) (xs++Lib.strCells s)/\w.grownBy w' v.ownBlock/\
   (∃ao cap,v'=sV ao (n+s.size) cap)/\∀g,v'.ownBlock=some g->v.ownBlock=some g\/w.1.size<=g:=by
 have bJv:n+s.size<=9223372036854775807:=by simp only[maxLen]at h63;omega
 have hxl:xs.length=n:=by simpa using cP.1
 obtain⟨v',w',hr,h1,h2,_⟩:=Lib.run_append_own_string (P:=P) w base t u ty e i ht hu hi hz aCg hby v n xs cP s h63 aE9 d8;refine⟨v',w',hr,h1,h2,?_,?_⟩
 .rcases h1.2 with⟨q,q2⟩|⟨g,cap,cur,q,_⟩
  .exact⟨none,0,by rw[q,q2]⟩
  .exact⟨_,cap,q⟩
 .intro g hg;rcases cP.2 with⟨rfl,rfl⟩|⟨g0,cap,cur,rfl,hbg,hg0,hnc,uP,fO,bMh⟩
  .have hx:xs=[]:=List.eq_nil_of_length_eq_zero hxl;subst hx;obtain⟨v2,w2,pF,k1,_,_⟩:=Lib.run_append_own_string (P:=P) w w.1.size t u ty e i ht hu hi hz aCg hby (sV none 0 0) 0 [] (World.ownsRow_nil w _ e 1) s h63 aE9 (kG _);rw[hr]at pF;injection pF with q1 q2;subst q1 q2;exact .inr (k1.lt g hg).1
  .by_cases bFk:n+s.size<=cap
   .have xE:cur.size=cap:=by simpa using fO
    have pF:=Lib.run_append_room_string (P:=P) w t u ty e i ht hu hi aCg g0 n cap cur hg0 s bFk od;rw[hr]at pF;injection pF with q1 q2;rw[q1]at hg;exact .inl hg
   .have holds:∀j u,xs[j]?=some u->w.cell? (((aA g0 0):WT).add j)=some u:=cP.cells (g:=g0) rfl;have pF:=Lib.run_append_grow_string (P:=P) w t u ty e i (.int .u8 0) ht hu hi hz (aA g0 0) n cap xs (by rw[aCg];simpa using hxl) holds s od od (by rw[hby];exact growslice_fits od od);rw[hr]at pF;injection pF with q1 q2;rw[q1]at hg;cases hg;exact .inr (kG _)
theorem tG{P:WJ}{w:WA}{cZ:Array WQ}{rest:List WQ}{o:WQ}{a:Act}{Q:Exit->Act->WA->Prop}(hgd:o.guard=none)(sl x:Operand)(t u:WI)
  (ho:o.op=.call { callee:=.builtin .append,args:=#[sl,x],argTypes:=#[t,u] })
  (base:Nat)(e:WI)(i:TypeInfo)(ht:P.underlying t=some (.slice e))(hu:P.underlying u=some .string)(hi:P.info? e=some i)(hz:i.zero=some (.int .u8 0))
  (aCg:i.size=1)(hby:i.bytes=1)
  (v:WB)(n:Nat)(xs:List WB)(hs:a.eval sl=v)(cP:w.ownsRow base e 1 v n xs)(s:WG)(hx:a.eval x=sT s)
  (h63:n+s.size<=maxLen)(aE9:n+s.size<=140737488355328)(d8:base<=w.1.size)
  (h:∀ao cap w',w'.ownsRow base e 1 (sV ao (n+s.size) cap) (n+s.size) (xs++Lib.strCells s)->w.grownBy w' v.ownBlock->(∀g,(Value.slice ao (n+s.size) cap).ownBlock=some g->v.ownBlock=some g\/w.1.size<=g)->wpList P cZ Q rest (a.put o.dst (sV ao (n+s.size) cap)) w'):wpList P cZ Q (o::rest) a w:=by refine wpList_plain hgd λK hK=>?_;obtain⟨v',w',hr,h2,h3,⟨ao,cap,rfl⟩,h4⟩:=D9 (P:=P) w base t u o.type e i ht hu hi hz aCg hby v n xs cP s h63 aE9 d8;unfold Oper.wp execOp;simp only[ho,resolve,invoke,builtin,Sem.run_bind,Sem.run_pure,Result.andThen_ok,List.map_toArray,List.map_cons,List.map_nil,hs,hx,hr];exact hK _ _ (h ao cap w' h2 h3 h4)
def cA:List UInt8->List (List UInt8)
 |[]=>[[]]
 |c::r=>if c=10 then[]::cA r else(c::(cA r).headD [])::(cA r).tail
theorem A6(c:UInt8)(r:List UInt8):cA (c::r)=if c=10 then[]::cA r else(c::(cA r).headD [])::(cA r).tail:=rfl
theorem aAx:∀l,cA l≠[]
 |[]=>by simp[cA]
 |c::r=>by unfold cA;split<;>simp
theorem rH:∀{l:List UInt8},(∀c∈l,c≠10)->cA l=[l]
 |[],_=>rfl
 |c::r,h=>by unfold cA;rw[kJ (h c kT),rH λx hx=>h x (kR _ hx)];rfl
theorem wD:∀(a b:List UInt8),cA (a++10::b)=cA a++cA b
 |[],b=>by simp[cA]
 |c::r,b=>by
  rw[List.cons_append,A6,A6,wD r b];by_cases h:c=10
  .rw[kK h,kK h];rfl
  .rw[kJ h,kJ h]
   cases q:cA r with
   |nil=>exact absurd q (aAx r)
   |cons x xs=>rfl
theorem N5{a:List UInt8}(h:∀c∈a,c≠10)(b:List UInt8):cA (a++10::b)=a::cA b:=by rw[wD,rH h];rfl
def sJ(l:List UInt8):List UInt8:=if l.getLast?=some 10 then l.dropLast else l
def nE(t:WG):List WG:=(cA (sJ t.data.toList)).map λl=>⟨l.toArray⟩
theorem N6:∀l,(cA l).length<=l.length+1
 |[]=>by simp[cA]
 |c::r=>by
  have:=N6 r;unfold cA;split
  .simp;omega
  .simp;omega
theorem N7:∀(l:List UInt8),∀x∈cA l,x.length<=l.length
 |[],x,h=>by simp[cA]at h;simp[h]
 |c::r,x,h=>by
  have ih:=N7 r;unfold cA at h;split at h
  .rcases kQ h with q|q
   .simp[q]
   .have:=ih x q;simp;omega
  .cases q:cA r with
   |nil=>exact absurd q (aAx r)
   |cons y ys=>
    rw[q]at h ih
    rcases kQ h with e|e
    .have:=ih y kT
     rw[e]
     simp at this⊢
     omega
    .have:=ih x (kR _ e)
     simp;omega
theorem zI(l:List UInt8):(sJ l).length<=l.length:=by
 unfold sJ;split
 .simp
 .exact kG _
theorem aH3{t x:WG}(h:x∈nE t):x.size<=t.size:=by obtain⟨l,hl,rfl⟩:=List.mem_map.1 h;have h1:=N7 _ l hl;have h2:=zI t.data.toList;have h3:t.data.toList.length=t.data.size:=Array.length_toList;show l.toArray.size<=t.data.size;rw[List.size_toArray];omega
theorem aH2(t:WG):(nE t).length<=t.size+1:=by unfold nE;rw[List.length_map];have h1:=N6 (sJ t.data.toList);have h2:=zI t.data.toList;have h3:t.data.toList.length=t.data.size:=Array.length_toList;show _<=t.data.size+1;omega
theorem uF(c:UInt8):∀(l:List UInt8),(Lib.indexByte l c=-1/\∀x∈l,x≠c)\/∃(k:Nat),Lib.indexByte l c=k/\k<l.length/\l=l.take k++c::l.drop (k+1)/\∀x∈l.take k,x≠c
 |[]=>.inl ⟨rfl,λ_ h=>Oa⟩
 |b::l=>by
  by_cases h:b=c
  .subst h;exact .inr ⟨0,by simp[Lib.indexByte],oe,oe,oe⟩
  .rcases uF c l with⟨h1,h2⟩|⟨k,h1,h2,h3,h4⟩
   .refine .inl ⟨by simp[Lib.indexByte,h,h1],?_⟩;intro x hx;rcases kQ hx with q|q
    .rw[q];exact h
    .exact h2 x q
   .refine .inr ⟨k+1,?_,ol,?_,?_⟩
    .have hk:¬((k:Int)=-1):=by omega
     simp[Lib.indexByte,h,h1,hk]
    .rw[List.take_succ_cons,List.drop_succ_cons,List.cons_append,<-h3]
    .intro x hx;rw[List.take_succ_cons]at hx;rcases kQ hx with q|q
     .rw[q];exact h
     .exact h4 x q
section
variable{base n:Nat}
theorem nZ{w:WA}{e:WI}{v:WB}{xs:List WB}(h:w.ownsRow base e 1 v n xs):∃a cap,v=sV a n cap:=zDq
theorem fL{w:WA}{e:WI}{size:Nat}{v:WB}{xs:List WB}{b i:Nat}{x:WB}(h:w.ownsRow base e size v n xs)(hb:b<base):(w.setCell (aA b i) x).ownsRow base e size v n xs:=have m99:=0;zK8
end
section
variable{P Q i:Nat}
theorem aZ{w:WA}{v u:WB}(h:w.cell? (aA P i)=some u):(w.setCell (aA P i) v).cell? (aA P i)=some v:=World.cell?_setCell_same _ _ _ h
theorem aB{w:WA}{j:Nat}{v:WB}(h:Q≠P\/j≠i):(w.setCell (aA P i) v).cell? (aA Q j)=w.cell? (aA Q j):=World.cell?_setCell_other _ _ _ _ (λe=>by
 rcases h with q|q
 .exact q (jA Addr.block e).symm
 .exact q (jA Addr.off e).symm)
theorem bJ{w:WA}{p q:WT}{v:WB}: (w.setCell p v).frozen? q=w.frozen? q:=by simp
theorem aW.drawn{w:WA}(q:Nat):aW P Q w (w.drewN q):=⟨rfl,rfl,rfl,kG _,λ_ _ _ _=>rfl⟩
end
section
variable{high low:Int}
section
variable{n f:Nat}{ok:Nat->Bool}{u:Int}{now:Nat->Int}{row:Nat->Nat->Int}
theorem aXy(hc:n-f<=(List.range n).countP ok)(h3:3*f+1<=n)
  (hr:∀i k,i<n->ok i=true->k<n->ok k=true->now k-now i-u<=row i k/\row i k<=now k-now i+u)(i j:Nat)(dN:i<n)(hi:ok i=true)(hj':j<n)(hj:ok j=true):
  now i+nK ((List.range n).map (row i)) f<=now j+nK ((List.range n).map (row j)) (n-1-f)+2*u:=have m72:=0;zH3
theorem bBz(hc:n-f<=(List.range n).countP ok)(hf:f<n)
  (hr:∀i k,i<n->ok i=true->k<n->ok k=true->now k-now i-u<=row i k/\row i k<=now k-now i+u)
  (hl:∀k,k<n->ok k=true->low<=now k)(i:Nat)(dN:i<n)(hi:ok i=true):
  low-u<=now i+nK ((List.range n).map (row i)) f:=by have c2:=Y8 ((List.range n).map (row i)) f ol;rw[List.countP_map]at c2;obtain⟨k,hk,b,c⟩:=aNc _ _ (List.range n) (show(List.range n).length<_ by rw[List.length_range];exact kC (by omega:n<(f+1)+(n-f)) (Nat.add_le_add c2 hc));have hk:=List.mem_range.1 hk;simp at b;have h1:=hr i k dN hi hk c;have h2:=hl k hk c;omega
theorem aXe(hc:n-f<=(List.range n).countP ok)(hf:f<n)
  (hr:∀i k,i<n->ok i=true->k<n->ok k=true->now k-now i-u<=row i k/\row i k<=now k-now i+u)
  (hh:∀k,k<n->ok k=true->now k<=high)(i:Nat)(dN:i<n)(hi:ok i=true):
  now i+nK ((List.range n).map (row i)) (n-1-f)<=high+u:=by have c1:=aC9 ((List.range n).map (row i)) (n-1-f) ol;rw[List.countP_map]at c1;simp only[List.length_map,List.length_range]at c1;obtain⟨k,hk,b,c⟩:=aNc _ _ (List.range n) (show(List.range n).length<_ by rw[List.length_range];exact kC (by omega:n<(n-(n-1-f))+(n-f)) (Nat.add_le_add c1 hc));have hk:=List.mem_range.1 hk;simp at b;have h1:=hr i k dN hi hk c;have h2:=hh k hk c;omega
theorem aOs(hc:n-f<=(List.range n).countP ok)(h3:3*f+1<=n)
  (hr:∀i k,i<n->ok i=true->k<n->ok k=true->now k-now i-u<=row i k/\row i k<=now k-now i+u)
  (hl:∀k,k<n->ok k=true->low<=now k)(hh:∀k,k<n->ok k=true->now k<=high)(i j:Nat)(dN:i<n)(hi:ok i=true)(hj':j<n)(hj:ok j=true):
  uJ n f now row i-uJ n f now row j<=(high-low)/2+2*u+1:=by have a1:=aXy hc h3 hr i j dN hi hj' hj;have a2:=bBz hc od hr hl j hj' hj;have a3:=aXe hc od hr hh i dN hi;unfold uJ xU;simp only[List.length_map,List.length_range];omega
theorem aX1(now:Nat->Int)(ok:Nat->Bool):∀n:Nat,(∃k,k<n/\ok k=true)->∃a b,(a<n/\ok a=true)/\(b<n/\ok b=true)/\∀k,k<n->ok k=true->now a<=now k/\now k<=now b:=by
 intro n
 induction n with
 |zero=>rintro⟨k,hk,_⟩;omega
 |succ n ih=>
  rintro⟨k,hk,jM⟩
  by_cases he:∃k,k<n/\ok k=true
  .obtain⟨a,b,⟨ha,oa⟩,⟨hb,ob⟩,hab⟩:=ih he
   by_cases on:ok n=true
   .refine⟨if now n<now a then n else a,if now b<now n then n else b,?_,?_,λk hk ok=>?_⟩
    .split
     .exact⟨od,on⟩
     .exact⟨od,oa⟩
    .split
     .exact⟨od,on⟩
     .exact⟨od,ob⟩
    .have h1:=hab a ha oa
     have h2:=hab b hb ob
     rcases jB k n with q|q
     .have:=hab k q ok
      constructor
      .split<;>omega
      .split<;>omega
     .obtain rfl:k=n:=by omega
      constructor
      .split<;>omega
      .split<;>omega
   .refine⟨a,b,⟨od,oa⟩,⟨od,ob⟩,λk hk ok=>?_⟩
    rcases jB k n with q|q
    .exact hab k q ok
    .obtain rfl:k=n:=by omega
     exact absurd ok on
  .have hkn:k=n:=by
    rcases jB k n with q|q
    .exact absurd ⟨k,q,jM⟩ he
    .omega
   subst hkn
   refine⟨k,k,⟨od,jM⟩,⟨od,jM⟩,λj hj oj=>?_⟩
   rcases jB j k with q|q
   .exact absurd ⟨j,q,oj⟩ he
   .obtain rfl:j=k:=by omega
    exact⟨Int.le_refl _,Int.le_refl _⟩
theorem aLo{aM D:Int}{dr:Nat->Int}(hc:n-f<=(List.range n).countP ok)(h3:3*f+1<=n)(hS:aM/2+2*u+1+2*D<=aM)
  (hr:∀i k,i<n->ok i=true->k<n->ok k=true->now k-now i-u<=row i k/\row i k<=now k-now i+u)
  (hs:∀i j,i<n->ok i=true->j<n->ok j=true->now i-now j<=aM)(hd:∀i,i<n->-D<=dr i/\dr i<=D)(i j:Nat)(dN:i<n)(hi:ok i=true)(hj':j<n)(hj:ok j=true):
  (uJ n f now row i+dr i)-(uJ n f now row j+dr j)<=aM:=by obtain⟨a,b,⟨ha,oa⟩,⟨hb,ob⟩,hab⟩:=aX1 now ok n ⟨i,dN,hi⟩;have h1:=aOs hc h3 hr (λk hk o=>(hab k hk o).1) (λk hk o=>(hab k hk o).2) i j dN hi hj' hj;have h2:=hs b a hb ob ha oa;have h3:=hd i dN;have h4:=hd j hj';omega
theorem aS9(lies:Nat->Bool)(n f:Nat)(h:(List.range n).countP lies<=f):n-f<=(List.range n).countP (λk=>!lies k):=by
 have e:=List.length_eq_countP_add_countP lies (l:=List.range n);rw[List.length_range]at e;have e2:(List.range n).countP (λk=>!lies k)=(List.range n).countP (λa=>decide ¬lies a=true):=by congr 1;funext k;cases lies k<;>rfl
 omega
end
end
def aJr:WB:=sT AU
def aAc(n aQ:Nat)(t last bag:Int):Bool:=decide (aQ=n)||(decide (0<aQ)&&decide (t<last+bag))
def putK(many:Nat)(queue:Int)(d:WG):Int:=if 40<d.size then 4 else if queue<=(many:Int)then 12 else 0
def gV(many aQ:Nat)(t now last bag:Int):Int:=if ¬(0<=t/\t<=1099511627776)then 2 else if t<now then 10 else if aAc many aQ t last bag=true then 8 else 0
def mN(K:Int)(all:List WG)(d:WG):List WG:=if K=0 then all++[d]else all
def jY(K:Int)(aQ:Nat):Int:=if K=0 then mR aQ else 0
def jX(K:Int)(all:List WG)(aQ:Nat):WG:=if K=0 then all.getD aQ AU else AU
def aAt(K:Int)(aQ:Nat):Nat:=if K=0 then aQ+1 else aQ
def tE(K t last:Int):Int:=if K=0 then t else last
def aFa(K t now:Int):Int:=if K=0\/K=8 then t else now
section
variable{E I aM e1 e2 e3 i1 i2 i3 AA pw round:Int}{fr lb lf lq lt nd tq:Nat->Int}{j:Nat}
def fW(nd fr tq:Nat->Int)(AA aM round:Int)(j:Nat):Int:=
 if tq j<=fr j then 1 else if(j=0/\fr j<0)\/(0<j/\fr j<=tq (j-1)+aM)then 10 else if round-aM-1<tq j then 2 else if nd j<0\/AA-1<nd j then 7 else 0
theorem uD(h:fW nd fr tq AA aM round j=0):fr j<tq j/\tq j<=round-aM-1/\(j=0->0<=fr j)/\(0<j->tq (j-1)+aM<fr j)/\0<=nd j/\nd j<=AA-1:=by
 unfold fW at h;by_cases h1:tq j<=fr j
 .simp[h1]at h
 .rw[kJ h1]at h;by_cases h2:(j=0/\fr j<0)\/(0<j/\fr j<=tq (j-1)+aM)
  .simp[h2]at h
  .rw[kJ h2]at h;by_cases h3:round-aM-1<tq j
   .simp[h3]at h
   .rw[kJ h3]at h;by_cases h4:nd j<0\/AA-1<nd j
    .simp[h4]at h
    .omega
theorem aAw(hsk:0<=aM){k:Nat}(h:∀j,j<k->fW nd fr tq AA aM round j=0):∀j,j<k->0<=fr j/\fr j<tq j/\tq j<=round-aM-1:=by
 intro j
 induction j with
 |zero=>
  intro hj
  have g:=uD (h 0 hj)
  exact⟨g.2.2.1 rfl,g.1,g.2.1⟩
 |succ j ih=>
  intro hj
  have g:=uD (h (j+1) hj)
  have g2:=ih od
  have g3:=g.2.2.2.1 od
  simp at g3
  exact⟨od,g.1,g.2.1⟩
def cN(lf lt lb lq:Nat->Int)(hit:Nat->Bool)(AA pw:Int)(j:Nat):Int:=
 if lf j<0\/AA-1<lf j then 7 else if lt j<1\/pw-1<lt j\/hit j=true then 1 else if(lb j<1\/137438953472<lb j)\/lq j<1\/16<lq j then 2 else 0
theorem aPi{hit:Nat->Bool}(h:lf j<0\/AA-1<lf j):cN lf lt lb lq hit AA pw j=7:=by unfold cN;rw[kK h]
theorem aCk{hit:Nat->Bool}(h:0<=lf j)(h':lf j<=AA-1)(h2:lt j<1\/pw-1<lt j\/hit j=true):cN lf lt lb lq hit AA pw j=1:=by unfold cN;rw[kJ od,kK h2]
theorem aPh{hit:Nat->Bool}(h:0<=lf j)(h':lf j<=AA-1)(h2:¬(lt j<1\/pw-1<lt j\/hit j=true))(h3:(lb j<1\/137438953472<lb j)\/lq j<1\/16<lq j):cN lf lt lb lq hit AA pw j=2:=by unfold cN;rw[kJ od,kJ h2,kK h3]
theorem aPg{hit:Nat->Bool}(h:0<=lf j)(h':lf j<=AA-1)(h2:¬(lt j<1\/pw-1<lt j\/hit j=true))(h3:1<=lb j/\lb j<=137438953472)(h4:1<=lq j/\lq j<=16):cN lf lt lb lq hit AA pw j=0:=by unfold cN;rw[kJ od,kJ h2,kJ od]
def tK(e1 i1 e2 i2 e3 i3 E I:Int):Prop:=
 (e1≠0->E=e1/\I=i1)/\(e1=0->e2≠0->E=e2/\I=1000+i2)/\(e1=0->e2=0->e3≠0->E=e3/\I=2000+i3)/\(e1=0->e2=0->e3=0->E=0/\I=-1)
theorem tK.win(h:tK e1 i1 e2 i2 e3 i3 E I)(h1:e1=0)(h2:e2=0)(h3:e3≠0):E=e3/\I=2000+i3:=h.2.2.1 h1 h2 h3
theorem tK.bJ4(h:tK e1 i1 e2 i2 e3 i3 E I)(h1:e1=0)(h2:e2=0)(h3:e3=0):E=0/\I=-1:=h.2.2.2 h1 h2 h3
end
section
variable{O O' X:List Nat}{w w':WA}
structure aR(O O':List Nat)(w w':WA):Prop where
 os:w'.os=w.os
 tape:w'.tape=w.tape
 output:w'.output=w.output
 size:w.1.size<=w'.1.size
 block:∀c,c<w.1.size->c∉O->w'.1[c]?=w.1[c]?
 fresh:∀c,c∈O'->c∈O\/w.1.size<=c
theorem aR.refl(O:List Nat)(w:WA):aR O O w w:=⟨rfl,rfl,rfl,kG _,λ_ _ _=>rfl,λ_ h=>.inl h⟩
theorem aR.trans{O'':List Nat}{a b c:WA}(h:aR O O' a b)(k:aR O' O'' b c):aR O O'' a c:=
 ⟨k.os.trans h.os,k.tape.trans h.tape,k.output.trans h.output,kH h.size k.size,λi hi hn=>(k.block i (kC hi h.size) (λy=>(h.fresh i y).elim hn (λz=>absurd hi od))).trans (h.block i hi hn),λi hi=>by
  rcases k.fresh i hi with z|z
  .exact h.fresh i z
  .exact .inr (kH h.size z)⟩
theorem aR.of_below(h:bW w w'):aR O O w w':=⟨h.os,h.tape,h.output,h.size,λc hc _=>h.block c hc,λ_ h=>.inl h⟩
theorem aR.qF{P Q:Nat}(h:aW P Q w w')(hp:P∈O)(hq:Q∈O):aR O O w w':=
 ⟨h.os,h.tape,h.output,h.size,λc hc hn=>h.block c hc (λe=>hn (e▸hp)) (λe=>hn (e▸hq)),λ_ h=>.inl h⟩
theorem aR.drawn(O:List Nat)(w:WA)(q:Nat):aR O O w (w.drewN q):=⟨rfl,rfl,rfl,kG _,λ_ _ _=>rfl,λ_ h=>.inl h⟩
theorem aR.under(h:aR O O' w w')(P:Nat):aR (P::O) (P::O') w w':=
 ⟨h.os,h.tape,h.output,h.size,λc hc hn=>h.block c hc (λy=>hn (kO (.inr y))),λc hc=>by
  rcases kQ hc with z|z
  .exact .inl (kO (.inl z))
  .rcases h.fresh c z with y|y
   .exact .inl (kO (.inr y))
   .exact .inr y⟩
theorem aR.below{B:Nat}(h:aR O O' w w')(hO:∀c,c∈O->B<=c)(hB:B<=w.1.size):Below B w w':=⟨h.os,h.tape,h.output,h.size,λc hc=>h.block c od (λy=>by have:=hO c y;omega)⟩
theorem aR.above{B:Nat}(h:aR O O' w w')(hO:∀c,c∈O->B<=c)(hB:B<=w.1.size):∀c,c∈O'->B<=c:=λc hc=>by
 rcases h.fresh c hc with y|y
 .exact hO c y
 .omega
theorem aR.cell(h:aR O O' w w'){p:WT}(hp:p.block<w.1.size)(hn:p.block∉O):w'.cell? p=w.cell? p:=jC (w:=w) (h.block p.block hp hn)
theorem aR.frozen(h:aR O O' w w'){p:WT}(hp:p.block<w.1.size)(hn:p.block∉O):w'.frozen? p=w.frozen? p:=World.frozen?_of_block (w:=w) (h.block p.block hp hn)
def Apart(O X:List Nat):Prop:=∀c,c∈O->c∉X
theorem Apart.symm(h:Apart O X):Apart X O:=λc hc hn=>h c hn hc
theorem aR.apart(h:aR O O' w w')(ha:Apart O X)(hX:∀c,c∈X->c<w.1.size):Apart O' X:=λc hc hx=>by
 rcases h.fresh c hc with y|y
 .exact ha c y hx
 .have:=hX c hx;omega
def Same(X:List Nat)(w w':WA):Prop:=w.1.size<=w'.1.size/\∀c,c∈X->w'.1[c]?=w.1[c]?
theorem aR.same(h:aR O O' w w')(ha:Apart O X)(hX:∀c,c∈X->c<w.1.size):Same X w w':=⟨h.size,λc hc=>h.block c (hX c hc) (λy=>ha c y hc)⟩
theorem Same.of_below(h:bW w w')(hX:∀c,c∈X->c<w.1.size):Same X w w':=⟨h.size,λc hc=>h.block c (hX c hc)⟩
theorem Same.cell(h:Same X w w'){p:WT}(hp:p.block∈X):w'.cell? p=w.cell? p:=jC (w:=w) (h.2 p.block hp)
theorem Same.frozen(h:Same X w w'){p:WT}(hp:p.block∈X):w'.frozen? p=w.frozen? p:=World.frozen?_of_block (w:=w) (h.2 p.block hp)
theorem Same.part{Y:List Nat}(h:Same X w w')(hs:∀c,c∈Y->c∈X):Same Y w w':=⟨h.1,λc hc=>h.2 c (hs c hc)⟩
theorem sX{base:Nat}{e:WI}{size:Nat}{v:WB}{n:Nat}{xs:List WB}(h:w.ownsRow base e size v n xs)(hs:Same X w w')(hv:∀g,v.ownBlock=some g->g∈X):w'.ownsRow base e size v n xs:=have bK7:=0;zJb
end
theorem Tryz.mfp(fn:Fn)(first cap:Array WB)(w:WA):(Instr.makeFunc fn first cap).run prog w=.ok (.func fn first cap) w:=rfl
def btw(b c:Nat):WB:=.func (.func 215) #[] #[pP b,pP c]
def Btw(w:WA)(fv:WB)(lo hi:Int):Prop:=
 ∃b c:Nat,fv=btw b c/\w.cell? (aA b 0)=some (iI lo)/\w.cell? (aA c 0)=some (iI hi)
theorem Btw.below{w w':WA}{fv:WB}{lo hi:Int}(h:Btw w fv lo hi)(hb:bW w w'):Btw w' fv lo hi:=by obtain⟨b,c,e,h1,h2⟩:=h;exact⟨b,c,e,aS h1 hb,aS h2 hb⟩
theorem cL(lo hi:Int)(w:WA):Calls prog 173 #[iI lo,iI hi] w λe w'=>∃fv,e=rT fv/\Btw w' fv lo hi/\bW w w':=by have L8:=Tryz.mfp;go_enter func173,ntmps173;go_wp2;go_ret;refine⟨_,rfl,⟨w.1.size,w.1.size+1,rfl,oe,oe⟩,?_⟩;exact zFl
theorem aDi(fv:WB)(lo hi:Int)(b n cap:Nat)(f:Nat->Int)(R:Bool)(w:WA)(hn:n<=1000)(hB:Btw w fv lo hi)(hc:∀j,j<n->w.cell? (aA b j)=some (iI (f j)))(hb:b<w.1.size)
  (hR:R=true↔∀j,j<n->lo<=f j/\f j<=hi):
  Calls prog 172 #[fv,sL b n cap] w λe w'=>e=rT (.bool R)/\bW w w':=by
 obtain⟨c1,c2,rfl,h1,h2⟩:=hB;unfold btw;have l1:c1<w.1.size:=lt_of_cell h1;have l2:c2<w.1.size:=lt_of_cell h2;have HC:Hid (∀j,j<n->w.cell? (aA b j)=some (iI (f j))):=hc;have HR:Hid (R=true↔∀j,j<n->lo<=f j/\f j<=hi):=hR;clear hc hR;go_enter func172,ntmps172;go_wp2;go_loopw[9] (λt wr=>∃k:Nat,k<=n/\t=iI k/\Hid (∀j,j<k->lo<=f j/\f j<=hi)/\bW w wr) (λt _=>n-(intOf t).toNat);case atStart=>exact⟨0,kI _,rfl,λj hj=>absurd hj (kV _),jD _ _⟩
 case round=>
  obtain⟨k,hk,rfl,h0,eG⟩:=hrel;by_cases hlt:k<n
  .have y0:=bc eG hb (HC.out k hlt);have y1:=bc eG l1 h1;have y2:=bc eG l2 h2;have hz:b<wr.1.size:=kC hb eG.size;by_cases g1:lo<=f k
   .by_cases g2:f k<=hi
    .go_wp2;refine⟨⟨k+1,od,Od,λj hj=>?_,eG⟩,?_⟩
     .rcases Nat.lt_succ_iff_lt_or_eq.1 hj with q|q
      .exact h0.out j q
      .subst q;exact⟨g1,g2⟩
     .simp[intOf];omega
    .have g2':decide (f k<=hi)=false:=kD g2;have hRf:R=false:=by
      cases R with
      |false=>rfl
      |true=>exact absurd ((HR.out.1 rfl) k hlt).2 g2
     go_wp2;go_ret;exact⟨rfl,eG⟩
   .have g1':decide (lo<=f k)=false:=kD g1;have hRf:R=false:=by
     cases R with
     |false=>rfl
     |true=>exact absurd ((HR.out.1 rfl) k hlt).1 g1
    go_wp2;go_ret;exact⟨rfl,eG⟩
  .have hRt:R=true:=HR.out.2 (λj hj=>h0.out j od);go_wp2;go_ret;exact⟨by rw[hRt];rfl,eG⟩
theorem bDu(fv:WB)(lo hi x:Int)(b cap:Nat)(w:WA)(hB:Btw w fv lo hi)(h0:w.cell? (aA b 0)=some (iI x)):
  Calls prog 172 #[fv,sL b 1 cap] w λe w'=>e=rT (.bool (decide (lo<=x/\x<=hi)))/\bW w w':=
 aDi fv lo hi b 1 cap (λ_=>x) _ w od hB (λj hj=>by
  have:j=0:=od
  rw[this];exact h0) (lt_of_cell h0) (by
  rw[decide_eq_true_iff]
  exact⟨λh _ _=>h,λh=>h 0 od⟩)
theorem bDv(fv:WB)(lo hi x y:Int)(b cap:Nat)(w:WA)(hB:Btw w fv lo hi)(h0:w.cell? (aA b 0)=some (iI x))(h1:w.cell? (aA b 1)=some (iI y)):
  Calls prog 172 #[fv,sL b 2 cap] w λe w'=>e=rT (.bool (decide ((lo<=x/\x<=hi)/\lo<=y/\y<=hi)))/\bW w w':=
 aDi fv lo hi b 2 cap (λj=>if j=0 then x else y) _ w od hB (λj hj=>by
  have:j=0\/j=1:=od
  rcases this with rfl|rfl
  .exact h0
  .exact h1) (lt_of_cell h0) (by
  rw[decide_eq_true_iff]
  constructor
  .intro h j hj
   have:j=0\/j=1:=od
   rcases this with rfl|rfl
   .exact h.1
   .exact h.2
  .intro h
   exact⟨h 0 od,h 1 od⟩)
theorem bDw(fv:WB)(lo hi x y z:Int)(b cap:Nat)(w:WA)(hB:Btw w fv lo hi)(h0:w.cell? (aA b 0)=some (iI x))(h1:w.cell? (aA b 1)=some (iI y))(h2:w.cell? (aA b 2)=some (iI z)):
  Calls prog 172 #[fv,sL b 3 cap] w λe w'=>e=rT (.bool (decide ((lo<=x/\x<=hi)/\(lo<=y/\y<=hi)/\lo<=z/\z<=hi)))/\bW w w':=
 aDi fv lo hi b 3 cap (λj=>if j=0 then x else if j=1 then y else z) _ w od hB (λj hj=>by
  have:j=0\/j=1\/j=2:=od
  rcases this with rfl|rfl|rfl
  .exact h0
  .exact h1
  .exact h2) (lt_of_cell h0) (by
  rw[decide_eq_true_iff]
  constructor
  .intro h j hj
   have:j=0\/j=1\/j=2:=od
   rcases this with rfl|rfl|rfl
   .exact h.1
   .exact h.2.1
   .exact h.2.2
  .intro h
   exact⟨h 0 od,h 1 od,h 2 od⟩)
theorem aWo(p:Int)(w:WA):Calls prog 175 #[iI 0,iI p] w λev w'=>ev=rT .nilIface/\bW w w':=by go_enter func175,ntmps175;exact zEf
theorem zQ(e p:Int)(he:e≠0)(w:WA):Calls prog 175 #[iI e,iI p] w λev w'=>∃b,ev=rT (.iface 265 (pP b))/\w'.cell? (aA b 0)=some (iI e)/\w'.cell? (aA b 1)=some (iI p)/\bW w w':=by
 have h1:(e==0)=false:=by simpa using he
 clear he;go_enter func175,ntmps175;go_wp2;go_ret;refine⟨_,rfl,oe,oe,?_⟩;repeat(first|refine Below.setCell ?_ (by first|omega|(simp;omega)|simp) _|refine Below.alloc ?_ (by first|omega|(simp;omega)|simp) _)
 exact jD _ _
def jF(fr tq least most:Int):Int:=if tq<=fr then 1 else if fr<least then 10 else if most<tq then 2 else 0
theorem xO(fr tq least most:Int)(w:WA):Calls prog 174 #[.agg #[iI fr,iI tq],iI least,iI most] w λev w'=>ev=rT (iI (jF fr tq least most))/\bW w w':=by
 unfold jF;by_cases g1:tq<=fr
 .rw[kK g1];exact zBk
 .rw[kJ g1];have g1':decide (tq<=fr)=false:=kD g1;by_cases g2:fr<least
  .rw[kK g2];exact zBk
  .rw[kJ g2];have g2':decide (fr<least)=false:=kD g2;by_cases g3:most<tq
   .rw[kK g3];exact zBk
   .rw[kJ g3];have g3':decide (most<tq)=false:=kD g3;exact zBk
def uS:Nat->Nat->List Int
 |0,n=>[(n:Int)]
 |k+1,n=>if n<128 then[(n:Int)]else((n%128:Nat)+128:Int)::uS k (n/128)
theorem r9:∀k n,1<=(uS k n).length/\(uS k n).length<=k+1
 |0,n=>by simp[uS]
 |k+1,n=>by
  unfold uS;split
  .simp
  .have:=r9 k (n/128);simp;omega
theorem Tryz.infoByte:(Tryz.prog.info? 5).map (λi=>(i.zero,i.size,i.bytes))=some (some (.int .u8 0),1,1):=oh
def bH(nd fr tq:Nat->Int)(k:Nat):List Int:=(List.range k).flatMap λj=>[nd j,fr j,tq j]
theorem A4(nd fr tq:Nat->Int)(k:Nat):bH nd fr tq (k+1)=bH nd fr tq k++[nd k,fr k,tq k]:=by simp[bH,List.range_succ,List.flatMap_append]
theorem oW(nd fr tq:Nat->Int)(k:Nat):(bH nd fr tq k).length=3*k:=by
 induction k with
 |zero=>simp[bH]
 |succ k ih=>rw[A4,List.length_append,ih];simp;omega
def fE(lf lt lb lq:Nat->Int)(k:Nat):List Int:=(List.range k).flatMap λj=>[lf j,lt j,lb j,lq j]
theorem M1(lf lt lb lq:Nat->Int)(k:Nat):fE lf lt lb lq (k+1)=fE lf lt lb lq k++[lf k,lt k,lb k,lq k]:=by simp[fE,List.range_succ,List.flatMap_append]
theorem yQ(lf lt lb lq:Nat->Int)(k:Nat):(fE lf lt lb lq k).length=4*k:=by
 induction k with
 |zero=>simp[fE]
 |succ k ih=>rw[M1,List.length_append,ih];simp;omega
def eY(L:List Int)(k:Nat):List Int:=(L.take k).flatMap λx=>uS 5 x.toNat
theorem zU(L:List Int)(k:Nat)(h:k<L.length):eY L (k+1)=eY L k++uS 5 (L[k]).toNat:=by unfold eY;rw[List.take_succ_eq_append_getElem h,List.flatMap_append];simp
theorem K8(L:List Int):∀k,k<=L.length->(eY L k).length<=6*k:=by
 intro k
 induction k with
 |zero=>simp[eY]
 |succ k ih=>
  intro h
  rw[zU L k od,List.length_append]
  have:=r9 5 (L[k]).toNat
  have:=ih od
  omega
def dP(AA aG aM aC aJ round frame:Int)(ns nl nw:Nat)(nd fr tq lf lt lb lq wp wf wt:Nat->Int):List Int:=((([AA,aG,aM,aC,aJ,round,(ns:Int)]++bH nd fr tq ns++[(nl:Int)])++fE lf lt lb lq nl)++[frame,(nw:Int)]++bH wp wf wt nw)
theorem y9(AA aG aM aC aJ round frame:Int)(ns nl nw:Nat)(nd fr tq lf lt lb lq wp wf wt:Nat->Int):(dP AA aG aM aC aJ round frame ns nl nw nd fr tq lf lt lb lq wp wf wt).length=10+3*ns+4*nl+3*nw:=by simp[dP,oW,yQ];omega
section
variable{f x:Int}
def far(x:Int):Bool:=decide (x< -1099511627776)||decide (1099511627776<x)
theorem F9:far x=false↔-1099511627776<=x/\x<=1099511627776:=by unfold far;simp
theorem Z5:far x=true↔x< -1099511627776\/1099511627776<x:=by unfold far;simp
def eU(l:List Int)(f:Int):Int:=if f<0\/(l.length:Int)<2*f+1 then 1 else if l.any far=true then 2 else 0
def fU(l:List Int)(f:Int):Int:=if eU l f=0 then xU l f.toNat else 0
theorem aA9{l:List Int}(h:f<0\/(l.length:Int)<2*f+1):eU l f=1:=by unfold eU;rw[kK h]
theorem aAa{l:List Int}(h:¬(f<0\/(l.length:Int)<2*f+1))(h2:l.any far=true):eU l f=2:=by unfold eU;rw[kJ h,kK h2]
theorem vT{l:List Int}(h:¬(f<0\/(l.length:Int)<2*f+1))(h2:l.any far=false):eU l f=0:=by unfold eU;rw[kJ h,kJ (by simp[h2])]
theorem tX{l:List Int}(h:eU l f≠0):fU l f=0:=by unfold fU;rw[kJ h]
theorem wV{l:List Int}(h:eU l f=0):fU l f=xU l f.toNat:=by unfold fU;rw[kK h]
theorem U3{l:List Int}(h:l.any far=false){k:Nat}(hk:k<l.length):-1099511627776<=nK l k/\nK l k<=1099511627776:=by have:=aUz l hk;rw[List.any_eq_false]at h;exact F9.1 (by simpa using h _ this)
theorem Y3{w u v:WA}(h:bW w u)(k:bW u v):bW w v:=h.trans (k.mono h.size)
end
def tb(m:Int)(j:Nat):Bool:=m.toNat.testBit j
theorem aJ9(a j:Nat):((a&&&2^j) !=0)=a.testBit j:=by
 cases h:a.testBit j
 .have:a&&&2^j=0:=Nat.eq_of_testBit_eq λi=>by
   rw[Nat.testBit_and,Nat.testBit_two_pow,Nat.zero_testBit];by_cases e:j=i
   .subst e;rw[h];rfl
   .rw[kD e,Bool.and_false]
  rw[this];rfl
 .have:a&&&2^j≠0:=λe=>by
   have g:(a&&&2^j).testBit j=true:=by rw[Nat.testBit_and,Nat.testBit_two_pow_self,h];rfl
   rw[e,Nat.zero_testBit]at g;cases g
  exact zCk
theorem gT(j:Nat):((2:Int)^j)=((2^j:Nat):Int):=by simp
theorem lY(s:Nat->Bool):∀n j,tb (bA s n) j=(decide (j<n)&&s j)
 |0,j=>by unfold tb;simp[bA]
 |n+1,j=>by
  have ih:=lY s n j;have hb:=mV s n;unfold tb at ih⊢;obtain⟨a,ha⟩:=Int.eq_ofNat_of_zero_le hb.1;have hlt:a<2^n:=by have:=hb.2;rw[ha,gT]at this;omega
  simp only[bA];rw[ha]at ih⊢;rw[Int.toNat_natCast]at ih;cases hs:s n
  .simp only[Bool.false_eq_true,if_false,Int.add_zero];rw[Int.toNat_natCast,ih];by_cases e:j=n
   .subst e;rw[hs];simp
   .congr 1;exact decide_eq_decide.2 od
  .simp only[if_true];rw[gT,show((a:Int)+((2^n:Nat):Int)).toNat=2^n*1+a by omega,Nat.two_pow_add_eq_or_of_lt hlt,Nat.testBit_or,ih,Nat.mul_one,Nat.testBit_two_pow];by_cases e:n=j
   .subst e;rw[hs];simp
   .rw[kD e,Bool.false_or];congr 1;exact decide_eq_decide.2 od
theorem aRu{m:Int}{n:Nat}(h0:0<=m)(h1:m<2^n):bA (tb m) n=m:=by
 have hb:=mV (tb m) n;have e:(bA (tb m) n).toNat=m.toNat:=Nat.eq_of_testBit_eq λi=>by
  have this:(bA (tb m) n).toNat.testBit i=(decide (i<n)&&m.toNat.testBit i):=lY (tb m) n i;rw[this];by_cases hi:i<n
  .rw[kF hi,Bool.true_and]
  .rw[kD hi,Bool.false_and];refine(Nat.testBit_lt_two_pow ?_).symm;have h2:m.toNat<2^n:=by
    have:((m.toNat:Nat):Int)<((2^n:Nat):Int):=by rw[<-gT];omega
    omega
   exact kC h2 (Nat.pow_le_pow_right og od)
 omega
theorem jJ{s t:Nat->Bool}:∀{n:Nat},(∀j,j<n->s j=t j)->bA s n=bA t n
 |0,_=>rfl
 |n+1,h=>by simp only[bA];rw[jJ (n:=n) λj hj=>h j od,h n od]

section
variable{dR id mD:Int}
def gA(g b:Int)(fz:Bool):Bool:=!fz&&decide (b<g)
def rZ(id:Int)(n:Nat)(fz:Bool)(mD dR:Int):Bool:=!fz&&decide (0<=mD/\mD<n/\mD≠id/\0<=dR/\dR<=2)
def fZ(n:Nat)(t s:Nat->Bool)(mD m:Int):Int:=if(0<=mD/\mD<n)/\0<=m/\m<2^n/\aEi n mD.toNat s t=true then 1 else 2
def heT(id:Int)(n:Nat)(fz:Bool)(mD dR:Int)(t:Nat->Bool):Nat->Bool:=λj=>if rZ id n fz mD dR=true/\(j:Int)=mD then decide (dR=1)else t j
def heG(id:Int)(n:Nat)(fz:Bool)(mD dR g:Int):Int:=if rZ id n fz mD dR=true/\dR=1 then g+1 else g
def heB(id:Int)(n:Nat)(fz:Bool)(mD dR b:Int):Int:=if rZ id n fz mD dR=true/\dR=2 then b+1 else b
theorem aGn{n:Nat}{fz:Bool}(h:rZ id n fz mD dR=true):fz=false/\∃k:Nat,mD=(k:Int)/\k<n/\(k:Int)≠id/\0<=dR/\dR<=2:=by unfold rZ at h;simp only[AK,Bool.not_eq_true',decide_eq_true_eq]at h;obtain⟨h1,h2,h3,h4,h5,h6⟩:=h;exact⟨h1,mD.toNat,od,od,od,h5,h6⟩
theorem aSz{n:Nat}{fz:Bool}{k:Nat}(t:Nat->Bool)(h:rZ id n fz k dR=true):heT id n fz k dR t=λj=>if j=k then decide (dR=1)else t j:=by
 funext j;unfold heT;by_cases e:j=k
 .rw[kK ⟨h,od⟩,kK e]
 .rw[kJ (λy=>e od),kJ e]
theorem aXd{n:Nat}{fz:Bool}(t:Nat->Bool)(h:rZ id n fz mD dR=false):heT id n fz mD dR t=t:=by funext j;unfold heT;rw[kJ (λy=>by rw[h]at y;cases y.1)]
end
section
variable{aC aG aJ aM frame AA round:Int}{nl ns nw:Nat}
def bZ(AA aG aM aC aJ round frame:Int)(ns nl nw:Nat):Int:=
 if AA<1\/16<AA\/aG<0\/AA<aG*3+1 then 1
 else if aM<0\/137438953472<aM\/aC<0\/137438953472<aC\/aJ<0\/137438953472<aJ then 2
 else if round<1\/137438953472<round\/frame<1\/137438953472<frame then 2
 else if 32<ns\/8<nl\/32<nw then 4
 else if aM<aM/2+aC*2+aJ*2+1 then 13 else 0
def jQ(AA aG aM aC aJ round frame:Int)(ns nl nw:Nat)(nd fr tq lf lt lb lq:Nat->Int)(hit:Nat->Bool)(pw:Int)(wp wf wt:Nat->Int)(E I:Int):Prop:=
 (bZ AA aG aM aC aJ round frame ns nl nw≠0/\E=bZ AA aG aM aC aJ round frame ns nl nw/\I=-1)\/
 (bZ AA aG aM aC aJ round frame ns nl nw=0/\∃e1 i1 e2 i2 e3 i3,bX (fW nd fr tq AA aM round) ns e1 i1/\bX (cN lf lt lb lq hit AA pw) nl e2 i2/\bX (lJ wp wf wt frame) nw e3 i3/\tK e1 i1 e2 i2 e3 i3 E I)
theorem aOx(h:AA<1\/16<AA\/aG<0\/AA<aG*3+1):bZ AA aG aM aC aJ round frame ns nl nw=1:=by unfold bZ;rw[kK h]
theorem aOy(h:¬(AA<1\/16<AA\/aG<0\/AA<aG*3+1))(h2:aM<0\/137438953472<aM\/aC<0\/137438953472<aC\/aJ<0\/137438953472<aJ):bZ AA aG aM aC aJ round frame ns nl nw=2:=by unfold bZ;rw[kJ h,kK h2]
theorem aOz(h:¬(AA<1\/16<AA\/aG<0\/AA<aG*3+1))(h2:¬(aM<0\/137438953472<aM\/aC<0\/137438953472<aC\/aJ<0\/137438953472<aJ))(h3:round<1\/137438953472<round\/frame<1\/137438953472<frame):bZ AA aG aM aC aJ round frame ns nl nw=2:=by unfold bZ;rw[kJ h,kJ h2,kK h3]
theorem aP0(h:¬(AA<1\/16<AA\/aG<0\/AA<aG*3+1))(h2:¬(aM<0\/137438953472<aM\/aC<0\/137438953472<aC\/aJ<0\/137438953472<aJ))(h3:¬(round<1\/137438953472<round\/frame<1\/137438953472<frame))(h4:32<ns\/8<nl\/32<nw):bZ AA aG aM aC aJ round frame ns nl nw=4:=by unfold bZ;rw[kJ h,kJ h2,kJ h3,kK h4]
theorem aK3(h:¬(AA<1\/16<AA\/aG<0\/AA<aG*3+1))(h2:¬(aM<0\/137438953472<aM\/aC<0\/137438953472<aC\/aJ<0\/137438953472<aJ))(h3:¬(round<1\/137438953472<round\/frame<1\/137438953472<frame))(h4:¬(32<ns\/8<nl\/32<nw))(h5:aM<aM/2+aC*2+aJ*2+1):bZ AA aG aM aC aJ round frame ns nl nw=13:=by unfold bZ;rw[kJ h,kJ h2,kJ h3,kJ h4,kK h5]
theorem aOw(h:¬(AA<1\/16<AA\/aG<0\/AA<aG*3+1))(h2:¬(aM<0\/137438953472<aM\/aC<0\/137438953472<aC\/aJ<0\/137438953472<aJ))(h3:¬(round<1\/137438953472<round\/frame<1\/137438953472<frame))(h4:¬(32<ns\/8<nl\/32<nw))(h5:¬aM<aM/2+aC*2+aJ*2+1):bZ AA aG aM aC aJ round frame ns nl nw=0:=by unfold bZ;rw[kJ h,kJ h2,kJ h3,kJ h4,kJ h5]
theorem jQ.head{nd fr tq lf lt lb lq:Nat->Int}{hit:Nat->Bool}{pw:Int}{wp wf wt:Nat->Int}{E I c:Int}(h:jQ AA aG aM aC aJ round frame ns nl nw nd fr tq lf lt lb lq hit pw wp wf wt E I)(g:bZ AA aG aM aC aJ round frame ns nl nw=c)(hc:c≠0):E=c/\I=-1:=by
 rcases h with⟨_,h1,h2⟩|⟨h0,_⟩
 .exact⟨h1.trans g,h2⟩
 .exact absurd (g.symm.trans h0) hc
end
def aTs(K lost:Int):Int:=if K=12 then lost+1 else lost
def yA(all:List WG):Int:=if all=[]then 8 else 0
def recvD(all:List WG):WG:=all.headD AU
section
variable{V u u':WA}
theorem aZ7(h:Below V.drew.1.size V.drew u):bW V u:=⟨h.os,h.tape,h.output,h.size,h.block⟩
theorem gM(hW:bW V u)(h:bW u u'):bW V u':=hW.trans (h.mono hW.size)
theorem aNn(hW:bW V u)(h:Below u.drew.1.size u.drew u'):bW V u':=gM hW (aZ7 h)
theorem jP{o:Obj}(hW:bW V u)(h:Below (u.alloc o).1.size (u.alloc o) u'):bW V u':=gM (hW.alloc hW.size _) h
theorem zH{o:Obj}(hW:bW V u)(h:Below (u.drew.alloc o).1.size (u.drew.alloc o) u'):bW V u':=gM (hW.alloc hW.size o) ⟨h.os,h.tape,h.output,h.size,h.block⟩
def T3(b:Nat)(AA aG aM aC aJ round frame:Int)(sa la wa:Option WT)(ns sc nl lc nw wc:Nat)(u:WA):Prop:=
 u.cell? (aA b 0)=some (iI AA)/\u.cell? (aA b 1)=some (iI aG)/\u.cell? (aA b 2)=some (iI aM)/\u.cell? (aA b 3)=some (iI aC)/\u.cell? (aA b 4)=some (iI aJ)/\u.cell? (aA b 5)=some (iI round)/\u.cell? (aA b 6)=some (sV sa ns sc)/\u.cell? (aA b 7)=some (sV la nl lc)/\u.cell? (aA b 8)=some (iI frame)/\u.cell? (aA b 9)=some (sV wa nw wc)
theorem T3.below{b:Nat}{AA aG aM aC aJ round frame:Int}{sa la wa:Option WT}{ns sc nl lc nw wc:Nat}(h:T3 b AA aG aM aC aJ round frame sa la wa ns sc nl lc nw wc u)(hb:bW u u'):T3 b AA aG aM aC aJ round frame sa la wa ns sc nl lc nw wc u':=by obtain⟨h0,h1,h2,h3,h4,h5,h6,h7,h8,h9⟩:=h;exact⟨aS h0 hb,aS h1 hb,aS h2 hb,aS h3 hb,aS h4 hb,aS h5 hb,aS h6 hb,aS h7 hb,aS h8 hb,aS h9 hb⟩
theorem aRw(AA aG aM aC aJ round frame:Int)(sa la wa:Option WT)(ns sc nl lc nw wc:Nat)(w:WA)(t:WI):
  T3 w.1.size AA aG aM aC aJ round frame sa la wa ns sc nl lc nw wc (w.alloc (.cells #[iI AA,iI aG,iI aM,iI aC,iI aJ,iI round,sV sa ns sc,sV la nl lc,iI frame,sV wa nw wc] t))/\bW w (w.alloc (.cells #[iI AA,iI aG,iI aM,iI aC,iI aJ,iI round,sV sa ns sc,sV la nl lc,iI frame,sV wa nw wc] t)):=
 ⟨⟨oe,oe,oe,oe,oe,oe,oe,oe,oe,oe⟩,(jD _ _).alloc (kG _) _⟩
theorem fD(R:Bool)(fv:WB)(lo hi x:Int)(b cap:Nat)(w:WA)(hB:Btw w fv lo hi)(h0:w.cell? (aA b 0)=some (iI x))(hR:decide (lo<=x/\x<=hi)=R):
  Calls prog 172 #[fv,sL b 1 cap] w λe w'=>e=rT (.bool R)/\bW w w':=hR▸bDu fv lo hi x b cap w hB h0
theorem aDg(R:Bool)(fv:WB)(lo hi x y:Int)(b cap:Nat)(w:WA)(hB:Btw w fv lo hi)(h0:w.cell? (aA b 0)=some (iI x))(h1:w.cell? (aA b 1)=some (iI y))(hR:decide ((lo<=x/\x<=hi)/\lo<=y/\y<=hi)=R):
  Calls prog 172 #[fv,sL b 2 cap] w λe w'=>e=rT (.bool R)/\bW w w':=hR▸bDv fv lo hi x y b cap w hB h0 h1
theorem aDh(R:Bool)(fv:WB)(lo hi x y z:Int)(b cap:Nat)(w:WA)(hB:Btw w fv lo hi)(h0:w.cell? (aA b 0)=some (iI x))(h1:w.cell? (aA b 1)=some (iI y))(h2:w.cell? (aA b 2)=some (iI z))(hR:decide ((lo<=x/\x<=hi)/\(lo<=y/\y<=hi)/\lo<=z/\z<=hi)=R):
  Calls prog 172 #[fv,sL b 3 cap] w λe w'=>e=rT (.bool R)/\bW w w':=hR▸bDw fv lo hi x y z b cap w hB h0 h1 h2
theorem Btw.alloc{w:WA}{fv:WB}{lo hi:Int}(h:Btw w fv lo hi)(o:Obj):Btw (w.alloc o) fv lo hi:=h.below ((jD _ _).alloc (kG _) _)
theorem rK(n:Int)(h0:0<=n)(h:n<=1000000):IntKind.i64.wrap n=n:=by simp[IntKind.wrap,IntKind.bits,IntKind.signed];omega
theorem aL3(n:Nat)(h:n<=15):1<=(2:Int)^n/\(2:Int)^n<=32768:=by have:n=0\/n=1\/n=2\/n=3\/n=4\/n=5\/n=6\/n=7\/n=8\/n=9\/n=10\/n=11\/n=12\/n=13\/n=14\/n=15:=od;exact zBd
end
section
structure C0{I:Type}(w:WA)(O:I->List Nat):Prop where
 lt:∀i c,c∈O i->c<w.1.size
 ap:∀i j,i≠j->Apart (O i) (O j)
section
variable{I:Type}{w w':WA}{O:I->List Nat}
def gH[DecidableEq I](O:I->List Nat)(i:I)(X:List Nat):I->List Nat:=λj=>if j=i then X else O j
theorem eE[DecidableEq I](O:I->List Nat)(i:I)(X:List Nat):gH O i X i=X:=kK rfl
theorem bG[DecidableEq I](O:I->List Nat){i j:I}(X:List Nat)(h:j≠i):gH O i X j=O j:=kJ h
theorem C0.same(h:C0 w O){i:I}{X:List Nat}(k:aR (O i) X w w'){j:I}(hj:j≠i):Same (O j) w w':=k.same (h.ap i j (Ne.symm hj)) (h.lt j)
theorem C0.step[DecidableEq I](h:C0 w O){i:I}{X:List Nat}(k:aR (O i) X w w')(hX:∀c,c∈X->c<w'.1.size):C0 w' (gH O i X):=by
 refine⟨λj c hc=>?_,λa b hab=>?_⟩
 .by_cases e:j=i
  .subst e;rw[eE]at hc;exact hX c hc
  .rw[bG _ _ e]at hc;exact kC (h.lt j c hc) k.size
 .by_cases ea:a=i
  .subst ea;rw[eE,bG _ _ (Ne.symm hab)];exact k.apart (h.ap a b hab) (h.lt b)
  .rw[bG _ _ ea];by_cases eb:b=i
   .subst eb;rw[eE];exact(k.apart (h.ap b a (Ne.symm hab)) (h.lt a)).symm
   .rw[bG _ _ eb];exact h.ap a b hab
theorem C0.add[DecidableEq I](h:C0 w O){i:I}{X:List Nat}(k:bW w w')(hi:O i=[])(hX:∀c,c∈X->w.1.size<=c/\c<w'.1.size):C0 w' (gH O i X):=by refine h.step (i:=i) ?_ (λc hc=>(hX c hc).2);rw[hi];exact⟨k.os,k.tape,k.output,k.size,λc hc _=>k.block c hc,λc hc=>.inr (hX c hc).1⟩
end
end
section
variable{k n:Nat}
theorem aA7(a b:Nat)(ha:a<9223372036854775808)(hb:b<9223372036854775808):bits .andNot .i64 (a:Int) (b:Int)=((a&&&(18446744073709551615-b):Nat):Int):=by show IntKind.i64.wrap ((BitVec.ofInt 64 (a:Int)&&& ~~~BitVec.ofInt 64 (b:Int)).toNat:Int)=_;rw[BitVec.toNat_and,BitVec.toNat_not,ofInt_u64 a od,ofInt_u64 b od];have e:2^64-1-b=18446744073709551615-b:=od;rw[e];exact wL _ (Nat.lt_of_le_of_lt Nat.and_le_left ha)
theorem yU(h:k<=n):(2:Nat)^k<=2^n:=Nat.pow_le_pow_right og h
theorem sY(h:k<=16):(2:Nat)^k<=65536:=yU (n:=16) h
theorem aGy{a:Nat}{s:Nat->Bool}(h:∀j,a.testBit j=(decide (j<n)&&s j)):(a:Int)=bA s n:=by
 have hb:=(mV s n).1;have e:(bA s n).toNat=a:=Nat.eq_of_testBit_eq λi=>by rw[h i];exact lY s n i
 omega
theorem F4(t:Nat->Bool)(n:Nat):∃a:Nat,bA t n=(a:Int)/\a<2^n/\∀j,a.testBit j=(decide (j<n)&&t j):=by
 have hb:=mV t n;refine⟨(bA t n).toNat,od,?_,λj=>lY t n j⟩;have:(((bA t n).toNat:Nat):Int)<((2^n:Nat):Int):=by rw[<-gT];omega
 omega
theorem or_bit(t:Nat->Bool)(hn:n<=16)(hk:k<n):bits BinOp.or .i64 (bA t n) (2^k)=bA (λj=>if j=k then true else t j) n:=zJs
theorem aO9(t:Nat->Bool)(hn:n<=16)(hk:k<n):bits BinOp.andNot .i64 (bA t n) (2^k)=bA (λj=>if j=k then false else t j) n:=have aXr:=0;zJs
theorem aG1:∀n,bA (λ_=>true) n=2^n-1
 |0=>rfl
 |n+1=>by have h:=aG1 n;have e:(2:Int)^(n+1)=2^n*2:=Int.pow_succ 2 n;simp only[bA];rw[h,kK trivial];omega
theorem aR8(t:Nat->Bool)(hk:k<n)(m:Int):m=bA (λj=>if j=k then true else t j) n↔0<=m/\m<2^n/\aEi n k (tb m) t=true:=by
 constructor
 .intro e;have hb:=mV (λj=>if j=k then true else t j) n;refine⟨od,od,q7.2 ⟨?_,λj hj eH=>?_⟩⟩
  .rw[e,lY,kF hk];simp
  .rw[e,lY,kF hj,kJ eH];rfl
 .rintro⟨h0,h1,h2⟩;obtain⟨g1,g2⟩:=q7.1 h2;rw[<-aRu h0 h1];refine jJ λj hj=>?_;by_cases e:j=k
  .subst e;rw[kK rfl];exact g1
  .rw[kJ e];exact g2 j hj e
theorem aQl{m:Int}(hn:n<=16)(h0:-9223372036854775808<=m)(h1:m<9223372036854775808):(bits BinOp.andNot .i64 m (2^n-1) !=0)= !decide (0<=m/\m<2^n):=by
 have p1:=sY hn;have p0:0<(2:Nat)^n:=Nat.pow_pos og;obtain⟨A,hA⟩:∃A,(BitVec.ofInt 64 m).toNat=A:=⟨_,rfl⟩;have hA2:(A:Int)=m%18446744073709551616:=by rw[<-hA,BitVec.toNat_ofInt];omega
 have hAl:A<2^64:=by rw[<-hA];exact(BitVec.ofInt 64 m).isLt
 have e1:((2:Int)^n-1)=((2^n-1:Nat):Int):=by rw[gT];omega
 obtain⟨X,hX⟩:∃X,A&&&(2^64-((2^n-1)+1))=X:=⟨_,rfl⟩;have hXl:X<2^64:=by rw[<-hX];exact Nat.lt_of_le_of_lt Nat.and_le_left hAl
 have eB:bits BinOp.andNot .i64 m (2^n-1)=IntKind.i64.wrap (X:Int):=by show IntKind.i64.wrap ((BitVec.ofInt 64 m&&& ~~~BitVec.ofInt 64 (2^n-1)).toNat:Int)=_;rw[e1,BitVec.toNat_and,BitVec.toNat_not,hA,ofInt_u64 (2^n-1) od];rw[<-hX];congr 3;omega
 have hz:IntKind.i64.wrap (X:Int)=0↔X=0:=by exact zB5
 have G4:∀i,X.testBit i=(A.testBit i&&(decide (i<64)&& !decide (i<n))):=λi=>by rw[<-hX,Nat.testBit_and,Nat.testBit_two_pow_sub_succ od,Nat.testBit_two_pow_sub_one]
 have C2:X=0↔A<2^n:=by
  constructor
  .intro e;refine Nat.lt_pow_two_of_testBit A λi hi=>?_;by_cases q:i<64
   .have:=G4 i;rw[e,Nat.zero_testBit,kF q,kD od]at this;simpa using this.symm
   .exact Nat.testBit_lt_two_pow (kC hAl (yU od))
  .intro hlt;refine Nat.eq_of_testBit_eq λi=>?_;rw[G4,Nat.zero_testBit];by_cases q:i<n
   .rw[kF q];simp
   .rw[Nat.testBit_lt_two_pow (kC hlt (yU od))];rfl
 have hm:A<2^n↔(0<=m/\m<2^n):=by rw[gT];constructor<;>intro q<;>omega
 rw[eB];by_cases q:0<=m/\m<2^n
 .rw[kF q,hz.2 (C2.2 (hm.2 q))];rfl
 .rw[kD q,Bool.not_false];simp only[bne_iff_ne,ne_eq];intro e;exact q (hm.1 (C2.1 (hz.1 e)))
end
section
variable{a b nw seq:Int}
def nwV(nw:Int):Int:=if nw<0 then 0 else nw
structure Rcv(w:WA)(O:List Nat)(P:Nat)(nw a b:Int):Prop where
 c0:w.cell? (aA P 0)=some (.bool (decide (0<=nw)))
 c1:w.cell? (aA P 1)=some (iI (nwV nw))
 c2:w.cell? (aA P 2)=some (iI a)
 c3:w.cell? (aA P 3)=some (iI b)
 z:∀i,w.frozen? (aA P i)=false
 lp:P<w.1.size
 own:O=[P]
theorem Rcv.lt{w:WA}{O:List Nat}{P:Nat}(h:Rcv w O P nw a b):∀c,c∈O->c<w.1.size:=by intro c wR;rw[h.own]at wR;have:=h.lp;simp only[List.mem_cons,List.not_mem_nil,or_false]at wR;omega
theorem Rcv.keep{w w':WA}{O:List Nat}{P:Nat}(h:Rcv w O P nw a b)(k:Same O w w'):Rcv w' O P nw a b:=by
 have hp:P∈O:=by rw[h.own];exact kO (.inl rfl)
 exact⟨(k.cell (p:=(aA P 0)) hp).trans h.c0,(k.cell (p:=(aA P 1)) hp).trans h.c1,(k.cell (p:=(aA P 2)) hp).trans h.c2,(k.cell (p:=(aA P 3)) hp).trans h.c3,λi=>(k.frozen (p:=(aA P i)) hp).trans (h.z i),kC h.lp k.1,h.own⟩
theorem bCw(w:WA):Calls prog 183 #[] w λe w'=>∃O P,e=rT (pP P)/\Rcv w' O P (-1) 0 0/\bW w w'/\∀c,c∈O->w.1.size<=c:=by
 have fin:Rcv (w.alloc (.cells #[.bool false,iI 0,iI 0,iI 0] 291)) [w.1.size] w.1.size (-1) 0 0:=
  ⟨oe,by simp[nwV],oe,oe,λi=>by simp,oe,rfl⟩
 have HF:Hid _:=fin;have HB:Hid (bW w (w.alloc (.cells #[.bool false,iI 0,iI 0,iI 0] 291))):=(jD _ _).alloc (kG _) _;clear fin;go_enter func183,ntmps183;go_wp2;go_ret;exact⟨_,_,rfl,HF.out,HB.out,λc hc=>by
  simp only[List.mem_cons,List.not_mem_nil,or_false]at hc
  omega⟩
def yJ(nw seq:Int):Bool:=decide (seq≠0)&&(decide (1<=(seq-nw+255)%255)&&decide ((seq-nw+255)%255<=127))
theorem aCo{k:Nat}(h:k<=255):mR k=(k:Int):=by unfold mR;split<;>omega
theorem aNw(h0:0<=nw)(h1:nw<=255)(h2:0<=seq)(h3:seq<=255):aU3 nw seq 127=yJ nw seq:=by
 obtain⟨k,rfl⟩:∃k:Nat,nw=k:=⟨nw.toNat,od⟩;have hk:k<=255:=od;rw[Bool.eq_iff_iff,aHe];unfold yJ;rw[<-aCo hk];simp only[aAf,AK,decide_eq_true_eq];rw[aCo hk];constructor
 .rintro⟨d,q1,q2,q3⟩;unfold mR at q3;rw[kJ od]at q3;omega
 .rintro⟨q1,q2,q3⟩;refine⟨((seq-k+255)%255).toNat,od,od,?_⟩;unfold mR;rw[kJ od];omega
theorem aNv(h0:0<=nw)(h1:nw<=255)(h2:0<=seq)(h3:seq<=255)(w:WA):Calls prog 231 #[iI nw,iI seq] w λe w'=>e=rT (.bool (yJ nw seq))/\w'=w:=by
 unfold yJ;by_cases k0:seq=0
 .subst k0;go_enter func231,ntmps231;go_wp2;go_ret;exact⟨oe,rfl⟩
 .have k1:(seq==0)=false:=by simpa using k0
  have hm:Int.tmod (seq-nw+255) 255=(seq-nw+255)%255:=Int.tmod_eq_emod_of_nonneg od;have hx:0<=(seq-nw+255)%255/\(seq-nw+255)%255<255:=od;rw[kF k0,Bool.true_and];generalize(seq-nw+255)%255=x at *;by_cases q1:1<=x
  .by_cases q2:x<=127
   .rw[kF q1,kF q2];exact zFx
   .have q2':=kD q2;rw[kF q1,q2'];clear q2;exact zFx
  .have q1':=kD q1;rw[q1',Bool.false_and];clear q1;exact zFx
theorem J5(h:¬(0<=seq/\seq<=255)):takeB nw seq=false:=by unfold takeB;rw[kD h,Bool.false_and]
theorem aLw(h:0<=seq/\seq<=255)(hn:nw<0):takeB nw seq=true:=by unfold takeB;rw[kF h,kF hn];rfl
theorem P3(h:0<=seq/\seq<=255)(hn:0<=nw)(h1:nw<=255):takeB nw seq=yJ nw seq:=by unfold takeB;rw[kF h,kD od,aNw hn h1 h.1 h.2];rfl
theorem aPb{w:WA}{O:List Nat}{P:Nat}(h:Rcv w O P nw a b)(seq:Int)(hn2:nw<=255):
  Calls prog 220 #[pP P,iI seq] w λe w'=>e=rT (.bool (takeB nw seq))/\w'=w:=by
 obtain⟨c0,c1,c2,c3,z,lp,own⟩:=h;clear z own;by_cases k0:seq<0
 .rw[J5 od];exact zFy
 .by_cases k1:255<seq
  .have k0':=kD k0;rw[J5 od];clear k0;exact zFy
  .have hs:0<=seq/\seq<=255:=by omega
   have k0':=kD k0;have k1':=kD k1;clear k0 k1;by_cases hn:nw<0
   .rw[aLw hs hn];rw[kD od]at c0;clear hs;exact zFy
   .rw[P3 hs od hn2];rw[kF od]at c0;have e1:nwV nw=nw:=kJ hn;rw[e1]at c1;have hA:=aNv (nw:=nw) (seq:=seq) od hn2 hs.1 hs.2;clear hn hs e1;generalize yJ nw seq=T at *;go_enter func220,ntmps220;go_wp2_with fail;refine(hA _).mono ?_;rintro e w1 ⟨rfl,q⟩;replace q:=q.symm;subst q;cases T
    .exact W5
    .exact W5
theorem aYm{w:WA}{O:List Nat}{P:Nat}(h:Rcv w O P nw a b)(seq:Int)(d:WG)(hn2:nw<=255)(ha0:0<=a)(ha:a<=4611686018427387904)(hb0:0<=b)(hb:b<=4611686018427387904):
  Calls prog 193 #[pP P,.agg #[iI seq,sT d]] w λe w'=>e=rT (.bool (takeB nw seq))/\∃O',Rcv w' O' P (P4 (takeB nw seq) seq nw) (aVt (takeB nw seq) a) (bA9 (takeB nw seq) b)/\aR O O' w w':=by
 have hI:=λ(w':WA)(k:Same O w w')=>aPb (h.keep k) seq hn2;have jT:=@aIn nw seq;obtain⟨T,hT⟩:∃T,takeB nw seq=T:=⟨_,rfl⟩;rw[hT]at hI jT⊢;clear hT;obtain⟨c0,c1,c2,c3,z,lp,rfl⟩:=h;obtain⟨V,hV⟩:∃V,w.alloc (.cells #[iI seq,sT d] 270)=V:=⟨_,rfl⟩;have hB:bW w V:=jy;have hIw:=hI V (Same.of_below hB (λc hc=>by simp at hc;omega));have cc:∀i,V.cell? (aA P i)=w.cell? (aA P i):=λi=>hB.cell (p:=(aA P i)) lp;have HZ:Hid (∀i,V.frozen? (aA P i)=false):=λi=>(hB.frozen (p:=(aA P i)) lp).trans (z i);have y0:=(cc 0).trans c0;have y1:=(cc 1).trans c1;have y2:=(cc 2).trans c2;have y3:=(cc 3).trans c3;have zz0:=HZ.out 0;have zz1:=HZ.out 1;have zz2:=HZ.out 2;have zz3:=HZ.out 3;have x0:V.cell? (aA w.1.size 0)=some (iI seq):=Ov;have hVs:V.1.size=w.1.size+1:=Ov;have lV:P<V.1.size:=od;have HB:Hid (bW w V):=hB;clear hI c0 c1 c2 c3 cc z hB;cases T
 .clear jT;have HF:Hid (Rcv (V.setCell (aA P 3) (iI (b+1))) [P] P nw a (b+1)):=⟨(aB (.inr og)).trans y0,(aB (.inr og)).trans y1,(aB (.inr og)).trans y2,aZ y3,λi=>bJ.trans (HZ.out i),by simpa using lV,rfl⟩;have HT:Hid (aR [P] [P] w (V.setCell (aA P 3) (iI (b+1)))):=(aR.of_below HB.out).trans (aR.qF ((aW.refl P P V).set (p:=(aA P 3)) (.inl rfl) _) (kO (.inl rfl)) (kO (.inl rfl)));exact zIm
 .have hs:=jT rfl;clear jT;have HF:Hid (Rcv (((V.setCell (aA P 2) (iI (a+1))).setCell (aA P 0) (.bool true)).setCell (aA P 1) (iI seq)) [P] P seq (a+1) b):=by
   refine⟨?_,?_,?_,?_,λi=>bJ.trans (bJ.trans (bJ.trans (HZ.out i))),by simpa using lV,rfl⟩
   .rw[kF hs.1];exact(aB (.inr og)).trans (aZ ((aB (.inr og)).trans y0))
   .rw[show nwV seq=seq from kJ od];exact aZ ((aB (.inr og)).trans ((aB (.inr og)).trans y1))
   .exact(aB (.inr og)).trans ((aB (.inr og)).trans (aZ y2))
   .exact(aB (.inr og)).trans ((aB (.inr og)).trans ((aB (.inr og)).trans y3))
  have HT:Hid (aR [P] [P] w (((V.setCell (aA P 2) (iI (a+1))).setCell (aA P 0) (.bool true)).setCell (aA P 1) (iI seq))):=(aR.of_below HB.out).trans (aR.qF ((((aW.refl P P V).set (p:=(aA P 2)) (.inl rfl) _).set (p:=(aA P 0)) (.inl rfl) _).set (p:=(aA P 1)) (.inl rfl) _) (kO (.inl rfl)) (kO (.inl rfl)));have m91:=0;exact zIm
end
section
variable{B P aQ:Nat}{all:List WG}{bag last now queue:Int}{w:WA}
theorem Tryz.infoStr7:(Tryz.prog.info? 9).map (λi=>(i.zero,i.size,i.bytes))=some (some (sT AU),1,16):=oh
def d6(aQ:Nat)(last bag:Int):Int:=if aQ=0 then 0 else last+bag
structure eT(w:WA)(B P:Nat)(bag queue:Int)(all:List WG)(v:WB)(aQ:Nat)(last now:Int):Prop where
 c0:w.cell? (aA P 0)=some (iI bag)
 c1:w.cell? (aA P 1)=some (iI queue)
 c2:w.cell? (aA P 2)=some v
 c3:w.cell? (aA P 3)=some (iI now)
 c4:w.cell? (aA P 4)=some (iI (d6 aQ last bag))
 c5:w.cell? (aA P 5)=some (iI (mR aQ))
 z:∀i,w.frozen? (aA P i)=false
 own:w.ownsRow B 9 1 v (all.length-aQ) ((all.drop aQ).map Value.string)
 lp:P<B
 lb:B<=w.1.size
 we:aQ<=all.length
def Sdr(w:WA)(O:List Nat)(P:Nat)(bag queue:Int)(all:List WG)(aQ:Nat)(last now:Int):Prop:=
 ∃v,eT w (P+1) P bag queue all v aQ last now/\O=P::v.ownBlock.toList
theorem Sdr.lt{O:List Nat}(h:Sdr w O P bag queue all aQ last now):∀c,c∈O->c<w.1.size:=zC3
theorem Sdr.keep{w':WA}{O:List Nat}(h:Sdr w O P bag queue all aQ last now)(k:Same O w w'):Sdr w' O P bag queue all aQ last now:=by obtain⟨v,h,rfl⟩:=h;have hp:P∈P::v.ownBlock.toList:=kO (.inl rfl);exact⟨v,⟨(k.cell (p:=(aA P 0)) hp).trans h.c0,(k.cell (p:=(aA P 1)) hp).trans h.c1,(k.cell (p:=(aA P 2)) hp).trans h.c2,(k.cell (p:=(aA P 3)) hp).trans h.c3,(k.cell (p:=(aA P 4)) hp).trans h.c4,(k.cell (p:=(aA P 5)) hp).trans h.c5,λi=>(k.frozen (p:=(aA P i)) hp).trans (h.z i),sX h.own k (λg hg=>kO (.inr (by simpa using hg))),h.lp,kH h.lb k.1,h.we⟩,rfl⟩
theorem eT.drawn{v:WB}(h:eT w B P bag queue all v aQ last now)(q:Nat):eT (w.drewN q) B P bag queue all v aQ last now:=⟨h.c0,h.c1,h.c2,h.c3,h.c4,h.c5,h.z,h.own,h.lp,h.lb,h.we⟩
theorem aUq:Sdr (w.alloc (.cells #[iI bag,iI queue,sV none 0 0,iI 0,iI 0,iI 0] 223)) [w.1.size] w.1.size bag queue [] 0 0 0:=by
 have c:∀(i:Nat)(u:WB),(#[iI bag,iI queue,sV none 0 0,iI 0,iI 0,iI 0]:Array WB)[i]?=some u->(w.alloc (.cells #[iI bag,iI queue,sV none 0 0,iI 0,iI 0,iI 0] 223)).cell? (aA w.1.size i)=some u:=λi u hi=>by simp;simpa using hi
 exact⟨sV none 0 0,⟨c 0 _ rfl,c 1 _ rfl,c 2 _ rfl,c 3 _ rfl,c 4 _ rfl,c 5 _ rfl,λi=>by simp,World.ownsRow_nil _ _ _ _,od,oe,kG _⟩,rfl⟩
theorem aQa{v:WB}(h:eT w B P bag queue all v aQ last now)(d:WG)(hd:40<d.size):
  Calls prog 110 #[pP P,sT d] w λe w'=>e=rT (dG 4)/\w'=w:=by let _:=h;have k:(40:Int)<(d.size:Int):=od;go_enter func110,ntmps110;exact W5
theorem aUs{v:WB}(h:eT w B P bag queue all v aQ last now)(d:WG)(hd:d.size<=40)(hq:queue<=((all.length-aQ:Nat):Int))(ha:all.length<=10000000):
  Calls prog 110 #[pP P,sT d] w λe w'=>e=rT (dG 12)/\∃q,w'=w.drewN q:=by obtain⟨c0,c1,c2,c3,c4,c5,z,own,lp,lb,we⟩:=h;have bG6:=0;exact zI7
theorem bCt{v:WB}(h:eT w B P bag queue all v aQ last now)(d:WG)(hd:d.size<=40)(hq:((all.length-aQ:Nat):Int)<queue)(ha:all.length<=10000000):
  Calls prog 110 #[pP P,.string d] w λe w'=>e=.returned (dG 0)/\∃v',eT w' B P bag queue (all++[d]) v' aQ last now/\aW P (v.ownBlock.getD P) w w'/\(v'.ownBlock=v.ownBlock\/∃g,w.1.size<=g/\v'.ownBlock=some g):=by obtain⟨c0,c1,c2,c3,c4,c5,z,own,lp,lb,we⟩:=h;obtain⟨i0,hi,qV,qO,qP⟩:=info_parts Tryz.infoStr7;have m6:=0;exact zLi
theorem bD8{O:List Nat}(h:Sdr w O P bag queue all aQ last now)(d:WG)(ha:all.length<=10000000):
  Calls prog 110 #[pP P,sT d] w λe w'=>e=rT (dG (putK (all.length-aQ) queue d))/\∃O',Sdr w' O' P bag queue (mN (putK (all.length-aQ) queue d) all d) aQ last now/\aR O O' w w':=by
 obtain⟨v,h,rfl⟩:=h;unfold mN putK;by_cases h1:40<d.size
 .simp only[kK h1];refine(aQa h d h1).mono ?_;exact zEo
 .simp only[kJ h1];by_cases h2:queue<=((all.length-aQ:Nat):Int)
  .simp only[kK h2];refine(aUs h d od h2 ha).mono ?_;rintro e w' ⟨rfl,q,rfl⟩;exact⟨rfl,_,⟨v,h.drawn q,rfl⟩,aR.drawn _ _ _⟩
  .simp only[kJ h2];refine(bCt h d od od ha).mono ?_;exact zA0
end
structure vA where
 t:Nat->Bool
 g:Int
 b:Int
 fz:Bool
structure lN where
 all:List WG
 aQ:Nat
 last:Int
 now:Int
structure cJ where
 AA:Nat->vA
 aK:Nat->lN
 aV:Nat->Nat->Int
 aT:Nat->Nat->List WG
structure nP where
 n:Nat
 round:Int
 ns:Nat
 nd:WN
 fr:Nat->Int
 nl:Nat
 lf:WN
 lt:Nat->Nat->Bool
 lb:Nat->Int
structure qL where
 lies:Nat->Bool
 mode:Nat->Int
 lost:Nat->Nat->Nat->Bool
def lN.asked(s:lN)(t bag:Int):lN:=
 { all:=s.all,aQ:=aAt (gV s.all.length s.aQ t s.now s.last bag) s.aQ,last:=tE (gV s.all.length s.aQ t s.now s.last bag) t s.last,now:=aFa (gV s.all.length s.aQ t s.now s.last bag) t s.now }
def aH(p:nP)(AE:Nat)(t:Int)(L:Nat->lN):Nat->(Nat->lN)×Option (Nat×Int×WG)
 |0=>(L,none)
 |k+1=>
  let r:=aH p AE t L k
  if r.2.isSome=true\/p.lf k≠AE then r
  else(λj=>if j=k then(r.1 k).asked t (p.lb k)else r.1 j,
   if gV (r.1 k).all.length (r.1 k).aQ t (r.1 k).now (r.1 k).last (p.lb k)=0 then some (k,mR (r.1 k).aQ,(r.1 k).all.getD (r.1 k).aQ AU)else none)
def qL.tY(h:qL)(AE:Nat):Int:=if h.lies AE=true then h.mode AE else 0
def cJ.sends(s:cJ)(h:qL)(AE:Nat):Bool:=gA (s.AA AE).g (s.AA AE).b (s.AA AE).fz&&decide (h.tY AE≠1)
def cJ.wH(s:cJ)(p:nP)(h:qL)(AE:Nat):Nat->Bool:=λj=>if h.tY AE=2/\(j=AE\/j=(AE+1)%p.n)then !(s.AA AE).t j else(s.AA AE).t j
def cJ.comes(s:cJ)(h:qL)(i AE to_:Nat):Bool:=s.sends h AE&&(!h.lost i 0 to_|| !h.lost i 1 to_)
def cJ.what(s:cJ)(p:nP)(h:qL)(i AE to_:Nat):Int:=if s.comes h i AE to_=true then(if aEi p.n AE (s.wH p h AE) (s.AA to_).t=true then 1 else 2)else 0
def vA.aI(N:vA):vA:={ t:=N.t,g:=if gA N.g N.b N.fz=true then 1 else N.g,b:=if gA N.g N.b N.fz=true then 0 else N.b,fz:=!gA N.g N.b N.fz }
def vA.hears(N:vA)(id n mD:Nat)(dR:Int):vA:={ t:=heT id n N.fz mD dR N.t,g:=heG id n N.fz mD dR N.g,b:=heB id n N.fz mD dR N.b,fz:=N.fz }
def cJ.goes(s:cJ)(p:nP)(h:qL)(rounds:Int)(i:Nat):(Nat->lN)×Option (Nat×Int×WG):=
 if s.sends h (p.nd i)=true then aH p (p.nd i) (rounds*p.round+p.fr i) s.aK p.nl else(s.aK,none)
def cJ.yD(s:cJ)(p:nP)(h:qL)(i:Nat)(m:Option (Nat×Int×WG))(k to_:Nat):Bool:=
 match m with
 |none=>false
 |some (j,q,_)=>decide (j=k)&&(p.lt k to_&&(s.comes h i (p.nd i) to_&&(decide (to_<p.n/\to_≠p.nd i)&&takeB (s.aV k to_) q)))
def dT(m:Option (Nat×Int×WG)):Int:=match m with|none=>0|some (_,q,_)=>q
def cW(m:Option (Nat×Int×WG)):WG:=match m with|none=>AU|some (_,_,d)=>d
def cJ.slot(s:cJ)(p:nP)(h:qL)(rounds:Int)(i:Nat):cJ where
 AA:=λj=>if j=p.nd i then(s.AA j).aI else(s.AA j).hears j p.n (p.nd i) (s.what p h i (p.nd i) j)
 aK:=(s.goes p h rounds i).1
 aV:=λk j=>if s.yD p h i (s.goes p h rounds i).2 k j=true then dT (s.goes p h rounds i).2 else s.aV k j
 aT:=λk j=>if s.yD p h i (s.goes p h rounds i).2 k j=true/\(s.aT k j).length<16 then s.aT k j++[cW (s.goes p h rounds i).2]else s.aT k j
def cJ.mP(s:cJ)(p:nP)(h:qL)(rounds:Int):Nat->cJ
 |0=>s
 |i+1=>(s.mP p h rounds i).slot p h rounds i
theorem aH9{p:nP}{AE:Nat}{t:Int}{L:Nat->lN}:∀n,(∀k q d,(aH p AE t L n).2=some (k,q,d)->k<n/\p.lf k=AE)/\∀j,p.lf j≠AE->(aH p AE t L n).1 j=L j:=by
 intro n
 induction n with
 |zero=>exact⟨λk q d h=>Oa,λj _=>rfl⟩
 |succ n ih=>
  show(∀k q d,(if(aH p AE t L n).2.isSome=true\/p.lf n≠AE then aH p AE t L n else _).2=some (k,q,d)->_)/\∀j,p.lf j≠AE->(if(aH p AE t L n).2.isSome=true\/p.lf n≠AE then aH p AE t L n else _).1 j=L j
  by_cases hc:(aH p AE t L n).2.isSome=true\/p.lf n≠AE
  .rw[kK hc]
   exact⟨λk q d h=>⟨Nat.lt_succ_of_lt (ih.1 k q d h).1,(ih.1 k q d h).2⟩,ih.2⟩
  .rw[kJ hc]
   have hw:p.lf n=AE:=by
    by_cases e:p.lf n=AE
    .exact e
    .exact absurd (.inr e) hc
   refine⟨λk q d h=>?_,λj hj=>?_⟩
   .by_cases e:gV ((aH p AE t L n).1 n).all.length ((aH p AE t L n).1 n).aQ t ((aH p AE t L n).1 n).now ((aH p AE t L n).1 n).last (p.lb n)=0
    .simp only[kK e]at h
     injection h with h
     injection h with h
     exact⟨od,by rw[<-h];exact hw⟩
    .simp only[kJ e]at h
     cases h
   .have:j≠n:=λe=>hj (e▸hw)
    show(if j=n then _ else(aH p AE t L n).1 j)=L j
    rw[kJ this]
    exact ih.2 j hj
section
variable{P n:Nat}{b g id m:Int}{fz:Bool}{w:WA}
structure aU(w:WA)(P:Nat)(id:Int)(n:Nat)(m:Int)(g b:Int)(fz:Bool):Prop where
 c0:w.cell? (aA P 0)=some (iI id)
 c1:w.cell? (aA P 1)=some (iI n)
 c2:w.cell? (aA P 2)=some (iI m)
 c3:w.cell? (aA P 3)=some (.bool fz)
 c4:w.cell? (aA P 4)=some (iI g)
 c5:w.cell? (aA P 5)=some (iI b)
 z:∀i,w.frozen? (aA P i)=false
 lp:P<w.1.size
theorem aU.drawn(h:aU w P id n m g b fz)(q:Nat):aU (w.drewN q) P id n m g b fz:=⟨h.c0,h.c1,h.c2,h.c3,h.c4,h.c5,h.z,h.lp⟩
theorem aU.wT(h:aU w P id n m g b fz)(m':Int):aU (w.setCell (aA P 2) (iI m')) P id n m' g b fz:=
 ⟨(aB (.inr og)).trans h.c0,(aB (.inr og)).trans h.c1,aZ h.c2,(aB (.inr og)).trans h.c3,(aB (.inr og)).trans h.c4,(aB (.inr og)).trans h.c5,λi=>bJ.trans (h.z i),by simpa using h.lp⟩
theorem aU.freeze(h:aU w P id n m g b fz)(f':Bool):aU (w.setCell (aA P 3) (.bool f')) P id n m g b f':=
 ⟨(aB (.inr og)).trans h.c0,(aB (.inr og)).trans h.c1,(aB (.inr og)).trans h.c2,aZ h.c3,(aB (.inr og)).trans h.c4,(aB (.inr og)).trans h.c5,λi=>bJ.trans (h.z i),by simpa using h.lp⟩
theorem aU.bEp(h:aU w P id n m g b fz)(g':Int):aU (w.setCell (aA P 4) (iI g')) P id n m g' b fz:=
 ⟨(aB (.inr og)).trans h.c0,(aB (.inr og)).trans h.c1,(aB (.inr og)).trans h.c2,(aB (.inr og)).trans h.c3,aZ h.c4,(aB (.inr og)).trans h.c5,λi=>bJ.trans (h.z i),by simpa using h.lp⟩
theorem aU.bad(h:aU w P id n m g b fz)(b':Int):aU (w.setCell (aA P 5) (iI b')) P id n m g b' fz:=
 ⟨(aB (.inr og)).trans h.c0,(aB (.inr og)).trans h.c1,(aB (.inr og)).trans h.c2,(aB (.inr og)).trans h.c3,(aB (.inr og)).trans h.c4,aZ h.c5,λi=>bJ.trans (h.z i),by simpa using h.lp⟩
theorem aCs(h:aU w P id n m g b fz):
  Calls prog 180 #[pP P] w λe w'=>e=rT (tU #[])/\aU w' P id n m 1 0 fz/\aW P P w w':=by have HH:Hid (aU w P id n m g b fz):=h;obtain⟨c0,c1,c2,c3,c4,c5,z,lp⟩:=h;have z4:=z 4;have z5:=z 5;clear z;go_enter func180,ntmps180;go_wp2;exact bodyPost_end (v:=tU #[]) (by simp[results,results180,go_sem]) rfl ⟨rfl,(HH.out.bEp 1).bad 0,((aW.refl _ _ _).set (p:=(aA P 4)) (.inl rfl) _).set (p:=(aA P 5)) (.inl rfl) _⟩
theorem aQ7(id:Int)(n:Nat)(w:WA)(h1:1<=n)(h2:n<=16)(h3:0<=id)(h4:id<n):
  Calls prog 143 #[iI id,iI n] w λe w'=>e=rT (tU #[pP w.1.size,.nilIface])/\aU w' w.1.size id n (2^n-1) 1 0 false/\bW w w':=by
 have p0:=pow_pos n;have p1:(2:Int)^n<=2^16:=aL2 h2;have p2:(2:Int)^16=65536:=og;have k1:decide ((n:Int)<1)=false:=kD od;have k2:decide (16<(n:Int))=false:=kD od;have HV:Hid (aU (w.alloc (.cells #[iI id,iI n,iI (2^n-1),.bool false,iI 0,iI 0] 237)) w.1.size id n (2^n-1) 0 0 false):=by
  have c:∀(i:Nat)(v:WB),(#[iI id,iI n,iI (2^n-1),.bool false,iI 0,iI 0]:Array WB)[i]?=some v->(w.alloc (.cells #[iI id,iI n,iI (2^n-1),.bool false,iI 0,iI 0] 237)).cell? (aA w.1.size i)=some v:=λi v hi=>by simp;simpa using hi
  exact⟨c 0 _ rfl,c 1 _ rfl,c 2 _ rfl,c 3 _ rfl,c 4 _ rfl,c 5 _ rfl,λi=>by simp,oe⟩
 have HN:=aCs HV.out;have HB:Hid (bW w (w.alloc (.cells #[iI id,iI n,iI (2^n-1),.bool false,iI 0,iI 0] 237))):=(jD _ _).alloc (kG _) _;go_enter func143,ntmps143;go_wp2_with(first|(go_at_call 180;apply Hid.out)|go_in);unfold Hid;refine HN.mono ?_;rintro e w1 ⟨rfl,hN1,hT1⟩;have rY:bW w w1:=HB.out.trans (hT1.below oe (kG _) (kG _));go_wp2;go_ret2;exact⟨rfl,hN1,rY⟩
end
def cutV(x most:Int):Int:=max (-most) (min most x)
theorem wQ{x most:Int}(h:0<=most):-most<=cutV x most/\cutV x most<=most:=by unfold cutV;omega
structure zO where
 AE:Int
 of_:Int
 is_:Int
def gG(n:Nat)(lies:Nat->Bool)(aC:Int)(now:Nat->Int)(x:zO)(row:Nat->Nat->Int):Nat->Nat->Int:=λi k=>
 if(0<=x.AE/\x.AE<n)/\(0<=x.of_/\x.of_<n)/\x.AE≠x.of_/\(i:Int)=x.AE/\(k:Int)=x.of_ then
  (if lies k=true then cutV x.is_ 549755813888 else now k-now i+cutV x.is_ aC)
 else row i k
def readAll(n:Nat)(lies:Nat->Bool)(aC:Int)(now:Nat->Int)(l:List zO):Nat->Nat->Int:=l.foldl (λrow x=>gG n lies aC now x row) (λi k=>now k-now i)
theorem aBw{n:Nat}{lies:Nat->Bool}{aC:Int}{now:Nat->Int}(hj:0<=aC)(l:List zO):∀i k,lies k=false->now k-now i-aC<=readAll n lies aC now l i k/\readAll n lies aC now l i k<=now k-now i+aC:=by
 have key:∀(l:List zO)(row:Nat->Nat->Int),(∀i k,lies k=false->now k-now i-aC<=row i k/\row i k<=now k-now i+aC)->∀i k,lies k=false->now k-now i-aC<=l.foldl (λrow x=>gG n lies aC now x row) row i k/\l.foldl (λrow x=>gG n lies aC now x row) row i k<=now k-now i+aC:=by
  intro l
  induction l with
  |nil=>intro row h;exact h
  |cons x l ih=>
   intro row h
   refine ih _ λi k hk=>?_
   have e:gG n lies aC now x row i k=(if(0<=x.AE/\x.AE<n)/\(0<=x.of_/\x.of_<n)/\x.AE≠x.of_/\(i:Int)=x.AE/\(k:Int)=x.of_ then(if lies k=true then cutV x.is_ 549755813888 else now k-now i+cutV x.is_ aC)else row i k):=rfl
   show now k-now i-aC<=gG n lies aC now x row i k/\gG n lies aC now x row i k<=now k-now i+aC
   rw[e]
   split
   .have hc:=wQ (x:=x.is_) hj
    rw[kJ (by rw[hk];decide)]
    generalize cutV x.is_ aC=cv at *
    exact⟨od,od⟩
   .exact h i k hk
 refine key l _ λi k _=>?_;show now k-now i-aC<=now k-now i/\now k-now i<=now k-now i+aC;omega
def pW(bP:List Int)(aJ:Int)(i:Nat):Int:=if i<bP.length then cutV (bP.getD i 0) aJ else 0
theorem aCa{bP:List Int}{aJ:Int}(h:0<=aJ)(i:Nat):-aJ<=pW bP aJ i/\pW bP aJ i<=aJ:=by
 unfold pW;split
 .exact wQ h
 .omega
def gQ(n f:Nat)(lies:Nat->Bool)(aC aJ:Int)(now:Nat->Int)(l:List zO)(bP:List Int):Nat->Int:=λi=>uJ n f now (readAll n lies aC now l) i+pW bP aJ i
def zS(n:Nat)(c:Nat->Int):Bool:=(List.range n).any λi=>decide (c i< -274877906944\/274877906944<c i)
def aMa(n:Nat)(lies:Nat->Bool)(aM:Int)(c:Nat->Int):Prop:=∀i j,i<n->lies i=false->j<n->lies j=false->c i-c j<=aM
theorem aMa.round{n f:Nat}{lies:Nat->Bool}{aM aC aJ:Int}{now:Nat->Int}(h:aMa n lies aM now)(l:List zO)(bP:List Int)(hl:(List.range n).countP lies<=f)(h3:3*f+1<=n)(hj:0<=aC)(hd:0<=aJ)(hS:aM/2+2*aC+1+2*aJ<=aM):aMa n lies aM (gQ n f lies aC aJ now l bP):=by
 intro i j hi oi hj' oj;refine aLo (ok:=λk=>!lies k) (u:=aC) (D:=aJ) (row:=readAll n lies aC now l) (aS9 lies n f hl) h3 hS (λa b _ _ _ hb=>?_) (λa b ha oa hb ob=>?_) (λa _=>aCa hd a) i j hi ?_ hj' ?_
 .exact aBw hj l a b (by simpa using hb)
 .exact h a b ha (by simpa using oa) hb (by simpa using ob)
 .simp[oi]
 .simp[oj]


section
variable{P n:Nat}{b g id:Int}{fz:Bool}
theorem aKz{w:WA}{m:Int}(h:aU w P id n m g b fz)(mD dR:Int)(hh:rZ id n fz mD dR=false):
  Calls prog 153 #[pP P,iI mD,iI dR] w λe w'=>e=rT (tU #[])/\w'=w:=by
 obtain⟨c0,c1,c2,c3,c4,c5,z,lp⟩:=h;clear z;cases fz
 .unfold rZ at hh;have hh:¬(0<=mD/\mD<n/\mD≠id/\0<=dR/\dR<=2):=by simpa using hh
  by_cases k1:0<=mD
  .by_cases k2:mD<(n:Int)
   .by_cases k3:mD=id
    .subst k3;clear hh;exact zBn
    .have k3':(mD==id)=false:=by simpa using k3
     have k4:(dR==0)=false:=ol;have k5:(dR==1)=false:=ol;have k6:(dR==2)=false:=ol;clear hh k3;go_enter func153,ntmps153;go_wp2;exact bodyPost_end (v:=tU #[]) Oj rfl ⟨rfl,rfl⟩
   .have k2':decide (mD<(n:Int))=false:=kD k2;clear hh k2;exact zBn
  .have k1':decide (0<=mD)=false:=kD k1;clear hh k1;exact zBn
 .clear hh;exact zBn
theorem aEv{w:WA}{t:Nat->Bool}(h:aU w P id n (bA t n) g b fz)(k:Nat)(hn:n<=16)(hf:fz=false)(hk:k<n)(hid:(k:Int)≠id):
  Calls prog 153 #[pP P,iI k,iI 0] w λe w'=>e=rT (tU #[])/\aU w' P id n (bA (λj=>if j=k then false else t j) n) g b false/\aW P P w w':=zGv
theorem aEw{w:WA}{t:Nat->Bool}(h:aU w P id n (bA t n) g b fz)(k:Nat)(hn:n<=16)(hf:fz=false)(hk:k<n)(hid:(k:Int)≠id)(hg0:0<=g)(hg:g<=4611686018427387904):
  Calls prog 153 #[pP P,iI k,iI 1] w λe w'=>e=rT (tU #[])/\aU w' P id n (bA (λj=>if j=k then true else t j) n) (g+1) b false/\aW P P w w':=zKn
theorem aEx{w:WA}{t:Nat->Bool}(h:aU w P id n (bA t n) g b fz)(k:Nat)(hn:n<=16)(hf:fz=false)(hk:k<n)(hid:(k:Int)≠id)(hb0:0<=b)(hb:b<=4611686018427387904):
  Calls prog 153 #[pP P,iI k,iI 2] w λe w'=>e=rT (tU #[])/\aU w' P id n (bA (λj=>if j=k then false else t j) n) g (b+1) false/\aW P P w w':=have m28:=0;zGv
theorem aHm{w:WA}{t:Nat->Bool}(h:aU w P id n (bA t n) g b fz)(k:Nat)(dR:Int)(hn:n<=16)(hf:fz=false)(hk:k<n)(hid:(k:Int)≠id)(h0:0<=dR)(h2:dR<=2)(hg0:0<=g)(hg:g<=4611686018427387904)(hb0:0<=b)(hb:b<=4611686018427387904):
  Calls prog 153 #[pP P,iI k,iI dR] w λe w'=>e=rT (tU #[])/\aU w' P id n (bA (λj=>if j=k then decide (dR=1)else t j) n) (if dR=1 then g+1 else g) (if dR=2 then b+1 else b) false/\aW P P w w':=by
 have hc:dR=0\/dR=1\/dR=2:=od;rcases hc with rfl|rfl|rfl
 .exact aEv h k hn hf hk hid
 .exact aEw h k hn hf hk hid hg0 hg
 .exact aEx h k hn hf hk hid hb0 hb
end
def aX(x:Int)(j:Nat):Bool:=decide (x/2^j%2=1)
structure aP where
 AA:Int
 aG:Int
 aM:Int
 aC:Int
 aJ:Int
 round:Int
 frame:Int
 ns:Nat
 nl:Nat
 nw:Nat
 nd:Nat->Int
 fr:Nat->Int
 td:Nat->Int
 lf:Nat->Int
 lt:Nat->Int
 lb:Nat->Int
 lq:Nat->Int
 wp:Nat->Int
 wf:Nat->Int
 wt:Nat->Int
def aP.n(p:aP):Nat:=p.AA.toNat
def aP.Is(p:aP)(E I:Int):Prop:=
 jQ p.AA p.aG p.aM p.aC p.aJ p.round p.frame p.ns p.nl p.nw p.nd p.fr p.td p.lf p.lt p.lb p.lq (λj=>aX (p.lt j) (p.lf j).toNat) (2^p.AA.toNat) p.wp p.wf p.wt E I
def aP.S(p:aP):nP where
 n:=p.n
 round:=p.round
 ns:=p.ns
 nd:=λi=>(p.nd i).toNat
 fr:=p.fr
 nl:=p.nl
 lf:=λk=>(p.lf k).toNat
 lt:=λk j=>aX (p.lt k) j
 lb:=p.lb
structure cB where
 nL:Nat
 ls:Nat->Int
 lc:Nat->Int
 lt:Nat->Int
 nR:Nat
 rn:Nat->Int
 ro:Nat->Int
 ri:Nat->Int
 bP:List Int
 lE:List Int
def cB.reads(r:cB):List zO:=(List.range r.nR).map λi=>⟨r.rn i,r.ro i,r.ri i⟩
def cB.hap(r:cB)(fa:Int):qL where
 lies:=aX fa
 mode:=λj=>if j<r.lE.length then r.lE.getD j 0 else 0
 lost:=λi c j=>(List.range r.nL).any λx=>decide (r.ls x=i)&&(decide (r.lc x=c)&&aX (r.lt x) j)
def cB.none:cB:=⟨0,λ_=>0,λ_=>0,λ_=>0,0,λ_=>0,λ_=>0,λ_=>0,[],[]⟩
def pV(p:aP)(fa:Int)(cs:List Int)(r:cB):List Int:=(List.range p.n).map (gQ p.n p.aG.toNat (aX fa) p.aC p.aJ (λi=>cs.getD i 0) r.reads r.bP)
def pU(p:aP)(fa:Int)(cs:List Int)(r:cB):Bool:=zS p.n (gQ p.n p.aG.toNat (aX fa) p.aC p.aJ (λi=>cs.getD i 0) r.reads r.bP)
def aMk(p:aP)(fa:Int)(s:cJ)(rd:Int)(r:cB):cJ:=s.mP p.S (r.hap fa) rd p.ns
def eF(l:List Int):Int:=l.foldl max (l.headD 0)-l.foldl min (l.headD 0)
def fG(fa:Int)(cs:List Int):List Int:=((List.range cs.length).filter λi=>!aX fa i).map λi=>cs.getD i 0
def cJ.start:cJ where
 AA:=λ_=>⟨λ_=>true,1,0,false⟩
 aK:=λ_=>⟨[],0,0,0⟩
 aV:=λ_ _=>-1
 aT:=λ_ _=>[]
def xK(p:aP)(fa:Int)(cs:List Int)(K I:Int):Prop:=
 (∃E,p.Is E I/\E≠0/\K=E)\/
 (p.Is 0 (-1)/\I=-1/\
  ((¬(0<=fa/\fa<2^p.n/\(List.range p.n).countP (aX fa)<=p.aG.toNat)/\K=1)\/
   ((0<=fa/\fa<2^p.n/\(List.range p.n).countP (aX fa)<=p.aG.toNat)/\
    ((cs.length≠p.n/\K=7)\/
    (cs.length=p.n/\
     ((¬((∀c∈cs,-274877906944<=c/\c<=274877906944)/\eF (fG fa cs)<=p.aM)/\K=2)\/
      (((∀c∈cs,-274877906944<=c/\c<=274877906944)/\eF (fG fa cs)<=p.aM)/\K=0)))))))
structure zM(p:aP)(fa:Int)(cs:List Int):Prop where
 aO:p.Is 0 (-1)
 f0:0<=fa
 f1:fa<2^p.n
 fc:(List.range p.n).countP (aX fa)<=p.aG.toNat
 len:cs.length=p.n
 inn:∀c∈cs,-274877906944<=c/\c<=274877906944
 bCh:eF (fG fa cs)<=p.aM
theorem xK.ok{p:aP}{fa:Int}{cs:List Int}{I:Int}(h:xK p fa cs 0 I):zM p fa cs:=by
 rcases h with⟨E,_,h1,h2⟩|⟨h0,_,h⟩
 .exact absurd h2.symm h1
 .rcases h with⟨_,h⟩|⟨h1,h⟩
  .cases h
  .rcases h with⟨_,h⟩|⟨h2,h⟩
   .cases h
   .rcases h with⟨_,h⟩|⟨h3,_⟩
    .cases h
    .exact⟨h0,h1.1,h1.2.1,h1.2.2,h2,h3.1,h3.2⟩
structure aFx(p:aP):Prop where
 n1:1<=p.AA
 n2:p.AA<=16
 f0:0<=p.aG
 f3:p.aG*3+1<=p.AA
 s0:0<=p.aM
 s1:p.aM<=137438953472
 j0:0<=p.aC
 j1:p.aC<=137438953472
 d0:0<=p.aJ
 d1:p.aJ<=137438953472
 r0:1<=p.round
 r1:p.round<=137438953472
 ns:p.ns<=32
 nl:p.nl<=8
 sk:p.aM/2+p.aC*2+p.aJ*2+1<=p.aM
 slot:∀i,i<p.ns->(0<=p.nd i/\p.nd i<p.AA)/\0<=p.fr i/\p.fr i<=p.round
 link:∀k,k<p.nl->(0<=p.lf k/\p.lf k<p.AA)/\(1<=p.lt k/\p.lt k<2^p.n)/\(1<=p.lb k/\p.lb k<=137438953472)/\1<=p.lq k/\p.lq k<=16
theorem aP.Is.bounds{p:aP}{I:Int}(h:p.Is 0 I):aFx p:=by
 unfold aP.Is jQ at h;rcases h with⟨h1,h2,_⟩|⟨h0,e1,i1,e2,i2,e3,i3,F1,F2,F3,R⟩
 .exact absurd h2.symm h1
 .have z1:e1=0:=by
   by_cases q:e1=0
   .exact q
   .exact absurd (R.1 q).1.symm q
  have z2:e2=0:=by
   by_cases q:e2=0
   .exact q
   .exact absurd (R.2.1 z1 q).1.symm q
  subst z1 z2;have g1:∀j,j<p.ns->fW p.nd p.fr p.td p.AA p.aM p.round j=0:=by
   rcases F1 with⟨h,_⟩|⟨_,_,_,_,h,_⟩
   .exact h
   .exact absurd rfl h
  have g2:∀j,j<p.nl->cN p.lf p.lt p.lb p.lq (λj=>aX (p.lt j) (p.lf j).toNat) p.AA (2^p.AA.toNat) j=0:=by
   rcases F2 with⟨h,_⟩|⟨_,_,_,_,h,_⟩
   .exact h
   .exact absurd rfl h
  unfold bZ at h0;by_cases a1:p.AA<1\/16<p.AA\/p.aG<0\/p.AA<p.aG*3+1
  .rw[kK a1]at h0;cases h0
  rw[kJ a1]at h0;by_cases a2:p.aM<0\/137438953472<p.aM\/p.aC<0\/137438953472<p.aC\/p.aJ<0\/137438953472<p.aJ
  .rw[kK a2]at h0;cases h0
  rw[kJ a2]at h0;by_cases a3:p.round<1\/137438953472<p.round\/p.frame<1\/137438953472<p.frame
  .rw[kK a3]at h0;cases h0
  rw[kJ a3]at h0;by_cases a4:32<p.ns\/8<p.nl\/32<p.nw
  .rw[kK a4]at h0;cases h0
  rw[kJ a4]at h0;by_cases a5:p.aM<p.aM/2+p.aC*2+p.aJ*2+1
  .rw[kK a5]at h0;cases h0
  have hup:=aAw (show 0<=p.aM by omega) g1;refine⟨od,od,od,od,od,od,od,od,od,od,od,od,od,od,od,λi hi=>?_,λk hk=>?_⟩
  .have:=hup i hi;have:=uD (g1 i hi);exact⟨⟨od,od⟩,od,od⟩
  .have h:=g2 k hk;unfold cN at h;by_cases b1:p.lf k<0\/p.AA-1<p.lf k
   .rw[kK b1]at h;cases h
   rw[kJ b1]at h;by_cases b2:p.lt k<1\/2^p.AA.toNat-1<p.lt k\/aX (p.lt k) (p.lf k).toNat=true
   .rw[kK b2]at h;cases h
   rw[kJ b2]at h;by_cases b3:(p.lb k<1\/137438953472<p.lb k)\/p.lq k<1\/16<p.lq k
   .rw[kK b3]at h;cases h
   have e:(2:Int)^p.n=2^p.AA.toNat:=rfl;rw[e];generalize(2:Int)^p.AA.toNat=PW at *;exact⟨⟨od,od⟩,⟨od,od⟩,⟨od,od⟩,od,od⟩
