import Derived.Test.YtnbomhedoelklaaGreatDoorZT5
namespace Go.Proofs.YtnbomhedoelklaaGreatDoor
set_option maxRecDepth 99999
set_option maxHeartbeats 0
open Go.Extern.Rtype
variable{a a':WT}{v v':WB}
def Pp{α:Type}(P:WJ)(R:α->Prop):Sem α->Prop
 |.pure a=>R a
 |.choose _ k=>∀n,Pp P R (k n)
 |.program k=>Pp P R (k P)
 |.halt (.panic v)=>Sc Z0 Q0 v
 |.halt h=>Bad h
 |_=>False
theorem Pp.AF{α β:Type}{P:WJ}{R:α->Prop}{T:β->Prop}{f:α->Sem β}(hf:∀a,R a->Pp P T (f a)):∀(m:Sem α),Pp P R m->Pp P T (m>>=f)
 |.pure a,h=>hf a h
 |.choose q k,h=>λn=>Pp.AF hf (k n) (h n)
 |.program k,h=>Pp.AF hf (k P) h
 |.halt x,h=>by cases x<;>exact h
theorem Pp.rr{Y:Sy}{α:Type}{R:α->Prop}{A:α->α->Prop}(hA:∀a,R a->A a a):∀(m:Sem α),Pp Y.P R m->RR Y A m m
 |.pure a,h=>RR.pure (hA a h)
 |.choose q k,h=>RR.bind (m:=Go.choose q) (m':=Go.choose q) (k:=k) (k':=k) (RR.choose q) (by rintro n _ rfl;exact Pp.rr hA (k n) (h n))
 |.program k,h=>RR.bind (m:=Go.program) (m':=Go.program) (k:=k) (k':=k) RR.program (by rintro p _ ⟨rfl,rfl⟩;exact Pp.rr hA (k Y.P) h)
 |.halt x,h=>by cases x<;>first|exact RR.panic (VR.zero h)|exact RR.bad h
section
variable{P:WJ}{α:Type}{R:α->Prop}
theorem Pp.t{β:Type}{T:β->Prop}{f:α->Sem β}{m:Sem α}(h:Pp P T1 m)(hf:∀a,Pp P T (f a)):Pp P T (m>>=f):=Pp.AF (λa _=>hf a) _ h
theorem aHq(t:WI):Pp P T1 (typeInfo t):=by show Pp P T1 (match P.info? t with|some i=>_|none=>_);cases P.info? t<;>trivial
theorem bCs(t:WI):Pp P T1 (typeStr t):=(aHq t).t λi=>by dsimp only;split<;>trivial
theorem aUn(s:String):Pp P T1 (cutType s):=by show Pp P T1 (match P.cutTypes.find? (·.1==s)with|some (_,t)=>_|none=>_);cases P.cutTypes.find? (·.1==s)<;>trivial
theorem aHp(s:String)(t:WI):Pp P T1 (noPack s t):=by show Pp P T1 (if P.packed t then _ else _);split<;>trivial
theorem bI0(s:String)(t:WI):Pp P T1 (noPackNamed s t):=by show Pp P T1 (if P.namesPacked P.depth t then _ else _);split<;>trivial
theorem aCt(s:String)(t:WI):Pp P T1 (noPackMethods s t):=by show Pp P T1 (if P.methodsOfAPack P.depth t then _ else _);split<;>trivial
theorem aAg(t:WI):Pp P T1 (spelt t):=(bI0 _ t).t λ_=>bCs t
theorem sZ(t:WI):Pp P T1 (under t):=(aHq t).t λi=>by
 split
 .exact(aHq _).t λ_=>trivial
 .trivial
theorem U2(t:WI):Pp P T1 (kind t):=(sZ t).t λi=>by dsimp only;split<;>trivial
theorem aNd(t:WI):Pp P T1 (elem? t):=(sZ t).t λi=>by split<;>trivial
theorem aNe(t:WI):Pp P T1 (hasName t):=(aHq t).t λi=>by split<;>trivial
theorem U1(t v:WI):Pp P T1 (implements t v):=(aCt _ _).t λ_=>(aCt _ _).t λ_=>(sZ t).t λa=>(sZ v).t λb=>by
 split
 .trivial
 .exact(aHq _).t λ_=>trivial
 .trivial
theorem aUo(t v:WI):Pp P T1 (directlyAssignable t v):=by
 unfold directlyAssignable;split
 .trivial
 .refine(aNe _).t λa=>(aNe _).t λb=>?_;split
  .trivial
  .refine(sZ t).t λa=>(sZ v).t λb=>?_;dsimp only;split<;>trivial
theorem aNf(s:String):Pp P R (panicString s):=by show Sc Z0 Q0 (.iface P.rt.string (strVal s));simp[Sc,strVal]
theorem bHz(t v:WI):Pp P T1 (Extern.ReflectliteType.implements_ t v):=(U2 t).t λk=>by
 dsimp only;split
 .exact Pp.AF (R:=T1) (λ_ _=>(aCt _ _).t λ_=>(aHp _ _).t λ_=>U1 _ _) _ (aNf _)
 .exact(aCt _ _).t λ_=>(aHp _ _).t λ_=>U1 _ _
theorem bHy(t v:WI):Pp P T1 (Extern.ReflectliteType.assignableTo t v):=by
 have fin:Pp P T1 (directlyAssignable t v>>=λa=>implements t v>>=λb=>Pure.pure (a||b)):=(aUo t v).t λ_=>(U1 t v).t λ_=>trivial;unfold Extern.ReflectliteType.assignableTo;dsimp only;split
 .exact(aCt _ _).t λ_=>(aCt _ _).t λ_=>fin
 .exact fin
end
section
variable{Y:Sy}{α:Type}{A:α->α->Prop}
theorem Pp.eq{m:Sem α}(h:Pp Y.P T1 m):RR Y (λx x'=>x=x') m m:=Pp.rr (λ_ _=>rfl) m h
theorem dB.handleType(E:dB Y)(v:WB):handleType Y.P (rV Y.ρ v)=handleType Y.P v:=by
 cases v<;>simp only[rV,Go.handleType];rename_i p
 cases p with
 |none=>rfl
 |some a=>
  simp only[AH,rA]
  have:(Y.ρ a.block==Y.P.globals.size)=(a.block==Y.P.globals.size):=by
   conv=>lhs;rw[<-E.hI]
   exact r8 E _ _
  rw[this]
theorem dB.ofHandle(E:dB Y)(h:VR Y v v'):RR Y (λx x'=>x=x') (ofHandle v) (ofHandle v'):=by
 obtain⟨rfl,_⟩:=h;unfold Extern.Rtype.ofHandle;refine RR.AF RR.program ?_;rintro p _ ⟨rfl,rfl⟩;rw[E.handleType];split
 .exact zC0
 .exact J7
theorem dB.aXb(E:dB Y)(t:WI):VR Y (typeHandle Y.P t) (typeHandle Y.P t):=⟨by simp[typeHandle,rV,rA,E.hI],by simp only[typeHandle,Sc];rintro x ⟨⟩;exact .inl E.hS⟩
theorem dB.handle(E:dB Y)(t:WI):RR Y (VR Y) (Extern.Rtype.handle t) (Extern.Rtype.handle t):=by unfold Extern.Rtype.handle;refine RR.AF RR.program ?_;rintro p _ ⟨rfl,rfl⟩;exact RR.AG (E.aXb t)
theorem dB.toType(E:dB Y)(t:WI):RR Y (VR Y) (Extern.ReflectliteType.toType t) (Extern.ReflectliteType.toType t):=by unfold Extern.ReflectliteType.toType;refine RR.AF (aUn _).eq ?_;rintro c _ rfl;refine RR.AF (E.handle t) ?_;intro v v' hv;exact RR.AG (VR.iface (dF.agg (dF.one hv)))
theorem dB.ofRtype(E:dB Y)(h:VR Y v v'):RR Y (λx x'=>x=x') (Extern.ReflectliteType.ofRtype v) (Extern.ReflectliteType.ofRtype v'):=zIq
theorem dB.typeOf(E:dB Y):ExR Y Extern.ReflectliteType.typeOf:=by
 rintro args dV h
 by_cases hz:dV.size=1
 ·obtain⟨x,rfl⟩:=aEr hz
  obtain⟨rfl,hx⟩:=h.single
  cases x<;>try exact RR.stuck _
  ·rename_i t v
   have e:rV Y.ρ (.iface t v)=.iface t (rV Y.ρ v):=by simp only[rV]
   rw[e];exact E.toType t
  ·have e:rV Y.ρ .nilIface=.nilIface:=by simp only[rV]
   rw[e];exact RR.AG VR.lit
 ·obtain⟨l⟩:=dV
  rcases l with _|⟨a,_|⟨b,l⟩⟩
  ·exact RR.stuck _
  ·exact absurd rfl hz
  ·exact RR.stuck _
theorem aVs{l:Array WB}(h:l.size=3):∃a b c,l=#[a,b,c]:=by obtain⟨l⟩:=l;rcases l with _|⟨a,_|⟨b,_|⟨c,_|⟨d,l⟩⟩⟩⟩<;>simp at h;exact⟨a,b,c,rfl⟩
theorem dB.relation(E:dB Y)(s:String)(f:TypeId->TypeId->Sem Bool)(hf:∀t v,Pp Y.P T1 (f t v)):ExR Y (Extern.ReflectliteType.relation s f):=by
 rintro args dV h
 by_cases hz:dV.size=2
 ·obtain⟨x,y,rfl⟩:=aVv hz
  obtain⟨rfl,hx,hy⟩:=h.two
  cases y<;>try exact RR.stuck _
  ·rename_i t u
   have e:rV Y.ρ (.iface t u)=.iface t (rV Y.ρ u):=by simp only[rV]
   rw[e]
   simp only[Sc]at hy
   refine RR.AF (E.ofRtype ⟨rfl,hy⟩) ?_
   rintro a _ rfl
   refine RR.AF (E.ofRtype ⟨rfl,hx⟩) ?_
   rintro b _ rfl
   refine RR.AF (hf _ _).eq ?_
   rintro c _ rfl
   exact RR.AG VR.bool
  ·have e:rV Y.ρ .nilIface=.nilIface:=by simp only[rV]
   rw[e]
   exact Pp.rr (R:=fun _=>False) (fun _ h=>h.elim) _ (aNf _)
 ·obtain⟨l⟩:=dV
  rcases l with _|⟨a,_|⟨b,_|⟨c,l⟩⟩⟩
  ·exact RR.stuck _
  ·exact RR.stuck _
  ·exact absurd rfl hz
  ·exact RR.stuck _
theorem dB.aVh(E:dB Y)(f:WI->Sem WB)(hf:∀t,RR Y (VR Y) (f t) (f t)):ExR Y (Extern.ReflectliteType.method f):=zJa
theorem dB.abiMethod(E:dB Y)(f:WI->Sem WB)(hf:∀t,RR Y (VR Y) (f t) (f t)):ExR Y (Extern.ReflectliteType.abiMethod f):=have bK6:=0;zJa
theorem dB.bD7(E:dB Y)(t:WI):RR Y (VR Y) (Extern.ReflectliteType.elem t) (Extern.ReflectliteType.elem t):=by
 unfold Extern.ReflectliteType.elem;refine RR.AF (aNd t).eq ?_;rintro e _ rfl
 cases e with
 |some e=>exact E.toType e
 |none=>
  refine RR.AF (aAg t).eq ?_
  rintro s _ rfl
  exact Pp.rr (R:=λ_=>False) (λ_ h=>h.elim) _ (aNf _)
theorem aYs(t:WI):RR Y (VR Y) (do Pure.pure (Value.int .u8 (<-kind t))) (do Pure.pure (Value.int .u8 (<-kind t))):=by refine RR.AF (U2 t).eq ?_;rintro k _ rfl;exact RR.AG VR.int
theorem dB.mkV(E:dB Y)(t:WI)(h:AR Y a a')(f:Nat):RR Y (VR Y) (Extern.ReflectliteValue.mk t a f) (Extern.ReflectliteValue.mk t a' f):=by unfold Extern.ReflectliteValue.mk;refine RR.AF (E.handle t) ?_;intro v v' hv;refine RR.AF (U2 t).eq ?_;rintro k _ rfl;exact RR.AG (dF.agg (((dF.one hv).push h.ptr).push VR.int))
theorem dB.unpack(E:dB Y)(h:VR Y v v'):RR Y (VR Y) (Extern.ReflectliteValue.unpack v) (Extern.ReflectliteValue.unpack v'):=by
 obtain⟨rfl,hs⟩:=h;cases v'<;>try exact RR.stuck _
 .rename_i t u;have e:rV Y.ρ (.iface t u)=.iface t (rV Y.ρ u):=Oy;rw[e];simp only[Sc]at hs;refine RR.AF (RR.newVar t ⟨rfl,hs⟩) ?_;intro a a' ha;exact E.mkV t ha 0
 .have e:rV Y.ρ .nilIface=.nilIface:=by simp only[rV]
  rw[e];exact RR.AG (dF.agg (((dF.one VR.lit).push VR.lit).push VR.int))
theorem jW(m:String)(k:Nat):RR Y A (Extern.ReflectliteValue.valueError m k) (Extern.ReflectliteValue.valueError m k):=by unfold Extern.ReflectliteValue.valueError;refine RR.AF (aUn _).eq ?_;rintro t _ rfl;refine RR.AF (RR.elemOf t) ?_;rintro e _ rfl;refine RR.AF (RR.newVar e (dF.agg ((dF.one (VR.lit (by simp[strVal,Sc]))).push VR.int))) ?_;intro a a' ha;exact RR.goPanic ha.ptr.iface
theorem dB.partsAny(E:dB Y)(h:VR Y v v'):RR Y (λx x'=>(x=none/\x'=none)\/∃t a a' f,x=some (t,a,f)/\x'=some (t,a',f)/\AR Y a a') (Extern.ReflectliteValue.partsAny v) (Extern.ReflectliteValue.partsAny v'):=have m95:=0;zIq
theorem dB.parts(E:dB Y)(h:VR Y v v'):RR Y (λx x'=>(x=none/\x'=none)\/∃t a a' f,x=some (t,a,f)/\x'=some (t,a',f)/\AR Y a a') (Extern.ReflectliteValue.parts v) (Extern.ReflectliteValue.parts v'):=by
 unfold Extern.ReflectliteValue.parts;refine RR.AF (E.partsAny h) ?_;rintro _ _ (⟨rfl,rfl⟩|⟨t,a,a',f,rfl,rfl,ha⟩)
 .exact RR.AG (.inl ⟨rfl,rfl⟩)
 .refine RR.AF (aHp _ t).eq ?_;rintro _ _ _;exact RR.AG (.inr ⟨_,_,_,_,rfl,rfl,ha⟩)
theorem dB.U9(E:dB Y){z:Sem WB}(hz':RR Y (VR Y) z z){f:WI->WT->Nat->Nat->Sem WB}(hf:∀t a a' x y,AR Y a a'->RR Y (VR Y) (f t a x y) (f t a' x y)):ExR Y (Extern.ReflectliteValue.method z f)/\ExR Y (Extern.ReflectliteValue.methodAny z f):=by
 constructor;all_goals
  rintro args dV h
  by_cases hz:dV.size=1
  .obtain⟨x,rfl⟩:=aEr hz
   obtain⟨rfl,hx⟩:=h.single
   first
    |refine RR.AF (E.parts ⟨rfl,hx⟩) ?_
    |refine RR.AF (E.partsAny ⟨rfl,hx⟩) ?_
   rintro _ _ (⟨rfl,rfl⟩|⟨t,a,a',fl,rfl,rfl,ha⟩)
   .exact hz'
   .exact hf _ _ _ _ _ ha
  .obtain⟨l⟩:=dV
   rcases l with _|⟨a,_|⟨b,l⟩⟩
   .exact RR.stuck _
   .exact absurd rfl hz
   .exact RR.stuck _
theorem aYr(t:WI)(x k:Nat)(h:AR Y a a'):RR Y (VR Y) (Extern.ReflectliteValue.isNil t a x k) (Extern.ReflectliteValue.isNil t a' x k):=by
 unfold Extern.ReflectliteValue.isNil;dsimp only;split
 .exact zEc
 .refine RR.AF (RR.loadVar t h) ?_;rintro v v' ⟨rfl,hv⟩;clear hv;cases v'<;>simp only[rV];case pointer p=>cases p<;>exact RR.AG VR.bool
  case map p=>cases p<;>exact RR.AG VR.bool
  case chan p=>cases p<;>exact RR.AG VR.bool
  case slice p _ _=>cases p<;>exact RR.AG VR.bool
  all_goals exact RR.AG VR.bool
theorem dB.bIg(E:dB Y)(t:WI)(x k:Nat)(h:AR Y a a'):RR Y (VR Y) (Extern.ReflectliteValue.elem t a x k) (Extern.ReflectliteValue.elem t a' x k):=by
 unfold Extern.ReflectliteValue.elem;dsimp only;split
 .exact zEc
 .refine RR.AF (RR.loadVar t h) ?_;intro v v' hv;refine RR.AF (aNd t).eq ?_;rintro e _ rfl;by_cases h20:k=20
  .subst h20;exact E.unpack hv
  .by_cases h22:k=22
   .subst h22;obtain⟨rfl,hs⟩:=hv;cases v'<;>simp only[rV]<;>try exact jW _ _
    rename_i p
    cases p with
    |none=>exact RR.AG (dF.agg (((dF.one VR.lit).push VR.lit).push VR.int))
    |some b=>
     simp only[Sc]at hs
     cases e with
     |none=>exact jW _ _
     |some e=>exact E.mkV e ⟨rfl,hs b rfl⟩ _
   .rename_i hk;simp[h20,h22]at hk
theorem dB.bM9(E:dB Y):ExR Y Extern.ReflectliteValue.set:=by have fin:∀{m m':Sem Unit},RR Y (λ_ _=>True) m m'->RR Y (VR Y) (m>>=λ_=>Pure.pure (Value.tuple #[])) (m'>>=λ_=>Pure.pure (Value.tuple #[])):=λh=>RR.AF h λ_ _ _=>RR.AG (dF.tuple dF.nil);have bC2:=0;exact zJf
end
