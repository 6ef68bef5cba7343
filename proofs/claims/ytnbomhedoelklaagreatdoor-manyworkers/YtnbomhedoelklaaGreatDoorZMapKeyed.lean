import Derived.Test.YtnbomhedoelklaaGreatDoorZT1
import Derived.DeepKeys5
namespace Go.Proofs.YtnbomhedoelklaaGreatDoor
open Go.RowKit
set_option maxRecDepth 99999
set_option maxHeartbeats 0
open Go.Maps (Keyed)
def pQ(P:WJ)(k:WI)(w:WA)(b:Nat)(f:WB->Option WB):Prop:=
 ∃(es:Array MapEntry)(clock:Nat),w.1[b]?=some (.map es clock)/\(∀(i:Nat)(e:MapEntry),es[i]?=some e->∃l,keyOf P k e.key=some l)/\(∀(i j:Nat)(a c:MapEntry),es[i]?=some a->es[j]?=some c->a.key=c.key->i=j)/\∀x v,f x=some v↔∃(i:Nat)(e:MapEntry),es[i]?=some e/\e.key=x/\e.val=v
def aWi(f:WB->Option WB)(x v:WB)(f':WB->Option WB):Prop:=f' x=some v/\∀y,y≠x->f' y=f y
theorem aWi.any(f:WB->Option WB)(x v:WB):∃f',aWi f x v f':=by
 classical
 exact⟨λy=>if y=x then some v else f y,kK rfl,λy h=>kJ h⟩
section
variable{P:WJ}{k t e:WI}{w:WA}{b:Nat}{f:WB->Option WB}
theorem pQ.new(P:WJ)(k:WI)(w:WA):pQ P k (w.alloc (.map #[] 0)) w.1.size (λ_=>none):=by refine⟨#[],0,heap_alloc_new w _,λi e he=>(by simp at he),λi j a c h=>(by simp at h),λx v=>⟨λh=>Oa,?_⟩⟩;rintro⟨i,e,he,_⟩;simp at he
theorem pQ.lt(h:pQ P k w b f):b<w.1.size:=by obtain⟨es,clock,hb,_⟩:=h;exact(kZ hb).1
theorem pQ.keep{w':WA}(h:pQ P k w b f)(e:w'.1[b]?=w.1[b]?):pQ P k w' b f:=by obtain⟨es,clock,hb,r⟩:=h;exact⟨es,clock,e.trans hb,r⟩
theorem pQ.look(h:pQ P k w b f)(K:Keyed P k)(ht:P.underlying t=some (.map k e)){z:WB}(hz:(zeroValue e).run P w=.ok z w){x:WB}{lx:Lit}(hx:keyOf P k x=some lx)(c:Bool):
  (Instr.lookup t (.map (some b)) x c).run P w=.ok (if c then tU #[(f x).getD z,.bool (f x).isSome]else(f x).getD z) w:=zHy
theorem pQ.put(h:pQ P k w b f)(K:Keyed P k)(ht:P.underlying t=some (.map k e)){x v:WB}{lx:Lit}(hx:keyOf P k x=some lx):
  ∃w' f',(Instr.mapUpdate t (.map (some b)) x v).run P w=.ok () w'/\pQ P k w' b f'/\aWi f x v f'/\aW b b w w':=by have hlt:=h.lt;obtain⟨f',hpf⟩:=aWi.any f x v;have m67:=0;exact zHy
end
