import Derived.Below
import GoSem.Claim
namespace Go.Proofs.YtnbomhedoelklaaGreatDoor
open Go.RowKit
abbrev aA (b i:Nat):Addr:=⟨b,i,none⟩
abbrev iI (x:Int):Value:=.int .i64 x
abbrev pP (b:Nat):Value:=.pointer (some ⟨b,0,none⟩)
abbrev sL (b n c:Nat):Value:=.slice (some ⟨b,0,none⟩) n c
abbrev bW (w u:World):Prop:=Below w.heap.size w u
abbrev sT (b:ByteArray):Value:=.string b
abbrev rT (v:Value):Ending:=.returned v
abbrev sV (a:Option Addr) (n c:Nat):Value:=.slice a n c

abbrev tU (a:Array Value):Value:=.tuple a
theorem bc {n:Nat} {w u:World} {b i:Nat} {v:Value} (h:Below n w u) (hl:b<n) (e:w.cell? ⟨b,i,none⟩=some v):u.cell? ⟨b,i,none⟩=some v:=(h.cell (p:=⟨b,i,none⟩) hl).trans e
theorem kC {a b c:Nat} (h:a<b) (k:b<=c):a<c:=Nat.lt_of_lt_of_le h k
theorem kD {p:Prop} [Decidable p] (h:¬p):decide p=false:=decide_eq_false h
theorem kF {p:Prop} [Decidable p] (h:p):decide p=true:=decide_eq_true h
theorem kG (n:Nat):n<=n:=Nat.le_refl n
theorem kH {a b c:Nat} (h:a<=b) (k:b<=c):a<=c:=Nat.le_trans h k
theorem kI (n:Nat):0<=n:=Nat.zero_le n
theorem kJ {c:Prop} {i:Decidable c} (h:¬c) {α:Type} {t e:α}:ite c t e=e:=if_neg h
theorem kK {c:Prop} {i:Decidable c} (h:c) {α:Type} {t e:α}:ite c t e=t:=if_pos h
theorem kL {α:Type} {a:α} {s t:List α} (h:a∈s\/a∈t):a∈s++t:=List.mem_append.2 h
theorem kN {α:Type} {a:α} {s t:List α} (h:a∈s++t):a∈s\/a∈t:=List.mem_append.1 h
theorem kO {α:Type} {a b:α} {l:List α} (h:a=b\/a∈l):a∈b::l:=List.mem_cons.2 h
theorem kQ {α:Type} {a b:α} {l:List α} (h:a∈b::l):a=b\/a∈l:=List.mem_cons.1 h
theorem kR {α:Type} {a:α} (y:α) {l:List α} (h:a∈l):a∈y::l:=List.mem_cons_of_mem y h
theorem kT {α:Type} {a:α} {l:List α}:a∈a::l:=List.mem_cons_self
theorem kU (n:Nat):n<=n+1:=Nat.le_succ n
theorem kV (n:Nat):¬n<0:=Nat.not_lt_zero n
theorem kW (n:Nat):¬n<n:=Nat.lt_irrefl n
theorem kX {n m:Nat} (h:n<m):n<=m:=Nat.le_of_lt h
theorem kY {α:Type} {a b:α} (h:some a=some b):a=b:=Option.some.inj h
theorem kZ {α:Type} {xs:Array α} {i:Nat} {b:α} (h:xs[i]? = some b):∃ h:i<xs.size,xs[i]=b:=Array.getElem?_eq_some_iff.1 h
theorem jA {α β:Type} {a b:α} (f:α->β) (h:a=b):f a=f b:=congrArg f h
theorem jB (a b:Nat):a<b\/a≥b:=Nat.lt_or_ge a b
theorem jC {w w':World} {a:Addr} (h:w'.heap[a.block]? = w.heap[a.block]?):w'.cell? a=w.cell? a:=World.cell?_of_block h
theorem jD (B:Nat) (w:World):Below B w w:=Below.refl B w
abbrev WA:=World
abbrev WB:=Value
abbrev WC:=Goroutine
abbrev WG:=ByteArray
abbrev WI:=TypeId
abbrev WJ:=Program
abbrev WK:=Frame
abbrev WN:=Nat→Nat
abbrev WO:=Trace
abbrev WQ:=Oper
abbrev WT:=Addr
theorem AH{α β:Type}{a:α}{f:α->β}:(some a).map f=some (f a):=rfl
theorem AI{α:Type}{a b:α}:(some a=some b)=(a=b):=Option.some.injEq a b
theorem AJ{α:Type}{a b:α}:(some a).getD b=a:=rfl
theorem AK(a b:Bool):((a&&b)=true)=(a=true/\b=true):=Bool.and_eq_true a b
theorem AN{α:Type}{xs:Array α}{i j:Nat}(h:i≠j){a:α}:(xs.setIfInBounds i a)[j]? = xs[j]?:=Array.getElem?_setIfInBounds_ne h
theorem AO{α:Type}{xs:Array α}{i:Nat}{a:α}(h:i<xs.size):(xs.setIfInBounds i a)[i]? = some a:=Array.getElem?_setIfInBounds_self_of_lt h
theorem AP{α β:Type}{xs:Array α}{f g:α->β}(h:∀a∈xs,f a=g a):xs.map f=xs.map g:=Array.map_congr_left h
theorem AQ{α β:Type}{x:Option α}{f:α->β}{b:β}(h:x.map f=some b):∃a,x=some a/\f a=b:=Option.map_eq_some_iff.1 h
theorem AS{α:Type}{xs:Array α}{i:Nat}{a:α}(e:xs[i]? = some a):a∈xs:=Array.mem_of_getElem? e
theorem AT{α:Type}{l:List α}{i:Nat}(h:i<l.length):l[i]? = some l[i]:=List.getElem?_eq_getElem h
abbrev AU:=ByteArray.empty
end Go.Proofs.YtnbomhedoelklaaGreatDoor
