import Derived.Below
import GoSem.Claim
namespace Go.Proofs.YtknimkfdnanejaaGreatDoor
open Go.RowKit
abbrev aA (b i:Nat):Addr:=⟨b,i,none⟩
abbrev iI (x:Int):Value:=.int .i64 x
abbrev pP (b:Nat):Value:=.pointer (some ⟨b,0,none⟩)
abbrev sL (b n c:Nat):Value:=.slice (some ⟨b,0,none⟩) n c
abbrev bW (w u:World):Prop:=Below w.heap.size w u
abbrev sT (b:ByteArray):Value:=.string b
abbrev rT (v:Value):Ending:=.returned v
abbrev sV (a:Option Addr) (n c:Nat):Value:=.slice a n c

abbrev tU (a:Array Value):Value:=.tuple a
theorem bc {n:Nat} {w u:World} {b i:Nat} {v:Value} (h:Below n w u) (hl:b<n) (e:w.cell? ⟨b,i,none⟩=some v):u.cell? ⟨b,i,none⟩=some v:=(h.cell (p:=⟨b,i,none⟩) hl).trans e
theorem kB {a b c:Nat} (h:a<b) (k:b<=c):a<c:=Nat.lt_of_lt_of_le h k
theorem kC {p:Prop} [Decidable p] (h:¬p):decide p=false:=decide_eq_false h
theorem kD {p:Prop} [Decidable p] (h:p):decide p=true:=decide_eq_true h
theorem kF (n:Nat):n<=n:=Nat.le_refl n
theorem kG {a b c:Nat} (h:a<=b) (k:b<=c):a<=c:=Nat.le_trans h k
theorem kH (n:Nat):0<=n:=Nat.zero_le n
theorem kI {c:Prop} {i:Decidable c} (h:¬c) {α:Type} {t e:α}:ite c t e=e:=if_neg h
theorem kJ {c:Prop} {i:Decidable c} (h:c) {α:Type} {t e:α}:ite c t e=t:=if_pos h
theorem kK {α:Type} {a:α} {s t:List α} (h:a∈s\/a∈t):a∈s++t:=List.mem_append.2 h
theorem kL {α:Type} {a:α} {s t:List α} (h:a∈s++t):a∈s\/a∈t:=List.mem_append.1 h
theorem kM {α:Type} {a b:α} {l:List α} (h:a=b\/a∈l):a∈b::l:=List.mem_cons.2 h
theorem kN {α:Type} {a b:α} {l:List α} (h:a∈b::l):a=b\/a∈l:=List.mem_cons.1 h
theorem kO {α:Type} {a:α} (y:α) {l:List α} (h:a∈l):a∈y::l:=List.mem_cons_of_mem y h
theorem kQ {α:Type} {a:α} {l:List α}:a∈a::l:=List.mem_cons_self
theorem kR (n:Nat):n<=n+1:=Nat.le_succ n
theorem kT (n:Nat):¬n<0:=Nat.not_lt_zero n
theorem kU (n:Nat):¬n<n:=Nat.lt_irrefl n
theorem kV {n m:Nat} (h:n<m):n<=m:=Nat.le_of_lt h
theorem kW {α:Type} {a b:α} (h:some a=some b):a=b:=Option.some.inj h
theorem kX (B:Nat) (w:World):Below B w w:=Below.refl B w
end Go.Proofs.YtknimkfdnanejaaGreatDoor
