import Derived.Test.YtknimkfdnanejaaGreatDoorProg
import Derived.Test.YtknimkfdnanejaaGreatDoorZW0
import Derived.Lib.AppendStr
namespace Go.Proofs.YtknimkfdnanejaaGreatDoor
open Go.Proofs.Tryz
set_option maxRecDepth 100000
set_option maxHeartbeats 16000000
theorem M7{P:Program}(w:World)(base:Nat)(t u ty e:TypeId)(i:TypeInfo)(ht:P.underlying t=some (.slice e))(hu:P.underlying u=some .string)(hi:P.info? e=some i)(hz:i.zero=some (.int .u8 0))
  (aCl:i.size=1)(hby:i.bytes=1)(v:Value)(n:Nat)(xs:List Value)(bK:w.ownsRow base e 1 v n xs)(s:ByteArray)
  (h63:n+s.size<=maxLen)(aE8:n+s.size<=140737488355328)(qV:base<=w.heap.size):
  ∃v' w',(Builtin.append_ #[t,u] ty #[v,sT s]).run P w=.ok v' w'/\w'.ownsRow base e 1 v' (n+s.size) (xs++Lib.strCells s)/\w.grownBy w' v.ownBlock/\
   (∃ao cap,v'=sV ao (n+s.size) cap)/\∀g,v'.ownBlock=some g->v.ownBlock=some g\/w.heap.size<=g:=by
 have bK2:n+s.size<=9223372036854775807:=by simp only[maxLen]at h63;omega
 have hxl:xs.length=n:=by simpa using bK.1
 obtain⟨v',w',hr,h1,h2,_⟩:=Lib.run_append_own_string (P:=P) w base t u ty e i ht hu hi hz aCl hby v n xs bK s h63 aE8 qV;refine⟨v',w',hr,h1,h2,?_,?_⟩
 ·rcases h1.2 with⟨q,q2⟩|⟨g,cap,cur,q,_⟩
  ·exact⟨none,0,by rw[q,q2]⟩
  ·exact⟨_,cap,q⟩
 ·intro g hg;rcases bK.2 with⟨rfl,rfl⟩|⟨g0,cap,cur,rfl,hbg,hg0,hnc,hcm,hcs,bN9⟩
  ·have hx:xs=[]:=List.eq_nil_of_length_eq_zero hxl;subst hx;obtain⟨v2,w2,pE,k1,_,_⟩:=Lib.run_append_own_string (P:=P) w w.heap.size t u ty e i ht hu hi hz aCl hby (sV none 0 0) 0 [] (World.ownsRow_nil w _ e 1) s h63 aE8 (kF _);rw[hr]at pE;injection pE with q1 q2;subst q1 q2;exact .inr (k1.lt g hg).1
  ·by_cases bFx:n+s.size<=cap
   ·have bNp:cur.size=cap:=by simpa using hcs
    have pE:=Lib.run_append_room_string (P:=P) w t u ty e i ht hu hi aCl g0 n cap cur hg0 s bFx od;rw[hr]at pE;injection pE with q1 q2;rw[q1]at hg;exact .inl hg
   ·have holds:∀j u,xs[j]?=some u->w.cell? (((aA g0 0):Addr).add j)=some u:=bK.cells (g:=g0) rfl;have pE:=Lib.run_append_grow_string (P:=P) w t u ty e i (.int .u8 0) ht hu hi hz (aA g0 0) n cap xs (by rw[aCl];simpa using hxl) holds s od od (by rw[hby];exact growslice_fits od od);rw[hr]at pE;injection pE with q1 q2;rw[q1]at hg;cases hg;exact .inr (kF _)
theorem wQ{P:Program}{w:World}{sX:Array Oper}{rest:List Oper}{o:Oper}{a:Act}{Q:Exit->Act->World->Prop}(hgd:o.guard=none)(sl x:Operand)(t u:TypeId)
  (ho:o.op=.call { callee:=.builtin .append,args:=#[sl,x],argTypes:=#[t,u] })
  (base:Nat)(e:TypeId)(i:TypeInfo)(ht:P.underlying t=some (.slice e))(hu:P.underlying u=some .string)(hi:P.info? e=some i)(hz:i.zero=some (.int .u8 0))
  (aCl:i.size=1)(hby:i.bytes=1)
  (v:Value)(n:Nat)(xs:List Value)(hs:a.eval sl=v)(bK:w.ownsRow base e 1 v n xs)(s:ByteArray)(hx:a.eval x=sT s)
  (h63:n+s.size<=maxLen)(aE8:n+s.size<=140737488355328)(qV:base<=w.heap.size)
  (h:∀ao cap w',w'.ownsRow base e 1 (sV ao (n+s.size) cap) (n+s.size) (xs++Lib.strCells s)->w.grownBy w' v.ownBlock->(∀g,(Value.slice ao (n+s.size) cap).ownBlock=some g->v.ownBlock=some g\/w.heap.size<=g)->wpList P sX Q rest (a.put o.dst (sV ao (n+s.size) cap)) w'):wpList P sX Q (o::rest) a w:=by refine wpList_plain hgd fun K hK=>?_;obtain⟨v',w',hr,h2,h3,⟨ao,cap,rfl⟩,h4⟩:=M7 (P:=P) w base t u o.type e i ht hu hi hz aCl hby v n xs bK s h63 aE8 qV;exact zL1
