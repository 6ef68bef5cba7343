import Derived.Test.YtooadfgibdjdeaaGreatDoorZAgreeRoundOk
import Derived.Test.YtooadfgibdjdeaaGreatDoorZR5
import Derived.Test.YtooadfgibdjdeaaGreatDoorZPCluR
import Derived.Deep.AppendSrc
import Derived.Deep.RegionWith
import Derived.Deep.Upon
import Derived.Maps.AppendAt
namespace Go.Proofs.YtooadfgibdjdeaaGreatDoor
open Go.RowKit
set_option maxRecDepth 100000
set_option maxHeartbeats 16000000
section
theorem tbox1 (w:World) (x:Value) (t:TypeId):(w.alloc (.cells #[x] t)).cell? ⟨w.heap.size,0,none⟩=some x:=by simp
theorem tbox2 (w:World) (x:Value) (t t':TypeId):((w.alloc (.cells #[x] t)).alloc (.cells #[] t')).cell? ⟨w.heap.size,0,none⟩=some x:=by rw [World.cell?_alloc_lt _ _ _ (by simp)];exact tbox1 ..
theorem owns_drewS {w:World} {base:Nat} {e:TypeId} {size:Nat} {v:Value} {n:Nat} {xs:List Value} (h:w.ownsRow base e size v n xs):w.drew.ownsRow base e size v n xs:=h
theorem texts_one (l:List ByteArray):∀ u∈l.map Value.string,u.oneCell'=true:=fun u hu=>by
 obtain ⟨x,_,rfl⟩:=List.mem_map.1 hu
 rfl
theorem run_appL {w:World} {base:Nat} {v xv:Value} {l x:List ByteArray} {X:List Nat} (ty:TypeId) (hown:w.ownsRow base 9 1 v l.length (l.map Value.string)) (hx:StrRow w X xv x) (hlen:l.length+x.length≤2000) (hbase:base≤w.heap.size) :
  ∃ v' w',(Builtin.append_ #[106,106] ty #[v,xv]).run Tryz.prog w=.ok v' w'∧w'.ownsRow base 9 1 v' (l ++ x).length ((l ++ x).map Value.string)∧w.grownBy w' v.ownBlock:=by
 obtain ⟨i0,hi,hz0,hz1,hz2⟩:=info_parts Tryz.infoStr
 obtain ⟨a,cap,rfl,_,_,hc⟩:=hx
 cases x with
 | nil =>
  obtain ⟨va,vc,rfl⟩:=owns_form hown
  have hcap:l.length≤vc:=by
   rcases hown.2 with ⟨e,h0⟩ | ⟨g,cap',cur,e,_,_,h4,h5,_⟩
   ·injection e;omega
   ·injection e;omega
  have hs:Src Tryz.prog i0.size 106 (.slice a 0 cap) 0 [] w:=by
   cases a with
   | none=>exact Src.ofNil w Tryz.underlying106 cap
   | some a=>exact Src.ofSlice w Tryz.underlying106 a 0 cap [] (by simp) (fun j u h=>by simp at h) (fun u h=>by cases h)
  refine ⟨_,w,run_append_nothing w _ _ _ _ i0 Tryz.underlying106 hi va l.length vc hcap _ hs,?_,?_⟩
  ·simp only [List.append_nil];exact hown
  ·exact World.grownBy.refl _ _
 | cons y ys =>
  obtain ⟨b,off,rfl,hbX,hbl,hcc⟩:=hc (by simp)
  obtain ⟨v',w',hr,h2,h3,_,h5⟩:=run_append_own_at (P:=Tryz.prog) w base 106 ty 9 i0 (.string ByteArray.empty) 1 16 Tryz.underlying106 hi hz0 hz1 hz2 rfl (by decide) v l.length (l.map Value.string) hown ⟨b,off,none⟩ (y::ys).length cap ((y::ys).map Value.string) (by simp) (fun j u hu=>by
   rw [add_at]
   rw [List.getElem?_map] at hu
   cases e:(y::ys)[j]? with
   | none=>rw [e] at hu;cases hu
   | some z =>
    rw [e] at hu
    have hj:j<(y::ys).length:=(List.getElem?_eq_some_iff.1 e).1
    have:=hcc j hj
    rw [List.getD_eq_getElem?_getD,e] at this
    rw [← Option.some.inj hu]
    exact this) (texts_one _) (by unfold maxLen;simp at hlen;simp;omega) (by simp at hlen;simp;omega) hbase
  refine ⟨v',w',hr,?_,h3⟩
  rw [List.length_append,List.map_append]
  exact h2
theorem run_appD {w:World} {base g:Nat} {v:Value} {l:List ByteArray} {d:ByteArray} (ty:TypeId) (hown:w.ownsRow base 9 1 v l.length (l.map Value.string)) (hd:w.cell? ⟨g,0,none⟩=some (.string d)) (hlen:l.length≤1000) (hbase:base≤w.heap.size) :
  ∃ v' w',(Builtin.append_ #[106,106] ty #[v,.slice (some ⟨g,0,none⟩) 1 1]).run Tryz.prog w=.ok v' w'∧w'.ownsRow base 9 1 v' (l ++ [d]).length ((l ++ [d]).map Value.string)∧w.grownBy w' v.ownBlock:=by
 have hl:g<w.heap.size:=lt_of_cell hd
 exact run_appL (X:=[g]) ty hown (x:=[d]) ⟨_,1,rfl,by simp,by decide,fun _=>⟨g,0,rfl,List.mem_singleton.2 rfl,hl,fun j hj=>by
  have:j=0:=by simp at hj;omega
  subst this
  exact hd⟩⟩ (by simp;omega) hbase
theorem step_run {ops:Array Oper} {o:Oper} {a:Act} {K:Act→World→Prop} {Q:Exit→Act→World→Prop} {E:Prop} {w:World} (hgd:o.guard=none) (s x:Operand) (t:TypeId) (ho:o.op=.call { callee:=.builtin .append,args:=#[s,x],argTypes:=#[t,t] }) (v xv:Value) (hs:a.eval s=v) (hx:a.eval x=xv) {P:Value→World→Prop}
  (hrun:∃ v' w',(Builtin.append_ #[t,t] o.type #[v,xv]).run Tryz.prog w=.ok v' w'∧P v' w') (h:∀ v' w',P v' w'→K (a.put o.dst v') w'):if Region.wanted o (yielded ops a.tmps)=true then Oper.wp Tryz.prog o a w K Q else E:=by
 have hw:Region.wanted o (yielded ops a.tmps)=true:=by simp [Region.wanted,hgd]
 rw [if_pos hw]
 obtain ⟨v',w',hr,hp⟩:=hrun
 unfold Oper.wp execOp
 simp only [ho,resolve,invoke,builtin,Sem.run_bind,Sem.run_pure,Result.andThen_ok,List.map_toArray,List.map_cons,List.map_nil,hs,hx,hr]
 exact h v' w' hp
section
variable {w:World} {O Z:List Nat} {C:Nat} {p:PlanN} {fa:Int} {cs:List Int} {s:ClS} {rd:Int} {B:Nat} {m:RMap}
theorem ports_end {k j:Nat} (hk:k<8) (hj:j<16) {PX:List Nat} {u:World} {v:Value} {d:ByteArray} (hP:PortsIs w PX m.pb s.ports) (hpb:m.pb∉PX) (hpl:∀ c,c∈PX→c<w.heap.size) (hlen:(s.ports k j).length<16)
  (hback:∀ (w':World) (PX':List Nat) (k j:Nat) (v:List ByteArray),PortsIs w' PX' m.pb (s.setPort k j v).ports→m.pb∉PX'→Foot (m.pb::PX) (m.pb::PX') w w'→(∀ c,c∈PX'→c<w'.heap.size)→v.length≤16→∃ O',Foot O O' w w'∧RCl w' O' Z C p fa cs (s.setPort k j v) rd B m)
  (hb:Below w.heap.size w u) (hown:u.ownsRow w.heap.size 9 1 v (s.ports k j ++ [d]).length ((s.ports k j ++ [d]).map Value.string)) :
  ∃ w3,(Instr.mapUpdate 62 (.map (some m.pb)) (.agg #[.int .i64 k,.int .i64 j]) v).run Tryz.prog u=.ok () w3∧Turns m.pb m.pb u w3∧∃ O',Foot O O' w w3∧RCl w3 O' Z C p fa cs (s.setPort k j (s.ports k j ++ [d])) rd B m:=by
 have hmb:m.pb<w.heap.size:=by
  obtain ⟨g,hg,_⟩:=hP
  exact hg.lt
 have hpos:0<(s.ports k j ++ [d]).length:=by simp
 obtain ⟨g,cap,rfl,hg,hgl⟩:=hown.form hpos
 have hP2:PortsIs u (g::PX) m.pb s.ports:=by
  obtain ⟨f,hf,hr⟩:=hP
  refine ⟨f,hf.keep (hb.block _ hmb),fun i' j' hi hj=>?_⟩
  rcases hr i' j' hi hj with q | ⟨v,q1,q2⟩
  ·exact .inl q
  ·exact .inr ⟨v,q1,q2.keep (Same.of_below hb hpl) (fun c hc=>List.mem_cons_of_mem _ hc)⟩
 have hpb2:m.pb∉g::PX:=fun e=>by
  rcases List.mem_cons.1 e with q | q
  ·omega
  ·exact hpb q
 have hcm:cap≤maxLen∧(s.ports k j ++ [d]).length≤cap:=by
  rcases hown.2 with ⟨e,h0⟩ | ⟨g',cap',cur,e,_,_,h4,h5,h6⟩
  ·cases e
  ·cases e;exact ⟨by omega,by omega⟩
 have hrow:StrRow u (g::PX) (.slice (some ⟨g,0,none⟩) (s.ports k j ++ [d]).length cap) (s.ports k j ++ [d]):=by
  refine ⟨_,cap,rfl,hcm.2,hcm.1,fun _=>⟨g,0,rfl,List.mem_cons_self,hgl,fun i hi=>?_⟩⟩
  have:=hown.cells (g:=g) rfl i (.string ((s.ports k j ++ [d]).getD i ByteArray.empty)) (by rw [List.getElem?_map,List.getD_eq_getElem?_getD,List.getElem?_eq_getElem hi];rfl)
  rw [add_at] at this
  exact this
 obtain ⟨w3,hrun,hP3,hT3⟩:=hP2.put hpb2 hk hj hrow
 refine ⟨w3,hrun,hT3,?_⟩
 refine hback w3 (g::PX) k j _ hP3 hpb2 ⟨hT3.os.trans hb.os,hT3.tape.trans hb.tape,hT3.output.trans hb.output,Nat.le_trans hb.size hT3.size,fun c hc hn=>?_,fun c hc=>?_⟩ (fun c hc=>?_) (by simp;omega)
 ·have h1:c≠m.pb:=fun e=>hn (e▸List.mem_cons_self)
  exact (hT3.block c (Nat.lt_of_lt_of_le hc hb.size) h1 h1).trans (hb.block c hc)
 ·rcases List.mem_cons.1 hc with rfl | q
  ·exact .inl List.mem_cons_self
  ·rcases List.mem_cons.1 q with rfl | q
   ·exact .inr hg
   ·exact .inl (List.mem_cons_of_mem _ q)
 ·rcases List.mem_cons.1 hc with rfl | q
  ·exact Nat.lt_of_lt_of_le hgl hT3.size
  ·exact Nat.lt_of_lt_of_le (hpl c q) (Nat.le_trans hb.size hT3.size)
def w_rp_store_0 (k:Nat):Bool:=(decide (414≤k) && decide (k≤426))
theorem rp_store (code:Code) (hcode:Tryz.f10.body.bind (regionIn 76)=some code) (Q:Exit→Act→World→Prop) (h:RCl w O Z C p fa cs s rd B m) (k j:Nat) (d:ByteArray) (la:Option Addr) (ll lcap:Nat) (hk:k<p.nl) (hj:j<p.n) (hnl:p.nl≤8) (hn:p.n≤16) (hv:(Instr.lookup 62 (.map (some m.pb)) (.agg #[.int .i64 k,.int .i64 j]) false).run Tryz.prog w=.ok (.slice la ll lcap) w) (hlen:(s.ports k j).length<16) {L:List Value} (hL0:L.length=452) (s0:L[0]? = some (.pointer (some ⟨C,0,none⟩))) (s27:L[27]? = some (.int .i64 k)) (s29:L[29]? = some (.string d)) (s35:L[35]? = some (.int .i64 j)) (s41:L[41]? = some (.slice la ll lcap))
  (hexit:∀ (L':List Value) (w3:World),(∃ O',Foot O O' w w3∧RCl w3 O' Z C p fa cs (s.setPort k j (s.ports k j ++ [d])) rd B m)→L'.length=452→Rest w_rp_store_0 L L'→Q .normal ⟨L'.toArray,[]⟩ w3) :
  Code.wp Tryz.prog code Q ⟨L.toArray,[]⟩ w:=by
 have hb2:(Tryz.f10.body.bind (regionIn 76)).getD Code.skip=code:=by rw [hcode];rfl
 obtain rfl:=hb2
 clear hcode
 conv=>arg 2;whnf
 have HEX:Hid _:=hexit
 obtain ⟨fL,rfl⟩:=lit L 452 hL0
 replace s0:=lit_at s0
 replace s27:=lit_at s27
 replace s29:=lit_at s29
 replace s35:=lit_at s35
 replace s41:=lit_at s41
 simp only [List.range,List.range.loop,List.map_cons,List.map_nil,s0,s27,s29,s35,s41]
 clear hexit
 have HH:Hid (RCl w O Z C p fa cs s rd B m):=h
 obtain ⟨PX,hP,hpb,hpl,_,hback⟩:=h.prt
 obtain ⟨v,hlook,hrow⟩:=hP.look (show k<8 by omega) (show j<16 by omega)
 have e:Value.slice la ll lcap=v:=by
  have:=hv.symm.trans hlook
  injection this
 subst e
 have HEND:Hid (∀ (u:World) (v:Value),Below w.heap.size w u→u.ownsRow w.heap.size 9 1 v (s.ports k j ++ [d]).length ((s.ports k j ++ [d]).map Value.string)→∃ w3,(Instr.mapUpdate 62 (.map (some m.pb)) (.agg #[.int .i64 k,.int .i64 j]) v).run Tryz.prog u=.ok () w3∧Turns m.pb m.pb u w3∧∃ O',Foot O O' w w3∧RCl w3 O' Z C p fa cs (s.setPort k j (s.ports k j ++ [d])) rd B m):=fun u v hb ho=>ports_end (show k<8 by omega) (show j<16 by omega) hP hpb hpl hlen hback hb ho
 have c15:=h.base.c15
 have lc:=h.base.lc
 have hne:=h.nepb
 have HA1:Hid (∀ (ty:TypeId) (u:World) (v:Value),Below w.heap.size w u→u.ownsRow w.heap.size 9 1 v 0 []→∃ v' w',(Builtin.append_ #[106,106] ty #[v,.slice la ll lcap]).run Tryz.prog u=.ok v' w'∧(w'.ownsRow w.heap.size 9 1 v' (s.ports k j).length ((s.ports k j).map Value.string)∧Below w.heap.size w w'∧u.grownBy w' v.ownBlock)):=fun ty u v hb ho=>by
  obtain ⟨v',w',h1,h2,h3⟩:=run_appL (l:=[]) (x:=s.ports k j) ty ho (hrow.keep (Same.of_below hb hpl) (fun _ h=>h)) (by simp;omega) hb.size
  rw [List.nil_append] at h2
  exact ⟨v',w',h1,h2,hb.grown h3 hb.size (fun g hg=>(ho.lt g hg).1),h3⟩
 have HA2:Hid (∀ (ty:TypeId) (u:World) (v:Value) (g:Nat),Below w.heap.size w u→u.ownsRow w.heap.size 9 1 v (s.ports k j).length ((s.ports k j).map Value.string)→u.cell? ⟨g,0,none⟩=some (.string d)→∃ v' w',(Builtin.append_ #[106,106] ty #[v,.slice (some ⟨g,0,none⟩) 1 1]).run Tryz.prog u=.ok v' w'∧(w'.cell? ⟨C,15,none⟩=some (.map (some m.pb))∧∃ w3,(Instr.mapUpdate 62 (.map (some m.pb)) (.agg #[.int .i64 k,.int .i64 j]) v').run Tryz.prog w'=.ok () w3∧w3.cell? ⟨C,15,none⟩=some (.map (some m.pb))∧∃ O',Foot O O' w w3∧RCl w3 O' Z C p fa cs (s.setPort k j (s.ports k j ++ [d])) rd B m)):=fun ty u v g hb ho hd=>by
  obtain ⟨v',w',h1,h2,h3⟩:=run_appD ty ho hd (by omega) hb.size
  have hb':Below w.heap.size w w':=hb.grown h3 hb.size (fun g hg=>(ho.lt g hg).1)
  obtain ⟨w3,q1,q2,q3⟩:=HEND.out w' v' hb' h2
  have y:w'.cell? ⟨C,15,none⟩=some (.map (some m.pb)):=keep_cell c15 hb'
  exact ⟨v',w',h1,y,w3,q1,(q2.cell (p:=⟨C,15,none⟩) (Nat.lt_of_lt_of_le lc hb'.size) hne hne).trans y,q3⟩
 have HB0:Hid (Below w.heap.size w w.drew):=(Below.refl _ _).drew
 have HBE:Hid (Below w.heap.size w ((w.alloc (.cells #[] 9)).alloc (.cells #[.string d] 9)).drew):=(((Below.refl _ w).alloc (Nat.le_refl _) _).alloc (by simp) _).drew
 have HBD:Hid (Below w.heap.size w ((w.alloc (.cells #[.string d] 9)).alloc (.cells #[] 9)).drew):=(((Below.refl _ w).alloc (Nat.le_refl _) _).alloc (by simp) _).drew
 have HYE:Hid (((w.alloc (.cells #[] 9)).alloc (.cells #[.string d] 9)).drew.cell? ⟨w.heap.size+1,0,none⟩=some (.string d)):=by
  show ((w.alloc (.cells #[] 9)).alloc (.cells #[.string d] 9)).cell? ⟨w.heap.size+1,0,none⟩=some (.string d)
  simp
 have HYD:Hid (((w.alloc (.cells #[.string d] 9)).alloc (.cells #[] 9)).drew.cell? ⟨w.heap.size,0,none⟩=some (.string d)):=tbox2 _ _ _ _
 have HLT1:Hid (w.heap.size+1<((w.alloc (.cells #[] 9)).alloc (.cells #[.string d] 9)).drew.heap.size):=by
  show w.heap.size+1<((w.alloc (.cells #[] 9)).alloc (.cells #[.string d] 9)).heap.size
  simp
 have HLT2:Hid (w.heap.size<((w.alloc (.cells #[.string d] 9)).alloc (.cells #[] 9)).drew.heap.size):=by
  show w.heap.size<((w.alloc (.cells #[.string d] 9)).alloc (.cells #[] 9)).heap.size
  simp;omega
 have HNE1:Hid (some (w.heap.size+1)≠(Value.slice (some ⟨w.heap.size,0,none⟩) 0 0).ownBlock):=fun e=>by
  have:w.heap.size+1=w.heap.size:=Option.some.inj e
  omega
 have HNE2:Hid (some w.heap.size≠(Value.slice (some ⟨w.heap.size+1,0,none⟩) 0 0).ownBlock):=fun e=>by
  have:w.heap.size=w.heap.size+1:=Option.some.inj e
  omega
 have HOD:Hid (((w.alloc (.cells #[.string d] 9)).alloc (.cells #[] 9)).drew.ownsRow w.heap.size 9 1 (.slice (some ⟨w.heap.size+1,0,none⟩) 0 0) 0 []):=by
  have h:=owns_row (w.alloc (.cells #[.string d] 9)) #[] 9 0 rfl (by decide) w.heap.size (by simp)
  rw [show (w.alloc (.cells #[.string d] 9)).heap.size=w.heap.size+1 by simp] at h
  exact h
 clear hP hback hrow hlook hv hpb hpl h hlen HEND
 go_region_held3 (fun u=>u.cell? ⟨C,15,none⟩=some (.map (some m.pb))) (go_keep) (first
  | (refine step_mapPut (by rfl) _ _ _ _ (by rfl) _ _ _ (by rfl) (by rfl) (by rfl) hrun3 ?_)
  | (refine step_run (by rfl) _ _ _ (by rfl) _ _ (by rfl) (by rfl) (HA2.out _ _ _ w1.heap.size (hb1.alloc hb1.size _) (ho1.alloc _) (tbox1 _ _ _)) ?_;rintro v2 w2 ⟨y15b,w3,hrun3,y15c,hfin⟩)
  | (refine step_run (by rfl) _ _ _ (by rfl) _ _ (by rfl) (by rfl) (HA2.out _ _ _ _ hb1 ho1 yD) ?_;rintro v2 w2 ⟨y15b,w3,hrun3,y15c,hfin⟩)
  | (refine step_run (by rfl) _ _ _ (by rfl) _ _ (by rfl) (by rfl) (HA1.out _ _ _ (HB0.out.alloc (Nat.le_refl _) _) (owns_row w.drew #[] 9 0 rfl (by decide) w.heap.size (Nat.le_refl _))) ?_;rintro v1 w1 ⟨ho1,hb1,hg1⟩;have y15a:w1.cell? ⟨C,15,none⟩=some (.map (some m.pb)):=keep_cell c15 hb1)
  | (refine step_run (by rfl) _ _ _ (by rfl) _ _ (by rfl) (by rfl) (HA1.out _ _ _ HBE.out (owns_drewS ((owns_row w #[] 9 0 rfl (by decide) w.heap.size (Nat.le_refl _)).alloc _))) ?_;rintro v1 w1 ⟨ho1,hb1,hg1⟩;have y15a:w1.cell? ⟨C,15,none⟩=some (.map (some m.pb)):=keep_cell c15 hb1;have yD:w1.cell? ⟨w.heap.size+1,0,none⟩=some (.string d):=(hg1.cell_far ⟨w.heap.size+1,0,none⟩ HLT1.out HNE1.out).trans HYE.out)
  | (refine step_run (by rfl) _ _ _ (by rfl) _ _ (by rfl) (by rfl) (HA1.out _ _ _ HBD.out HOD.out) ?_;rintro v1 w1 ⟨ho1,hb1,hg1⟩;have y15a:w1.cell? ⟨C,15,none⟩=some (.map (some m.pb)):=keep_cell c15 hb1;have yD:w1.cell? ⟨w.heap.size,0,none⟩=some (.string d):=(hg1.cell_far ⟨w.heap.size,0,none⟩ HLT2.out HNE2.out).trans HYD.out))
 all_goals exact HEX.out _ _ hfin rfl (Rest.of rfl)
end
end
section
open Go.RowKit Go.Shelf Go.Sort
theorem readAll_in {n:Nat} {lies:Nat→Bool} {jitter:Int} {now:Nat→Int} (hj0:0≤jitter) (hj1:jitter≤137438953472) (hnow:∀ i,i<n→-274877906944≤now i∧now i≤274877906944) (l:List ReadS):∀ i k,i<n→k<n→-1099511627776≤readAll n lies jitter now l i k∧readAll n lies jitter now l i k≤1099511627776:=by
 have key:∀ (l:List ReadS) (row:Nat→Nat→Int),(∀ i k,i<n→k<n→-1099511627776≤row i k∧row i k≤1099511627776)→∀ i k,i<n→k<n→-1099511627776≤l.foldl (fun row x=>readOne n lies jitter now x row) row i k∧l.foldl (fun row x=>readOne n lies jitter now x row) row i k≤1099511627776:=by
  intro l
  induction l with
  | nil=>intro row h;exact h
  | cons x l ih =>
   intro row h
   refine ih _ fun i k hi hk=>?_
   show -1099511627776≤readOne n lies jitter now x row i k∧readOne n lies jitter now x row i k≤1099511627776
   unfold readOne
   split
   ·have a:=hnow i hi
    have b:=hnow k hk
    have c:=cutV_in (x:=x.is_) hj0
    have d:=cutV_in (x:=x.is_) (most:=549755813888) (by decide)
    split <;> omega
   ·exact h i k hi hk
 refine key l _ fun i k hi hk=>?_
 have a:=hnow i hi
 have b:=hnow k hk
 show -1099511627776≤now k - now i∧now k - now i≤1099511627776
 omega
def rowsOf (n:Nat) (f:Nat→Nat→Int):List (List Int):=(List.range n).map fun i=>(List.range n).map (f i)
theorem rowsOf_len (n:Nat) (f:Nat→Nat→Int):(rowsOf n f).length=n:=by simp [rowsOf]
theorem rowsOf_at (n:Nat) (f:Nat→Nat→Int) {i:Nat} (hi:i<n):(rowsOf n f).getD i []=(List.range n).map (f i):=by simp [rowsOf,hi]
theorem RTab.tab {w:World} {base R n Bi:Nat} {f:Nat→Nat→Int} {G cap:Nat→Nat} {v:Value} (h:RTab w base R n n f G cap Bi v):TabRow w (some ⟨R,0,none⟩) (rowsOf n f):=fun _=>by
 refine ⟨R,0,rfl,Nat.lt_of_lt_of_le h.lR h.lB,fun j hj=>?_⟩
 rw [rowsOf_len] at hj
 rw [rowsOf_at n f hj]
 refine ⟨_,cap j,?_,fun _=>⟨G j,0,rfl,Nat.lt_of_lt_of_le (h.lt j hj) h.lB,fun k hk=>?_⟩⟩
 ·rw [Nat.zero_add,List.length_map,List.length_range];exact h.row j hj
 ·rw [List.length_map,List.length_range] at hk
  rw [Nat.zero_add,h.cel j k hj hk]
  simp [hk]
theorem cof_any (a:Option Addr) (cap:Nat) (l:List Int) (j n:Nat) (hl:l.length=n) (hn:n≤9223372036854775807) (w:World) (hr:IntRow w a l):Calls Tryz.prog 39 #[.slice a n cap,.int .i64 j] w fun e w'=>e=.returned (.int .i64 (if j<n then l.getD j 0 else 0))∧w'=w:=by
 by_cases h:j<n
 ·rw [if_pos h]
  obtain ⟨b,off,rfl,hb,hc⟩:=hr (by omega)
  have y:=hc j (by omega)
  have k1:decide (n≤j)=false:=decide_eq_false (by omega)
  have k1':decide ((n:Int)≤(j:Int))=false:=decide_eq_false (by omega)
  have k2:(j:Int)<(n:Int):=by omega
  generalize l.getD j 0=X at *
  clear hc hr
  go_enter Tryz.func39,Tryz.ntmps39
  go_wp2
  go_ret
  exact ⟨rfl,rfl⟩
 ·rw [if_neg h]
  have k1:n≤j:=by omega
  have k1':(n:Int)≤(j:Int):=by omega
  go_enter Tryz.func39,Tryz.ntmps39
  go_wp2
  go_ret
  exact ⟨rfl,rfl⟩
theorem drift_is (l:List Int) (d:Int) (j:Nat) (hd:0≤d):cutV (if j<l.length then l.getD j 0 else 0) d=driftV l d j:=by
 unfold driftV
 split
 ·rfl
 ·unfold cutV;omega
def AgreedIs (w w':World) (n:Nat) (BY:Bool) (CT:Nat→Int) (e:Ending):Prop :=
 (BY=true∧e=.returned (.tuple #[.slice none 0 0,errV 6]))∨(BY=false∧∃ g cap,e=.returned (.tuple #[.slice (some ⟨g,0,none⟩) n cap,.nilIface])∧(w.heap.size≤g∧g<w'.heap.size)∧∀ j,j<n→w'.cell? ⟨g,j,none⟩=some (.int .i64 (CT j)))
theorem box4 (w:World) (a b c d:Value) (t:TypeId):((w.alloc (.cells #[a,b,c,d] t)).cell? ⟨w.heap.size,0,none⟩=some a∧(w.alloc (.cells #[a,b,c,d] t)).cell? ⟨w.heap.size,1,none⟩=some b∧(w.alloc (.cells #[a,b,c,d] t)).cell? ⟨w.heap.size,2,none⟩=some c∧(w.alloc (.cells #[a,b,c,d] t)).cell? ⟨w.heap.size,3,none⟩=some d)∧Below w.heap.size w (w.alloc (.cells #[a,b,c,d] t))∧(w.alloc (.cells #[a,b,c,d] t)).heap.size=w.heap.size+1 :=
 ⟨⟨by simp,by simp,by simp,by simp⟩,(Below.refl _ _).alloc (Nat.le_refl _) _,by simp⟩
theorem cagreed_any (C cb n ccap f:Nat) (fa jitter drift:Int) (cs:List Int) (hcl:cs.length=n) (w:World) (c0:w.cell? ⟨C,0,none⟩=some (.int .i64 n)) (c1:w.cell? ⟨C,1,none⟩=some (.int .i64 f)) (c3:w.cell? ⟨C,3,none⟩=some (.int .i64 jitter)) (c4:w.cell? ⟨C,4,none⟩=some (.int .i64 drift)) (c10:w.cell? ⟨C,10,none⟩=some (.int .i64 fa)) (c11:w.cell? ⟨C,11,none⟩=some (.slice (some ⟨cb,0,none⟩) n ccap)) (ck:∀ j,j<cs.length→w.cell? ⟨cb,j,none⟩=some (.int .i64 (cs.getD j 0))) (hin:∀ x∈cs,-274877906944≤x∧x≤274877906944) (hf3:3*f+1≤n) (hn:n≤16) (hji0:0≤jitter) (hji:jitter≤137438953472) (hd0:0≤drift) (hd1:drift≤137438953472) (r:RoundN) (a:RoundAt) (hr:r.In a w) :
  Calls Tryz.prog 36 #[.pointer (some ⟨C,0,none⟩),r.val a] w fun e w'=>Below w.heap.size w w'∧AgreedIs w w' n (beyondB n (clocksTo n f (bitI fa) jitter drift (fun i=>cs.getD i 0) r.reads r.drifts)) (clocksTo n f (bitI fa) jitter drift (fun i=>cs.getD i 0) r.reads r.drifts) e:=by
 have hlC:=lt_of_cell9 c11
 have hlcb:=lt_of_cell9 (ck 0 (by omega))
 have hnow:∀ i,i<n→-274877906944≤cs.getD i 0∧cs.getD i 0≤274877906944:=fun i hi=>hin _ (getD_mem9 (by omega))
 have HRI:Hid (r.In a w):=hr
 have HRE:Hid (∀ v,Below w.heap.size w v→Calls Tryz.prog 70 #[.pointer (some ⟨C,0,none⟩),.slice a.ra r.nR a.rc] v fun e w'=>∃ R G gcap Bi,e=.returned (.slice (some ⟨R,0,none⟩) n n)∧RTab w' v.heap.size R n n (readAll n (bitI fa) jitter (fun i=>cs.getD i 0) r.reads) G gcap Bi (.slice none 0 0)∧Below v.heap.size v w'):=fun v hv=>cread_any C cb n ccap fa jitter cs hcl v ((hv.cell (p:=⟨C,0,none⟩) hlC).trans c0) ((hv.cell (p:=⟨C,3,none⟩) hlC).trans c3) ((hv.cell (p:=⟨C,10,none⟩) hlC).trans c10) ((hv.cell (p:=⟨C,11,none⟩) hlC).trans c11) (fun j hj=>(hv.cell (p:=⟨cb,j,none⟩) hlcb).trans (ck j hj)) hin (by omega) hn hji0 hji r a.ra a.rc (hr.reads.below hv) hr.lR
 have HRO:Hid (∀ v base R G gcap Bi,Below w.heap.size w v→RTab v base R n n (readAll n (bitI fa) jitter (fun i=>cs.getD i 0) r.reads) G gcap Bi (.slice none 0 0)→Calls Tryz.prog 69 #[.slice (some ⟨cb,0,none⟩) n ccap,.slice (some ⟨R,0,none⟩) n n,.int .i64 f] v fun ev w'=>∃ g cap,ev=.returned (.tuple #[.slice (some ⟨g,0,none⟩) n cap,.nilIface])∧(v.heap.size≤g∧g<w'.heap.size∧(∀ j,j<n→w'.cell? ⟨g,j,none⟩=some (.int .i64 (setOn n f (fun i=>cs.getD i 0) (readAll n (bitI fa) jitter (fun i=>cs.getD i 0) r.reads) j)))∧∀ j,w'.frozen? ⟨g,j,none⟩=false)∧Below v.heap.size v w'):=by
  intro v base R G gcap Bi hv hT
  have hro:=round_ok (some ⟨cb,0,none⟩) (some ⟨R,0,none⟩) ccap n cs (rowsOf n (readAll n (bitI fa) jitter (fun i=>cs.getD i 0) r.reads)) f v (fun _=>⟨cb,0,rfl,Nat.lt_of_lt_of_le hlcb hv.size,fun j hj=>by rw [Nat.zero_add];exact (hv.cell (p:=⟨cb,j,none⟩) hlcb).trans (ck j hj)⟩) hT.tab (by rw [rowsOf_len,hcl]) (by omega) (fun q hq=>by
   obtain ⟨i,_,rfl⟩:=List.mem_map.1 hq
   simp;omega) (fun j hj=>by
   rw [rowsOf_at n _ (by omega)]
   rw [stepErr_mid (by simp [hcl]) (by rw [far_false];have:=hnow j (by omega);omega)]
   refine midErr_0 (by rw [List.length_map,List.length_range];omega) ?_
   rw [Bool.eq_false_iff]
   intro hx
   obtain ⟨y,hy,hy2⟩:=List.any_eq_true.1 hx
   obtain ⟨k,hk,rfl⟩:=List.mem_map.1 hy
   have hk:=List.mem_range.1 hk
   have:=readAll_in (lies:=bitI fa) hji0 hji hnow r.reads j k (by omega) hk
   rw [far_true] at hy2
   omega)
  rw [rowsOf_len,hcl] at hro
  refine hro.mono ?_
  rintro e w' ⟨x,he,ho,hb⟩
  rcases ho.2 with ⟨_,e0⟩ | ⟨g,cap,cur,hx,hg,hh,_⟩
  ·omega
  ·have hgl:g<w'.heap.size:=by
    rcases Nat.lt_or_ge g w'.heap.size with q | q
    ·exact q
    ·rw [Array.getElem?_eq_none q] at hh;cases hh
   refine ⟨g,cap,by rw [he,hx],⟨hg,hgl,fun j hj=>?_,fun j=>by simp [World.frozen?,hh]⟩,⟨hb.os,hb.tape,hb.output,hb.size,hb.block⟩⟩
   have:=ho.cells (g:=g) (by rw [hx];rfl) j (.int .i64 (setOn n f (fun i=>cs.getD i 0) (readAll n (bitI fa) jitter (fun i=>cs.getD i 0) r.reads) j)) (by
    have hlj:j<(setTo cs (rowsOf n (readAll n (bitI fa) jitter (fun i=>cs.getD i 0) r.reads)) f n).length:=by rw [setTo_len];exact hj
    rw [List.getElem?_map,List.getElem?_eq_getElem hlj]
    simp only [setTo,List.getElem_map,List.getElem_range,Option.map_some]
    rw [rowsOf_at n _ hj,midVal_ok]
    ·rw [Int.toNat_natCast];rfl
    ·refine midErr_0 (by rw [List.length_map,List.length_range];omega) ?_
     rw [Bool.eq_false_iff]
     intro hx
     obtain ⟨y,hy,hy2⟩:=List.any_eq_true.1 hx
     obtain ⟨k,hk,rfl⟩:=List.mem_map.1 hy
     have hk:=List.mem_range.1 hk
     have:=readAll_in (lies:=bitI fa) hji0 hji hnow r.reads j k hj hk
     rw [far_true] at hy2
     omega)
   rwa [add_at,Nat.zero_add] at this
 have HCUT:Hid (∀ v,Calls Tryz.prog 64 #[.int .i64 drift] v fun e w'=>∃ L,e=.returned (.func (.func 86) #[] #[.pointer (some ⟨L,0,none⟩)])∧v.heap.size≤L∧w'.cell? ⟨L,0,none⟩=some (.int .i64 drift)∧L<w'.heap.size∧Below v.heap.size v w'):=fun v=>ccutF drift v
 have HCO:Hid (∀ L (v:World) (x:Int),v.cell? ⟨L,0,none⟩=some (.int .i64 drift)→Calls Tryz.prog 86 #[.int .i64 x,.pointer (some ⟨L,0,none⟩)] v fun e w'=>e=.returned (.int .i64 (cutV x drift))∧w'=v):=fun L v x hv=>ccut1_any x drift L hd0 (by omega) v hv
 have HOF:Hid (∀ v (j:Nat),Below w.heap.size w v→Calls Tryz.prog 39 #[.slice a.da r.drifts.length a.dc,.int .i64 j] v fun e w'=>e=.returned (.int .i64 (if j<r.drifts.length then r.drifts.getD j 0 else 0))∧w'=v):=fun v j hv=>cof_any a.da a.dc r.drifts j r.drifts.length rfl hr.lD v (hr.drifts.below hv)
 have HDI:Hid (∀ j,cutV (if j<r.drifts.length then r.drifts.getD j 0 else 0) drift=driftV r.drifts drift j∧-drift≤driftV r.drifts drift j∧driftV r.drifts drift j≤drift):=fun j=>⟨drift_is _ _ _ hd0,driftV_in hd0 j⟩
 have HMI:Hid (∀ j,j<n→-1374389534720≤setOn n f (fun i=>cs.getD i 0) (readAll n (bitI fa) jitter (fun i=>cs.getD i 0) r.reads) j∧setOn n f (fun i=>cs.getD i 0) (readAll n (bitI fa) jitter (fun i=>cs.getD i 0) r.reads) j≤1374389534720):=fun j hj=>by
  have h1:=hnow j hj
  have h2:=midVal_in ((List.range n).map (readAll n (bitI fa) jitter (fun i=>cs.getD i 0) r.reads j)) f
  rw [midVal_ok (midErr_0 (by rw [List.length_map,List.length_range];omega) (by
   rw [Bool.eq_false_iff]
   intro hx
   obtain ⟨y,hy,hy2⟩:=List.any_eq_true.1 hx
   obtain ⟨k,hk,rfl⟩:=List.mem_map.1 hy
   have hk:=List.mem_range.1 hk
   have:=readAll_in (lies:=bitI fa) hji0 hji hnow r.reads j k hj hk
   rw [far_true] at hy2
   omega)),Int.toNat_natCast] at h2
  show -1374389534720≤cs.getD j 0+midOf ((List.range n).map (readAll n (bitI fa) jitter (fun i=>cs.getD i 0) r.reads j)) f∧cs.getD j 0+midOf ((List.range n).map (readAll n (bitI fa) jitter (fun i=>cs.getD i 0) r.reads j)) f≤1374389534720
  omega
 have HTO:Hid (∀ j,clocksTo n f (bitI fa) jitter drift (fun i=>cs.getD i 0) r.reads r.drifts j=setOn n f (fun i=>cs.getD i 0) (readAll n (bitI fa) jitter (fun i=>cs.getD i 0) r.reads) j+driftV r.drifts drift j):=fun j=>rfl
 have HBY:Hid (beyondB n (clocksTo n f (bitI fa) jitter drift (fun i=>cs.getD i 0) r.reads r.drifts)=((List.range n).map (clocksTo n f (bitI fa) jitter drift (fun i=>cs.getD i 0) r.reads r.drifts)).any tooFarB):=by
  show _=_
  rw [List.any_map]
  rfl
 generalize setOn n f (fun i=>cs.getD i 0) (readAll n (bitI fa) jitter (fun i=>cs.getD i 0) r.reads)=ST at *
 generalize readAll n (bitI fa) jitter (fun i=>cs.getD i 0) r.reads=RA at *
 generalize clocksTo n f (bitI fa) jitter drift (fun i=>cs.getD i 0) r.reads r.drifts=CT at *
 generalize beyondB n CT=BY at *
 generalize driftV r.drifts drift=DV at *
 unfold RoundN.val
 obtain ⟨nL,hnL⟩:∃ nL,r.nL=nL:=⟨_,rfl⟩
 obtain ⟨nR,hnR⟩:∃ nR,r.nR=nR:=⟨_,rfl⟩
 obtain ⟨nD,hnD⟩:∃ nD,r.drifts.length=nD:=⟨_,rfl⟩
 obtain ⟨nM,hnM⟩:∃ nM,r.modes.length=nM:=⟨_,rfl⟩
 rw [hnR] at HRE
 rw [hnD] at HOF HDI
 rw [hnL,hnR,hnD,hnM]
 obtain ⟨⟨q0,q1,q2,q3⟩,qB,qS⟩:=box4 w (.slice a.la nL a.lc) (.slice a.ra nR a.rc) (.slice a.da nD a.dc) (.slice a.ma nM a.mc) 45
 have HQB:Hid (Below w.heap.size w (w.alloc (.cells #[.slice a.la nL a.lc,.slice a.ra nR a.rc,.slice a.da nD a.dc,.slice a.ma nM a.mc] 45))):=qB
 have HQS:Hid ((w.alloc (.cells #[.slice a.la nL a.lc,.slice a.ra nR a.rc,.slice a.da nD a.dc,.slice a.ma nM a.mc] 45)).heap.size=w.heap.size+1):=qS
 have d11:=(qB.cell (p:=⟨C,11,none⟩) hlC).trans c11
 have d1:=(qB.cell (p:=⟨C,1,none⟩) hlC).trans c1
 have d4:=(qB.cell (p:=⟨C,4,none⟩) hlC).trans c4
 have hl0:C<(w.alloc (.cells #[.slice a.la nL a.lc,.slice a.ra nR a.rc,.slice a.da nD a.dc,.slice a.ma nM a.mc] 45)).heap.size:=by rw [qS];omega
 have hl1:w.heap.size<(w.alloc (.cells #[.slice a.la nL a.lc,.slice a.ra nR a.rc,.slice a.da nD a.dc,.slice a.ma nM a.mc] 45)).heap.size:=by rw [qS];omega
 clear qB qS hin ck hcl hr hnL hnR hnD hnM c0 c1 c3 c4 c10 c11 hnow HRI q0 q3
 go_enter Tryz.func36,Tryz.ntmps36
 go_wp2_with fail
 generalize (w.alloc (.cells #[.slice a.la nL a.lc,.slice a.ra nR a.rc,.slice a.da nD a.dc,.slice a.ma nM a.mc] 45))=V at *
 go_region_held3 (fun u=>u.cell? ⟨C,11,none⟩=some (.slice (some ⟨cb,0,none⟩) n ccap)∧u.cell? ⟨C,1,none⟩=some (.int .i64 f)∧u.cell? ⟨w.heap.size,1,none⟩=some (.slice a.ra nR a.rc)) (go_keep) (first
  | (go_at_call 69;refine (HRO.out v1 _ _ _ _ _ HR1.out.1 HR1.out.2.1).mono ?_;rintro e v2 ⟨g,gc,rfl,hg,hb2⟩;have HG2:Hid ((w.heap.size<g∧g<v2.heap.size∧(∀ j,j<n→v2.cell? ⟨g,j,none⟩=some (.int .i64 (ST j)))∧∀ j,v2.frozen? ⟨g,j,none⟩=false)∧Below V.heap.size V v2):=⟨⟨Nat.lt_of_lt_of_le (Nat.lt_of_lt_of_le hl1 HR1.out.2.2.size) hg.1,hg.2⟩,HR1.out.2.2.trans (hb2.mono HR1.out.2.2.size)⟩;have x11:=(HG2.out.2.cell (p:=⟨C,11,none⟩) hl0).trans d11;have x1:=(HG2.out.2.cell (p:=⟨C,1,none⟩) hl0).trans d1;have xq:=(HG2.out.2.cell (p:=⟨w.heap.size,1,none⟩) hl1).trans q1;clear hg hb2)
  | (go_at_call 70;refine (HRE.out V.drew ⟨HQB.out.os,HQB.out.tape,HQB.out.output,HQB.out.size,HQB.out.block⟩).mono ?_;rintro e v1 ⟨R,G,gcap,Bi,rfl,hT,hb1⟩;have HR1:Hid (Below w.heap.size w v1∧RTab v1 _ R n n RA G gcap Bi (.slice none 0 0)∧Below V.heap.size V v1):=⟨HQB.out.trans ⟨hb1.os,hb1.tape,hb1.output,hb1.size,fun c hc=>hb1.block c (Nat.lt_of_lt_of_le hc HQB.out.size)⟩,hT,⟨hb1.os,hb1.tape,hb1.output,hb1.size,hb1.block⟩⟩;have x11:=(HR1.out.2.2.cell (p:=⟨C,11,none⟩) hl0).trans d11;have x1:=(HR1.out.2.2.cell (p:=⟨C,1,none⟩) hl0).trans d1;have xq:=(HR1.out.2.2.cell (p:=⟨w.heap.size,1,none⟩) hl1).trans q1;clear hT hb1))
 have hl2:C<v2.heap.size:=Nat.lt_of_lt_of_le hl0 HG2.out.2.size
 have x4:=(HG2.out.2.cell (p:=⟨C,4,none⟩) hl0).trans d4
 clear x11 x1 xq HR1 HRO HRE d11 d1 d4 q1
 go_wp2_with fail
 refine (HCUT.out _).mono ?_
 rintro e v3 ⟨L,rfl,c1,c2,c3,c4⟩
 have HS:Hid ((V.heap.size≤g∧g<v3.heap.size∧(∀ j,j<n→v3.cell? ⟨g,j,none⟩=some (.int .i64 (if j<0 then CT j else ST j)))∧∀ j,v3.frozen? ⟨g,j,none⟩=false)∧(v3.cell? ⟨L,0,none⟩=some (.int .i64 drift)∧L≠g)∧Below V.heap.size V v3):=by
  obtain ⟨⟨a1,a2,a3,a4⟩,a5⟩:=HG2.out
  have:=HQS.out
  refine ⟨⟨by omega,Nat.lt_of_lt_of_le a2 c4.size,fun j hj=>?_,fun j=>(c4.frozen (p:=⟨g,j,none⟩) a2).trans (a4 j)⟩,⟨c2,by omega⟩,a5.trans (c4.mono a5.size)⟩
  rw [if_neg (Nat.not_lt_zero _)]
  exact (c4.cell (p:=⟨g,j,none⟩) a2).trans (a3 j hj)
 clear HG2 HCUT c1 c2 c3 c4 x4 hl2
 go_wp2_with fail
 go_loopw [38] (fun t wr=>∃ k:Nat,k≤n∧t=.int .i64 k∧Hid ((V.heap.size≤g∧g<wr.heap.size∧(∀ j,j<n→wr.cell? ⟨g,j,none⟩=some (.int .i64 (if j<k then CT j else ST j)))∧∀ j,wr.frozen? ⟨g,j,none⟩=false)∧(wr.cell? ⟨L,0,none⟩=some (.int .i64 drift)∧L≠g)∧Below V.heap.size V wr)) (fun t _=>n - (intOf t).toNat)
 case atStart=>exact ⟨0,Nat.zero_le _,rfl,HS⟩
 case round =>
  clear HS
  obtain ⟨k,hk,rfl,HI⟩:=hrel
  by_cases hlt:k<n
  ·have kk:(k:Int)<(n:Int):=by omega
   have y0:=HI.out.1.2.2.1 k hlt
   rw [if_neg (Nat.lt_irrefl _)] at y0
   have yz:=HI.out.1.2.2.2 k
   have hgl:g<wr.heap.size:=HI.out.1.2.1
   have q2':=(HI.out.2.2.cell (p:=⟨w.heap.size,2,none⟩) hl1).trans q2
   have hwl:w.heap.size<wr.heap.size:=Nat.lt_of_lt_of_le hl1 HI.out.2.2.size
   have lc:=HI.out.2.1.1
   have hof:=fun (u:Nat)=>HOF.out (wr.drewN u) k (HQB.out.trans ⟨HI.out.2.2.os,HI.out.2.2.tape,HI.out.2.2.output,HI.out.2.2.size,fun c hc=>HI.out.2.2.block c (Nat.lt_of_lt_of_le hc HQB.out.size)⟩)
   have hdi:=HDI.out k
   generalize (if k<nD then r.drifts.getD k 0 else 0)=OV at hof hdi
   have hco:=fun (u:Nat)=>HCO.out L (wr.drewN u) OV lc
   rw [hdi.1] at hco
   have hmi:=HMI.out k hlt
   have hto:=HTO.out k
   have hdb:=hdi.2
   have HN:Hid (∀ u,((V.heap.size≤g∧g<((wr.setCell ⟨g,k,none⟩ (.int .i64 (ST k+DV k))).drewN u).heap.size∧(∀ j,j<n→((wr.setCell ⟨g,k,none⟩ (.int .i64 (ST k+DV k))).drewN u).cell? ⟨g,j,none⟩=some (.int .i64 (if j<k+1 then CT j else ST j)))∧∀ j,((wr.setCell ⟨g,k,none⟩ (.int .i64 (ST k+DV k))).drewN u).frozen? ⟨g,j,none⟩=false)∧(((wr.setCell ⟨g,k,none⟩ (.int .i64 (ST k+DV k))).drewN u).cell? ⟨L,0,none⟩=some (.int .i64 drift)∧L≠g)∧Below V.heap.size V ((wr.setCell ⟨g,k,none⟩ (.int .i64 (ST k+DV k))).drewN u))):=fun u=>by
    obtain ⟨⟨a1,a2,a3,a4⟩,⟨a5,a6⟩,a7⟩:=HI.out
    refine ⟨⟨a1,?_,fun j hj=>?_,fun j=>soft_set.trans (a4 j)⟩,⟨(cell_other (.inl a6)).trans a5,a6⟩,?_⟩
    ·show g<(wr.setCell ⟨g,k,none⟩ (.int .i64 (ST k+DV k))).heap.size
     simpa using a2
    ·show (wr.setCell ⟨g,k,none⟩ (.int .i64 (ST k+DV k))).cell? ⟨g,j,none⟩=_
     by_cases e:j=k
     ·subst e
      rw [if_pos (Nat.lt_succ_self _),hto]
      exact cell_set (a3 j hj)
     ·have h2:=a3 j hj
      have e2:(if j<k+1 then CT j else ST j)=if j<k then CT j else ST j:=by
       by_cases q:j<k
       ·rw [if_pos q,if_pos (by omega)]
       ·rw [if_neg q,if_neg (by omega)]
      rw [e2]
      exact (cell_other (.inr e)).trans h2
    ·exact a7.trans ((((Turns.refl g g wr).set (p:=⟨g,k,none⟩) (.inl rfl) _).trans (Turns.drawn u)).below a7.size a1 a1)
   clear hdi HI hto
   generalize ST k=SK at *
   generalize DV k=DK at *
   have hwr:IntKind.i64.wrap (SK+DK)=SK+DK:=by simp [IntKind.wrap,IntKind.bits,IntKind.signed];omega
   go_wp2_with fail
   go_region_with (first | (go_at_call 39;refine (hof _).mono ?_;rintro e v4 ⟨rfl,rfl⟩) | (go_at_call 86;refine (hco _).mono ?_;rintro e v4 ⟨rfl,rfl⟩))
   all_goals
    go_wp2
    go_roundw
    case rel=>exact ⟨k+1,by omega,by go_num,HN.out 1⟩
    case measure=>simp [intOf];omega
  ·have hkn:k=n:=by omega
   have HD:Hid (IntRow wr (some ⟨g,0,none⟩) ((List.range n).map CT)∧(w.heap.size≤g∧g<wr.heap.size)∧(∀ j,j<n→wr.cell? ⟨g,j,none⟩=some (.int .i64 (CT j)))∧Below w.heap.size w wr):=by
    obtain ⟨⟨a1,a2,a3,a4⟩,⟨a5,a6⟩,a7⟩:=HI.out
    rw [hkn] at a3
    have a3':∀ j,j<n→wr.cell? ⟨g,j,none⟩=some (.int .i64 (CT j)):=fun j hj=>by
     have:=a3 j hj
     rwa [if_pos hj] at this
    refine ⟨fun _=>⟨g,0,rfl,a2,fun j hj=>?_⟩,⟨by have:=HQS.out;omega,a2⟩,a3',HQB.out.trans ⟨a7.os,a7.tape,a7.output,a7.size,fun c hc=>a7.block c (Nat.lt_of_lt_of_le hc HQB.out.size)⟩⟩
    rw [List.length_map,List.length_range] at hj
    rw [Nat.zero_add,a3' j hj]
    simp [hj]
   have kk:decide (k<n)=false:=decide_eq_false hlt
   have hfar:=cfar_any (some ⟨g,0,none⟩) gc n ((List.range n).map CT) (by simp) wr HD.out.1 (by omega)
   rw [← HBY.out] at hfar
   clear hkn hlt HI
   go_wp2_with fail
   refine hfar.mono ?_
   rintro e v5 ⟨rfl,hb5⟩
   have HD5:Hid (Below w.heap.size w v5∧g<v5.heap.size∧∀ j,j<n→v5.cell? ⟨g,j,none⟩=some (.int .i64 (CT j))):=by
    obtain ⟨_,⟨_,b2⟩,b3,b4⟩:=HD.out
    exact ⟨b4.trans (hb5.mono b4.size),Nat.lt_of_lt_of_le b2 hb5.size,fun j hj=>(hb5.cell (p:=⟨g,j,none⟩) b2).trans (b3 j hj)⟩
   have HDg:Hid (w.heap.size≤g):=HD.out.2.1.1
   clear hfar hb5 HD HBY
   cases BY
   ·go_wp2
    go_ret2
    exact ⟨HD5.out.1,.inr ⟨rfl,_,_,rfl,⟨HDg.out,HD5.out.2.1⟩,HD5.out.2.2⟩⟩
   ·go_wp2
    go_ret2
    exact ⟨HD5.out.1,.inl ⟨rfl,rfl⟩⟩
end
end Go.Proofs.YtooadfgibdjdeaaGreatDoor
