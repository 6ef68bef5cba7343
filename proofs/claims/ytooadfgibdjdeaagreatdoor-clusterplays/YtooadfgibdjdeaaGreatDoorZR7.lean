import Derived.Test.YtooadfgibdjdeaaGreatDoorZR6
import Derived.Deep.AppendLies
import Derived.Maps.AppendAt
import Derived.WalkKit
import Derived.WalkLawsBesides
import Derived.WalkSpells
namespace Go.Proofs.YtooadfgibdjdeaaGreatDoor
open Go.RowKit
set_option maxRecDepth 100000
set_option maxHeartbeats 16000000
section
theorem Tryz.infoRowI:(Tryz.prog.info? 27).map (fun i=>(i.zero,i.size,i.bytes))=some (some (.slice none 0 0),1,24):=by kernel_rfl
structure RT (w:World) (base:Nat) (V:Value) (I n:Nat) (f:Nat→Nat→Int) (G cap:Nat→Nat):Prop where
 own:w.ownsRow base 27 1 V I ((List.range I).map fun i=>Value.slice (some ⟨G i,0,none⟩) n (cap i))
 cel:∀ i j,i<I→j<n→w.cell? ⟨G i,j,none⟩=some (.int .i64 (f i j))
 zG:∀ i j,i<I→w.frozen? ⟨G i,j,none⟩=false
 lt:∀ i,i<I→base≤G i∧G i<w.heap.size
 ne:∀ i i',i<I→i'<I→i≠i'→G i≠G i'
 no:∀ i,i<I→V.ownBlock≠some (G i)
section
variable {w w' w3:World} {base I n:Nat} {V V':Value} {f f':Nat→Nat→Int} {G cap:Nat→Nat}
theorem RT.below (h:RT w base V I n f G cap) (k:Below w.heap.size w w'):RT w' base V I n f G cap :=
 ⟨owns_below h.own k,fun i j hi hj=>(k.cell (p:=⟨G i,j,none⟩) (h.lt i hi).2).trans (h.cel i j hi hj),fun i j hi=>(k.frozen (p:=⟨G i,j,none⟩) (h.lt i hi).2).trans (h.zG i j hi),fun i hi=>⟨(h.lt i hi).1,Nat.lt_of_lt_of_le (h.lt i hi).2 k.size⟩,h.ne,h.no⟩
theorem RT.drawn (h:RT w base V I n f G cap) (q:Nat):RT (w.drewN q) base V I n f G cap:=⟨h.own,h.cel,h.zG,h.lt,h.ne,h.no⟩
theorem RT.next {g c:Nat} (h:RT w base V I n f G cap) (ho:w.ownsRow base 3 1 (.slice (some ⟨g,0,none⟩) n c) n ((List.range n).map fun j=>.int .i64 (f I j))) (hn:0<n) (hg:∀ i,i<I→g≠G i) (hgV:V.ownBlock≠some g)
  (hown:w3.ownsRow base 27 1 V' (I+1) (((List.range I).map fun i=>Value.slice (some ⟨G i,0,none⟩) n (cap i)) ++ [.slice (some ⟨g,0,none⟩) n c])) (hgr:(w.alloc (.cells #[.slice (some ⟨g,0,none⟩) n c] 27)).grownBy w3 V.ownBlock) (hat:V'.ownBlock=V.ownBlock∨V'.ownBlock=some (w.heap.size+1)) :
  RT w3 base V' (I+1) n f (fun i=>if i=I then g else G i) (fun i=>if i=I then c else cap i):=by
 have hgl:g<w.heap.size∧base≤g:=by
  obtain ⟨g',c',e,h1,h2⟩:=ho.form hn
  injection e with e
  injection e with e
  injection e with e
  rw [e]
  exact ⟨h2,h1⟩
 have kb:∀ b,b<w.heap.size→V.ownBlock≠some b→w3.heap[b]? = w.heap[b]?:=fun b hb hv=>(hgr.block b (by simp;omega) (fun e=>hv e.symm)).trans (by
  show (w.alloc _).heap[b]? = _
  exact ((Below.refl w.heap.size w).alloc (Nat.le_refl _) _).block b hb)
 have hz0:∀ j,w.frozen? ⟨g,j,none⟩=false:=fun j=>by
  rcases ho.2 with ⟨e,_⟩ | ⟨g',c',cur,hv,_,hh,_⟩
  ·cases e
  ·injection hv with e
   injection e with e
   injection e with e
   subst e
   simp [World.frozen?,hh]
 have hc0:∀ j,j<n→w.cell? ⟨g,j,none⟩=some (.int .i64 (f I j)):=fun j hj=>by
  have:=ho.cells (g:=g) rfl j (.int .i64 (f I j)) (by simp [hj])
  rwa [add_at,Nat.zero_add] at this
 have hne:∀ i,i<I→i≠I:=fun i hi=>by omega
 refine ⟨?_,fun i j hi hj=>?_,fun i j hi=>?_,fun i hi=>?_,fun i i' hi hi' q=>?_,fun i hi=>?_⟩
 ·have e:(List.range (I+1)).map (fun i=>Value.slice (some ⟨if i=I then g else G i,0,none⟩) n (if i=I then c else cap i))=((List.range I).map fun i=>Value.slice (some ⟨G i,0,none⟩) n (cap i)) ++ [.slice (some ⟨g,0,none⟩) n c]:=by
   rw [List.range_succ,List.map_append]
   congr 1
   ·refine List.map_congr_left fun i hi=>?_
    have:=List.mem_range.1 hi
    rw [if_neg (by omega),if_neg (by omega)]
   ·simp
  rw [e]
  exact hown
 ·by_cases e:i=I
  ·subst e;simp only [if_pos];exact (World.cell?_of_block (w:=w) (a:=⟨g,j,none⟩) (kb g hgl.1 hgV)).trans (hc0 j hj)
  ·simp only [if_neg e];exact (World.cell?_of_block (w:=w) (a:=⟨G i,j,none⟩) (kb _ (h.lt i (by omega)).2 (h.no i (by omega)))).trans (h.cel i j (by omega) hj)
 ·by_cases e:i=I
  ·subst e;simp only [if_pos];exact (World.frozen?_of_block (w:=w) (a:=⟨g,j,none⟩) (kb g hgl.1 hgV)).trans (hz0 j)
  ·simp only [if_neg e];exact (World.frozen?_of_block (w:=w) (a:=⟨G i,j,none⟩) (kb _ (h.lt i (by omega)).2 (h.no i (by omega)))).trans (h.zG i j (by omega))
 ·have hs:=hgr.size
  have hs2:(w.alloc (.cells #[.slice (some ⟨g,0,none⟩) n c] 27)).heap.size=w.heap.size+1:=by simp
  rw [hs2] at hs
  by_cases e:i=I
  ·simp only [if_pos e];exact ⟨hgl.2,by omega⟩
  ·simp only [if_neg e];have:=h.lt i (by omega);exact ⟨this.1,by omega⟩
 ·by_cases e:i=I
  ·rw [if_pos e,if_neg (show ¬ i'=I by omega)]
   exact hg i' (by omega)
  ·rw [if_neg e]
   by_cases e':i'=I
   ·rw [if_pos e'];exact fun y=>hg i (by omega) y.symm
   ·rw [if_neg e'];exact h.ne i i' (by omega) (by omega) q
 ·by_cases e:i=I
  ·simp only [if_pos e]
   rcases hat with y | y
   ·rw [y];exact hgV
   ·rw [y];intro z;have:=Option.some.inj z;omega
  ·simp only [if_neg e]
   rcases hat with y | y
   ·rw [y];exact h.no i (by omega)
   ·rw [y];intro z;have:=Option.some.inj z;have:=(h.lt i (by omega)).2;omega
theorem RT.set (h:RT w base V I n f G cap) {i j:Nat} {x:Int} (hi:i<I) (hj:j<n) (hf:∀ i' j',i'<I→j'<n→f' i' j'=if i'=i∧j'=j then x else f i' j'):RT (w.setCell ⟨G i,j,none⟩ (.int .i64 x)) base V I n f' G cap:=by
 have hs:(w.setCell ⟨G i,j,none⟩ (.int .i64 x)).heap.size=w.heap.size:=by simp
 refine ⟨?_,fun i' j' hi' hj'=>?_,fun i' j' hi'=>soft_set.trans (h.zG i' j' hi'),fun i' hi'=>by rw [hs];exact h.lt i' hi',h.ne,h.no⟩
 ·have hV:=h.no i hi
  have hb:∀ b,V.ownBlock=some b→(w.setCell ⟨G i,j,none⟩ (.int .i64 x)).heap[b]? = w.heap[b]?:=fun b e=>Below.heap_setCell _ _ _ b (fun y=>hV (by rw [e,y]))
  exact owns_same (X:=V.ownBlock.toList) h.own ⟨by rw [hs];exact Nat.le_refl _,fun c hc=>hb c (by simpa using hc)⟩ (fun g hg=>by simpa using hg)
 ·rw [hf i' j' hi' hj']
  by_cases e:i'=i
  ·subst e
   by_cases e2:j'=j
   ·subst e2;rw [if_pos ⟨rfl,rfl⟩];exact cell_set (h.cel i' j' hi' hj')
   ·rw [if_neg (fun y=>e2 y.2)];exact (cell_other (.inr e2)).trans (h.cel i' j' hi' hj')
  ·rw [if_neg (fun y=>e y.1)];exact (cell_other (.inl (h.ne i' i hi' hi e))).trans (h.cel i' j' hi' hj')
end
end
section
def RMap.fix (m m0:RMap):Prop:=(m.tb=m0.tb∧m.pb=m0.pb)∧(m.sa=m0.sa∧m.scap=m0.scap)∧(m.la=m0.la∧m.lcap=m0.lcap)∧m.ca=m0.ca∧m.ccap=m0.ccap
def NMx (w:World) (base:Nat) (Z:List Nat) (C:Nat) (p:PlanN) (cc:Nat→Option Value) (clk:List Nat) (m0:RMap) (i k:Nat) (T:Nat→Nat→Bool) (V12 V13:Value):Prop:=∃ Of m,RMap.fix m m0∧NM w base Z Of C p cc clk m i k T V12 V13
def tkB (n k j:Nat):Nat→Nat→Bool:=fun a b=>decide ((a<k∧b<n)∨(a=k∧b<j))
theorem tkB_succ (n k j:Nat):(fun x y=>tkB n k j x y || decide (x=k∧y=j))=tkB n k (j+1):=by
 funext x y
 unfold tkB
 rw [← Bool.decide_or]
 congr 1
 apply propext
 omega
theorem tkB_end (n k:Nat):tkB n k n=tkB n (k+1) 0:=by
 funext x y
 unfold tkB
 congr 1
 apply propext
 omega
def w_rn_taker_0 (k:Nat):Bool:=decide (k=18) || (decide (123≤k) && decide (k≤135))
theorem rn_taker (body:Code) (hbody:(Tryz.f6.body.map loopsIn).bind (fun l=>l[3]?)=some body) (Q:Exit→Act→World→Prop) (base:Nat) (Z:List Nat) (C k:Nat) (p:PlanN) (cc:Nat→Option Value) (clk:List Nat) (m0:RMap) (V12 V13:Value) (w:World) (hk:k<8) (hn:p.n≤16) (e14:cc 14=some (.map (some m0.tb))) (h:NMx w base Z C p cc clk m0 p.n (k+1) (tkB p.n k 0) V12 V13) {L:List Value} (hL0:L.length=139) (s9:L[9]? = some (.pointer (some ⟨C,0,none⟩))) (s16:L[16]? = some (.int .i64 k)) (s122:L[122]? = some (.int .i64 p.n)) (s123:L[123]? = some (.int .i64 0))
  (hexit:∀ (L':List Value) (wr:World),NMx wr base Z C p cc clk m0 p.n (k+1) (tkB p.n (k+1) 0) V12 V13→Turns m0.tb m0.tb w wr→L'.length=139→Rest w_rn_taker_0 L L'→L'[123]? = some (.int .i64 p.n)→Q (.exit 6) ⟨L'.toArray,[]⟩ wr) :
  Code.wp Tryz.prog (Code.loop body) Q ⟨L.toArray,[]⟩ w:=by
 have hb2:((Tryz.f6.body.map loopsIn).bind (fun l=>l[3]?)).getD Code.skip=body:=by rw [hbody];rfl
 obtain rfl:=hb2
 clear hbody
 conv=>arg 2;arg 1;whnf
 have HEX:Hid _:=hexit
 obtain ⟨fL,rfl⟩:=lit L 139 hL0
 replace s9:=lit_at s9
 replace s16:=lit_at s16
 replace s122:=lit_at s122
 replace s123:=lit_at s123
 simp only [List.range,List.range.loop,List.map_cons,List.map_nil,s9,s16,s122,s123]
 have HH:Hid (NMx w base Z C p cc clk m0 p.n (k+1) (tkB p.n k 0) V12 V13):=h
 clear hexit h
 go_loopw [123] (fun a wr=>∃ j:Nat,j≤p.n∧a=.int .i64 j∧Hid (NMx wr base Z C p cc clk m0 p.n (k+1) (tkB p.n k j) V12 V13)∧Hid (Turns m0.tb m0.tb w wr)) (fun a _=>p.n - (intOf a).toNat)
 case atStart=>exact ⟨0,Nat.zero_le _,rfl,HH.out,Turns.refl _ _ _⟩
 case round =>
  obtain ⟨j,hj,rfl,hN,hTu⟩:=hrel
  by_cases hlt:j<p.n
  ·have jj:(j:Int)<(p.n:Int):=by omega
   obtain ⟨Of,m,hfix,hNM⟩:=hN.out
   have htb:=hfix.1.1
   have y14:wr.cell? ⟨C,14,none⟩=some (.map (some m0.tb)):=(hNM.cel 14 (by decide) (by decide)).trans e14
   have lC:=hNM.lC
   obtain ⟨w2,Of2,hrun,hNM2,hT2⟩:=hNM.addTaker k j hk (by omega) (by unfold tkB;exact decide_eq_false (by omega))
   rw [htb] at hrun hT2
   rw [tkB_succ] at hNM2
   have HN2:Hid (NMx w2 base Z C p cc clk m0 p.n (k+1) (tkB p.n k (j+1)) V12 V13):=by
    refine ⟨Of2,_,?_,hNM2⟩
    exact hfix
   have hTa:Turns m0.tb m0.tb wr (wr.alloc (.cells #[.int .i64 (-1),.int .i64 0,.int .i64 0] 111)):=⟨rfl,rfl,rfl,by simp,fun c hc _ _=>((Below.refl wr.heap.size wr).alloc (Nat.le_refl _) _).block c hc⟩
   have HT2:Hid (Turns m0.tb m0.tb w w2):=hTu.out.trans (hTa.trans hT2)
   clear hNM hNM2 hT2
   go_wp2
   exact ⟨⟨j+1,by omega,by go_num,HN2.out,HT2.out⟩,by simp [intOf];omega⟩
  ·obtain rfl:j=p.n:=by omega
   have HE:Hid _:=hN.out
   rw [tkB_end] at HE
   go_wp2
   exact HEX.out _ _ HE.out hTu.out rfl (Rest.of rfl) rfl
end
section
def w_rp_rows_0 (k:Nat):Bool:=(decide (12≤k) && decide (k≤15)) || (decide (48≤k) && decide (k≤78))
theorem rp_rows (body:Code) (hbody:(Tryz.f10.body.map loopsIn).bind (fun l=>l[0]?)=some body) (Q:Exit→Act→World→Prop) (C n ca off ccap:Nat) (cs:List Int) (w:World) (hlen:cs.length=n) (hn0:0<n) (hn:n≤16) (y11:w.cell? ⟨C,11,none⟩=some (.slice (some ⟨ca,off,none⟩) n ccap)) (hck:∀ j,j<n→w.cell? ⟨ca,off+j,none⟩=some (.int .i64 (cs.getD j 0))) (hin:∀ x∈cs,-274877906944≤x∧x≤274877906944) {L:List Value} (hL0:L.length=452) (s0:L[0]? = some (.pointer (some ⟨C,0,none⟩))) (s11:L[11]? = some (.int .i64 n)) (s12:L[12]? = some (.slice none 0 0)) (s47:L[47]? = some (.int .i64 n)) (s48:L[48]? = some (.int .i64 0))
  (hexit:∀ (L':List Value) (V:Value) (wr:World) (G cap:Nat→Nat),RT wr w.heap.size V n n (fun i k=>cs.getD k 0 - cs.getD i 0) G cap→Below w.heap.size w wr→L'.length=452→Rest w_rp_rows_0 L L'→L'[12]? = some (V)→L'[48]? = some (.int .i64 n)→Q (.exit 0) ⟨L'.toArray,[]⟩ wr) :
  Code.wp Tryz.prog (Code.loop body) Q ⟨L.toArray,[]⟩ w:=by
 have hb2:((Tryz.f10.body.map loopsIn).bind (fun l=>l[0]?)).getD Code.skip=body:=by rw [hbody];rfl
 obtain rfl:=hb2
 clear hbody
 conv=>arg 2;arg 1;whnf
 have HEX:Hid _:=hexit
 obtain ⟨fL,rfl⟩:=lit L 452 hL0
 replace s0:=lit_at s0
 replace s11:=lit_at s11
 replace s12:=lit_at s12
 replace s47:=lit_at s47
 replace s48:=lit_at s48
 simp only [List.range,List.range.loop,List.map_cons,List.map_nil,s0,s11,s12,s47,s48]
 have HCK:Hid (∀ j,j<n→w.cell? ⟨ca,off+j,none⟩=some (.int .i64 (cs.getD j 0))):=hck
 have HIN:Hid (∀ x∈cs,-274877906944≤x∧x≤274877906944):=hin
 have HLEN:Hid (cs.length=n):=hlen
 obtain ⟨i1,hiI,hy0,hy1,hy2⟩:=info_parts Tryz.infoRowI
 clear hexit hck hin hlen
 go_loopw [48,12] (fun a V wr=>∃ I:Nat,I≤n∧a=.int .i64 I∧Hid (∃ G cap,RT wr w.heap.size V I n (fun i k=>cs.getD k 0 - cs.getD i 0) G cap)∧Hid (Below w.heap.size w wr)) (fun a _ _=>n - (intOf a).toNat)
 case atStart=>exact ⟨0,Nat.zero_le _,rfl,⟨fun _=>0,fun _=>0,World.ownsRow_nil _ _ _ _,fun _ _ h=>absurd h (Nat.not_lt_zero _),fun _ _ h=>absurd h (Nat.not_lt_zero _),fun _ h=>absurd h (Nat.not_lt_zero _),fun _ _ h=>absurd h (Nat.not_lt_zero _),fun _ h=>absurd h (Nat.not_lt_zero _)⟩,Below.refl _ _⟩
 case round =>
  obtain ⟨I,hI,rfl,hRT,hbe⟩:=hrel
  by_cases hlt:I<n
  ·have ii:(I:Int)<(n:Int):=by omega
   have z11:=keep_cell y11 hbe.out
   have HZK:Hid (∀ j,j<n→wr.cell? ⟨ca,off+j,none⟩=some (.int .i64 (cs.getD j 0))):=fun j hj=>keep_cell (HCK.out j hj) hbe.out
   go_wp2_with fail
   refine rp_row _ (by rfl) _ C I n ca off ccap cs wr HLEN.out hlt hn z11 HZK.out HIN.out rfl rfl rfl rfl rfl rfl ?_
   intro L2 V14 w1 ho1 hb1 hN9 hQ9 t14 t52
   obtain ⟨gL,rfl⟩:=hQ9.over (hN9.trans rfl)
   clear hQ9 hN9
   simp (decide:=true) only [ov,if_true,if_false,Nat.reduceAdd] at t14 t52 ⊢
   replace t14:=Option.some.inj t14
   replace t52:=Option.some.inj t52
   rw [t14,t52]
   clear t14 t52
   obtain ⟨g,c,rfl,hg0,hg1⟩:=ho1.form hn0
   obtain ⟨G,cap,hR⟩:=hRT.out
   obtain ⟨a12,c12,h12⟩:=owns_form hR.own
   clear hRT
   subst h12
   have hR1:=hR.below hb1
   have hb1':Below w.heap.size w w1:=hbe.out.trans (hb1.mono hbe.out.size)
   have hgne:∀ i,i<I→g≠G i:=fun i hi e=>by have:=(hR.lt i hi).2;omega
   have hgV:(Value.slice a12 I c12).ownBlock≠some g:=fun e=>by have:=(hR.own.lt g e).2;omega
   have HNX:Hid (∀ (V':Value) (w3:World),w3.ownsRow w.heap.size 27 1 V' (I+1) (((List.range I).map fun i=>Value.slice (some ⟨G i,0,none⟩) n (cap i)) ++ [.slice (some ⟨g,0,none⟩) n c])→(w1.alloc (.cells #[.slice (some ⟨g,0,none⟩) n c] 27)).grownBy w3 (Value.slice a12 I c12).ownBlock→(V'.ownBlock=(Value.slice a12 I c12).ownBlock∨V'.ownBlock=some (w1.heap.size+1))→(∃ G cap,RT w3 w.heap.size V' (I+1) n (fun i k=>cs.getD k 0 - cs.getD i 0) G cap)∧Below w.heap.size w w3):=fun V' w3 h1 h2 h3=>⟨⟨_,_,hR1.next (owns_mono ho1 hbe.out.size) hn0 hgne hgV h1 h2 h3⟩,(hb1'.alloc hb1'.size _).grown h2 (by have:=hb1'.size;simp;omega) (fun b hb=>(hR.own.lt b hb).1)⟩
   have hOw:w1.ownsRow w.heap.size 27 1 (.slice a12 I c12) I ((List.range I).map fun i=>Value.slice (some ⟨G i,0,none⟩) n (cap i)):=hR1.own
   have HOw:Hid _:=hOw
   have hs1:=hb1'.size
   clear hR hR1 ho1 hOw hgne hgV z11 hg0 hg1 hb1
   go_wp2_with (at_builtin;refine wpList_append_own_at _ rfl _ _ 125 rfl w.heap.size 27 i1 (.slice none 0 0) 1 24 Tryz.underlying125 hiI hy0 hy1 hy2 rfl (by decide) (.slice a12 I c12) I _ rfl (World.ownsRow.alloc HOw.out _) ⟨w1.heap.size,0,none⟩ 1 1 [.slice (some ⟨g,0,none⟩) n c] rfl rfl (cell_one_new _ _ _) (by simp [Value.oneCell']) (by unfold maxLen;omega) (by omega) (by simp;omega) ?_;apply Hid.out)
   unfold Hid
   intro V' w3 hown' hgrow _ hat
   have HN3:Hid _:=HNX.out V' w3 hown' hgrow (by simpa using hat)
   clear hown' hgrow hat HNX HOw
   go_wp2
   exact ⟨⟨I+1,by omega,by go_num,HN3.out.1,HN3.out.2⟩,by simp [intOf];omega⟩
  ·obtain rfl:I=n:=by omega
   obtain ⟨G,cap,hR⟩:=hRT.out
   have HR:Hid _:=hR
   clear hR
   go_wp2
   exact HEX.out _ _ _ _ _ HR.out hbe.out rfl (Rest.of rfl) rfl rfl
end
section
theorem Tryz.infoMem:(Tryz.prog.info? 77).map (fun i=>(i.zero,i.size,i.bytes))=some (some (.pointer none),1,8):=by kernel_rfl
def NMy (w wr:World) (base:Nat) (Z:List Nat) (C:Nat) (p:PlanN) (cc:Nat→Option Value) (clk:List Nat) (m0:RMap) (i:Nat):Prop:=∃ V12,NMx wr base Z C p cc clk m0 i 0 (fun _ _=>false) V12 (.slice none 0 0)∧∀ g,V12.ownBlock=some g→w.heap.size≤g
def w_rn_node_0 (k:Nat):Bool:=(decide (10≤k) && decide (k≤13)) || (decide (44≤k) && decide (k≤69))
theorem rn_node (body:Code) (hbody:(Tryz.f6.body.map loopsIn).bind (fun l=>l[0]?)=some body) (Q:Exit→Act→World→Prop) (base:Nat) (Z:List Nat) (C PB:Nat) (p:PlanN) (fa:Int) (cc:Nat→Option Value) (clk:List Nat) (m0:RMap) (w:World) (hn1:1≤p.n) (hn:p.n≤16) (e10:cc 10=some (.int .i64 fa)) (hPB:w.cell? ⟨PB,0,none⟩=some (.int .i64 p.n)) (hPC:PB≠C) (h:NMy w w base Z C p cc clk m0 0) {L:List Value} (hL0:L.length=139) (s3:L[3]? = some (.pointer (some ⟨PB,0,none⟩))) (s9:L[9]? = some (.pointer (some ⟨C,0,none⟩))) (s10:L[10]? = some (.int .i64 0)) (s43:L[43]? = some (.int .i64 p.n)) (s44:L[44]? = some (.int .i64 0))
  (hexit:∀ (L':List Value) (wr:World),NMy w wr base Z C p cc clk m0 p.n→Turns C C w wr→L'.length=139→Rest w_rn_node_0 L L'→L'[10]? = some (.int .i64 ((List.range p.n).countP (bitI fa):Nat))→L'[44]? = some (.int .i64 p.n)→Q (.exit 0) ⟨L'.toArray,[]⟩ wr) :
  Code.wp Tryz.prog (Code.loop body) Q ⟨L.toArray,[]⟩ w:=by
 have hb2:((Tryz.f6.body.map loopsIn).bind (fun l=>l[0]?)).getD Code.skip=body:=by rw [hbody];rfl
 obtain rfl:=hb2
 clear hbody
 conv=>arg 2;arg 1;whnf
 have HEX:Hid _:=hexit
 obtain ⟨fL,rfl⟩:=lit L 139 hL0
 replace s3:=lit_at s3
 replace s9:=lit_at s9
 replace s10:=lit_at s10
 replace s43:=lit_at s43
 replace s44:=lit_at s44
 simp only [List.range,List.range.loop,List.map_cons,List.map_nil,s3,s9,s10,s43,s44]
 have HH:Hid (NMy w w base Z C p cc clk m0 0):=h
 have lPB:PB<w.heap.size:=lt_of_cell hPB
 obtain ⟨i1,hiI,hy0,hy1,hy2⟩:=info_parts Tryz.infoMem
 clear hexit h
 go_loopw [44,10] (fun a b wr=>∃ i:Nat,i≤p.n∧a=.int .i64 i∧b=.int .i64 ((List.range i).countP (bitI fa):Nat)∧Hid (NMy w wr base Z C p cc clk m0 i)∧Hid (Turns C C w wr)) (fun a _ _=>p.n - (intOf a).toNat)
 case atStart=>exact ⟨0,Nat.zero_le _,rfl,rfl,HH.out,Turns.refl _ _ _⟩
 case round =>
  obtain ⟨i,hi,rfl,rfl,hN,hTu⟩:=hrel
  by_cases hlt:i<p.n
  ·have ii:(i:Int)<(p.n:Int):=by omega
   obtain ⟨V12,⟨Of,m,hfix,hNM⟩,hfr⟩:=hN.out
   have hli:=refLies_any C fa i (by omega) wr ((hNM.cel 10 (by decide) (by decide)).trans e10)
   have HCN:Hid ((List.range (i+1)).countP (bitI fa)=(List.range i).countP (bitI fa)+(if bitI fa i=true then 1 else 0)):=by
    show _=_
    cases hb:bitI fa i <;> simp [List.range_succ,List.countP_append,hb]
   have hcl:(List.range i).countP (bitI fa)≤i:=by
    have:=List.countP_le_length (p:=bitI fa) (l:=List.range i)
    simpa using this
   have HNM:Hid (NM wr base Z Of C p cc clk m i 0 (fun _ _=>false) V12 (.slice none 0 0)):=hNM
   have HFR:Hid (∀ g,V12.ownBlock=some g→w.heap.size≤g):=hfr
   have HFX:Hid (RMap.fix m m0):=hfix
   obtain ⟨CT,hCT⟩:∃ CT,(List.range i).countP (bitI fa)=CT:=⟨_,rfl⟩
   rw [hCT] at HCN hcl
   rw [hCT]
   clear hNM hfr hfix hCT hN
   have STEP:Hid (∀ q (V':Value) (w1 w3:World),Below (wr.drewN q).heap.size (wr.drewN q) w1→RefNode w1 ((wr.drewN q).heap.size+1) (wr.drewN q).heap.size i p.n (fun _=>true) 1 0 false→w3.ownsRow base 77 1 V' (i+1) (((List.range i).map fun j=>.pointer (some ⟨m.P j,0,none⟩)) ++ [.pointer (some ⟨(wr.drewN q).heap.size+1,0,none⟩)])→(w1.alloc (.cells #[.pointer (some ⟨(wr.drewN q).heap.size+1,0,none⟩)] 77)).grownBy w3 V12.ownBlock→(V'.ownBlock=V12.ownBlock∨V'.ownBlock=some (w1.heap.size+1))→NMy w (w3.setCell ⟨C,12,none⟩ V') base Z C p cc clk m0 (i+1)∧Turns C C w (w3.setCell ⟨C,12,none⟩ V')):=fun q V' w1 w3 b1 hRN ho hg hat=>by
    have hq:NM (wr.drewN q) base Z Of C p cc clk m i 0 (fun _ _=>false) V12 (.slice none 0 0):=HNM.out.below ⟨rfl,rfl,rfl,Nat.le_refl _,fun _ _=>rfl⟩
    obtain ⟨Of',hN'⟩:=hq.addNode b1 hRN (Nat.le_succ _) (Nat.le_refl _) ho hg hat
    have hwq:w.heap.size≤wr.heap.size:=hTu.out.size
    have hs1:wr.heap.size≤w1.heap.size:=b1.size
    refine ⟨⟨V',⟨Of',_,?_,hN'⟩,fun g hg'=>?_⟩,?_⟩
    ·exact HFX.out
    ·rcases hat with y | y
     ·exact HFR.out g (by rw [← y];exact hg')
     ·rw [y] at hg';have:=Option.some.inj hg';omega
    ·have hs3:w1.heap.size+1≤w3.heap.size:=by
      have:=hg.size
      rw [show (w1.alloc (.cells #[.pointer (some ⟨(wr.drewN q).heap.size+1,0,none⟩)] 77)).heap.size=w1.heap.size+1 by simp] at this
      exact this
     refine ⟨hg.os.trans (b1.os.trans hTu.out.os),hg.tape.trans (b1.tape.trans hTu.out.tape),hg.output.trans (b1.output.trans hTu.out.output),?_,fun c hc h1 h2=>?_⟩
     ·rw [show (w3.setCell ⟨C,12,none⟩ V').heap.size=w3.heap.size by simp]
      omega
     ·refine (Below.heap_setCell _ _ _ c h1).trans ((hg.block c (by simp;omega) (fun e=>?_)).trans ((((Below.refl w1.heap.size w1).alloc (Nat.le_refl _) _).block c (by omega)).trans ((b1.block c (show c<wr.heap.size by omega)).trans (hTu.out.block c hc h1 h2))))
      have:=HFR.out c e.symm
      omega
   have zPB:wr.cell? ⟨PB,0,none⟩=some (.int .i64 p.n):=(hTu.out.cell (p:=⟨PB,0,none⟩) lPB hPC hPC).trans hPB
   have lPr:PB<wr.heap.size:=Nat.lt_of_lt_of_le lPB hTu.out.size
   have lCr:=HNM.out.lC
   obtain ⟨a12,c12v,h12⟩:=owns_form HNM.out.own12
   have HNEW:Hid (∀ q,Calls Tryz.prog 34 #[.int .i64 i,.int .i64 p.n] (wr.drewN q) fun e w'=>e=.returned (.tuple #[.pointer (some ⟨(wr.drewN q).heap.size+1,0,none⟩),.bool true])∧RefNode w' ((wr.drewN q).heap.size+1) (wr.drewN q).heap.size i p.n (fun _=>true) 1 0 false∧Below (wr.drewN q).heap.size (wr.drewN q) w'):=fun q=>refNew_good i p.n (wr.drewN q) hn1 hn (by omega) ii
   subst h12
   cases hbf:bitI fa i
   ·rw [hbf] at hli HCN
    go_wp2_with fail
    refine hli.mono ?_
    rintro ev w2 ⟨rfl,q,rfl⟩
    clear hli
    go_wp2_with fail
    refine (HNEW.out q).mono ?_
    rintro ev w1 ⟨rfl,hRN,hb1⟩
    have h1:=HNM.out.below (w':=w1) (Below.trans (⟨rfl,rfl,rfl,Nat.le_refl _,fun _ _=>rfl⟩:Below wr.heap.size wr (wr.drewN q)) hb1)
    have y12:=h1.c12
    have z12:=h1.z 12
    have lC1:=h1.lC
    have hsz1:=h1.sz
    have HOw:Hid (w1.ownsRow base 77 1 (.slice a12 i c12v) i ((List.range i).map fun j=>.pointer (some ⟨m.P j,0,none⟩))):=h1.own12
    have HST:Hid (∀ (V':Value) (w3:World),w3.ownsRow base 77 1 V' (i+1) (((List.range i).map fun j=>.pointer (some ⟨m.P j,0,none⟩)) ++ [.pointer (some ⟨(wr.drewN q).heap.size+1,0,none⟩)])→(w1.alloc (.cells #[.pointer (some ⟨(wr.drewN q).heap.size+1,0,none⟩)] 77)).grownBy w3 (Value.slice a12 i c12v).ownBlock→(V'.ownBlock=(Value.slice a12 i c12v).ownBlock∨V'.ownBlock=some (w1.heap.size+1))→NMy w (w3.setCell ⟨C,12,none⟩ V') base Z C p cc clk m0 (i+1)∧Turns C C w (w3.setCell ⟨C,12,none⟩ V')):=fun V' w3 a b c=>STEP.out q V' w1 w3 hb1 hRN a b c
    have hC12:(Value.slice a12 i c12v).ownBlock≠some C:=fun e=>h1.nC (by simp [e])
    have HC12:Hid ((Value.slice a12 i c12v).ownBlock≠some C):=hC12
    clear h1 hRN hb1 hC12
    generalize (wr.drewN q).heap.size+1=NP at *
    go_wp2_with (at_builtin;refine wpList_append_own_at _ rfl _ _ 59 rfl base 77 i1 (.pointer none) 1 8 Tryz.underlying59 hiI hy0 hy1 hy2 rfl (by decide) (.slice a12 i c12v) i _ rfl (World.ownsRow.alloc HOw.out _) ⟨w1.heap.size,0,none⟩ 1 1 [.pointer (some ⟨NP,0,none⟩)] rfl rfl (cell_one_new _ _ _) (by simp [Value.oneCell']) (by unfold maxLen;omega) (by omega) (by simp;omega) ?_;apply Hid.out)
    unfold Hid
    intro V' w3 hown' hgrow _ hat
    obtain ⟨a3,c3,rfl⟩:=owns_form hown'
    have HN3:Hid _:=HST.out _ w3 hown' hgrow (by simpa using hat)
    have lA:C<(w1.alloc (.cells #[.pointer (some ⟨NP,0,none⟩)] 77)).heap.size:=by simp;omega
    have x12:w3.cell? ⟨C,12,none⟩=some (.slice a12 i c12v):=(hgrow.cell_far ⟨C,12,none⟩ lA (Ne.symm HC12.out)).trans ((World.cell?_alloc_lt _ _ _ lC1).trans y12)
    have v12:w3.frozen? ⟨C,12,none⟩=false:=(hgrow.frozen_far ⟨C,12,none⟩ lA (Ne.symm HC12.out)).trans (by
     rw [show (w1.alloc (.cells #[.pointer (some ⟨NP,0,none⟩)] 77)).frozen? ⟨C,12,none⟩=w1.frozen? ⟨C,12,none⟩ from ((Below.refl w1.heap.size w1).alloc (Nat.le_refl _) _).frozen (p:=⟨C,12,none⟩) lC1]
     exact z12)
    have lC3:C<w3.heap.size:=lt_of_cell x12
    clear hown' hgrow hat HST HOw y12 z12
    go_wp2
    exact ⟨⟨i+1,by omega,by go_num,by rw [HCN.out];simp,HN3.out.1,HN3.out.2⟩,by simp [intOf];omega⟩
   ·rw [hbf] at hli HCN
    go_wp2_with fail
    refine hli.mono ?_
    rintro ev w2 ⟨rfl,q,rfl⟩
    clear hli
    go_wp2_with fail
    refine (HNEW.out q).mono ?_
    rintro ev w1 ⟨rfl,hRN,hb1⟩
    have h1:=HNM.out.below (w':=w1) (Below.trans (⟨rfl,rfl,rfl,Nat.le_refl _,fun _ _=>rfl⟩:Below wr.heap.size wr (wr.drewN q)) hb1)
    have y12:=h1.c12
    have z12:=h1.z 12
    have lC1:=h1.lC
    have hsz1:=h1.sz
    have HOw:Hid (w1.ownsRow base 77 1 (.slice a12 i c12v) i ((List.range i).map fun j=>.pointer (some ⟨m.P j,0,none⟩))):=h1.own12
    have HST:Hid (∀ (V':Value) (w3:World),w3.ownsRow base 77 1 V' (i+1) (((List.range i).map fun j=>.pointer (some ⟨m.P j,0,none⟩)) ++ [.pointer (some ⟨(wr.drewN q).heap.size+1,0,none⟩)])→(w1.alloc (.cells #[.pointer (some ⟨(wr.drewN q).heap.size+1,0,none⟩)] 77)).grownBy w3 (Value.slice a12 i c12v).ownBlock→(V'.ownBlock=(Value.slice a12 i c12v).ownBlock∨V'.ownBlock=some (w1.heap.size+1))→NMy w (w3.setCell ⟨C,12,none⟩ V') base Z C p cc clk m0 (i+1)∧Turns C C w (w3.setCell ⟨C,12,none⟩ V')):=fun V' w3 a b c=>STEP.out q V' w1 w3 hb1 hRN a b c
    have hC12:(Value.slice a12 i c12v).ownBlock≠some C:=fun e=>h1.nC (by simp [e])
    have HC12:Hid ((Value.slice a12 i c12v).ownBlock≠some C):=hC12
    clear h1 hRN hb1 hC12
    generalize (wr.drewN q).heap.size+1=NP at *
    go_wp2_with (at_builtin;refine wpList_append_own_at _ rfl _ _ 59 rfl base 77 i1 (.pointer none) 1 8 Tryz.underlying59 hiI hy0 hy1 hy2 rfl (by decide) (.slice a12 i c12v) i _ rfl (World.ownsRow.alloc HOw.out _) ⟨w1.heap.size,0,none⟩ 1 1 [.pointer (some ⟨NP,0,none⟩)] rfl rfl (cell_one_new _ _ _) (by simp [Value.oneCell']) (by unfold maxLen;omega) (by omega) (by simp;omega) ?_;apply Hid.out)
    unfold Hid
    intro V' w3 hown' hgrow _ hat
    obtain ⟨a3,c3,rfl⟩:=owns_form hown'
    have HN3:Hid _:=HST.out _ w3 hown' hgrow (by simpa using hat)
    have lA:C<(w1.alloc (.cells #[.pointer (some ⟨NP,0,none⟩)] 77)).heap.size:=by simp;omega
    have x12:w3.cell? ⟨C,12,none⟩=some (.slice a12 i c12v):=(hgrow.cell_far ⟨C,12,none⟩ lA (Ne.symm HC12.out)).trans ((World.cell?_alloc_lt _ _ _ lC1).trans y12)
    have v12:w3.frozen? ⟨C,12,none⟩=false:=(hgrow.frozen_far ⟨C,12,none⟩ lA (Ne.symm HC12.out)).trans (by
     rw [show (w1.alloc (.cells #[.pointer (some ⟨NP,0,none⟩)] 77)).frozen? ⟨C,12,none⟩=w1.frozen? ⟨C,12,none⟩ from ((Below.refl w1.heap.size w1).alloc (Nat.le_refl _) _).frozen (p:=⟨C,12,none⟩) lC1]
     exact z12)
    have lC3:C<w3.heap.size:=lt_of_cell x12
    clear hown' hgrow hat HST HOw y12 z12
    go_wp2
    exact ⟨⟨i+1,by omega,by go_num,by rw [HCN.out];simp,HN3.out.1,HN3.out.2⟩,by simp [intOf];omega⟩
  ·obtain rfl:i=p.n:=by omega
   go_wp2
   exact HEX.out _ _ hN.out hTu.out rfl (Rest.of rfl) rfl rfl
end
end Go.Proofs.YtooadfgibdjdeaaGreatDoor
