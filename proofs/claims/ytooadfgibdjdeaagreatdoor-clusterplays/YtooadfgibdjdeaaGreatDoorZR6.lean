import Derived.Test.YtooadfgibdjdeaaGreatDoorZS12a
import Derived.Deep.AppendLies
import Derived.Deep.RegionHeld3
import Derived.Deep.RegionWith
import Derived.OwnWalk
namespace Go.Proofs.YtooadfgibdjdeaaGreatDoor
open Go.RowKit
set_option maxRecDepth 100000
set_option maxHeartbeats 16000000
section
theorem owns_tri {e:TypeId} {w:World} {base n:Nat} {v:Value} {f g' h':Nat→Int} (h:w.ownsRow base e 3 v n (slotCells f g' h' n)):∃ a cap,v=.slice a n cap∧Rows3 w a n f g' h'∧∀ b off s,a=some ⟨b,off,s⟩→base≤b∧b<w.heap.size:=by
 rcases h.2 with ⟨rfl,rfl⟩ | ⟨g,cap,cur,rfl,hg,hh,_⟩
 ·exact ⟨none,0,rfl,fun q=>absurd q (Nat.lt_irrefl _),fun _ _ _ e=>by cases e⟩
 ·have hlt:g<w.heap.size:=by
   rcases Nat.lt_or_ge g w.heap.size with q | q
   ·exact q
   ·rw [Array.getElem?_eq_none q] at hh;cases hh
  refine ⟨_,_,rfl,fun _=>⟨g,0,rfl,hlt,fun j hj=>?_⟩,fun b off s e=>by cases e;exact ⟨hg,hlt⟩⟩
  have h3:=triCells_at (fun i=>.int .i64 (f i)) (fun i=>.int .i64 (g' i)) (fun i=>.int .i64 (h' i)) n j hj
  have c:=fun i u (hi:(slotCells f g' h' n)[i]? = some u)=>h.cells (g:=g) rfl i u hi
  refine ⟨?_,?_,?_⟩
  ·have:=c _ _ h3.1;rw [add_at] at this;exact this
  ·have:=c _ _ h3.2.1;rw [add_at] at this;exact this
  ·have:=c _ _ h3.2.2;rw [add_at] at this;exact this
theorem slotCells_succ (f g h:Nat→Int) (n:Nat):slotCells f g h (n+1)=slotCells f g h n ++ [.int .i64 (f n),.int .i64 (g n),.int .i64 (h n)]:=by
 unfold slotCells
 rfl
theorem tri_new (v:World) (a b c:Value) (t:TypeId):∀ (j:Nat) (u:Value),[a,b,c][j]? = some u→(v.alloc (.cells #[a,b,c] t)).drew.cell? ((⟨v.heap.size,0,none⟩:Addr).add j)=some u:=fun j u hu=>by
 rw [add_at,Nat.zero_add]
 have:=World.cell?_alloc_new v #[a,b,c] t j
 refine this.trans ?_
 simpa using hu
end
section
structure DR (w wr:World) (g n:Nat) (f:Nat→Int):Prop where
 c:∀ j,j<n→wr.cell? ⟨g,j,none⟩=some (.int .i64 (f j))
 z:∀ j,wr.frozen? ⟨g,j,none⟩=false
 t:Turns g g w wr
theorem DR.set {w wr:World} {g n:Nat} {f f':Nat→Int} (h:DR w wr g n f) {i:Nat} {x:Int} (hf:∀ j,j<n→f' j=if j=i then x else f j):DR w (wr.setCell ⟨g,i,none⟩ (.int .i64 x)) g n f' :=
 ⟨fun j hj=>by
  rw [hf j hj]
  by_cases e:j=i
  ·subst e;rw [if_pos rfl];exact cell_set (h.c j hj)
  ·rw [if_neg e];exact (cell_other (.inr e)).trans (h.c j hj),fun j=>soft_set.trans (h.z j),h.t.set (p:=⟨g,i,none⟩) (.inl rfl) _⟩
theorem DR.same {w wr:World} {g n:Nat} {f f':Nat→Int} (h:DR w wr g n f) (hf:∀ j,j<n→f' j=f j):DR w wr g n f':=⟨fun j hj=>by rw [hf j hj];exact h.c j hj,h.z,h.t⟩
theorem DR.drawn {w wr:World} {g n:Nat} {f:Nat→Int} (h:DR w wr g n f) (q:Nat):DR w (wr.drewN q) g n f:=⟨h.c,h.z,h.t.trans (Turns.drawn q)⟩
theorem beyondB_succ (c:Nat→Int) (n:Nat):beyondB (n+1) c=(beyondB n c || decide (c n < -274877906944∨274877906944<c n)):=by
 unfold beyondB
 rw [List.range_succ,List.any_append]
 simp
theorem beyondB_mono {c:Nat→Int} {k:Nat} (h:beyondB k c=true):∀ n,k≤n→beyondB n c=true:=fun n hn=>by
 unfold beyondB at h ⊢
 rw [List.any_eq_true] at h ⊢
 obtain ⟨x,hx,hp⟩:=h
 exact ⟨x,List.mem_range.2 (by have:=List.mem_range.1 hx;omega),hp⟩
def w_rp_add_0 (k:Nat):Bool:=(decide (184≤k) && decide (k≤199))
theorem rp_add (code:Code) (hcode:Tryz.f10.body.bind (regionIn 29)=some code) (Q:Exit→Act→World→Prop) (C g n gc b off nD dc i:Nat) (drift FI DI DV:Int) (w:World) (hi:(i:Int)<(n:Int)) (hd:(i:Int)<(nD:Int)) (yg:w.cell? ⟨g,i,none⟩=some (.int .i64 FI)) (zg:w.frozen? ⟨g,i,none⟩=false) (y4:w.cell? ⟨C,4,none⟩=some (.int .i64 drift)) (yd:w.cell? ⟨b,off+i,none⟩=some (.int .i64 DI)) (hb1:-4398046511104≤FI) (hb2:FI≤4398046511104) (hv1:-137438953472≤DV) (hv2:DV≤137438953472)
  (hcut:∀ v:World,Calls Tryz.prog 41 #[.int .i64 DI,.int .i64 drift] v fun e w'=>e=.returned (.int .i64 DV)∧w'=v) {L:List Value} (hL0:L.length=452) (s0:L[0]? = some (.pointer (some ⟨C,0,none⟩))) (s3:L[3]? = some (.slice (some ⟨b,off,none⟩) nD dc)) (s18:L[18]? = some (.slice (some ⟨g,0,none⟩) n gc)) (s20:L[20]? = some (.int .i64 i))
  (hexit:∀ (L':List Value),L'.length=452→Rest w_rp_add_0 L L'→Q .normal ⟨L'.toArray,[]⟩ (w.setCell ⟨g,i,none⟩ (.int .i64 (FI+DV))).drew) :
  Code.wp Tryz.prog code Q ⟨L.toArray,[]⟩ w:=by
 have hb2':(Tryz.f10.body.bind (regionIn 29)).getD Code.skip=code:=by rw [hcode];rfl
 obtain rfl:=hb2'
 clear hcode
 conv=>arg 2;whnf
 have HEX:Hid _:=hexit
 obtain ⟨fL,rfl⟩:=lit L 452 hL0
 replace s0:=lit_at s0
 replace s3:=lit_at s3
 replace s18:=lit_at s18
 replace s20:=lit_at s20
 simp only [List.range,List.range.loop,List.map_cons,List.map_nil,s0,s3,s18,s20]
 have HCUT:Hid _:=hcut
 clear hexit hcut
 have hwr:IntKind.i64.wrap (FI+DV)=FI+DV:=by rw [IntKind.wrap_i64];omega
 refine wp_region_noPanic ?_
 go_region_with (first | (go_at_call 41;refine (HCUT.out _).mono ?_;rintro e v4 ⟨rfl,rfl⟩))
 all_goals (refine NoPanic.normal ?_;exact HEX.out _ rfl (Rest.of rfl))
def w_rp_drift_1 (k:Nat):Bool:=decide (k=20) || (decide (177≤k) && decide (k≤206))
def w_rp_drift_0 (k:Nat):Bool:=decide (k=10) || decide (k=20) || (decide (177≤k) && decide (k≤206))
theorem rp_drift (body:Code) (hbody:(Tryz.f10.body.map loopsIn).bind (fun l=>l[3]?)=some body) (Q:Exit→Act→World→Prop) (C g n gc:Nat) (drift:Int) (da:Option Addr) (dc:Nat) (drifts:List Int) (f:Nat→Int) (w:World) (hn:n≤16) (hD:DR w w g n f) (hgl:g<w.heap.size) (hgC:C≠g) (hcd:w.cell? ⟨C,4,none⟩=some (.int .i64 drift)) (hd0:0≤drift) (hd1:drift≤137438953472) (hr:IntRow w da drifts) (hrg:∀ b off,da=some ⟨b,off,none⟩→0<drifts.length→b≠g) (hlen:drifts.length≤9223372036854775807)
  (hf:∀ j,j<n→-4398046511104≤f j∧f j≤4398046511104) {L:List Value} (hL0:L.length=452) (s0:L[0]? = some (.pointer (some ⟨C,0,none⟩))) (s3:L[3]? = some (.slice da drifts.length dc)) (s10:L[10]? = some (.int .i64 0)) (s18:L[18]? = some (.slice (some ⟨g,0,none⟩) n gc)) (s176:L[176]? = some (.int .i64 n)) (s177:L[177]? = some (.int .i64 0))
  (hexit:∀ (L':List Value) (wr:World),beyondB n (fun j=>f j+driftV drifts drift j)=false→DR w wr g n (fun j=>f j+driftV drifts drift j)→L'.length=452→Rest w_rp_drift_1 L L'→L'[177]? = some (.int .i64 n)→Q (.exit 6) ⟨L'.toArray,[]⟩ wr)
  (hret:∀ (L':List Value) (wr:World),beyondB n (fun j=>f j+driftV drifts drift j)=true→Turns g g w wr→L'.length=452→Rest w_rp_drift_0 L L'→L'[10]? = some (.int .i64 6)→Q .ret ⟨L'.toArray,[]⟩ wr) :
  Code.wp Tryz.prog (Code.loop body) Q ⟨L.toArray,[]⟩ w:=by
 have hb2:((Tryz.f10.body.map loopsIn).bind (fun l=>l[3]?)).getD Code.skip=body:=by rw [hbody];rfl
 obtain rfl:=hb2
 clear hbody
 conv=>arg 2;arg 1;whnf
 have HEX:Hid _:=hexit
 have HRT:Hid _:=hret
 obtain ⟨fL,rfl⟩:=lit L 452 hL0
 replace s0:=lit_at s0
 replace s3:=lit_at s3
 replace s10:=lit_at s10
 replace s18:=lit_at s18
 replace s176:=lit_at s176
 replace s177:=lit_at s177
 simp only [List.range,List.range.loop,List.map_cons,List.map_nil,s0,s3,s10,s18,s176,s177]
 have HR:Hid (IntRow w da drifts):=hr
 have HRG:Hid (∀ b off,da=some ⟨b,off,none⟩→0<drifts.length→b≠g):=hrg
 have HF:Hid (∀ j,j<n→-4398046511104≤f j∧f j≤4398046511104):=hf
 have HD:Hid (DR w w g n f):=hD
 have hlC:C<w.heap.size:=lt_of_cell hcd
 clear hexit hret hr hrg hf hD
 go_loopw [177,10] (fun a e0 wr=>∃ i:Nat,i≤n∧a=.int .i64 i∧e0=.int .i64 0∧Hid (DR w wr g n (fun j=>if j<i then f j+driftV drifts drift j else f j))∧Hid (beyondB i (fun j=>f j+driftV drifts drift j)=false)) (fun a _ _=>n - (intOf a).toNat)
 case atStart=>exact ⟨0,Nat.zero_le _,rfl,rfl,HD.out.same (fun j _=>by rw [if_neg (Nat.not_lt_zero _)]),rfl⟩
 case round =>
  obtain ⟨i,hi,rfl,rfl,hDR,hbe⟩:=hrel
  by_cases hlt:i<n
  ·have ii:(i:Int)<(n:Int):=by omega
   have yg:wr.cell? ⟨g,i,none⟩=some (.int .i64 (f i)):=by
    have:=hDR.out.c i hlt
    rw [if_neg (Nat.lt_irrefl _)] at this
    exact this
   have zg:=hDR.out.z i
   have y4:wr.cell? ⟨C,4,none⟩=some (.int .i64 drift):=(hDR.out.t.cell (p:=⟨C,4,none⟩) hlC hgC hgC).trans hcd
   have lgr:g<wr.heap.size:=Nat.lt_of_lt_of_le hgl hDR.out.t.size
   have lcr:C<wr.heap.size:=Nat.lt_of_lt_of_le hlC hDR.out.t.size
   obtain ⟨b1,b2⟩:=HF.out i hlt
   have hdv:=driftV_in (drifts:=drifts) hd0 i
   have HBS:Hid (beyondB (i+1) (fun j=>f j+driftV drifts drift j)=(beyondB i (fun j=>f j+driftV drifts drift j) || decide (f i+driftV drifts drift i < -274877906944∨274877906944<f i+driftV drifts drift i))):=beyondB_succ _ _
   obtain ⟨DV,hDV⟩:∃ DV,driftV drifts drift i=DV:=⟨_,rfl⟩
   have HDV:Hid (driftV drifts drift i=DV):=hDV
   rw [hDV] at HBS hdv
   have HIN:=in_is (f i+DV) (-274877906944) 274877906944
   have HINH:Hid (∀ v:World,Calls Tryz.prog 31 #[.int .i64 (f i+DV),.int .i64 (-274877906944),.int .i64 274877906944] v fun e w'=>e=.returned (.bool (decide (-274877906944≤f i+DV∧f i+DV≤274877906944)))∧w'=v):=HIN
   clear HIN hDV
   by_cases hdl:i<drifts.length
   ·have hdd:DV=cutV (drifts.getD i 0) drift:=by
     rw [← HDV.out]
     unfold driftV
     rw [if_pos hdl]
    obtain ⟨b,off,rfl,hbl,hc⟩:=HR.out (by omega)
    have hbg:=HRG.out b off rfl (by omega)
    have yd:wr.cell? ⟨b,off+i,none⟩=some (.int .i64 (drifts.getD i 0)):=(hDR.out.t.cell (p:=⟨b,off+i,none⟩) hbl hbg hbg).trans (hc i hdl)
    have kd:(i:Int)<(drifts.length:Int):=by omega
    have hcut:∀ v:World,Calls Tryz.prog 41 #[.int .i64 (drifts.getD i 0),.int .i64 drift] v fun e w'=>e=.returned (.int .i64 DV)∧w'=v:=fun v=>by
     have:=refCut_any (drifts.getD i 0) drift hd0 (by omega) v
     rw [← hdd] at this
     exact this
    have HCUT:Hid _:=hcut
    have HD2:Hid (DR w (wr.setCell ⟨g,i,none⟩ (.int .i64 (f i+DV))).drew g n (fun j=>if j<i+1 then f j+driftV drifts drift j else f j)):=DR.drawn (q:=1) (hDR.out.set (fun j hj=>by
     by_cases e:j=i
     ·subst e;rw [if_pos (Nat.lt_succ_self _),if_pos rfl,HDV.out]
     ·rw [if_neg e]
      by_cases e2:j<i
      ·rw [if_pos (by omega),if_pos e2]
      ·rw [if_neg (by omega),if_neg e2]))
    clear hc hdd hcut
    generalize drifts.getD i 0=DI at *
    generalize f i=FI at *
    go_wp2_with fail
    refine rp_add _ (by rfl) _ C g n gc b off drifts.length dc i drift FI DI DV wr ii kd yg zg y4 yd b1 b2 (by omega) (by omega) HCUT.out rfl rfl rfl rfl rfl ?_
    intro L2  hN9 hQ9
    obtain ⟨gL,rfl⟩:=hQ9.over (hN9.trans rfl)
    clear hQ9 hN9
    simp (decide:=true) only [ov,if_true,if_false,Nat.reduceAdd]
    have HDR2:=HD2.out
    have yg2:(wr.setCell ⟨g,i,none⟩ (.int .i64 (FI+DV))).drew.cell? ⟨g,i,none⟩=some (.int .i64 (FI+DV)):=cell_set yg
    have lg2:g<(wr.setCell ⟨g,i,none⟩ (.int .i64 (FI+DV))).drew.heap.size:=by simpa using lgr
    generalize (wr.setCell ⟨g,i,none⟩ (.int .i64 (FI+DV))).drew=w5 at *
    have HDR3:Hid _:=HDR2
    clear HDR2 yg zg y4 yd
    by_cases hin:-274877906944≤FI+DV∧FI+DV≤274877906944
    ·have HC:Hid (beyondB (i+1) (fun j=>f j+driftV drifts drift j)=false):=by
      show _=_
      rw [HBS.out,hbe.out,Bool.false_or]
      exact decide_eq_false (by omega)
     have hcall:=HINH.out w5
     rw [decide_eq_true hin] at hcall
     clear hin
     go_wp2_with fail
     refine hcall.mono ?_
     rintro ev w6 ⟨rfl,hw6⟩
     replace hw6:=hw6.symm
     subst hw6
     clear hcall
     go_wp2
     exact ⟨⟨i+1,by omega,by go_num,rfl,HDR3.out,HC.out⟩,by simp [intOf];omega⟩
    ·have HC:Hid (beyondB n (fun j=>f j+driftV drifts drift j)=true):=by
      refine beyondB_mono (k:=i+1) ?_ n (by omega)
      rw [HBS.out,hbe.out,Bool.false_or]
      exact decide_eq_true (by omega)
     have hcall:=HINH.out w5
     rw [decide_eq_false hin] at hcall
     clear hin
     go_wp2_with fail
     refine hcall.mono ?_
     rintro ev w6 ⟨rfl,hw6⟩
     replace hw6:=hw6.symm
     subst hw6
     clear hcall
     go_wp2
     exact HRT.out _ _ HC.out HDR3.out.t rfl (Rest.of rfl) rfl
   ·have hdd:DV=0:=by
     rw [← HDV.out]
     unfold driftV
     rw [if_neg hdl]
    have HDR3:Hid (DR w wr g n (fun j=>if j<i+1 then f j+driftV drifts drift j else f j)):=hDR.out.same (fun j hj=>by
     by_cases e:j=i
     ·subst e;rw [if_pos (Nat.lt_succ_self _),if_neg (Nat.lt_irrefl _),HDV.out,hdd];omega
     ·by_cases e2:j<i
      ·rw [if_pos (by omega),if_pos e2]
      ·rw [if_neg (by omega),if_neg e2])
    have kd:decide ((i:Int)<(drifts.length:Int))=false:=decide_eq_false (by omega)
    have kd2:decide (i<drifts.length)=false:=decide_eq_false hdl
    subst hdd
    rw [Int.add_zero] at HBS HINH
    generalize f i=FI at *
    clear hdl
    by_cases hin:-274877906944≤FI∧FI≤274877906944
    ·have HC:Hid (beyondB (i+1) (fun j=>f j+driftV drifts drift j)=false):=by
      show _=_
      rw [HBS.out,hbe.out,Bool.false_or]
      exact decide_eq_false (by omega)
     have hcall:=HINH.out wr
     rw [decide_eq_true hin] at hcall
     clear hin
     go_wp2_with fail
     refine hcall.mono ?_
     rintro ev w6 ⟨rfl,hw6⟩
     replace hw6:=hw6.symm
     subst hw6
     clear hcall
     go_wp2
     exact ⟨⟨i+1,by omega,by go_num,rfl,HDR3.out,HC.out⟩,by simp [intOf];omega⟩
    ·have HC:Hid (beyondB n (fun j=>f j+driftV drifts drift j)=true):=by
      refine beyondB_mono (k:=i+1) ?_ n (by omega)
      rw [HBS.out,hbe.out,Bool.false_or]
      exact decide_eq_true (by omega)
     have hcall:=HINH.out wr
     rw [decide_eq_false hin] at hcall
     clear hin
     go_wp2_with fail
     refine hcall.mono ?_
     rintro ev w6 ⟨rfl,hw6⟩
     replace hw6:=hw6.symm
     subst hw6
     clear hcall
     go_wp2
     exact HRT.out _ _ HC.out HDR3.out.t rfl (Rest.of rfl) rfl
  ·obtain rfl:i=n:=by omega
   go_wp2
   exact HEX.out _ _ hbe.out (hDR.out.same (fun j hj=>by rw [if_pos hj])) rfl (Rest.of rfl) rfl
end
section
section
variable {w:World} {base:Nat} {Z:List Nat} {Of:CIx→List Nat} {C:Nat} {p:PlanN} {cc:Nat→Option Value} {clk:List Nat} {m:RMap} {i k:Nat} {T:Nat→Nat→Bool} {V12 V13:Value}
theorem NM.addTaker (h:NM w base Z Of C p cc clk m i k T V12 V13) (a b:Nat) (ha:a<8) (hb:b<16) (hT:T a b=false) :
  ∃ w2 Of',(Instr.mapUpdate 61 (.map (some m.tb)) (.agg #[.int .i64 a,.int .i64 b]) (.pointer (some ⟨w.heap.size,0,none⟩))).run Tryz.prog (w.alloc (.cells #[.int .i64 (-1),.int .i64 0,.int .i64 0] 111))=.ok () w2 ∧
   NM w2 base Z Of' C p cc clk { m with R:=fun x y=>if x=a∧y=b then w.heap.size else m.R x y } i k (fun x y=>T x y || decide (x=a∧y=b)) V12 V13∧Turns m.tb m.tb (w.alloc (.cells #[.int .i64 (-1),.int .i64 0,.int .i64 0] 111)) w2:=by
 have hal:Below w.heap.size w (w.alloc (.cells #[.int .i64 (-1),.int .i64 0,.int .i64 0] 111)):=(Below.refl _ _).alloc (Nat.le_refl _) _
 have hR:=refRcv_new (w:=w) (-1)
 have hs1:(w.alloc (.cells #[.int .i64 (-1),.int .i64 0,.int .i64 0] 111)).heap.size=w.heap.size+1:=by simp
 generalize hw1:w.alloc (.cells #[.int .i64 (-1),.int .i64 0,.int .i64 0] 111)=w1 at *
 have h1:=h.below hal
 obtain ⟨g,hg,hr⟩:=h1.tk
 obtain ⟨w2,hrun,hg2,hT2⟩:=hg.put (t:=61) (e:=109) Tryz.underlying61 (.pointer (some ⟨w.heap.size,0,none⟩)) ha hb
 have ltb:m.tb<w.heap.size:=h.fam.lt iB _ (by rw [h.ob];simp)
 have hfam:Fam w1 (setO Of (iR a b) [w.heap.size]):=h.fam.add hal (h.eR a b hT) (fun c hc=>by
  rw [List.mem_singleton.1 hc,hs1]
  exact ⟨Nat.le_refl _,Nat.lt_succ_self _⟩)
 have hob:setO Of (iR a b) [w.heap.size] iB=Of iB:=setO_not _ _ (by intro e;cases e)
 have htm:m.tb∈Of iB:=by rw [h.ob];simp
 have hF:Foot (setO Of (iR a b) [w.heap.size] iB) (setO Of (iR a b) [w.heap.size] iB) w1 w2:=by rw [hob];exact Foot.of_turns hT2 htm htm
 have same:∀ x,x≠iB→Same (setO Of (iR a b) [w.heap.size] x) w1 w2:=fun x hx=>hfam.same hF hx
 have sameO:∀ x,x≠iB→x≠iR a b→Same (Of x) w1 w2:=fun x h1 h2=>by
  have:=same x h1
  rw [setO_not _ _ h2] at this
  exact this
 have lC1:C<w1.heap.size:=h1.lC
 have hCt:C≠m.tb:=fun e=>h.nC (by rw [e];exact List.mem_cons_self)
 have hfam2:Fam w2 (setO Of (iR a b) [w.heap.size]):=⟨fun x c hc=>Nat.lt_of_lt_of_le (hfam.lt x c hc) hT2.size,hfam.ap⟩
 have kb:∀ c,c<w1.heap.size→c≠m.tb→w2.heap[c]? = w1.heap[c]?:=fun c hc hn=>hT2.block c hc hn hn
 have o12:∀ c,V12.ownBlock=some c→c<w1.heap.size∧c≠m.tb:=fun c hc=>⟨h1.fam.lt iB c (by rw [h.ob];simp [hc]),fun e=>h.nT (by rw [← e];simp [hc])⟩
 have o13:∀ c,V13.ownBlock=some c→c<w1.heap.size∧c≠m.tb:=fun c hc=>⟨h1.fam.lt iB c (by rw [h.ob];simp [hc]),fun e=>h.nT (by rw [← e];simp [hc])⟩
 refine ⟨w2,setO Of (iR a b) [w.heap.size],hrun,⟨fun q h2 h3=>(hT2.cell (p:=⟨C,q,none⟩) lC1 hCt hCt).trans (h1.cel q h2 h3),(hT2.cell (p:=⟨C,12,none⟩) lC1 hCt hCt).trans h1.c12,(hT2.cell (p:=⟨C,13,none⟩) lC1 hCt hCt).trans h1.c13,fun q=>(hT2.frozen (p:=⟨C,q,none⟩) lC1 hCt hCt).trans (h1.z q),?_,?_,hob.trans h.ob,h.ap,h.nC,h.nT,h.n12,h.n13,fun j hj=>?_,fun j hj=>?_,fun x y hxy=>?_,⟨_,hg2,fun x y hxy=>?_⟩,⟨?_,?_⟩,fun j hj=>?_,fun j hj=>?_,fun x y hxy=>?_,?_,hfam2,fun x c hx hc=>?_,by have:=h.sz;have:=hT2.size;omega⟩,hT2⟩
 ·exact owns_same (X:=V12.ownBlock.toList) h1.own12 ⟨hT2.size,fun c hc=>kb c (o12 c (by simpa using hc)).1 (o12 c (by simpa using hc)).2⟩ (fun g hg=>by simpa using hg)
 ·exact owns_same (X:=V13.ownBlock.toList) h1.own13 ⟨hT2.size,fun c hc=>kb c (o13 c (by simpa using hc)).1 (o13 c (by simpa using hc)).2⟩ (fun g hg=>by simpa using hg)
 ·have hn:=h1.node j hj
  exact ⟨hn.1.keepS (hn.2▸sameO (iN j) (by intro y;cases y) (by intro y;cases y)),by rw [setO_not _ _ (by intro y;cases y)];exact hn.2⟩
 ·rw [setO_not _ _ (by intro y;cases y)]
  exact (h1.snd j hj).keep (sameO _ (by intro y;cases y) (by intro y;cases y))
 ·by_cases e:x=a∧y=b
  ·obtain ⟨rfl,rfl⟩:=e
   have hs:=same (iR x y) (by intro y;cases y)
   rw [setO_at] at hs
   simp only [and_self,if_true]
   exact ⟨hR.keep hs,setO_at _ _ _⟩
  ·simp only [if_neg e]
   have hne:iR x y≠iR a b:=by intro z;cases z;exact e ⟨rfl,rfl⟩
   have hn:=h1.rcv x y (by simpa [e] using hxy)
   exact ⟨hn.1.keep (hn.2▸sameO (iR x y) (by intro y;cases y) hne),by rw [setO_not _ _ hne];exact hn.2⟩
 ·by_cases e:x=a∧y=b
  ·simp only [if_pos e]
  ·simp only [if_neg e]
   exact hr x y (by simpa [e] using hxy)
 ·rw [setO_not _ _ (by intro y;cases y)]
  exact h1.prt.1
 ·exact h1.prt.2.keep (by have:=sameO iP (by decide) (by intro y;cases y);rw [h1.prt.1] at this;exact this)
 ·rw [setO_not _ _ (by intro y;cases y)]
  exact h.eN j hj
 ·rw [setO_not _ _ (by intro y;cases y)]
  exact h.eS j hj
 ·have e:¬ (x=a∧y=b):=fun e=>by simp [e] at hxy
  rw [setO_not _ _ (by intro z;cases z;exact e ⟨rfl,rfl⟩)]
  exact h.eR x y (by simpa [e] using hxy)
 ·rw [setO_not _ _ (by intro y;cases y)]
  exact h.oz
 ·by_cases e:x=iR a b
  ·subst e
   rw [setO_at] at hc
   rw [List.mem_singleton.1 hc]
   exact h.sz
  ·rw [setO_not _ _ e] at hc
   exact h.lo x c hx hc
def allOf (Of:CIx→List Nat) (p:PlanN):List Nat:=Of iB ++ (Of iP ++ ((List.range p.n).flatMap (fun j=>Of (iN j)) ++ ((List.range p.nl).flatMap (fun j=>Of (iS j)) ++ (List.range p.nl).flatMap fun a=>(List.range p.n).flatMap fun b=>Of (iR a b))))
end
end
section
section
variable {w:World} {O:List Nat} {C:Nat} {p:PlanN} {fa:Int} {cs:List Int} {s:ClS} {rd:Int} {B:Nat} {m:CMap}
theorem cclocks_any (h:Cl w O C p fa cs s rd B m) (hl:cs.length=p.n) (hn1:1≤p.n) (hn:p.n≤16) :
  Calls Tryz.prog 19 #[.pointer (some ⟨C,0,none⟩)] w fun e w'=>∃ a cap,e=.returned (.slice a cs.length cap)∧IntRow w' a cs∧Below w.heap.size w w':=by
 have hr:IntRow w (some ⟨m.cb,0,none⟩) cs:=fun _=>⟨m.cb,0,rfl,h.base.lx _ h.base.ckX,fun j hj=>by rw [Nat.zero_add];exact h.base.ck j hj⟩
 have hck:=cloneC cs (some ⟨m.cb,0,none⟩) p.n m.ccap hl hn1 (by omega) w hr
 have c11:=h.base.c11
 rw [hl] at c11
 clear h
 have HL:Hid (cs.length=p.n):=hl
 rw [hl]
 clear hl
 go_enter Tryz.func19,Tryz.ntmps19
 go_wp2_with fail
 refine hck.mono ?_
 rintro e w1 ⟨g,cp,rfl,⟨hg,hgl⟩,hc,hb⟩
 have HR:Hid (IntRow w1 (some ⟨g,0,none⟩) cs):=fun _=>⟨g,0,rfl,hgl,fun j hj=>by rw [Nat.zero_add];exact hc j hj⟩
 have HB:Hid (Below w.heap.size w w1):=hb
 clear hc hb hck
 go_wp2
 go_ret
 exact ⟨_,_,rfl,HR.out,HB.out⟩
theorem cmembers_bad (h:Cl w O C p fa cs s rd B m) (j:Int) (hj:¬ (0≤j∧j<p.nodes)) :
  Calls Tryz.prog 20 #[.pointer (some ⟨C,0,none⟩),.int .i64 j] w fun e w'=>e=.returned (.tuple #[.int .i64 0,.bool false,errV 2])∧Below w.heap.size w w':=by
 have hi:=cisNode_any C p.nodes j w h.base.c0
 rw [decide_eq_false hj] at hi
 clear h hj
 go_enter Tryz.func20,Tryz.ntmps20
 go_wp2_with fail
 refine hi.mono ?_
 rintro e w1 ⟨rfl,hw⟩
 replace hw:=hw.symm
 subst hw
 clear hi
 go_wp2
 exact bodyPost_ret (v:=.tuple #[.int .i64 0,.bool false,errV 2]) (by simp [results,Tryz.results20,go_sem,errV]) rfl ⟨rfl,Below.refl _ _⟩
theorem cmembers_any (h:Cl w O C p fa cs s rd B m) (j:Nat) (hj:j<p.n) (hnn:p.nodes=(p.n:Int)) :
  Calls Tryz.prog 20 #[.pointer (some ⟨C,0,none⟩),.int .i64 j] w fun e w'=>e=.returned (.tuple #[.int .i64 (bitsV (s.nodes j).t p.n),.bool (s.nodes j).fz,.nilIface])∧Below w.heap.size w w':=by
 have hi:=cisNode_any C p.nodes j w h.base.c0
 rw [decide_eq_true (show 0≤(j:Int)∧(j:Int)<p.nodes by omega)] at hi
 have c13:=h.base.c13
 have y1:=h.base.nd j hj
 have hN:=(h.nod hj).1
 have hm:=fun u (hu:Below w.heap.size w u)=>pMembers_any (hN.same (Same.of_below hu (fun c hc=>by rw [List.mem_singleton.1 hc];exact hN.lp)))
 have hf:=fun u (hu:Below w.heap.size w u)=>pFrozen_any (hN.same (Same.of_below hu (fun c hc=>by rw [List.mem_singleton.1 hc];exact hN.lp)))
 have HM:Hid (∀ u,Below w.heap.size w u→Calls Tryz.prog 55 #[.pointer (some ⟨m.P j,0,none⟩)] u fun e w'=>e=.returned (.int .i64 (bitsV (s.nodes j).t p.n))∧w'=u):=hm
 have HF:Hid (∀ u,Below w.heap.size w u→Calls Tryz.prog 56 #[.pointer (some ⟨m.P j,0,none⟩)] u fun e w'=>e=.returned (.bool (s.nodes j).fz)∧w'=u):=hf
 have ii:(j:Int)<(p.n:Int):=by omega
 generalize bitsV (s.nodes j).t p.n=bv at *
 generalize (s.nodes j).fz=fz at *
 clear h hN hm hf
 go_enter Tryz.func20,Tryz.ntmps20
 go_wp2_with fail
 refine hi.mono ?_
 rintro e w1 ⟨rfl,hw⟩
 replace hw:=hw.symm
 subst hw
 clear hi
 go_wp2_with fail
 refine (HM.out _ (Below.refl _ _)).mono ?_
 rintro e w1 ⟨rfl,hw⟩
 replace hw:=hw.symm
 subst hw
 go_wp2_with fail
 refine (HF.out _ (Below.refl _ _)).mono ?_
 rintro e w1 ⟨rfl,hw⟩
 replace hw:=hw.symm
 subst hw
 go_wp2
 exact bodyPost_ret (v:=.tuple #[.int .i64 bv,.bool fz,.nilIface]) (by simp [results,Tryz.results20,go_sem]) rfl ⟨rfl,Below.refl _ _⟩
end
end
section
theorem Tryz.infoLossP:(Tryz.prog.info? 52).map (fun i=>(i.zero,i.size,i.bytes))=some (some (.agg #[.int .i64 0,.int .i64 0,.int .i64 0]),3,24):=by kernel_rfl
def wLoss (k:Nat):Bool:=decide (k=16) || decide (k=18) || (decide (113≤k) && decide (k≤141))
theorem cp_loss (body:Code) (hbody:(Tryz.f3.body.map loopsIn).bind (fun l=>l[1]?)=some body) (Q:Exit→Act→World→Prop) (QB n lcp:Nat) (la:Option Addr) (ls lc lt:Nat→Int) (w:World) (hn:n≤1000) (y0:w.cell? ⟨QB,0,none⟩=some (.slice la n lcp)) (hr:Rows3 w la n ls lc lt) {L:List Value} (hL:L.length=329) (s15:L[15]? = some (.pointer (some ⟨QB,0,none⟩))) (s16:L[16]? = some (.slice none 0 0)) (s18:L[18]? = some (.int .i64 0))
  (hexit:∀ (L':List Value) (va:Option Addr) (cap:Nat) (wr:World),Rows3 wr va n ls lc lt→(∀ b off s,va=some ⟨b,off,s⟩→w.heap.size≤b∧b<wr.heap.size)→Below w.heap.size w wr→L'.length=329→Rest wLoss L L'→L'[16]? = some (.slice va n cap)→L'[18]? = some (.int .i64 n)→Q (.exit 3) ⟨L'.toArray,[]⟩ wr) :
  Code.wp Tryz.prog (Code.loop body) Q ⟨L.toArray,[]⟩ w:=by
 have hb2:((Tryz.f3.body.map loopsIn).bind (fun l=>l[1]?)).getD Code.skip=body:=by rw [hbody];rfl
 obtain rfl:=hb2
 clear hbody
 conv=>arg 2;arg 1;whnf
 have HEX:Hid _:=hexit
 obtain ⟨fL,rfl⟩:=lit L 329 hL
 replace s15:=lit_at s15
 replace s16:=lit_at s16
 replace s18:=lit_at s18
 simp only [List.range,List.range.loop,List.map_cons,List.map_nil,s15,s16,s18]
 have HR:Hid (Rows3 w la n ls lc lt):=hr
 obtain ⟨i1,hiI,hy0,hy1,hy2⟩:=info_parts Tryz.infoLossP
 have lQ:QB<w.heap.size:=lt_of_cell y0
 clear hexit hr
 go_loopw [18,16] (fun a b wr=>∃ i:Nat,i≤n∧a=.int .i64 i∧Hid (wr.ownsRow w.heap.size 52 3 b i (slotCells ls lc lt i))∧Hid (Below w.heap.size w wr)) (fun a _ _=>n - (intOf a).toNat)
 case atStart=>exact ⟨0,Nat.zero_le _,rfl,World.ownsRow_nil _ _ _ _,Below.refl _ _⟩
 case round =>
  obtain ⟨i,hi,rfl,hown,hbe⟩:=hrel
  have x0:=keep_cell y0 hbe.out
  by_cases hlt:i<n
  ·have ii:(i:Int)<(n:Int):=by omega
   obtain ⟨b,off,rfl,hbl,hc⟩:=HR.out (by omega)
   obtain ⟨d0,d1,d2⟩:=hc i hlt
   have z0:=keep_cell d0 hbe.out
   have z1:=keep_cell d1 hbe.out
   have z2:=keep_cell d2 hbe.out
   obtain ⟨va,vc,hVv,_,_⟩:=owns_tri hown.out
   subst hVv
   have HFIN:Hid (∀ w3:World,((wr.alloc (.cells #[.int .i64 (ls i),.int .i64 (lc i),.int .i64 (lt i)] 52)).drew).grownBy w3 (Value.slice va i vc).ownBlock→(w3.cell? ⟨QB,0,none⟩=some (.slice (some ⟨b,off,none⟩) n lcp)∧w3.cell? ⟨b,off+i*3,none⟩=some (.int .i64 (ls i))∧w3.cell? ⟨b,off+i*3+1,none⟩=some (.int .i64 (lc i))∧w3.cell? ⟨b,off+i*3+2,none⟩=some (.int .i64 (lt i)))∧Below w.heap.size w w3):=fun w3 hg=>by
    have hA:Below wr.heap.size wr (wr.alloc (.cells #[.int .i64 (ls i),.int .i64 (lc i),.int .i64 (lt i)] 52)).drew:=((Below.refl wr.heap.size wr).alloc (Nat.le_refl _) _).drew
    have hw:=hbe.out.size
    have hs:=hA.size
    have hno:∀ c,c<w.heap.size→some c≠(Value.slice va i vc).ownBlock:=fun c hc e=>by
     have:=(hown.out.lt c e.symm).1
     omega
    have k:∀ c q,c<w.heap.size→w3.cell? ⟨c,q,none⟩=wr.cell? ⟨c,q,none⟩:=fun c q hc=>(hg.cell_far ⟨c,q,none⟩ (by show c<_;omega) (hno c hc)).trans (hA.cell (p:=⟨c,q,none⟩) (by show c<_;omega))
    refine ⟨⟨(k _ _ lQ).trans x0,(k _ _ hbl).trans z0,(k _ _ hbl).trans z1,(k _ _ hbl).trans z2⟩,?_⟩
    exact (hbe.out.trans (hA.mono hw)).grown hg (by omega) (fun z hz=>(hown.out.lt z hz).1)
   have HOd:Hid ((wr.alloc (.cells #[.int .i64 (ls i),.int .i64 (lc i),.int .i64 (lt i)] 52)).drew.ownsRow w.heap.size 52 3 (.slice va i vc) i (slotCells ls lc lt i)):=show (wr.alloc (.cells #[.int .i64 (ls i),.int .i64 (lc i),.int .i64 (lt i)] 52)).ownsRow w.heap.size 52 3 (.slice va i vc) i (slotCells ls lc lt i) from World.ownsRow.alloc hown.out _
   have HNEWS:Hid (∀ (j:Nat) (u:Value),[Value.int .i64 (ls i),Value.int .i64 (lc i),Value.int .i64 (lt i)][j]? = some u→(wr.alloc (.cells #[.int .i64 (ls i),.int .i64 (lc i),.int .i64 (lt i)] 52)).drew.cell? ((⟨wr.heap.size,0,none⟩:Addr).add j)=some u):=tri_new wr _ _ _ _
   have HSZ:Hid (w.heap.size≤wr.heap.size):=hbe.out.size
   have HSUC:Hid (slotCells ls lc lt (i+1)=slotCells ls lc lt i ++ [.int .i64 (ls i),.int .i64 (lc i),.int .i64 (lt i)]):=slotCells_succ _ _ _ _
   have hQn:QB≠wr.heap.size:=by have:=HSZ.out;omega
   have hbn:b≠wr.heap.size:=by have:=HSZ.out;omega
   have lQr:QB<wr.heap.size:=by have:=HSZ.out;omega
   have lbr:b<wr.heap.size:=by have:=HSZ.out;omega
   clear hc d0 d1 d2
   generalize ls i=e0 at *
   generalize lc i=e1 at *
   generalize lt i=e2 at *
   go_wp2_with fail
   refine wp_region_noPanic ?_
   go_region_held3 (fun u=>u.cell? ⟨QB,0,none⟩=some (.slice (some ⟨b,off,none⟩) n lcp)∧u.cell? ⟨b,off+i*3,none⟩=some (.int .i64 e0)∧u.cell? ⟨b,off+i*3+1,none⟩=some (.int .i64 e1)∧u.cell? ⟨b,off+i*3+2,none⟩=some (.int .i64 e2)) (go_keep) (first
    | (refine step_append_lies _ (by rfl) _ _ _ (by rfl) w.heap.size 52 i1 (.agg #[.int .i64 0,.int .i64 0,.int .i64 0]) 3 24 Tryz.underlying48 hiI hy0 hy1 hy2 rfl (by decide) (.slice va i vc) i (slotCells ls lc lt i) (by rfl) HOd.out ⟨wr.heap.size,0,none⟩ 1 1 [.int .i64 e0,.int .i64 e1,.int .i64 e2] (by rfl) rfl HNEWS.out (by simp [Value.oneCell']) (by decide) (by unfold maxLen;omega) (by omega) (by have:=HSZ.out;simp;omega) (wr.heap.size+1) (by simp) ?_;intro gq cq w3 hown' hgrow hat _;obtain ⟨⟨q0,q1,q2,q3⟩,hb3⟩:=HFIN.out w3 hgrow))
   all_goals (
    refine NoPanic.normal ?_
    have HOW:Hid (w3.ownsRow w.heap.size 52 3 (.slice (some ⟨gq,0,none⟩) (i+1) cq) (i+1) (slotCells ls lc lt (i+1))):=by
     show World.ownsRow _ _ _ _ _ _ _
     rw [HSUC.out];exact hown'
    have HB3:Hid (Below w.heap.size w w3):=hb3
    clear hown' hgrow hb3 HFIN
    go_wp2
    exact ⟨⟨i+1,by omega,by go_num,HOW.out,HB3.out⟩,by simp [intOf];omega⟩)
  ·obtain rfl:i=n:=by omega
   obtain ⟨va,cap,rfl,hrows,hlow⟩:=owns_tri hown.out
   have HRW:Hid (Rows3 wr va i ls lc lt):=hrows
   have HLW:Hid (∀ b off s,va=some ⟨b,off,s⟩→w.heap.size≤b∧b<wr.heap.size):=hlow
   clear hrows hlow
   go_wp2
   exact HEX.out _ _ _ _ HRW.out HLW.out hbe.out rfl (Rest.of rfl) rfl rfl
end
section
theorem Tryz.infoReadingP:(Tryz.prog.info? 55).map (fun i=>(i.zero,i.size,i.bytes))=some (some (.agg #[.int .i64 0,.int .i64 0,.int .i64 0]),3,24):=by kernel_rfl
def wReading (k:Nat):Bool:=decide (k=17) || decide (k=19) || (decide (142≤k) && decide (k≤170))
theorem cp_read (body:Code) (hbody:(Tryz.f3.body.map loopsIn).bind (fun l=>l[2]?)=some body) (Q:Exit→Act→World→Prop) (QB n lcp:Nat) (la:Option Addr) (rn ro ri:Nat→Int) (w:World) (hn:n≤1000) (y0:w.cell? ⟨QB,1,none⟩=some (.slice la n lcp)) (hr:Rows3 w la n rn ro ri) {L:List Value} (hL:L.length=329) (s15:L[15]? = some (.pointer (some ⟨QB,0,none⟩))) (s17:L[17]? = some (.slice none 0 0)) (s19:L[19]? = some (.int .i64 0))
  (hexit:∀ (L':List Value) (va:Option Addr) (cap:Nat) (wr:World),Rows3 wr va n rn ro ri→(∀ b off s,va=some ⟨b,off,s⟩→w.heap.size≤b∧b<wr.heap.size)→Below w.heap.size w wr→L'.length=329→Rest wReading L L'→L'[17]? = some (.slice va n cap)→L'[19]? = some (.int .i64 n)→Q (.exit 5) ⟨L'.toArray,[]⟩ wr) :
  Code.wp Tryz.prog (Code.loop body) Q ⟨L.toArray,[]⟩ w:=by
 have hb2:((Tryz.f3.body.map loopsIn).bind (fun l=>l[2]?)).getD Code.skip=body:=by rw [hbody];rfl
 obtain rfl:=hb2
 clear hbody
 conv=>arg 2;arg 1;whnf
 have HEX:Hid _:=hexit
 obtain ⟨fL,rfl⟩:=lit L 329 hL
 replace s15:=lit_at s15
 replace s17:=lit_at s17
 replace s19:=lit_at s19
 simp only [List.range,List.range.loop,List.map_cons,List.map_nil,s15,s17,s19]
 have HR:Hid (Rows3 w la n rn ro ri):=hr
 obtain ⟨i1,hiI,hy0,hy1,hy2⟩:=info_parts Tryz.infoReadingP
 have lQ:QB<w.heap.size:=lt_of_cell y0
 clear hexit hr
 go_loopw [19,17] (fun a b wr=>∃ i:Nat,i≤n∧a=.int .i64 i∧Hid (wr.ownsRow w.heap.size 55 3 b i (slotCells rn ro ri i))∧Hid (Below w.heap.size w wr)) (fun a _ _=>n - (intOf a).toNat)
 case atStart=>exact ⟨0,Nat.zero_le _,rfl,World.ownsRow_nil _ _ _ _,Below.refl _ _⟩
 case round =>
  obtain ⟨i,hi,rfl,hown,hbe⟩:=hrel
  have x0:=keep_cell y0 hbe.out
  by_cases hlt:i<n
  ·have ii:(i:Int)<(n:Int):=by omega
   obtain ⟨b,off,rfl,hbl,hc⟩:=HR.out (by omega)
   obtain ⟨d0,d1,d2⟩:=hc i hlt
   have z0:=keep_cell d0 hbe.out
   have z1:=keep_cell d1 hbe.out
   have z2:=keep_cell d2 hbe.out
   obtain ⟨va,vc,hVv,_,_⟩:=owns_tri hown.out
   subst hVv
   have HFIN:Hid (∀ w3:World,((wr.alloc (.cells #[.int .i64 (rn i),.int .i64 (ro i),.int .i64 (ri i)] 55)).drew).grownBy w3 (Value.slice va i vc).ownBlock→(w3.cell? ⟨QB,1,none⟩=some (.slice (some ⟨b,off,none⟩) n lcp)∧w3.cell? ⟨b,off+i*3,none⟩=some (.int .i64 (rn i))∧w3.cell? ⟨b,off+i*3+1,none⟩=some (.int .i64 (ro i))∧w3.cell? ⟨b,off+i*3+2,none⟩=some (.int .i64 (ri i)))∧Below w.heap.size w w3):=fun w3 hg=>by
    have hA:Below wr.heap.size wr (wr.alloc (.cells #[.int .i64 (rn i),.int .i64 (ro i),.int .i64 (ri i)] 55)).drew:=((Below.refl wr.heap.size wr).alloc (Nat.le_refl _) _).drew
    have hw:=hbe.out.size
    have hs:=hA.size
    have hno:∀ c,c<w.heap.size→some c≠(Value.slice va i vc).ownBlock:=fun c hc e=>by
     have:=(hown.out.lt c e.symm).1
     omega
    have k:∀ c q,c<w.heap.size→w3.cell? ⟨c,q,none⟩=wr.cell? ⟨c,q,none⟩:=fun c q hc=>(hg.cell_far ⟨c,q,none⟩ (by show c<_;omega) (hno c hc)).trans (hA.cell (p:=⟨c,q,none⟩) (by show c<_;omega))
    refine ⟨⟨(k _ _ lQ).trans x0,(k _ _ hbl).trans z0,(k _ _ hbl).trans z1,(k _ _ hbl).trans z2⟩,?_⟩
    exact (hbe.out.trans (hA.mono hw)).grown hg (by omega) (fun z hz=>(hown.out.lt z hz).1)
   have HOd:Hid ((wr.alloc (.cells #[.int .i64 (rn i),.int .i64 (ro i),.int .i64 (ri i)] 55)).drew.ownsRow w.heap.size 55 3 (.slice va i vc) i (slotCells rn ro ri i)):=show (wr.alloc (.cells #[.int .i64 (rn i),.int .i64 (ro i),.int .i64 (ri i)] 55)).ownsRow w.heap.size 55 3 (.slice va i vc) i (slotCells rn ro ri i) from World.ownsRow.alloc hown.out _
   have HNEWS:Hid (∀ (j:Nat) (u:Value),[Value.int .i64 (rn i),Value.int .i64 (ro i),Value.int .i64 (ri i)][j]? = some u→(wr.alloc (.cells #[.int .i64 (rn i),.int .i64 (ro i),.int .i64 (ri i)] 55)).drew.cell? ((⟨wr.heap.size,0,none⟩:Addr).add j)=some u):=tri_new wr _ _ _ _
   have HSZ:Hid (w.heap.size≤wr.heap.size):=hbe.out.size
   have HSUC:Hid (slotCells rn ro ri (i+1)=slotCells rn ro ri i ++ [.int .i64 (rn i),.int .i64 (ro i),.int .i64 (ri i)]):=slotCells_succ _ _ _ _
   have hQn:QB≠wr.heap.size:=by have:=HSZ.out;omega
   have hbn:b≠wr.heap.size:=by have:=HSZ.out;omega
   have lQr:QB<wr.heap.size:=by have:=HSZ.out;omega
   have lbr:b<wr.heap.size:=by have:=HSZ.out;omega
   clear hc d0 d1 d2
   generalize rn i=e0 at *
   generalize ro i=e1 at *
   generalize ri i=e2 at *
   go_wp2_with fail
   refine wp_region_noPanic ?_
   go_region_held3 (fun u=>u.cell? ⟨QB,1,none⟩=some (.slice (some ⟨b,off,none⟩) n lcp)∧u.cell? ⟨b,off+i*3,none⟩=some (.int .i64 e0)∧u.cell? ⟨b,off+i*3+1,none⟩=some (.int .i64 e1)∧u.cell? ⟨b,off+i*3+2,none⟩=some (.int .i64 e2)) (go_keep) (first
    | (refine step_append_lies _ (by rfl) _ _ _ (by rfl) w.heap.size 55 i1 (.agg #[.int .i64 0,.int .i64 0,.int .i64 0]) 3 24 Tryz.underlying49 hiI hy0 hy1 hy2 rfl (by decide) (.slice va i vc) i (slotCells rn ro ri i) (by rfl) HOd.out ⟨wr.heap.size,0,none⟩ 1 1 [.int .i64 e0,.int .i64 e1,.int .i64 e2] (by rfl) rfl HNEWS.out (by simp [Value.oneCell']) (by decide) (by unfold maxLen;omega) (by omega) (by have:=HSZ.out;simp;omega) (wr.heap.size+1) (by simp) ?_;intro gq cq w3 hown' hgrow hat _;obtain ⟨⟨q0,q1,q2,q3⟩,hb3⟩:=HFIN.out w3 hgrow))
   all_goals (
    refine NoPanic.normal ?_
    have HOW:Hid (w3.ownsRow w.heap.size 55 3 (.slice (some ⟨gq,0,none⟩) (i+1) cq) (i+1) (slotCells rn ro ri (i+1))):=by
     show World.ownsRow _ _ _ _ _ _ _
     rw [HSUC.out];exact hown'
    have HB3:Hid (Below w.heap.size w w3):=hb3
    clear hown' hgrow hb3 HFIN
    go_wp2
    exact ⟨⟨i+1,by omega,by go_num,HOW.out,HB3.out⟩,by simp [intOf];omega⟩)
  ·obtain rfl:i=n:=by omega
   obtain ⟨va,cap,rfl,hrows,hlow⟩:=owns_tri hown.out
   have HRW:Hid (Rows3 wr va i rn ro ri):=hrows
   have HLW:Hid (∀ b off s,va=some ⟨b,off,s⟩→w.heap.size≤b∧b<wr.heap.size):=hlow
   clear hrows hlow
   go_wp2
   exact HEX.out _ _ _ _ HRW.out HLW.out hbe.out rfl (Rest.of rfl) rfl rfl
end
section
def w_rp_cell_0 (k:Nat):Bool:=decide (k=14) || (decide (55≤k) && decide (k≤72))
theorem rp_cell (code:Code) (hcode:Tryz.f10.body.bind (regionIn 10)=some code) (Q:Exit→Act→World→Prop) (C i k n ca off ccap base:Nat) (a0 a1:Int) (l:List Value) (V:Value) (w:World) (hi:(i:Int)<(n:Int)) (hk:(k:Int)<(n:Int)) (hn:n≤16) (y11:w.cell? ⟨C,11,none⟩=some (.slice (some ⟨ca,off,none⟩) n ccap)) (yk:w.cell? ⟨ca,off+k,none⟩=some (.int .i64 a1)) (yi:w.cell? ⟨ca,off+i,none⟩=some (.int .i64 a0)) (hb0:-274877906944≤a0∧a0≤274877906944) (hb1:-274877906944≤a1∧a1≤274877906944)
  (hown:w.ownsRow base 3 1 V k l) (hbase:base≤w.heap.size) (hCb:C<base) (hcb:ca<base) {L:List Value} (hL0:L.length=452) (s0:L[0]? = some (.pointer (some ⟨C,0,none⟩))) (s13:L[13]? = some (.int .i64 i)) (s14:L[14]? = some (V)) (s15:L[15]? = some (.int .i64 k))
  (hexit:∀ (L':List Value) (gq cq:Nat) (w3:World),w3.ownsRow base 3 1 (.slice (some ⟨gq,0,none⟩) (k+1) cq) (k+1) (l ++ [.int .i64 (a1 - a0)])→Below base w w3→L'.length=452→Rest w_rp_cell_0 L L'→L'[14]? = some (.slice (some ⟨gq,0,none⟩) (k+1) cq)→Q .normal ⟨L'.toArray,[]⟩ w3) :
  Code.wp Tryz.prog code Q ⟨L.toArray,[]⟩ w:=by
 have hb2':(Tryz.f10.body.bind (regionIn 10)).getD Code.skip=code:=by rw [hcode];rfl
 obtain rfl:=hb2'
 clear hcode
 conv=>arg 2;whnf
 have HEX:Hid _:=hexit
 obtain ⟨fL,rfl⟩:=lit L 452 hL0
 replace s0:=lit_at s0
 replace s13:=lit_at s13
 replace s14:=lit_at s14
 replace s15:=lit_at s15
 simp only [List.range,List.range.loop,List.map_cons,List.map_nil,s0,s13,s14,s15]
 have HOW:Hid (w.ownsRow base 3 1 V k l):=hown
 obtain ⟨i1,hiI,hy0,hy1,hy2⟩:=info_parts Tryz.infoInt
 have hwr:IntKind.i64.wrap (a1 - a0)=a1 - a0:=by rw [IntKind.wrap_i64];omega
 have hOd:w.drew.ownsRow base 3 1 V k l:=hown
 have HFIN:Hid (∀ (gq cq:Nat) (w3:World),w3.ownsRow base 3 1 (.slice (some ⟨gq,0,none⟩) (k+1) cq) (k+1) (l ++ [.int .i64 (a1 - a0)])→(w.drew.alloc (.cells #[.int .i64 (a1 - a0)] 3)).grownBy w3 V.ownBlock→Below base w w3∧w3.cell? ⟨C,11,none⟩=some (.slice (some ⟨ca,off,none⟩) n ccap)∧w3.cell? ⟨ca,off+k,none⟩=some (.int .i64 a1)∧w3.cell? ⟨ca,off+i,none⟩=some (.int .i64 a0)):=fun gq cq w3 _ hg=>by
  have hb:Below base w w3:=(((Below.refl base w).drew).alloc hbase _).grown hg (by simp;omega) (fun g h=>(hown.lt g h).1)
  exact ⟨hb,(hb.cell (p:=⟨C,11,none⟩) hCb).trans y11,(hb.cell (p:=⟨ca,off+k,none⟩) hcb).trans yk,(hb.cell (p:=⟨ca,off+i,none⟩) hcb).trans yi⟩
 clear hexit hown
 go_region_held3 (fun u=>u.cell? ⟨C,11,none⟩=some (.slice (some ⟨ca,off,none⟩) n ccap)∧u.cell? ⟨ca,off+k,none⟩=some (.int .i64 a1)∧u.cell? ⟨ca,off+i,none⟩=some (.int .i64 a0)) (go_keep) (first
  | (refine step_append_lies _ (by rfl) _ _ _ (by rfl) base 3 i1 (.int .i64 0) 1 8 Tryz.underlying27 hiI hy0 hy1 hy2 rfl (by decide) V k l (by rfl) (hOd.alloc _) ⟨w.heap.size,0,none⟩ 1 1 [.int .i64 (a1 - a0)] (by rfl) rfl (cell_one_new _ _ _) (ints_one [a1 - a0]) (by decide) (by unfold maxLen;omega) (by omega) (by simp;omega) (w.heap.size+1) (by simp) ?_;intro gq cq w3 hown' hgrow _ _;obtain ⟨hB3,y11c,ykc,yic⟩:=HFIN.out gq cq w3 hown' hgrow))
 all_goals exact HEX.out _ _ _ _ hown' hB3 rfl (Rest.of rfl) rfl
def w_rp_row_0 (k:Nat):Bool:=(decide (14≤k) && decide (k≤15)) || (decide (52≤k) && decide (k≤73))
theorem rp_row (body:Code) (hbody:(Tryz.f10.body.map loopsIn).bind (fun l=>l[1]?)=some body) (Q:Exit→Act→World→Prop) (C i n ca off ccap:Nat) (cs:List Int) (w:World) (hlen:cs.length=n) (hi:i<n) (hn:n≤16) (y11:w.cell? ⟨C,11,none⟩=some (.slice (some ⟨ca,off,none⟩) n ccap)) (hck:∀ j,j<n→w.cell? ⟨ca,off+j,none⟩=some (.int .i64 (cs.getD j 0))) (hin:∀ x∈cs,-274877906944≤x∧x≤274877906944) {L:List Value} (hL0:L.length=452) (s0:L[0]? = some (.pointer (some ⟨C,0,none⟩))) (s13:L[13]? = some (.int .i64 i)) (s14:L[14]? = some (.slice none 0 0)) (s51:L[51]? = some (.int .i64 n)) (s52:L[52]? = some (.int .i64 0))
  (hexit:∀ (L':List Value) (V:Value) (wr:World),wr.ownsRow w.heap.size 3 1 V n ((List.range n).map fun j=>.int .i64 (cs.getD j 0 - cs.getD i 0))→Below w.heap.size w wr→L'.length=452→Rest w_rp_row_0 L L'→L'[14]? = some (V)→L'[52]? = some (.int .i64 n)→Q (.exit 2) ⟨L'.toArray,[]⟩ wr) :
  Code.wp Tryz.prog (Code.loop body) Q ⟨L.toArray,[]⟩ w:=by
 have hb2:((Tryz.f10.body.map loopsIn).bind (fun l=>l[1]?)).getD Code.skip=body:=by rw [hbody];rfl
 obtain rfl:=hb2
 clear hbody
 conv=>arg 2;arg 1;whnf
 have HEX:Hid _:=hexit
 obtain ⟨fL,rfl⟩:=lit L 452 hL0
 replace s0:=lit_at s0
 replace s13:=lit_at s13
 replace s14:=lit_at s14
 replace s51:=lit_at s51
 replace s52:=lit_at s52
 simp only [List.range,List.range.loop,List.map_cons,List.map_nil,s0,s13,s14,s51,s52]
 have HCK:Hid (∀ j,j<n→w.cell? ⟨ca,off+j,none⟩=some (.int .i64 (cs.getD j 0))):=hck
 have HIN:Hid (∀ j,j<n→-274877906944≤cs.getD j 0∧cs.getD j 0≤274877906944):=fun j hj=>hin _ (getD_mem0 (by omega))
 have hlC:C<w.heap.size:=lt_of_cell y11
 have hlc:ca<w.heap.size:=lt_of_cell (hck i hi)
 clear hexit hck hin hlen
 go_loopw [52,14] (fun a V wr=>∃ k:Nat,k≤n∧a=.int .i64 k∧Hid (wr.ownsRow w.heap.size 3 1 V k ((List.range k).map fun j=>.int .i64 (cs.getD j 0 - cs.getD i 0)))∧Hid (Below w.heap.size w wr)) (fun a _ _=>n - (intOf a).toNat)
 case atStart=>exact ⟨0,Nat.zero_le _,rfl,World.ownsRow_nil _ _ _ _,Below.refl _ _⟩
 case round =>
  obtain ⟨k,hk,rfl,hown,hbe⟩:=hrel
  by_cases hlt:k<n
  ·have kk:(k:Int)<(n:Int):=by omega
   have ii:(i:Int)<(n:Int):=by omega
   have z11:=keep_cell y11 hbe.out
   have zk:=keep_cell (HCK.out k hlt) hbe.out
   have zi:=keep_cell (HCK.out i hi) hbe.out
   have q0:=HIN.out i hi
   have q1:=HIN.out k hlt
   have HLS:Hid ((List.range (k+1)).map (fun j=>Value.int .i64 (cs.getD j 0 - cs.getD i 0))=(List.range k).map (fun j=>Value.int .i64 (cs.getD j 0 - cs.getD i 0)) ++ [.int .i64 (cs.getD k 0 - cs.getD i 0)]):=by
    show _=_
    rw [List.range_succ,List.map_append]
    rfl
   have hsz:=hbe.out.size
   generalize cs.getD k 0=a1 at *
   generalize cs.getD i 0=a0 at *
   go_wp2_with fail
   refine rp_cell _ (by rfl) _ C i k n ca off ccap w.heap.size a0 a1 _ u14 wr ii kk hn z11 zk zi q0 q1 hown.out hsz hlC hlc rfl rfl rfl rfl rfl ?_
   intro L2 gq cq w3 ho3 hb3 hN9 hQ9 t14
   obtain ⟨gL,rfl⟩:=hQ9.over (hN9.trans rfl)
   clear hQ9 hN9
   simp (decide:=true) only [ov,if_true,if_false,Nat.reduceAdd] at t14 ⊢
   replace t14:=Option.some.inj t14
   rw [t14]
   clear t14
   clear z11 zk zi
   have HO3:Hid _:=ho3
   have HB3:Hid (Below w.heap.size w w3):=hbe.out.trans hb3
   clear ho3 hb3
   go_wp2
   exact ⟨⟨k+1,by omega,by go_num,by rw [HLS.out];exact HO3.out,HB3.out⟩,by simp [intOf];omega⟩
  ·obtain rfl:k=n:=by omega
   go_wp2
   exact HEX.out _ _ _ hown.out hbe.out rfl (Rest.of rfl) rfl rfl
end
section
theorem bitI_nat (x:Int) {j:Nat} (hj:j≤62):bitI x j=(x % 18446744073709551616).toNat.testBit j:=by
 obtain ⟨X,hX⟩:∃ X:Nat,(x % 18446744073709551616).toNat=X:=⟨_,rfl⟩
 rw [hX,Nat.testBit_eq_decide_div_mod_eq]
 unfold bitI
 obtain ⟨q,hqx⟩:∃ q:Int,x=X+18446744073709551616*q:=⟨x / 18446744073709551616,by omega⟩
 have hpos:(0:Int)<2 ^ j:=by rw [pow_cast];exact_mod_cast Nat.two_pow_pos j
 have h64:(18446744073709551616:Int)=2 ^ j*(2*2 ^ (63 - j)):=by
  have:(2:Int) ^ j*(2*2 ^ (63 - j))=2 ^ (j+(1+(63 - j))):=by rw [Int.pow_add,Int.pow_add];rfl
  rw [this,show j+(1+(63 - j))=64 by omega]
  decide
 have h2:x / 2 ^ j=(X:Int) / 2 ^ j+2*2 ^ (63 - j)*q:=by
  rw [hqx,h64,Int.mul_assoc,Int.add_mul_ediv_left _ _ (by omega)]
 have h3:x / 2 ^ j % 2=(X:Int) / 2 ^ j % 2:=by
  rw [h2,Int.mul_assoc,Int.add_mul_emod_self_left]
 rw [h3,pow_cast]
 congr 1
 apply propext
 constructor
 ·intro h;exact_mod_cast h
 ·intro h;exact_mod_cast h
theorem or_bitI (a b:Int) {j:Nat} (hj:j≤62):bitI (bits BinOp.or .i64 a b) j=(bitI a j || bitI b j):=by
 have e:bits BinOp.or .i64 a b=IntKind.i64.wrap (((a % 18446744073709551616).toNat ||| (b % 18446744073709551616).toNat:Nat):Int):=by
  show IntKind.i64.wrap ((BitVec.ofInt 64 a ||| BitVec.ofInt 64 b).toNat:Int)=_
  rw [BitVec.toNat_or,ofInt_any,ofInt_any]
 have hlt:((a % 18446744073709551616).toNat ||| (b % 18446744073709551616).toNat)<2 ^ 64:=Nat.or_lt_two_pow (by omega) (by omega)
 rw [bitI_nat _ hj,bitI_nat _ hj,bitI_nat _ hj,e,← Nat.testBit_or]
 generalize (a % 18446744073709551616).toNat ||| (b % 18446744073709551616).toNat=N at *
 congr 1
 simp [IntKind.wrap,IntKind.bits,IntKind.signed]
 omega
def lostF (r:RoundN):Nat→Nat→Nat→Int
 | 0,_,_=>0
 | k+1,i,c=>if r.ls k=i∧r.lc k=c then bits BinOp.or .i64 (lostF r k i c) (r.lt k) else lostF r k i c
theorem lostF_bit (r:RoundN) (i c:Nat) {j:Nat} (hj:j≤62):∀ k,bitI (lostF r k i c) j=(List.range k).any fun x=>decide (r.ls x=i) && (decide (r.lc x=c) && bitI (r.lt x) j):=by
 intro k
 induction k with
 | zero=>simp [lostF,bitI]
 | succ k ih =>
  rw [List.range_succ,List.any_append,← ih]
  show bitI (if r.ls k=i∧r.lc k=c then _ else _) j=_
  by_cases h:r.ls k=i∧r.lc k=c
  ·rw [if_pos h,or_bitI _ _ hj]
   simp [h.1,h.2]
  ·rw [if_neg h]
   by_cases h1:r.ls k=i
   ·have h2:r.lc k≠c:=fun e=>h ⟨h1,e⟩
    simp [h2]
   ·simp [h1]
structure LTab (w:World) (T ns:Nat) (f:Nat→Nat→Int):Prop where
 c:∀ i c,i<ns→c<2→w.cell? ⟨T,i*2+c,none⟩=some (.int .i64 (f i c))
 z:∀ i,w.frozen? ⟨T,i,none⟩=false
 lt:T<w.heap.size
theorem LTab.below {w w':World} {T ns:Nat} {f:Nat→Nat→Int} (h:LTab w T ns f) (k:Below w.heap.size w w'):LTab w' T ns f :=
 ⟨fun i c hi hc=>(k.cell (p:=⟨T,i*2+c,none⟩) h.lt).trans (h.c i c hi hc),fun i=>(k.frozen (p:=⟨T,i,none⟩) h.lt).trans (h.z i),Nat.lt_of_lt_of_le h.lt k.size⟩
theorem LTab.set {w:World} {T ns:Nat} {f g:Nat→Nat→Int} (h:LTab w T ns f) {i c:Nat} {x:Int} (hi:i<ns) (hc:c<2) (hg:∀ i' c',i'<ns→c'<2→g i' c'=if i'=i∧c'=c then x else f i' c'):LTab (w.setCell ⟨T,i*2+c,none⟩ (.int .i64 x)).drew T ns g:=by
 refine ⟨fun i' c' hi' hc'=>?_,fun j=>soft_set.trans (h.z j),?_⟩
 ·show (w.setCell ⟨T,i*2+c,none⟩ (.int .i64 x)).cell? ⟨T,i'*2+c',none⟩=_
  rw [hg i' c' hi' hc']
  by_cases e:i'=i∧c'=c
  ·obtain ⟨rfl,rfl⟩:=e
   rw [if_pos ⟨rfl,rfl⟩]
   exact cell_set (h.c i' c' hi hc)
  ·rw [if_neg e]
   have:i'*2+c'≠i*2+c:=fun y=>e (by omega)
   exact (cell_other (.inr this)).trans (h.c i' c' hi' hc')
 ·have:=h.lt
  show T<(w.setCell ⟨T,i*2+c,none⟩ (.int .i64 x)).heap.size
  simpa using this
theorem LTab.agree {w:World} {T ns:Nat} {f g:Nat→Nat→Int} (h:LTab w T ns f) (hg:∀ i c,i<ns→c<2→g i c=f i c):LTab w T ns g:=⟨fun i c hi hc=>by rw [hg i c hi hc];exact h.c i c hi hc,h.z,h.lt⟩
theorem Tryz.infoPair:(Tryz.prog.info? 112).map (fun i=>(i.zero,i.size,i.bytes))=some (some (.agg #[.int .i64 0,.int .i64 0]),2,16):=by kernel_rfl
theorem box3 (w:World) (a b c:Value) (t:TypeId):(w.alloc (.cells #[a,b,c] t)).cell? ⟨w.heap.size,0,none⟩=some a∧(w.alloc (.cells #[a,b,c] t)).cell? ⟨w.heap.size,1,none⟩=some b∧(w.alloc (.cells #[a,b,c] t)).cell? ⟨w.heap.size,2,none⟩=some c∧Below w.heap.size w (w.alloc (.cells #[a,b,c] t))∧(w.alloc (.cells #[a,b,c] t)).heap.size=w.heap.size+1 :=
 ⟨by simp,by simp,by simp,(Below.refl _ _).alloc (Nat.le_refl _) _,by simp⟩
theorem clost_any (C:Nat) (sa:Option Addr) (ns scap:Nat) (r:RoundN) (a:Option Addr) (cap:Nat) (w:World) (c6:w.cell? ⟨C,6,none⟩=some (.slice sa ns scap)) (hns:ns≤32) (hr:Rows3 w a r.nL r.ls r.lc r.lt) (hL:r.nL≤9223372036854775807) :
  Calls Tryz.prog 37 #[.pointer (some ⟨C,0,none⟩),.slice a r.nL cap] w fun e w'=>∃ T,e=.returned (.slice (some ⟨T,0,none⟩) ns ns)∧w.heap.size≤T∧LTab w' T ns (lostF r r.nL)∧Below w.heap.size w w':=by
 have hlC:=lt_of_cell9 c6
 obtain ⟨i0,hi,hz0,hz1,hz2⟩:=info_parts Tryz.infoPair
 have hmk:=run_makeSlice (P:=Tryz.prog) w 117 112 i0 _ Tryz.underlying117 hi hz0 .i64 .i64 (ns:Int) (ns:Int) (by omega) (Int.le_refl _) (by rw [hz1];simp;omega) (by rw [hz2];omega) (by omega)
 rw [Int.toNat_natCast,hz1] at hmk
 have HT0:Hid (LTab (w.alloc (.cells (madeCells #[.int .i64 0,.int .i64 0] (ns*2)) 112)) w.heap.size ns (lostF r 0)∧Below w.heap.size w (w.alloc (.cells (madeCells #[.int .i64 0,.int .i64 0] (ns*2)) 112))):=by
  refine ⟨⟨fun i c hi hc=>?_,fun i=>by simp,by simp⟩,(Below.refl _ _).alloc (Nat.le_refl _) _⟩
  have hlt:i*2+c<ns*2:=by omega
  have:c=0∨c=1:=by omega
  rcases this with rfl | rfl
  ·have hlt:i*2<ns*2:=by omega
   simp [madeCells,hlt,lostF]
  ·simp [madeCells,hlt,lostF]
 have HR:Hid (Rows3 w a r.nL r.ls r.lc r.lt):=hr
 have HLn:Hid (r.nL≤9223372036854775807):=hL
 obtain ⟨nL,hnL⟩:∃ nL,r.nL=nL:=⟨_,rfl⟩
 have HNL:Hid (r.nL=nL):=hnL
 rw [hnL] at hL ⊢
 clear hr hnL
 go_enter Tryz.func37,Tryz.ntmps37
 go_wp2_with fail
 clear hmk c6
 generalize w.alloc (.cells (madeCells #[.int .i64 0,.int .i64 0] (ns*2)) 112)=V at *
 go_loopw [17] (fun t wr=>∃ k:Nat,k≤nL∧t=.int .i64 k∧Hid (LTab wr w.heap.size ns (lostF r k)∧Below w.heap.size w wr)) (fun t _=>nL - (intOf t).toNat)
 case atStart=>exact ⟨0,Nat.zero_le _,rfl,HT0⟩
 case round =>
  obtain ⟨k,hk,rfl,HI⟩:=hrel
  by_cases hlt:k<nL
  ·obtain ⟨b,off,rfl,hb,hc⟩:=HR.out (by rw [HNL.out];omega)
   obtain ⟨x0,x1,x2⟩:=hc k (by rw [HNL.out];exact hlt)
   have y0:=(HI.out.2.cell (p:=⟨b,off+k*3,none⟩) hb).trans x0
   have y1:=(HI.out.2.cell (p:=⟨b,off+k*3+1,none⟩) hb).trans x1
   have y2:=(HI.out.2.cell (p:=⟨b,off+k*3+2,none⟩) hb).trans x2
   have hbw:b<wr.heap.size:=Nat.lt_of_lt_of_le hb HI.out.2.size
   have kk:(k:Int)<(nL:Int):=by omega
   obtain ⟨q0,q1,q2,qB,qS⟩:=box3 wr (.int .i64 (r.ls k)) (.int .i64 (r.lc k)) (.int .i64 (r.lt k)) 51
   clear x0 x1 x2 hc
   by_cases hin:(0≤r.ls k∧r.ls k<ns)∧0≤r.lc k∧r.lc k<2
   ·obtain ⟨⟨i1,i2⟩,i3,i4⟩:=hin
    obtain ⟨i,hie⟩:∃ i:Nat,r.ls k=i:=⟨(r.ls k).toNat,by omega⟩
    obtain ⟨c,hce⟩:∃ c:Nat,r.lc k=c:=⟨(r.lc k).toNat,by omega⟩
    have HIC:Hid (r.ls k=i∧r.lc k=c):=⟨hie,hce⟩
    rw [hie] at i1 i2 q0 q1 q2 qB qS y0
    rw [hce] at i3 i4 q0 q1 q2 qB qS y1
    have ii:i<ns:=by omega
    have ic:c<2:=by omega
    have hTw:w.heap.size<wr.heap.size:=HI.out.1.lt
    obtain ⟨LT,hLT⟩:∃ LT,r.lt k=LT:=⟨_,rfl⟩
    rw [hLT] at q0 q1 q2 qB qS y2
    have g:=(qB.cell (p:=⟨w.heap.size,i*2+c,none⟩) hTw).trans (HI.out.1.c i c ii ic)
    have gz:=(qB.frozen (p:=⟨w.heap.size,i*2+c,none⟩) hTw).trans (HI.out.1.z (i*2+c))
    have HQB:Hid _:=qB
    have hV1:wr.heap.size<(wr.alloc (.cells #[.int .i64 i,.int .i64 c,.int .i64 LT] 51)).heap.size:=by rw [qS];omega
    have hV2:w.heap.size<(wr.alloc (.cells #[.int .i64 i,.int .i64 c,.int .i64 LT] 51)).heap.size:=by rw [qS];omega
    have hne:wr.heap.size≠w.heap.size:=by omega
    have hne2:w.heap.size≠wr.heap.size:=by omega
    obtain ⟨FV,hFV⟩:∃ FV,lostF r k i c=FV:=⟨_,rfl⟩
    rw [hFV] at g
    obtain ⟨OV,hOV⟩:∃ OV,bits BinOp.or .i64 FV LT=OV:=⟨_,rfl⟩
    have HL2:Hid (lostF r (k+1) i c=OV):=by
     show (if r.ls k=i∧r.lc k=c then _ else _)=_
     rw [if_pos HIC.out,hFV,hLT,hOV]
    clear hie hce hLT hFV qB qS
    go_wp2_with fail
    clear y0 y1 y2
    generalize (wr.alloc (.cells #[.int .i64 i,.int .i64 c,.int .i64 LT] 51))=V1 at *
    have HN:Hid (LTab (V1.setCell ⟨w.heap.size,i*2+c,none⟩ (.int .i64 OV)).drew w.heap.size ns (lostF r (k+1))∧Below w.heap.size w (V1.setCell ⟨w.heap.size,i*2+c,none⟩ (.int .i64 OV)).drew):=by
     have hT:Turns w.heap.size w.heap.size V1 (V1.setCell ⟨w.heap.size,i*2+c,none⟩ (.int .i64 OV)).drew:=((Turns.refl _ _ _).set (p:=⟨w.heap.size,i*2+c,none⟩) (.inl rfl) _).trans (Turns.drawn 1)
     have hb1:Below w.heap.size w V1:=HI.out.2.trans (HQB.out.mono HI.out.2.size)
     refine ⟨(HI.out.1.below HQB.out).set ii ic (fun i' c' _ _=>?_),hb1.trans (hT.below hb1.size (Nat.le_refl _) (Nat.le_refl _))⟩
     by_cases e:i'=i∧c'=c
     ·rw [if_pos e,e.1,e.2];exact HL2.out
     ·rw [if_neg e]
      show (if r.ls k=i'∧r.lc k=c' then _ else _)=_
      rw [if_neg]
      rintro ⟨e1,e2⟩
      rw [HIC.out.1] at e1
      rw [HIC.out.2] at e2
      exact e ⟨by omega,by omega⟩
    clear HI HQB HL2
    go_region
    go_wp2
    go_roundw
    case rel=>exact ⟨k+1,by omega,by go_num,HN⟩
    case measure=>simp [intOf];omega
   ·have HN:Hid (∀ v,Below wr.heap.size wr v→LTab v w.heap.size ns (lostF r (k+1))∧Below w.heap.size w v):=fun v hv=>by
     refine ⟨(HI.out.1.below hv).agree fun i c h1 h2=>?_,HI.out.2.trans (hv.mono HI.out.2.size)⟩
     show (if r.ls k=i∧r.lc k=c then _ else _)=_
     rw [if_neg]
     rintro ⟨e1,e2⟩
     exact hin ⟨⟨by omega,by omega⟩,by omega,by omega⟩
    have HQB:Hid _:=HN.out _ qB
    clear HI q0 q1 q2 qB qS HN
    generalize r.ls k=LS at *
    generalize r.lc k=LC at *
    generalize r.lt k=LT at *
    by_cases k1:0≤LS
    ·by_cases k2:LS<(ns:Int)
     ·by_cases k3:0≤LC
      ·have k4:decide (LC<2)=false:=decide_eq_false (by omega)
       clear hin
       go_wp2
       go_roundw
       case rel=>exact ⟨k+1,by omega,by go_num,HQB⟩
       case measure=>simp [intOf];omega
      ·have k4:decide (0≤LC)=false:=decide_eq_false k3
       clear hin k3
       go_wp2
       go_roundw
       case rel=>exact ⟨k+1,by omega,by go_num,HQB⟩
       case measure=>simp [intOf];omega
     ·have k4:decide (LS<(ns:Int))=false:=decide_eq_false k2
      clear hin k2
      go_wp2
      go_roundw
      case rel=>exact ⟨k+1,by omega,by go_num,HQB⟩
      case measure=>simp [intOf];omega
    ·have k4:decide (0≤LS)=false:=decide_eq_false k1
     clear hin k1
     go_wp2
     go_roundw
     case rel=>exact ⟨k+1,by omega,by go_num,HQB⟩
     case measure=>simp [intOf];omega
  ·have hkn:k=nL:=by omega
   have HD:Hid (LTab wr w.heap.size ns (lostF r nL)∧Below w.heap.size w wr):=by rw [← hkn];exact HI
   have kk:decide (k<nL)=false:=decide_eq_false (by omega)
   clear hkn hlt HI
   go_wp2
   go_ret
   exact ⟨_,rfl,Nat.le_refl _,HD.out.1,HD.out.2⟩
end
section
section
variable {w:World} {base:Nat} {Z:List Nat} {Of:CIx→List Nat} {C:Nat} {p:PlanN} {cc:Nat→Option Value} {clk:List Nat} {m:RMap} {T:Nat→Nat→Bool} {V12 V13:Value} {fa:Int} {cs:List Int}
def isPart (p:PlanN) (x:CIx):Prop:=x=iB∨x=iP∨x=iZ∨(∃ j,j<p.n∧x=iN j)∨(∃ j,j<p.nl∧x=iS j)∨∃ a b,a<p.nl∧b<p.n∧x=iR a b
theorem allOf_mem {x:CIx} (hx:isPart p x) (hz:x≠iZ) {c:Nat} (hc:c∈Of x):c∈allOf Of p:=by
 unfold allOf
 simp only [List.mem_append,List.mem_flatMap,List.mem_range]
 rcases hx with rfl | rfl | rfl | ⟨j,hj,rfl⟩ | ⟨j,hj,rfl⟩ | ⟨a,b,ha,hb,rfl⟩
 ·exact .inl hc
 ·exact .inr (.inl hc)
 ·exact absurd rfl hz
 ·exact .inr (.inr (.inl ⟨j,hj,hc⟩))
 ·exact .inr (.inr (.inr (.inl ⟨j,hj,hc⟩)))
 ·exact .inr (.inr (.inr (.inr ⟨a,ha,b,hb,hc⟩)))
theorem allOf_out {c:Nat} (h:c∈allOf Of p):∃ x,isPart p x∧x≠iZ∧c∈Of x:=by
 unfold allOf at h
 simp only [List.mem_append,List.mem_flatMap,List.mem_range] at h
 rcases h with h | h | ⟨j,hj,h⟩ | ⟨j,hj,h⟩ | ⟨a,ha,b,hb,h⟩
 ·exact ⟨iB,.inl rfl,by decide,h⟩
 ·exact ⟨iP,.inr (.inl rfl),by decide,h⟩
 ·exact ⟨iN j,.inr (.inr (.inr (.inl ⟨j,hj,rfl⟩))),(by intro e;cases e),h⟩
 ·exact ⟨iS j,.inr (.inr (.inr (.inr (.inl ⟨j,hj,rfl⟩)))),(by intro e;cases e),h⟩
 ·exact ⟨iR a b,.inr (.inr (.inr (.inr (.inr ⟨a,b,ha,hb,rfl⟩)))),(by intro e;cases e),h⟩
theorem NM.done (h:NM w base Z Of C p cc clk m p.n p.nl T V12 V13) (hT:∀ a b,a<p.nl→b<p.n→T a b=true) (hn1:1≤p.n)
  (e0:cc 0=some (.int .i64 p.nodes)) (e1:cc 1=some (.int .i64 p.faulty)) (e3:cc 3=some (.int .i64 p.jitter)) (e4:cc 4=some (.int .i64 p.drift)) (e5:cc 5=some (.int .i64 p.round)) (e6:cc 6=some (.slice m.sa p.ns m.scap)) (e7:cc 7=some (.slice m.la p.nl m.lcap)) (e10:cc 10=some (.int .i64 fa)) (e11:cc 11=some (.slice m.ca cs.length m.ccap)) (e14:cc 14=some (.map (some m.tb))) (e15:cc 15=some (.map (some m.pb))) (e16:cc 16=some (.int .i64 0))
  (hck:0<cs.length→∃ b off,m.ca=some ⟨b,off,none⟩∧b∈clk∧∀ j,j<cs.length→w.cell? ⟨b,off+j,none⟩=some (.int .i64 (cs.getD j 0))) (hrow:RRows w Z p m) (hzb:∀ c,c∈Z→c<base) :
  ∃ O m',RCl w O Z C p fa cs ClS.start 0 1 m'∧∀ c,c∈O→base≤c:=by
 classical
 obtain ⟨nb,nc,rfl,hnb,hnbl⟩:=h.own12.form (by omega)
 obtain ⟨ka,kc,rfl⟩:=owns_form h.own13
 have hka:0<p.nl→∃ kb,ka=some ⟨kb,0,none⟩:=fun h0=>by
  obtain ⟨g,cap,e,_,_⟩:=h.own13.form h0
  injection e with e
  exact ⟨g,e⟩
 obtain ⟨kb,hkb⟩:∃ kb,0<p.nl→ka=some ⟨kb,0,none⟩:=by
  by_cases h0:0<p.nl
  ·obtain ⟨kb,e⟩:=hka h0
   exact ⟨kb,fun _=>e⟩
  ·exact ⟨0,fun y=>absurd y h0⟩
 have hpart:∀ x,(if isPart p x then Of x else [])=Of x∨(if isPart p x then Of x else []) = []:=fun x=>by
  by_cases hx:isPart p x
  ·exact .inl (if_pos hx)
  ·exact .inr (if_neg hx)
 have pB:(if isPart p iB then Of iB else [])=Of iB:=if_pos (.inl rfl)
 have pP:(if isPart p iP then Of iP else [])=Of iP:=if_pos (.inr (.inl rfl))
 have pZ:(if isPart p iZ then Of iZ else [])=Of iZ:=if_pos (.inr (.inr (.inl rfl)))
 have pN:∀ j,j<p.n→(if isPart p (iN j) then Of (iN j) else [])=Of (iN j):=fun j hj=>if_pos (.inr (.inr (.inr (.inl ⟨j,hj,rfl⟩))))
 have pS:∀ j,j<p.nl→(if isPart p (iS j) then Of (iS j) else [])=Of (iS j):=fun j hj=>if_pos (.inr (.inr (.inr (.inr (.inl ⟨j,hj,rfl⟩)))))
 have pR:∀ a b,a<p.nl→b<p.n→(if isPart p (iR a b) then Of (iR a b) else [])=Of (iR a b):=fun a b ha hb=>if_pos (.inr (.inr (.inr (.inr (.inr ⟨a,b,ha,hb,rfl⟩)))))
 have hsub:∀ x c,c∈(if isPart p x then Of x else [])→c∈Of x:=fun x c hc=>by
  by_cases hx:isPart p x
  ·rw [if_pos hx] at hc;exact hc
  ·rw [if_neg hx] at hc;cases hc
 have hlo:∀ c,c∈allOf Of p→base≤c:=fun c hc=>by
  obtain ⟨x,_,hz,hm⟩:=allOf_out hc
  exact h.lo x c hz hm
 refine ⟨allOf Of p,{ m with X:=m.tb::(clk ++ ((Value.slice (some ⟨nb,0,none⟩) p.n nc).ownBlock.toList ++ (Value.slice ka p.nl kc).ownBlock.toList)),nb:=nb,ncap:=nc,ka:=ka,kb:=kb,kcap:=kc },⟨fun x=>if isPart p x then Of x else [],⟨?_,⟨hrow.sl,hrow.lk,hrow.zl⟩,pB.trans h.ob,pZ.trans h.oz,⟨fun x c hc=>h.fam.lt x c (hsub x c hc),fun x y hxy c hc hd=>h.fam.ap x y hxy c (hsub x c hc) (hsub y c hd)⟩,fun x c hz hc=>?_,fun c hc hx=>?_,fun c hc=>?_,fun j hj=>?_,fun j hj=>?_,fun a b ha hb=>?_,?_,fun _ _=>Nat.zero_le _⟩⟩,hlo⟩
 ·refine ⟨(h.cel 0 (by decide) (by decide)).trans e0,(h.cel 1 (by decide) (by decide)).trans e1,(h.cel 3 (by decide) (by decide)).trans e3,(h.cel 4 (by decide) (by decide)).trans e4,(h.cel 5 (by decide) (by decide)).trans e5,(h.cel 6 (by decide) (by decide)).trans e6,(h.cel 7 (by decide) (by decide)).trans e7,(h.cel 10 (by decide) (by decide)).trans e10,(h.cel 11 (by decide) (by decide)).trans e11,h.c12,h.c13,(h.cel 14 (by decide) (by decide)).trans e14,(h.cel 15 (by decide) (by decide)).trans e15,(h.cel 16 (by decide) (by decide)).trans e16,h.z,h.lC,h.nC,fun c hc=>h.fam.lt iB c (by rw [h.ob];exact List.mem_cons_of_mem _ hc),fun h0=>?_,fun j hj=>?_,?_,fun h0=>⟨hkb h0,?_⟩,fun j hj=>?_,?_,List.mem_cons_self⟩
  ·obtain ⟨b,off,e,hb,hc⟩:=hck h0
   exact ⟨b,off,e,List.mem_cons_of_mem _ (List.mem_append.2 (.inl hb)),hc⟩
  ·have:=h.own12.cells (g:=nb) rfl j (.pointer (some ⟨m.P j,0,none⟩)) (by simp [hj])
   rwa [add_at,Nat.zero_add] at this
  ·simp [Value.ownBlock]
  ·rw [hkb h0]
   simp [Value.ownBlock]
  ·have hkb':=hkb (by omega)
   subst hkb'
   have:=h.own13.cells (g:=kb) rfl j (.pointer (some ⟨m.S j,0,none⟩)) (by simp [hj])
   rwa [add_at,Nat.zero_add] at this
  ·obtain ⟨g,hg,hr⟩:=h.tk
   exact ⟨g,hg,fun a b ha hb=>hr a b (hT a b ha hb)⟩
 ·by_cases hx:isPart p x
  ·simp only [if_pos hx] at hc
   exact allOf_mem hx hz hc
  ·simp only [if_neg hx] at hc
   cases hc
 ·have:=hlo c hc
  have:=hzb c hx
  omega
 ·obtain ⟨x,_,_,hm⟩:=allOf_out hc
  exact h.fam.lt x c hm
 ·exact ⟨⟨(h.node j hj).1,(pN j hj).trans (h.node j hj).2⟩,⟨show (0:Int)≤1 by decide,show (1:Int)≤((1:Nat):Int) by decide⟩,show (0:Int)≤0 by decide,show (0:Int)≤((1:Nat):Int) by decide⟩
 ·simp only [pS j hj]
  exact ⟨h.snd j hj,Nat.zero_le _,⟨show (0:Int)≤0 by decide,show (0:Int)≤1099511627776 by decide⟩,fun d hd=>by cases hd⟩
 ·have hn:=h.rcv a b (hT a b ha hb)
  exact ⟨0,0,⟨hn.1,(pR a b ha hb).trans hn.2⟩,⟨⟨by decide,by decide⟩,by decide,by decide⟩,show (-1:Int)≤255 by decide⟩
 ·exact ⟨[],pP.trans h.prt.1,(by intro y;cases y),h.prt.2⟩
end
end
end Go.Proofs.YtooadfgibdjdeaaGreatDoor
