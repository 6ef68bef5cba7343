import Derived.Test.YtooadfgibdjdeaaGreatDoorZP4
import Derived.Test.YtooadfgibdjdeaaGreatDoorZPCluM
import Derived.Laws.MakeOwn
import Derived.OwnWalk
namespace Go.Proofs.YtooadfgibdjdeaaGreatDoor
open Go.RowKit
set_option maxRecDepth 100000
set_option maxHeartbeats 16000000
section
abbrev iX:CIx:=(5,0,0)
def upd (f:Nat→Nat) (j v:Nat):Nat→Nat:=fun i=>if i=j then v else f i
theorem upd_at (f:Nat→Nat) (j v:Nat):upd f j v j=v:=if_pos rfl
theorem upd_not (f:Nat→Nat) {i j:Nat} (v:Nat) (h:i≠j):upd f j v i=f i:=if_neg h
structure LinkNew (b0:Nat) (w:World) (N:CIx→List Nat) (k n J:Nat) (tq bag queue:Int) (S E:Nat) (D R Q:Nat→Nat):Prop where
 fam:Fam w N
 lo:∀ i c,c∈N i→b0≤c
 only:∀ i,N i≠[]→i=iX∨i=iS k∨∃ j,j<J∧(i=iR k j∨i=iQ k j)
 sdr:Sdr w (N (iS k)) S bag queue [] 0 0 0
 eX:E∈N iX
 zE:∀ i,w.frozen? ⟨E,i,none⟩=false
 en:∀ j,j<n→w.cell? ⟨E,j,none⟩=some (.pointer (if j<J∧bitI tq j=true then some ⟨D j,0,none⟩ else none))
 dn:∀ j,j<J→bitI tq j=true→(D j∈N iX∧D j≠E∧w.cell? ⟨D j,0,none⟩=some (.pointer (some ⟨R j,0,none⟩))∧w.cell? ⟨D j,1,none⟩=some (.pointer (some ⟨Q j,0,none⟩)))∧Rcv w (N (iR k j)) (R j) (-1) 0 0∧Que w (N (iQ k j)) (Q j) 16 [] 0
section
variable {b0:Nat} {w:World} {N:CIx→List Nat} {k n J:Nat} {tq bag queue:Int} {S E:Nat} {D R Q:Nat→Nat}
theorem LinkNew.skip (h:LinkNew b0 w N k n J tq bag queue S E D R Q) (hb:bitI tq J=false):LinkNew b0 w N k n (J+1) tq bag queue S E D R Q:=by
 refine ⟨h.fam,h.lo,fun i hi=>?_,h.sdr,h.eX,h.zE,fun j hj=>?_,fun j hj hbj=>?_⟩
 ·rcases h.only i hi with y | y | ⟨j,y,z⟩
  ·exact .inl y
  ·exact .inr (.inl y)
  ·exact .inr (.inr ⟨j,by omega,z⟩)
 ·rw [h.en j hj]
  by_cases e:j=J
  ·subst e
   rw [if_neg (fun y=>by have:=y.1;omega),if_neg (fun y=>by rw [hb] at y;cases y.2)]
  ·have:(j<J∧bitI tq j=true)↔(j<J+1∧bitI tq j=true):=⟨fun y=>⟨by have:=y.1;omega,y.2⟩,fun y=>⟨by have:=y.1;omega,y.2⟩⟩
   simp only [this]
 ·by_cases e:j=J
  ·subst e;rw [hb] at hbj;cases hbj
  ·exact h.dn j (by omega) hbj
theorem LinkNew.empty (h:LinkNew b0 w N k n J tq bag queue S E D R Q) {j:Nat} (hj:J≤j):N (iR k j) = []∧N (iQ k j) = []:=by
 constructor
 ·by_cases e:N (iR k j) = []
  ·exact e
  ·rcases h.only _ e with y | y | ⟨j',y,z | z⟩
   ·simp at y
   ·simp at y
   ·simp at z;omega
   ·simp at z
 ·by_cases e:N (iQ k j) = []
  ·exact e
  ·rcases h.only _ e with y | y | ⟨j',y,z | z⟩
   ·simp at y
   ·simp at y
   ·simp at z
   ·simp at z;omega
theorem LinkNew.step (h:LinkNew b0 w N k n J tq bag queue S E D R Q) (hb:bitI tq J=true) (hb0:b0≤w.heap.size) {w1 w2 w3 w4 V0:World} {OQ OR:List Nat} {PQ PR:Nat} {t:TypeId} (hV:Below b0 V0 w) (k1:Below w.heap.size w w1) (hq:Que w1 OQ PQ 16 [] 0) (lq:∀ c,c∈OQ→w.heap.size≤c) (k2:Below w1.heap.size w1 w2) (hr:Rcv w2 OR PR (-1) 0 0) (lr:∀ c,c∈OR→w1.heap.size≤c) (hw3:w2.alloc (.cells #[.pointer (some ⟨PR,0,none⟩),.pointer (some ⟨PQ,0,none⟩)] t)=w3) (hw4:w3.setCell ⟨E,J,none⟩ (.pointer (some ⟨w2.heap.size,0,none⟩))=w4) :
  (∃ N',LinkNew b0 w4 N' k n (J+1) tq bag queue S E (upd D J w2.heap.size) (upd R J PR) (upd Q J PQ))∧Below b0 V0 w4:=by
 have hE:=h.fam.lt _ _ h.eX
 have hE0:=h.lo _ _ h.eX
 have s1:=k1.size
 have s2:=k2.size
 have k3:Below w2.heap.size w2 w3:=by rw [← hw3];exact (Below.refl _ _).alloc (Nat.le_refl _) _
 have s3:w3.heap.size=w2.heap.size+1:=by rw [← hw3];simp
 have s4:w4.heap.size=w3.heap.size:=by rw [← hw4];simp
 have d0:w3.cell? ⟨w2.heap.size,0,none⟩=some (.pointer (some ⟨PR,0,none⟩)):=by rw [← hw3];simp
 have d1:w3.cell? ⟨w2.heap.size,1,none⟩=some (.pointer (some ⟨PQ,0,none⟩)):=by rw [← hw3];simp
 have b4:∀ c,c≠E→w4.heap[c]? = w3.heap[c]?:=fun c hc=>by rw [← hw4];exact Below.heap_setCell _ _ _ _ hc
 have t3:Below w.heap.size w w3:=k1.trans ((k2.mono s1).trans (k3.mono (by omega)))
 have keep:∀ c,c<w.heap.size→c≠E→w4.heap[c]? = w.heap[c]?:=fun c hc hn=>(b4 c hn).trans (t3.block c hc)
 have hsame:∀ i,i≠iX→Same (N i) w w4:=fun i hi=>⟨by omega,fun c hc=>keep c (h.fam.lt i c hc) (fun e=>h.fam.ap iX i (Ne.symm hi) E h.eX (e▸hc))⟩
 have sQ:Same OQ w1 w4:=⟨by omega,fun c hc=>by
  have g1:=lq c hc
  have g2:=hq.lt c hc
  rw [b4 c (by omega),k3.block c (by omega),k2.block c g2]⟩
 have sR:Same OR w2 w4:=⟨by omega,fun c hc=>by
  have g1:=lr c hc
  have g2:=hr.lt c hc
  rw [b4 c (by omega),k3.block c g2]⟩
 obtain ⟨e1,e2⟩:=h.empty (Nat.le_refl J)
 have F1:Fam w1 (setO N (iQ k J) OQ):=h.fam.add k1 e2 (fun c hc=>⟨lq c hc,hq.lt c hc⟩)
 have F2:Fam w2 (setO (setO N (iQ k J) OQ) (iR k J) OR):=F1.add k2 (by rw [setO_not _ _ (by simp)];exact e1) (fun c hc=>⟨lr c hc,hr.lt c hc⟩)
 have eXX:setO (setO N (iQ k J) OQ) (iR k J) OR iX=N iX:=by rw [setO_not _ _ (by simp),setO_not _ _ (by simp)]
 have F3:Fam w4 (setO (setO (setO N (iQ k J) OQ) (iR k J) OR) iX (w2.heap.size::N iX)):=by
  refine F2.step (i:=iX) ?_ (fun c hc=>?_)
  ·rw [eXX]
   have z4:Below 0 w2 w4:=by rw [← hw4];exact (k3.mono (Nat.zero_le _)).setCell (Nat.zero_le _) _
   refine ⟨z4.os,z4.tape,z4.output,by omega,fun c hc hn=>(b4 c (fun e=>hn (e▸h.eX))).trans (k3.block c hc),fun c hc=>?_⟩
   ·rcases List.mem_cons.1 hc with y | y
    ·exact .inr (by omega)
    ·exact .inl y
  ·rcases List.mem_cons.1 hc with y | y
   ·omega
   ·have:=h.fam.lt _ _ y;omega
 obtain ⟨N',hN'⟩:∃ N',setO (setO (setO N (iQ k J) OQ) (iR k J) OR) iX (w2.heap.size::N iX)=N':=⟨_,rfl⟩
 have nX:N' iX=w2.heap.size::N iX:=by rw [← hN'];exact setO_at _ _ _
 have nR:N' (iR k J)=OR:=by rw [← hN',setO_not _ _ (by simp)];exact setO_at _ _ _
 have nQ:N' (iQ k J)=OQ:=by rw [← hN',setO_not _ _ (by simp),setO_not _ _ (by simp)];exact setO_at _ _ _
 have nO:∀ i,i≠iX→i≠iR k J→i≠iQ k J→N' i=N i:=fun i h1 h2 h3=>by rw [← hN',setO_not _ _ h1,setO_not _ _ h2,setO_not _ _ h3]
 rw [hN'] at F3
 clear hN' F1 F2 eXX
 have cE:∀ i,w3.cell? ⟨E,i,none⟩=w.cell? ⟨E,i,none⟩:=fun i=>t3.cell (p:=⟨E,i,none⟩) hE
 refine ⟨⟨N',F3,fun i c hc=>?_,fun i hi=>?_,?_,?_,fun i=>?_,fun j hj=>?_,fun j hj hbj=>?_⟩,?_⟩
 ·by_cases i1:i=iX
  ·subst i1;rw [nX] at hc
   rcases List.mem_cons.1 hc with y | y
   ·omega
   ·exact h.lo _ _ y
  by_cases i2:i=iR k J
  ·subst i2;rw [nR] at hc;have:=lr c hc;omega
  by_cases i3:i=iQ k J
  ·subst i3;rw [nQ] at hc;have:=lq c hc;omega
  rw [nO i i1 i2 i3] at hc
  exact h.lo _ _ hc
 ·by_cases i1:i=iX
  ·exact .inl i1
  by_cases i2:i=iR k J
  ·exact .inr (.inr ⟨J,by omega,.inl i2⟩)
  by_cases i3:i=iQ k J
  ·exact .inr (.inr ⟨J,by omega,.inr i3⟩)
  rw [nO i i1 i2 i3] at hi
  rcases h.only i hi with y | y | ⟨j,y,z⟩
  ·exact .inl y
  ·exact .inr (.inl y)
  ·exact .inr (.inr ⟨j,by omega,z⟩)
 ·rw [nO (iS k) (by simp) (by simp) (by simp)]
  exact h.sdr.keep (hsame _ (by simp))
 ·rw [nX];exact List.mem_cons_of_mem _ h.eX
 ·rw [← hw4];exact soft_set.trans ((t3.frozen (p:=⟨E,i,none⟩) hE).trans (h.zE i))
 ·by_cases e:j=J
  ·subst e
   rw [if_pos ⟨by omega,hb⟩,upd_at,← hw4]
   exact cell_set ((cE j).trans (h.en j hj))
  ·rw [← hw4,cell_other (.inr e),cE j,h.en j hj,upd_not _ _ e]
   have:(j<J∧bitI tq j=true)↔(j<J+1∧bitI tq j=true):=⟨fun y=>⟨by have:=y.1;omega,y.2⟩,fun y=>⟨by have:=y.1;omega,y.2⟩⟩
   simp only [this]
 ·by_cases e:j=J
  ·subst e
   rw [upd_at,upd_at,upd_at,nX,nR,nQ]
   refine ⟨⟨List.mem_cons_self,by omega,?_,?_⟩,hr.keep sR,hq.keep sQ⟩
   ·rw [← hw4,cell_other (.inl (by omega))];exact d0
   ·rw [← hw4,cell_other (.inl (by omega))];exact d1
  ·obtain ⟨⟨a1,a2,a3,a4⟩,a5,a6⟩:=h.dn j (by omega) hbj
   rw [upd_not _ _ e,upd_not _ _ e,upd_not _ _ e,nX,nO (iR k j) (by simp) (by simpa using e) (by simp),nO (iQ k j) (by simp) (by simp) (by simpa using e)]
   have aD:=h.fam.lt _ _ a1
   refine ⟨⟨List.mem_cons_of_mem _ a1,a2,?_,?_⟩,a5.keep (hsame _ (by simp)),a6.keep (hsame _ (by simp))⟩
   ·rw [← hw4,cell_other (.inl a2)];exact (t3.cell (p:=⟨D j,0,none⟩) aD).trans a3
   ·rw [← hw4,cell_other (.inl a2)];exact (t3.cell (p:=⟨D j,1,none⟩) aD).trans a4
 ·rw [← hw4]
  exact (hV.trans (t3.mono hb0)).setCell (p:=⟨E,J,none⟩) hE0 _
theorem LinkNew.same (h:LinkNew b0 w N k n J tq bag queue S E D R Q) {w':World} (hs:w.heap.size≤w'.heap.size) (hk:∀ c,b0≤c→c<w.heap.size→w'.heap[c]? = w.heap[c]?):LinkNew b0 w' N k n J tq bag queue S E D R Q:=by
 have sm:∀ i,Same (N i) w w':=fun i=>⟨hs,fun c hc=>hk c (h.lo i c hc) (h.fam.lt i c hc)⟩
 refine ⟨⟨fun i c hc=>Nat.lt_of_lt_of_le (h.fam.lt i c hc) hs,h.fam.ap⟩,h.lo,h.only,h.sdr.keep (sm _),h.eX,fun i=>((sm iX).frozen (p:=⟨E,i,none⟩) h.eX).trans (h.zE i),fun j hj=>((sm iX).cell (p:=⟨E,j,none⟩) h.eX).trans (h.en j hj),fun j hj hb=>?_⟩
 obtain ⟨⟨a1,a2,a3,a4⟩,a5,a6⟩:=h.dn j hj hb
 exact ⟨⟨a1,a2,((sm iX).cell (p:=⟨D j,0,none⟩) a1).trans a3,((sm iX).cell (p:=⟨D j,1,none⟩) a1).trans a4⟩,a5.keep (sm _),a6.keep (sm _)⟩
theorem LinkNew.low (h:LinkNew b0 w N k n J tq bag queue S E D R Q) {b1:Nat} (hb:b1≤b0):LinkNew b1 w N k n J tq bag queue S E D R Q :=
 ⟨h.fam,fun i c hc=>Nat.le_trans hb (h.lo i c hc),h.only,h.sdr,h.eX,h.zE,h.en,h.dn⟩
theorem LinkNew.first {V0 w1 w2:World} {OS:List Nat} (hs:Sdr w1 OS S bag queue [] 0 0 0) (lo:∀ c,c∈OS→V0.heap.size≤c) (hb:Below V0.heap.size V0 w1) {t:TypeId} (hw2:w1.alloc (.cells (madeCells #[.pointer none] n) t)=w2) (kk:Nat) (tq:Int) (D R Q:Nat→Nat) :
  (∃ N,LinkNew V0.heap.size w2 N kk n 0 tq bag queue S w1.heap.size D R Q)∧Below V0.heap.size V0 w2:=by
 have k2:Below w1.heap.size w1 w2:=by rw [← hw2];exact (Below.refl _ _).alloc (Nat.le_refl _) _
 have s2:w2.heap.size=w1.heap.size+1:=by rw [← hw2];simp
 have s1:=hb.size
 have F0:Fam V0 (fun _:CIx=>([]:List Nat)):=⟨fun i c hc=>by simp at hc,fun i j _ c hc=>by simp at hc⟩
 have F1:Fam w1 (setO (fun _:CIx=>([]:List Nat)) (iS kk) OS):=F0.add hb rfl (fun c hc=>⟨lo c hc,hs.lt c hc⟩)
 have F2:Fam w2 (setO (setO (fun _:CIx=>([]:List Nat)) (iS kk) OS) iX [w1.heap.size]):=F1.add k2 (by rw [setO_not _ _ (by simp)]) (fun c hc=>by
  have:c=w1.heap.size:=by simpa using hc
  omega)
 obtain ⟨N,hN⟩:∃ N,setO (setO (fun _:CIx=>([]:List Nat)) (iS kk) OS) iX [w1.heap.size]=N:=⟨_,rfl⟩
 have nX:N iX = [w1.heap.size]:=by rw [← hN];exact setO_at _ _ _
 have nS:N (iS kk)=OS:=by rw [← hN,setO_not _ _ (by simp)];exact setO_at _ _ _
 have nO:∀ i,i≠iX→i≠iS kk→N i = []:=fun i h1 h2=>by rw [← hN,setO_not _ _ h1,setO_not _ _ h2]
 rw [hN] at F2
 clear hN F1 F0
 refine ⟨⟨N,F2,fun i c hc=>?_,fun i hi=>?_,?_,?_,fun i=>?_,fun j hj=>?_,fun j hj=>absurd hj (Nat.not_lt_zero _)⟩,hb.trans (k2.mono s1)⟩
 ·by_cases i1:i=iX
  ·subst i1
   rw [nX] at hc
   have:c=w1.heap.size:=by simpa using hc
   omega
  by_cases i2:i=iS kk
  ·subst i2
   rw [nS] at hc
   exact lo c hc
  rw [nO i i1 i2] at hc
  simp at hc
 ·by_cases i1:i=iX
  ·exact .inl i1
  by_cases i2:i=iS kk
  ·exact .inr (.inl i2)
  exact absurd (nO i i1 i2) hi
 ·rw [nS];exact hs.keep (Same.of_below k2 hs.lt)
 ·rw [nX];exact List.mem_singleton.2 rfl
 ·rw [← hw2];simp
 ·rw [if_neg (fun y=>absurd y.1 (Nat.not_lt_zero _)),← hw2]
  simp [madeCells,hj,Nat.mod_one]
end
end
section
theorem fold_in:∀ (l:List Int) (y lo hi:Int),(lo≤y∧y≤hi)→(∀ x∈l,lo≤x∧x≤hi)→(lo≤l.foldl max y∧l.foldl max y≤hi)∧lo≤l.foldl min y∧l.foldl min y≤hi:=by
 intro l
 induction l with
 | nil=>intro y lo hi hy _;exact ⟨hy,hy⟩
 | cons a l ih =>
  intro y lo hi hy h
  have ha:=h a List.mem_cons_self
  exact ⟨(ih (max y a) lo hi (by omega) (fun x hx=>h x (List.mem_cons_of_mem _ hx))).1,(ih (min y a) lo hi (by omega) (fun x hx=>h x (List.mem_cons_of_mem _ hx))).2⟩
theorem pspread_any (a:Option Addr) (cap:Nat) (l:List Int) (w:World) (hr:IntRow w a l) (hn:l.length≤1000) (hin:∀ x∈l,-2199023255552≤x∧x≤2199023255552) :
  Calls Tryz.prog 53 #[.slice a l.length cap] w fun e w'=>e=.returned (.int .i64 (spreadL l))∧w'=w:=by
 rcases Nat.eq_zero_or_pos l.length with h0 | h0
 ·have:l = []:=List.length_eq_zero_iff.1 h0
  subst this
  clear hr hin hn h0
  go_enter Tryz.func53,Tryz.ntmps53
  go_wp2
  go_ret
  exact ⟨rfl,rfl⟩
 obtain ⟨b,off,rfl,hb,hc⟩:=hr h0
 have hne:l≠[]:=by rintro rfl;simp at h0
 have hm0:∃ y,l.headD 0=y∧-2199023255552≤y∧y≤2199023255552:=by
  cases l with
  | nil=>exact absurd rfl hne
  | cons y l=>exact ⟨y,rfl,hin y List.mem_cons_self⟩
 obtain ⟨y0,hy0,hyb⟩:=hm0
 obtain ⟨⟨m1,m2⟩,m3,m4⟩:=fold_in l y0 (-2199023255552) 2199023255552 hyb hin
 have hM:=Tryz.slices_Max_int b off l.length cap l w h0 (Nat.le_refl _) (by omega) hc
 have hm:=Tryz.slices_Min_int b off l.length cap l w h0 (Nat.le_refl _) (by omega) hc
 rw [List.take_length] at hM hm
 have eM:Lib.maxOf l=l.foldl max y0:=by rw [← hy0];rfl
 have em:Lib.minOf l=l.foldl min y0:=by rw [← hy0];rfl
 rw [eM] at hM
 rw [em] at hm
 have HS:Hid (spreadL l=l.foldl max y0 - l.foldl min y0):=by show _=_;rw [← hy0];rfl
 rw [HS.out]
 have k1:((l.length:Int) == 0)=false:=by simp;intro e;exact hne e
 generalize l.foldl max y0=x at *
 generalize l.foldl min y0=y at *
 generalize l.length=n at *
 clear hc hin hr hne eM em HS hy0
 go_enter Tryz.func53,Tryz.ntmps53
 go_wp2_with fail
 refine hM.mono ?_
 rintro e w1 ⟨rfl,rfl⟩
 go_wp2_with fail
 refine hm.mono ?_
 rintro e w1 ⟨rfl,rfl⟩
 go_wp2
 go_ret
 exact ⟨rfl,rfl⟩
def rightTo (fa:Int) (cs:List Int) (k:Nat):List Int:=((List.range k).filter fun i=>!bitI fa i).map fun i=>cs.getD i 0
theorem rightTo_succ (fa:Int) (cs:List Int) (k:Nat):rightTo fa cs (k+1)=rightTo fa cs k ++ (if bitI fa k=true then [] else [cs.getD k 0]):=by
 unfold rightTo
 rw [List.range_succ,List.filter_append,List.map_append]
 congr 1
 cases h:bitI fa k <;> simp [h]
theorem rightTo_len (fa:Int) (cs:List Int) (k:Nat):(rightTo fa cs k).length≤k:=by
 unfold rightTo
 rw [List.length_map]
 exact Nat.le_trans (List.length_filter_le _ _) (by simp)
theorem getD_mem9 {l:List Int} {a:Nat} (h:a<l.length):l.getD a 0∈l:=by
 simp [List.getD,List.getElem?_eq_getElem h]
theorem rightTo_mem {fa:Int} {cs:List Int} {k:Nat} (hk:k≤cs.length) {x:Int} (h:x∈rightTo fa cs k):x∈cs:=by
 obtain ⟨i,hi,rfl⟩:=List.mem_map.1 h
 have:=List.mem_range.1 (List.mem_filter.1 hi).1
 exact getD_mem9 (by omega)
theorem owns_introw9 {w:World} {base n:Nat} {v:Value} {l:List Int} (h:w.ownsRow base 3 1 v n (l.map (Value.int .i64))):∃ a cap,v=.slice a l.length cap∧IntRow w a l∧l.length=n:=by
 have hl:l.length=n:=by have:=h.1;simpa using this
 rcases h.2 with ⟨rfl,h0⟩ | ⟨g,cap,cur,rfl,hg,hh,_⟩
 ·refine ⟨none,0,by rw [hl,h0],fun q=>absurd q (by omega),hl⟩
 ·have hlt:g<w.heap.size:=by
   rcases Nat.lt_or_ge g w.heap.size with q | q
   ·exact q
   ·rw [Array.getElem?_eq_none q] at hh;cases hh
  refine ⟨_,cap,by rw [hl],fun _=>⟨g,0,rfl,hlt,fun j hj=>?_⟩,hl⟩
  have:=h.cells (g:=g) rfl j (.int .i64 (l.getD j 0)) (by simp [List.getD,List.getElem?_eq_getElem hj])
  rw [add_at] at this
  exact this
theorem cspread_any (C:Nat) (fa:Int) (a:Option Addr) (cap:Nat) (cs:List Int) (w:World) (c10:w.cell? ⟨C,10,none⟩=some (.int .i64 fa)) (c11:w.cell? ⟨C,11,none⟩=some (.slice a cs.length cap)) (hr:IntRow w a cs) (hn:cs.length≤16) (hin:∀ x∈cs,-274877906944≤x∧x≤274877906944) :
  Calls Tryz.prog 16 #[.pointer (some ⟨C,0,none⟩)] w fun e w'=>e=.returned (.int .i64 (spreadL (rightOf fa cs)))∧Below w.heap.size w w':=by
 obtain ⟨n,hln⟩:∃ n,cs.length=n:=⟨_,rfl⟩
 have HL:Hid (cs.length=n):=hln
 have HIn:Hid (∀ x∈cs,-274877906944≤x∧x≤274877906944):=hin
 have HR:Hid (IntRow w a cs):=hr
 have hlC:C<w.heap.size:=lt_of_cell9 c10
 obtain ⟨i0,hi,hz0,hz1,hz2⟩:=info_parts Tryz.infoInt
 rw [hln] at hn c11
 clear hin hr hln
 go_enter Tryz.func16,Tryz.ntmps16
 go_wp2_with fail
 go_loopw [3,11] (fun lv t wr=>∃ k:Nat,k≤n∧t=.int .i64 k∧Hid (wr.ownsRow w.heap.size 3 1 lv (rightTo fa cs k).length ((rightTo fa cs k).map (Value.int .i64)))∧Hid (Below w.heap.size w wr)) (fun _ t _=>n - (intOf t).toNat)
 case atStart=>exact ⟨0,Nat.zero_le _,rfl,World.ownsRow_nil _ _ _ _,Below.refl _ _⟩
 case round =>
  obtain ⟨k,hk,rfl,hown,hbe⟩:=hrel
  have y10:=(hbe.out.cell (p:=⟨C,10,none⟩) hlC).trans c10
  have hlC2:C<wr.heap.size:=Nat.lt_of_lt_of_le hlC hbe.out.size
  by_cases hlt:k<n
  ·have kk:(k:Int)<(n:Int):=by omega
   obtain ⟨b,off,rfl,hb,hc⟩:=HR.out (by rw [HL.out];omega)
   have y0:=(hbe.out.cell (p:=⟨b,off+k,none⟩) hb).trans (hc k (by rw [HL.out];exact hlt))
   have hbw:b<wr.heap.size:=Nat.lt_of_lt_of_le hb hbe.out.size
   have HS:Hid (rightTo fa cs (k+1)=rightTo fa cs k ++ (if bitI fa k=true then [] else [cs.getD k 0])):=rightTo_succ fa cs k
   have hrl:=rightTo_len fa cs k
   have hli:=chas_any fa k (by omega) wr
   have hs0:=hbe.out.size
   generalize cs.getD k 0=CK at *
   generalize hRT:rightTo fa cs k=RT at *
   clear hc hRT
   cases hb2:bitI fa k
   ·rw [hb2] at hli
    rw [hb2,if_neg (by decide)] at HS
    go_wp2_with fail
    refine hli.mono ?_
    rintro ev w2 ⟨rfl,h⟩
    replace h:=h.symm
    subst h
    have hOq:wr.ownsRow w.heap.size 3 1 u3 RT.length (RT.map (Value.int .i64)):=hown.out
    clear hli
    go_wp2_with (at_builtin;refine wpList_append_own _ rfl _ _ 27 rfl w.heap.size 3 i0 (.int .i64 0) 1 8 Tryz.underlying27 hi hz0 hz1 hz2 rfl (by decide) u3 _ _ rfl (hOq.alloc _) ⟨wr.heap.size,0,none⟩ 1 1 [.int .i64 CK] rfl rfl (cell_one_new _ _ _) (ints_one [CK]) (by unfold maxLen;omega) (by omega) (by simp;omega) ?_;intro v' w3 hown' hgrow hnil)
    have hb3:Below w.heap.size w w3:=(hbe.out.alloc hs0 _).grown hgrow (by simp;omega) (fun g hg=>(hown.out.lt g hg).1)
    refine ⟨⟨k+1,by omega,by go_num,?_,hb3⟩,?_⟩
    ·rw [HS.out,List.map_append,List.length_append]
     exact hown'
    ·simp [intOf];omega
   ·rw [hb2] at hli
    rw [hb2,if_pos rfl,List.append_nil] at HS
    go_wp2_with fail
    refine hli.mono ?_
    rintro ev w2 ⟨rfl,h⟩
    replace h:=h.symm
    subst h
    clear hli
    go_wp2_with fail
    refine ⟨⟨k+1,by omega,by go_num,?_,hbe⟩,?_⟩
    ·rw [HS.out]
     exact hown.out
    ·simp [intOf];omega
  ·have hkn:k=n:=by omega
   obtain ⟨va,vcap,rfl,hir,hlen2⟩:=owns_introw9 hown.out
   have hsp:=pspread_any va vcap (rightTo fa cs k) wr hir (Nat.le_trans (rightTo_len fa cs k) (by omega)) (fun x hx=>by have:=HIn.out x (rightTo_mem (by rw [HL.out];exact hk) hx);omega)
   have HE:Hid (rightTo fa cs k=rightOf fa cs):=by show _=_;rw [hkn,← HL.out];rfl
   have kk:decide (k<n)=false:=decide_eq_false hlt
   clear hkn hlt hown hir hlen2
   go_wp2_with fail
   refine hsp.mono ?_
   rintro ev w2 ⟨rfl,h⟩
   replace h:=h.symm
   subst h
   clear hsp
   go_wp2
   go_ret
   exact ⟨congrArg (fun x=>Ending.returned (Value.int .i64 (spreadL x))) HE.out,hbe.out⟩
theorem crounds_any (C:Nat) (rd:Int) (w:World) (c12:w.cell? ⟨C,12,none⟩=some (.int .i64 rd)) :
  Calls Tryz.prog 15 #[.pointer (some ⟨C,0,none⟩)] w fun e w'=>e=.returned (.int .i64 rd)∧w'=w:=by
 have hlC:C<w.heap.size:=lt_of_cell9 c12
 go_enter Tryz.func15,Tryz.ntmps15
 go_wp2
 go_ret
 exact ⟨rfl,rfl⟩
theorem cisNode_any (C:Nat) (nodes x:Int) (w:World) (c0:w.cell? ⟨C,0,none⟩=some (.int .i64 nodes)) :
  Calls Tryz.prog 50 #[.pointer (some ⟨C,0,none⟩),.int .i64 x] w fun e w'=>e=.returned (.bool (decide (0≤x∧x<nodes)))∧w'=w:=by
 have hlC:C<w.heap.size:=lt_of_cell9 c0
 by_cases k1:0≤x
 ·by_cases k2:x<nodes
  ·rw [decide_eq_true (show 0≤x∧x<nodes from ⟨k1,k2⟩)]
   go_enter Tryz.func50,Tryz.ntmps50
   go_wp2
   go_ret
   exact ⟨rfl,rfl⟩
  ·rw [decide_eq_false (show ¬ (0≤x∧x<nodes) by omega)]
   have k2':decide (x<nodes)=false:=decide_eq_false k2
   clear k2
   go_enter Tryz.func50,Tryz.ntmps50
   go_wp2
   go_ret
   exact ⟨rfl,rfl⟩
 ·rw [decide_eq_false (show ¬ (0≤x∧x<nodes) by omega)]
  have k2':decide (0≤x)=false:=decide_eq_false k1
  clear k1
  go_enter Tryz.func50,Tryz.ntmps50
  go_wp2
  go_ret
  exact ⟨rfl,rfl⟩
theorem cisLink_any (C:Nat) (la:Option Addr) (nl cap:Nat) (x:Int) (w:World) (c14:w.cell? ⟨C,14,none⟩=some (.slice la nl cap)) :
  Calls Tryz.prog 48 #[.pointer (some ⟨C,0,none⟩),.int .i64 x] w fun e w'=>e=.returned (.bool (decide (0≤x∧x<nl)))∧w'=w:=by
 have hlC:C<w.heap.size:=lt_of_cell9 c14
 by_cases k1:0≤x
 ·by_cases k2:x<(nl:Int)
  ·rw [decide_eq_true (show 0≤x∧x<(nl:Int) from ⟨k1,k2⟩)]
   go_enter Tryz.func48,Tryz.ntmps48
   go_wp2
   go_ret
   exact ⟨rfl,rfl⟩
  ·rw [decide_eq_false (show ¬ (0≤x∧x<(nl:Int)) by omega)]
   have k2':decide (x<(nl:Int))=false:=decide_eq_false k2
   clear k2
   go_enter Tryz.func48,Tryz.ntmps48
   go_wp2
   go_ret
   exact ⟨rfl,rfl⟩
 ·rw [decide_eq_false (show ¬ (0≤x∧x<(nl:Int)) by omega)]
  have k2':decide (0≤x)=false:=decide_eq_false k1
  clear k1
  go_enter Tryz.func48,Tryz.ntmps48
  go_wp2
  go_ret
  exact ⟨rfl,rfl⟩
end
end Go.Proofs.YtooadfgibdjdeaaGreatDoor
