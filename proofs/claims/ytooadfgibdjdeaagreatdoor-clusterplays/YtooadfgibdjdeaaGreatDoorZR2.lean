import Derived.Test.YtooadfgibdjdeaaGreatDoorZP2
import Derived.Test.YtooadfgibdjdeaaGreatDoorZR1
import Derived.BigQuiet
import Derived.Laws.AppendOwn
import Derived.Lib.OwnBridge
import Derived.OwnWalk
import Derived.RegionTactic
import Derived.Sort.Grow
import Derived.Sort.OwnSortedInts
import Derived.WalkSpells
namespace Go.Proofs.YtooadfgibdjdeaaGreatDoor
open Go.RowKit
set_option maxRecDepth 100000
set_option maxHeartbeats 16000000
section
theorem PSendr.keep {w':World} {w:World} {B P:Nat} {bag queue:Int} {all:List ByteArray} {v:Value} {went:Nat} {last now:Int} (h:PSendr w B P bag queue all v went last now) (k:Same (P::v.ownBlock.toList) w w'):PSendr w' B P bag queue all v went last now:=by
 have hp:P∈P::v.ownBlock.toList:=List.mem_cons.2 (.inl rfl)
 exact ⟨(k.cell (p:=⟨P,0,none⟩) hp).trans h.c0,(k.cell (p:=⟨P,1,none⟩) hp).trans h.c1,(k.cell (p:=⟨P,2,none⟩) hp).trans h.c2,(k.cell (p:=⟨P,3,none⟩) hp).trans h.c3,(k.cell (p:=⟨P,4,none⟩) hp).trans h.c4,(k.cell (p:=⟨P,5,none⟩) hp).trans h.c5,fun i=>(k.frozen (p:=⟨P,i,none⟩) hp).trans (h.z i),owns_same h.own k (fun g hg=>List.mem_cons.2 (.inr (by simpa using hg))),h.lp,Nat.le_trans h.lb k.1,h.we⟩
theorem ordN_next (k:Nat):Int.tmod (ordN k) 255+1=ordN (k+1):=by
 have h:=ordN_in k
 rw [Int.tmod_eq_emod_of_nonneg h.1,← ordN_step]
 unfold stepN
 split <;> omega
theorem release_any {w:World} {B P:Nat} {bag queue:Int} {all:List ByteArray} {v:Value} {went:Nat} {last now:Int} (h:PSendr w B P bag queue all v went last now) (t:Int) (ht0:0≤t) (ht:t≤1099511627776) (hb0:0≤bag) (hb:bag≤1099511627776) (hw:went<all.length) (ha:all.length≤1000000) :
  Calls Tryz.prog 110 #[.pointer (some ⟨P,0,none⟩),.int .i64 t] w fun e w'=>e=.returned (.agg #[.int .i64 (ordN went),.string (all.getD went ByteArray.empty)])∧∃ v',PSendr w' B P bag queue all v' (went+1) t now∧Turns P (v.ownBlock.getD P) w w'∧v'.ownBlock=v.ownBlock:=by
 obtain ⟨c0,c1,c2,c3,c4,c5,z,own,lp,lb,we⟩:=h
 have hv:v≠.slice none 0 0:=by
  rintro rfl
  have:=own.1
  rcases own.2 with ⟨_,e⟩ | ⟨g,cap,cur,e,_⟩
  ·omega
  ·cases e
 rw [← Lib.map_encStr] at own
 obtain ⟨g,cap,rfl,hg,hgl,hcap,hm,hlen,hH⟩:=Lib.holds_of_ownsRow own hv
 have g0:w.cell? ⟨g,0,none⟩=some (.string (all.getD went ByteArray.empty)):=by
  have:=(hH 0 (by simp;omega)).1
  rw [Nat.zero_add] at this
  rw [this]
  have e1:(List.map (fun x:ByteArray=>x.data.toList) (List.drop went all)).toArray[0]! = (all.getD went ByteArray.empty).data.toList:=by
   rw [getElem!_pos _ _ (by simp;omega)]
   simp [List.getD,List.getElem?_eq_getElem hw]
  rw [e1]
 have HOwn:Hid (w.ownsRow B 9 1 (.slice (some ⟨g,0,none⟩) (all.length - went) cap) (all.length - went) ((all.drop went).map Value.string)):=by rw [← Lib.map_encStr];exact own
 have HZ:Hid (∀ i,w.frozen? ⟨P,i,none⟩=false):=z
 obtain ⟨n,hn⟩:∃ n,all.length - went=n:=⟨_,rfl⟩
 have HN:Hid (all.length - went=n∧went<all.length):=⟨hn,hw⟩
 rw [hn] at c2 hcap HOwn ⊢
 have n0:0<n:=by omega
 have n1:n≤1000000:=by omega
 have hgP:g≠P:=by omega
 generalize all.getD went ByteArray.empty=D at *
 obtain ⟨V,hV⟩:∃ V,w.alloc (.cells #[.int .i64 0,.string ⟨#[]⟩] 200)=V:=⟨_,rfl⟩
 have hB:Below w.heap.size w V:=by rw [← hV];exact (Below.refl w.heap.size w).alloc (Nat.le_refl _) _
 have hVs:V.heap.size=w.heap.size+1:=by rw [← hV];simp
 have r0:V.cell? ⟨w.heap.size,0,none⟩=some (.int .i64 0):=by rw [← hV];simp
 have r1:V.cell? ⟨w.heap.size,1,none⟩=some (.string ⟨#[]⟩):=by rw [← hV];simp
 have rz:∀ i,V.frozen? ⟨w.heap.size,i,none⟩=false:=fun i=>by rw [← hV];simp
 have cc:∀ i,V.cell? ⟨P,i,none⟩=w.cell? ⟨P,i,none⟩:=fun i=>hB.cell (p:=⟨P,i,none⟩) (show P<w.heap.size by omega)
 have y0:=(cc 0).trans c0
 have y1:=(cc 1).trans c1
 have y2:=(cc 2).trans c2
 have y3:=(cc 3).trans c3
 have y5:=(cc 5).trans c5
 have yg:=(hB.cell (p:=⟨g,0,none⟩) hgl).trans g0
 have HB:Hid (Below w.heap.size w V):=hB
 have lP:P<w.heap.size:=by omega
 obtain ⟨U,hU⟩:∃ U,(V.alloc (.cells #[.int .i64 (ordN went),.string D] 200)).drew=U:=⟨_,rfl⟩
 have hUB:Below V.heap.size V U:=by rw [← hU];exact ⟨rfl,rfl,rfl,by simp,fun c hc=>((Below.refl V.heap.size V).alloc (Nat.le_refl _) _).block c hc⟩
 have hUs:U.heap.size=w.heap.size+1+1:=by rw [← hU,← hVs];simp
 have x0:U.cell? ⟨w.heap.size+1,0,none⟩=some (.int .i64 (ordN went)):=by rw [← hU,← hVs];simp
 have x1:U.cell? ⟨w.heap.size+1,1,none⟩=some (.string D):=by rw [← hU,← hVs];simp
 have hOU:U.ownsRow B 9 1 (.slice (some ⟨g,0,none⟩) n cap) n ((all.drop went).map Value.string):=by
  refine owns_same (X:=[g]) HOwn.out ⟨by omega,fun c hc=>?_⟩ (fun g' hg'=>?_)
  ·have:c=g:=by simpa using hc
   subst this
   exact (hUB.block c (by omega)).trans (hB.block c hgl)
  ·have:g=g':=by simpa [Value.ownBlock] using hg'
   simp [this]
 have hD:=del_own hOU n0
 have HUB:Hid (Below V.heap.size V U):=hUB
 have uc:∀ i,U.cell? ⟨P,i,none⟩=w.cell? ⟨P,i,none⟩:=fun i=>(hUB.cell (p:=⟨P,i,none⟩) (show P<V.heap.size by omega)).trans (cc i)
 have u2:=(uc 2).trans c2
 have HU:Hid (∀ i,U.cell? ⟨P,i,none⟩=w.cell? ⟨P,i,none⟩):=uc
 have HUZ:Hid (∀ i,U.frozen? ⟨P,i,none⟩=false):=fun i=>((hUB.frozen (p:=⟨P,i,none⟩) (show P<V.heap.size by omega)).trans (hB.frozen (p:=⟨P,i,none⟩) lP)).trans (HZ.out i)
 have HU0:Hid (U.cell? ⟨w.heap.size,0,none⟩=some (.int .i64 0)):=(hUB.cell (p:=⟨w.heap.size,0,none⟩) (show w.heap.size<V.heap.size by omega)).trans r0
 have HU1:Hid (U.cell? ⟨w.heap.size,1,none⟩=some (.string ⟨#[]⟩)):=(hUB.cell (p:=⟨w.heap.size,1,none⟩) (show w.heap.size<V.heap.size by omega)).trans r1
 have HRZ:Hid (∀ i,U.frozen? ⟨w.heap.size,i,none⟩=false):=fun i=>(hUB.frozen (p:=⟨w.heap.size,i,none⟩) (show w.heap.size<V.heap.size by omega)).trans (rz i)
 have HX0:Hid (U.cell? ⟨w.heap.size+1,0,none⟩=some (.int .i64 (ordN went))):=x0
 have HX1:Hid (U.cell? ⟨w.heap.size+1,1,none⟩=some (.string D)):=x1
 have HC:Hid (w.cell? ⟨P,0,none⟩=some (.int .i64 bag)∧w.cell? ⟨P,1,none⟩=some (.int .i64 queue)∧w.cell? ⟨P,3,none⟩=some (.int .i64 now)∧w.cell? ⟨P,4,none⟩=some (.int .i64 (freeV went last bag))∧w.cell? ⟨P,5,none⟩=some (.int .i64 (ordN went))):=⟨c0,c1,c3,c4,c5⟩
 have HWU:Hid (Turns P g w U):=⟨hUB.os.trans hB.os,hUB.tape.trans hB.tape,hUB.output.trans hB.output,by omega,fun c hc _ _=>(hUB.block c (by omega)).trans (hB.block c hc)⟩
 have o1:=ordN_in went
 have hnx:=ordN_next went
 generalize ordN went=Y at *
 have hX:0≤Int.tmod Y 255∧Int.tmod Y 255<255:=by rw [Int.tmod_eq_emod_of_nonneg o1.1];omega
 generalize hXe:Int.tmod Y 255=X at *
 have HNX:Hid (X+1=ordN (went+1)):=hnx
 clear own hH z hn hw ha we hlen hv cc c0 c1 c2 c3 c4 c5 g0 hB hUB uc x0 x1 rz hnx
 go_enter Tryz.func110,Tryz.ntmps110
 go_wp2_with fail
 go_region
 go_wp2_with fail
 refine hD.mono ?_
 rintro e W ⟨rfl,hOW,hT⟩
 have lU:P<U.heap.size:=by omega
 have wc:∀ i,W.cell? ⟨P,i,none⟩=w.cell? ⟨P,i,none⟩:=fun i=>(hT.cell (p:=⟨P,i,none⟩) lU (Ne.symm hgP) (Ne.symm hgP)).trans (HU.out i)
 have w0:=(wc 0).trans HC.out.1
 have w1:=(wc 1).trans HC.out.2.1
 have w2:=(hT.cell (p:=⟨P,2,none⟩) lU (Ne.symm hgP) (Ne.symm hgP)).trans u2
 have w3:=(wc 3).trans HC.out.2.2.1
 have w4:=(wc 4).trans HC.out.2.2.2.1
 have w5:=(wc 5).trans HC.out.2.2.2.2
 have wz:∀ i,W.frozen? ⟨P,i,none⟩=false:=fun i=>(hT.frozen (p:=⟨P,i,none⟩) lU (Ne.symm hgP) (Ne.symm hgP)).trans (HUZ.out i)
 have z2:=wz 2
 have z4:=wz 4
 have z5:=wz 5
 have hr:w.heap.size≠g:=by omega
 have hx:w.heap.size+1≠g:=by omega
 have lr:w.heap.size<U.heap.size:=by omega
 have lx:w.heap.size+1<U.heap.size:=by omega
 have q0:=(hT.cell (p:=⟨w.heap.size,0,none⟩) lr hr hr).trans HU0.out
 have q1:=(hT.cell (p:=⟨w.heap.size,1,none⟩) lr hr hr).trans HU1.out
 have qz:∀ i,W.frozen? ⟨w.heap.size,i,none⟩=false:=fun i=>(hT.frozen (p:=⟨w.heap.size,i,none⟩) lr hr hr).trans (HRZ.out i)
 have qz0:=qz 0
 have qz1:=qz 1
 have x0:=(hT.cell (p:=⟨w.heap.size+1,0,none⟩) lx hx hx).trans HX0.out
 have x1:=(hT.cell (p:=⟨w.heap.size+1,1,none⟩) lx hx hx).trans HX1.out
 have lW:w.heap.size+1+1≤W.heap.size:=by have:=hT.size;omega
 have HT:Hid (Turns g g U W):=hT
 have HOW:Hid (W.ownsRow B 9 1 (.slice (some ⟨g,0,none⟩) (n - 1) cap) (n - 1) ((all.drop (went+1)).map Value.string)):=by
  rw [List.drop_drop] at hOW
  exact hOW
 have HWZ:Hid (∀ i,W.frozen? ⟨P,i,none⟩=false):=wz
 clear wc wz qz hT hOW hD hOU hU hV
 go_wp2
 obtain ⟨W3,hW3⟩:∃ W3,((W.setCell ⟨P,2,none⟩ (.slice (some ⟨g,0,none⟩) (n - 1) cap)).setCell ⟨P,4,none⟩ (.int .i64 (t+bag))).setCell ⟨P,5,none⟩ (.int .i64 (X+1))=W3:=⟨_,rfl⟩
 rw [hW3]
 have hS3:W3.heap.size=W.heap.size:=by rw [← hW3];simp
 have fin:PSendr W3 B P bag queue all (.slice (some ⟨g,0,none⟩) (n - 1) cap) (went+1) t now:=by
  have e0:=HN.out
  refine ⟨?_,?_,?_,?_,?_,?_,fun i=>?_,?_,lp,by omega,by omega⟩
  ·rw [← hW3];exact (cell_other (.inr (by decide))).trans ((cell_other (.inr (by decide))).trans ((cell_other (.inr (by decide))).trans w0))
  ·rw [← hW3];exact (cell_other (.inr (by decide))).trans ((cell_other (.inr (by decide))).trans ((cell_other (.inr (by decide))).trans w1))
  ·rw [← hW3];exact (cell_other (.inr (by decide))).trans ((cell_other (.inr (by decide))).trans (cell_set w2))
  ·rw [← hW3];exact (cell_other (.inr (by decide))).trans ((cell_other (.inr (by decide))).trans ((cell_other (.inr (by decide))).trans w3))
  ·rw [← hW3,show freeV (went+1) t bag=t+bag from if_neg (by omega)];exact (cell_other (.inr (by decide))).trans (cell_set ((cell_other (.inr (by decide))).trans w4))
  ·rw [← hW3,← HNX.out];exact cell_set ((cell_other (.inr (by decide))).trans ((cell_other (.inr (by decide))).trans w5))
  ·rw [← hW3];exact soft_set.trans (soft_set.trans (soft_set.trans (HWZ.out i)))
  ·rw [show all.length - (went+1)=n - 1 by omega,← hW3]
   exact owns_put (owns_put (owns_put HOW.out lp) lp) lp
 have t3:Turns P g w W3:=by
  refine HWU.out.trans (Turns.trans ⟨HT.out.os,HT.out.tape,HT.out.output,HT.out.size,fun c hc _ h2=>HT.out.block c hc h2 h2⟩ ?_)
  rw [← hW3]
  exact (((Turns.refl P g W).set (p:=⟨P,2,none⟩) (.inl rfl) _).set (p:=⟨P,4,none⟩) (.inl rfl) _).set (p:=⟨P,5,none⟩) (.inl rfl) _
 have q0':W3.cell? ⟨w.heap.size,0,none⟩=some (.int .i64 0):=by rw [← hW3];exact (cell_other (.inl (by omega))).trans ((cell_other (.inl (by omega))).trans ((cell_other (.inl (by omega))).trans q0))
 have q1':W3.cell? ⟨w.heap.size,1,none⟩=some (.string ⟨#[]⟩):=by rw [← hW3];exact (cell_other (.inl (by omega))).trans ((cell_other (.inl (by omega))).trans ((cell_other (.inl (by omega))).trans q1))
 have s0:((W3.setCell ⟨w.heap.size,0,none⟩ (.int .i64 Y)).setCell ⟨w.heap.size,1,none⟩ (.string D)).cell? ⟨w.heap.size,0,none⟩=some (.int .i64 Y):=(cell_other (.inr (by decide))).trans (cell_set q0')
 have s1:((W3.setCell ⟨w.heap.size,0,none⟩ (.int .i64 Y)).setCell ⟨w.heap.size,1,none⟩ (.string D)).cell? ⟨w.heap.size,1,none⟩=some (.string D):=cell_set ((cell_other (.inr (by decide))).trans q1')
 have ht5:Turns w.heap.size w.heap.size W3 ((W3.setCell ⟨w.heap.size,0,none⟩ (.int .i64 Y)).setCell ⟨w.heap.size,1,none⟩ (.string D)):=((Turns.refl _ _ _).set (p:=⟨w.heap.size,0,none⟩) (.inl rfl) _).set (p:=⟨w.heap.size,1,none⟩) (.inl rfl) _
 have fin5:=fin.keep (w':=(W3.setCell ⟨w.heap.size,0,none⟩ (.int .i64 Y)).setCell ⟨w.heap.size,1,none⟩ (.string D)) ⟨ht5.size,fun c hc=>by
  have:c=P∨c=g:=by simpa [Value.ownBlock] using hc
  exact ht5.block c (by omega) (by omega) (by omega)⟩
 refine bodyPost_ret (v:=.agg #[.int .i64 Y,.string D]) (by simp [results,Tryz.results110,go_sem,s0,s1]) rfl ⟨rfl,_,fin5,?_,rfl⟩
 exact ⟨ht5.os.trans t3.os,ht5.tape.trans t3.tape,ht5.output.trans t3.output,Nat.le_trans t3.size ht5.size,fun c hc h1 h2=>(ht5.block c (by have:=t3.size;omega) (by omega) (by omega)).trans (t3.block c hc h1 h2)⟩
end
section
open Go.RowKit Go.Shelf Go.Sort
theorem beyond_pred (B:Nat) (w:World) (hB:B<w.heap.size) (hcell:w.cell? ⟨B,0,none⟩=some (.int .i64 1099511627776)) :
  PredAt Tryz.prog 116 #[.pointer (some ⟨B,0,none⟩)] (Value.int .i64) far w:=fun W x hb=>by
 have hc:W.cell? ⟨B,0,none⟩=some (.int .i64 1099511627776):=(hb.cell (p:=⟨B,0,none⟩) hB).trans hcell
 show Calls Tryz.prog 116 #[.int .i64 x,.pointer (some ⟨B,0,none⟩)] W _
 unfold far
 go_enter Tryz.func116,Tryz.ntmps116
 go_wp2
 all_goals (go_ret;exact ⟨by simp_all,0,rfl⟩)
theorem beyond_any (w:World):Calls Tryz.prog 107 #[.int .i64 1099511627776] w fun e w'=>e=.returned (.func (.func 116) #[] #[.pointer (some ⟨w.heap.size,0,none⟩)])∧w'=w.alloc (.cells #[.int .i64 1099511627776] 3):=by
 go_enter Tryz.func107,Tryz.ntmps107
 go_wp2
 go_ret
 exact ⟨rfl,rfl⟩
theorem mid_arg (a:Option Addr) (n cap:Nat) (f:Int) (w:World) (hn:n≤1000) (h:f<0∨(n:Int)<2*f+1) :
  Calls Tryz.prog 108 #[.slice a n cap,.int .i64 f] w fun e w'=>e=.returned (.tuple #[.int .i64 0,errV 1])∧Below w.heap.size w w':=by
 rw [errV_1]
 by_cases hf:f<0
 ·clear h
  go_enter Tryz.func108,Tryz.ntmps108
  go_wp2
  go_ret2
  exact ⟨rfl,Below.refl _ _⟩
 ·have k1:decide (f<0)=false:=decide_eq_false hf
  by_cases h0:n=0
  ·subst h0
   clear h hf
   go_enter Tryz.func108,Tryz.ntmps108
   go_wp2
   go_ret2
   exact ⟨rfl,Below.refl _ _⟩
  ·have k2:((n:Int) == 0)=false:=by simp;omega
   have k3:((n:Int) - 1) / 2<f:=by omega
   clear h hf
   go_enter Tryz.func108,Tryz.ntmps108
   go_wp2
   go_ret2
   exact ⟨rfl,Below.refl _ _⟩
theorem far_enters:∀ args w,(callFunc 116 args).run Tryz.prog w=.ok (.enter 116 args) w:=enters_of Tryz.func116 (by kernel_rfl) rfl
theorem far_any (b off cap n:Nat) (l:List Int) (hl:l.length=n) (hn:n≤1000) (w:World) (hb:b<w.heap.size) (hc:∀ j,j<l.length→w.cell? ⟨b,off+j,none⟩=some (.int .i64 (l.getD j 0))) :
  Calls Tryz.prog 27 #[.slice (some ⟨b,off,none⟩) n cap,.func (.func 116) #[] #[.pointer (some ⟨w.heap.size,0,none⟩)]] (w.alloc (.cells #[.int .i64 1099511627776] 3)) fun e w'=>e=.returned (.bool (l.any far))∧Below w.heap.size w w':=by
 have h:=Tryz.slices_ContainsFunc (Value.int .i64) far 116 #[.pointer (some ⟨w.heap.size,0,none⟩)] far_enters b off n cap l (w.alloc (.cells #[.int .i64 1099511627776] 3)) (beyond_pred w.heap.size _ (by simp) (by simp)) (by omega) (by omega) (fun j hj=>by
  rw [World.cell?_alloc_lt _ _ _ hb,hc j hj,getElem!_pos l j hj,getD_at hj])
 rw [List.take_of_length_le (by omega)] at h
 exact h.mono fun e w' ⟨he,q,hq⟩=>⟨he,hq▸below_drewN' ((Below.refl _ w).alloc (Nat.le_refl _) _) q⟩
theorem mid_range (a:Option Addr) (cap:Nat) (l:List Int) (f:Nat) (w:World) (hr:IntRow w a l) (hn:l.length≤1000) (h:2*f+1≤l.length) (hin:l.any far=true) :
  Calls Tryz.prog 108 #[.slice a l.length cap,.int .i64 f] w fun e w'=>e=.returned (.tuple #[.int .i64 0,errV 2])∧Below w.heap.size w w':=by
 rw [errV_2]
 obtain ⟨b,off,rfl,hb,hc⟩:=hr (by omega)
 have hfa:=far_any b off cap l.length l rfl hn w hb hc
 rw [hin] at hfa
 generalize l.length=n at *
 have k1:decide ((f:Int)<0)=false:=decide_eq_false (by omega)
 have k2:((n:Int) == 0)=false:=by simp;omega
 have k3:decide (((n:Int) - 1) / 2<(f:Int))=false:=decide_eq_false (by omega)
 clear hc hin hr
 go_enter Tryz.func108,Tryz.ntmps108
 go_wp2_with fail
 refine (beyond_any _).mono ?_
 rintro e w1 ⟨rfl,rfl⟩
 go_wp2_with fail
 refine hfa.mono ?_
 rintro e w2 ⟨rfl,hb2⟩
 go_wp2
 go_ret2
 exact ⟨rfl,hb2⟩
theorem mid_ok (a:Option Addr) (cap:Nat) (l:List Int) (f:Nat) (w:World) (hr:IntRow w a l) (hn:l.length≤1000) (h:2*f+1≤l.length) (hin:l.any far=false) :
  Calls Tryz.prog 108 #[.slice a l.length cap,.int .i64 f] w fun e w'=>e=.returned (.tuple #[.int .i64 (midOf l f),.nilIface])∧Below w.heap.size w w':=by
 obtain ⟨b,off,rfl,hb,hc⟩:=hr (by omega)
 have hfa:=far_any b off cap l.length l rfl hn w hb hc
 rw [hin] at hfa
 obtain ⟨n,hl⟩:∃ n,l.length=n:=⟨_,rfl⟩
 have hA:=rank_in hin (k:=f) (by omega)
 have hZ:=rank_in hin (k:=n - 1 - f) (by omega)
 have HM:Hid (midOf l f=(rank l f+rank l (n - 1 - f)) / 2):=by
  show _=_
  rw [midOf,hl]
 rw [hl] at hfa hn h ⊢
 have HC:Hid (∀ W:World,Below w.heap.size w W→Calls Tryz.prog 25 #[.slice (some ⟨b,off,none⟩) n cap] W fun e w'=>∃ g cp,e=.returned (.slice (some ⟨g,0,none⟩) n cp)∧W.heap.size≤g∧g<w'.heap.size∧Holds (Value.int .i64) w' g 0 l.toArray∧Below W.heap.size W w'):=fun W hW=>by
  refine (Tryz.slices_Clone_int b off n cap l W (by omega) (by omega) (fun j hj=>(hW.cell (p:=⟨b,off+j,none⟩) hb).trans (hc j hj))).mono ?_
  rintro e w1 ⟨v1,rfl,hown,hnn,hbel⟩
  rw [List.take_of_length_le (by omega)] at hown
  obtain ⟨g,cp,rfl,hbg,hgl,_,_,_,hH⟩:=Lib.holds_of_ownsRow hown hnn
  exact ⟨g,cp,rfl,hbg,hgl,hH,hbel⟩
 have k1:decide ((f:Int)<0)=false:=decide_eq_false (by omega)
 have k2:((n:Int) == 0)=false:=by simp;omega
 have k3:decide (((n:Int) - 1) / 2<(f:Int))=false:=decide_eq_false (by omega)
 obtain ⟨k,hk⟩:∃ k,n - 1 - f=k:=⟨_,rfl⟩
 rw [hk] at hZ HM
 have k4:(n:Int) - 1 - (f:Int)=(k:Int):=by omega
 have hkn:k<n:=by omega
 have hfn:f<n:=by omega
 have HL:Hid (l.length=n):=hl
 clear hc hin hr hl hk
 obtain ⟨p,hp⟩:∃ p,rank l f=p:=⟨_,rfl⟩
 obtain ⟨q,hq⟩:∃ q,rank l k=q:=⟨_,rfl⟩
 rw [hp] at hA HM
 rw [hq] at hZ HM
 have HP:Hid (rank l f=p):=hp
 have HQ:Hid (rank l k=q):=hq
 clear hp hq
 rw [HM.out]
 go_enter Tryz.func108,Tryz.ntmps108
 go_wp2_with fail
 refine (beyond_any _).mono ?_
 rintro e w1 ⟨rfl,rfl⟩
 go_wp2_with fail
 refine hfa.mono ?_
 rintro e w2 ⟨rfl,hb2⟩
 go_wp2_with fail
 refine (HC.out _ hb2).mono ?_
 rintro e w3 ⟨g,cp,rfl,hg,hgl,hH,hb3⟩
 have hb3':Below w.heap.size w w3:=below_then hb2 hb3
 have hS:=Tryz.slices_Sort_int g 0 cp l w3 hH hgl (by rw [HL.out];omega)
 rw [HL.out] at hS
 have HX:Hid (w.heap.size≤g∧Holds (Value.int .i64) w3 g 0 l.toArray):=⟨Nat.le_trans hb2.size hg,hH⟩
 clear hH hb2 hb3 hfa HC
 go_wp2_with fail
 refine hS.mono ?_
 rintro e w4 ⟨rfl,nn,os,hw4⟩
 obtain ⟨hcs,hb4⟩:=sorted_row hb3' HX.out.1 hgl HX.out.2 hw4
 have c1:w4.cell? ⟨g,f,none⟩=some (.int .i64 p):=by rw [hcs f (by rw [HL.out];exact hfn),HP.out]
 have c2:w4.cell? ⟨g,k,none⟩=some (.int .i64 q):=by rw [hcs k (by rw [HL.out];exact hkn),HQ.out]
 clear hcs hw4 HX hS
 have k5:(f:Int)<(n:Int):=by omega
 have k6:(k:Int)<(n:Int):=by omega
 go_wp2_with fail
 go_quiet (fail)
 all_goals go_wp2
 all_goals go_ret2
 all_goals exact ⟨rfl,below_drewN' hb4 _⟩
theorem mid_any (a:Option Addr) (cap:Nat) (l:List Int) (f:Int) (w:World) (hr:IntRow w a l) (hn:l.length≤1000) :
  Calls Tryz.prog 108 #[.slice a l.length cap,.int .i64 f] w fun e w'=>e=.returned (.tuple #[.int .i64 (midVal l f),errV (midErr l f)])∧Below w.heap.size w w':=by
 by_cases h:f<0∨(l.length:Int)<2*f+1
 ·rw [midVal_bad (by rw [midErr_1 h];decide),midErr_1 h]
  exact mid_arg a l.length cap f w hn h
 ·obtain ⟨k,rfl⟩:∃ k:Nat,f=(k:Int):=⟨f.toNat,by omega⟩
  cases h2:l.any far
  ·rw [midVal_ok (midErr_0 h h2),midErr_0 h h2,errV_0]
   exact mid_ok a cap l k w hr hn (by omega) h2
  ·rw [midVal_bad (by rw [midErr_2 h h2];decide),midErr_2 h h2]
   exact mid_range a cap l k w hr hn (by omega) h2
end
section
open Go.RowKit Go.Shelf Go.Sort
theorem tmod_two {x:Int} (h:x<0):x.tmod 2 = -((-x) % 2):=by
 obtain ⟨y,rfl⟩:∃ y:Nat,x = -(y:Int):=⟨(-x).toNat,by omega⟩
 rw [Int.neg_tmod,Int.neg_neg,Int.tmod_eq_emod_of_nonneg (by omega)]
theorem tdiv_two {x:Int} (h:x<0):x.tdiv 2 = -((-x) / 2):=by
 obtain ⟨y,rfl⟩:∃ y:Nat,x = -(y:Int):=⟨(-x).toNat,by omega⟩
 rw [Int.neg_tdiv,Int.neg_neg,Int.tdiv_eq_ediv_of_nonneg (by omega)]
theorem in_far (x:Int) (w:World):Calls Tryz.prog 31 #[.int .i64 x,.int .i64 (-1099511627776),.int .i64 1099511627776] w fun e w'=>e=.returned (.bool (!far x))∧w'=w:=by
 by_cases h1:-1099511627776≤x
 ·by_cases h2:x≤1099511627776
  ·rw [far_false.2 ⟨h1,h2⟩]
   go_enter Tryz.func31,Tryz.ntmps31
   go_wp2
   go_ret
   exact ⟨rfl,rfl⟩
  ·rw [far_true.2 (by omega)]
   have h3:decide (x≤1099511627776)=false:=decide_eq_false h2
   go_enter Tryz.func31,Tryz.ntmps31
   go_wp2
   go_ret
   exact ⟨rfl,rfl⟩
 ·rw [far_true.2 (by omega)]
  have h3:decide (-1099511627776≤x)=false:=decide_eq_false h1
  go_enter Tryz.func31,Tryz.ntmps31
  go_wp2
  go_ret
  exact ⟨rfl,rfl⟩
theorem refMid_arg (a:Option Addr) (n cap:Nat) (f:Int) (w:World) (h:f<0∨(n:Int)<2*f+1) :
  Calls Tryz.prog 76 #[.slice a n cap,.int .i64 f] w fun e w'=>e=.returned (.tuple #[.int .i64 0,.int .i64 1])∧Below w.heap.size w w':=by
 by_cases hf:f<0
 ·clear h
  go_enter Tryz.func76,Tryz.ntmps76
  go_wp2
  go_ret2
  exact ⟨rfl,Below.refl _ _⟩
 ·have k1:decide (f<0)=false:=decide_eq_false hf
  by_cases h0:1000<f
  ·clear h hf
   go_enter Tryz.func76,Tryz.ntmps76
   go_wp2
   go_ret2
   exact ⟨rfl,Below.refl _ _⟩
  ·have k2:decide (1000<f)=false:=decide_eq_false h0
   have k3:(n:Int)<2*f+1:=by omega
   have k4:0≤f:=by omega
   have k5:f≤1000:=by omega
   clear h hf h0
   go_enter Tryz.func76,Tryz.ntmps76
   go_wp2
   go_ret2
   exact ⟨rfl,Below.refl _ _⟩
theorem refMid_in (a:Option Addr) (cap:Nat) (l:List Int) (f:Nat) (w:World) (hr:IntRow w a l) (hn:l.length≤1000) (h:2*f+1≤l.length) :
  Calls Tryz.prog 76 #[.slice a l.length cap,.int .i64 f] w fun e w'=>e=.returned (.tuple #[.int .i64 (midVal l f),.int .i64 (midErr l f)])∧Below w.heap.size w w':=by
 obtain ⟨b,off,rfl,hb,hc⟩:=hr (by omega)
 obtain ⟨n,hl⟩:∃ n,l.length=n:=⟨_,rfl⟩
 have HL:Hid (l.length=n):=hl
 have HCC:Hid (∀ j,j<n→w.cell? ⟨b,off+j,none⟩=some (.int .i64 (l.getD j 0))):=hl▸hc
 rw [hl] at hn h ⊢
 have k1:decide ((f:Int)<0)=false:=decide_eq_false (by omega)
 have k2:decide (1000<(f:Int))=false:=decide_eq_false (by omega)
 have k3:decide ((n:Int)<2*(f:Int)+1)=false:=decide_eq_false (by omega)
 clear hc hr hl
 go_enter Tryz.func76,Tryz.ntmps76
 go_wp2
 go_loop [26] (fun i=>∃ k:Nat,k≤n∧i=.int .i64 k∧Hid (∀ j,j<k→far (l.getD j 0)=false)) (fun i=>n - (intOf i).toNat)
 case atStart=>exact ⟨0,Nat.zero_le _,rfl,fun j hj=>absurd hj (Nat.not_lt_zero _)⟩
 case round =>
  obtain ⟨k,hk,rfl,h0⟩:=hrel
  by_cases hlt:k<n
  ·have y0:=HCC.out k hlt
   obtain ⟨x,hx⟩:∃ x,l.getD k 0=x:=⟨_,rfl⟩
   have HX:Hid (l.getD k 0=x):=hx
   rw [hx] at y0
   clear hx
   have hif:=in_far x
   cases hfx:far x
   ·rw [hfx] at hif
    have HF:Hid (far x=false):=hfx
    clear hfx
    go_wp2_with (go_at_call 31;refine (hif _).mono ?_;rintro e w' ⟨rfl,rfl⟩)
    refine ⟨⟨k+1,by omega,by go_num,fun j hj=>?_⟩,by simp [intOf];omega⟩
    rcases Nat.lt_succ_iff_lt_or_eq.1 hj with q | q
    ·exact h0.out j q
    ·rw [q,HX.out];exact HF.out
   ·rw [hfx] at hif
    have HF:Hid (far x=true):=hfx
    clear hfx
    go_wp2_with (go_at_call 31;refine (hif _).mono ?_;rintro e w' ⟨rfl,rfl⟩)
    have HE:midErr l f=2:=midErr_2 (by rw [HL.out];omega) (by
     rw [List.any_eq_true]
     exact ⟨x,by rw [← HX.out,getD_at (by rw [HL.out];exact hlt)];exact List.getElem_mem _,HF.out⟩)
    go_ret2
    rw [HE,midVal_bad (by rw [HE];decide)]
    exact ⟨rfl,Below.refl _ _⟩
  ·have:k=n:=by omega
   subst this
   have hin:l.any far=false:=by
    rw [List.any_eq_false]
    intro x hx
    obtain ⟨j,hj,rfl⟩:=List.getElem_of_mem hx
    have:=h0.out j (by rw [← HL.out];exact hj)
    rw [getD_at hj] at this
    simp [this]
   have hA:=rank_in hin (k:=f) (by rw [HL.out];omega)
   have hZ:=rank_in hin (k:=k - 1 - f) (by rw [HL.out];omega)
   have HM:Hid (midVal l f=(rank l f+rank l (k - 1 - f)) / 2∧midErr l f=0):=by
    have h0':midErr l f=0:=midErr_0 (by rw [HL.out];omega) hin
    exact ⟨by rw [midVal_ok h0',midOf,HL.out];rfl,h0'⟩
   obtain ⟨p,hp⟩:∃ p,rank l f=p:=⟨_,rfl⟩
   obtain ⟨q,hq⟩:∃ q,rank l (k - 1 - f)=q:=⟨_,rfl⟩
   rw [hp] at hA HM
   rw [hq] at hZ HM
   have HP:Hid (rank l f=p):=hp
   have HQ:Hid (rank l (k - 1 - f)=q):=hq
   clear hp hq hin h0
   have hnews:∀ (j:Nat) (u:Value),(l.map (Value.int .i64))[j]? = some u→(w.alloc (.cells #[] 3)).cell? ((⟨b,off,none⟩:Addr).add j)=some u:=fun j u hj=>by
    rw [add_at,World.cell?_alloc_lt _ _ _ hb]
    rw [List.getElem?_map] at hj
    have hjl:j<l.length:=by
     rcases Nat.lt_or_ge j l.length with q | q
     ·exact q
     ·rw [List.getElem?_eq_none q] at hj;cases hj
    rw [List.getElem?_eq_getElem hjl] at hj
    rw [HCC.out j (by rw [← HL.out];exact hjl),getD_at hjl]
    exact hj
   have HN:=(show Hid _ from hnews)
   clear hnews
   obtain ⟨i0,hi,hz0,hz1,hz2⟩:=info_parts Tryz.infoInt
   have hmt:=owns_row w #[] 3 0 rfl (Nat.zero_le _) w.heap.size (Nat.le_refl _)
   go_wp2_with (at_builtin;refine wpList_append_own _ rfl _ _ 27 rfl w.heap.size 3 i0 (.int .i64 0) 1 8 Tryz.underlying27 hi hz0 hz1 hz2 rfl (by decide) _ 0 [] rfl hmt ⟨b,off,none⟩ k cap (l.map (Value.int .i64)) rfl (by rw [List.length_map,HL.out];omega) HN.out (ints_one l) (by unfold maxLen;omega) (by omega) (by simp) ?_;intro v' w2 hown' hgrow hnil;apply Hid.out)
   unfold Hid
   have hnn:v'≠.slice none 0 0:=fun e=>by
    have:=(hnil.1 e).1
    cases this
   have hB2:Below w.heap.size w w2:=((Below.refl _ _).alloc (Nat.le_refl _) _).grown hgrow (by simp) (fun j hj=>by cases hj;exact Nat.le_refl _)
   rw [List.nil_append,Nat.zero_add] at hown'
   obtain ⟨g,cp,rfl,hbg,hgl,hcp,hcm,_,hH⟩:=Lib.holds_of_ownsRow hown' hnn
   have hS:=Tryz.sort_Ints g 0 cp l w2 hH hgl (by rw [HL.out];omega)
   rw [HL.out] at hS
   have HX:Hid (Holds (Value.int .i64) w2 g 0 l.toArray):=hH
   clear hH hown' hgrow hnil hnn hmt HN hi hz0 hz1 hz2
   go_wp2_with fail
   refine hS.mono ?_
   rintro e w4 ⟨rfl,nn,os,hw4⟩
   obtain ⟨hcs,hb4⟩:=sorted_row hB2 hbg hgl HX.out hw4
   have c1:w4.cell? ⟨g,f,none⟩=some (.int .i64 p):=by rw [hcs f (by rw [HL.out];omega),HP.out]
   have c2:w4.cell? ⟨g,k - 1 - f,none⟩=some (.int .i64 q):=by rw [hcs (k - 1 - f) (by rw [HL.out];omega),HQ.out]
   clear hcs hw4 HX hS hB2
   obtain ⟨m,hm⟩:∃ m,k - f=m:=⟨_,rfl⟩
   have k4:(k:Int) - (f:Int)=(m:Int):=by omega
   have k5:(f:Int)≤(m:Int):=by omega
   have k6:(m:Int)≤(cp:Int):=by omega
   obtain ⟨r,hr⟩:∃ r,m - f=r:=⟨_,rfl⟩
   obtain ⟨j,hj⟩:∃ j,r - 1=j:=⟨_,rfl⟩
   rw [show k - 1 - f=f+j from by omega] at c2
   have k7:(r:Int) - 1=(j:Int):=by omega
   have k8:(j:Int)<(r:Int):=by omega
   have k9:0<r:=by omega
   have k10:r≤1000:=by omega
   go_wp2_with fail
   clear hm hr hj
   go_quiet (fail)
   obtain ⟨x,hx⟩:∃ x,p+q=x:=⟨_,rfl⟩
   have hx1:-2199023255552≤x:=by omega
   have hx2:x≤2199023255552:=by omega
   rw [hx] at HM
   simp only [hx]
   clear hx
   by_cases hs:x<0
   ·by_cases ho:x % 2=0
    ·have ho2:(x.tmod 2 != 0)=false:=by rw [tmod_two hs];simp;omega
     go_wp2
     have he:x.tdiv 2=x / 2:=by rw [tdiv_two hs];omega
     rw [he]
     go_ret2
     rw [HM.out.1,HM.out.2]
     exact ⟨rfl,below_drewN' hb4 _⟩
    ·have ho2:(x.tmod 2 != 0)=true:=by rw [tmod_two hs];simp;omega
     go_wp2
     have he:(x - 1).tdiv 2=x / 2:=by rw [tdiv_two (by omega)];omega
     rw [he]
     go_ret2
     rw [HM.out.1,HM.out.2]
     exact ⟨rfl,below_drewN' hb4 _⟩
   ·have hs2:decide (x<0)=false:=decide_eq_false hs
    go_wp2
    go_ret2
    rw [HM.out.1,HM.out.2]
    exact ⟨rfl,below_drewN' hb4 _⟩
theorem refMid_any (a:Option Addr) (cap:Nat) (l:List Int) (f:Int) (w:World) (hr:IntRow w a l) (hn:l.length≤1000) :
  Calls Tryz.prog 76 #[.slice a l.length cap,.int .i64 f] w fun e w'=>e=.returned (.tuple #[.int .i64 (midVal l f),.int .i64 (midErr l f)])∧Below w.heap.size w w':=by
 by_cases h:f<0∨(l.length:Int)<2*f+1
 ·rw [midVal_bad (by rw [midErr_1 h];decide),midErr_1 h]
  exact refMid_arg a l.length cap f w h
 ·obtain ⟨k,rfl⟩:∃ k:Nat,f=(k:Int):=⟨f.toNat,by omega⟩
  exact refMid_in a cap l k w hr hn (by omega)
end
section
open Go.RowKit Go.Shelf Go.Sort
theorem step_any (a:Option Addr) (cap:Nat) (row:List Int) (m:Nat) (c f:Int) (w:World) (hr:IntRow w a row) (hn:row.length≤1000) :
  Calls Tryz.prog 94 #[.int .i64 c,.slice a row.length cap,.int .i64 m,.int .i64 f] w fun e w'=>e=.returned (.tuple #[.int .i64 (stepVal m c row f),errV (stepErr m c row f)])∧Below w.heap.size w w':=by
 by_cases h1:row.length=m
 rotate_left
 ·rw [stepVal_bad (by rw [stepErr_1 h1];decide),stepErr_1 h1,errV_1]
  have k1:((row.length:Int) != (m:Int))=true:=by simp;omega
  generalize row.length=n at *
  go_enter Tryz.func94,Tryz.ntmps94
  go_wp2
  go_ret2
  exact ⟨rfl,Below.refl _ _⟩
 ·have k1:((row.length:Int) != (m:Int))=false:=by simp;omega
  have hp:=beyond_pred w.heap.size (w.alloc (.cells #[.int .i64 1099511627776] 3)) (by simp) (by simp) _ c (Below.refl _ _)
  have hp:Calls Tryz.prog 116 #[.int .i64 c,.pointer (some ⟨w.heap.size,0,none⟩)] (w.alloc (.cells #[.int .i64 1099511627776] 3)) fun e w'=>e=.returned (.bool (far c))∧∃ q,w'=(w.alloc (.cells #[.int .i64 1099511627776] 3)).drewN q:=hp
  have hbe:=beyond_any w
  have HM:Hid (∀ u:World,Below w.heap.size w u→Calls Tryz.prog 108 #[.slice a row.length cap,.int .i64 f] u fun e w'=>e=.returned (.tuple #[.int .i64 (midVal row f),errV (midErr row f)])∧Below u.heap.size u w'):=fun u hu=>mid_any a cap row f u (hr.below hu) hn
  have hV:∀ q,Below w.heap.size w ((w.alloc (.cells #[.int .i64 1099511627776] 3)).drewN q):=fun q=>below_drewN' ((Below.refl _ w).alloc (Nat.le_refl _) _) q
  cases h2:far c
  ·rw [h2] at hp
   have e1:=stepErr_mid (f:=f) h1 h2
   have e2:stepVal m c row f=midVal row f:=by
    unfold stepVal
    rw [e1]
    by_cases h:midErr row f=0
    ·rw [if_pos h]
    ·rw [if_neg h,midVal_bad h]
   rw [e1,e2]
   generalize midVal row f=x at *
   generalize errV (midErr row f)=E at *
   generalize row.length=n at *
   clear e1 e2 h2 h1 hr hn
   go_enter Tryz.func94,Tryz.ntmps94
   go_wp2_with fail
   refine hbe.mono ?_
   rintro e w1 ⟨rfl,rfl⟩
   go_wp2_with fail
   refine hp.mono ?_
   rintro e w2 ⟨rfl,q,rfl⟩
   go_wp2_with fail
   refine (HM.out _ (hV q)).mono ?_
   rintro e w3 ⟨rfl,hb3⟩
   go_wp2
   go_ret2
   exact ⟨rfl,below_then (hV q) hb3⟩
  ·rw [h2] at hp
   rw [stepVal_bad (by rw [stepErr_2 h1 h2];decide),stepErr_2 h1 h2,errV_2]
   generalize row.length=n at *
   clear h2 h1 hr hn HM
   go_enter Tryz.func94,Tryz.ntmps94
   go_wp2_with fail
   refine hbe.mono ?_
   rintro e w1 ⟨rfl,rfl⟩
   go_wp2_with fail
   refine hp.mono ?_
   rintro e w2 ⟨rfl,q,rfl⟩
   go_wp2
   go_ret2
   exact ⟨rfl,hV q⟩
end
section
open Go.RowKit Go.Shelf Go.Sort
theorem owns_set {w:World} {base:Nat} {e:TypeId} {size:Nat} {v:Value} {n:Nat} {xs:List Value} {b i:Nat} {x:Value} (h:w.ownsRow base e size v n xs) (hb:b<base):(w.setCell ⟨b,i,none⟩ x).ownsRow base e size v n xs:=by
 obtain ⟨h1,h2⟩:=h
 refine ⟨h1,?_⟩
 rcases h2 with h2 | ⟨g,cap,cur,rfl,hg,hh,r⟩
 ·exact .inl h2
 ·refine .inr ⟨g,cap,cur,rfl,hg,?_,r⟩
  rw [← hh]
  have:b≠g:=by omega
  simp [World.setCell,Array.getElem?_modify,this]
theorem owns_drew {w:World} {base:Nat} {e:TypeId} {size:Nat} {v:Value} {n:Nat} {xs:List Value} (h:w.ownsRow base e size v n xs):w.drew.ownsRow base e size v n xs:=h
theorem fault_end {w V wr:World} {x y:Int} (hV:V=w.alloc (.cells #[.int .i64 0,.int .i64 0] 38)) (hbe:Below V.heap.size V wr) :
  wr.cell? ⟨w.heap.size,0,none⟩=some (.int .i64 0)∧wr.cell? ⟨w.heap.size,1,none⟩=some (.int .i64 0)∧wr.frozen? ⟨w.heap.size,0,none⟩=false∧wr.frozen? ⟨w.heap.size,1,none⟩=false∧Below w.heap.size w ((wr.setCell ⟨w.heap.size,0,none⟩ (.int .i64 x)).setCell ⟨w.heap.size,1,none⟩ (.int .i64 y))∧Below w.heap.size w wr:=by
 subst hV
 have hA:Below w.heap.size w (w.alloc (.cells #[.int .i64 0,.int .i64 0] 38)):=(Below.refl _ _).alloc (Nat.le_refl _) _
 have hB:=hA.trans (hbe.mono (by simp))
 exact ⟨by rw [hbe.cell (by simp)];simp,by rw [hbe.cell (by simp)];simp,by rw [hbe.frozen (by simp)];simp,by rw [hbe.frozen (by simp)];simp,(hB.setCell (p:=⟨w.heap.size,0,none⟩) (Nat.le_refl _) _).setCell (p:=⟨w.heap.size,1,none⟩) (Nat.le_refl _) _,hB⟩
theorem set_any (a ra:Option Addr) (cap rcap:Nat) (cs:List Int) (rows:List (List Int)) (f:Int) (w:World) (hfine:Fine0 w) (hr:IntRow w a cs) (ht:TabRow w ra rows) (hlen:rows.length=cs.length) (hn:cs.length≤1000) (hrn:∀ r∈rows,r.length≤1000)
  (e i p:Int) (hF:FirstBad (fun j=>stepErr cs.length (cs.getD j 0) (rows.getD j []) f) cs.length e i) (hp:p=if e=0 then -1 else i) :
  Calls Tryz.prog 42 #[.slice a cs.length cap,.slice ra rows.length rcap,.int .i64 f] w fun ev w'=>∃ v,ev=.returned (.tuple #[v,.agg #[.int .i64 e,.int .i64 p]])∧(e=0→w'.ownsRow w.heap.size 3 1 v cs.length ((setTo cs rows f cs.length).map (Value.int .i64)))∧(e≠0→v=.slice none 0 0)∧Below w.heap.size w w':=by
 obtain ⟨n,hcl⟩:∃ n,cs.length=n:=⟨_,rfl⟩
 have HL:Hid (cs.length=n∧rows.length=n):=⟨hcl,by rw [hlen,hcl]⟩
 have HF:Hid (FirstBad (fun j=>stepErr n (cs.getD j 0) (rows.getD j []) f) n e i):=hcl▸hF
 have HPP:Hid (p=if e=0 then -1 else i):=hp
 have hVB:Below w.heap.size w (w.alloc (.cells #[.int .i64 0,.int .i64 0] 38)):=(Below.refl _ _).alloc (Nat.le_refl _) _
 obtain ⟨V,hV⟩:∃ V,V=w.alloc (.cells #[.int .i64 0,.int .i64 0] 38):=⟨_,rfl⟩
 rw [← hV] at hVB
 have HR:Hid (IntRow V a cs):=hr.below hVB
 have HT:Hid (TabRow V ra rows):=ht.below hVB
 have HRN:Hid (∀ r∈rows,r.length≤1000):=hrn
 have HFI:Hid (Fine0 V):=hfine.below hVB
 have HV:Hid (V=w.alloc (.cells #[.int .i64 0,.int .i64 0] 38)):=hV
 have hVs:w.heap.size<V.heap.size:=by rw [hV];simp
 rw [hcl] at hn
 rw [hlen,hcl]
 clear hF hr ht hlen hrn hcl hp hfine
 obtain ⟨i0,hi,hz0,hz1,hz2⟩:=info_parts Tryz.infoInt
 have k1:((n:Int) != (n:Int))=false:=by simp
 go_enter Tryz.func42,Tryz.ntmps42
 go_wp2_with fail
 rw [← hV]
 clear hV
 go_loopw [8,21] (fun v t wr=>∃ k:Nat,k≤n∧t=.int .i64 k∧Hid (∀ j,j<k→stepErr n (cs.getD j 0) (rows.getD j []) f=0)∧wr.ownsRow V.heap.size 3 1 v k ((setTo cs rows f k).map (Value.int .i64))∧Below V.heap.size V wr) (fun _ t _=>n - (intOf t).toNat)
 case atStart=>exact ⟨0,Nat.zero_le _,rfl,fun j hj=>absurd hj (Nat.not_lt_zero _),by simpa [setTo] using World.ownsRow_nil _ _ _ _,Below.refl _ _⟩
 case round =>
  obtain ⟨k,hk,rfl,h0,hown,hbe⟩:=hrel
  by_cases hlt:k<n
  ·obtain ⟨b,off,rfl,hb,hc⟩:=HR.out (by rw [HL.out.1];omega)
   obtain ⟨tb,toff,rfl,htb,htc⟩:=HT.out (by rw [HL.out.2];omega)
   have y0:=(hbe.cell (p:=⟨b,off+k,none⟩) hb).trans (hc k (by rw [HL.out.1];exact hlt))
   obtain ⟨rx,rc,y1,hrow⟩:=htc k (by rw [HL.out.2];exact hlt)
   replace y1:=(hbe.cell (p:=⟨tb,toff+k,none⟩) htb).trans y1
   have hrl:(rows.getD k []).length≤1000:=HRN.out _ (by
    have:k<rows.length:=by rw [HL.out.2];exact hlt
    simp [List.getD,this])
   have HSE:Hid (setTo cs rows f (k+1)=setTo cs rows f k ++ [cs.getD k 0+midVal (rows.getD k []) f]):=setTo_succ ..
   have HM:Hid (∀ u:World,Below V.heap.size V u→Calls Tryz.prog 76 #[.slice rx (rows.getD k []).length rc,.int .i64 f] u fun e w'=>e=.returned (.tuple #[.int .i64 (midVal (rows.getD k []) f),.int .i64 (midErr (rows.getD k []) f)])∧Below u.heap.size u w'):=fun u hu=>refMid_any rx rc _ f u (hrow.below hu) hrl
   clear hc htc hrow
   obtain ⟨c,hcc⟩:∃ c,cs.getD k 0=c:=⟨_,rfl⟩
   obtain ⟨rl,hrl2⟩:∃ rl,(rows.getD k []).length=rl:=⟨_,rfl⟩
   have HC:Hid (cs.getD k 0=c∧(rows.getD k []).length=rl):=⟨hcc,hrl2⟩
   rw [hcc] at y0 HSE
   rw [hrl2] at y1 HM hrl
   clear hcc hrl2
   by_cases h1:rl=n
   rotate_left
   ·have HE:Hid (stepErr n (cs.getD k 0) (rows.getD k []) f=1):=stepErr_1 (by rw [HC.out.2];exact h1)
    have k2:((rl:Int) != (n:Int))=true:=by simp;omega
    obtain ⟨c0,c1,q0,q1,hB,_⟩:=fault_end (x:=1) (y:=(k:Int)) HV.out hbe
    clear HM h1
    go_wp2
    obtain ⟨rfl,rfl⟩:=HF.out.is hlt h0.out HE.out (by decide)
    obtain rfl:=HPP.out
    exact bodyPost_ret (v:=.tuple #[.slice none 0 0,.agg #[.int .i64 1,.int .i64 k]]) (by simp [results,Tryz.results42,go_sem,c0,c1]) rfl ⟨_,rfl,fun h=>absurd h (by decide),fun _=>rfl,hB⟩
   ·have k2:((rl:Int) != (n:Int))=false:=by simp;omega
    have hif:=in_far c wr
    cases h2:far c
    rotate_left
    ·rw [h2] at hif
     have HE:Hid (stepErr n (cs.getD k 0) (rows.getD k []) f=2):=stepErr_2 (by rw [HC.out.2];exact h1) (by rw [HC.out.1];exact h2)
     obtain ⟨c0,c1,q0,q1,hB,_⟩:=fault_end (x:=2) (y:=(k:Int)) HV.out hbe
     clear HM h2 h1
     go_wp2_with fail
     refine hif.mono ?_
     rintro ev w2 ⟨rfl,rfl⟩
     go_wp2
     obtain ⟨rfl,rfl⟩:=HF.out.is hlt h0.out HE.out (by decide)
     obtain rfl:=HPP.out
     exact bodyPost_ret (v:=.tuple #[.slice none 0 0,.agg #[.int .i64 2,.int .i64 k]]) (by simp [results,Tryz.results42,go_sem,c0,c1]) rfl ⟨_,rfl,fun h=>absurd h (by decide),fun _=>rfl,hB⟩
    ·rw [h2] at hif
     have hcr:=far_false.1 h2
     have HE:Hid (stepErr n (cs.getD k 0) (rows.getD k []) f=midErr (rows.getD k []) f):=stepErr_mid (by rw [HC.out.2];exact h1) (by rw [HC.out.1];exact h2)
     have hmr:=midVal_in (rows.getD k []) f
     obtain ⟨x,hx⟩:∃ x,midVal (rows.getD k []) f=x:=⟨_,rfl⟩
     obtain ⟨se,hse⟩:∃ se,midErr (rows.getD k []) f=se:=⟨_,rfl⟩
     rw [hx] at HM hmr HSE
     rw [hse] at HM HE
     clear hx hse h2 h1
     go_wp2_with fail
     refine hif.mono ?_
     rintro ev w2 ⟨rfl,rfl⟩
     go_wp2_with fail
     refine (HM.out _ hbe).mono ?_
     rintro ev w2 ⟨rfl,hb2⟩
     have hb2':=below_then hbe hb2
     replace y0:=(hb2.cell (p:=⟨b,off+k,none⟩) (Nat.lt_of_lt_of_le hb hbe.size)).trans y0
     have hown2:=owns_below hown hb2
     have hw2:=hb2'.size
     clear HM hb2
     by_cases hz:se=0
     rotate_left
     ·have HZ:Hid (se≠0):=hz
      have k3:(se != 0)=true:=by simpa using hz
      obtain ⟨c0,c1,q0,q1,hB,_⟩:=fault_end (x:=se) (y:=(k:Int)) HV.out hb2'
      clear hz
      go_wp2
      obtain ⟨rfl,rfl⟩:=HF.out.is hlt h0.out HE.out HZ.out
      have hpe:=HPP.out
      rw [if_neg HZ.out] at hpe
      subst hpe
      exact bodyPost_ret (v:=.tuple #[.slice none 0 0,.agg #[.int .i64 _,.int .i64 k]]) (by simp [results,Tryz.results42,go_sem,c0,c1]) rfl ⟨_,rfl,fun h=>absurd h HZ.out,fun _=>rfl,hB⟩
     ·subst hz
      go_wp2_with (at_builtin;refine wpList_append_own _ rfl _ _ 27 rfl V.heap.size 3 i0 (.int .i64 0) 1 8 Tryz.underlying27 hi hz0 hz1 hz2 rfl (by decide) u8 _ _ rfl (hown2.alloc _) ⟨w2.heap.size,0,none⟩ 1 1 [.int .i64 (c+x)] rfl rfl (cell_one_new _ _ _) (ints_one [c+x]) (by unfold maxLen;omega) (by omega) (by simp;omega) ?_;intro v' w3 hown' hgrow hnil)
      have hb3:Below V.heap.size V w3:=(hb2'.alloc hw2 _).grown hgrow (by simp;omega) (fun g hg=>(hown2.lt g hg).1)
      refine ⟨⟨k+1,by omega,by go_num,next_zero h0.out HE.out,by rw [HSE.out,List.map_append];exact hown',hb3⟩,?_⟩
      simp [intOf];omega
  ·have:k=n:=by omega
   subst this
   obtain ⟨g0,g1,g2⟩:=HFI.out.below hbe
   obtain ⟨c0,c1,q0,q1,hB,_⟩:=fault_end (x:=0) (y:=-1) HV.out hbe
   go_wp2_with fail
   go_region
   go_wp2
   obtain ⟨rfl,rfl⟩:=HF.out.at_end h0.out
   obtain rfl:=HPP.out
   exact bodyPost_ret (v:=.tuple #[u8,.agg #[.int .i64 0,.int .i64 (-1)]]) (by simp [results,Tryz.results42,go_sem,c0,c1]) rfl ⟨_,rfl,fun _=>owns_drew (owns_mono (owns_set (owns_set hown hVs) hVs) (Nat.le_of_lt hVs)),fun h=>absurd rfl h,hB.drew⟩
end
end Go.Proofs.YtooadfgibdjdeaaGreatDoor
