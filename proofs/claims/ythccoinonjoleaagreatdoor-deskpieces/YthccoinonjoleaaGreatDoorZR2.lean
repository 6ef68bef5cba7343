import Derived.Test.YthccoinonjoleaaGreatDoorZShelf
import Derived.Below
import Derived.BigQuiet
import Derived.Deep.AppendLies
import Derived.Laws.Strings
import Derived.Lib.OwnBridge
import Derived.Lib.ParseIntBTie
import Derived.RegionTactic
import Derived.Shelf.GgClosure.Gives
import Derived.Sort.Grow
import Derived.Sort.OwnSortedInts
import Derived.WalkKit
import Derived.WalkLawsBesides
import Derived.WalkSpells
namespace Go.Proofs.YthccoinonjoleaaGreatDoor
open Go.RowKit
set_option maxRecDepth 100000
set_option maxHeartbeats 16000000
section
structure Desk0 (w:World):Prop where
 told:Told w
 syn:∃ t p,w.cell? ⟨3,0,none⟩=some (.iface t p)
 rng:∃ t p,w.cell? ⟨4,0,none⟩=some (.iface t p)
 tab:Lib.TabIs Tryz.prog w pow10Name .u64 Lib.pow10Tab
def DeskW (base:Nat) (w:World):Prop:=∀ w',Below base w w'→Desk0 w'
theorem DeskW.here {base:Nat} {w:World} (h:DeskW base w):Desk0 w:=h w (Below.refl _ _)
theorem DeskW.below {base:Nat} {w w':World} (h:DeskW base w) (hb:Below base w w'):DeskW base w':=fun v hv=>h v (hb.trans hv)
theorem DeskW.at {base:Nat} {w v:World} (h:DeskW base w) (hb:Below base w v) (hB:base≤v.heap.size):DeskW v.heap.size v:=fun u hu=>h u (hb.trans (hu.mono hB))
def numP (word:ByteArray):Option Int :=
 match Lib.parseIntB 64 word.data.toList with
 | .ok v=>if (⟨(Lib.itoa v).toArray⟩:ByteArray)=word then some v else none
 | _=>none
theorem below_grow (w:World) (k:Nat) (os:Array Obj):Below w.heap.size w (Go.Sort.grow (w.drewN k) os):=⟨rfl,rfl,rfl,by simp [Go.Sort.grow],fun i hi=>by
 show (w.heap ++ os)[i]? = _
 rw [Array.getElem?_append_left hi]⟩
theorem bytes_eq_iff (x y:ByteArray):x.toList=y.toList↔x=y:=by
 rw [ByteArray.toList_eq,ByteArray.toList_eq]
 constructor
 ·intro h
  cases x;cases y;simpa using h
 ·intro h
  rw [h]
theorem bytes_ne {x y:ByteArray} (h:x≠y):(x.toList == y.toList)=false:=by
 cases e:x.toList == y.toList with
 | false=>rfl
 | true=>exact absurd ((bytes_eq_iff x y).1 (by simpa using e)) h
theorem number_ok (word:ByteArray) (hs:word.size≤20000) (w:World) (hw:DeskW w.heap.size w) (v:Int) (h0:-9223372036854775808≤v) (h1:v≤9223372036854775807) (hp:Lib.parseIntB 64 word.data.toList=.ok v) (he:(⟨(Lib.itoa v).toArray⟩:ByteArray)=word):Calls Tryz.prog 68 #[.string word] w fun e w'=>e=.returned (.int .i64 v)∧Below w.heap.size w w':=by
 have hP:=Tryz.strconv_ParseInt_10_at64_ok word (by omega) v hp w
 have hA:=fun u=>ask_yes 3 u
 go_enter Tryz.func68,Tryz.ntmps68
 go_wp2_with fail
 refine hP.mono ?_
 rintro e u1 ⟨rfl,hu⟩
 have hb1:Below w.heap.size w u1:=by
  rcases hu with rfl | ⟨t,rfl⟩
  ·exact Below.refl _ _
  ·exact Lib.bytesWorld_below _ _ _
 have hF:=Tryz.strconv_FormatInt_10 v h0 h1 u1 (hw u1 hb1).tab
 clear hP hu
 go_wp2_with fail
 refine hF.mono ?_
 rintro e u2 ⟨rfl,k,os,hu2⟩
 have hb2:Below w.heap.size w u2:=hb1.trans ((hu2▸below_grow u1 k os:Below u1.heap.size u1 u2).mono hb1.size)
 clear hF hu2 k os
 rw [he]
 go_wp2_with fail
 refine (hA _).mono ?_
 rintro e u3 ⟨rfl,rfl⟩
 go_wp2_with fail
 go_ret
 exact ⟨rfl,hb2⟩
theorem number_no1 (word:ByteArray) (hs:word.size≤20000) (w:World) (hw:DeskW w.heap.size w) (v:Int) (h0:-9223372036854775808≤v) (h1:v≤9223372036854775807) (hp:Lib.parseIntB 64 word.data.toList=.ok v) (he:(⟨(Lib.itoa v).toArray⟩:ByteArray)≠word):Calls Tryz.prog 68 #[.string word] w fun e w'=>e=thrown 3∧Below w.heap.size w w':=by
 have hP:=Tryz.strconv_ParseInt_10_at64_ok word (by omega) v hp w
 have hA:=fun u=>ask_no 3 u
 go_enter Tryz.func68,Tryz.ntmps68
 go_wp2_with fail
 refine hP.mono ?_
 rintro e u1 ⟨rfl,hu⟩
 have hb1:Below w.heap.size w u1:=by
  rcases hu with rfl | ⟨t,rfl⟩
  ·exact Below.refl _ _
  ·exact Lib.bytesWorld_below _ _ _
 have hF:=Tryz.strconv_FormatInt_10 v h0 h1 u1 (hw u1 hb1).tab
 clear hP hu
 go_wp2_with fail
 refine hF.mono ?_
 rintro e u2 ⟨rfl,k,os,hu2⟩
 have hb2:Below w.heap.size w u2:=hb1.trans ((hu2▸below_grow u1 k os:Below u1.heap.size u1 u2).mono hb1.size)
 clear hF hu2 k os
 generalize (⟨(Lib.itoa v).toArray⟩:ByteArray)=x at he ⊢
 have hd:=bytes_ne he
 go_wp2_with fail
 refine (hA _).mono ?_
 rintro e u3 ⟨rfl,rfl⟩
 exact ⟨rfl,rfl,hb2⟩
theorem number_no2 (word:ByteArray) (hs:word.size≤20000) (w:World) (hw:DeskW w.heap.size w) (hp:Lib.parseIntB 64 word.data.toList=Lib.parseIntB 64 []):Calls Tryz.prog 68 #[.string word] w fun e w'=>e=thrown 3∧Below w.heap.size w w':=by
 obtain ⟨te,pe,hv⟩:=hw.here.syn
 generalize hev:Value.iface te pe=ev at hv
 subst hev
 have hP:=Tryz.strconv_ParseInt_10_at64_syntax word (by omega) hp (.iface te pe) w hv (.inr ⟨te,pe,rfl⟩)
 have hA:=fun u=>ask_no 3 u
 go_enter Tryz.func68,Tryz.ntmps68
 go_wp2_with fail
 refine hP.mono ?_
 rintro e u1 ⟨N,rfl,_,_,hb1⟩
 clear hP
 go_wp2_with fail
 refine (hA _).mono ?_
 rintro e u3 ⟨rfl,rfl⟩
 exact ⟨rfl,rfl,hb1⟩
theorem number_no3 (word:ByteArray) (hs:word.size≤20000) (w:World) (hw:DeskW w.heap.size w) (hp:Lib.parseIntB 64 word.data.toList=.range):Calls Tryz.prog 68 #[.string word] w fun e w'=>e=thrown 3∧Below w.heap.size w w':=by
 obtain ⟨te,pe,hv⟩:=hw.here.rng
 generalize hev:Value.iface te pe=ev at hv
 subst hev
 have hP:=Tryz.strconv_ParseInt_10_at64_range word (by omega) hp (.iface te pe) w hv (.inr ⟨te,pe,rfl⟩)
 have hA:=fun u=>ask_no 3 u
 go_enter Tryz.func68,Tryz.ntmps68
 go_wp2_with fail
 refine hP.mono ?_
 rintro e u1 ⟨N,rfl,_,_,hb1⟩
 clear hP
 go_wp2_with fail
 refine (hA _).mono ?_
 rintro e u3 ⟨rfl,rfl⟩
 exact ⟨rfl,rfl,hb1⟩
theorem number_any (word:ByteArray) (hs:word.size≤20000) (w:World) (hw:DeskW w.heap.size w):Calls Tryz.prog 68 #[.string word] w fun e w'=>e=(match numP word with | some v=>.returned (.int .i64 v) | none=>thrown 3)∧Below w.heap.size w w':=by
 unfold numP
 cases hp:Lib.parseIntB 64 word.data.toList
 ·rename_i v
  have hv:-9223372036854775808≤v∧v≤9223372036854775807:=by
   have h:=Lib.parseIntB_bounds hp
   have e:((2 ^ (64 - 1):Nat):Int)=9223372036854775808:=by decide
   rw [e] at h
   omega
  by_cases he:(⟨(Lib.itoa v).toArray⟩:ByteArray)=word
  ·simp only [if_pos he]
   exact number_ok word hs w hw v hv.1 hv.2 hp he
  ·simp only [if_neg he]
   exact number_no1 word hs w hw v hv.1 hv.2 hp he
 ·exact number_no2 word hs w hw hp
 ·exact number_no3 word hs w hw hp
end
section
theorem del_own {w:World} {B g n cap:Nat} {xs:List ByteArray} (own:w.ownsRow B 9 1 (.slice (some ⟨g,0,none⟩) n cap) n (xs.map Value.string)) (n0:0<n) :
  Calls Tryz.prog 117 #[.slice (some ⟨g,0,none⟩) n cap,.int .i64 0,.int .i64 1] w fun e w'=>e=.returned (.slice (some ⟨g,0,none⟩) (n - 1) cap)∧w'.ownsRow B 9 1 (.slice (some ⟨g,0,none⟩) (n - 1) cap) (n - 1) ((xs.drop 1).map Value.string)∧Turns g g w w':=by
 rw [← Lib.map_encStr] at own
 obtain ⟨g',cap',hv,hg,hgl,hcap,hm,hlen,hH⟩:=Lib.holds_of_ownsRow own (by simp)
 injection hv with e1 _ e3
 injection e1 with e1
 injection e1 with e1
 subst e1;subst e3
 have hc:=Tryz.slices_Delete_string g 0 cap 0 1 (xs.map (fun x:ByteArray=>x.data.toList)) w hH (by omega) hm (by omega) (by omega)
 rw [hlen] at hc
 refine hc.mono ?_
 rintro e w' ⟨rfl,q,rfl⟩
 refine ⟨by rw [Nat.sub_zero],?_,?_⟩
 ·have hy:=Lib.ownsRow_putRow (q:=q) (k:=n - 1) (ys:=(xs.map (fun x:ByteArray=>x.data.toList)).take 0 ++ (xs.map (fun x:ByteArray=>x.data.toList)).drop 1 ++ List.replicate (1 - 0) []) own (by simp at hlen ⊢;omega) (by omega)
  have e2:((xs.map (fun x:ByteArray=>x.data.toList)).take 0 ++ (xs.map (fun x:ByteArray=>x.data.toList)).drop 1 ++ List.replicate (1 - 0) []).take (n - 1)=(xs.drop 1).map (fun x:ByteArray=>x.data.toList):=by
   rw [List.take_zero,List.nil_append,List.take_append_of_le_length (by simp at hlen ⊢;omega),List.take_of_length_le (by simp at hlen ⊢;omega),List.map_drop]
  rw [e2,Lib.map_encStr] at hy
  exact hy
 ·exact ⟨rfl,rfl,rfl,by simp [Sort.putRow,Sort.mapBlock,Sort.ahead],fun c hc h1 _=>by simp [Sort.putRow,Sort.mapBlock,Sort.ahead,Array.getElem?_modify,Ne.symm h1]⟩
end
section
open Go.RowKit Go.Shelf Go.Sort
theorem cell_of_holds {w:World} {g:Nat} {S:List Int} (h:Holds (Value.int .i64) w g 0 S.toArray) (j:Nat) (hj:j<S.length):w.cell? ⟨g,j,none⟩=some (.int .i64 (S.getD j 0)):=by
 have h1:=(h j (by simpa using hj)).1
 rw [Nat.zero_add] at h1
 rw [h1,getElem!_pos _ j (by simpa using hj)]
 simp [List.getD,List.getElem?_eq_getElem hj]
theorem sorted_row {w w1 w2:World} {g nn:Nat} {os:Array Obj} {l:List Int} (hB:Below w.heap.size w w1) (hg:w.heap.size≤g) (hlt:g<w1.heap.size) (hH:Holds (Value.int .i64) w1 g 0 l.toArray)
  (hw2:w2=grow (putRow (Value.int .i64) (Sort.ahead w1 nn) g 0 (l.mergeSort fun x y=>decide (x≤y)).toArray) os) :
  (∀ k,k<l.length→w2.cell? ⟨g,k,none⟩=some (.int .i64 (rank l k)))∧Below w.heap.size w w2:=by
 have hH2:Holds (Value.int .i64) w2 g 0 (srt l).toArray:=by
  subst hw2
  exact holds_grow _ _ os g 0 _ (by simpa [putRow,mapBlock,Sort.ahead] using hlt) (holds_putRow _ _ g 0 _ _ (holds_ahead _ w1 nn g 0 _ hH) (by simp))
 refine ⟨fun k hk=>?_,?_⟩
 ·exact cell_of_holds hH2 k (by rw [srt_length];exact hk)
 ·subst hw2
  exact hB.grown (grownBy_sortedI _) hB.size (fun j hj=>by cases hj;exact hg)
end
section
theorem cut_no0 (s:ByteArray) (h:Lib.indexByte s.data.toList 10 = -1) (w:World):Calls Tryz.prog 65 #[.string s,.string ⟨#[10]⟩] w fun e w'=>e=.returned (.tuple #[.string s,.string ⟨#[]⟩,.bool false])∧Below w.heap.size w w':=by
 have hi:=Tryz.stringslite_Index_one s 10
 rw [h] at hi
 go_enter Tryz.func65,Tryz.ntmps65
 go_wp2_with (go_at_call 98;refine (hi _).mono ?_;rintro e w' ⟨rfl,rfl⟩)
 refine bodyPost_ret (v:=.tuple #[.string s,.string ⟨#[]⟩,.bool false]) (by simp [results,Tryz.results65,go_sem]) rfl ⟨rfl,Below.refl _ _⟩
theorem cut_no (s:ByteArray) (h:Lib.indexByte s.data.toList 10 = -1) (w:World):Calls Tryz.prog 34 #[.string s,.string ⟨#[10]⟩] w fun e w'=>e=.returned (.tuple #[.string s,.string ⟨#[]⟩,.bool false])∧Below w.heap.size w w':=by
 have hc:=cut_no0 s h w
 go_enter Tryz.func34,Tryz.ntmps34
 go_wp2_with (go_at_call 65;refine hc.mono ?_;rintro e w' ⟨rfl,hb⟩)
 refine bodyPost_ret (v:=.tuple #[.string s,.string ⟨#[]⟩,.bool false]) (by simp [results,Tryz.results34,go_sem]) rfl ⟨rfl,hb⟩
theorem cut_yes0 (s:ByteArray) (k:Nat) (h:Lib.indexByte s.data.toList 10=k) (hk:k<s.size) (hs:s.size≤100000) (w:World):Calls Tryz.prog 65 #[.string s,.string ⟨#[10]⟩] w fun e w'=>e=.returned (.tuple #[.string (s.extract 0 k),.string (s.extract (k+1) s.size),.bool true])∧Below w.heap.size w w':=by
 have hi:=Tryz.stringslite_Index_one s 10
 rw [h] at hi
 have c1:(0:Int)≤↑k:=by omega
 have c2:(↑k:Int)≤↑s.size:=by omega
 have c3:(0:Int)≤↑k+1:=by omega
 have c4:(↑k+1:Int)≤↑s.size:=by omega
 go_enter Tryz.func65,Tryz.ntmps65
 go_wp2_with (go_at_call 98;refine (hi _).mono ?_;rintro e w' ⟨rfl,rfl⟩)
 go_quiet (fail)
 go_wp2
 refine bodyPost_ret (v:=.tuple #[.string (s.extract 0 k),.string (s.extract (k+1) s.size),.bool true]) (by simp [results,Tryz.results65,go_sem]) rfl ⟨rfl,rfl,rfl,rfl,Nat.le_refl _,fun _ _=>rfl⟩
theorem cut_yes (s:ByteArray) (k:Nat) (h:Lib.indexByte s.data.toList 10=k) (hk:k<s.size) (hs:s.size≤100000) (w:World):Calls Tryz.prog 34 #[.string s,.string ⟨#[10]⟩] w fun e w'=>e=.returned (.tuple #[.string (s.extract 0 k),.string (s.extract (k+1) s.size),.bool true])∧Below w.heap.size w w':=by
 have hc:=cut_yes0 s k h hk hs w
 go_enter Tryz.func34,Tryz.ntmps34
 go_wp2_with (go_at_call 65;refine hc.mono ?_;rintro e w' ⟨rfl,hb⟩)
 refine bodyPost_ret (v:=.tuple #[.string (s.extract 0 k),.string (s.extract (k+1) s.size),.bool true]) (by simp [results,Tryz.results34,go_sem]) rfl ⟨rfl,hb⟩
end
section
theorem PSendr.keep {w':World} {w:World} {B P:Nat} {bag queue:Int} {all:List ByteArray} {v:Value} {went:Nat} {last now:Int} (h:PSendr w B P bag queue all v went last now) (k:Same (P::v.ownBlock.toList) w w'):PSendr w' B P bag queue all v went last now:=by
 have hp:P∈P::v.ownBlock.toList:=List.mem_cons.2 (.inl rfl)
 exact ⟨(k.cell (p:=⟨P,0,none⟩) hp).trans h.c0,(k.cell (p:=⟨P,1,none⟩) hp).trans h.c1,(k.cell (p:=⟨P,2,none⟩) hp).trans h.c2,(k.cell (p:=⟨P,3,none⟩) hp).trans h.c3,(k.cell (p:=⟨P,4,none⟩) hp).trans h.c4,(k.cell (p:=⟨P,5,none⟩) hp).trans h.c5,fun i=>(k.frozen (p:=⟨P,i,none⟩) hp).trans (h.z i),owns_same h.own k (fun g hg=>List.mem_cons.2 (.inr (by simpa using hg))),h.lp,Nat.le_trans h.lb k.1,h.we⟩
theorem ordN_next (k:Nat):Int.tmod (ordN k) 255+1=ordN (k+1):=by
 have h:=ordN_in k
 rw [Int.tmod_eq_emod_of_nonneg h.1,← ordN_step]
 unfold stepN
 split <;> omega
theorem release_any {w:World} {B P:Nat} {bag queue:Int} {all:List ByteArray} {v:Value} {went:Nat} {last now:Int} (h:PSendr w B P bag queue all v went last now) (t:Int) (ht0:0≤t) (ht:t≤1099511627776) (hb0:0≤bag) (hb:bag≤1099511627776) (hw:went<all.length) (ha:all.length≤10000000) :
  Calls Tryz.prog 190 #[.pointer (some ⟨P,0,none⟩),.int .i64 t] w fun e w'=>e=.returned (.agg #[.int .i64 (ordN went),.string (all.getD went ByteArray.empty)])∧∃ v',PSendr w' B P bag queue all v' (went+1) t now∧Turns P (v.ownBlock.getD P) w w'∧v'.ownBlock=v.ownBlock:=by
 obtain ⟨c0,c1,c2,c3,c4,c5,z,own,lp,lb,we⟩:=h
 have hv:v≠.slice none 0 0:=by
  rintro rfl
  have:=own.1
  rcases own.2 with ⟨_,e⟩ | ⟨g,cap,cur,e,_⟩
  ·omega
  ·cases e
 rw [← Lib.map_encStr] at own
 obtain ⟨g,cap,rfl,hg,hgl,hcap,hm,hlen,hH⟩:=Lib.holds_of_ownsRow own hv
 have g0:w.cell? ⟨g,0,none⟩=some (.string (all.getD went ByteArray.empty)):=by
  have:=(hH 0 (by simp;omega)).1
  rw [Nat.zero_add] at this
  rw [this]
  have e1:(List.map (fun x:ByteArray=>x.data.toList) (List.drop went all)).toArray[0]! = (all.getD went ByteArray.empty).data.toList:=by
   rw [getElem!_pos _ _ (by simp;omega)]
   simp [List.getD,List.getElem?_eq_getElem hw]
  rw [e1]
 have HOwn:Hid (w.ownsRow B 9 1 (.slice (some ⟨g,0,none⟩) (all.length - went) cap) (all.length - went) ((all.drop went).map Value.string)):=by rw [← Lib.map_encStr];exact own
 have HZ:Hid (∀ i,w.frozen? ⟨P,i,none⟩=false):=z
 obtain ⟨n,hn⟩:∃ n,all.length - went=n:=⟨_,rfl⟩
 have HN:Hid (all.length - went=n∧went<all.length):=⟨hn,hw⟩
 rw [hn] at c2 hcap HOwn ⊢
 have n0:0<n:=by omega
 have n1:n≤10000000:=by omega
 have hgP:g≠P:=by omega
 generalize all.getD went ByteArray.empty=D at *
 obtain ⟨V,hV⟩:∃ V,w.alloc (.cells #[.int .i64 0,.string ⟨#[]⟩] 236)=V:=⟨_,rfl⟩
 have hB:Below w.heap.size w V:=by rw [← hV];exact (Below.refl w.heap.size w).alloc (Nat.le_refl _) _
 have hVs:V.heap.size=w.heap.size+1:=by rw [← hV];simp
 have r0:V.cell? ⟨w.heap.size,0,none⟩=some (.int .i64 0):=by rw [← hV];simp
 have r1:V.cell? ⟨w.heap.size,1,none⟩=some (.string ⟨#[]⟩):=by rw [← hV];simp
 have rz:∀ i,V.frozen? ⟨w.heap.size,i,none⟩=false:=fun i=>by rw [← hV];simp
 have cc:∀ i,V.cell? ⟨P,i,none⟩=w.cell? ⟨P,i,none⟩:=fun i=>hB.cell (p:=⟨P,i,none⟩) (show P<w.heap.size by omega)
 have y0:=(cc 0).trans c0
 have y1:=(cc 1).trans c1
 have y2:=(cc 2).trans c2
 have y3:=(cc 3).trans c3
 have y5:=(cc 5).trans c5
 have yg:=(hB.cell (p:=⟨g,0,none⟩) hgl).trans g0
 have HB:Hid (Below w.heap.size w V):=hB
 have lP:P<w.heap.size:=by omega
 obtain ⟨U,hU⟩:∃ U,(V.alloc (.cells #[.int .i64 (ordN went),.string D] 236)).drew=U:=⟨_,rfl⟩
 have hUB:Below V.heap.size V U:=by rw [← hU];exact ⟨rfl,rfl,rfl,by simp,fun c hc=>((Below.refl V.heap.size V).alloc (Nat.le_refl _) _).block c hc⟩
 have hUs:U.heap.size=w.heap.size+1+1:=by rw [← hU,← hVs];simp
 have x0:U.cell? ⟨w.heap.size+1,0,none⟩=some (.int .i64 (ordN went)):=by rw [← hU,← hVs];simp
 have x1:U.cell? ⟨w.heap.size+1,1,none⟩=some (.string D):=by rw [← hU,← hVs];simp
 have hOU:U.ownsRow B 9 1 (.slice (some ⟨g,0,none⟩) n cap) n ((all.drop went).map Value.string):=by
  refine owns_same (X:=[g]) HOwn.out ⟨by omega,fun c hc=>?_⟩ (fun g' hg'=>?_)
  ·have:c=g:=by simpa using hc
   subst this
   exact (hUB.block c (by omega)).trans (hB.block c hgl)
  ·have:g=g':=by simpa [Value.ownBlock] using hg'
   simp [this]
 have hD:=del_own hOU n0
 have HUB:Hid (Below V.heap.size V U):=hUB
 have uc:∀ i,U.cell? ⟨P,i,none⟩=w.cell? ⟨P,i,none⟩:=fun i=>(hUB.cell (p:=⟨P,i,none⟩) (show P<V.heap.size by omega)).trans (cc i)
 have u2:=(uc 2).trans c2
 have HU:Hid (∀ i,U.cell? ⟨P,i,none⟩=w.cell? ⟨P,i,none⟩):=uc
 have HUZ:Hid (∀ i,U.frozen? ⟨P,i,none⟩=false):=fun i=>((hUB.frozen (p:=⟨P,i,none⟩) (show P<V.heap.size by omega)).trans (hB.frozen (p:=⟨P,i,none⟩) lP)).trans (HZ.out i)
 have HU0:Hid (U.cell? ⟨w.heap.size,0,none⟩=some (.int .i64 0)):=(hUB.cell (p:=⟨w.heap.size,0,none⟩) (show w.heap.size<V.heap.size by omega)).trans r0
 have HU1:Hid (U.cell? ⟨w.heap.size,1,none⟩=some (.string ⟨#[]⟩)):=(hUB.cell (p:=⟨w.heap.size,1,none⟩) (show w.heap.size<V.heap.size by omega)).trans r1
 have HRZ:Hid (∀ i,U.frozen? ⟨w.heap.size,i,none⟩=false):=fun i=>(hUB.frozen (p:=⟨w.heap.size,i,none⟩) (show w.heap.size<V.heap.size by omega)).trans (rz i)
 have HX0:Hid (U.cell? ⟨w.heap.size+1,0,none⟩=some (.int .i64 (ordN went))):=x0
 have HX1:Hid (U.cell? ⟨w.heap.size+1,1,none⟩=some (.string D)):=x1
 have HC:Hid (w.cell? ⟨P,0,none⟩=some (.int .i64 bag)∧w.cell? ⟨P,1,none⟩=some (.int .i64 queue)∧w.cell? ⟨P,3,none⟩=some (.int .i64 now)∧w.cell? ⟨P,4,none⟩=some (.int .i64 (freeV went last bag))∧w.cell? ⟨P,5,none⟩=some (.int .i64 (ordN went))):=⟨c0,c1,c3,c4,c5⟩
 have HWU:Hid (Turns P g w U):=⟨hUB.os.trans hB.os,hUB.tape.trans hB.tape,hUB.output.trans hB.output,by omega,fun c hc _ _=>(hUB.block c (by omega)).trans (hB.block c hc)⟩
 have o1:=ordN_in went
 have hnx:=ordN_next went
 generalize ordN went=Y at *
 have hX:0≤Int.tmod Y 255∧Int.tmod Y 255<255:=by rw [Int.tmod_eq_emod_of_nonneg o1.1];omega
 generalize hXe:Int.tmod Y 255=X at *
 have HNX:Hid (X+1=ordN (went+1)):=hnx
 clear own hH z hn hw ha we hlen hv cc c0 c1 c2 c3 c4 c5 g0 hB hUB uc x0 x1 rz hnx
 go_enter Tryz.func190,Tryz.ntmps190
 go_wp2_with fail
 go_region
 go_wp2_with fail
 refine hD.mono ?_
 rintro e W ⟨rfl,hOW,hT⟩
 have lU:P<U.heap.size:=by omega
 have wc:∀ i,W.cell? ⟨P,i,none⟩=w.cell? ⟨P,i,none⟩:=fun i=>(hT.cell (p:=⟨P,i,none⟩) lU (Ne.symm hgP) (Ne.symm hgP)).trans (HU.out i)
 have w0:=(wc 0).trans HC.out.1
 have w1:=(wc 1).trans HC.out.2.1
 have w2:=(hT.cell (p:=⟨P,2,none⟩) lU (Ne.symm hgP) (Ne.symm hgP)).trans u2
 have w3:=(wc 3).trans HC.out.2.2.1
 have w4:=(wc 4).trans HC.out.2.2.2.1
 have w5:=(wc 5).trans HC.out.2.2.2.2
 have wz:∀ i,W.frozen? ⟨P,i,none⟩=false:=fun i=>(hT.frozen (p:=⟨P,i,none⟩) lU (Ne.symm hgP) (Ne.symm hgP)).trans (HUZ.out i)
 have z2:=wz 2
 have z4:=wz 4
 have z5:=wz 5
 have hr:w.heap.size≠g:=by omega
 have hx:w.heap.size+1≠g:=by omega
 have lr:w.heap.size<U.heap.size:=by omega
 have lx:w.heap.size+1<U.heap.size:=by omega
 have q0:=(hT.cell (p:=⟨w.heap.size,0,none⟩) lr hr hr).trans HU0.out
 have q1:=(hT.cell (p:=⟨w.heap.size,1,none⟩) lr hr hr).trans HU1.out
 have qz:∀ i,W.frozen? ⟨w.heap.size,i,none⟩=false:=fun i=>(hT.frozen (p:=⟨w.heap.size,i,none⟩) lr hr hr).trans (HRZ.out i)
 have qz0:=qz 0
 have qz1:=qz 1
 have x0:=(hT.cell (p:=⟨w.heap.size+1,0,none⟩) lx hx hx).trans HX0.out
 have x1:=(hT.cell (p:=⟨w.heap.size+1,1,none⟩) lx hx hx).trans HX1.out
 have lW:w.heap.size+1+1≤W.heap.size:=by have:=hT.size;omega
 have HT:Hid (Turns g g U W):=hT
 have HOW:Hid (W.ownsRow B 9 1 (.slice (some ⟨g,0,none⟩) (n - 1) cap) (n - 1) ((all.drop (went+1)).map Value.string)):=by
  rw [List.drop_drop] at hOW
  exact hOW
 have HWZ:Hid (∀ i,W.frozen? ⟨P,i,none⟩=false):=wz
 clear wc wz qz hT hOW hD hOU hU hV
 go_wp2
 obtain ⟨W3,hW3⟩:∃ W3,((W.setCell ⟨P,2,none⟩ (.slice (some ⟨g,0,none⟩) (n - 1) cap)).setCell ⟨P,4,none⟩ (.int .i64 (t+bag))).setCell ⟨P,5,none⟩ (.int .i64 (X+1))=W3:=⟨_,rfl⟩
 rw [hW3]
 have hS3:W3.heap.size=W.heap.size:=by rw [← hW3];simp
 have fin:PSendr W3 B P bag queue all (.slice (some ⟨g,0,none⟩) (n - 1) cap) (went+1) t now:=by
  have e0:=HN.out
  refine ⟨?_,?_,?_,?_,?_,?_,fun i=>?_,?_,lp,by omega,by omega⟩
  ·rw [← hW3];exact (cell_other (.inr (by decide))).trans ((cell_other (.inr (by decide))).trans ((cell_other (.inr (by decide))).trans w0))
  ·rw [← hW3];exact (cell_other (.inr (by decide))).trans ((cell_other (.inr (by decide))).trans ((cell_other (.inr (by decide))).trans w1))
  ·rw [← hW3];exact (cell_other (.inr (by decide))).trans ((cell_other (.inr (by decide))).trans (cell_set w2))
  ·rw [← hW3];exact (cell_other (.inr (by decide))).trans ((cell_other (.inr (by decide))).trans ((cell_other (.inr (by decide))).trans w3))
  ·rw [← hW3,show freeV (went+1) t bag=t+bag from if_neg (by omega)];exact (cell_other (.inr (by decide))).trans (cell_set ((cell_other (.inr (by decide))).trans w4))
  ·rw [← hW3,← HNX.out];exact cell_set ((cell_other (.inr (by decide))).trans ((cell_other (.inr (by decide))).trans w5))
  ·rw [← hW3];exact soft_set.trans (soft_set.trans (soft_set.trans (HWZ.out i)))
  ·rw [show all.length - (went+1)=n - 1 by omega,← hW3]
   exact owns_put (owns_put (owns_put HOW.out lp) lp) lp
 have t3:Turns P g w W3:=by
  refine HWU.out.trans (Turns.trans ⟨HT.out.os,HT.out.tape,HT.out.output,HT.out.size,fun c hc _ h2=>HT.out.block c hc h2 h2⟩ ?_)
  rw [← hW3]
  exact (((Turns.refl P g W).set (p:=⟨P,2,none⟩) (.inl rfl) _).set (p:=⟨P,4,none⟩) (.inl rfl) _).set (p:=⟨P,5,none⟩) (.inl rfl) _
 have q0':W3.cell? ⟨w.heap.size,0,none⟩=some (.int .i64 0):=by rw [← hW3];exact (cell_other (.inl (by omega))).trans ((cell_other (.inl (by omega))).trans ((cell_other (.inl (by omega))).trans q0))
 have q1':W3.cell? ⟨w.heap.size,1,none⟩=some (.string ⟨#[]⟩):=by rw [← hW3];exact (cell_other (.inl (by omega))).trans ((cell_other (.inl (by omega))).trans ((cell_other (.inl (by omega))).trans q1))
 have s0:((W3.setCell ⟨w.heap.size,0,none⟩ (.int .i64 Y)).setCell ⟨w.heap.size,1,none⟩ (.string D)).cell? ⟨w.heap.size,0,none⟩=some (.int .i64 Y):=(cell_other (.inr (by decide))).trans (cell_set q0')
 have s1:((W3.setCell ⟨w.heap.size,0,none⟩ (.int .i64 Y)).setCell ⟨w.heap.size,1,none⟩ (.string D)).cell? ⟨w.heap.size,1,none⟩=some (.string D):=cell_set ((cell_other (.inr (by decide))).trans q1')
 have ht5:Turns w.heap.size w.heap.size W3 ((W3.setCell ⟨w.heap.size,0,none⟩ (.int .i64 Y)).setCell ⟨w.heap.size,1,none⟩ (.string D)):=((Turns.refl _ _ _).set (p:=⟨w.heap.size,0,none⟩) (.inl rfl) _).set (p:=⟨w.heap.size,1,none⟩) (.inl rfl) _
 have fin5:=fin.keep (w':=(W3.setCell ⟨w.heap.size,0,none⟩ (.int .i64 Y)).setCell ⟨w.heap.size,1,none⟩ (.string D)) ⟨ht5.size,fun c hc=>by
  have:c=P∨c=g:=by simpa [Value.ownBlock] using hc
  exact ht5.block c (by omega) (by omega) (by omega)⟩
 refine bodyPost_ret (v:=.agg #[.int .i64 Y,.string D]) (by simp [results,Tryz.results190,go_sem,s0,s1]) rfl ⟨rfl,_,fin5,?_,rfl⟩
 exact ⟨ht5.os.trans t3.os,ht5.tape.trans t3.tape,ht5.output.trans t3.output,Nat.le_trans t3.size ht5.size,fun c hc h1 h2=>(ht5.block c (by have:=t3.size;omega) (by omega) (by omega)).trans (t3.block c hc h1 h2)⟩
end
section
theorem Tryz.infoStr8:(Tryz.prog.info? 9).map (fun i=>(i.zero,i.size,i.bytes))=some (some (.string ByteArray.empty),1,16):=by kernel_rfl
structure PQueue (w:World) (B P:Nat) (most:Int) (all:List ByteArray) (lost:Int) (v:Value):Prop where
 c0:w.cell? ⟨P,0,none⟩=some (.int .i64 most)
 c1:w.cell? ⟨P,1,none⟩=some v
 c2:w.cell? ⟨P,2,none⟩=some (.int .i64 lost)
 z:∀ i,w.frozen? ⟨P,i,none⟩=false
 own:w.ownsRow B 9 1 v all.length (all.map Value.string)
 lp:P<B
 lb:B≤w.heap.size
def Que (w:World) (O:List Nat) (P:Nat) (most:Int) (all:List ByteArray) (lost:Int):Prop :=
 ∃ v,PQueue w (P+1) P most all lost v∧O=P::v.ownBlock.toList
theorem PQueue.keep {w':World} {w:World} {B P:Nat} {most lost:Int} {all:List ByteArray} {v:Value} (h:PQueue w B P most all lost v) (k:Same (P::v.ownBlock.toList) w w'):PQueue w' B P most all lost v:=by
 have hp:P∈P::v.ownBlock.toList:=List.mem_cons.2 (.inl rfl)
 exact ⟨(k.cell (p:=⟨P,0,none⟩) hp).trans h.c0,(k.cell (p:=⟨P,1,none⟩) hp).trans h.c1,(k.cell (p:=⟨P,2,none⟩) hp).trans h.c2,fun i=>(k.frozen (p:=⟨P,i,none⟩) hp).trans (h.z i),owns_same h.own k (fun g hg=>List.mem_cons.2 (.inr (by simpa using hg))),h.lp,Nat.le_trans h.lb k.1⟩
theorem Que.lt {w:World} {O:List Nat} {P:Nat} {most lost:Int} {all:List ByteArray} (h:Que w O P most all lost):∀ c,c∈O→c<w.heap.size:=by
 obtain ⟨v,h,rfl⟩:=h
 intro c hc
 rcases List.mem_cons.1 hc with y | y
 ·have:=h.lp;have:=h.lb;omega
 ·exact (h.own.lt c (by simpa using y)).2
theorem Que.keep {w':World} {w:World} {O:List Nat} {P:Nat} {most lost:Int} {all:List ByteArray} (h:Que w O P most all lost) (k:Same O w w'):Que w' O P most all lost:=by
 obtain ⟨v,h,rfl⟩:=h
 exact ⟨v,h.keep k,rfl⟩
theorem queNew_good (most:Int) (w:World) (hb:1≤most∧most≤16) :
  Calls Tryz.prog 153 #[.int .i64 most] w fun e w'=>∃ O P,e=.returned (.tuple #[.pointer (some ⟨P,0,none⟩),.nilIface])∧Que w' O P most [] 0∧Below w.heap.size w w'∧∀ c,c∈O→w.heap.size≤c:=by
 have k1:decide (most<1)=false:=decide_eq_false (by omega)
 have k2:decide (16<most)=false:=decide_eq_false (by omega)
 clear hb
 have fin:Que (w.alloc (.cells #[.int .i64 most,.slice none 0 0,.int .i64 0] 190)) [w.heap.size] w.heap.size most [] 0 :=
  ⟨.slice none 0 0,⟨by simp,by simp,by simp,fun i=>by simp,World.ownsRow_nil _ _ _ _,by omega,by simp⟩,rfl⟩
 have HF:Hid _:=fin
 clear fin
 go_enter Tryz.func153,Tryz.ntmps153
 go_wp2
 go_ret2
 exact ⟨_,_,rfl,HF.out,(Below.refl _ _).alloc (Nat.le_refl _) _,fun c hc=>by
  simp only [List.mem_cons,List.not_mem_nil,or_false] at hc
  omega⟩
theorem qsend_full {w:World} {B P:Nat} {most lost:Int} {all:List ByteArray} {v:Value} (h:PQueue w B P most all lost v) (d:ByteArray) (hd:d.size≤40) (hq:most≤(all.length:Int)) (hl:0≤lost∧lost≤10000000) :
  Calls Tryz.prog 165 #[.pointer (some ⟨P,0,none⟩),.string d] w fun e w'=>e=.returned (errV 12)∧PQueue w' B P most all (lost+1) v∧Turns P P w w':=by
 have HH:Hid (PQueue w B P most all lost v):=h
 have HF:Hid (∀ q:Nat,PQueue ((w.drewN q).setCell ⟨P,2,none⟩ (.int .i64 (lost+1))) B P most all (lost+1) v∧Turns P P w ((w.drewN q).setCell ⟨P,2,none⟩ (.int .i64 (lost+1)))):=fun q =>
  ⟨⟨(cell_other (.inr (by decide))).trans HH.out.c0,(cell_other (.inr (by decide))).trans HH.out.c1,cell_set HH.out.c2,fun i=>soft_set.trans (HH.out.z i),owns_put HH.out.own HH.out.lp,HH.out.lp,by have:=HH.out.lb;simp;omega⟩,(Turns.drawn q).set (p:=⟨P,2,none⟩) (.inl rfl) _⟩
 obtain ⟨c0,c1,c2,z,own,lp,lb⟩:=h
 obtain ⟨a,cap,rfl⟩:=owns_form own
 have hd2:decide (40<(d.size:Int))=false:=decide_eq_false (by omega)
 have hlp:P<w.heap.size:=by omega
 have z2:=z 2
 clear own z HH
 obtain ⟨n,hn⟩:∃ n,all.length=n:=⟨_,rfl⟩
 rw [hn] at c1 hq HF ⊢
 clear hn
 go_enter Tryz.func165,Tryz.ntmps165
 go_wp2_with fail
 go_quiet (fail)
 go_wp2
 go_ret
 exact ⟨rfl,HF.out _⟩
theorem qsend_ok {w:World} {B P:Nat} {most lost:Int} {all:List ByteArray} {v:Value} (h:PQueue w B P most all lost v) (d:ByteArray) (hd:d.size≤40) (hq:(all.length:Int)<most) (ha:all.length≤10000000) :
  Calls Tryz.prog 165 #[.pointer (some ⟨P,0,none⟩),.string d] w fun e w'=>e=.returned (errV 0)∧∃ v',PQueue w' B P most (all ++ [d]) lost v'∧Turns P (v.ownBlock.getD P) w w'∧(v'.ownBlock=v.ownBlock∨∃ g,w.heap.size≤g∧v'.ownBlock=some g):=by
 obtain ⟨c0,c1,c2,z,own,lp,lb⟩:=h
 obtain ⟨i0,hi,hz0,hz1,hz2⟩:=info_parts Tryz.infoStr8
 obtain ⟨a,cap,rfl⟩:=owns_form own
 have hd2:decide (40<(d.size:Int))=false:=decide_eq_false (by omega)
 have hq2:decide (most≤(all.length:Int))=false:=decide_eq_false (by omega)
 have z1:=z 1
 have HZ:Hid (∀ i,w.frozen? ⟨P,i,none⟩=false):=z
 have hlp:P<w.heap.size:=by omega
 obtain ⟨n,hn⟩:∃ n,all.length=n:=⟨_,rfl⟩
 have HN:Hid (all.length=n):=hn
 rw [hn] at own hq2 c1 ha
 have HOwn:Hid (w.ownsRow B 9 1 (.slice a n cap) n (all.map Value.string)):=own
 rw [hn]
 clear own hq z hn
 go_enter Tryz.func165,Tryz.ntmps165
 go_wp2_with fail
 go_quiet (fail)
 have hOq:(w.drewN nq).ownsRow B 9 1 (.slice a n cap) n (all.map Value.string):=HOwn.out
 go_wp2_with (at_builtin;refine wpList_append_own_at _ rfl _ _ 65 rfl B 9 i0 (.string ByteArray.empty) 1 16 Tryz.underlying65 hi hz0 hz1 hz2 rfl (by decide) (.slice a n cap) n _ rfl (hOq.alloc _) ⟨w.heap.size,0,none⟩ 1 1 [.string d] rfl rfl (cell_one_new _ _ _) (by simp [Value.oneCell']) (by unfold maxLen;omega) (by omega) (by simp;omega) ?_;apply Hid.out)
 unfold Hid
 intro v' w3 hown' hgrow _ hat
 have hrow:∀ g,(Value.slice a n cap).ownBlock=some g→B≤g∧g<w.heap.size:=fun g hg=>HOwn.out.lt g hg
 have hD:∀ C,Below C w (w.drewN nq):=fun _=>⟨rfl,rfl,rfl,Nat.le_refl _,fun _ _=>rfl⟩
 have hB3:Below B w w3:=(((hD B).alloc lb _).grown hgrow (by simp;omega) (fun g hg=>(hrow g hg).1))
 have HT3:Hid (Turns P ((Value.slice a n cap).ownBlock.getD P) w w3):=by
  have hA:Below w.heap.size w ((w.drewN nq).alloc (.cells #[.string d] 9)):=(hD w.heap.size).alloc (Nat.le_refl _) _
  refine ⟨hB3.os,hB3.tape,hB3.output,hB3.size,fun c hc h1 h2=>?_⟩
  refine (hgrow.block c (by have:=hA.size;omega) (fun e=>?_)).trans (hA.block c hc)
  rw [← e] at h2
  exact h2 rfl
 have HAt:Hid (v'.ownBlock=(Value.slice a n cap).ownBlock∨∃ g,w.heap.size≤g∧v'.ownBlock=some g):=by
  rcases hat with y | y
  ·exact .inl y
  ·exact .inr ⟨_,by omega,y⟩
 obtain ⟨a3,cap3,rfl⟩:=owns_form hown'
 have HO3:Hid (w3.ownsRow B 9 1 (.slice a3 (n+1) cap3) (n+1) (all.map Value.string ++ [.string d])):=hown'
 have cc:∀ i,w3.cell? ⟨P,i,none⟩=w.cell? ⟨P,i,none⟩:=fun i=>hB3.cell (p:=⟨P,i,none⟩) lp
 have HZ3:Hid (∀ i,w3.frozen? ⟨P,i,none⟩=false):=fun i=>(hB3.frozen (p:=⟨P,i,none⟩) lp).trans (HZ.out i)
 have y1:=(cc 1).trans c1
 have zz1:=HZ3.out 1
 have hs3:=hB3.size
 have hl3:P<w3.heap.size:=by omega
 have fin:PQueue (w3.setCell ⟨P,1,none⟩ (.slice a3 (n+1) cap3)) B P most (all ++ [d]) lost (.slice a3 (n+1) cap3) :=
  ⟨(cell_other (.inr (by decide))).trans ((cc 0).trans c0),cell_set y1,(cell_other (.inr (by decide))).trans ((cc 2).trans c2),fun i=>soft_set.trans (HZ3.out i),by
   have e0:=HN.out
   have e1:(all ++ [d]).length=n+1:=by simp;omega
   rw [e1,List.map_append]
   exact owns_put HO3.out lp,lp,by simp;omega⟩
 have HFin:Hid _:=fin
 have HTT:Hid _:=HT3.out.set (p:=⟨P,1,none⟩) (.inl rfl) (.slice a3 (n+1) cap3)
 clear fin cc hown' hgrow hat hB3 hrow hOq c0 c1 c2
 go_wp2
 go_ret
 exact ⟨rfl,_,HFin.out,HTT.out,HAt.out⟩
theorem qsend_limit (P:Nat) (w:World) (d:ByteArray) (hd:40<d.size) :
  Calls Tryz.prog 165 #[.pointer (some ⟨P,0,none⟩),.string d] w fun e w'=>e=.returned (errV 4)∧w'=w:=by
 have k:(40:Int)<(d.size:Int):=by omega
 go_enter Tryz.func165,Tryz.ntmps165
 go_wp2
 go_ret
 exact ⟨rfl,rfl⟩
theorem queSend {w:World} {O:List Nat} {P:Nat} {most lost:Int} {all:List ByteArray} (h:Que w O P most all lost) (d:ByteArray) (ha:all.length≤10000000) (hl:0≤lost∧lost≤10000000) :
  Calls Tryz.prog 165 #[.pointer (some ⟨P,0,none⟩),.string d] w fun e w'=>e=.returned (errV (putK all.length most d))∧∃ O',Que w' O' P most (putAll (putK all.length most d) all d) (lostK (putK all.length most d) lost)∧Foot O O' w w':=by
 obtain ⟨v,h,rfl⟩:=h
 have hP:P∈P::v.ownBlock.toList:=List.mem_cons.2 (.inl rfl)
 unfold putAll lostK putK
 by_cases h1:40<d.size
 ·simp only [if_pos h1]
  refine (qsend_limit P w d h1).mono ?_
  rintro e w' ⟨rfl,rfl⟩
  exact ⟨rfl,_,⟨v,h,rfl⟩,Foot.refl _ _⟩
 ·simp only [if_neg h1]
  by_cases h2:most≤(all.length:Int)
  ·simp only [if_pos h2]
   refine (qsend_full h d (by omega) h2 hl).mono ?_
   rintro e w' ⟨rfl,h',ht⟩
   exact ⟨rfl,_,⟨v,h',rfl⟩,Foot.of_turns ht hP hP⟩
  ·simp only [if_neg h2]
   refine (qsend_ok h d (by omega) (by omega) ha).mono ?_
   rintro e w' ⟨rfl,v',h',ht,hat⟩
   refine ⟨rfl,_,⟨v',h',rfl⟩,?_⟩
   refine ⟨ht.os,ht.tape,ht.output,ht.size,fun c hc hn=>?_,fun c hc=>?_⟩
   ·have hP:c≠P:=fun y=>hn (List.mem_cons.2 (.inl y))
    refine ht.block c hc hP ?_
    cases e:v.ownBlock with
    | none=>exact hP
    | some g =>
     intro y
     refine hn (List.mem_cons.2 (.inr ?_))
     rw [e,y]
     exact List.mem_singleton.2 rfl
   ·rcases List.mem_cons.1 hc with y | y
    ·exact .inl (List.mem_cons.2 (.inl y))
    ·rcases hat with z | ⟨g,hg,z⟩
     ·rw [z] at y;exact .inl (List.mem_cons.2 (.inr y))
     ·rw [z] at y
      have:c=g:=by simpa using y
      exact .inr (by omega)
theorem recv_none {w:World} {B P:Nat} {most lost:Int} {v:Value} (h:PQueue w B P most [] lost v) :
  Calls Tryz.prog 83 #[.pointer (some ⟨P,0,none⟩)] w fun e w'=>e=.returned (.tuple #[.string ByteArray.empty,errV 8])∧w'=w:=by
 obtain ⟨c0,c1,c2,z,own,lp,lb⟩:=h
 obtain ⟨a,cap,rfl⟩:=owns_form own
 have hlp:P<w.heap.size:=by omega
 have c1':w.cell? ⟨P,1,none⟩=some (.slice a 0 cap):=c1
 clear own z c1
 go_enter Tryz.func83,Tryz.ntmps83
 go_wp2
 go_ret2
 exact ⟨rfl,rfl⟩
theorem recv_ok {x:ByteArray} {w:World} {B P:Nat} {most lost:Int} {all:List ByteArray} {v:Value} (h:PQueue w B P most (x::all) lost v) (ha:all.length≤10000000) :
  Calls Tryz.prog 83 #[.pointer (some ⟨P,0,none⟩)] w fun e w'=>e=.returned (.tuple #[.string x,errV 0])∧∃ v',PQueue w' B P most all lost v'∧Turns P (v.ownBlock.getD P) w w'∧v'.ownBlock=v.ownBlock:=by
 obtain ⟨c0,c1,c2,z,own,lp,lb⟩:=h
 obtain ⟨g,cap,rfl,hg,hgl⟩:=own.form (by simp)
 have g0:w.cell? ⟨g,0,none⟩=some (.string x):=by
  have:=own.cells (g:=g) rfl 0 (.string x) rfl
  simpa [Addr.add] using this
 have hD:=del_own (xs:=x::all) own (by simp)
 have HO:Hid _:=hD
 have hgP:g≠P:=by omega
 have hlp:P<w.heap.size:=by omega
 have hcl:(x::all).length=all.length+1:=rfl
 have n1:=ha
 rw [hcl] at c1 hD HO own
 have HZ:Hid (∀ i,w.frozen? ⟨P,i,none⟩=false):=z
 obtain ⟨n,hn⟩:∃ n,all.length=n:=⟨_,rfl⟩
 have HN:Hid (all.length=n):=hn
 rw [hn] at c1 hD n1
 rw [hcl,hn]
 clear own z hn HO ha hcl
 go_enter Tryz.func83,Tryz.ntmps83
 go_wp2_with fail
 refine hD.mono ?_
 rintro e W ⟨rfl,hOW,hT⟩
 have wc:∀ i,W.cell? ⟨P,i,none⟩=w.cell? ⟨P,i,none⟩:=fun i=>hT.cell (p:=⟨P,i,none⟩) hlp (Ne.symm hgP) (Ne.symm hgP)
 have w0:=(wc 0).trans c0
 have w1:=(wc 1).trans c1
 have w2:=(wc 2).trans c2
 have wz:∀ i,W.frozen? ⟨P,i,none⟩=false:=fun i=>(hT.frozen (p:=⟨P,i,none⟩) hlp (Ne.symm hgP) (Ne.symm hgP)).trans (HZ.out i)
 have z1:=wz 1
 have lW:P<W.heap.size:=Nat.lt_of_lt_of_le hlp hT.size
 have fin:PQueue (W.setCell ⟨P,1,none⟩ (.slice (some ⟨g,0,none⟩) n cap)) B P most all lost (.slice (some ⟨g,0,none⟩) n cap) :=
  ⟨(cell_other (.inr (by decide))).trans w0,cell_set w1,(cell_other (.inr (by decide))).trans w2,fun i=>soft_set.trans (wz i),by
   rw [HN.out]
   exact owns_put hOW lp,lp,by have:=hT.size;simp;omega⟩
 have HFin:Hid _:=fin
 have HTT:Hid (Turns P g w (W.setCell ⟨P,1,none⟩ (.slice (some ⟨g,0,none⟩) n cap))):=Turns.set (Turns.trans (Turns.refl P g w) ⟨hT.os,hT.tape,hT.output,hT.size,fun c hc _ h2=>hT.block c hc h2 h2⟩) (p:=⟨P,1,none⟩) (.inl rfl) _
 clear fin wc wz hOW hT hD
 go_wp2
 go_ret2
 exact ⟨rfl,_,HFin.out,HTT.out,rfl⟩
theorem queReceive {w:World} {O:List Nat} {P:Nat} {most lost:Int} {all:List ByteArray} (h:Que w O P most all lost) (ha:all.length≤10000000) :
  Calls Tryz.prog 83 #[.pointer (some ⟨P,0,none⟩)] w fun e w'=>e=.returned (.tuple #[.string (recvD all),errV (recvK all)])∧∃ O',Que w' O' P most all.tail lost∧Foot O O' w w':=by
 obtain ⟨v,h,rfl⟩:=h
 have hP:P∈P::v.ownBlock.toList:=List.mem_cons.2 (.inl rfl)
 cases all with
 | nil =>
  refine (recv_none h).mono ?_
  rintro e w' ⟨rfl,rfl⟩
  exact ⟨rfl,_,⟨v,h,rfl⟩,Foot.refl _ _⟩
 | cons x all =>
  refine (recv_ok h (by simp at ha;omega)).mono ?_
  rintro e w' ⟨rfl,v',h',ht,hat⟩
  refine ⟨rfl,_,⟨v',h',rfl⟩,?_⟩
  rw [hat]
  refine Foot.of_turns ht hP ?_
  cases e:v.ownBlock with
  | none=>exact List.mem_cons.2 (.inl rfl)
  | some g=>exact List.mem_cons.2 (.inr (List.mem_singleton.2 rfl))
end
section
open Go.RowKit Go.Shelf Go.Sort
theorem beyond_pred (B:Nat) (w:World) (hB:B<w.heap.size) (hcell:w.cell? ⟨B,0,none⟩=some (.int .i64 1099511627776)) :
  PredAt Tryz.prog 128 #[.pointer (some ⟨B,0,none⟩)] (Value.int .i64) far w:=fun W x hb=>by
 have hc:W.cell? ⟨B,0,none⟩=some (.int .i64 1099511627776):=(hb.cell (p:=⟨B,0,none⟩) hB).trans hcell
 show Calls Tryz.prog 128 #[.int .i64 x,.pointer (some ⟨B,0,none⟩)] W _
 unfold far
 go_enter Tryz.func128,Tryz.ntmps128
 go_wp2
 all_goals (go_ret;exact ⟨by simp_all,0,rfl⟩)
theorem beyond_any (w:World):Calls Tryz.prog 94 #[.int .i64 1099511627776] w fun e w'=>e=.returned (.func (.func 128) #[] #[.pointer (some ⟨w.heap.size,0,none⟩)])∧w'=w.alloc (.cells #[.int .i64 1099511627776] 3):=by
 go_enter Tryz.func94,Tryz.ntmps94
 go_wp2
 go_ret
 exact ⟨rfl,rfl⟩
theorem mid_arg (a:Option Addr) (n cap:Nat) (f:Int) (w:World) (hn:n≤20000) (h:f<0∨(n:Int)<2*f+1) :
  Calls Tryz.prog 61 #[.slice a n cap,.int .i64 f] w fun e w'=>e=.returned (.tuple #[.int .i64 0,errV 1])∧Below w.heap.size w w':=by
 rw [errV_1]
 by_cases hf:f<0
 ·clear h
  go_enter Tryz.func61,Tryz.ntmps61
  go_wp2
  go_ret2
  exact ⟨rfl,Below.refl _ _⟩
 ·have k1:decide (f<0)=false:=decide_eq_false hf
  by_cases h0:n=0
  ·subst h0
   clear h hf
   go_enter Tryz.func61,Tryz.ntmps61
   go_wp2
   go_ret2
   exact ⟨rfl,Below.refl _ _⟩
  ·have k2:((n:Int) == 0)=false:=by simp;omega
   have k3:((n:Int) - 1) / 2<f:=by omega
   clear h hf
   go_enter Tryz.func61,Tryz.ntmps61
   go_wp2
   go_ret2
   exact ⟨rfl,Below.refl _ _⟩
theorem far_enters:∀ args w,(callFunc 128 args).run Tryz.prog w=.ok (.enter 128 args) w:=enters_of Tryz.func128 (by kernel_rfl) rfl
theorem far_any (b off cap n:Nat) (l:List Int) (hl:l.length=n) (hn:n≤20000) (w:World) (hb:b<w.heap.size) (hc:∀ j,j<l.length→w.cell? ⟨b,off+j,none⟩=some (.int .i64 (l.getD j 0))) :
  Calls Tryz.prog 76 #[.slice (some ⟨b,off,none⟩) n cap,.func (.func 128) #[] #[.pointer (some ⟨w.heap.size,0,none⟩)]] (w.alloc (.cells #[.int .i64 1099511627776] 3)) fun e w'=>e=.returned (.bool (l.any far))∧Below w.heap.size w w':=by
 have h:=Tryz.slices_ContainsFunc (Value.int .i64) far 128 #[.pointer (some ⟨w.heap.size,0,none⟩)] far_enters b off n cap l (w.alloc (.cells #[.int .i64 1099511627776] 3)) (beyond_pred w.heap.size _ (by simp) (by simp)) (by omega) (by omega) (fun j hj=>by
  rw [World.cell?_alloc_lt _ _ _ hb,hc j hj,getElem!_pos l j hj,getD_at hj])
 rw [List.take_of_length_le (by omega)] at h
 exact h.mono fun e w' ⟨he,q,hq⟩=>⟨he,hq▸below_drewN' ((Below.refl _ w).alloc (Nat.le_refl _) _) q⟩
theorem mid_range (a:Option Addr) (cap:Nat) (l:List Int) (f:Nat) (w:World) (hr:IntRow w a l) (hn:l.length≤20000) (h:2*f+1≤l.length) (hin:l.any far=true) :
  Calls Tryz.prog 61 #[.slice a l.length cap,.int .i64 f] w fun e w'=>e=.returned (.tuple #[.int .i64 0,errV 2])∧Below w.heap.size w w':=by
 rw [errV_2]
 obtain ⟨b,off,rfl,hb,hc⟩:=hr (by omega)
 have hfa:=far_any b off cap l.length l rfl hn w hb hc
 rw [hin] at hfa
 generalize l.length=n at *
 have k1:decide ((f:Int)<0)=false:=decide_eq_false (by omega)
 have k2:((n:Int) == 0)=false:=by simp;omega
 have k3:decide (((n:Int) - 1) / 2<(f:Int))=false:=decide_eq_false (by omega)
 clear hc hin hr
 go_enter Tryz.func61,Tryz.ntmps61
 go_wp2_with fail
 refine (beyond_any _).mono ?_
 rintro e w1 ⟨rfl,rfl⟩
 go_wp2_with fail
 refine hfa.mono ?_
 rintro e w2 ⟨rfl,hb2⟩
 go_wp2
 go_ret2
 exact ⟨rfl,hb2⟩
theorem mid_ok (a:Option Addr) (cap:Nat) (l:List Int) (f:Nat) (w:World) (hr:IntRow w a l) (hn:l.length≤20000) (h:2*f+1≤l.length) (hin:l.any far=false) :
  Calls Tryz.prog 61 #[.slice a l.length cap,.int .i64 f] w fun e w'=>e=.returned (.tuple #[.int .i64 (midOf l f),.nilIface])∧Below w.heap.size w w':=by
 obtain ⟨b,off,rfl,hb,hc⟩:=hr (by omega)
 have hfa:=far_any b off cap l.length l rfl hn w hb hc
 rw [hin] at hfa
 obtain ⟨n,hl⟩:∃ n,l.length=n:=⟨_,rfl⟩
 have hA:=rank_in hin (k:=f) (by omega)
 have hZ:=rank_in hin (k:=n - 1 - f) (by omega)
 have HM:Hid (midOf l f=(rank l f+rank l (n - 1 - f)) / 2):=by
  show _=_
  rw [midOf,hl]
 rw [hl] at hfa hn h ⊢
 have HC:Hid (∀ W:World,Below w.heap.size w W→Calls Tryz.prog 74 #[.slice (some ⟨b,off,none⟩) n cap] W fun e w'=>∃ g cp,e=.returned (.slice (some ⟨g,0,none⟩) n cp)∧W.heap.size≤g∧g<w'.heap.size∧Holds (Value.int .i64) w' g 0 l.toArray∧Below W.heap.size W w'):=fun W hW=>by
  refine (Tryz.slices_Clone_int b off n cap l W (by omega) (by omega) (fun j hj=>(hW.cell (p:=⟨b,off+j,none⟩) hb).trans (hc j hj))).mono ?_
  rintro e w1 ⟨v1,rfl,hown,hnn,hbel⟩
  rw [List.take_of_length_le (by omega)] at hown
  obtain ⟨g,cp,rfl,hbg,hgl,_,_,_,hH⟩:=Lib.holds_of_ownsRow hown hnn
  exact ⟨g,cp,rfl,hbg,hgl,hH,hbel⟩
 have k1:decide ((f:Int)<0)=false:=decide_eq_false (by omega)
 have k2:((n:Int) == 0)=false:=by simp;omega
 have k3:decide (((n:Int) - 1) / 2<(f:Int))=false:=decide_eq_false (by omega)
 obtain ⟨k,hk⟩:∃ k,n - 1 - f=k:=⟨_,rfl⟩
 rw [hk] at hZ HM
 have k4:(n:Int) - 1 - (f:Int)=(k:Int):=by omega
 have hkn:k<n:=by omega
 have hfn:f<n:=by omega
 have HL:Hid (l.length=n):=hl
 clear hc hin hr hl hk
 obtain ⟨p,hp⟩:∃ p,rank l f=p:=⟨_,rfl⟩
 obtain ⟨q,hq⟩:∃ q,rank l k=q:=⟨_,rfl⟩
 rw [hp] at hA HM
 rw [hq] at hZ HM
 have HP:Hid (rank l f=p):=hp
 have HQ:Hid (rank l k=q):=hq
 clear hp hq
 rw [HM.out]
 go_enter Tryz.func61,Tryz.ntmps61
 go_wp2_with fail
 refine (beyond_any _).mono ?_
 rintro e w1 ⟨rfl,rfl⟩
 go_wp2_with fail
 refine hfa.mono ?_
 rintro e w2 ⟨rfl,hb2⟩
 go_wp2_with fail
 refine (HC.out _ hb2).mono ?_
 rintro e w3 ⟨g,cp,rfl,hg,hgl,hH,hb3⟩
 have hb3':Below w.heap.size w w3:=below_then hb2 hb3
 have hS:=Tryz.slices_Sort_int g 0 cp l w3 hH hgl (by rw [HL.out];omega)
 rw [HL.out] at hS
 have HX:Hid (w.heap.size≤g∧Holds (Value.int .i64) w3 g 0 l.toArray):=⟨Nat.le_trans hb2.size hg,hH⟩
 clear hH hb2 hb3 hfa HC
 go_wp2_with fail
 refine hS.mono ?_
 rintro e w4 ⟨rfl,nn,os,hw4⟩
 obtain ⟨hcs,hb4⟩:=sorted_row hb3' HX.out.1 hgl HX.out.2 hw4
 have c1:w4.cell? ⟨g,f,none⟩=some (.int .i64 p):=by rw [hcs f (by rw [HL.out];exact hfn),HP.out]
 have c2:w4.cell? ⟨g,k,none⟩=some (.int .i64 q):=by rw [hcs k (by rw [HL.out];exact hkn),HQ.out]
 clear hcs hw4 HX hS
 have k5:(f:Int)<(n:Int):=by omega
 have k6:(k:Int)<(n:Int):=by omega
 go_wp2_with fail
 go_quiet (fail)
 all_goals go_wp2
 all_goals go_ret2
 all_goals exact ⟨rfl,below_drewN' hb4 _⟩
theorem mid_any (a:Option Addr) (cap:Nat) (l:List Int) (f:Int) (w:World) (hr:IntRow w a l) (hn:l.length≤20000) :
  Calls Tryz.prog 61 #[.slice a l.length cap,.int .i64 f] w fun e w'=>e=.returned (.tuple #[.int .i64 (midVal l f),errV (midErr l f)])∧Below w.heap.size w w':=by
 by_cases h:f<0∨(l.length:Int)<2*f+1
 ·rw [midVal_bad (by rw [midErr_1 h];decide),midErr_1 h]
  exact mid_arg a l.length cap f w hn h
 ·obtain ⟨k,rfl⟩:∃ k:Nat,f=(k:Int):=⟨f.toNat,by omega⟩
  cases h2:l.any far
  ·rw [midVal_ok (midErr_0 h h2),midErr_0 h h2,errV_0]
   exact mid_ok a cap l k w hr hn (by omega) h2
  ·rw [midVal_bad (by rw [midErr_2 h h2];decide),midErr_2 h h2]
   exact mid_range a cap l k w hr hn (by omega) h2
end
end Go.Proofs.YthccoinonjoleaaGreatDoor
