import Derived.Test.YthccoinonjoleaaGreatDoorZDkRun
namespace Go.Proofs.YthccoinonjoleaaGreatDoor
open Go.RowKit
set_option maxRecDepth 100000
set_option maxHeartbeats 16000000
section
open Go.RowKit Go.Shelf
attribute [local go_sem] Oper.semAt_some
theorem Ses.first {w:World} {S:Nat} (hb:w.heap[S]? = some (.cells (sesCells 0 0 0 0 0 0 (.slice none 0 0) (.slice none 0 0) 1 none (.slice none 0 0) (.slice none 0 0) (.slice none 0 0) (.slice none 0 0)) 56 (0,0))):Ses w S S [S] [] DkS.start sesA0 0:=by
 refine ⟨?_,hb⟩
 exact { s:=List.mem_cons_self,lo:=fun c h=>Nat.le_of_eq (List.mem_singleton.1 h).symm,hi:=fun c h=>by rw [List.mem_singleton.1 h];exact lt_of_blk hb,loO:=fun c h=>(by cases h),hiO:=fun c h=>(by cases h),ap:=fun c h=>(by cases h),oS:=⟨rfl,.inl ⟨rfl,rfl⟩⟩,oL:=⟨rfl,.inl ⟨rfl,rfl⟩⟩,oO:=⟨rfl,.inl ⟨rfl,rfl⟩⟩,oR:=⟨rfl,.inl ⟨rfl,rfl⟩⟩,bS:=fun _ h=>(by cases h),bL:=fun _ h=>(by cases h),bO:=fun _ h=>(by cases h),bR:=fun _ h=>(by cases h),rD:=fun h=>absurd h (Nat.lt_irrefl _),rM:=fun h=>absurd h (Nat.lt_irrefl _),bD:=fun _ _ h=>(by cases h),bM:=fun _ _ h=>(by cases h),nw:=rfl,iL:=fun _ h=>absurd h (Nat.not_lt_zero _),iO:=fun _ h=>absurd h (Nat.not_lt_zero _),ns:=Nat.zero_le _,nl:=Nat.zero_le _,nL:=Nat.zero_le _,nR:=Nat.zero_le _,nD:=Nat.zero_le _,nM:=Nat.zero_le _,clu:=fun _ _ _ _ _ h=>(by cases h) }
theorem lines_call (text:ByteArray) (w:World):Calls Tryz.prog 8 #[.string text] w fun e w'=>e=.returned (.func (.func 33) #[] #[.pointer (some ⟨w.heap.size,0,none⟩)])∧w'=w.alloc (.cells #[.string text] 9):=by
 have hmf:=Tryz.mfD
 go_enter Tryz.func8,Tryz.ntmps8
 go_wp2
 go_ret
 exact ⟨rfl,rfl⟩
theorem session_any (text:ByteArray) (h:text.size≤3000) (w:World) (hw:DeskW w.heap.size w):Calls Tryz.prog 4 #[.string text] w fun e w'=>∃ os st,RunsIs DkS.start (linesOf text) os st∧(∀ o∈os,o.size≤500)∧e=.returned (.string ⟨(tellL os).toArray⟩)∧Below w.heap.size w w':=by
 have hmf:=Tryz.mfD
 have hN:=newSession_any w
 have hlen:decide ((20000:Int)<text.size)=false:=decide_eq_false (by omega)
 refine (callsIn_wide (n:=3)).1 ?_
 refine callsIn_of_wp_marks Tryz.func4 rfl trivial ?_ rfl
 simp only [Tryz.ntmps4,List.size_toArray,List.length_cons,List.length_nil,Nat.reduceAdd,Nat.reduceSub,Array.replicate_succ,Array.replicate_zero,List.push_toArray,List.append_toArray,List.nil_append,List.cons_append]
 gi_wp2_with fail
 refine ⟨trivial,(callsIn_wide.2 hN).mono ?_⟩
 rintro e w1 ⟨rfl,hw1⟩
 have hb1:Below w.heap.size w w1:=hw1▸(Below.refl _ w).alloc (Nat.le_refl _) _
 have hblk:w1.heap[w.heap.size]? = some (.cells (sesCells 0 0 0 0 0 0 (.slice none 0 0) (.slice none 0 0) 1 none (.slice none 0 0) (.slice none 0 0) (.slice none 0 0) (.slice none 0 0)) 56 (0,0)):=by rw [hw1];exact heap_alloc_new w _
 have HW1:Hid (w1.heap.size=w.heap.size+1):=by rw [hw1];simp [Hid]
 clear hw1 hN
 gi_wp2_with fail
 generalize hw2:w1.alloc (.cells #[.pointer (some ⟨w.heap.size,0,none⟩)] 26)=w2
 have hK:=kinds_any w.heap.size w2
 have HB2:Hid (Below w1.heap.size w1 w2):=hw2▸(Below.refl _ w1).alloc (Nat.le_refl _) _
 have hs2:w2.heap[w1.heap.size]? = some (.cells #[.pointer (some ⟨w.heap.size,0,none⟩)] 26 (0,0)):=by rw [← hw2];exact heap_alloc_new w1 _
 refine ⟨trivial,(callsIn_wide.2 hK).mono ?_⟩
 rintro e w3 ⟨kb,rfl,hkb,hKi,hb3⟩
 have HB3:Hid (Below w2.heap.size w2 w3):=hb3
 have HKi:Hid (KindsAt w3 kb w.heap.size):=hKi
 clear hb3 hKi hK
 gi_wp2_with fail
 generalize hw4:w3.alloc (.cells #[.map (some kb)] 28)=w4
 generalize hw5:w4.alloc (.cells #[.pointer none,.slice none 0 0] 33)=w5
 have hL:=lines_call text w5
 refine ⟨trivial,(callsIn_wide.2 hL).mono ?_⟩
 rintro e w6 ⟨rfl,hw6⟩
 have HB4:Hid (Below w3.heap.size w3 w4):=hw4▸(Below.refl _ w3).alloc (Nat.le_refl _) _
 have HB5:Hid (Below w4.heap.size w4 w5):=hw5▸(Below.refl _ w4).alloc (Nat.le_refl _) _
 have HB6:Hid (Below w5.heap.size w5 w6):=hw6▸(Below.refl _ w5).alloc (Nat.le_refl _) _
 have k4:w4.heap[w3.heap.size]? = some (.cells #[.map (some kb)] 28 (0,0)):=by rw [← hw4];exact heap_alloc_new w3 _
 have k5:w5.heap[w4.heap.size]? = some (.cells #[.pointer none,.slice none 0 0] 33 (0,0)):=by rw [← hw5];exact heap_alloc_new w4 _
 have k6:w6.heap[w5.heap.size]? = some (.cells #[.string text] 9 (0,0)):=by rw [hw6];exact heap_alloc_new w5 _
 have z4:w4.heap.size=w3.heap.size+1:=by rw [← hw4];simp
 have z5:w5.heap.size=w4.heap.size+1:=by rw [← hw5];simp
 have z6:w6.heap.size=w5.heap.size+1:=by rw [hw6];simp
 have b12:=HB2.out
 have b3:=HB3.out
 have b23:Below w1.heap.size w1 w3:=b12.trans (b3.mono b12.size)
 have b24:Below w1.heap.size w1 w4:=b23.trans (HB4.out.mono b23.size)
 have b25:Below w1.heap.size w1 w5:=b24.trans (HB5.out.mono b24.size)
 have b26:Below w1.heap.size w1 w6:=b25.trans (HB6.out.mono b25.size)
 have b36:Below w3.heap.size w3 w6:=(HB4.out.trans (HB5.out.mono HB4.out.size)).trans (HB6.out.mono (HB4.out.trans (HB5.out.mono HB4.out.size)).size)
 have b46:Below w4.heap.size w4 w6:=HB5.out.trans (HB6.out.mono HB5.out.size)
 have h1:=HW1.out
 have h3:=b3.size
 have hkl:=HKi.out.lt
 have hs2':=lt_of_blk hs2
 have HI0:Hid (RunI w w.heap.size w.heap.size w1.heap.size w3.heap.size kb (w3.heap.size+1) w6.heap.size [] w6):=by
  refine ⟨[],DkS.start,[w.heap.size],[],sesA0,.slice none 0 0,.nil _,rfl,fun o ho=>(by cases ho),DkS.Small.start,?_⟩
  exact {
      ses:=Ses.first ((b26.block _ (lt_of_blk hblk)).trans hblk)
      bld:=⟨⟨_,.inl rfl,by rw [← z4];exact (HB6.out.block _ (lt_of_blk k5)).trans k5⟩,World.ownsRow_nil _ _ _ _⟩
      kin:=HKi.out.keep (b36.block _ hkl)
      cs:=cell_blk (((b3.trans (b36.mono b3.size)).block _ hs2').trans hs2) rfl
      cx:=cell_blk ((b46.block _ (lt_of_blk k4)).trans k4) rfl
      bel:=hb1.trans (b26.mono hb1.size)
      b0:=Nat.le_refl _
      b1:=by omega
      l1:=by omega
      l2:=by omega
      l3:=by omega
      l4:=Nat.le_refl _
      lo:=by omega
      d1:=fun c hc q=>by
       simp only [Bld.foot,Value.ownBlock,Option.toList,List.append_nil,List.mem_cons,List.not_mem_nil,or_false] at hc q
       omega
      d2:=fun c hc q=>by
       simp only [Bld.foot,Value.ownBlock,Option.toList,List.mem_cons,List.not_mem_nil,or_false] at hc q
       omega }
 have hG:=lines_gives 2 w5.heap.size text (by omega) w6 (lt_of_blk k6) (cell_blk k6 rfl)
 have HH:Hid (w.heap.size≤w6.heap.size):=by show w.heap.size≤w6.heap.size;omega
 clear z4 z5 z6 h1 hw4 hw5 hw6 HB4 HB5 HB6 k4 k5 k6 b12 b3 b23 b24 b25 b26 b36 b46 hblk hs2 hkb HKi HB2 HB3 hL h3 hkl hs2' hw2 hb1
 gi_wp2_with fail
 have hDW:DeskW w.heap.size w:=hw
 refine wpIn_range_two (α:=ByteArray) rfl (by decide) (gf:=33) (lb:=#[.pointer (some ⟨w5.heap.size,0,none⟩)]) rfl trivial (enters_of Tryz.func33 (by kernel_rfl) rfl) hG (fun _=>rfl)
  (RunI w w.heap.size w.heap.size w1.heap.size w3.heap.size kb (w3.heap.size+1) w6.heap.size) ?_ ?_ HI0.out
  (fun x=>{ tmps:=#[.string text,undef,.string ⟨#[]⟩,.pointer (some ⟨w1.heap.size,0,none⟩),.pointer (some ⟨w3.heap.size,0,none⟩),.pointer (some ⟨w3.heap.size+1,0,none⟩),.string x,.string text,.int .i64 text.size,.bool false,undef,undef,.pointer (some ⟨w.heap.size,0,none⟩),.pointer (some ⟨w.heap.size,0,none⟩),.map (some kb),.string text,.func (.func 33) #[] #[.pointer (some ⟨w5.heap.size,0,none⟩)],.string x,undef,undef,undef,undef,undef,undef,undef],defers:=[] }) ?assign ?body ?done
 ·rintro pre B1 B2 ⟨os,st,M,O,A,v,q1,q2,q3,q4,q5⟩ hb
  exact ⟨os,st,M,O,A,v,q1,q2,q3,q4,q5.below hb⟩
 ·rintro pre B1 o ⟨os,st,M,O,A,v,q1,q2,q3,q4,q5⟩ _
  exact ⟨os,st,M,O,A,v,q1,q2,q3,q4,q5.put o⟩
 case assign =>
  intro l x W K hK
  gi_wp2
  exact hK
 case body =>
  rintro l pre x W ⟨os,st,M,O,A,v,q1,q2,q3,q4,q5⟩ hpre hD1
  have hxs:x∈linesOf text:=hpre.subset (by simp)
  have hx:=linesOf_mem hxs
  have hll:=linesOf_len text
  have hpl:=hpre.length_le
  rw [List.length_append,List.length_cons,List.length_nil] at hpl
  have c1:=q5.cs
  have c2:=q5.cx
  have hA:=answer_any q5.ses q5.kin (hDW.below q5.bel) q4 (by omega) x (by omega)
  have HQ:Hid (RunsIs DkS.start pre os st∧os.length=pre.length∧(∀ o∈os,o.size≤500)∧SI w w.heap.size w.heap.size w1.heap.size w3.heap.size kb (w3.heap.size+1) w6.heap.size st M O A pre.length v (tellL os) W):=⟨q1,q2,q3,q5⟩
  clear q1 q2 q3 q4 q5 hG hpre hxs
  gi_wp2_with fail
  refine ⟨trivial,(CallsIn.inRound l (callsIn_wide.2 hA)).mono ?_⟩
  rintro e W1 ⟨st',out,M',O',A',r1,r2,r3,rfl,r4,r5⟩
  obtain ⟨p1,p2,p3,p4⟩:=HQ.out
  obtain ⟨s1,s2,s3⟩:=p4.ans hD1 r4 r5
  have hlen1:=tellL_len os p3
  have hW1:=writeString_any s1.bld (Nat.le_trans s1.lo s1.l4) out (by omega)
  have HR:Hid (LineIs st x st' out∧out.size≤500∧st'.Small):=⟨r1,r2,r3⟩
  have HS1:Hid (SI w w.heap.size w.heap.size w1.heap.size w3.heap.size kb (w3.heap.size+1) w6.heap.size st' M' O' A' (pre.length+1) v (tellL os) W1∧W.heap.size≤W1.heap.size∧W1.heap[w6.heap.size]? = W.heap[w6.heap.size]?∧W1.heap[w6.heap.size+1]? = W.heap[w6.heap.size+1]?):=⟨s1,r4.size,s2,s3⟩
  have hos:os.length=pre.length:=p2
  have hr2:out.size≤500:=r2
  clear p1 p2 p3 p4 s1 s2 s3 r1 r2 r3 r4 r5 hA c1 c2
  gi_wp2_with fail
  refine ⟨trivial,(CallsIn.inRound l (callsIn_wide.2 hW1)).mono ?_⟩
  rintro e W2 ⟨v2,rfl,hb2,hf2⟩
  obtain ⟨t1,t2⟩:=HS1.out.1.wrote (by have:=HS1.out.2.1;omega) hf2 hb2
  have hW2:=writeString_any t1.bld (Nat.le_trans t1.lo t1.l4) ⟨#[10]⟩ (by
   have:(⟨#[10]⟩:ByteArray).size=1:=rfl
   have h3:out.data.toList.length=out.size:=Array.length_toList
   rw [List.length_append]
   omega)
  have HS2:Hid (SI w w.heap.size w.heap.size w1.heap.size w3.heap.size kb (w3.heap.size+1) w6.heap.size st' M' O' A' (pre.length+1) v2 (tellL os ++ out.data.toList) W2∧W1.heap.size≤W2.heap.size∧W2.heap[w6.heap.size]? = W1.heap[w6.heap.size]?∧W2.heap[w6.heap.size+1]? = W1.heap[w6.heap.size+1]?):=⟨t1,hf2.size,t2⟩
  clear t1 t2 hb2 hf2 hW1
  gi_wp2_with fail
  refine ⟨trivial,(CallsIn.inRound l (callsIn_wide.2 hW2)).mono ?_⟩
  rintro e W3 ⟨v3,rfl,hb3,hf3⟩
  have HS3:=HS2.out.1.wrote (by have:=HS1.out.2.1;have:=HS2.out.2.1;omega) hf3 hb3
  have HF3:Hid (W2.heap.size≤W3.heap.size∧SI w w.heap.size w.heap.size w1.heap.size w3.heap.size kb (w3.heap.size+1) w6.heap.size st' M' O' A' (pre.length+1) v3 ((tellL os ++ out.data.toList) ++ [10]) W3∧W3.heap[w6.heap.size]? = W2.heap[w6.heap.size]?∧W3.heap[w6.heap.size+1]? = W2.heap[w6.heap.size+1]?):=⟨hf3.size,HS3⟩
  clear HS3 hb3 hf3 hW2
  gi_wp2_with fail
  obtain ⟨z1,z2,z3,z4⟩:=HS1.out
  obtain ⟨y1,y2,y3,y4⟩:=HS2.out
  obtain ⟨x1,x2,x3,x4⟩:=HF3.out
  obtain ⟨p1,p2,p3,p4⟩:=HQ.out
  obtain ⟨r1,r2,r3⟩:=HR.out
  refine ⟨by omega,x3.trans (y3.trans z3),(x4.trans (y4.trans z4)).trans (Array.getElem?_eq_getElem hD1),?_⟩
  refine ⟨os ++ [out],st',M',O',A',v3,p1.snoc r1,by simp [p2],fun o ho=>?_,r3,?_⟩
  ·rcases List.mem_append.1 ho with q | q
   ·exact p3 o q
   ·rw [List.mem_singleton.1 q];exact r2
  ·rw [tellL_snoc,List.length_append]
   exact x2
 case done =>
  rintro W ⟨os,st,M,O,A,v,q1,q2,q3,q4,q5⟩ hdf
  have hS:=string_any q5.bld q5.b1 (Nat.le_trans q5.lo q5.l4)
  have HQ:Hid (RunsIs DkS.start (linesOf text) os st∧(∀ o∈os,o.size≤500)∧Below w.heap.size w W):=⟨q1,q3,q5.bel⟩
  have HDf:Hid (W.heap[w6.heap.size]? = some (.deferred (some []))∧w.heap.size≤w6.heap.size):=⟨hdf,HH.out⟩
  clear q1 q2 q3 q4 q5 hG hdf
  gi_wp2_with fail
  refine ⟨trivial,(callsIn_wide.2 hS).mono ?_⟩
  rintro e W1 ⟨rfl,hb,hdd⟩
  have HB:Hid (Below w.heap.size W W1):=hb
  have HK:Hid (W1.heap[w6.heap.size]? = some (.deferred (some []))):=hdd _ _ HDf.out.1
  clear hb hdd
  gi_wp2_with fail
  refine ⟨by simp,.inl ⟨_,_,rfl,run_takeDeferred HK.out,?_⟩⟩
  refine ⟨_,results_tmp rfl _ _ _,os,st,HQ.out.1,HQ.out.2.1,rfl,?_⟩
  have hbb:=HQ.out.2.2.trans HB.out
  exact ⟨hbb.os,hbb.tape,hbb.output,by simpa [World.putObj] using hbb.size,fun c hc=>(put_other (by have:=HDf.out.2;omega)).trans (hbb.block c hc)⟩
end
end Go.Proofs.YthccoinonjoleaaGreatDoor
