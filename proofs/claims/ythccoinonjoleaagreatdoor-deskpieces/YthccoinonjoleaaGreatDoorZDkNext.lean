import Derived.Test.YthccoinonjoleaaGreatDoorZR11
namespace Go.Proofs.YthccoinonjoleaaGreatDoor
open Go.RowKit
set_option maxRecDepth 100000
set_option maxHeartbeats 16000000
section
def sesA0:SesA:=⟨.slice none 0 0,.slice none 0 0,.slice none 0 0,.slice none 0 0,none,0,none,0,0⟩
theorem lt_of_blk {u:World} {b:Nat} {o:Obj} (h:u.heap[b]? = some o):b<u.heap.size:=(Array.getElem?_eq_some_iff.1 h).1
section
variable {w:World} {base S:Nat} {M O:List Nat} {st:DkS} {A:SesA} {N:Nat}
theorem drift_does (h:Ses w base S M O st A N) (n:List Int) (hn:n.length≤20000) (a:Option Addr) (cap:Nat) (tx:ByteArray) (hr:NumsIn w M a n) :
  Calls Tryz.prog 22 #[.pointer (some ⟨S,0,none⟩),.agg #[.slice a n.length cap,.string tx]] w (DoesP base S M O st N .drift_ n tx w):=by
 generalize hV:w.alloc (.cells #[.slice a n.length cap,.string tx] 71)=V
 have hB:Below w.heap.size w V:=hV▸(Below.refl _ w).alloc (Nat.le_refl _) _
 have x0:V.cell? ⟨w.heap.size,0,none⟩=some (.slice a n.length cap):=by rw [← hV];simp [go_sem]
 have hs:=h.below hB
 have c0:=cell_blk hs.blk (i:=13) rfl
 have z0:=soft_blk hs.blk (i:=13)
 have HS:Hid (Ses V base S M O st A N):=hs
 have HB:Hid (Below w.heap.size w V):=hB
 have HR:Hid (NumsIn w M a n):=hr
 have HNE:Hid (∀ b off,a=some ⟨b,off,none⟩→0<n.length→b≠S):=fun b off e h0=>hr.ne h e h0
 have HN:Hid (n.length≤20000):=hn
 clear hs h hr hn hB
 go_enter Tryz.func22,Tryz.ntmps22
 go_wp2_with fail
 refine bodyPost_ret (v:=.string Kd.drift_.name) (by simp [results,Tryz.results22,go_sem];rfl) rfl ?_
 have hd:=HS.out
 have hS:S∈M ++ O:=List.mem_append.2 (.inl hd.r.s)
 refine ⟨{ st with next:={ st.next with drifts:=n } },.ok Kd.drift_.name,M,O,{ A with da:=a,dc:=cap },⟨rfl,rfl⟩,rfl,(Foot.of_below HB.out).trans (foot_set hS _),?_,set_blk hd.blk _⟩
 have hr:=hd.rest (w':=V.setCell ⟨S,13,none⟩ (.slice a n.length cap)) (by simp) (fun c hc=>by simp only [set_other hc])
 have hrow:IntRow (V.setCell ⟨S,13,none⟩ (.slice a n.length cap)) a n:=fun h0=>by
  obtain ⟨b,off,e,hl,hc⟩:=HR.out.1.below HB.out h0
  have hne:=HNE.out b off e h0
  exact ⟨b,off,e,by simpa using hl,fun j hj=>(cell_other (.inl hne)).trans (hc j hj)⟩
 exact { hr.later (Nat.le_succ N) with rD:=hrow,bD:=fun b off e h0=>⟨(HR.out.2 b off e h0).1,by rw [set_other (HNE.out b off e h0)];obtain ⟨_,cs,fr,q⟩:=HR.out.2 b off e h0;exact ⟨cs,fr,(HB.out.block b (lt_of_blk q)).trans q⟩⟩,nD:=HN.out }
theorem mode_does (h:Ses w base S M O st A N) (n:List Int) (hn:n.length≤20000) (a:Option Addr) (cap:Nat) (tx:ByteArray) (hr:NumsIn w M a n) :
  Calls Tryz.prog 23 #[.pointer (some ⟨S,0,none⟩),.agg #[.slice a n.length cap,.string tx]] w (DoesP base S M O st N .mode_ n tx w):=by
 generalize hV:w.alloc (.cells #[.slice a n.length cap,.string tx] 71)=V
 have hB:Below w.heap.size w V:=hV▸(Below.refl _ w).alloc (Nat.le_refl _) _
 have x0:V.cell? ⟨w.heap.size,0,none⟩=some (.slice a n.length cap):=by rw [← hV];simp [go_sem]
 have hs:=h.below hB
 have c0:=cell_blk hs.blk (i:=14) rfl
 have z0:=soft_blk hs.blk (i:=14)
 have HS:Hid (Ses V base S M O st A N):=hs
 have HB:Hid (Below w.heap.size w V):=hB
 have HR:Hid (NumsIn w M a n):=hr
 have HNE:Hid (∀ b off,a=some ⟨b,off,none⟩→0<n.length→b≠S):=fun b off e h0=>hr.ne h e h0
 have HN:Hid (n.length≤20000):=hn
 clear hs h hr hn hB
 go_enter Tryz.func23,Tryz.ntmps23
 go_wp2_with fail
 refine bodyPost_ret (v:=.string Kd.mode_.name) (by simp [results,Tryz.results23,go_sem];rfl) rfl ?_
 have hd:=HS.out
 have hS:S∈M ++ O:=List.mem_append.2 (.inl hd.r.s)
 refine ⟨{ st with next:={ st.next with modes:=n } },.ok Kd.mode_.name,M,O,{ A with ma:=a,mc:=cap },⟨rfl,rfl⟩,rfl,(Foot.of_below HB.out).trans (foot_set hS _),?_,set_blk hd.blk _⟩
 have hr:=hd.rest (w':=V.setCell ⟨S,14,none⟩ (.slice a n.length cap)) (by simp) (fun c hc=>by simp only [set_other hc])
 have hrow:IntRow (V.setCell ⟨S,14,none⟩ (.slice a n.length cap)) a n:=fun h0=>by
  obtain ⟨b,off,e,hl,hc⟩:=HR.out.1.below HB.out h0
  have hne:=HNE.out b off e h0
  exact ⟨b,off,e,by simpa using hl,fun j hj=>(cell_other (.inl hne)).trans (hc j hj)⟩
 exact { hr.later (Nat.le_succ N) with rM:=hrow,bM:=fun b off e h0=>⟨(HR.out.2 b off e h0).1,by rw [set_other (HNE.out b off e h0)];obtain ⟨_,cs,fr,q⟩:=HR.out.2 b off e h0;exact ⟨cs,fr,(HB.out.block b (lt_of_blk q)).trans q⟩⟩,nM:=HN.out }
theorem help_does (h:Ses w base S M O st A N) (n:List Int) (v:Value) (tx:ByteArray) :
  Calls Tryz.prog 32 #[.pointer (some ⟨S,0,none⟩),.agg #[v,.string tx]] w (DoesP base S M O st N .help_ n tx w):=by
 have HS:Hid (∀ o:Obj,Ses (w.alloc o) base S M O st A N):=fun o=>h.alloc o
 clear h
 go_enter Tryz.func32,Tryz.ntmps32
 go_wp2_with fail
 go_ret
 exact ⟨st,.ok helpB,M,O,A,⟨rfl,rfl⟩,rfl,Foot.alloc _,(HS.out _).later (Nat.le_succ N)⟩
theorem clear_does (h:Ses w base S M O st A N) (n:List Int) (v:Value) (tx:ByteArray) :
  Calls Tryz.prog 31 #[.pointer (some ⟨S,0,none⟩),.agg #[v,.string tx]] w (DoesP base S M O st N .clear_ n tx w):=by
 generalize hV:w.alloc (.cells #[v,.string tx] 71)=V
 have hB:Below w.heap.size w V:=hV▸(Below.refl _ w).alloc (Nat.le_refl _) _
 have hnew:=newSession_any V
 generalize hU:V.alloc (.cells (sesCells 0 0 0 0 0 0 (.slice none 0 0) (.slice none 0 0) 1 none (.slice none 0 0) (.slice none 0 0) (.slice none 0 0) (.slice none 0 0)) 56)=U at hnew
 have hBU:Below V.heap.size V U:=hU▸(Below.refl _ V).alloc (Nat.le_refl _) _
 have hbn:U.heap[V.heap.size]? = some (.cells (sesCells 0 0 0 0 0 0 (.slice none 0 0) (.slice none 0 0) 1 none (.slice none 0 0) (.slice none 0 0) (.slice none 0 0) (.slice none 0 0)) 56 (0,0)):=by rw [← hU];exact heap_alloc_new V _
 have hs:=(h.below hB).below hBU
 have c0:=cell_blk hs.blk (i:=0) rfl
 have z0:=soft_blk hs.blk (i:=0)
 have c1:=cell_blk hs.blk (i:=1) rfl
 have z1:=soft_blk hs.blk (i:=1)
 have c2:=cell_blk hs.blk (i:=2) rfl
 have z2:=soft_blk hs.blk (i:=2)
 have c3:=cell_blk hs.blk (i:=3) rfl
 have z3:=soft_blk hs.blk (i:=3)
 have c4:=cell_blk hs.blk (i:=4) rfl
 have z4:=soft_blk hs.blk (i:=4)
 have c5:=cell_blk hs.blk (i:=5) rfl
 have z5:=soft_blk hs.blk (i:=5)
 have c6:=cell_blk hs.blk (i:=6) rfl
 have z6:=soft_blk hs.blk (i:=6)
 have c7:=cell_blk hs.blk (i:=7) rfl
 have z7:=soft_blk hs.blk (i:=7)
 have c8:=cell_blk hs.blk (i:=8) rfl
 have z8:=soft_blk hs.blk (i:=8)
 have c9:=cell_blk hs.blk (i:=9) rfl
 have z9:=soft_blk hs.blk (i:=9)
 have c10:=cell_blk hs.blk (i:=10) rfl
 have z10:=soft_blk hs.blk (i:=10)
 have c11:=cell_blk hs.blk (i:=11) rfl
 have z11:=soft_blk hs.blk (i:=11)
 have c12:=cell_blk hs.blk (i:=12) rfl
 have z12:=soft_blk hs.blk (i:=12)
 have c13:=cell_blk hs.blk (i:=13) rfl
 have z13:=soft_blk hs.blk (i:=13)
 have c14:=cell_blk hs.blk (i:=14) rfl
 have z14:=soft_blk hs.blk (i:=14)
 have x0:U.cell? ⟨V.heap.size,0,none⟩=some (.int .i64 0):=cell_blk hbn (i:=0) rfl
 have x1:U.cell? ⟨V.heap.size,1,none⟩=some (.int .i64 0):=cell_blk hbn (i:=1) rfl
 have x2:U.cell? ⟨V.heap.size,2,none⟩=some (.int .i64 0):=cell_blk hbn (i:=2) rfl
 have x3:U.cell? ⟨V.heap.size,3,none⟩=some (.int .i64 0):=cell_blk hbn (i:=3) rfl
 have x4:U.cell? ⟨V.heap.size,4,none⟩=some (.int .i64 0):=cell_blk hbn (i:=4) rfl
 have x5:U.cell? ⟨V.heap.size,5,none⟩=some (.int .i64 0):=cell_blk hbn (i:=5) rfl
 have x6:U.cell? ⟨V.heap.size,6,none⟩=some (.slice none 0 0):=cell_blk hbn (i:=6) rfl
 have x7:U.cell? ⟨V.heap.size,7,none⟩=some (.slice none 0 0):=cell_blk hbn (i:=7) rfl
 have x8:U.cell? ⟨V.heap.size,8,none⟩=some (.int .i64 1):=cell_blk hbn (i:=8) rfl
 have x9:U.cell? ⟨V.heap.size,9,none⟩=some (.slice none 0 0):=cell_blk hbn (i:=9) rfl
 have x10:U.cell? ⟨V.heap.size,10,none⟩=some (.pointer none):=cell_blk hbn (i:=10) rfl
 have x11:U.cell? ⟨V.heap.size,11,none⟩=some (.slice none 0 0):=cell_blk hbn (i:=11) rfl
 have x12:U.cell? ⟨V.heap.size,12,none⟩=some (.slice none 0 0):=cell_blk hbn (i:=12) rfl
 have x13:U.cell? ⟨V.heap.size,13,none⟩=some (.slice none 0 0):=cell_blk hbn (i:=13) rfl
 have x14:U.cell? ⟨V.heap.size,14,none⟩=some (.slice none 0 0):=cell_blk hbn (i:=14) rfl
 have hne:V.heap.size≠S:=by have:=(h.below hB).r.hi S h.r.s;omega
 have HS:Hid (Ses U base S M O st A N):=hs
 have HB:Hid (Foot (M ++ O) (M ++ O) w U):=(Foot.of_below hB).trans (Foot.of_below hBU)
 clear hs h hB hBU hbn hU
 go_enter Tryz.func31,Tryz.ntmps31
 go_wp2_with fail
 refine hnew.mono ?_
 rintro e u1 ⟨rfl,rfl⟩
 go_wp2_with fail
 go_ret
 have hd:=HS.out
 have hS:S∈M ++ O:=List.mem_append.2 (.inl hd.r.s)
 obtain ⟨U,hU⟩:∃ U,U=(((((((((((((((u1.setCell ⟨S,0,none⟩ (.int .i64 0)).setCell ⟨S,1,none⟩ (.int .i64 0)).setCell ⟨S,2,none⟩ (.int .i64 0)).setCell ⟨S,3,none⟩ (.int .i64 0)).setCell ⟨S,4,none⟩ (.int .i64 0)).setCell ⟨S,5,none⟩ (.int .i64 0)).setCell ⟨S,6,none⟩ (.slice none 0 0)).setCell ⟨S,7,none⟩ (.slice none 0 0)).setCell ⟨S,8,none⟩ (.int .i64 1)).setCell ⟨S,9,none⟩ (.slice none 0 0)).setCell ⟨S,10,none⟩ (.pointer none)).setCell ⟨S,11,none⟩ (.slice none 0 0)).setCell ⟨S,12,none⟩ (.slice none 0 0)).setCell ⟨S,13,none⟩ (.slice none 0 0)).setCell ⟨S,14,none⟩ (.slice none 0 0)):=⟨_,rfl⟩
 rw [← hU]
 have hfo:Foot (M ++ O) (M ++ O) w U:=by rw [hU];exact (((((((((((((((HB.out.trans (foot_set hS _)).trans (foot_set hS _)).trans (foot_set hS _)).trans (foot_set hS _)).trans (foot_set hS _)).trans (foot_set hS _)).trans (foot_set hS _)).trans (foot_set hS _)).trans (foot_set hS _)).trans (foot_set hS _)).trans (foot_set hS _)).trans (foot_set hS _)).trans (foot_set hS _)).trans (foot_set hS _)).trans (foot_set hS _))
 have hb:U.heap[S]? = some (.cells (DkS.start.cells sesA0) 56 (0,0)):=by
  rw [hU]
  have hb:=(set_blk (i:=14) (set_blk (i:=13) (set_blk (i:=12) (set_blk (i:=11) (set_blk (i:=10) (set_blk (i:=9) (set_blk (i:=8) (set_blk (i:=7) (set_blk (i:=6) (set_blk (i:=5) (set_blk (i:=4) (set_blk (i:=3) (set_blk (i:=2) (set_blk (i:=1) (set_blk (i:=0) hd.blk (.int .i64 0)) (.int .i64 0)) (.int .i64 0)) (.int .i64 0)) (.int .i64 0)) (.int .i64 0)) (.slice none 0 0)) (.slice none 0 0)) (.int .i64 1)) (.slice none 0 0)) (.pointer none)) (.slice none 0 0)) (.slice none 0 0)) (.slice none 0 0)) (.slice none 0 0))
  simp only [DkS.cells,sesCells,List.setIfInBounds_toArray,List.set_cons_zero,List.set_cons_succ] at hb
  exact hb
 have hsz:U.heap.size=u1.heap.size:=by rw [hU];simp
 have hot:∀ c,c≠S→U.heap[c]? = u1.heap[c]?:=fun c hc=>by rw [hU];simp only [set_other hc]
 clear hU
 refine ⟨DkS.start,.ok Kd.clear_.name,M,O,sesA0,⟨rfl,rfl⟩,rfl,hfo,?_,hb⟩
 have hr:=hd.rest hsz hot
 exact { s:=hr.s,lo:=hr.lo,hi:=hr.hi,loO:=hr.loO,hiO:=hr.hiO,ap:=hr.ap,oS:=⟨rfl,.inl ⟨rfl,rfl⟩⟩,oL:=⟨rfl,.inl ⟨rfl,rfl⟩⟩,oO:=⟨rfl,.inl ⟨rfl,rfl⟩⟩,oR:=⟨rfl,.inl ⟨rfl,rfl⟩⟩,bS:=fun _ h=>(by cases h),bL:=fun _ h=>(by cases h),bO:=fun _ h=>(by cases h),bR:=fun _ h=>(by cases h),rD:=fun h=>absurd h (Nat.lt_irrefl _),rM:=fun h=>absurd h (Nat.lt_irrefl _),bD:=fun _ _ h=>(by cases h),bM:=fun _ _ h=>(by cases h),nw:=rfl,iL:=fun _ h=>absurd h (Nat.not_lt_zero _),iO:=fun _ h=>absurd h (Nat.not_lt_zero _),ns:=Nat.zero_le _,nl:=Nat.zero_le _,nL:=Nat.zero_le _,nR:=Nat.zero_le _,nD:=Nat.zero_le _,nM:=Nat.zero_le _,clu:=fun _ _ _ _ _ h=>(by cases h) }
end
end
end Go.Proofs.YthccoinonjoleaaGreatDoor
