import Derived.Test.YthccoinonjoleaaGreatDoorZR16
namespace Go.Proofs.YthccoinonjoleaaGreatDoor
open Go.RowKit
set_option maxRecDepth 100000
set_option maxHeartbeats 16000000
section
section
variable {w V u:World} {base S:Nat} {M O O':List Nat} {st:DkS} {A:SesA} {N:Nat}
theorem Ses.roundIn (h:Ses w base S M O st A N) (hN:N≤100000):∃ a:RoundAt,A.vO=.slice a.la st.next.nL a.lc∧A.vR=.slice a.ra st.next.nR a.rc∧a.da=A.da∧a.dc=A.dc∧a.ma=A.ma∧a.mc=A.mc∧st.next.In a w:=by
 obtain ⟨la,lc,e1,r1,_⟩:=owns_tri h.r.oO
 obtain ⟨ra,rc,e2,r2,_⟩:=owns_tri h.r.oR
 have h1:=h.r.nL
 have h2:=h.r.nR
 have h3:=h.r.nD
 have h4:=h.r.nM
 exact ⟨⟨la,lc,ra,rc,A.da,A.dc,A.ma,A.mc⟩,e1,e2,rfl,rfl,rfl,rfl,r1,r2,h.r.rD,h.r.rM,h.r.iO,by omega,by omega,by omega,by omega⟩
def SesA.forgot (A:SesA):SesA:={ A with vO:=.slice none 0 0,vR:=.slice none 0 0,da:=none,dc:=0,ma:=none,mc:=0 }
theorem Ses.forgets (h:Ses u base S M O st A N) :
  Ses ((((u.setCell ⟨S,11,none⟩ (.slice none 0 0)).setCell ⟨S,12,none⟩ (.slice none 0 0)).setCell ⟨S,13,none⟩ (.slice none 0 0)).setCell ⟨S,14,none⟩ (.slice none 0 0)) base S M O { st with next:=RoundN.none } A.forgot N:=by
 have hr:=h.rest (w':=((((u.setCell ⟨S,11,none⟩ (.slice none 0 0)).setCell ⟨S,12,none⟩ (.slice none 0 0)).setCell ⟨S,13,none⟩ (.slice none 0 0)).setCell ⟨S,14,none⟩ (.slice none 0 0))) (by simp) (fun c hc=>by simp only [set_other hc])
 refine ⟨?_,?_⟩
 ·exact {
      s:=hr.s
      lo:=hr.lo
      hi:=hr.hi
      loO:=hr.loO
      hiO:=hr.hiO
      ap:=hr.ap
      oS:=hr.oS
      oL:=hr.oL
      oO:=World.ownsRow_nil _ _ _ _
      oR:=World.ownsRow_nil _ _ _ _
      bS:=hr.bS
      bL:=hr.bL
      bO:=fun g e=>(by cases e)
      bR:=fun g e=>(by cases e)
      rD:=fun q=>absurd q (Nat.lt_irrefl _)
      rM:=fun q=>absurd q (Nat.lt_irrefl _)
      bD:=fun _ _ e=>(by cases e)
      bM:=fun _ _ e=>(by cases e)
      nw:=hr.nw
      iL:=hr.iL
      iO:=fun k q=>absurd q (Nat.not_lt_zero _)
      ns:=hr.ns
      nl:=hr.nl
      nL:=Nat.zero_le _
      nR:=Nat.zero_le _
      nD:=Nat.zero_le _
      nM:=Nat.zero_le _
      clu:=hr.clu }
 ·exact set_blk (set_blk (set_blk (set_blk h.blk _) _) _) _
theorem foot_forgets {X:List Nat} (hS:S∈X):Foot X X u ((((u.setCell ⟨S,11,none⟩ (.slice none 0 0)).setCell ⟨S,12,none⟩ (.slice none 0 0)).setCell ⟨S,13,none⟩ (.slice none 0 0)).setCell ⟨S,14,none⟩ (.slice none 0 0)) :=
 (((foot_set hS _).trans (foot_set hS _)).trans (foot_set hS _)).trans (foot_set hS _)
theorem round_does (h:Ses w base S M O st A N) (hD:DeskW base w) {fa:Int} {cs:List Int} {c:ClS} {rd:Int} {T:Nat} (hcl:st.clu=some (fa,cs,c,rd,T)) (hN:N≤3000) (n:List Int) (v:Value) (tx:ByteArray) :
  Calls Tryz.prog 24 #[.pointer (some ⟨S,0,none⟩),.agg #[v,.string tx]] w (DoesP base S M O st N .round_ n tx w):=by
 generalize hV:w.alloc (.cells #[v,.string tx] 71)=V
 have hB:Below w.heap.size w V:=hV▸(Below.refl _ w).alloc (Nat.le_refl _) _
 have hs:=h.below hB
 obtain ⟨ra,eO,eR,eDa,eDc,eMa,eMc,hin⟩:=hs.roundIn (by omega)
 have c0:V.cell? ⟨S,10,none⟩=some (.pointer (some ⟨A.C,0,none⟩)):=by
  have:V.cell? ⟨S,10,none⟩=some (.pointer (st.clu.map fun _=>⟨A.C,0,none⟩)):=cell_blk hs.blk (i:=10) rfl
  rw [hcl] at this
  exact this
 have c1:V.cell? ⟨S,11,none⟩=some (.slice ra.la st.next.nL ra.lc):=(cell_blk hs.blk (i:=11) rfl).trans (congrArg some eO)
 have c2:V.cell? ⟨S,12,none⟩=some (.slice ra.ra st.next.nR ra.rc):=(cell_blk hs.blk (i:=12) rfl).trans (congrArg some eR)
 have c3:V.cell? ⟨S,13,none⟩=some (.slice ra.da st.next.drifts.length ra.dc):=by rw [eDa,eDc];exact cell_blk hs.blk (i:=13) rfl
 have c4:V.cell? ⟨S,14,none⟩=some (.slice ra.ma st.next.modes.length ra.mc):=by rw [eMa,eMc];exact cell_blk hs.blk (i:=14) rfl
 obtain ⟨hcu,hTN⟩:=hs.r.clu fa cs c rd T hcl
 have hcd:Clu (V.drewN 1) O A.C st.plan fa cs c rd T:=cluOps.keep hcu (Same.of_below (bdN V 1) (cluOps.lt hcu))
 have hbS:base≤V.heap.size:=Nat.le_trans (hs.r.lo S hs.r.s) (Nat.le_of_lt (hs.r.hi S hs.r.s))
 have hbw:base≤w.heap.size:=Nat.le_trans (h.r.lo S h.r.s) (Nat.le_of_lt (h.r.hi S h.r.s))
 have HDV:Hid (DeskW base V):=hD.below (hB.mono hbw)
 have hSV:=hs.r.hi S hs.r.s
 have hSO:S∉O:=fun q=>h.r.ap S q h.r.s
 have hSM:S∈M:=h.r.s
 have hrd:=(cluOps.ok hcu).2
 have HC:Hid (Calls Tryz.prog 54 #[.pointer (some ⟨A.C,0,none⟩),st.next.val ra] (V.drewN 1) fun e u=>∃ k O',e=.returned (errV k)∧Foot O O' V u∧((k=0→∀ u',Below u.heap.size u u'→u'.heap[S]? = some (.cells (st.cells A) 56 (0,0))∧(∀ u2,u2=((((u'.setCell ⟨S,11,none⟩ (.slice none 0 0)).setCell ⟨S,12,none⟩ (.slice none 0 0)).setCell ⟨S,13,none⟩ (.slice none 0 0)).setCell ⟨S,14,none⟩ (.slice none 0 0))→Desk0 u2∧(∀ u3,Below u2.heap.size u2 u3→Desk0 u3)∧(Calls Tryz.prog 55 #[.pointer (some ⟨A.C,0,none⟩)] u2 fun e w'=>e=.returned (.int .i64 (rd+1))∧Below u2.heap.size u2 w')∧∀ u3,Below u2.heap.size u2 u3→DoesP base S M O st N .round_ n tx w (.returned (.string (itoaB (rd+1)))) u3))∧(k≠0→∀ u',Below u.heap.size u u'→DoesP base S M O st N .round_ n tx w (thrown k) u'))):=by
  refine (cluOps.play st.next ra hcd (by omega) (hin.below (bdN V 1)) (fun b off e h0=>fun q=>hs.r.ap b q (hs.r.bM b off (by rw [← eMa];exact e) h0).1)).mono fun e u ⟨O1,hf,q⟩=>?_
  have hf':Foot O O1 V u:=⟨hf.os,hf.tape,hf.output,hf.size,hf.block,hf.fresh⟩
  rcases q with ⟨q1,he,hc1⟩ | ⟨q1,he,hc1⟩
  ·obtain ⟨q2,q3⟩:=(hs.later (Nat.le_succ N)).clus hf' (by rw [hcl];exact fun q=>by cases q) hc1 (by omega)
   have est:{ st with clu:=some (fa,cs,c,rd,T) } = st:=by rw [← hcl]
   rw [est] at q2
   refine ⟨6,O1,he,hf',fun q=>(by cases q),fun _ u' hu=>?_⟩
   exact ⟨st,.err 6,M,O1,A,⟨fa,cs,c,rd,T,hcl,.inl ⟨q1,rfl,rfl⟩⟩,rfl,((Foot.of_below hB).trans q3).trans (Foot.of_below hu),q2.below hu⟩
  ·obtain ⟨q2,q3⟩:=(hs.later (Nat.le_succ N)).clus hf' (by rw [hcl];exact fun q=>by cases q) hc1 (by omega)
   refine ⟨0,O1,he,hf',fun _ u' hu=>?_,fun q=>absurd rfl q⟩
   have q4:=q2.below hu
   have e4:=q4.blk
   refine ⟨?_,?_⟩
   ·rw [e4];unfold DkS.cells;rw [hcl];rfl
   rintro u2 rfl
   have q5:=q4.forgets
   have f5:=((Foot.of_below (O:=M ++ O) hB).trans q3).trans ((Foot.of_below hu).trans (foot_forgets (u:=u') (List.mem_append.2 (.inl hSM))))
   have hlo:∀ x,x∈M ++ O→base≤x:=fun x hx=>(List.mem_append.1 hx).elim (h.r.lo x) (h.r.loO x)
   have b5:=f5.below hlo hbw
   have D5:=hD.below b5
   have hs5:base≤((((u'.setCell ⟨S,11,none⟩ (.slice none 0 0)).setCell ⟨S,12,none⟩ (.slice none 0 0)).setCell ⟨S,13,none⟩ (.slice none 0 0)).setCell ⟨S,14,none⟩ (.slice none 0 0)).heap.size:=Nat.le_trans hbw b5.size
   refine ⟨D5.here,fun u3 hu3=>D5 u3 (hu3.mono hs5),?_,fun u3 hu3=>?_⟩
   ·exact cluOps.rounds (q5.r.clu _ _ _ _ _ rfl).1
   ·exact ⟨_,.ok (itoaB (rd+1)),M,O1,A.forgot,⟨fa,cs,c,rd,T,hcl,.inr ⟨q1,rfl,rfl⟩⟩,rfl,f5.trans (Foot.of_below hu3),q5.below hu3⟩
 have HD:Hid (∀ O' u,Foot O O' V u→Desk0 u):=fun O' u hf=>HDV.out u (hf.below hs.r.loO hbS)
 have HI:Hid (intR (rd+1)):=⟨by omega,by omega⟩
 clear h hD hB hs hcu hcd hTN hcl HDV hin eO eR eDa eDc eMa eMc hrd hbw hbS
 unfold RoundN.val at HC
 generalize st.next.nL=q1 at *
 generalize st.next.nR=q2 at *
 generalize st.next.drifts.length=q3 at *
 generalize st.next.modes.length=q4 at *
 go_enter Tryz.func24,Tryz.ntmps24
 go_wp2_with fail
 refine wp_region_held_drew (S:=fun v=>v.cell? ⟨S,10,none⟩=some (.pointer (some ⟨A.C,0,none⟩))∧v.cell? ⟨S,11,none⟩=some (.slice ra.la q1 ra.lc)∧v.cell? ⟨S,12,none⟩=some (.slice ra.ra q2 ra.rc)∧v.cell? ⟨S,13,none⟩=some (.slice ra.da q3 ra.dc)∧v.cell? ⟨S,14,none⟩=some (.slice ra.ma q4 ra.mc)) (by kernel_rfl) ⟨c0,c1,c2,c3,c4⟩ (fun hHeld=>?_)
 refine tk 0 hHeld ?_
 refine tk 1 hHeld ?_
 refine tk 2 hHeld ?_
 refine tk 3 hHeld ?_
 refine tk 4 hHeld ?_
 refine tk 5 hHeld ?_
 refine tk 6 hHeld ?_
 refine tk 7 hHeld ?_
 refine rdy 8 fun K hK=>?_
 go_simp
 refine Calls.mono HC.out ?_
 rintro ev u1 ⟨k,O1,rfl,hf,hk0,hk1⟩
 have y0:=(hf.cell (p:=⟨S,10,none⟩) hSV hSO).trans c0
 have y1:=(hf.cell (p:=⟨S,11,none⟩) hSV hSO).trans c1
 have y2:=(hf.cell (p:=⟨S,12,none⟩) hSV hSO).trans c2
 have y3:=(hf.cell (p:=⟨S,13,none⟩) hSV hSO).trans c3
 have y4:=(hf.cell (p:=⟨S,14,none⟩) hSV hSO).trans c4
 refine kp hK (fun hHeld=>?_) ⟨y0,y1,y2,y3,y4⟩
 clear hK K
 have hA:=askNone_any u1 (HD.out O1 u1 hf).told (errV_is u1 k)
 refine rdy 9 fun K hK=>?_
 go_simp
 refine hA.mono ?_
 rintro ev u2 ⟨he2,hu2⟩
 by_cases hk:k=0
 ·rw [if_pos hk] at he2
  subst he2
  have hS2:=Nat.lt_of_lt_of_le hSV hf.size
  refine kp hK (fun hHeld=>?_) ⟨(hu2.cell (p:=⟨S,10,none⟩) hS2).trans y0,(hu2.cell (p:=⟨S,11,none⟩) hS2).trans y1,(hu2.cell (p:=⟨S,12,none⟩) hS2).trans y2,(hu2.cell (p:=⟨S,13,none⟩) hS2).trans y3,(hu2.cell (p:=⟨S,14,none⟩) hS2).trans y4⟩
  clear hK K
  refine dn ?_
  obtain ⟨hblk,hrest⟩:=hk0 hk u2 hu2
  have z1:=soft_blk hblk (i:=11)
  have z2:=soft_blk hblk (i:=12)
  have z3:=soft_blk hblk (i:=13)
  have z4:=soft_blk hblk (i:=14)
  have x0:u2.cell? ⟨S,10,none⟩=some (.pointer (some ⟨A.C,0,none⟩)):=(hu2.cell (p:=⟨S,10,none⟩) hS2).trans y0
  have x1:u2.cell? ⟨S,11,none⟩=some (.slice ra.la q1 ra.lc):=(hu2.cell (p:=⟨S,11,none⟩) hS2).trans y1
  have x2:u2.cell? ⟨S,12,none⟩=some (.slice ra.ra q2 ra.rc):=(hu2.cell (p:=⟨S,12,none⟩) hS2).trans y2
  have x3:u2.cell? ⟨S,13,none⟩=some (.slice ra.da q3 ra.dc):=(hu2.cell (p:=⟨S,13,none⟩) hS2).trans y3
  have x4:u2.cell? ⟨S,14,none⟩=some (.slice ra.ma q4 ra.mc):=(hu2.cell (p:=⟨S,14,none⟩) hS2).trans y4
  have HRest:Hid _:=hrest
  clear hrest hk0 hk1 hblk hA HC HD
  go_wp2_with fail
  obtain ⟨d0,d1,hR,hE⟩:=HRest.out _ rfl
  have HDD:Hid (∀ u4,Below ((((u2.setCell ⟨S,11,none⟩ (.slice none 0 0)).setCell ⟨S,12,none⟩ (.slice none 0 0)).setCell ⟨S,13,none⟩ (.slice none 0 0)).setCell ⟨S,14,none⟩ (.slice none 0 0)).heap.size ((((u2.setCell ⟨S,11,none⟩ (.slice none 0 0)).setCell ⟨S,12,none⟩ (.slice none 0 0)).setCell ⟨S,13,none⟩ (.slice none 0 0)).setCell ⟨S,14,none⟩ (.slice none 0 0)) u4→Desk0 u4):=d1
  have HEE:Hid _:=hE
  clear d0 d1 hE
  refine hR.mono ?_
  rintro ev u4 ⟨rfl,hb4⟩
  have HB4:Hid (Below _ _ u4):=hb4
  have hI:=itoa_any (rd+1) HI.out u4 (HDD.out u4 hb4)
  clear hb4 hR
  go_wp2_with fail
  refine hI.mono ?_
  rintro ev u5 ⟨rfl,hb5⟩
  have HB5:Hid (Below u4.heap.size u4 u5):=hb5
  clear hb5 hI
  go_wp2_with fail
  go_ret
  exact HEE.out u5 (HB4.out.trans (HB5.out.mono HB4.out.size))
 ·rw [if_neg hk] at he2
  subst he2
  exact ⟨rfl,hk1 hk u2 hu2⟩
end
end
section
def smallE (k:Int):Prop:=0≤k∧k≤100
theorem smallE.int {k:Int} (h:smallE k):intR k:=⟨by have:=h.1;omega,by have:=h.2;omega⟩
theorem FirstBad.small {f:Nat→Int} {n:Nat} {e i:Int} (h:FirstBad f n e i) (hf:∀ j,smallE (f j)):smallE e:=by
 rcases h with ⟨_,rfl,_⟩ | ⟨k,_,_,rfl,_⟩
 ·exact ⟨by omega,by omega⟩
 ·exact hf k
theorem PlanN.Is.small {p:PlanN} {E I:Int} (h:p.Is E I):smallE E:=by
 unfold PlanN.Is CheckIs at h
 rcases h with ⟨_,rfl,_⟩ | ⟨_,e1,i1,e2,i2,e3,i3,F1,F2,F3,R⟩
 ·unfold headErr smallE
  repeat' split
  all_goals omega
 ·have s1:smallE e1:=F1.small fun j=>by
   unfold slotErr smallE
   repeat' split
   all_goals omega
  have s2:smallE e2:=F2.small fun j=>by
   unfold linkErr smallE
   repeat' split
   all_goals omega
  have s3:smallE e3:=F3.small fun j=>by
   unfold winErr smallE
   repeat' split
   all_goals omega
  obtain ⟨r1,r2,r3,r4⟩:=R
  by_cases q1:e1=0
  ·by_cases q2:e2=0
   ·by_cases q3:e3=0
    ·rw [(r4 q1 q2 q3).1];exact ⟨by omega,by omega⟩
    ·rw [(r3 q1 q2 q3).1];exact s3
   ·rw [(r2 q1 q2).1];exact s2
  ·rw [(r1 q1).1];exact s1
theorem NewIs.small {p:PlanN} {fa:Int} {cs:List Int} {K I:Int} (h:NewIs p fa cs K I):smallE K:=by
 rcases h with ⟨E,h,_,rfl⟩ | ⟨_,_,h⟩
 ·exact h.small
 ·rcases h with ⟨_,rfl⟩ | ⟨_,h⟩
  ·exact ⟨by omega,by omega⟩
  ·rcases h with ⟨_,rfl⟩ | ⟨_,h⟩
   ·exact ⟨by omega,by omega⟩
   ·rcases h with ⟨_,rfl⟩ | ⟨_,rfl⟩ <;> exact ⟨by omega,by omega⟩
def Res.short:Res→Prop
 | .inl k=>smallE k
 | .inr o=>o.size≤500
theorem numRes_short {k x:Int} (hk:smallE k) (hx:k=0→intR x):(numRes k x).short:=by
 unfold numRes
 by_cases q:k=0
 ·rw [if_pos q]
  have:=itoaB_size (hx q)
  show (itoaB x).size≤500
  omega
 ·rw [if_neg q]
  exact hk
theorem itoa_short {x:Int} (h:intR x):(Res.ok (itoaB x)).short:=by
 have:=itoaB_size h
 show (itoaB x).size≤500
 omega
structure DkS.Okay (s:DkS):Prop where
 clu:∀ fa cs c rd T,s.clu=some (fa,cs,c,rd,T)→CluOk s.plan fa cs∧0≤rd∧rd≤100000
 ns:s.plan.ns≤32
 nl:s.plan.nl≤8
theorem Ses.okay {w:World} {base S:Nat} {M O:List Nat} {st:DkS} {A:SesA} {N:Nat} (h:Ses w base S M O st A N) (hN:N≤3000):st.Okay where
 clu:=fun fa cs c rd T e=>by
  obtain ⟨h1,h2⟩:=h.r.clu fa cs c rd T e
  obtain ⟨h3,h4,h5⟩:=cluOps.ok h1
  exact ⟨h3,h4,by omega⟩
 ns:=h.r.ns
 nl:=h.r.nl
theorem local_in {f s n d r:Int} (h:localQ f s n d r=0):intR (s+(r - f)*n / d):=by
 unfold localQ at h
 by_cases h1:rightB f s n d=false
 ·rw [if_pos h1] at h;cases h
 ·rw [if_neg h1] at h
  by_cases h2:r<f∨1099511627776<r∨1099511627776<s+(r - f)*n / d
  ·rw [if_pos h2] at h;cases h
  ·have h1':rightB f s n d=true:=by simpa using h1
   simp only [not_or] at h2
   obtain ⟨q1,q2,q3⟩:=h2
   obtain ⟨a1,a2,a3,a4,a5,a6,a7,a8,a9,a10⟩:=right_of h1'
   have:=quo_bounds (x:=r - f) (n:=n) (d:=d) (M:=1099511627776) (by omega) (by omega) a5 a7 a9
   exact ⟨by omega,by omega⟩
theorem real_in {f s n d l:Int} (h:realQ f s n d l=0):intR (realX f s n d l):=by
 unfold realQ at h
 by_cases h1:rightB f s n d=false
 ·rw [if_pos h1] at h;cases h
 ·rw [if_neg h1] at h
  by_cases h2:l < -1099511627776∨1099511627776<l∨1099511627776<realX f s n d l
  ·rw [if_pos h2] at h;cases h
  ·have h1':rightB f s n d=true:=by simpa using h1
   simp only [not_or] at h2
   obtain ⟨q1,q2,q3⟩:=h2
   obtain ⟨a1,a2,a3,a4,a5,a6,a7,a8,a9,a10⟩:=right_of h1'
   unfold realX at q3 ⊢
   by_cases h6:l≤s
   ·rw [if_pos h6];exact ⟨by omega,by omega⟩
   ·rw [if_neg h6] at q3 ⊢
    have:=up_bounds (x:=l - s) (n:=n) (d:=d) (M:=2199023255552) (by omega) (by omega) a5 a7 a10
    exact ⟨by omega,by omega⟩
theorem localQ_small (f s n d r:Int):smallE (localQ f s n d r):=by
 unfold localQ smallE
 repeat' split
 all_goals omega
theorem realQ_small (f s n d r:Int):smallE (realQ f s n d r):=by
 unfold realQ smallE
 repeat' split
 all_goals omega
theorem midErr_small (l:List Int) (f:Int):smallE (midErr l f):=by
 unfold midErr smallE
 repeat' split
 all_goals omega
theorem DoesIs.short {k:Kd} {s s':DkS} {n:List Int} {tx:ByteArray} {r:Res} (h:DoesIs k s n tx s' r) (hs:s.Small) (hk:s.Okay):r.short:=by
 have e1:∀ x:Int,0≤x→x≤100→smallE x:=fun x a b=>⟨a,b⟩
 cases k using Kd.each
 case plan_=>rw [h.2];exact (by decide:Kd.plan_.name.size≤500)
 case slot_ =>
  have:=hk.ns
  rcases h with ⟨a,h1,h2⟩ | ⟨a,h1,h2⟩
  ·rw [h2];exact itoa_short ⟨by omega,by omega⟩
  ·rw [h2];exact e1 4 (by omega) (by omega)
 case link_ =>
  have:=hk.nl
  rcases h with ⟨a,h1,h2⟩ | ⟨a,h1,h2⟩
  ·rw [h2];exact itoa_short ⟨by omega,by omega⟩
  ·rw [h2];exact e1 4 (by omega) (by omega)
 case bytes_ =>
  obtain ⟨E,I,h0,h1,h2⟩:=h
  rw [h2]
  refine numRes_short h0.small fun q=>?_
  subst q
  obtain ⟨⟨d1,d2,d3⟩,hnn⟩:=nums_ok rfl h0
  have:planLen s.plan≤2000:=Nat.le_trans (bytesOf_len _) (by rw [planNums_len];omega)
  exact ⟨by omega,by omega⟩
 case start_ =>
  obtain ⟨E,I,h0,h⟩:=h
  rcases h with ⟨a,h1,h2⟩ | ⟨a,h1,h2⟩
  ·rw [h2];exact h0.small
  ·rw [h2];exact (by decide:Kd.start_.name.size≤500)
 case put_ =>
  obtain ⟨fa,cs,c,rd,T,e,h⟩:=h
  rcases h with ⟨j,a,a2,h1,h2⟩ | ⟨a,h1,h2⟩
  ·rw [h2]
   by_cases q:c.putK s.plan j tx=0
   ·rw [if_pos q];exact (by decide:Kd.put_.name.size≤500)
   ·rw [if_neg q]
    show smallE _
    unfold ClS.putK putK smallE
    repeat' split
    all_goals omega
  ·rw [h2];exact e1 2 (by omega) (by omega)
 case receive_ =>
  obtain ⟨fa,cs,c,rd,T,e,h⟩:=h
  rcases h with ⟨j,i,a,a2,a3,h1,h2⟩ | ⟨a,h1,h2⟩
  ·rw [h2]
   by_cases q:recvK (c.ports i j)=0
   ·rw [if_pos q]
    have:=(hs fa cs c rd T e).recvD i j
    show (_ ++ recvD (c.ports i j)).size≤500
    rw [ByteArray.size_append]
    have:(⟨#[105,115,32]⟩:ByteArray).size=3:=rfl
    omega
   ·rw [if_neg q]
    show smallE _
    unfold recvK smallE
    repeat' split
    all_goals omega
  ·rw [h2];exact e1 2 (by omega) (by omega)
 case lose_=>rw [h.2];exact (by decide:Kd.lose_.name.size≤500)
 case read_=>rw [h.2];exact (by decide:Kd.read_.name.size≤500)
 case drift_=>rw [h.2];exact (by decide:Kd.drift_.name.size≤500)
 case mode_=>rw [h.2];exact (by decide:Kd.mode_.name.size≤500)
 case round_ =>
  obtain ⟨fa,cs,c,rd,T,e,h⟩:=h
  have:=hk.clu fa cs c rd T e
  rcases h with ⟨a,h1,h2⟩ | ⟨a,h1,h2⟩
  ·rw [h2];exact e1 6 (by omega) (by omega)
  ·rw [h2];exact itoa_short ⟨by omega,by omega⟩
 case clocks_ =>
  obtain ⟨fa,cs,c,rd,T,e,h1,h2⟩:=h
  obtain ⟨q,_⟩:=hk.clu fa cs c rd T e
  rw [h2]
  refine numsB_short ?_ fun x hx=>?_
  ·rw [q.len]
   have:=q.plan.bounds.n2
   show s.plan.nodes.toNat≤16
   omega
  ·have:=q.inn x hx
   exact ⟨by omega,by omega⟩
 case spread_ =>
  obtain ⟨fa,cs,c,rd,T,e,h1,h2⟩:=h
  obtain ⟨q,_⟩:=hk.clu fa cs c rd T e
  rw [h2]
  have h1:=q.near
  have h2:=q.plan.bounds.s1
  have h3:=spreadL_pos (rightOf fa cs)
  exact itoa_short ⟨by omega,by omega⟩
 case members_ =>
  obtain ⟨fa,cs,c,rd,T,e,h1,h⟩:=h
  obtain ⟨q,_⟩:=hk.clu fa cs c rd T e
  rcases h with ⟨j,a,a2,h2⟩ | ⟨a,h2⟩
  ·rw [h2]
   have h1:=bitsV_in (c.nodes j).t s.plan.n
   have h2:=q.plan.bounds.n2
   have h3:s.plan.n≤16:=by show s.plan.nodes.toNat≤16;omega
   have h4:(2:Int) ^ s.plan.n≤2 ^ 16:=by exact_mod_cast Nat.pow_le_pow_right (by decide:0<2) h3
   have h5:(2:Int) ^ 16=65536:=by decide
   have h6:=itoaB_size (x:=bitsV (c.nodes j).t s.plan.n) ⟨by omega,by omega⟩
   show ByteArray.size (if _ then _ else _)≤500
   split
   ·rw [ByteArray.size_append]
    have:(⟨#[32,102,114,111,122,101,110]⟩:ByteArray).size=7:=rfl
    omega
   ·omega
  ·rw [h2];exact e1 2 (by omega) (by omega)
 case midpoint_ =>
  rw [h.2]
  refine numRes_short (midErr_small _ _) fun _=>?_
  have:=midVal_in n.tail (n.getD 0 0)
  exact ⟨by omega,by omega⟩
 case local_=>rw [h.2];exact numRes_short (localQ_small ..) local_in
 case real_=>rw [h.2];exact numRes_short (realQ_small ..) real_in
 case clear_=>rw [h.2];exact (by decide:Kd.clear_.name.size≤500)
 case help_=>rw [h.2];exact (by decide:helpB.size≤500)
theorem wrongB_size {k:Int} (h:smallE k):(wrongB k).size≤100:=by
 have:=itoaB_size h.int
 unfold wrongB
 rw [ByteArray.size_append]
 have:(⟨#[101,114,114,111,114,32]⟩:ByteArray).size=6:=rfl
 omega
theorem Res.short.out {r:Res} (h:r.short):r.out.size≤500:=by
 cases r with
 | inl k=>have:=wrongB_size (show smallE k from h);show (wrongB k).size≤500;omega
 | inr o=>exact h
end
end Go.Proofs.YthccoinonjoleaaGreatDoor
