import Derived.Test.YthccoinonjoleaaGreatDoorZR15
namespace Go.Proofs.YthccoinonjoleaaGreatDoor
open Go.RowKit
set_option maxRecDepth 100000
set_option maxHeartbeats 16000000
section
section
variable {w V u:World} {base S:Nat} {M O:List Nat} {st:DkS} {A:SesA} {N:Nat}
theorem Ses.planIn (h:Ses w base S M O st A N):∃ a:PlanAt,A.vS=.slice a.sa st.plan.ns a.sc∧A.vL=.slice a.la st.plan.nl a.lc∧a.wa=none∧a.wc=0∧st.plan.In a w:=by
 obtain ⟨sa,sc,e1,r1,_⟩:=owns_tri h.r.oS
 obtain ⟨la,lc,e2,r2⟩:=owns_quad h.r.oL
 have h1:=h.r.ns
 have h2:=h.r.nl
 have h3:=h.r.nw
 exact ⟨⟨sa,sc,la,lc,none,0⟩,e1,e2,rfl,rfl,r1,r2,fun q=>absurd q (by omega),h.r.iL,by omega,by omega,by omega⟩
theorem encode_is (p:PlanN) (a:PlanAt) (w:World) (hin:p.In a w):∃ E I,p.Is E I∧(E=0→planLen p≤2000)∧Calls Tryz.prog 47 #[p.val a] w fun e w'=>∃ v X,e=.returned (.tuple #[v,X])∧ErrIs w' X E I∧(E=0→X=.nilIface∧∃ ad cap,v=.slice ad (planLen p) cap)∧Below w.heap.size w w':=by
 obtain ⟨E,I,hI,_⟩:=cluOps.chk p a w hin
 have hc:∀ v:World,Below w.heap.size w v→Calls Tryz.prog 70 #[p.val a] v fun ev w'=>∃ X,ev=.returned X∧ErrIs w' X E I∧Below v.heap.size v w':=by
  intro v hv
  obtain ⟨E',I',hI',hC⟩:=cluOps.chk p a v (hin.below hv)
  obtain ⟨rfl,rfl⟩:=hI.one hI'
  exact hC
 by_cases hE:E=0
 ·subst hE
  have hn:=hI.neg
  subst hn
  obtain ⟨⟨d1,d2,d3⟩,hnn⟩:=nums_ok rfl hI
  refine ⟨0,-1,hI,fun _=>?_,?_⟩
  ·exact Nat.le_trans (bytesOf_len _) (by rw [planNums_len];omega)
  ·refine (encode_ok p.nodes p.faulty p.skew p.jitter p.drift p.round p.frame a.sa a.la a.wa p.ns a.sc p.nl a.lc p.nw a.wc p.nd p.fr p.td p.lf p.lt p.lb p.lq p.wp p.wf p.wt w hin.slots hin.links hin.wins d1 d2 d3 hnn hc).mono ?_
   rintro e w' ⟨v,rfl,ho,hb⟩
   refine ⟨v,.nilIface,rfl,.inl ⟨rfl,rfl,rfl⟩,fun _=>⟨rfl,?_⟩,hb⟩
   rcases ho.2 with ⟨q,q2⟩ | ⟨g,cap,cur,q,_⟩
   ·exact ⟨none,0,by rw [q];unfold planLen;rw [q2]⟩
   ·exact ⟨_,cap,q⟩
 ·refine ⟨E,I,hI,fun q=>absurd q hE,?_⟩
  refine (encode_bad p.nodes p.faulty p.skew p.jitter p.drift p.round p.frame a.sa a.la a.wa p.ns a.sc p.nl a.lc p.nw a.wc E I w hE hc).mono ?_
  rintro e w' ⟨X,rfl,hX,hb⟩
  exact ⟨_,X,rfl,hX,fun q=>absurd q hE,hb⟩
theorem bytes_does (h:Ses w base S M O st A N) (hD:DeskW w.heap.size w) (n:List Int) (v:Value) (tx:ByteArray) :
  Calls Tryz.prog 16 #[.pointer (some ⟨S,0,none⟩),.agg #[v,.string tx]] w (DoesP base S M O st N .bytes_ n tx w):=by
 generalize hV:w.alloc (.cells #[v,.string tx] 71)=V
 have hB:Below w.heap.size w V:=hV▸(Below.refl _ w).alloc (Nat.le_refl _) _
 have hs:=h.below hB
 obtain ⟨pa,eS,eL,eW,eC,hin⟩:=hs.planIn
 obtain ⟨E,I,hI,hmax,hC⟩:=encode_is st.plan pa V hin
 have c0:V.cell? ⟨S,0,none⟩=some (.int .i64 st.plan.nodes):=cell_blk hs.blk (i:=0) rfl
 have c1:V.cell? ⟨S,1,none⟩=some (.int .i64 st.plan.faulty):=cell_blk hs.blk (i:=1) rfl
 have c2:V.cell? ⟨S,2,none⟩=some (.int .i64 st.plan.skew):=cell_blk hs.blk (i:=2) rfl
 have c3:V.cell? ⟨S,3,none⟩=some (.int .i64 st.plan.jitter):=cell_blk hs.blk (i:=3) rfl
 have c4:V.cell? ⟨S,4,none⟩=some (.int .i64 st.plan.drift):=cell_blk hs.blk (i:=4) rfl
 have c5:V.cell? ⟨S,5,none⟩=some (.int .i64 st.plan.round):=cell_blk hs.blk (i:=5) rfl
 have c6:V.cell? ⟨S,6,none⟩=some (.slice pa.sa st.plan.ns pa.sc):=(cell_blk hs.blk (i:=6) rfl).trans (congrArg some eS)
 have c7:V.cell? ⟨S,7,none⟩=some (.slice pa.la st.plan.nl pa.lc):=(cell_blk hs.blk (i:=7) rfl).trans (congrArg some eL)
 have c8:V.cell? ⟨S,8,none⟩=some (.int .i64 st.plan.frame):=cell_blk hs.blk (i:=8) rfl
 have c9:V.cell? ⟨S,9,none⟩=some (.slice pa.wa st.plan.nw pa.wc):=by rw [eW,eC,h.r.nw];exact cell_blk hs.blk (i:=9) rfl
 have HB:Hid (Below w.heap.size w V):=hB
 have HD:Hid (∀ u,Below w.heap.size w u→Desk0 u):=fun u hu=>hD u hu
 have HE:Hid (∀ w' e,Below V.heap.size V w'→e=(numRes E (planLen st.plan)).ending→DoesP base S M O st N .bytes_ n tx w e w'):=fun w' e q1 q2=>asks_end h hB q1 (k:=.bytes_) (n:=n) (tx:=tx) ⟨E,I,hI,rfl,rfl⟩ q2
 have HM:Hid (E=0→planLen st.plan≤2000):=hmax
 clear h hD hB hs hin hI eS eL eW eC hmax
 generalize planLen st.plan=pl at *
 unfold PlanN.val at hC
 generalize st.plan.nodes=p0 at *
 generalize st.plan.faulty=p1 at *
 generalize st.plan.skew=p2 at *
 generalize st.plan.jitter=p3 at *
 generalize st.plan.drift=p4 at *
 generalize st.plan.round=p5 at *
 generalize st.plan.frame=p8 at *
 generalize st.plan.ns=q1 at *
 generalize st.plan.nl=q2 at *
 generalize st.plan.nw=q3 at *
 go_enter Tryz.func16,Tryz.ntmps16
 go_wp2_with fail
 refine hC.mono ?_
 rintro ev u1 ⟨v1,X,rfl,hX,hok,b1⟩
 by_cases hE:E=0
 ·obtain ⟨rfl,ad,cap,rfl⟩:=hok hE
  have hm:=HM.out hE
  have hR:=rightBytes_yes (.slice ad pl cap) u1
  go_wp2_with fail
  refine hR.mono ?_
  rintro ev u2 ⟨rfl,hu2⟩
  have b2:=b1.trans (hu2.mono b1.size)
  have hI:=itoa_any (pl:Int) ⟨by omega,by omega⟩ u2 (HD.out u2 (HB.out.trans (b2.mono HB.out.size)))
  go_wp2_with fail
  refine hI.mono ?_
  rintro ev u3 ⟨rfl,hu3⟩
  go_wp2_with fail
  go_ret
  exact HE.out u3 _ (b2.trans (hu3.mono b2.size)) (by rw [numRes,if_pos hE];rfl)
 ·have hR:=rightBytes_no v1 u1 (HD.out u1 (HB.out.trans (b1.mono HB.out.size))).told hX hE
  go_wp2_with fail
  refine hR.mono ?_
  rintro ev u2 ⟨rfl,hu2⟩
  exact ⟨rfl,HE.out u2 _ (b1.trans (hu2.mono b1.size)) (by rw [numRes,if_neg hE];rfl)⟩
end
end
section
section
variable {w V u:World} {base S:Nat} {M O O':List Nat} {st:DkS} {A:SesA} {N:Nat}
theorem Ses.begun (h:Ses V base S M O st A N) (hb:Below V.heap.size V u) {C:Nat} {fa:Int} {cs:List Int} (hc:Clu u O' C st.plan fa cs ClS.start 0 0) (hO:∀ c,c∈O'→V.heap.size≤c) :
  Ses (u.setCell ⟨S,10,none⟩ (.pointer (some ⟨C,0,none⟩))) base S M O' { st with clu:=some (fa,cs,ClS.start,0,0) } { A with C:=C } N∧Foot (M ++ O) (M ++ O') V (u.setCell ⟨S,10,none⟩ (.pointer (some ⟨C,0,none⟩))):=by
 have hu:=h.below hb
 have hbS:base≤V.heap.size:=Nat.le_trans (h.r.lo S h.r.s) (Nat.le_of_lt (h.r.hi S h.r.s))
 have hSV:=h.r.hi S h.r.s
 have hr:=hu.rest (w':=u.setCell ⟨S,10,none⟩ (.pointer (some ⟨C,0,none⟩))) (by simp) (fun c hc=>by simp only [set_other hc])
 refine ⟨⟨?_,?_⟩,?_⟩
 ·exact {
      s:=hr.s
      lo:=hr.lo
      hi:=hr.hi
      loO:=fun c q=>Nat.le_trans hbS (hO c q)
      hiO:=fun c q=>by have:=cluOps.lt hc c q;simpa using this
      ap:=fun c q1 q2=>by have:=hO c q1;have:=h.r.hi c q2;omega
      oS:=hr.oS
      oL:=hr.oL
      oO:=hr.oO
      oR:=hr.oR
      bS:=hr.bS
      bL:=hr.bL
      bO:=hr.bO
      bR:=hr.bR
      rD:=hr.rD
      rM:=hr.rM
      bD:=hr.bD
      bM:=hr.bM
      nw:=hr.nw
      iL:=hr.iL
      iO:=hr.iO
      ns:=hr.ns
      nl:=hr.nl
      nL:=hr.nL
      nR:=hr.nR
      nD:=hr.nD
      nM:=hr.nM
      clu:=fun fa' cs' c' rd' T' e=>by
       cases e
       exact ⟨cluOps.keep hc ⟨by simp,fun c q=>set_other (fun e=>by have:=hO c q;omega) _⟩,Nat.zero_le _⟩ }
 ·exact set_blk hu.blk _
 ·exact ⟨hb.os,hb.tape,hb.output,by simpa using hb.size,fun x hx hn=>(set_other (fun e=>hn (by rw [e];exact List.mem_append.2 (.inl h.r.s))) _).trans (hb.block x hx),fun x hx=>by
   rcases List.mem_append.1 hx with q | q
   ·exact .inl (List.mem_append.2 (.inl q))
   ·exact .inr (hO x q)⟩
theorem start_does (h:Ses w base S M O st A N) (hD:DeskW base w) (x:Int) (hx:intR x) (l:List Int) (hl:l.length≤20000) (a:Option Addr) (cap:Nat) (hcap:l.length+1≤cap) (tx:ByteArray) (hr:NumsOut w M O a (x::l)) :
  Calls Tryz.prog 17 #[.pointer (some ⟨S,0,none⟩),.agg #[.slice a (l.length+1) cap,.string tx]] w (DoesP base S M O st N .start_ (x::l) tx w):=by
 obtain ⟨b,off,rfl,hbl,hc⟩:=hr.1 (by simp)
 generalize hV:w.alloc (.cells #[.slice (some ⟨b,off,none⟩) (l.length+1) cap,.string tx] 71)=V
 have hB:Below w.heap.size w V:=hV▸(Below.refl _ w).alloc (Nat.le_refl _) _
 have hs:=h.below hB
 obtain ⟨pa,eS,eL,eW,eC,hin⟩:=hs.planIn
 have a0:V.cell? ⟨w.heap.size,0,none⟩=some (.slice (some ⟨b,off,none⟩) (l.length+1) cap):=by rw [← hV];simp [go_sem]
 have a1:V.cell? ⟨b,off,none⟩=some (.int .i64 x):=(hB.cell (p:=⟨b,off,none⟩) hbl).trans (by have:=hc 0 (by simp);simpa using this)
 have hrow:IntRow V (if cap=1 then some ⟨b,off,none⟩ else some ⟨b,off+1,none⟩) l:=fun h0=>⟨b,off+1,if_neg (by omega),Nat.lt_of_lt_of_le hbl hB.size,fun j hj=>(hB.cell (p:=⟨b,off+1+j,none⟩) hbl).trans (by have:=hc (j+1) (by simpa using hj);simpa [Nat.add_assoc,Nat.add_comm 1 j] using this)⟩
 have hbV:b<V.heap.size:=Nat.lt_of_lt_of_le hbl hB.size
 have hwV:w.heap.size<V.heap.size:=by rw [← hV];simp
 have hSV:=hs.r.hi S hs.r.s
 have hwS:w.heap.size≠S:=fun e=>by have:=h.r.hi S h.r.s;omega
 have hbS:b≠S:=fun e=>hr.2 b off rfl (by simp) (by rw [e];exact List.mem_append.2 (.inl h.r.s))
 have c0:V.cell? ⟨S,0,none⟩=some (.int .i64 st.plan.nodes):=cell_blk hs.blk (i:=0) rfl
 have c1:V.cell? ⟨S,1,none⟩=some (.int .i64 st.plan.faulty):=cell_blk hs.blk (i:=1) rfl
 have c2:V.cell? ⟨S,2,none⟩=some (.int .i64 st.plan.skew):=cell_blk hs.blk (i:=2) rfl
 have c3:V.cell? ⟨S,3,none⟩=some (.int .i64 st.plan.jitter):=cell_blk hs.blk (i:=3) rfl
 have c4:V.cell? ⟨S,4,none⟩=some (.int .i64 st.plan.drift):=cell_blk hs.blk (i:=4) rfl
 have c5:V.cell? ⟨S,5,none⟩=some (.int .i64 st.plan.round):=cell_blk hs.blk (i:=5) rfl
 have c6:V.cell? ⟨S,6,none⟩=some (.slice pa.sa st.plan.ns pa.sc):=(cell_blk hs.blk (i:=6) rfl).trans (congrArg some eS)
 have c7:V.cell? ⟨S,7,none⟩=some (.slice pa.la st.plan.nl pa.lc):=(cell_blk hs.blk (i:=7) rfl).trans (congrArg some eL)
 have c8:V.cell? ⟨S,8,none⟩=some (.int .i64 st.plan.frame):=cell_blk hs.blk (i:=8) rfl
 have c9:V.cell? ⟨S,9,none⟩=some (.slice pa.wa st.plan.nw pa.wc):=by rw [eW,eC,h.r.nw];exact cell_blk hs.blk (i:=9) rfl
 have hC:=cluOps.new st.plan pa x (if cap=1 then some ⟨b,off,none⟩ else some ⟨b,off+1,none⟩) (cap - 1) l (V.drewN 1) (hin.below (bdN V 1)) (hrow.below (bdN V 1)) (by omega) hx.1 hx.2
 have HC:Hid (Calls Tryz.prog 49 #[st.plan.val pa,.int .i64 x,.slice (if cap=1 then some ⟨b,off,none⟩ else some ⟨b,off+1,none⟩) l.length (cap - 1)] (V.drewN 1) fun e u=>Below V.heap.size V u∧∃ K I,((K≠0∧∃ E,e=.returned (.tuple #[.pointer none,E])∧ErrIs u E K I∧∀ u',Below u.heap.size u u'→DoesP base S M O st N .start_ (x::l) tx w (thrown K) u')∨(K=0∧∃ C,e=.returned (.tuple #[.pointer (some ⟨C,0,none⟩),.nilIface])∧∀ u',Below u.heap.size u u'→DoesP base S M O st N .start_ (x::l) tx w (.returned (.string Kd.start_.name)) (u'.setCell ⟨S,10,none⟩ (.pointer (some ⟨C,0,none⟩)))))):=by
  refine hC.mono fun e u ⟨hb1,K,I,hK,q⟩=>?_
  have b1:Below V.heap.size V u:=undrewN hb1
  refine ⟨b1,K,I,?_⟩
  rcases q with ⟨k0,E,he,hE⟩ | ⟨k0,O1,C,he,hcl,hO1⟩
  ·exact .inl ⟨k0,E,he,hE,fun u' hu=>asks_end h hB (b1.trans (hu.mono b1.size)) (k:=.start_) (n:=x::l) (tx:=tx) (r:=.err K) ⟨K,I,hK,.inl ⟨k0,rfl,rfl⟩⟩ rfl⟩
  ·refine .inr ⟨k0,C,he,fun u' hu=>?_⟩
   have hcl':Clu u' O1 C st.plan x l ClS.start 0 0:=cluOps.keep hcl (Same.of_below hu (cluOps.lt hcl))
   obtain ⟨q1,q2⟩:=(hs.later (Nat.le_succ N)).begun (b1.trans (hu.mono b1.size)) hcl' hO1
   exact ⟨_,.ok Kd.start_.name,M,O1,_,⟨K,I,hK,.inr ⟨k0,rfl,rfl⟩⟩,rfl,(Foot.of_below hB).trans q2,q1⟩
 have HB:Hid (Below w.heap.size w V):=hB
 have HK:Hid (∀ u,Below V.heap.size V u→u.heap[S]? = some (.cells (st.cells A) 56 (0,0))):=fun u hu=>(hu.block S hSV).trans hs.blk
 have hbw:base≤w.heap.size:=Nat.le_trans (h.r.lo S h.r.s) (Nat.le_of_lt (h.r.hi S h.r.s))
 have HD:Hid (∀ u,Below V.heap.size V u→Desk0 u):=fun u hu=>(hD.below (hB.mono hbw)) u (hu.mono (Nat.le_trans hbw hB.size))
 clear h hD hB hs hin hC hc hr hrow eS eL eW eC
 unfold PlanN.val at HC
 generalize st.plan.nodes=p0 at *
 generalize st.plan.faulty=p1 at *
 generalize st.plan.skew=p2 at *
 generalize st.plan.jitter=p3 at *
 generalize st.plan.drift=p4 at *
 generalize st.plan.round=p5 at *
 generalize st.plan.frame=p8 at *
 generalize st.plan.ns=q1 at *
 generalize st.plan.nl=q2 at *
 generalize st.plan.nw=q3 at *
 have hl1:(1:Int)≤(l.length:Int)+1:=by omega
 go_enter Tryz.func17,Tryz.ntmps17
 go_wp2_with fail
 refine wp_region_held_drew (S:=fun v=>v.cell? ⟨w.heap.size,0,none⟩=some (.slice (some ⟨b,off,none⟩) (l.length+1) cap)∧v.cell? ⟨b,off,none⟩=some (.int .i64 x)∧v.cell? ⟨S,0,none⟩=some (.int .i64 p0)∧v.cell? ⟨S,1,none⟩=some (.int .i64 p1)∧v.cell? ⟨S,2,none⟩=some (.int .i64 p2)∧v.cell? ⟨S,3,none⟩=some (.int .i64 p3)∧v.cell? ⟨S,4,none⟩=some (.int .i64 p4)∧v.cell? ⟨S,5,none⟩=some (.int .i64 p5)∧v.cell? ⟨S,6,none⟩=some (.slice pa.sa q1 pa.sc)∧v.cell? ⟨S,7,none⟩=some (.slice pa.la q2 pa.lc)∧v.cell? ⟨S,8,none⟩=some (.int .i64 p8)∧v.cell? ⟨S,9,none⟩=some (.slice pa.wa q3 pa.wc)) (by kernel_rfl) ⟨a0,a1,c0,c1,c2,c3,c4,c5,c6,c7,c8,c9⟩ (fun hHeld=>?_)
 refine tk 0 hHeld ?_
 refine tk 1 hHeld ?_
 refine tk 2 hHeld ?_
 refine tk 3 hHeld ?_
 refine tk 4 hHeld ?_
 refine tk 5 hHeld ?_
 refine tk 6 hHeld ?_
 refine tk 7 hHeld ?_
 refine tk 8 hHeld ?_
 refine tk 9 hHeld ?_
 refine tk 10 hHeld ?_
 refine tk 11 hHeld ?_
 refine rdy 12 fun K hK=>?_
 go_simp
 refine Calls.mono HC.out ?_
 rintro ev u1 ⟨hb1,k,I,q⟩
 have b0:=(hb1.cell (p:=⟨w.heap.size,0,none⟩) hwV).trans a0
 have b1:=(hb1.cell (p:=⟨b,off,none⟩) hbV).trans a1
 have bc0:=(hb1.cell (p:=⟨S,0,none⟩) hSV).trans c0
 have bc1:=(hb1.cell (p:=⟨S,1,none⟩) hSV).trans c1
 have bc2:=(hb1.cell (p:=⟨S,2,none⟩) hSV).trans c2
 have bc3:=(hb1.cell (p:=⟨S,3,none⟩) hSV).trans c3
 have bc4:=(hb1.cell (p:=⟨S,4,none⟩) hSV).trans c4
 have bc5:=(hb1.cell (p:=⟨S,5,none⟩) hSV).trans c5
 have bc6:=(hb1.cell (p:=⟨S,6,none⟩) hSV).trans c6
 have bc7:=(hb1.cell (p:=⟨S,7,none⟩) hSV).trans c7
 have bc8:=(hb1.cell (p:=⟨S,8,none⟩) hSV).trans c8
 have bc9:=(hb1.cell (p:=⟨S,9,none⟩) hSV).trans c9
 rcases q with ⟨hk,E,rfl,hE,hend⟩ | ⟨hk,C,rfl,hend⟩
 ·refine kp hK (fun hHeld=>?_) ⟨b0,b1,bc0,bc1,bc2,bc3,bc4,bc5,bc6,bc7,bc8,bc9⟩
  clear hK K
  refine tk 13 hHeld ?_
  refine tk 14 hHeld ?_
  refine rdy 15 fun K hK=>?_
  go_simp
  refine (rightClu_no (.pointer none) u1 (HD.out u1 hb1).told hE hk).mono ?_
  rintro ev u2 ⟨rfl,hu2⟩
  exact ⟨rfl,hend u2 hu2⟩
 ·refine kp hK (fun hHeld=>?_) ⟨b0,b1,bc0,bc1,bc2,bc3,bc4,bc5,bc6,bc7,bc8,bc9⟩
  clear hK K
  refine tk 13 hHeld ?_
  refine tk 14 hHeld ?_
  refine rdy 15 fun K hK=>?_
  go_simp
  refine (rightClu_yes (.pointer (some ⟨C,0,none⟩)) u1).mono ?_
  rintro ev u2 ⟨rfl,hu2⟩
  have d0:=(hu2.cell (p:=⟨w.heap.size,0,none⟩) (Nat.lt_of_lt_of_le hwV hb1.size)).trans b0
  have d1:=(hu2.cell (p:=⟨b,off,none⟩) (Nat.lt_of_lt_of_le hbV hb1.size)).trans b1
  have dc0:=(hu2.cell (p:=⟨S,0,none⟩) (Nat.lt_of_lt_of_le hSV hb1.size)).trans bc0
  have dc1:=(hu2.cell (p:=⟨S,1,none⟩) (Nat.lt_of_lt_of_le hSV hb1.size)).trans bc1
  have dc2:=(hu2.cell (p:=⟨S,2,none⟩) (Nat.lt_of_lt_of_le hSV hb1.size)).trans bc2
  have dc3:=(hu2.cell (p:=⟨S,3,none⟩) (Nat.lt_of_lt_of_le hSV hb1.size)).trans bc3
  have dc4:=(hu2.cell (p:=⟨S,4,none⟩) (Nat.lt_of_lt_of_le hSV hb1.size)).trans bc4
  have dc5:=(hu2.cell (p:=⟨S,5,none⟩) (Nat.lt_of_lt_of_le hSV hb1.size)).trans bc5
  have dc6:=(hu2.cell (p:=⟨S,6,none⟩) (Nat.lt_of_lt_of_le hSV hb1.size)).trans bc6
  have dc7:=(hu2.cell (p:=⟨S,7,none⟩) (Nat.lt_of_lt_of_le hSV hb1.size)).trans bc7
  have dc8:=(hu2.cell (p:=⟨S,8,none⟩) (Nat.lt_of_lt_of_le hSV hb1.size)).trans bc8
  have dc9:=(hu2.cell (p:=⟨S,9,none⟩) (Nat.lt_of_lt_of_le hSV hb1.size)).trans bc9
  refine kp hK (fun hHeld=>?_) ⟨d0,d1,dc0,dc1,dc2,dc3,dc4,dc5,dc6,dc7,dc8,dc9⟩
  clear hK K
  refine tk 16 hHeld ?_
  refine tk 17 hHeld ?_
  have hk2:=HK.out u2 (hb1.trans (hu2.mono hb1.size))
  have s0:=cell_blk hk2 (i:=10) rfl
  have z0:=soft_blk hk2 (i:=10)
  clear hk2
  refine rdy 18 fun K hK=>?_
  go_simp
  refine kp hK (fun hHeld=>?_) ⟨(cell_other (.inl hwS)).trans d0,(cell_other (.inl hbS)).trans d1,(cell_other (.inr (by decide))).trans dc0,(cell_other (.inr (by decide))).trans dc1,(cell_other (.inr (by decide))).trans dc2,(cell_other (.inr (by decide))).trans dc3,(cell_other (.inr (by decide))).trans dc4,(cell_other (.inr (by decide))).trans dc5,(cell_other (.inr (by decide))).trans dc6,(cell_other (.inr (by decide))).trans dc7,(cell_other (.inr (by decide))).trans dc8,(cell_other (.inr (by decide))).trans dc9⟩
  clear hK K
  refine dn ?_
  go_wp2_with fail
  all_goals (refine bodyPost_ret (v:=.string Kd.start_.name) (by simp [results,Tryz.results17,go_sem];rfl) rfl ?_;exact hend u2 hu2)
end
end
end Go.Proofs.YthccoinonjoleaaGreatDoor
