import Derived.Test.YthccoinonjoleaaGreatDoorZDkNext
import Derived.Deep.AppendLies
namespace Go.Proofs.YthccoinonjoleaaGreatDoor
open Go.RowKit
set_option maxRecDepth 100000
set_option maxHeartbeats 16000000
section
theorem ungrew {u u':World} {row:Option Nat} (h:u.drew.grownBy u' row):u.grownBy u' row:=⟨h.os,h.tape,h.output,h.size,h.block⟩
section
variable {w V w3:World} {base S:Nat} {M O:List Nat} {st:DkS} {A:SesA} {N:Nat}
theorem lose_end (hs:Ses V base S M O st A N) (hB:Below w.heap.size w V) (n:List Int) (E:Obj) (g c:Nat) (hg:(V.alloc E).grownBy w3 A.vO.ownBlock) (hown:w3.ownsRow base 98 3 (.slice (some ⟨g,0,none⟩) (st.next.nL+1) c) (st.next.nL+1) (slotCells st.next.ls st.next.lc st.next.lt st.next.nL ++ [.int .i64 (n.getD 0 0),.int .i64 (n.getD 1 0),.int .i64 (n.getD 2 0)])) (hat:A.vO.ownBlock=some g∨g=V.heap.size+1) (hlt:g<w3.heap.size) (hi:intR (n.getD 2 0)) :
  Foot (M ++ O) ((g::M) ++ O) w (w3.setCell ⟨S,11,none⟩ (.slice (some ⟨g,0,none⟩) (st.next.nL+1) c))∧Ses (w3.setCell ⟨S,11,none⟩ (.slice (some ⟨g,0,none⟩) (st.next.nL+1) c)) base S (g::M) O { st with next:=st.next.lose n } { A with vO:=.slice (some ⟨g,0,none⟩) (st.next.nL+1) c } (N+1):=by
 have hsz:V.heap.size≤w3.heap.size:=by have:=hg.size;simp at this;omega
 have hSlt:=hs.r.hi S hs.r.s
 have hSne:∀ x,A.vO.ownBlock=some x→x≠S:=fun x hx=>owns_ne hs.r.oO hs.blk (by decide) hx
 have hgS:g≠S:=by
  rcases hat with q | q
  ·exact hSne g q
  ·omega
 have hbk:∀ x,x<V.heap.size→A.vO.ownBlock≠some x→w3.heap[x]? = V.heap[x]?:=fun x hx hn=>(hg.block x (by simp;omega) (fun e=>hn e.symm)).trans (Below.heap_alloc V E x hx)
 have hS3:w3.heap[S]? = V.heap[S]?:=hbk S hSlt (fun e=>hSne S e rfl)
 have hblk:=set_blk (i:=11) (hS3.trans hs.blk) (.slice (some ⟨g,0,none⟩) (st.next.nL+1) c)
 have hot:∀ x,x<V.heap.size→x≠S→A.vO.ownBlock≠some x→(w3.setCell ⟨S,11,none⟩ (.slice (some ⟨g,0,none⟩) (st.next.nL+1) c)).heap[x]? = V.heap[x]?:=fun x h1 h2 h3=>(set_other h2 _).trans (hbk x h1 h3)
 have hty:∀ {e:TypeId} {x:Nat},(∃ cs fr,V.heap[x]? = some (.cells cs e fr))→e≠98→A.vO.ownBlock≠some x:=fun ⟨_,_,q⟩ h2 h3=>by
  obtain ⟨_,_,q2⟩:=owns_blk hs.r.oO h3
  exact blk_ne q2 q (Ne.symm h2) rfl
 have own:∀ {e:TypeId} {size:Nat} {v:Value} {k:Nat} {xs:List Value},V.ownsRow base e size v k xs→e≠56→e≠98→(∀ x,v.ownBlock=some x→x∈M)→(w3.setCell ⟨S,11,none⟩ (.slice (some ⟨g,0,none⟩) (st.next.nL+1) c)).ownsRow base e size v k xs:=fun h1 h2 h2' h3=>owns_at h1 fun x hx=>hot x (hs.r.hi x (h3 x hx)) (owns_ne h1 hs.blk h2 hx) (hty (owns_blk h1 hx) h2')
 have hszU:V.heap.size≤(w3.setCell ⟨S,11,none⟩ (.slice (some ⟨g,0,none⟩) (st.next.nL+1) c)).heap.size:=by simpa using hsz
 have hint:∀ {x:Nat},(∃ cs fr,V.heap[x]? = some (.cells cs 3 fr))→x∈M→(w3.setCell ⟨S,11,none⟩ (.slice (some ⟨g,0,none⟩) (st.next.nL+1) c)).heap[x]? = V.heap[x]?:=fun q h2=>hot _ (hs.r.hi _ h2) (by obtain ⟨_,_,q⟩:=q;exact blk_ne q hs.blk (by decide)) (hty q (by decide))
 have hOs:Same O V (w3.setCell ⟨S,11,none⟩ (.slice (some ⟨g,0,none⟩) (st.next.nL+1) c)):=⟨hszU,fun x hx=>hot x (hs.r.hiO x hx) (fun e=>hs.r.ap x hx (e▸hs.r.s)) (fun e=>hs.r.ap x hx (hs.r.bO x e))⟩
 have hgM:g∈M∨g=V.heap.size+1:=hat.imp (hs.r.bO g) id
 have hlo:=hs.r.lo S hs.r.s
 have hwV:=hB.size
 refine ⟨⟨?_,?_,?_,?_,?_,?_⟩,?_,hblk⟩
 ·exact hg.os.trans hB.os
 ·exact hg.tape.trans hB.tape
 ·exact hg.output.trans hB.output
 ·simp;omega
 ·intro x hx hn
  have hxV:x<V.heap.size:=by omega
  refine (hot x hxV (fun e=>hn (List.mem_append.2 (.inl (e▸hs.r.s)))) (fun e=>hn (List.mem_append.2 (.inl (hs.r.bO x e))))).trans (hB.block x hx)
 ·intro x hx
  simp only [List.cons_append,List.mem_cons] at hx
  rcases hx with rfl | hx
  ·rcases hgM with q | q
   ·exact .inl (List.mem_append.2 (.inl q))
   ·exact .inr (by omega)
  ·exact .inl hx
 ·exact {
      s:=List.mem_cons.2 (.inr hs.r.s)
      lo:=fun x hx=>by
       rcases List.mem_cons.1 hx with rfl | hx
       ·rcases hgM with q | q
        ·exact hs.r.lo _ q
        ·omega
       ·exact hs.r.lo x hx
      hi:=fun x hx=>by
       rcases List.mem_cons.1 hx with rfl | hx
       ·simpa using hlt
       ·exact Nat.lt_of_lt_of_le (hs.r.hi x hx) hszU
      loO:=hs.r.loO
      hiO:=fun x hx=>Nat.lt_of_lt_of_le (hs.r.hiO x hx) hszU
      ap:=fun x hx hm=>by
       rcases List.mem_cons.1 hm with rfl | hm
       ·rcases hgM with q | q
        ·exact hs.r.ap _ hx q
        ·have:=hs.r.hiO _ hx;omega
       ·exact hs.r.ap x hx hm
      oO:=by have:=slotCells_put st.next.ls st.next.lc st.next.lt (n.getD 0 0) (n.getD 1 0) (n.getD 2 0) st.next.nL;rw [← this] at hown;exact owns_at hown fun x hx=>set_other (by cases hx;exact hgS) _
      oS:=own hs.r.oS (by decide) (by decide) hs.r.bS
      oL:=own hs.r.oL (by decide) (by decide) hs.r.bL
      oR:=own hs.r.oR (by decide) (by decide) hs.r.bR
      bO:=fun x hx=>by cases hx;exact List.mem_cons.2 (.inl rfl)
      bS:=fun x hx=>List.mem_cons.2 (.inr (hs.r.bS x hx))
      bL:=fun x hx=>List.mem_cons.2 (.inr (hs.r.bL x hx))
      bR:=fun x hx=>List.mem_cons.2 (.inr (hs.r.bR x hx))
      rD:=hs.r.rD.at hszU fun b off e h0=>hint (hs.r.bD b off e h0).2 (hs.r.bD b off e h0).1
      rM:=hs.r.rM.at hszU fun b off e h0=>hint (hs.r.bM b off e h0).2 (hs.r.bM b off e h0).1
      bD:=fun b off e h0=>⟨List.mem_cons.2 (.inr (hs.r.bD b off e h0).1),by rw [hint (hs.r.bD b off e h0).2 (hs.r.bD b off e h0).1];exact (hs.r.bD b off e h0).2⟩
      bM:=fun b off e h0=>⟨List.mem_cons.2 (.inr (hs.r.bM b off e h0).1),by rw [hint (hs.r.bM b off e h0).2 (hs.r.bM b off e h0).1];exact (hs.r.bM b off e h0).2⟩
      nw:=hs.r.nw
      nD:=hs.r.nD
      nM:=hs.r.nM
      ns:=hs.r.ns
      nl:=hs.r.nl
      iL:=hs.r.iL
      iO:=fun k hk=>by
       show intR (updI st.next.lt st.next.nL (n.getD 2 0) k)
       unfold updI
       split
       ·exact hi
       ·exact hs.r.iO k (by have:k<st.next.nL+1:=hk;omega)
      nL:=Nat.succ_le_succ hs.r.nL
      nR:=Nat.le_succ_of_le hs.r.nR
      clu:=fun fa cs c rd T e=>⟨cluOps.keep (hs.r.clu fa cs c rd T e).1 hOs,Nat.le_trans (hs.r.clu fa cs c rd T e).2 (Nat.le_succ N)⟩ }
theorem read_end (hs:Ses V base S M O st A N) (hB:Below w.heap.size w V) (n:List Int) (E:Obj) (g c:Nat) (hg:(V.alloc E).grownBy w3 A.vR.ownBlock) (hown:w3.ownsRow base 100 3 (.slice (some ⟨g,0,none⟩) (st.next.nR+1) c) (st.next.nR+1) (slotCells st.next.rn st.next.ro st.next.ri st.next.nR ++ [.int .i64 (n.getD 0 0),.int .i64 (n.getD 1 0),.int .i64 (n.getD 2 0)])) (hat:A.vR.ownBlock=some g∨g=V.heap.size+1) (hlt:g<w3.heap.size) :
  Foot (M ++ O) ((g::M) ++ O) w (w3.setCell ⟨S,12,none⟩ (.slice (some ⟨g,0,none⟩) (st.next.nR+1) c))∧Ses (w3.setCell ⟨S,12,none⟩ (.slice (some ⟨g,0,none⟩) (st.next.nR+1) c)) base S (g::M) O { st with next:=st.next.read n } { A with vR:=.slice (some ⟨g,0,none⟩) (st.next.nR+1) c } (N+1):=by
 have hsz:V.heap.size≤w3.heap.size:=by have:=hg.size;simp at this;omega
 have hSlt:=hs.r.hi S hs.r.s
 have hSne:∀ x,A.vR.ownBlock=some x→x≠S:=fun x hx=>owns_ne hs.r.oR hs.blk (by decide) hx
 have hgS:g≠S:=by
  rcases hat with q | q
  ·exact hSne g q
  ·omega
 have hbk:∀ x,x<V.heap.size→A.vR.ownBlock≠some x→w3.heap[x]? = V.heap[x]?:=fun x hx hn=>(hg.block x (by simp;omega) (fun e=>hn e.symm)).trans (Below.heap_alloc V E x hx)
 have hS3:w3.heap[S]? = V.heap[S]?:=hbk S hSlt (fun e=>hSne S e rfl)
 have hblk:=set_blk (i:=12) (hS3.trans hs.blk) (.slice (some ⟨g,0,none⟩) (st.next.nR+1) c)
 have hot:∀ x,x<V.heap.size→x≠S→A.vR.ownBlock≠some x→(w3.setCell ⟨S,12,none⟩ (.slice (some ⟨g,0,none⟩) (st.next.nR+1) c)).heap[x]? = V.heap[x]?:=fun x h1 h2 h3=>(set_other h2 _).trans (hbk x h1 h3)
 have hty:∀ {e:TypeId} {x:Nat},(∃ cs fr,V.heap[x]? = some (.cells cs e fr))→e≠100→A.vR.ownBlock≠some x:=fun ⟨_,_,q⟩ h2 h3=>by
  obtain ⟨_,_,q2⟩:=owns_blk hs.r.oR h3
  exact blk_ne q2 q (Ne.symm h2) rfl
 have own:∀ {e:TypeId} {size:Nat} {v:Value} {k:Nat} {xs:List Value},V.ownsRow base e size v k xs→e≠56→e≠100→(∀ x,v.ownBlock=some x→x∈M)→(w3.setCell ⟨S,12,none⟩ (.slice (some ⟨g,0,none⟩) (st.next.nR+1) c)).ownsRow base e size v k xs:=fun h1 h2 h2' h3=>owns_at h1 fun x hx=>hot x (hs.r.hi x (h3 x hx)) (owns_ne h1 hs.blk h2 hx) (hty (owns_blk h1 hx) h2')
 have hszU:V.heap.size≤(w3.setCell ⟨S,12,none⟩ (.slice (some ⟨g,0,none⟩) (st.next.nR+1) c)).heap.size:=by simpa using hsz
 have hint:∀ {x:Nat},(∃ cs fr,V.heap[x]? = some (.cells cs 3 fr))→x∈M→(w3.setCell ⟨S,12,none⟩ (.slice (some ⟨g,0,none⟩) (st.next.nR+1) c)).heap[x]? = V.heap[x]?:=fun q h2=>hot _ (hs.r.hi _ h2) (by obtain ⟨_,_,q⟩:=q;exact blk_ne q hs.blk (by decide)) (hty q (by decide))
 have hOs:Same O V (w3.setCell ⟨S,12,none⟩ (.slice (some ⟨g,0,none⟩) (st.next.nR+1) c)):=⟨hszU,fun x hx=>hot x (hs.r.hiO x hx) (fun e=>hs.r.ap x hx (e▸hs.r.s)) (fun e=>hs.r.ap x hx (hs.r.bR x e))⟩
 have hgM:g∈M∨g=V.heap.size+1:=hat.imp (hs.r.bR g) id
 have hlo:=hs.r.lo S hs.r.s
 have hwV:=hB.size
 refine ⟨⟨?_,?_,?_,?_,?_,?_⟩,?_,hblk⟩
 ·exact hg.os.trans hB.os
 ·exact hg.tape.trans hB.tape
 ·exact hg.output.trans hB.output
 ·simp;omega
 ·intro x hx hn
  have hxV:x<V.heap.size:=by omega
  refine (hot x hxV (fun e=>hn (List.mem_append.2 (.inl (e▸hs.r.s)))) (fun e=>hn (List.mem_append.2 (.inl (hs.r.bR x e))))).trans (hB.block x hx)
 ·intro x hx
  simp only [List.cons_append,List.mem_cons] at hx
  rcases hx with rfl | hx
  ·rcases hgM with q | q
   ·exact .inl (List.mem_append.2 (.inl q))
   ·exact .inr (by omega)
  ·exact .inl hx
 ·exact {
      s:=List.mem_cons.2 (.inr hs.r.s)
      lo:=fun x hx=>by
       rcases List.mem_cons.1 hx with rfl | hx
       ·rcases hgM with q | q
        ·exact hs.r.lo _ q
        ·omega
       ·exact hs.r.lo x hx
      hi:=fun x hx=>by
       rcases List.mem_cons.1 hx with rfl | hx
       ·simpa using hlt
       ·exact Nat.lt_of_lt_of_le (hs.r.hi x hx) hszU
      loO:=hs.r.loO
      hiO:=fun x hx=>Nat.lt_of_lt_of_le (hs.r.hiO x hx) hszU
      ap:=fun x hx hm=>by
       rcases List.mem_cons.1 hm with rfl | hm
       ·rcases hgM with q | q
        ·exact hs.r.ap _ hx q
        ·have:=hs.r.hiO _ hx;omega
       ·exact hs.r.ap x hx hm
      oR:=by have:=slotCells_put st.next.rn st.next.ro st.next.ri (n.getD 0 0) (n.getD 1 0) (n.getD 2 0) st.next.nR;rw [← this] at hown;exact owns_at hown fun x hx=>set_other (by cases hx;exact hgS) _
      oS:=own hs.r.oS (by decide) (by decide) hs.r.bS
      oL:=own hs.r.oL (by decide) (by decide) hs.r.bL
      oO:=own hs.r.oO (by decide) (by decide) hs.r.bO
      bR:=fun x hx=>by cases hx;exact List.mem_cons.2 (.inl rfl)
      bS:=fun x hx=>List.mem_cons.2 (.inr (hs.r.bS x hx))
      bL:=fun x hx=>List.mem_cons.2 (.inr (hs.r.bL x hx))
      bO:=fun x hx=>List.mem_cons.2 (.inr (hs.r.bO x hx))
      rD:=hs.r.rD.at hszU fun b off e h0=>hint (hs.r.bD b off e h0).2 (hs.r.bD b off e h0).1
      rM:=hs.r.rM.at hszU fun b off e h0=>hint (hs.r.bM b off e h0).2 (hs.r.bM b off e h0).1
      bD:=fun b off e h0=>⟨List.mem_cons.2 (.inr (hs.r.bD b off e h0).1),by rw [hint (hs.r.bD b off e h0).2 (hs.r.bD b off e h0).1];exact (hs.r.bD b off e h0).2⟩
      bM:=fun b off e h0=>⟨List.mem_cons.2 (.inr (hs.r.bM b off e h0).1),by rw [hint (hs.r.bM b off e h0).2 (hs.r.bM b off e h0).1];exact (hs.r.bM b off e h0).2⟩
      nw:=hs.r.nw
      nD:=hs.r.nD
      nM:=hs.r.nM
      ns:=hs.r.ns
      nl:=hs.r.nl
      iL:=hs.r.iL
      iO:=hs.r.iO
      nL:=Nat.le_succ_of_le hs.r.nL
      nR:=Nat.succ_le_succ hs.r.nR
      clu:=fun fa cs c rd T e=>⟨cluOps.keep (hs.r.clu fa cs c rd T e).1 hOs,Nat.le_trans (hs.r.clu fa cs c rd T e).2 (Nat.le_succ N)⟩ }
theorem slot_end (hs:Ses V base S M O st A N) (hB:Below w.heap.size w V) (n:List Int) (E:Obj) (g c:Nat) (hg:(V.alloc E).grownBy w3 A.vS.ownBlock) (hown:w3.ownsRow base 80 3 (.slice (some ⟨g,0,none⟩) (st.plan.ns+1) c) (st.plan.ns+1) (slotCells st.plan.nd st.plan.fr st.plan.td st.plan.ns ++ [.int .i64 (n.getD 0 0),.int .i64 (n.getD 1 0),.int .i64 (n.getD 2 0)])) (hat:A.vS.ownBlock=some g∨g=V.heap.size+1) (hlt:g<w3.heap.size) (hc:st.clu=none) (hns:st.plan.ns<32) :
  Foot (M ++ O) ((g::M) ++ O) w (w3.setCell ⟨S,6,none⟩ (.slice (some ⟨g,0,none⟩) (st.plan.ns+1) c))∧Ses (w3.setCell ⟨S,6,none⟩ (.slice (some ⟨g,0,none⟩) (st.plan.ns+1) c)) base S (g::M) O { st with plan:=st.plan.slot n } { A with vS:=.slice (some ⟨g,0,none⟩) (st.plan.ns+1) c } (N+1):=by
 have hsz:V.heap.size≤w3.heap.size:=by have:=hg.size;simp at this;omega
 have hSlt:=hs.r.hi S hs.r.s
 have hSne:∀ x,A.vS.ownBlock=some x→x≠S:=fun x hx=>owns_ne hs.r.oS hs.blk (by decide) hx
 have hgS:g≠S:=by
  rcases hat with q | q
  ·exact hSne g q
  ·omega
 have hbk:∀ x,x<V.heap.size→A.vS.ownBlock≠some x→w3.heap[x]? = V.heap[x]?:=fun x hx hn=>(hg.block x (by simp;omega) (fun e=>hn e.symm)).trans (Below.heap_alloc V E x hx)
 have hS3:w3.heap[S]? = V.heap[S]?:=hbk S hSlt (fun e=>hSne S e rfl)
 have hblk:=set_blk (i:=6) (hS3.trans hs.blk) (.slice (some ⟨g,0,none⟩) (st.plan.ns+1) c)
 have hot:∀ x,x<V.heap.size→x≠S→A.vS.ownBlock≠some x→(w3.setCell ⟨S,6,none⟩ (.slice (some ⟨g,0,none⟩) (st.plan.ns+1) c)).heap[x]? = V.heap[x]?:=fun x h1 h2 h3=>(set_other h2 _).trans (hbk x h1 h3)
 have hty:∀ {e:TypeId} {x:Nat},(∃ cs fr,V.heap[x]? = some (.cells cs e fr))→e≠80→A.vS.ownBlock≠some x:=fun ⟨_,_,q⟩ h2 h3=>by
  obtain ⟨_,_,q2⟩:=owns_blk hs.r.oS h3
  exact blk_ne q2 q (Ne.symm h2) rfl
 have own:∀ {e:TypeId} {size:Nat} {v:Value} {k:Nat} {xs:List Value},V.ownsRow base e size v k xs→e≠56→e≠80→(∀ x,v.ownBlock=some x→x∈M)→(w3.setCell ⟨S,6,none⟩ (.slice (some ⟨g,0,none⟩) (st.plan.ns+1) c)).ownsRow base e size v k xs:=fun h1 h2 h2' h3=>owns_at h1 fun x hx=>hot x (hs.r.hi x (h3 x hx)) (owns_ne h1 hs.blk h2 hx) (hty (owns_blk h1 hx) h2')
 have hszU:V.heap.size≤(w3.setCell ⟨S,6,none⟩ (.slice (some ⟨g,0,none⟩) (st.plan.ns+1) c)).heap.size:=by simpa using hsz
 have hint:∀ {x:Nat},(∃ cs fr,V.heap[x]? = some (.cells cs 3 fr))→x∈M→(w3.setCell ⟨S,6,none⟩ (.slice (some ⟨g,0,none⟩) (st.plan.ns+1) c)).heap[x]? = V.heap[x]?:=fun q h2=>hot _ (hs.r.hi _ h2) (by obtain ⟨_,_,q⟩:=q;exact blk_ne q hs.blk (by decide)) (hty q (by decide))
 have hgM:g∈M∨g=V.heap.size+1:=hat.imp (hs.r.bS g) id
 have hlo:=hs.r.lo S hs.r.s
 have hwV:=hB.size
 refine ⟨⟨?_,?_,?_,?_,?_,?_⟩,?_,hblk⟩
 ·exact hg.os.trans hB.os
 ·exact hg.tape.trans hB.tape
 ·exact hg.output.trans hB.output
 ·simp;omega
 ·intro x hx hn
  have hxV:x<V.heap.size:=by omega
  refine (hot x hxV (fun e=>hn (List.mem_append.2 (.inl (e▸hs.r.s)))) (fun e=>hn (List.mem_append.2 (.inl (hs.r.bS x e))))).trans (hB.block x hx)
 ·intro x hx
  simp only [List.cons_append,List.mem_cons] at hx
  rcases hx with rfl | hx
  ·rcases hgM with q | q
   ·exact .inl (List.mem_append.2 (.inl q))
   ·exact .inr (by omega)
  ·exact .inl hx
 ·exact {
      s:=List.mem_cons.2 (.inr hs.r.s)
      lo:=fun x hx=>by
       rcases List.mem_cons.1 hx with rfl | hx
       ·rcases hgM with q | q
        ·exact hs.r.lo _ q
        ·omega
       ·exact hs.r.lo x hx
      hi:=fun x hx=>by
       rcases List.mem_cons.1 hx with rfl | hx
       ·simpa using hlt
       ·exact Nat.lt_of_lt_of_le (hs.r.hi x hx) hszU
      loO:=hs.r.loO
      hiO:=fun x hx=>Nat.lt_of_lt_of_le (hs.r.hiO x hx) hszU
      ap:=fun x hx hm=>by
       rcases List.mem_cons.1 hm with rfl | hm
       ·rcases hgM with q | q
        ·exact hs.r.ap _ hx q
        ·have:=hs.r.hiO _ hx;omega
       ·exact hs.r.ap x hx hm
      oS:=by have:=slotCells_put st.plan.nd st.plan.fr st.plan.td (n.getD 0 0) (n.getD 1 0) (n.getD 2 0) st.plan.ns;rw [← this] at hown;exact owns_at hown fun x hx=>set_other (by cases hx;exact hgS) _
      oL:=own hs.r.oL (by decide) (by decide) hs.r.bL
      oO:=own hs.r.oO (by decide) (by decide) hs.r.bO
      oR:=own hs.r.oR (by decide) (by decide) hs.r.bR
      bS:=fun x hx=>by cases hx;exact List.mem_cons.2 (.inl rfl)
      bL:=fun x hx=>List.mem_cons.2 (.inr (hs.r.bL x hx))
      bO:=fun x hx=>List.mem_cons.2 (.inr (hs.r.bO x hx))
      bR:=fun x hx=>List.mem_cons.2 (.inr (hs.r.bR x hx))
      rD:=hs.r.rD.at hszU fun b off e h0=>hint (hs.r.bD b off e h0).2 (hs.r.bD b off e h0).1
      rM:=hs.r.rM.at hszU fun b off e h0=>hint (hs.r.bM b off e h0).2 (hs.r.bM b off e h0).1
      bD:=fun b off e h0=>⟨List.mem_cons.2 (.inr (hs.r.bD b off e h0).1),by rw [hint (hs.r.bD b off e h0).2 (hs.r.bD b off e h0).1];exact (hs.r.bD b off e h0).2⟩
      bM:=fun b off e h0=>⟨List.mem_cons.2 (.inr (hs.r.bM b off e h0).1),by rw [hint (hs.r.bM b off e h0).2 (hs.r.bM b off e h0).1];exact (hs.r.bM b off e h0).2⟩
      nw:=hs.r.nw
      nD:=hs.r.nD
      nM:=hs.r.nM
      ns:=hns
      nl:=hs.r.nl
      iL:=hs.r.iL
      iO:=hs.r.iO
      nL:=Nat.le_succ_of_le hs.r.nL
      nR:=Nat.le_succ_of_le hs.r.nR
      clu:=fun fa cs c rd T e=>by rw [show st.clu=none from hc] at e;cases e }
theorem link_end (hs:Ses V base S M O st A N) (hB:Below w.heap.size w V) (n:List Int) (E:Obj) (g c:Nat) (hg:(V.alloc E).grownBy w3 A.vL.ownBlock) (hown:w3.ownsRow base 84 4 (.slice (some ⟨g,0,none⟩) (st.plan.nl+1) c) (st.plan.nl+1) (quadCells st.plan.lf st.plan.lt st.plan.lb st.plan.lq st.plan.nl ++ [.int .i64 (n.getD 0 0),.int .i64 (n.getD 1 0),.int .i64 (n.getD 2 0),.int .i64 (n.getD 3 0)])) (hat:A.vL.ownBlock=some g∨g=V.heap.size+1) (hlt:g<w3.heap.size) (hc:st.clu=none) (hns:st.plan.nl<8) (hi:intR (n.getD 1 0)) :
  Foot (M ++ O) ((g::M) ++ O) w (w3.setCell ⟨S,7,none⟩ (.slice (some ⟨g,0,none⟩) (st.plan.nl+1) c))∧Ses (w3.setCell ⟨S,7,none⟩ (.slice (some ⟨g,0,none⟩) (st.plan.nl+1) c)) base S (g::M) O { st with plan:=st.plan.link n } { A with vL:=.slice (some ⟨g,0,none⟩) (st.plan.nl+1) c } (N+1):=by
 have hsz:V.heap.size≤w3.heap.size:=by have:=hg.size;simp at this;omega
 have hSlt:=hs.r.hi S hs.r.s
 have hSne:∀ x,A.vL.ownBlock=some x→x≠S:=fun x hx=>owns_ne hs.r.oL hs.blk (by decide) hx
 have hgS:g≠S:=by
  rcases hat with q | q
  ·exact hSne g q
  ·omega
 have hbk:∀ x,x<V.heap.size→A.vL.ownBlock≠some x→w3.heap[x]? = V.heap[x]?:=fun x hx hn=>(hg.block x (by simp;omega) (fun e=>hn e.symm)).trans (Below.heap_alloc V E x hx)
 have hS3:w3.heap[S]? = V.heap[S]?:=hbk S hSlt (fun e=>hSne S e rfl)
 have hblk:=set_blk (i:=7) (hS3.trans hs.blk) (.slice (some ⟨g,0,none⟩) (st.plan.nl+1) c)
 have hot:∀ x,x<V.heap.size→x≠S→A.vL.ownBlock≠some x→(w3.setCell ⟨S,7,none⟩ (.slice (some ⟨g,0,none⟩) (st.plan.nl+1) c)).heap[x]? = V.heap[x]?:=fun x h1 h2 h3=>(set_other h2 _).trans (hbk x h1 h3)
 have hty:∀ {e:TypeId} {x:Nat},(∃ cs fr,V.heap[x]? = some (.cells cs e fr))→e≠84→A.vL.ownBlock≠some x:=fun ⟨_,_,q⟩ h2 h3=>by
  obtain ⟨_,_,q2⟩:=owns_blk hs.r.oL h3
  exact blk_ne q2 q (Ne.symm h2) rfl
 have own:∀ {e:TypeId} {size:Nat} {v:Value} {k:Nat} {xs:List Value},V.ownsRow base e size v k xs→e≠56→e≠84→(∀ x,v.ownBlock=some x→x∈M)→(w3.setCell ⟨S,7,none⟩ (.slice (some ⟨g,0,none⟩) (st.plan.nl+1) c)).ownsRow base e size v k xs:=fun h1 h2 h2' h3=>owns_at h1 fun x hx=>hot x (hs.r.hi x (h3 x hx)) (owns_ne h1 hs.blk h2 hx) (hty (owns_blk h1 hx) h2')
 have hszU:V.heap.size≤(w3.setCell ⟨S,7,none⟩ (.slice (some ⟨g,0,none⟩) (st.plan.nl+1) c)).heap.size:=by simpa using hsz
 have hint:∀ {x:Nat},(∃ cs fr,V.heap[x]? = some (.cells cs 3 fr))→x∈M→(w3.setCell ⟨S,7,none⟩ (.slice (some ⟨g,0,none⟩) (st.plan.nl+1) c)).heap[x]? = V.heap[x]?:=fun q h2=>hot _ (hs.r.hi _ h2) (by obtain ⟨_,_,q⟩:=q;exact blk_ne q hs.blk (by decide)) (hty q (by decide))
 have hgM:g∈M∨g=V.heap.size+1:=hat.imp (hs.r.bL g) id
 have hlo:=hs.r.lo S hs.r.s
 have hwV:=hB.size
 refine ⟨⟨?_,?_,?_,?_,?_,?_⟩,?_,hblk⟩
 ·exact hg.os.trans hB.os
 ·exact hg.tape.trans hB.tape
 ·exact hg.output.trans hB.output
 ·simp;omega
 ·intro x hx hn
  have hxV:x<V.heap.size:=by omega
  refine (hot x hxV (fun e=>hn (List.mem_append.2 (.inl (e▸hs.r.s)))) (fun e=>hn (List.mem_append.2 (.inl (hs.r.bL x e))))).trans (hB.block x hx)
 ·intro x hx
  simp only [List.cons_append,List.mem_cons] at hx
  rcases hx with rfl | hx
  ·rcases hgM with q | q
   ·exact .inl (List.mem_append.2 (.inl q))
   ·exact .inr (by omega)
  ·exact .inl hx
 ·exact {
      s:=List.mem_cons.2 (.inr hs.r.s)
      lo:=fun x hx=>by
       rcases List.mem_cons.1 hx with rfl | hx
       ·rcases hgM with q | q
        ·exact hs.r.lo _ q
        ·omega
       ·exact hs.r.lo x hx
      hi:=fun x hx=>by
       rcases List.mem_cons.1 hx with rfl | hx
       ·simpa using hlt
       ·exact Nat.lt_of_lt_of_le (hs.r.hi x hx) hszU
      loO:=hs.r.loO
      hiO:=fun x hx=>Nat.lt_of_lt_of_le (hs.r.hiO x hx) hszU
      ap:=fun x hx hm=>by
       rcases List.mem_cons.1 hm with rfl | hm
       ·rcases hgM with q | q
        ·exact hs.r.ap _ hx q
        ·have:=hs.r.hiO _ hx;omega
       ·exact hs.r.ap x hx hm
      oL:=by have:=quadCells_put st.plan.lf st.plan.lt st.plan.lb st.plan.lq (n.getD 0 0) (n.getD 1 0) (n.getD 2 0) (n.getD 3 0) st.plan.nl;rw [← this] at hown;exact owns_at hown fun x hx=>set_other (by cases hx;exact hgS) _
      oS:=own hs.r.oS (by decide) (by decide) hs.r.bS
      oO:=own hs.r.oO (by decide) (by decide) hs.r.bO
      oR:=own hs.r.oR (by decide) (by decide) hs.r.bR
      bL:=fun x hx=>by cases hx;exact List.mem_cons.2 (.inl rfl)
      bS:=fun x hx=>List.mem_cons.2 (.inr (hs.r.bS x hx))
      bO:=fun x hx=>List.mem_cons.2 (.inr (hs.r.bO x hx))
      bR:=fun x hx=>List.mem_cons.2 (.inr (hs.r.bR x hx))
      rD:=hs.r.rD.at hszU fun b off e h0=>hint (hs.r.bD b off e h0).2 (hs.r.bD b off e h0).1
      rM:=hs.r.rM.at hszU fun b off e h0=>hint (hs.r.bM b off e h0).2 (hs.r.bM b off e h0).1
      bD:=fun b off e h0=>⟨List.mem_cons.2 (.inr (hs.r.bD b off e h0).1),by rw [hint (hs.r.bD b off e h0).2 (hs.r.bD b off e h0).1];exact (hs.r.bD b off e h0).2⟩
      bM:=fun b off e h0=>⟨List.mem_cons.2 (.inr (hs.r.bM b off e h0).1),by rw [hint (hs.r.bM b off e h0).2 (hs.r.bM b off e h0).1];exact (hs.r.bM b off e h0).2⟩
      nw:=hs.r.nw
      nD:=hs.r.nD
      nM:=hs.r.nM
      ns:=hs.r.ns
      nl:=hns
      iL:=fun k hk=>by
       show intR (updI st.plan.lt st.plan.nl (n.getD 1 0) k)
       unfold updI
       split
       ·exact hi
       ·exact hs.r.iL k (by have:k<st.plan.nl+1:=hk;omega)
      iO:=hs.r.iO
      nL:=Nat.le_succ_of_le hs.r.nL
      nR:=Nat.le_succ_of_le hs.r.nR
      clu:=fun fa cs c rd T e=>by rw [show st.clu=none from hc] at e;cases e }
theorem Tryz.info_lose:(Tryz.prog.info? 98).map (fun i=>(i.zero,i.size,i.bytes))=some (some (.agg #[.int .i64 0,.int .i64 0,.int .i64 0]),3,24):=by kernel_rfl
theorem lose_does (h:Ses w base S M O st A N) (hN:N≤100000) (n:List Int) (hn:n.length=3) (hi:intR (n.getD 2 0)) (a:Option Addr) (cap:Nat) (tx:ByteArray) (hr:NumsIn w M a n) :
  Calls Tryz.prog 20 #[.pointer (some ⟨S,0,none⟩),.agg #[.slice a n.length cap,.string tx]] w (DoesP base S M O st N .lose_ n tx w):=by
 obtain ⟨b,off,rfl,hbl,hc⟩:=hr.1 (by omega)
 have hne:b≠S:=hr.ne h rfl (by omega)
 obtain ⟨_,bcs,bfr,hbt⟩:=hr.2 b off rfl (by omega)
 rw [hn] at hc ⊢
 obtain ⟨i0,hi0,hz0,hz1,hz2⟩:=info_parts Tryz.info_lose
 generalize hV:w.alloc (.cells #[.slice (some ⟨b,off,none⟩) 3 cap,.string tx] 71)=V
 have hB:Below w.heap.size w V:=hV▸(Below.refl _ w).alloc (Nat.le_refl _) _
 have x0:V.cell? ⟨w.heap.size,0,none⟩=some (.slice (some ⟨b,off,none⟩) 3 cap):=by rw [← hV];simp [go_sem]
 have n0:V.cell? ⟨b,off,none⟩=some (.int .i64 (n.getD 0 0)):=(hB.cell (p:=⟨b,off,none⟩) hbl).trans (hc 0 (by decide))
 have n1:V.cell? ⟨b,off+1,none⟩=some (.int .i64 (n.getD 1 0)):=(hB.cell (p:=⟨b,off+1,none⟩) hbl).trans (hc 1 (by decide))
 have n2:V.cell? ⟨b,off+2,none⟩=some (.int .i64 (n.getD 2 0)):=(hB.cell (p:=⟨b,off+2,none⟩) hbl).trans (hc 2 (by decide))
 have hs:=h.below hB
 have c0:=cell_blk hs.blk (i:=11) rfl
 have z0:=soft_blk hs.blk (i:=11)
 have hSl:=hs.r.hi S hs.r.s
 have hbV:b<V.heap.size:=Nat.lt_of_lt_of_le hbl hB.size
 have hbt':V.heap[b]? = some (.cells bcs 3 bfr):=(hB.block b hbl).trans hbt
 have hnn:=hs.r.nL
 have HNE:Hid (b≠S):=hne
 have HLO:Hid (base≤V.heap.size):=Nat.le_trans (hs.r.lo S hs.r.s) (Nat.le_of_lt hSl)
 have HEND:Hid (∀ w3 g c,(V.alloc (.cells #[.int .i64 (n.getD 0 0),.int .i64 (n.getD 1 0),.int .i64 (n.getD 2 0)] 98)).grownBy w3 A.vO.ownBlock→w3.ownsRow base 98 3 (.slice (some ⟨g,0,none⟩) (st.next.nL+1) c) (st.next.nL+1) (slotCells st.next.ls st.next.lc st.next.lt st.next.nL ++ [.int .i64 (n.getD 0 0),.int .i64 (n.getD 1 0),.int .i64 (n.getD 2 0)])→(A.vO.ownBlock=some g∨g=V.heap.size+1)→g<w3.heap.size→DoesP base S M O st N .lose_ n tx w (.returned (.string Kd.lose_.name)) (w3.setCell ⟨S,11,none⟩ (.slice (some ⟨g,0,none⟩) (st.next.nL+1) c))):=fun w3 g c hg hown hat hlt=>by
  obtain ⟨e1,e2⟩:=lose_end hs hB n _ g c hg hown hat hlt hi
  exact ⟨_,.ok Kd.lose_.name,_,_,_,⟨rfl,rfl⟩,rfl,e1,e2⟩
 have hvb:A.vO.ownBlock≠some b:=fun e=>by
  obtain ⟨_,_,q⟩:=owns_blk hs.r.oO e
  exact blk_ne q hbt' (by decide) rfl
 have hvS:A.vO.ownBlock≠some S:=fun e=>owns_ne hs.r.oO hs.blk (by decide) e rfl
 have HOW:Hid ((V.alloc (.cells #[.int .i64 (n.getD 0 0),.int .i64 (n.getD 1 0),.int .i64 (n.getD 2 0)] 98)).ownsRow base 98 3 A.vO st.next.nL (slotCells st.next.ls st.next.lc st.next.lt st.next.nL)):=hs.r.oO.alloc _
 have HNEW:Hid (∀ (j:Nat) (u:Value),[Value.int .i64 (n.getD 0 0),.int .i64 (n.getD 1 0),.int .i64 (n.getD 2 0)][j]? = some u→(V.alloc (.cells #[.int .i64 (n.getD 0 0),.int .i64 (n.getD 1 0),.int .i64 (n.getD 2 0)] 98)).drew.cell? ((⟨V.heap.size,0,none⟩:Addr).add j)=some u):=tri_new V _ _ _ _
 have HFIN:Hid (∀ w3,(V.alloc (.cells #[.int .i64 (n.getD 0 0),.int .i64 (n.getD 1 0),.int .i64 (n.getD 2 0)] 98)).grownBy w3 A.vO.ownBlock→w3.cell? ⟨b,off,none⟩=some (.int .i64 (n.getD 0 0))∧w3.cell? ⟨b,off+1,none⟩=some (.int .i64 (n.getD 1 0))∧w3.cell? ⟨b,off+2,none⟩=some (.int .i64 (n.getD 2 0))∧w3.cell? ⟨S,11,none⟩=some A.vO∧w3.frozen? ⟨S,11,none⟩=false):=fun w3 hg=>by
  have kb:w3.heap[b]? = V.heap[b]?:=(hg.block b (by simp;omega) (fun e=>hvb e.symm)).trans (Below.heap_alloc V _ b hbV)
  have kS:w3.heap[S]? = V.heap[S]?:=(hg.block S (by simp;omega) (fun e=>hvS e.symm)).trans (Below.heap_alloc V _ S hSl)
  exact ⟨(World.cell?_of_block (a:=⟨b,off,none⟩) kb).trans n0,(World.cell?_of_block (a:=⟨b,off+1,none⟩) kb).trans n1,(World.cell?_of_block (a:=⟨b,off+2,none⟩) kb).trans n2,(World.cell?_of_block (a:=⟨S,11,none⟩) kS).trans c0,(World.frozen?_of_block (a:=⟨S,11,none⟩) kS).trans z0⟩
 have m0:∀ o:Obj,(V.alloc o).cell? ⟨b,off,none⟩=some (.int .i64 (n.getD 0 0)):=fun o=>(((Below.refl _ V).alloc (Nat.le_refl _) o).cell (p:=⟨b,off,none⟩) hbV).trans n0
 have m1:∀ o:Obj,(V.alloc o).cell? ⟨b,off+1,none⟩=some (.int .i64 (n.getD 1 0)):=fun o=>(((Below.refl _ V).alloc (Nat.le_refl _) o).cell (p:=⟨b,off+1,none⟩) hbV).trans n1
 have m2:∀ o:Obj,(V.alloc o).cell? ⟨b,off+2,none⟩=some (.int .i64 (n.getD 2 0)):=fun o=>(((Below.refl _ V).alloc (Nat.le_refl _) o).cell (p:=⟨b,off+2,none⟩) hbV).trans n2
 have mc:∀ o:Obj,(V.alloc o).cell? ⟨S,11,none⟩=some A.vO:=fun o=>(((Below.refl _ V).alloc (Nat.le_refl _) o).cell (p:=⟨S,11,none⟩) hSl).trans c0
 generalize slotCells st.next.ls st.next.lc st.next.lt st.next.nL=cells at HOW HEND
 generalize n.getD 0 0=y0 at *
 generalize n.getD 1 0=y1 at *
 generalize n.getD 2 0=y2 at *
 replace c0:V.cell? ⟨S,11,none⟩=some A.vO:=c0
 generalize A.vO=vv at *
 generalize st.next.nL=nn at *
 clear hs h hr hc hB hbt hbt' hvb hvS hn
 go_enter Tryz.func20,Tryz.ntmps20
 go_wp2_with fail
 refine wp_region_held_drew (S:=fun u=>u.cell? ⟨b,off,none⟩=some (.int .i64 y0)∧u.cell? ⟨b,off+1,none⟩=some (.int .i64 y1)∧u.cell? ⟨b,off+2,none⟩=some (.int .i64 y2)) (by kernel_rfl) ⟨n0,n1,n2⟩ (fun hHeld=>?_)
 refine tk 0 hHeld ?_
 refine tk 1 hHeld ?_
 refine tk 2 hHeld ?_
 refine tk 3 hHeld ?_
 refine tk 4 hHeld ?_
 refine tk 6 hHeld ?_
 refine tk 7 hHeld ?_
 refine tk 8 hHeld ?_
 refine tk 9 hHeld ?_
 refine tk 10 hHeld ?_
 refine tk 11 hHeld ?_
 refine tk 12 hHeld ?_
 refine tk 13 hHeld ?_
 refine tk 14 hHeld ?_
 refine tk 15 hHeld ?_
 refine rd2 5 16 (fun K hK=>?_) (fun K hK=>?_)
 ·go_simp
  refine kp hK (fun hHeld=>?_) ⟨n0,n1,n2⟩
  clear hK K
  refine rdy 16 fun K hK=>?_
  go_simp
  refine kp hK (fun hHeld=>?_) ⟨m0 _,m1 _,m2 _⟩
  clear hK K
  refine rdy 17 fun K hK=>?_
  refine step_append_lies _ (by rfl) _ _ _ (by rfl) base 98 i0 (.agg #[.int .i64 0,.int .i64 0,.int .i64 0]) 3 24 Tryz.underlying50 hi0 hz0 hz1 hz2 rfl (by decide) vv nn _ (by rfl) HOW.out ⟨V.heap.size,0,none⟩ 1 1 [.int .i64 y0,.int .i64 y1,.int .i64 y2] (by rfl) rfl HNEW.out (by simp [Value.oneCell']) (by decide) (by unfold maxLen;omega) (by omega) (by have:=HLO.out;simp;omega) (V.heap.size+1) (by simp) ?_
  intro gq cq w3 hown' hgrow0 hat hlt3
  have hgrow:=ungrew hgrow0
  clear hgrow0
  obtain ⟨r0,r1,r2,rc,rz⟩:=HFIN.out w3 hgrow
  refine kp hK (fun hHeld=>?_) ⟨r0,r1,r2⟩
  clear hK K
  refine tk 18 hHeld ?_
  refine tk 19 hHeld ?_
  refine tk 20 hHeld ?_
  refine rdy 21 fun K hK=>?_
  go_simp
  refine kp hK (fun hHeld=>?_) ⟨(cell_other (.inl HNE.out)).trans r0,(cell_other (.inl HNE.out)).trans r1,(cell_other (.inl HNE.out)).trans r2⟩
  clear hK K
  refine dn ?_
  go_wp2_with fail
  go_ret
  exact HEND.out w3 gq cq hgrow hown' hat hlt3
 ·go_simp
  refine kp hK (fun hHeld=>?_) ⟨m0 _,m1 _,m2 _⟩
  clear hK K
  refine rdy 5 fun K hK=>?_
  go_simp
  refine kp hK (fun hHeld=>?_) ⟨m0 _,m1 _,m2 _⟩
  clear hK K
  refine rdy 17 fun K hK=>?_
  refine step_append_lies _ (by rfl) _ _ _ (by rfl) base 98 i0 (.agg #[.int .i64 0,.int .i64 0,.int .i64 0]) 3 24 Tryz.underlying50 hi0 hz0 hz1 hz2 rfl (by decide) vv nn _ (by rfl) HOW.out ⟨V.heap.size,0,none⟩ 1 1 [.int .i64 y0,.int .i64 y1,.int .i64 y2] (by rfl) rfl HNEW.out (by simp [Value.oneCell']) (by decide) (by unfold maxLen;omega) (by omega) (by have:=HLO.out;simp;omega) (V.heap.size+1) (by simp) ?_
  intro gq cq w3 hown' hgrow0 hat hlt3
  have hgrow:=ungrew hgrow0
  clear hgrow0
  obtain ⟨r0,r1,r2,rc,rz⟩:=HFIN.out w3 hgrow
  refine kp hK (fun hHeld=>?_) ⟨r0,r1,r2⟩
  clear hK K
  refine tk 18 hHeld ?_
  refine tk 19 hHeld ?_
  refine tk 20 hHeld ?_
  refine rdy 21 fun K hK=>?_
  go_simp
  refine kp hK (fun hHeld=>?_) ⟨(cell_other (.inl HNE.out)).trans r0,(cell_other (.inl HNE.out)).trans r1,(cell_other (.inl HNE.out)).trans r2⟩
  clear hK K
  refine dn ?_
  go_wp2_with fail
  go_ret
  exact HEND.out w3 gq cq hgrow hown' hat hlt3
theorem Tryz.info_read:(Tryz.prog.info? 100).map (fun i=>(i.zero,i.size,i.bytes))=some (some (.agg #[.int .i64 0,.int .i64 0,.int .i64 0]),3,24):=by kernel_rfl
theorem read_does (h:Ses w base S M O st A N) (hN:N≤100000) (n:List Int) (hn:n.length=3) (a:Option Addr) (cap:Nat) (tx:ByteArray) (hr:NumsIn w M a n) :
  Calls Tryz.prog 21 #[.pointer (some ⟨S,0,none⟩),.agg #[.slice a n.length cap,.string tx]] w (DoesP base S M O st N .read_ n tx w):=by
 obtain ⟨b,off,rfl,hbl,hc⟩:=hr.1 (by omega)
 have hne:b≠S:=hr.ne h rfl (by omega)
 obtain ⟨_,bcs,bfr,hbt⟩:=hr.2 b off rfl (by omega)
 rw [hn] at hc ⊢
 obtain ⟨i0,hi0,hz0,hz1,hz2⟩:=info_parts Tryz.info_read
 generalize hV:w.alloc (.cells #[.slice (some ⟨b,off,none⟩) 3 cap,.string tx] 71)=V
 have hB:Below w.heap.size w V:=hV▸(Below.refl _ w).alloc (Nat.le_refl _) _
 have x0:V.cell? ⟨w.heap.size,0,none⟩=some (.slice (some ⟨b,off,none⟩) 3 cap):=by rw [← hV];simp [go_sem]
 have n0:V.cell? ⟨b,off,none⟩=some (.int .i64 (n.getD 0 0)):=(hB.cell (p:=⟨b,off,none⟩) hbl).trans (hc 0 (by decide))
 have n1:V.cell? ⟨b,off+1,none⟩=some (.int .i64 (n.getD 1 0)):=(hB.cell (p:=⟨b,off+1,none⟩) hbl).trans (hc 1 (by decide))
 have n2:V.cell? ⟨b,off+2,none⟩=some (.int .i64 (n.getD 2 0)):=(hB.cell (p:=⟨b,off+2,none⟩) hbl).trans (hc 2 (by decide))
 have hs:=h.below hB
 have c0:=cell_blk hs.blk (i:=12) rfl
 have z0:=soft_blk hs.blk (i:=12)
 have hSl:=hs.r.hi S hs.r.s
 have hbV:b<V.heap.size:=Nat.lt_of_lt_of_le hbl hB.size
 have hbt':V.heap[b]? = some (.cells bcs 3 bfr):=(hB.block b hbl).trans hbt
 have hnn:=hs.r.nR
 have HNE:Hid (b≠S):=hne
 have HLO:Hid (base≤V.heap.size):=Nat.le_trans (hs.r.lo S hs.r.s) (Nat.le_of_lt hSl)
 have HEND:Hid (∀ w3 g c,(V.alloc (.cells #[.int .i64 (n.getD 0 0),.int .i64 (n.getD 1 0),.int .i64 (n.getD 2 0)] 100)).grownBy w3 A.vR.ownBlock→w3.ownsRow base 100 3 (.slice (some ⟨g,0,none⟩) (st.next.nR+1) c) (st.next.nR+1) (slotCells st.next.rn st.next.ro st.next.ri st.next.nR ++ [.int .i64 (n.getD 0 0),.int .i64 (n.getD 1 0),.int .i64 (n.getD 2 0)])→(A.vR.ownBlock=some g∨g=V.heap.size+1)→g<w3.heap.size→DoesP base S M O st N .read_ n tx w (.returned (.string Kd.read_.name)) (w3.setCell ⟨S,12,none⟩ (.slice (some ⟨g,0,none⟩) (st.next.nR+1) c))):=fun w3 g c hg hown hat hlt=>by
  obtain ⟨e1,e2⟩:=read_end hs hB n _ g c hg hown hat hlt
  exact ⟨_,.ok Kd.read_.name,_,_,_,⟨rfl,rfl⟩,rfl,e1,e2⟩
 have hvb:A.vR.ownBlock≠some b:=fun e=>by
  obtain ⟨_,_,q⟩:=owns_blk hs.r.oR e
  exact blk_ne q hbt' (by decide) rfl
 have hvS:A.vR.ownBlock≠some S:=fun e=>owns_ne hs.r.oR hs.blk (by decide) e rfl
 have HOW:Hid ((V.alloc (.cells #[.int .i64 (n.getD 0 0),.int .i64 (n.getD 1 0),.int .i64 (n.getD 2 0)] 100)).ownsRow base 100 3 A.vR st.next.nR (slotCells st.next.rn st.next.ro st.next.ri st.next.nR)):=hs.r.oR.alloc _
 have HNEW:Hid (∀ (j:Nat) (u:Value),[Value.int .i64 (n.getD 0 0),.int .i64 (n.getD 1 0),.int .i64 (n.getD 2 0)][j]? = some u→(V.alloc (.cells #[.int .i64 (n.getD 0 0),.int .i64 (n.getD 1 0),.int .i64 (n.getD 2 0)] 100)).drew.cell? ((⟨V.heap.size,0,none⟩:Addr).add j)=some u):=tri_new V _ _ _ _
 have HFIN:Hid (∀ w3,(V.alloc (.cells #[.int .i64 (n.getD 0 0),.int .i64 (n.getD 1 0),.int .i64 (n.getD 2 0)] 100)).grownBy w3 A.vR.ownBlock→w3.cell? ⟨b,off,none⟩=some (.int .i64 (n.getD 0 0))∧w3.cell? ⟨b,off+1,none⟩=some (.int .i64 (n.getD 1 0))∧w3.cell? ⟨b,off+2,none⟩=some (.int .i64 (n.getD 2 0))∧w3.cell? ⟨S,12,none⟩=some A.vR∧w3.frozen? ⟨S,12,none⟩=false):=fun w3 hg=>by
  have kb:w3.heap[b]? = V.heap[b]?:=(hg.block b (by simp;omega) (fun e=>hvb e.symm)).trans (Below.heap_alloc V _ b hbV)
  have kS:w3.heap[S]? = V.heap[S]?:=(hg.block S (by simp;omega) (fun e=>hvS e.symm)).trans (Below.heap_alloc V _ S hSl)
  exact ⟨(World.cell?_of_block (a:=⟨b,off,none⟩) kb).trans n0,(World.cell?_of_block (a:=⟨b,off+1,none⟩) kb).trans n1,(World.cell?_of_block (a:=⟨b,off+2,none⟩) kb).trans n2,(World.cell?_of_block (a:=⟨S,12,none⟩) kS).trans c0,(World.frozen?_of_block (a:=⟨S,12,none⟩) kS).trans z0⟩
 have m0:∀ o:Obj,(V.alloc o).cell? ⟨b,off,none⟩=some (.int .i64 (n.getD 0 0)):=fun o=>(((Below.refl _ V).alloc (Nat.le_refl _) o).cell (p:=⟨b,off,none⟩) hbV).trans n0
 have m1:∀ o:Obj,(V.alloc o).cell? ⟨b,off+1,none⟩=some (.int .i64 (n.getD 1 0)):=fun o=>(((Below.refl _ V).alloc (Nat.le_refl _) o).cell (p:=⟨b,off+1,none⟩) hbV).trans n1
 have m2:∀ o:Obj,(V.alloc o).cell? ⟨b,off+2,none⟩=some (.int .i64 (n.getD 2 0)):=fun o=>(((Below.refl _ V).alloc (Nat.le_refl _) o).cell (p:=⟨b,off+2,none⟩) hbV).trans n2
 have mc:∀ o:Obj,(V.alloc o).cell? ⟨S,12,none⟩=some A.vR:=fun o=>(((Below.refl _ V).alloc (Nat.le_refl _) o).cell (p:=⟨S,12,none⟩) hSl).trans c0
 generalize slotCells st.next.rn st.next.ro st.next.ri st.next.nR=cells at HOW HEND
 generalize n.getD 0 0=y0 at *
 generalize n.getD 1 0=y1 at *
 generalize n.getD 2 0=y2 at *
 replace c0:V.cell? ⟨S,12,none⟩=some A.vR:=c0
 generalize A.vR=vv at *
 generalize st.next.nR=nn at *
 clear hs h hr hc hB hbt hbt' hvb hvS hn
 go_enter Tryz.func21,Tryz.ntmps21
 go_wp2_with fail
 refine wp_region_held_drew (S:=fun u=>u.cell? ⟨b,off,none⟩=some (.int .i64 y0)∧u.cell? ⟨b,off+1,none⟩=some (.int .i64 y1)∧u.cell? ⟨b,off+2,none⟩=some (.int .i64 y2)) (by kernel_rfl) ⟨n0,n1,n2⟩ (fun hHeld=>?_)
 refine tk 0 hHeld ?_
 refine tk 1 hHeld ?_
 refine tk 2 hHeld ?_
 refine tk 3 hHeld ?_
 refine tk 4 hHeld ?_
 refine tk 6 hHeld ?_
 refine tk 7 hHeld ?_
 refine tk 8 hHeld ?_
 refine tk 9 hHeld ?_
 refine tk 10 hHeld ?_
 refine tk 11 hHeld ?_
 refine tk 12 hHeld ?_
 refine tk 13 hHeld ?_
 refine tk 14 hHeld ?_
 refine tk 15 hHeld ?_
 refine rd2 5 16 (fun K hK=>?_) (fun K hK=>?_)
 ·go_simp
  refine kp hK (fun hHeld=>?_) ⟨n0,n1,n2⟩
  clear hK K
  refine rdy 16 fun K hK=>?_
  go_simp
  refine kp hK (fun hHeld=>?_) ⟨m0 _,m1 _,m2 _⟩
  clear hK K
  refine rdy 17 fun K hK=>?_
  refine step_append_lies _ (by rfl) _ _ _ (by rfl) base 100 i0 (.agg #[.int .i64 0,.int .i64 0,.int .i64 0]) 3 24 Tryz.underlying51 hi0 hz0 hz1 hz2 rfl (by decide) vv nn _ (by rfl) HOW.out ⟨V.heap.size,0,none⟩ 1 1 [.int .i64 y0,.int .i64 y1,.int .i64 y2] (by rfl) rfl HNEW.out (by simp [Value.oneCell']) (by decide) (by unfold maxLen;omega) (by omega) (by have:=HLO.out;simp;omega) (V.heap.size+1) (by simp) ?_
  intro gq cq w3 hown' hgrow0 hat hlt3
  have hgrow:=ungrew hgrow0
  clear hgrow0
  obtain ⟨r0,r1,r2,rc,rz⟩:=HFIN.out w3 hgrow
  refine kp hK (fun hHeld=>?_) ⟨r0,r1,r2⟩
  clear hK K
  refine tk 18 hHeld ?_
  refine tk 19 hHeld ?_
  refine tk 20 hHeld ?_
  refine rdy 21 fun K hK=>?_
  go_simp
  refine kp hK (fun hHeld=>?_) ⟨(cell_other (.inl HNE.out)).trans r0,(cell_other (.inl HNE.out)).trans r1,(cell_other (.inl HNE.out)).trans r2⟩
  clear hK K
  refine dn ?_
  go_wp2_with fail
  go_ret
  exact HEND.out w3 gq cq hgrow hown' hat hlt3
 ·go_simp
  refine kp hK (fun hHeld=>?_) ⟨m0 _,m1 _,m2 _⟩
  clear hK K
  refine rdy 5 fun K hK=>?_
  go_simp
  refine kp hK (fun hHeld=>?_) ⟨m0 _,m1 _,m2 _⟩
  clear hK K
  refine rdy 17 fun K hK=>?_
  refine step_append_lies _ (by rfl) _ _ _ (by rfl) base 100 i0 (.agg #[.int .i64 0,.int .i64 0,.int .i64 0]) 3 24 Tryz.underlying51 hi0 hz0 hz1 hz2 rfl (by decide) vv nn _ (by rfl) HOW.out ⟨V.heap.size,0,none⟩ 1 1 [.int .i64 y0,.int .i64 y1,.int .i64 y2] (by rfl) rfl HNEW.out (by simp [Value.oneCell']) (by decide) (by unfold maxLen;omega) (by omega) (by have:=HLO.out;simp;omega) (V.heap.size+1) (by simp) ?_
  intro gq cq w3 hown' hgrow0 hat hlt3
  have hgrow:=ungrew hgrow0
  clear hgrow0
  obtain ⟨r0,r1,r2,rc,rz⟩:=HFIN.out w3 hgrow
  refine kp hK (fun hHeld=>?_) ⟨r0,r1,r2⟩
  clear hK K
  refine tk 18 hHeld ?_
  refine tk 19 hHeld ?_
  refine tk 20 hHeld ?_
  refine rdy 21 fun K hK=>?_
  go_simp
  refine kp hK (fun hHeld=>?_) ⟨(cell_other (.inl HNE.out)).trans r0,(cell_other (.inl HNE.out)).trans r1,(cell_other (.inl HNE.out)).trans r2⟩
  clear hK K
  refine dn ?_
  go_wp2_with fail
  go_ret
  exact HEND.out w3 gq cq hgrow hown' hat hlt3
end
end
end Go.Proofs.YthccoinonjoleaaGreatDoor
