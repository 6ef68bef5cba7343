import Derived.Test.YthccoinonjoleaaGreatDoorZDkRows
namespace Go.Proofs.YthccoinonjoleaaGreatDoor
open Go.RowKit
set_option maxRecDepth 100000
set_option maxHeartbeats 16000000
section
theorem DoesP.pre {base S N:Nat} {M O:List Nat} {st:DkS} {k:Kd} {n:List Int} {tx:ByteArray} {w V w':World} {e:Ending} (h:DoesP base S M O st N k n tx V e w') (hB:Below w.heap.size w V):DoesP base S M O st N k n tx w e w':=by
 obtain ⟨st',r,M',O',A',h1,h2,h3,h4⟩:=h
 exact ⟨st',r,M',O',A',h1,h2,(Foot.of_below hB).trans h3,h4⟩
theorem DoesP.undrawn {base S N:Nat} {M O:List Nat} {st:DkS} {k:Kd} {n:List Int} {tx:ByteArray} {w w':World} {e:Ending} {q:Nat} (h:DoesP base S M O st N k n tx (w.drewN q) e w'):DoesP base S M O st N k n tx w e w':=h.pre (bdN w q)
theorem quad_new (v:World) (a b c d:Value) (t:TypeId):∀ (j:Nat) (u:Value),[a,b,c,d][j]? = some u→(v.alloc (.cells #[a,b,c,d] t)).drew.cell? ((⟨v.heap.size,0,none⟩:Addr).add j)=some u:=fun j u hu=>by
 rw [add_at,Nat.zero_add]
 have:=World.cell?_alloc_new v #[a,b,c,d] t j
 refine this.trans ?_
 simpa using hu
section
variable {w:World} {base S:Nat} {M O:List Nat} {st:DkS} {A:SesA} {N:Nat}
theorem Tryz.info_slot:(Tryz.prog.info? 80).map (fun i=>(i.zero,i.size,i.bytes))=some (some (.agg #[.int .i64 0,.int .i64 0,.int .i64 0]),3,24):=by kernel_rfl
theorem addTo_slot_no (u:World) (h:Ses u base S M O st A N) (hns:¬ st.plan.ns<32) (n:List Int) (tx:ByteArray) :
  Calls Tryz.prog 44 #[.pointer (some ⟨S,6,none⟩),.int .i64 32,.agg #[.int .i64 (n.getD 0 0),.int .i64 (n.getD 1 0),.int .i64 (n.getD 2 0)]] u (DoesP base S M O st N .slot_ n tx u):=by
 have hA:=fun u=>ask_no 4 u
 generalize hV:u.alloc (.cells #[.int .i64 (n.getD 0 0),.int .i64 (n.getD 1 0),.int .i64 (n.getD 2 0)] 80)=V
 have hB:Below u.heap.size u V:=hV▸(Below.refl _ u).alloc (Nat.le_refl _) _
 have hs:=h.below hB
 obtain ⟨va,vc,hvv⟩:∃ a c,A.vS=.slice a st.plan.ns c:=by
  exact (owns_tri hs.r.oS).elim fun a q=>q.elim fun c r=>⟨a,c,r.1⟩
 have c0:V.cell? ⟨S,6,none⟩=some (.slice va st.plan.ns vc):=hvv▸cell_blk hs.blk (i:=6) rfl
 have k0:decide ((st.plan.ns:Int)<32)=false:=decide_eq_false (by omega)
 have HE:Hid (DoesP base S M O st N .slot_ n tx u (thrown 4) V):=⟨st,.err 4,M,O,A,.inr ⟨hns,rfl,rfl⟩,rfl,Foot.of_below hB,hs.later (Nat.le_succ N)⟩
 generalize st.plan.ns=nn at c0 k0
 clear hs h hB hns
 generalize n.getD 0 0=y0 at *
 generalize n.getD 1 0=y1 at *
 generalize n.getD 2 0=y2 at *
 go_enter Tryz.func44,Tryz.ntmps44
 go_wp2_with fail
 refine (hA _).mono ?_
 rintro e u3 ⟨rfl,rfl⟩
 exact ⟨rfl,HE.out⟩
theorem addTo_slot_ok (u:World) (h:Ses u base S M O st A N) (hc:st.clu=none) (hns:st.plan.ns<32) (n:List Int) (tx:ByteArray) :
  Calls Tryz.prog 44 #[.pointer (some ⟨S,6,none⟩),.int .i64 32,.agg #[.int .i64 (n.getD 0 0),.int .i64 (n.getD 1 0),.int .i64 (n.getD 2 0)]] u (DoesP base S M O st N .slot_ n tx u):=by
 have hA:=fun u=>ask_yes 4 u
 obtain ⟨i0,hi0,hz0,hz1,hz2⟩:=info_parts Tryz.info_slot
 have HI:Hid (∀ v:World,Calls Tryz.prog 12 #[.int .i64 st.plan.ns] v fun e w'=>e=.returned (.string (itoaB st.plan.ns))∧w'=v):=fun v=>Tryz.strconv_Itoa_small st.plan.ns (by omega) v
 generalize hV:u.alloc (.cells #[.int .i64 (n.getD 0 0),.int .i64 (n.getD 1 0),.int .i64 (n.getD 2 0)] 80)=V
 have hB:Below u.heap.size u V:=hV▸(Below.refl _ u).alloc (Nat.le_refl _) _
 have hs:=h.below hB
 obtain ⟨va,vc,hvv⟩:∃ a c,A.vS=.slice a st.plan.ns c:=by
  exact (owns_tri hs.r.oS).elim fun a q=>q.elim fun c r=>⟨a,c,r.1⟩
 have c0:V.cell? ⟨S,6,none⟩=some A.vS:=cell_blk hs.blk (i:=6) rfl
 have z0:=soft_blk hs.blk (i:=6)
 have hSl:=hs.r.hi S hs.r.s
 have huS:=h.r.hi S h.r.s
 have hbl:u.heap.size<V.heap.size:=by rw [← hV];simp
 have x0:V.cell? ⟨u.heap.size,0,none⟩=some (.int .i64 (n.getD 0 0)):=by rw [← hV];simp [go_sem]
 have x1:V.cell? ⟨u.heap.size,1,none⟩=some (.int .i64 (n.getD 1 0)):=by rw [← hV];simp [go_sem]
 have x2:V.cell? ⟨u.heap.size,2,none⟩=some (.int .i64 (n.getD 2 0)):=by rw [← hV];simp [go_sem]
 have hne:u.heap.size≠S:=by omega
 have hbt:V.heap[u.heap.size]? = some (.cells #[.int .i64 (n.getD 0 0),.int .i64 (n.getD 1 0),.int .i64 (n.getD 2 0)] 80 (0,0)):=by rw [← hV];exact heap_alloc_new u _
 have HNE:Hid (u.heap.size≠S):=hne
 have HLO:Hid (base≤V.heap.size):=Nat.le_trans (hs.r.lo S hs.r.s) (Nat.le_of_lt hSl)
 have HEND:Hid (∀ w3 g c,(V.alloc (.cells #[.int .i64 (n.getD 0 0),.int .i64 (n.getD 1 0),.int .i64 (n.getD 2 0)] 80)).grownBy w3 A.vS.ownBlock→w3.ownsRow base 80 3 (.slice (some ⟨g,0,none⟩) (st.plan.ns+1) c) (st.plan.ns+1) (slotCells st.plan.nd st.plan.fr st.plan.td st.plan.ns ++ [.int .i64 (n.getD 0 0),.int .i64 (n.getD 1 0),.int .i64 (n.getD 2 0)])→(A.vS.ownBlock=some g∨g=V.heap.size+1)→g<w3.heap.size→DoesP base S M O st N .slot_ n tx u (.returned (.string (itoaB st.plan.ns))) (w3.setCell ⟨S,6,none⟩ (.slice (some ⟨g,0,none⟩) (st.plan.ns+1) c))):=fun w3 g c hg hown hat hlt=>by
  obtain ⟨e1,e2⟩:=slot_end hs hB n _ g c hg hown hat hlt hc hns
  exact ⟨_,.ok (itoaB st.plan.ns),_,_,_,.inl ⟨hns,rfl,rfl⟩,rfl,e1,e2⟩
 have hvb:A.vS.ownBlock≠some u.heap.size:=fun e=>by have:=h.r.hi _ (h.r.bS _ e);omega
 have hvS:A.vS.ownBlock≠some S:=fun e=>owns_ne hs.r.oS hs.blk (by decide) e rfl
 have HOW:Hid ((V.alloc (.cells #[.int .i64 (n.getD 0 0),.int .i64 (n.getD 1 0),.int .i64 (n.getD 2 0)] 80)).ownsRow base 80 3 A.vS st.plan.ns (slotCells st.plan.nd st.plan.fr st.plan.td st.plan.ns)):=hs.r.oS.alloc _
 have HNEW:Hid (∀ (j:Nat) (x:Value),[Value.int .i64 (n.getD 0 0),.int .i64 (n.getD 1 0),.int .i64 (n.getD 2 0)][j]? = some x→(V.alloc (.cells #[.int .i64 (n.getD 0 0),.int .i64 (n.getD 1 0),.int .i64 (n.getD 2 0)] 80)).drew.cell? ((⟨V.heap.size,0,none⟩:Addr).add j)=some x):=tri_new V _ _ _ _
 have HFIN:Hid (∀ w3,(V.alloc (.cells #[.int .i64 (n.getD 0 0),.int .i64 (n.getD 1 0),.int .i64 (n.getD 2 0)] 80)).grownBy w3 A.vS.ownBlock→w3.cell? ⟨u.heap.size,0,none⟩=some (.int .i64 (n.getD 0 0))∧w3.cell? ⟨u.heap.size,1,none⟩=some (.int .i64 (n.getD 1 0))∧w3.cell? ⟨u.heap.size,2,none⟩=some (.int .i64 (n.getD 2 0))∧w3.cell? ⟨S,6,none⟩=some A.vS∧w3.frozen? ⟨S,6,none⟩=false):=fun w3 hg=>by
  have kb:w3.heap[u.heap.size]? = V.heap[u.heap.size]?:=(hg.block u.heap.size (by simp;omega) (fun e=>hvb e.symm)).trans (Below.heap_alloc V _ u.heap.size hbl)
  have kS:w3.heap[S]? = V.heap[S]?:=(hg.block S (by simp;omega) (fun e=>hvS e.symm)).trans (Below.heap_alloc V _ S hSl)
  exact ⟨(World.cell?_of_block (a:=⟨u.heap.size,0,none⟩) kb).trans x0,(World.cell?_of_block (a:=⟨u.heap.size,1,none⟩) kb).trans x1,(World.cell?_of_block (a:=⟨u.heap.size,2,none⟩) kb).trans x2,(World.cell?_of_block (a:=⟨S,6,none⟩) kS).trans c0,(World.frozen?_of_block (a:=⟨S,6,none⟩) kS).trans z0⟩
 have m0:∀ o:Obj,(V.alloc o).cell? ⟨u.heap.size,0,none⟩=some (.int .i64 (n.getD 0 0)):=fun o=>(((Below.refl _ V).alloc (Nat.le_refl _) o).cell (p:=⟨u.heap.size,0,none⟩) hbl).trans x0
 have m1:∀ o:Obj,(V.alloc o).cell? ⟨u.heap.size,1,none⟩=some (.int .i64 (n.getD 1 0)):=fun o=>(((Below.refl _ V).alloc (Nat.le_refl _) o).cell (p:=⟨u.heap.size,1,none⟩) hbl).trans x1
 have m2:∀ o:Obj,(V.alloc o).cell? ⟨u.heap.size,2,none⟩=some (.int .i64 (n.getD 2 0)):=fun o=>(((Below.refl _ V).alloc (Nat.le_refl _) o).cell (p:=⟨u.heap.size,2,none⟩) hbl).trans x2
 have mc:∀ o:Obj,(V.alloc o).cell? ⟨S,6,none⟩=some A.vS:=fun o=>(((Below.refl _ V).alloc (Nat.le_refl _) o).cell (p:=⟨S,6,none⟩) hSl).trans c0
 have k0:(st.plan.ns:Int)<32:=by omega
 generalize slotCells st.plan.nd st.plan.fr st.plan.td st.plan.ns=cells at HOW HEND
 generalize n.getD 0 0=y0 at *
 generalize n.getD 1 0=y1 at *
 generalize n.getD 2 0=y2 at *
 rw [hvv] at c0 mc HOW HEND HFIN
 generalize st.plan.ns=nn at *
 clear hs h hB hbt hvb hvS hc hvv
 go_enter Tryz.func44,Tryz.ntmps44
 go_wp2_with fail
 refine (hA _).mono ?_
 rintro e u3 ⟨rfl,hu3⟩
 replace hu3:=hu3.symm
 subst hu3
 go_wp2_with fail
 refine wp_region_held_drew (S:=fun v=>v.cell? ⟨u.heap.size,0,none⟩=some (.int .i64 y0)∧v.cell? ⟨u.heap.size,1,none⟩=some (.int .i64 y1)∧v.cell? ⟨u.heap.size,2,none⟩=some (.int .i64 y2)) (by kernel_rfl) ⟨x0,x1,x2⟩ (fun hHeld=>?_)
 refine tk 0 hHeld ?_
 refine tk 1 hHeld ?_
 refine tk 2 hHeld ?_
 refine tk 4 hHeld ?_
 refine rd2 3 5 (fun K hK=>?_) (fun K hK=>?_)
 ·go_simp
  refine kp hK (fun hHeld=>?_) ⟨x0,x1,x2⟩
  clear hK K
  refine rdy 5 fun K hK=>?_
  go_simp
  refine kp hK (fun hHeld=>?_) ⟨m0 _,m1 _,m2 _⟩
  clear hK K
  refine rdy 6 fun K hK=>?_
  refine step_append_lies _ (by rfl) _ _ _ (by rfl) base 80 i0 (.agg #[.int .i64 0,.int .i64 0,.int .i64 0]) 3 24 Tryz.underlying44 hi0 hz0 hz1 hz2 rfl (by decide) _ nn _ (by rfl) HOW.out ⟨V.heap.size,0,none⟩ 1 1 [.int .i64 y0,.int .i64 y1,.int .i64 y2] (by rfl) rfl HNEW.out (by simp [Value.oneCell']) (by decide) (by unfold maxLen;omega) (by omega) (by have:=HLO.out;simp;omega) (V.heap.size+1) (by simp) ?_
  intro gq cq w3 hown' hgrow0 hat hlt3
  have hgrow:=ungrew hgrow0
  clear hgrow0
  obtain ⟨r0,r1,r2,rc,rz⟩:=HFIN.out w3 hgrow
  refine kp hK (fun hHeld=>?_) ⟨r0,r1,r2⟩
  clear hK K
  refine tk 7 hHeld ?_
  refine rdy 8 fun K hK=>?_
  go_simp
  refine kp hK (fun hHeld=>?_) ⟨(cell_other (.inl HNE.out)).trans r0,(cell_other (.inl HNE.out)).trans r1,(cell_other (.inl HNE.out)).trans r2⟩
  clear hK K
  refine dn ?_
  go_wp2_with fail
  refine (HI.out _).mono ?_
  rintro e u9 ⟨rfl,hu9⟩
  replace hu9:=hu9.symm
  subst hu9
  go_wp2_with fail
  go_ret
  exact HEND.out w3 gq cq hgrow hown' hat hlt3
 ·go_simp
  refine kp hK (fun hHeld=>?_) ⟨m0 _,m1 _,m2 _⟩
  clear hK K
  refine rdy 3 fun K hK=>?_
  go_simp
  refine kp hK (fun hHeld=>?_) ⟨m0 _,m1 _,m2 _⟩
  clear hK K
  refine rdy 6 fun K hK=>?_
  refine step_append_lies _ (by rfl) _ _ _ (by rfl) base 80 i0 (.agg #[.int .i64 0,.int .i64 0,.int .i64 0]) 3 24 Tryz.underlying44 hi0 hz0 hz1 hz2 rfl (by decide) _ nn _ (by rfl) HOW.out ⟨V.heap.size,0,none⟩ 1 1 [.int .i64 y0,.int .i64 y1,.int .i64 y2] (by rfl) rfl HNEW.out (by simp [Value.oneCell']) (by decide) (by unfold maxLen;omega) (by omega) (by have:=HLO.out;simp;omega) (V.heap.size+1) (by simp) ?_
  intro gq cq w3 hown' hgrow0 hat hlt3
  have hgrow:=ungrew hgrow0
  clear hgrow0
  obtain ⟨r0,r1,r2,rc,rz⟩:=HFIN.out w3 hgrow
  refine kp hK (fun hHeld=>?_) ⟨r0,r1,r2⟩
  clear hK K
  refine tk 7 hHeld ?_
  refine rdy 8 fun K hK=>?_
  go_simp
  refine kp hK (fun hHeld=>?_) ⟨(cell_other (.inl HNE.out)).trans r0,(cell_other (.inl HNE.out)).trans r1,(cell_other (.inl HNE.out)).trans r2⟩
  clear hK K
  refine dn ?_
  go_wp2_with fail
  refine (HI.out _).mono ?_
  rintro e u9 ⟨rfl,hu9⟩
  replace hu9:=hu9.symm
  subst hu9
  go_wp2_with fail
  go_ret
  exact HEND.out w3 gq cq hgrow hown' hat hlt3
theorem Tryz.info_link:(Tryz.prog.info? 84).map (fun i=>(i.zero,i.size,i.bytes))=some (some (.agg #[.int .i64 0,.int .i64 0,.int .i64 0,.int .i64 0]),4,32):=by kernel_rfl
theorem addTo_link_no (u:World) (h:Ses u base S M O st A N) (hns:¬ st.plan.nl<8) (n:List Int) (tx:ByteArray) :
  Calls Tryz.prog 45 #[.pointer (some ⟨S,7,none⟩),.int .i64 8,.agg #[.int .i64 (n.getD 0 0),.int .i64 (n.getD 1 0),.int .i64 (n.getD 2 0),.int .i64 (n.getD 3 0)]] u (DoesP base S M O st N .link_ n tx u):=by
 have hA:=fun u=>ask_no 4 u
 generalize hV:u.alloc (.cells #[.int .i64 (n.getD 0 0),.int .i64 (n.getD 1 0),.int .i64 (n.getD 2 0),.int .i64 (n.getD 3 0)] 84)=V
 have hB:Below u.heap.size u V:=hV▸(Below.refl _ u).alloc (Nat.le_refl _) _
 have hs:=h.below hB
 obtain ⟨va,vc,hvv⟩:∃ a c,A.vL=.slice a st.plan.nl c:=by
  exact (owns_quad hs.r.oL).elim fun a q=>q.elim fun c r=>⟨a,c,r.1⟩
 have c0:V.cell? ⟨S,7,none⟩=some (.slice va st.plan.nl vc):=hvv▸cell_blk hs.blk (i:=7) rfl
 have k0:decide ((st.plan.nl:Int)<8)=false:=decide_eq_false (by omega)
 have HE:Hid (DoesP base S M O st N .link_ n tx u (thrown 4) V):=⟨st,.err 4,M,O,A,.inr ⟨hns,rfl,rfl⟩,rfl,Foot.of_below hB,hs.later (Nat.le_succ N)⟩
 generalize st.plan.nl=nn at c0 k0
 clear hs h hB hns
 generalize n.getD 0 0=y0 at *
 generalize n.getD 1 0=y1 at *
 generalize n.getD 2 0=y2 at *
 generalize n.getD 3 0=y3 at *
 go_enter Tryz.func45,Tryz.ntmps45
 go_wp2_with fail
 refine (hA _).mono ?_
 rintro e u3 ⟨rfl,rfl⟩
 exact ⟨rfl,HE.out⟩
theorem addTo_link_ok (u:World) (h:Ses u base S M O st A N) (hc:st.clu=none) (hns:st.plan.nl<8) (n:List Int) (hi:intR (n.getD 1 0)) (tx:ByteArray) :
  Calls Tryz.prog 45 #[.pointer (some ⟨S,7,none⟩),.int .i64 8,.agg #[.int .i64 (n.getD 0 0),.int .i64 (n.getD 1 0),.int .i64 (n.getD 2 0),.int .i64 (n.getD 3 0)]] u (DoesP base S M O st N .link_ n tx u):=by
 have hA:=fun u=>ask_yes 4 u
 obtain ⟨i0,hi0,hz0,hz1,hz2⟩:=info_parts Tryz.info_link
 have HI:Hid (∀ v:World,Calls Tryz.prog 12 #[.int .i64 st.plan.nl] v fun e w'=>e=.returned (.string (itoaB st.plan.nl))∧w'=v):=fun v=>Tryz.strconv_Itoa_small st.plan.nl (by omega) v
 generalize hV:u.alloc (.cells #[.int .i64 (n.getD 0 0),.int .i64 (n.getD 1 0),.int .i64 (n.getD 2 0),.int .i64 (n.getD 3 0)] 84)=V
 have hB:Below u.heap.size u V:=hV▸(Below.refl _ u).alloc (Nat.le_refl _) _
 have hs:=h.below hB
 obtain ⟨va,vc,hvv⟩:∃ a c,A.vL=.slice a st.plan.nl c:=by
  exact (owns_quad hs.r.oL).elim fun a q=>q.elim fun c r=>⟨a,c,r.1⟩
 have c0:V.cell? ⟨S,7,none⟩=some A.vL:=cell_blk hs.blk (i:=7) rfl
 have z0:=soft_blk hs.blk (i:=7)
 have hSl:=hs.r.hi S hs.r.s
 have huS:=h.r.hi S h.r.s
 have hbl:u.heap.size<V.heap.size:=by rw [← hV];simp
 have x0:V.cell? ⟨u.heap.size,0,none⟩=some (.int .i64 (n.getD 0 0)):=by rw [← hV];simp [go_sem]
 have x1:V.cell? ⟨u.heap.size,1,none⟩=some (.int .i64 (n.getD 1 0)):=by rw [← hV];simp [go_sem]
 have x2:V.cell? ⟨u.heap.size,2,none⟩=some (.int .i64 (n.getD 2 0)):=by rw [← hV];simp [go_sem]
 have x3:V.cell? ⟨u.heap.size,3,none⟩=some (.int .i64 (n.getD 3 0)):=by rw [← hV];simp [go_sem]
 have hne:u.heap.size≠S:=by omega
 have hbt:V.heap[u.heap.size]? = some (.cells #[.int .i64 (n.getD 0 0),.int .i64 (n.getD 1 0),.int .i64 (n.getD 2 0),.int .i64 (n.getD 3 0)] 84 (0,0)):=by rw [← hV];exact heap_alloc_new u _
 have HNE:Hid (u.heap.size≠S):=hne
 have HLO:Hid (base≤V.heap.size):=Nat.le_trans (hs.r.lo S hs.r.s) (Nat.le_of_lt hSl)
 have HEND:Hid (∀ w3 g c,(V.alloc (.cells #[.int .i64 (n.getD 0 0),.int .i64 (n.getD 1 0),.int .i64 (n.getD 2 0),.int .i64 (n.getD 3 0)] 84)).grownBy w3 A.vL.ownBlock→w3.ownsRow base 84 4 (.slice (some ⟨g,0,none⟩) (st.plan.nl+1) c) (st.plan.nl+1) (quadCells st.plan.lf st.plan.lt st.plan.lb st.plan.lq st.plan.nl ++ [.int .i64 (n.getD 0 0),.int .i64 (n.getD 1 0),.int .i64 (n.getD 2 0),.int .i64 (n.getD 3 0)])→(A.vL.ownBlock=some g∨g=V.heap.size+1)→g<w3.heap.size→DoesP base S M O st N .link_ n tx u (.returned (.string (itoaB st.plan.nl))) (w3.setCell ⟨S,7,none⟩ (.slice (some ⟨g,0,none⟩) (st.plan.nl+1) c))):=fun w3 g c hg hown hat hlt=>by
  obtain ⟨e1,e2⟩:=link_end hs hB n _ g c hg hown hat hlt hc hns hi
  exact ⟨_,.ok (itoaB st.plan.nl),_,_,_,.inl ⟨hns,rfl,rfl⟩,rfl,e1,e2⟩
 have hvb:A.vL.ownBlock≠some u.heap.size:=fun e=>by have:=h.r.hi _ (h.r.bL _ e);omega
 have hvS:A.vL.ownBlock≠some S:=fun e=>owns_ne hs.r.oL hs.blk (by decide) e rfl
 have HOW:Hid ((V.alloc (.cells #[.int .i64 (n.getD 0 0),.int .i64 (n.getD 1 0),.int .i64 (n.getD 2 0),.int .i64 (n.getD 3 0)] 84)).ownsRow base 84 4 A.vL st.plan.nl (quadCells st.plan.lf st.plan.lt st.plan.lb st.plan.lq st.plan.nl)):=hs.r.oL.alloc _
 have HNEW:Hid (∀ (j:Nat) (x:Value),[Value.int .i64 (n.getD 0 0),.int .i64 (n.getD 1 0),.int .i64 (n.getD 2 0),.int .i64 (n.getD 3 0)][j]? = some x→(V.alloc (.cells #[.int .i64 (n.getD 0 0),.int .i64 (n.getD 1 0),.int .i64 (n.getD 2 0),.int .i64 (n.getD 3 0)] 84)).drew.cell? ((⟨V.heap.size,0,none⟩:Addr).add j)=some x):=quad_new V _ _ _ _ _
 have HFIN:Hid (∀ w3,(V.alloc (.cells #[.int .i64 (n.getD 0 0),.int .i64 (n.getD 1 0),.int .i64 (n.getD 2 0),.int .i64 (n.getD 3 0)] 84)).grownBy w3 A.vL.ownBlock→w3.cell? ⟨u.heap.size,0,none⟩=some (.int .i64 (n.getD 0 0))∧w3.cell? ⟨u.heap.size,1,none⟩=some (.int .i64 (n.getD 1 0))∧w3.cell? ⟨u.heap.size,2,none⟩=some (.int .i64 (n.getD 2 0))∧w3.cell? ⟨u.heap.size,3,none⟩=some (.int .i64 (n.getD 3 0))∧w3.cell? ⟨S,7,none⟩=some A.vL∧w3.frozen? ⟨S,7,none⟩=false):=fun w3 hg=>by
  have kb:w3.heap[u.heap.size]? = V.heap[u.heap.size]?:=(hg.block u.heap.size (by simp;omega) (fun e=>hvb e.symm)).trans (Below.heap_alloc V _ u.heap.size hbl)
  have kS:w3.heap[S]? = V.heap[S]?:=(hg.block S (by simp;omega) (fun e=>hvS e.symm)).trans (Below.heap_alloc V _ S hSl)
  exact ⟨(World.cell?_of_block (a:=⟨u.heap.size,0,none⟩) kb).trans x0,(World.cell?_of_block (a:=⟨u.heap.size,1,none⟩) kb).trans x1,(World.cell?_of_block (a:=⟨u.heap.size,2,none⟩) kb).trans x2,(World.cell?_of_block (a:=⟨u.heap.size,3,none⟩) kb).trans x3,(World.cell?_of_block (a:=⟨S,7,none⟩) kS).trans c0,(World.frozen?_of_block (a:=⟨S,7,none⟩) kS).trans z0⟩
 have m0:∀ o:Obj,(V.alloc o).cell? ⟨u.heap.size,0,none⟩=some (.int .i64 (n.getD 0 0)):=fun o=>(((Below.refl _ V).alloc (Nat.le_refl _) o).cell (p:=⟨u.heap.size,0,none⟩) hbl).trans x0
 have m1:∀ o:Obj,(V.alloc o).cell? ⟨u.heap.size,1,none⟩=some (.int .i64 (n.getD 1 0)):=fun o=>(((Below.refl _ V).alloc (Nat.le_refl _) o).cell (p:=⟨u.heap.size,1,none⟩) hbl).trans x1
 have m2:∀ o:Obj,(V.alloc o).cell? ⟨u.heap.size,2,none⟩=some (.int .i64 (n.getD 2 0)):=fun o=>(((Below.refl _ V).alloc (Nat.le_refl _) o).cell (p:=⟨u.heap.size,2,none⟩) hbl).trans x2
 have m3:∀ o:Obj,(V.alloc o).cell? ⟨u.heap.size,3,none⟩=some (.int .i64 (n.getD 3 0)):=fun o=>(((Below.refl _ V).alloc (Nat.le_refl _) o).cell (p:=⟨u.heap.size,3,none⟩) hbl).trans x3
 have mc:∀ o:Obj,(V.alloc o).cell? ⟨S,7,none⟩=some A.vL:=fun o=>(((Below.refl _ V).alloc (Nat.le_refl _) o).cell (p:=⟨S,7,none⟩) hSl).trans c0
 have k0:(st.plan.nl:Int)<8:=by omega
 generalize quadCells st.plan.lf st.plan.lt st.plan.lb st.plan.lq st.plan.nl=cells at HOW HEND
 generalize n.getD 0 0=y0 at *
 generalize n.getD 1 0=y1 at *
 generalize n.getD 2 0=y2 at *
 generalize n.getD 3 0=y3 at *
 rw [hvv] at c0 mc HOW HEND HFIN
 generalize st.plan.nl=nn at *
 clear hs h hB hbt hvb hvS hc hvv
 go_enter Tryz.func45,Tryz.ntmps45
 go_wp2_with fail
 refine (hA _).mono ?_
 rintro e u3 ⟨rfl,hu3⟩
 replace hu3:=hu3.symm
 subst hu3
 go_wp2_with fail
 refine wp_region_held_drew (S:=fun v=>v.cell? ⟨u.heap.size,0,none⟩=some (.int .i64 y0)∧v.cell? ⟨u.heap.size,1,none⟩=some (.int .i64 y1)∧v.cell? ⟨u.heap.size,2,none⟩=some (.int .i64 y2)∧v.cell? ⟨u.heap.size,3,none⟩=some (.int .i64 y3)) (by kernel_rfl) ⟨x0,x1,x2,x3⟩ (fun hHeld=>?_)
 refine tk 0 hHeld ?_
 refine tk 1 hHeld ?_
 refine tk 2 hHeld ?_
 refine tk 4 hHeld ?_
 refine rd2 3 5 (fun K hK=>?_) (fun K hK=>?_)
 ·go_simp
  refine kp hK (fun hHeld=>?_) ⟨x0,x1,x2,x3⟩
  clear hK K
  refine rdy 5 fun K hK=>?_
  go_simp
  refine kp hK (fun hHeld=>?_) ⟨m0 _,m1 _,m2 _,m3 _⟩
  clear hK K
  refine rdy 6 fun K hK=>?_
  refine step_append_lies _ (by rfl) _ _ _ (by rfl) base 84 i0 (.agg #[.int .i64 0,.int .i64 0,.int .i64 0,.int .i64 0]) 4 32 Tryz.underlying45 hi0 hz0 hz1 hz2 rfl (by decide) _ nn _ (by rfl) HOW.out ⟨V.heap.size,0,none⟩ 1 1 [.int .i64 y0,.int .i64 y1,.int .i64 y2,.int .i64 y3] (by rfl) rfl HNEW.out (by simp [Value.oneCell']) (by decide) (by unfold maxLen;omega) (by omega) (by have:=HLO.out;simp;omega) (V.heap.size+1) (by simp) ?_
  intro gq cq w3 hown' hgrow0 hat hlt3
  have hgrow:=ungrew hgrow0
  clear hgrow0
  obtain ⟨r0,r1,r2,r3,rc,rz⟩:=HFIN.out w3 hgrow
  refine kp hK (fun hHeld=>?_) ⟨r0,r1,r2,r3⟩
  clear hK K
  refine tk 7 hHeld ?_
  refine rdy 8 fun K hK=>?_
  go_simp
  refine kp hK (fun hHeld=>?_) ⟨(cell_other (.inl HNE.out)).trans r0,(cell_other (.inl HNE.out)).trans r1,(cell_other (.inl HNE.out)).trans r2,(cell_other (.inl HNE.out)).trans r3⟩
  clear hK K
  refine dn ?_
  go_wp2_with fail
  refine (HI.out _).mono ?_
  rintro e u9 ⟨rfl,hu9⟩
  replace hu9:=hu9.symm
  subst hu9
  go_wp2_with fail
  go_ret
  exact HEND.out w3 gq cq hgrow hown' hat hlt3
 ·go_simp
  refine kp hK (fun hHeld=>?_) ⟨m0 _,m1 _,m2 _,m3 _⟩
  clear hK K
  refine rdy 3 fun K hK=>?_
  go_simp
  refine kp hK (fun hHeld=>?_) ⟨m0 _,m1 _,m2 _,m3 _⟩
  clear hK K
  refine rdy 6 fun K hK=>?_
  refine step_append_lies _ (by rfl) _ _ _ (by rfl) base 84 i0 (.agg #[.int .i64 0,.int .i64 0,.int .i64 0,.int .i64 0]) 4 32 Tryz.underlying45 hi0 hz0 hz1 hz2 rfl (by decide) _ nn _ (by rfl) HOW.out ⟨V.heap.size,0,none⟩ 1 1 [.int .i64 y0,.int .i64 y1,.int .i64 y2,.int .i64 y3] (by rfl) rfl HNEW.out (by simp [Value.oneCell']) (by decide) (by unfold maxLen;omega) (by omega) (by have:=HLO.out;simp;omega) (V.heap.size+1) (by simp) ?_
  intro gq cq w3 hown' hgrow0 hat hlt3
  have hgrow:=ungrew hgrow0
  clear hgrow0
  obtain ⟨r0,r1,r2,r3,rc,rz⟩:=HFIN.out w3 hgrow
  refine kp hK (fun hHeld=>?_) ⟨r0,r1,r2,r3⟩
  clear hK K
  refine tk 7 hHeld ?_
  refine rdy 8 fun K hK=>?_
  go_simp
  refine kp hK (fun hHeld=>?_) ⟨(cell_other (.inl HNE.out)).trans r0,(cell_other (.inl HNE.out)).trans r1,(cell_other (.inl HNE.out)).trans r2,(cell_other (.inl HNE.out)).trans r3⟩
  clear hK K
  refine dn ?_
  go_wp2_with fail
  refine (HI.out _).mono ?_
  rintro e u9 ⟨rfl,hu9⟩
  replace hu9:=hu9.symm
  subst hu9
  go_wp2_with fail
  go_ret
  exact HEND.out w3 gq cq hgrow hown' hat hlt3
def NumsOut (w:World) (M O:List Nat) (a:Option Addr) (n:List Int):Prop:=IntRow w a n∧∀ b off,a=some ⟨b,off,none⟩→0<n.length→b∉M ++ O
theorem addSlot_does (h:Ses w base S M O st A N) (hc0:st.clu=none) (n:List Int) (hn:n.length=3) (a:Option Addr) (cap:Nat) (tx:ByteArray) (hr:NumsOut w M O a n) :
  Calls Tryz.prog 14 #[.pointer (some ⟨S,0,none⟩),.agg #[.slice a n.length cap,.string tx]] w (DoesP base S M O st N .slot_ n tx w):=by
 obtain ⟨b,off,rfl,hbl,hc⟩:=hr.1 (by omega)
 have hbo:=hr.2 b off rfl (by omega)
 rw [hn] at hc ⊢
 generalize hV:w.alloc (.cells #[.slice (some ⟨b,off,none⟩) 3 cap,.string tx] 71)=V
 have hB:Below w.heap.size w V:=hV▸(Below.refl _ w).alloc (Nat.le_refl _) _
 have x0:V.cell? ⟨w.heap.size,0,none⟩=some (.slice (some ⟨b,off,none⟩) 3 cap):=by rw [← hV];simp [go_sem]
 have n0:V.cell? ⟨b,off,none⟩=some (.int .i64 (n.getD 0 0)):=(hB.cell (p:=⟨b,off,none⟩) hbl).trans (hc 0 (by decide))
 have n1:V.cell? ⟨b,off+1,none⟩=some (.int .i64 (n.getD 1 0)):=(hB.cell (p:=⟨b,off+1,none⟩) hbl).trans (hc 1 (by decide))
 have n2:V.cell? ⟨b,off+2,none⟩=some (.int .i64 (n.getD 2 0)):=(hB.cell (p:=⟨b,off+2,none⟩) hbl).trans (hc 2 (by decide))
 have hbV:b<V.heap.size:=Nat.lt_of_lt_of_le hbl hB.size
 have hs:=h.below (hB.trans ((bdN V 1).mono hB.size))
 have HBO:Hid (b∉M ++ O):=hbo
 have HC:Hid (Calls Tryz.prog 44 #[.pointer (some ⟨S,6,none⟩),.int .i64 32,.agg #[.int .i64 (n.getD 0 0),.int .i64 (n.getD 1 0),.int .i64 (n.getD 2 0)]] (V.drewN 1) (DoesP base S M O st N .slot_ n tx (V.drewN 1))):=by
  by_cases hns:st.plan.ns<32
  ·exact addTo_slot_ok (V.drewN 1) hs hc0 hns n tx
  ·exact addTo_slot_no (V.drewN 1) hs hns n tx
 have HP:Hid (∀ e w',DoesP base S M O st N .slot_ n tx (V.drewN 1) e w'→DoesP base S M O st N .slot_ n tx w e w'):=fun e w' q=>q.undrawn.pre hB
 generalize n.getD 0 0=y0 at *
 generalize n.getD 1 0=y1 at *
 generalize n.getD 2 0=y2 at *
 clear hs h hr hc hB hbo hc0 hn
 go_enter Tryz.func14,Tryz.ntmps14
 go_wp2_with fail
 refine wp_region_held_drew (S:=fun v=>v.cell? ⟨b,off,none⟩=some (.int .i64 y0)∧v.cell? ⟨b,off+1,none⟩=some (.int .i64 y1)∧v.cell? ⟨b,off+2,none⟩=some (.int .i64 y2)) (by kernel_rfl) ⟨n0,n1,n2⟩ (fun hHeld=>?_)
 refine tk 0 hHeld ?_
 refine tk 1 hHeld ?_
 refine tk 2 hHeld ?_
 refine tk 3 hHeld ?_
 refine tk 4 hHeld ?_
 refine tk 5 hHeld ?_
 refine tk 6 hHeld ?_
 refine tk 7 hHeld ?_
 refine tk 8 hHeld ?_
 refine tk 9 hHeld ?_
 refine tk 10 hHeld ?_
 refine tk 11 hHeld ?_
 refine tk 12 hHeld ?_
 refine tk 13 hHeld ?_
 refine tk 14 hHeld ?_
 refine rdy 15 fun K hK=>?_
 go_simp
 refine Calls.mono HC.out ?_
 intro e u1 hd
 have hd2:=HP.out e u1 hd
 obtain ⟨st',r,M',O',A',h1,rfl,hf,h4⟩:=hd
 cases r with
 | inl k=>exact ⟨rfl,hd2⟩
 | inr s =>
  have hcs:u1.cell? ⟨b,off,none⟩=some (.int .i64 y0)∧u1.cell? ⟨b,off+1,none⟩=some (.int .i64 y1)∧u1.cell? ⟨b,off+2,none⟩=some (.int .i64 y2):=⟨(hf.cell (p:=⟨b,off,none⟩) hbV HBO.out).trans n0,(hf.cell (p:=⟨b,off+1,none⟩) hbV HBO.out).trans n1,(hf.cell (p:=⟨b,off+2,none⟩) hbV HBO.out).trans n2⟩
  clear hf h4 h1
  refine kp hK (fun hHeld=>?_) hcs
  clear hK K
  refine rdy 16 fun K hK=>?_
  go_simp
  refine kp hK (fun hHeld=>?_) hcs
  clear hK K
  refine dn ?_
  go_wp2_with fail
  go_ret
  exact hd2
theorem addLink_does (h:Ses w base S M O st A N) (hc0:st.clu=none) (n:List Int) (hn:n.length=4) (hi:intR (n.getD 1 0)) (a:Option Addr) (cap:Nat) (tx:ByteArray) (hr:NumsOut w M O a n) :
  Calls Tryz.prog 15 #[.pointer (some ⟨S,0,none⟩),.agg #[.slice a n.length cap,.string tx]] w (DoesP base S M O st N .link_ n tx w):=by
 obtain ⟨b,off,rfl,hbl,hc⟩:=hr.1 (by omega)
 have hbo:=hr.2 b off rfl (by omega)
 rw [hn] at hc ⊢
 generalize hV:w.alloc (.cells #[.slice (some ⟨b,off,none⟩) 4 cap,.string tx] 71)=V
 have hB:Below w.heap.size w V:=hV▸(Below.refl _ w).alloc (Nat.le_refl _) _
 have x0:V.cell? ⟨w.heap.size,0,none⟩=some (.slice (some ⟨b,off,none⟩) 4 cap):=by rw [← hV];simp [go_sem]
 have n0:V.cell? ⟨b,off,none⟩=some (.int .i64 (n.getD 0 0)):=(hB.cell (p:=⟨b,off,none⟩) hbl).trans (hc 0 (by decide))
 have n1:V.cell? ⟨b,off+1,none⟩=some (.int .i64 (n.getD 1 0)):=(hB.cell (p:=⟨b,off+1,none⟩) hbl).trans (hc 1 (by decide))
 have n2:V.cell? ⟨b,off+2,none⟩=some (.int .i64 (n.getD 2 0)):=(hB.cell (p:=⟨b,off+2,none⟩) hbl).trans (hc 2 (by decide))
 have n3:V.cell? ⟨b,off+3,none⟩=some (.int .i64 (n.getD 3 0)):=(hB.cell (p:=⟨b,off+3,none⟩) hbl).trans (hc 3 (by decide))
 have hbV:b<V.heap.size:=Nat.lt_of_lt_of_le hbl hB.size
 have hs:=h.below (hB.trans ((bdN V 1).mono hB.size))
 have HBO:Hid (b∉M ++ O):=hbo
 have HC:Hid (Calls Tryz.prog 45 #[.pointer (some ⟨S,7,none⟩),.int .i64 8,.agg #[.int .i64 (n.getD 0 0),.int .i64 (n.getD 1 0),.int .i64 (n.getD 2 0),.int .i64 (n.getD 3 0)]] (V.drewN 1) (DoesP base S M O st N .link_ n tx (V.drewN 1))):=by
  by_cases hns:st.plan.nl<8
  ·exact addTo_link_ok (V.drewN 1) hs hc0 hns n hi tx
  ·exact addTo_link_no (V.drewN 1) hs hns n tx
 have HP:Hid (∀ e w',DoesP base S M O st N .link_ n tx (V.drewN 1) e w'→DoesP base S M O st N .link_ n tx w e w'):=fun e w' q=>q.undrawn.pre hB
 generalize n.getD 0 0=y0 at *
 generalize n.getD 1 0=y1 at *
 generalize n.getD 2 0=y2 at *
 generalize n.getD 3 0=y3 at *
 clear hs h hr hc hB hbo hc0 hn
 go_enter Tryz.func15,Tryz.ntmps15
 go_wp2_with fail
 refine wp_region_held_drew (S:=fun v=>v.cell? ⟨b,off,none⟩=some (.int .i64 y0)∧v.cell? ⟨b,off+1,none⟩=some (.int .i64 y1)∧v.cell? ⟨b,off+2,none⟩=some (.int .i64 y2)∧v.cell? ⟨b,off+3,none⟩=some (.int .i64 y3)) (by kernel_rfl) ⟨n0,n1,n2,n3⟩ (fun hHeld=>?_)
 refine tk 0 hHeld ?_
 refine tk 1 hHeld ?_
 refine tk 2 hHeld ?_
 refine tk 3 hHeld ?_
 refine tk 4 hHeld ?_
 refine tk 5 hHeld ?_
 refine tk 6 hHeld ?_
 refine tk 7 hHeld ?_
 refine tk 8 hHeld ?_
 refine tk 9 hHeld ?_
 refine tk 10 hHeld ?_
 refine tk 11 hHeld ?_
 refine tk 12 hHeld ?_
 refine tk 13 hHeld ?_
 refine tk 14 hHeld ?_
 refine tk 15 hHeld ?_
 refine tk 16 hHeld ?_
 refine rdy 17 fun K hK=>?_
 go_simp
 refine Calls.mono HC.out ?_
 intro e u1 hd
 have hd2:=HP.out e u1 hd
 obtain ⟨st',r,M',O',A',h1,rfl,hf,h4⟩:=hd
 cases r with
 | inl k=>exact ⟨rfl,hd2⟩
 | inr s =>
  have hcs:u1.cell? ⟨b,off,none⟩=some (.int .i64 y0)∧u1.cell? ⟨b,off+1,none⟩=some (.int .i64 y1)∧u1.cell? ⟨b,off+2,none⟩=some (.int .i64 y2)∧u1.cell? ⟨b,off+3,none⟩=some (.int .i64 y3):=⟨(hf.cell (p:=⟨b,off,none⟩) hbV HBO.out).trans n0,(hf.cell (p:=⟨b,off+1,none⟩) hbV HBO.out).trans n1,(hf.cell (p:=⟨b,off+2,none⟩) hbV HBO.out).trans n2,(hf.cell (p:=⟨b,off+3,none⟩) hbV HBO.out).trans n3⟩
  clear hf h4 h1
  refine kp hK (fun hHeld=>?_) hcs
  clear hK K
  refine rdy 18 fun K hK=>?_
  go_simp
  refine kp hK (fun hHeld=>?_) hcs
  clear hK K
  refine dn ?_
  go_wp2_with fail
  go_ret
  exact hd2
end
end
end Go.Proofs.YthccoinonjoleaaGreatDoor
