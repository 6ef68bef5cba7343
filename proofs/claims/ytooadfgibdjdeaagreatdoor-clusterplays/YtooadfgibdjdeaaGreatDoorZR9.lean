import Derived.Test.YtooadfgibdjdeaaGreatDoorZR8
import Derived.Test.YtooadfgibdjdeaaGreatDoorZPCluV
namespace Go.Proofs.YtooadfgibdjdeaaGreatDoor
open Go.RowKit
set_option maxRecDepth 100000
set_option maxHeartbeats 16000000
section
theorem RT.tab {w:World} {base n g12 c12:Nat} {f:Nat→Nat→Int} {G cap:Nat→Nat} (h:RT w base (.slice (some ⟨g12,0,none⟩) n c12) n n f G cap):TabRow w (some ⟨g12,0,none⟩) (rowsOf n f):=fun hp=>by
 rw [rowsOf_len] at hp
 have hl:=(h.own.lt g12 rfl).2
 refine ⟨g12,0,rfl,hl,fun j hj=>?_⟩
 rw [rowsOf_len] at hj
 rw [rowsOf_at n f hj]
 refine ⟨_,cap j,?_,fun _=>⟨G j,0,rfl,(h.lt j hj).2,fun k hk=>?_⟩⟩
 ·have:=h.own.cells (g:=g12) rfl j (.slice (some ⟨G j,0,none⟩) n (cap j)) (by simp [hj])
  rw [add_at] at this
  rw [List.length_map,List.length_range]
  exact this
 ·rw [List.length_map,List.length_range] at hk
  rw [Nat.zero_add,h.cel j k hj hk]
  simp [hk]
section
variable {n f:Nat} {fa jitter:Int} {cs:List Int} {r:RoundN}
theorem rmid0 (hf3:3*f+1≤n) (hj0:0≤jitter) (hj1:jitter≤137438953472) (hnow:∀ i,i<n→-274877906944≤cs.getD i 0∧cs.getD i 0≤274877906944) {j:Nat} (hj:j<n):midErr ((List.range n).map (readAll n (bitI fa) jitter (fun i=>cs.getD i 0) r.reads j)) f=0:=by
 refine midErr_0 (by rw [List.length_map,List.length_range];omega) ?_
 rw [Bool.eq_false_iff]
 intro hx
 obtain ⟨y,hy,hy2⟩:=List.any_eq_true.1 hx
 obtain ⟨k,hk,rfl⟩:=List.mem_map.1 hy
 have hk:=List.mem_range.1 hk
 have:=readAll_in (lies:=bitI fa) hj0 hj1 hnow r.reads j k hj hk
 rw [far_true] at hy2
 omega
theorem rset_in (hf3:3*f+1≤n) (hj0:0≤jitter) (hj1:jitter≤137438953472) (hnow:∀ i,i<n→-274877906944≤cs.getD i 0∧cs.getD i 0≤274877906944) {j:Nat} (hj:j<n):-1374389534720≤setOn n f (fun i=>cs.getD i 0) (readAll n (bitI fa) jitter (fun i=>cs.getD i 0) r.reads) j∧setOn n f (fun i=>cs.getD i 0) (readAll n (bitI fa) jitter (fun i=>cs.getD i 0) r.reads) j≤1374389534720:=by
 have h1:=hnow j hj
 have h2:=midVal_in ((List.range n).map (readAll n (bitI fa) jitter (fun i=>cs.getD i 0) r.reads j)) f
 rw [midVal_ok (rmid0 hf3 hj0 hj1 hnow hj),Int.toNat_natCast] at h2
 show -1374389534720≤cs.getD j 0+midOf ((List.range n).map (readAll n (bitI fa) jitter (fun i=>cs.getD i 0) r.reads j)) f∧cs.getD j 0+midOf ((List.range n).map (readAll n (bitI fa) jitter (fun i=>cs.getD i 0) r.reads j)) f≤1374389534720
 omega
theorem rset_any (ca off ccap g12 c12 base:Nat) (G cap:Nat→Nat) (v:World) (hfine:Fine0 v) (hcl:cs.length=n) (hn:n≤16) (hn1:1≤n) (hf3:3*f+1≤n) (hj0:0≤jitter) (hj1:jitter≤137438953472) (hnow:∀ i,i<n→-274877906944≤cs.getD i 0∧cs.getD i 0≤274877906944) (hck:∀ j,j<n→v.cell? ⟨ca,off+j,none⟩=some (.int .i64 (cs.getD j 0)))
  (hT:RT v base (.slice (some ⟨g12,0,none⟩) n c12) n n (readAll n (bitI fa) jitter (fun i=>cs.getD i 0) r.reads) G cap) :
  Calls Tryz.prog 42 #[.slice (some ⟨ca,off,none⟩) n ccap,.slice (some ⟨g12,0,none⟩) n c12,.int .i64 f] v fun ev w'=>∃ g gc,ev=.returned (.tuple #[.slice (some ⟨g,0,none⟩) n gc,.agg #[.int .i64 0,.int .i64 (-1)]])∧(v.heap.size≤g∧g<w'.heap.size∧(∀ j,j<n→w'.cell? ⟨g,j,none⟩=some (.int .i64 (setOn n f (fun i=>cs.getD i 0) (readAll n (bitI fa) jitter (fun i=>cs.getD i 0) r.reads) j)))∧∀ j,w'.frozen? ⟨g,j,none⟩=false)∧Below v.heap.size v w':=by
 have hcl0:ca<v.heap.size:=lt_of_cell (hck 0 (by omega))
 have hs:=set_any (some ⟨ca,off,none⟩) (some ⟨g12,0,none⟩) ccap c12 cs (rowsOf n (readAll n (bitI fa) jitter (fun i=>cs.getD i 0) r.reads)) f v hfine (fun _=>⟨ca,off,rfl,hcl0,fun j hj=>hck j (by omega)⟩) hT.tab (by rw [rowsOf_len,hcl]) (by omega) (fun q hq=>by
  obtain ⟨i,_,rfl⟩:=List.mem_map.1 hq
  simp;omega) 0 0 (-1) (.inl ⟨fun j hj=>by
   show stepErr cs.length (cs.getD j 0) ((rowsOf n (readAll n (bitI fa) jitter (fun i=>cs.getD i 0) r.reads)).getD j []) f=0
   rw [rowsOf_at n _ (by omega)]
   rw [stepErr_mid (by simp [hcl]) (by rw [far_false];have:=hnow j (by omega);omega)]
   exact rmid0 hf3 hj0 hj1 hnow (by omega),rfl,rfl⟩) rfl
 rw [rowsOf_len,hcl] at hs
 refine hs.mono ?_
 rintro e w' ⟨x,he,ho,_,hb⟩
 have ho:=ho rfl
 rcases ho.2 with ⟨_,e0⟩ | ⟨g,gc,cur,hx,hg,hh,_⟩
 ·omega
 ·have hgl:g<w'.heap.size:=by
   rcases Nat.lt_or_ge g w'.heap.size with q | q
   ·exact q
   ·rw [Array.getElem?_eq_none q] at hh;cases hh
  refine ⟨g,gc,by rw [he,hx],⟨hg,hgl,fun j hj=>?_,fun j=>by simp [World.frozen?,hh]⟩,hb⟩
  have:=ho.cells (g:=g) (by rw [hx];rfl) j (.int .i64 (setOn n f (fun i=>cs.getD i 0) (readAll n (bitI fa) jitter (fun i=>cs.getD i 0) r.reads) j)) (by
   have hlj:j<(setTo cs (rowsOf n (readAll n (bitI fa) jitter (fun i=>cs.getD i 0) r.reads)) f n).length:=by rw [setTo_len];exact hj
   rw [List.getElem?_map,List.getElem?_eq_getElem hlj]
   simp only [setTo,List.getElem_map,List.getElem_range,Option.map_some]
   rw [rowsOf_at n _ hj,midVal_ok (rmid0 hf3 hj0 hj1 hnow hj),Int.toNat_natCast]
   rfl)
  rwa [add_at,Nat.zero_add] at this
end
section
variable {w:World} {O Z:List Nat} {C:Nat} {p:PlanN} {fa:Int} {cs:List Int} {s:ClS} {rd:Int} {B:Nat} {m:RMap}
theorem RCl.closed (h:RCl w O Z C p fa cs s rd B m) {g gc:Nat} {cs':List Int} (hg:g<w.heap.size) (hgO:g∉O) (hgZ:g∉Z) (hcell:∀ j,j<cs'.length→w.cell? ⟨g,j,none⟩=some (.int .i64 (cs'.getD j 0))) (rd':Int) :
  RCl ((w.setCell ⟨C,16,none⟩ (.int .i64 rd')).setCell ⟨C,11,none⟩ (.slice (some ⟨g,0,none⟩) cs'.length gc)) (g::O) Z C p fa cs' s rd' B { m with X:=g::m.X,ca:=some ⟨g,0,none⟩,ccap:=gc }∧Turns C C w ((w.setCell ⟨C,16,none⟩ (.int .i64 rd')).setCell ⟨C,11,none⟩ (.slice (some ⟨g,0,none⟩) cs'.length gc)):=by
 have hT:Turns C C w ((w.setCell ⟨C,16,none⟩ (.int .i64 rd')).setCell ⟨C,11,none⟩ (.slice (some ⟨g,0,none⟩) cs'.length gc)):=((Turns.refl C C w).set (p:=⟨C,16,none⟩) (.inl rfl) _).set (p:=⟨C,11,none⟩) (.inl rfl) _
 refine ⟨?_,hT⟩
 obtain ⟨Of,h⟩:=h
 have hCO:C∈O:=h.sub iB C (by decide) (by rw [h.ob];exact List.mem_cons_self)
 have hgC:g≠C:=fun e=>hgO (e▸hCO)
 have b:=h.base
 generalize hW:(w.setCell ⟨C,16,none⟩ (.int .i64 rd')).setCell ⟨C,11,none⟩ (.slice (some ⟨g,0,none⟩) cs'.length gc)=W at *
 have cC:∀ j,j≠11→j≠16→W.cell? ⟨C,j,none⟩=w.cell? ⟨C,j,none⟩:=fun j h1 h2=>by rw [← hW];exact (cell_other (.inr h1)).trans (cell_other (.inr h2))
 have cX:∀ c j,c≠C→W.cell? ⟨c,j,none⟩=w.cell? ⟨c,j,none⟩:=fun c j hc=>by rw [← hW];exact (cell_other (.inl hc)).trans (cell_other (.inl hc))
 have c11':W.cell? ⟨C,11,none⟩=some (.slice (some ⟨g,0,none⟩) cs'.length gc):=by rw [← hW];exact cell_set ((cell_other (.inr (by decide))).trans b.c11)
 have c16':W.cell? ⟨C,16,none⟩=some (.int .i64 rd'):=by rw [← hW];exact (cell_other (.inr (by decide))).trans (cell_set b.c16)
 have zC:∀ i,W.frozen? ⟨C,i,none⟩=false:=fun i=>by rw [← hW];exact soft_set.trans (soft_set.trans (b.z i))
 have nX:∀ c,c∈m.X→c≠C:=fun c hc e=>b.nC (e▸hc)
 have hsz:W.heap.size=w.heap.size:=by rw [← hW];simp
 have same:∀ i,i≠iB→Same (Of i) w W:=fun i hi=>⟨hT.size,fun c hc=>by
  have:c≠C:=fun e=>h.fam.ap i iB hi c hc (by rw [h.ob,e];exact List.mem_cons_self)
  exact hT.block c (h.fam.lt i c hc) this this⟩
 have key:∀ i,i≠iB→Apart (C::g::m.X) (Of i):=fun i hi c hc hx=>by
  rcases List.mem_cons.1 hc with y | y
  ·exact h.fam.ap iB i (Ne.symm hi) c (by rw [h.ob,y];exact List.mem_cons_self) hx
  ·rcases List.mem_cons.1 y with z | z
   ·by_cases ez:i=iZ
    ·rw [ez,h.oz] at hx;exact hgZ (z▸hx)
    ·exact hgO (z▸h.sub i c ez hx)
   ·exact h.fam.ap iB i (Ne.symm hi) c (by rw [h.ob];exact List.mem_cons_of_mem _ z) hx
 refine ⟨setO Of iB (C::g::m.X),⟨?_,h.rows.keep (h.oz▸same iZ (by decide)) |> fun x=>⟨x.sl,x.lk,x.zl⟩,setO_at _ _ _,by rw [setO_not _ _ (by decide)];exact h.oz,⟨fun i c hc=>?_,fun i j hij=>?_⟩,fun i c hz hc=>?_,fun c hc hx=>?_,fun c hc=>?_,fun j hj=>?_,fun k hk=>?_,fun k j hk hj=>?_,?_,h.pln⟩⟩
 ·refine ⟨(cC 0 (by decide) (by decide)).trans b.c0,(cC 1 (by decide) (by decide)).trans b.c1,(cC 3 (by decide) (by decide)).trans b.c3,(cC 4 (by decide) (by decide)).trans b.c4,(cC 5 (by decide) (by decide)).trans b.c5,(cC 6 (by decide) (by decide)).trans b.c6,(cC 7 (by decide) (by decide)).trans b.c7,(cC 10 (by decide) (by decide)).trans b.c10,c11',(cC 12 (by decide) (by decide)).trans b.c12,(cC 13 (by decide) (by decide)).trans b.c13,(cC 14 (by decide) (by decide)).trans b.c14,(cC 15 (by decide) (by decide)).trans b.c15,c16',zC,by rw [hsz];exact b.lc,?_,fun c hc=>?_,fun _=>⟨g,0,rfl,List.mem_cons_self,fun j hj=>by rw [Nat.zero_add];exact (cX g j hgC).trans (hcell j hj)⟩,fun j hj=>(cX _ _ (nX _ b.ndX)).trans (b.nd j hj),List.mem_cons_of_mem _ b.ndX,fun h0=>⟨(b.ka h0).1,List.mem_cons_of_mem _ (b.ka h0).2⟩,fun k hk=>(cX _ _ (nX _ (b.ka (by omega)).2)).trans (b.kk k hk),?_,List.mem_cons_of_mem _ b.tbX⟩
  ·intro hc
   rcases List.mem_cons.1 hc with e | e
   ·exact hgC e.symm
   ·exact b.nC e
  ·rw [hsz]
   rcases List.mem_cons.1 hc with e | e
   ·subst e;exact hg
   ·exact b.lx c e
  ·obtain ⟨f,hf,hr⟩:=b.tk
   exact ⟨f,hf.keep (hT.block _ (b.lx _ b.tbX) (nX _ b.tbX) (nX _ b.tbX)),hr⟩
 ·rw [hsz]
  by_cases e:i=iB
  ·rw [e,setO_at] at hc
   rcases List.mem_cons.1 hc with y | y
   ·subst y;exact b.lc
   ·rcases List.mem_cons.1 y with z | z
    ·subst z;exact hg
    ·exact b.lx c z
  ·rw [setO_not _ _ e] at hc;exact h.fam.lt i c hc
 ·by_cases e:i=iB
  ·rw [e,setO_at,setO_not _ _ (fun y=>hij (e.trans y.symm))]
   exact key j (fun y=>hij (e.trans y.symm))
  ·rw [setO_not _ _ e]
   by_cases e':j=iB
   ·rw [e',setO_at];exact (key i e).symm
   ·rw [setO_not _ _ e'];exact h.fam.ap i j hij
 ·by_cases e:i=iB
  ·rw [e,setO_at] at hc
   rcases List.mem_cons.1 hc with y | y
   ·subst y;exact List.mem_cons_of_mem _ hCO
   ·rcases List.mem_cons.1 y with z | z
    ·subst z;exact List.mem_cons_self
    ·exact List.mem_cons_of_mem _ (h.sub iB c (by decide) (by rw [h.ob];exact List.mem_cons_of_mem _ z))
  ·rw [setO_not _ _ e] at hc;exact List.mem_cons_of_mem _ (h.sub i c hz hc)
 ·rcases List.mem_cons.1 hc with y | y
  ·exact hgZ (y▸hx)
  ·exact h.az c y hx
 ·rw [hsz]
  rcases List.mem_cons.1 hc with y | y
  ·subst y;exact hg
  ·exact h.lo c y
 ·obtain ⟨⟨a1,a2⟩,a3⟩:=h.node j hj
  rw [setO_not _ _ (by intro y;cases y)]
  exact ⟨⟨a1.keepS (a2▸same (iN j) (by intro y;cases y)),a2⟩,a3⟩
 ·rw [setO_not _ _ (by intro y;cases y)]
  exact ⟨(h.snd k hk).1.keep (same (iS k) (by intro y;cases y)),(h.snd k hk).2⟩
 ·rw [setO_not _ _ (by intro y;cases y)]
  obtain ⟨a,b,⟨q,e⟩,r⟩:=h.rcv k j hk hj
  exact ⟨a,b,⟨q.keep (e▸same (iR k j) (by intro y;cases y)),e⟩,r⟩
 ·obtain ⟨PX,e,hn,q⟩:=h.prt
  exact ⟨PX,by rw [setO_not _ _ (by decide)];exact e,hn,q.keep (e▸same iP (by decide))⟩
end
end
section
section
variable {V wr:World} {O Z:List Nat} {C:Nat} {p:PlanN} {fa:Int} {cs:List Int} {s:ClS} {rd:Int} {B:Nat} {m:RMap}
theorem rtakeI (h:InRC O V wr Z C p fa cs s rd B m) (k j:Nat) (hk:k<p.nl) (hj:j<p.n) (q:Int) (hB:B≤999990) :
  Calls Tryz.prog 46 #[.pointer (some ⟨m.R k j,0,none⟩),.int .i64 q] wr fun e w'=>e=.returned (.bool (takeB (s.newest k j) q))∧InRC O V w' Z C p fa cs (s.setNew k j (tkNew (takeB (s.newest k j) q) q (s.newest k j))) rd (B+1) m:=by
 obtain ⟨O',h,c⟩:=h
 obtain ⟨a,b,r1,⟨⟨a1,a2⟩,b1,b2⟩,r2,r3⟩:=c.rcv hk hj
 refine (refTake_all r1 q r2 a1 (by omega) b1 (by omega)).mono ?_
 rintro e w' ⟨he,q1,q2⟩
 obtain ⟨O'',h2,c2⟩:=r3 w' (B+1) _ _ _ q1 q2 (by
  unfold tkTold tkNot
  refine ⟨⟨?_,?_⟩,?_,?_⟩ <;> split <;> omega) (tk_in9 r2) (by omega)
 exact ⟨he,O'',h.trans h2,c2⟩
theorem rhearsI (h:InRC O V wr Z C p fa cs s rd B m) (j:Nat) (hj:j<p.n) (frm what:Int) (hn1:1≤p.n) (hn:p.n≤16) (hB:B≤999990) :
  Calls Tryz.prog 47 #[.pointer (some ⟨m.P j,0,none⟩),.int .i64 frm,.int .i64 what] wr fun e w'=>e=.returned (.tuple #[])∧InRC O V w' Z C p fa cs (s.setNode j { t:=heT j p.n (s.nodes j).fz frm what (s.nodes j).t,g:=heG j p.n (s.nodes j).fz frm what (s.nodes j).g,b:=heB j p.n (s.nodes j).fz frm what (s.nodes j).b,fz:=(s.nodes j).fz }) rd (B+1) m:=by
 obtain ⟨O',h,c⟩:=h
 obtain ⟨n1,⟨⟨n2,n3⟩,n4,n5⟩,n6⟩:=c.nod hj
 have fin:∀ (e:Ending) (w':World),e=.returned (.tuple #[])∧RefNode w' (m.P j) (m.Q j) j p.n (heT j p.n (s.nodes j).fz frm what (s.nodes j).t) (heG j p.n (s.nodes j).fz frm what (s.nodes j).g) (heB j p.n (s.nodes j).fz frm what (s.nodes j).b) (s.nodes j).fz∧Turns (m.P j) (m.Q j) wr w'→e=.returned (.tuple #[])∧InRC O V w' Z C p fa cs (s.setNode j { t:=heT j p.n (s.nodes j).fz frm what (s.nodes j).t,g:=heG j p.n (s.nodes j).fz frm what (s.nodes j).g,b:=heB j p.n (s.nodes j).fz frm what (s.nodes j).b,fz:=(s.nodes j).fz }) rd (B+1) m:=by
  rintro e w' ⟨he,q1,q2⟩
  obtain ⟨O'',h2,c2⟩:=n6 w' (B+1) { t:=heT j p.n (s.nodes j).fz frm what (s.nodes j).t,g:=heG j p.n (s.nodes j).fz frm what (s.nodes j).g,b:=heB j p.n (s.nodes j).fz frm what (s.nodes j).b,fz:=(s.nodes j).fz } q1 q2 (by
   unfold NodeIn heG heB
   simp only []
   refine ⟨⟨?_,?_⟩,?_,?_⟩ <;> split <;> omega) (by omega)
  exact ⟨he,O'',h.trans h2,c2⟩
 cases hh:hearsB j p.n (s.nodes j).fz frm what
 ·refine (refHears_not n1 frm what hn1 hn hh).mono fun e w' ⟨he,hw⟩=>fin e w' ⟨he,?_,?_⟩
  ·subst hw
   have e1:heG j p.n (s.nodes j).fz frm what (s.nodes j).g=(s.nodes j).g:=by unfold heG;rw [if_neg (fun y=>by rw [hh] at y;cases y.1)]
   have e2:heB j p.n (s.nodes j).fz frm what (s.nodes j).b=(s.nodes j).b:=by unfold heB;rw [if_neg (fun y=>by rw [hh] at y;cases y.1)]
   rw [heT_not _ hh,e1,e2]
   exact n1
  ·subst hw;exact Turns.refl _ _ _
 ·obtain ⟨hf,k,hk,hkn,hid,h0,h2⟩:=hears_parts hh
  subst hk
  refine (refHears_acts n1 k what hn hf hkn hid h0 h2 n2 (by omega) n4 (by omega)).mono fun e w' ⟨he,hr,ht⟩=>fin e w' ⟨he,?_,ht⟩
  have e1:heG j p.n (s.nodes j).fz k what (s.nodes j).g=if what=1 then (s.nodes j).g+1 else (s.nodes j).g:=by
   unfold heG
   by_cases q:what=1
   ·rw [if_pos ⟨hh,q⟩,if_pos q]
   ·rw [if_neg (fun y=>q y.2),if_neg q]
  have e2:heB j p.n (s.nodes j).fz k what (s.nodes j).b=if what=2 then (s.nodes j).b+1 else (s.nodes j).b:=by
   unfold heB
   by_cases q:what=2
   ·rw [if_pos ⟨hh,q⟩,if_pos q]
   ·rw [if_neg (fun y=>q y.2),if_neg q]
  rw [heT_acts _ hh,e1,e2,hf]
  exact hr
theorem rsendsI (h:InRC O V wr Z C p fa cs s rd B m) (j:Nat) (hj:j<p.n) (hn:p.n≤16) (hB:1≤B) :
  Calls Tryz.prog 43 #[.pointer (some ⟨m.P j,0,none⟩)] wr fun e w'=>e=.returned (.tuple #[.int .i64 (if sendsB (s.nodes j).g (s.nodes j).b (s.nodes j).fz=true then bitsV (s.nodes j).t p.n else 0),.bool (sendsB (s.nodes j).g (s.nodes j).b (s.nodes j).fz)])∧InRC O V w' Z C p fa cs (s.setNode j (s.nodes j).sent) rd B m:=by
 obtain ⟨O',h,c⟩:=h
 obtain ⟨n1,⟨⟨n2,n3⟩,n4,n5⟩,n6⟩:=c.nod hj
 refine (refSends_any n1 hn).mono ?_
 rintro e w' ⟨he,q1,q2⟩
 obtain ⟨O'',h2,c2⟩:=n6 w' B (s.nodes j).sent q1 q2 (by
  unfold NodeIn NodeS.sent
  simp only []
  constructor <;> split <;> omega) (Nat.le_refl _)
 exact ⟨he,O'',h.trans h2,c2⟩
theorem rsendI (h:InRC O V wr Z C p fa cs s rd B m) (k:Nat) (hk:k<p.nl) (t:Int) (hb0:0≤p.lb k) (hb1:p.lb k≤1099511627776) (hB:B≤999990) :
  Calls Tryz.prog 44 #[.pointer (some ⟨m.S k,0,none⟩),.int .i64 t] wr fun e w'=>e=.returned (.tuple #[.int .i64 (sendSeq (sendK (s.links k).all.length (s.links k).went t (s.links k).now (s.links k).last (p.lb k)) (s.links k).went),.string (sendDat (sendK (s.links k).all.length (s.links k).went t (s.links k).now (s.links k).last (p.lb k)) (s.links k).all (s.links k).went),.int .i64 (sendK (s.links k).all.length (s.links k).went t (s.links k).now (s.links k).last (p.lb k))])∧InRC O V w' Z C p fa cs (s.setSend k ((s.links k).asked t (p.lb k))) rd B m:=by
 obtain ⟨O',h,c⟩:=h
 obtain ⟨OS,s1,⟨s2,⟨s3,s4⟩,s5⟩,s6⟩:=c.sdr hk
 refine (refSend_all s1 t (by omega) s3 s4 hb0 hb1).mono ?_
 rintro e w' ⟨he,q1,q2⟩
 obtain ⟨O'',h2,c2⟩:=s6 w' OS B ((s.links k).asked t (p.lb k)) q1 q2 ⟨s2,(by
  show 0≤sendLast _ t (s.links k).last∧sendLast _ t (s.links k).last≤1099511627776
  unfold sendLast
  split
  ·next q =>
   by_cases ht:0≤t∧t≤1099511627776
   ·exact ht
   ·unfold sendK at q
    rw [if_pos (by omega)] at q
    cases q
  ·omega),s5⟩ (Nat.le_refl _)
 exact ⟨he,O'',h.trans h2,c2⟩
theorem rjudgeI (h:InRC O V wr Z C p fa cs s rd B m) (j:Nat) (hj:j<p.n) (frm mem:Int) (hn1:1≤p.n) (hn:p.n≤16) :
  Calls Tryz.prog 45 #[.pointer (some ⟨m.P j,0,none⟩),.int .i64 frm,.int .i64 mem] wr fun e w'=>e=.returned (.int .i64 (judgeV p.n (s.nodes j).t (tb mem) frm mem))∧w'=wr:=by
 obtain ⟨O',h,c⟩:=h
 exact refJudges_any (c.nod hj).1 frm mem (tb mem) hn1 hn (fun m0 m1 i hi=>and_bit m0 m1 hn hi)
theorem RBase.look {w:World} (h:RBase w C p fa cs rd m) {k j:Nat} (hk:k<p.nl) (hj:j<p.n) (hnl:p.nl≤8) (hn:p.n≤16) :
  (Instr.lookup 61 (.map (some m.tb)) (.agg #[.int .i64 k,.int .i64 j]) false).run Tryz.prog w=.ok (.pointer (some ⟨m.R k j,0,none⟩)) w:=by
 obtain ⟨g,hg,hr⟩:=h.tk
 have:=hg.look (t:=61) (e:=109) Tryz.underlying61 (Tryz.zeroValue109 w) (show k<8 by omega) (show j<16 by omega)
 rw [hr k j hk hj] at this
 exact this
end
end
section
def of0 (C tb pb:Nat) (clk Z:List Nat):CIx→List Nat:=fun x=>if x=iB then C::tb::(clk ++ ([] ++ [])) else if x=iP then [pb] else if x=iZ then Z else []
theorem of0_in {C tb pb:Nat} {clk Z:List Nat} {x:CIx} {c:Nat} (h:c∈of0 C tb pb clk Z x):(x=iB∧c∈C::tb::clk)∨(x=iP∧c=pb)∨(x=iZ∧c∈Z):=by
 unfold of0 at h
 by_cases e1:x=iB
 ·rw [if_pos e1] at h;left;exact ⟨e1,by simpa using h⟩
 ·rw [if_neg e1] at h
  by_cases e2:x=iP
  ·rw [if_pos e2] at h;right;left;exact ⟨e2,by simpa using h⟩
  ·rw [if_neg e2] at h
   by_cases e3:x=iZ
   ·rw [if_pos e3] at h;right;right;exact ⟨e3,h⟩
   ·rw [if_neg e3] at h;cases h
def map0 (sa:Option Addr) (sc:Nat) (la:Option Addr) (lc:Nat) (ca:Option Addr) (ccap tb pb:Nat):RMap where
 X:=[]
 sa:=sa
 scap:=sc
 la:=la
 lcap:=lc
 ca:=ca
 ccap:=ccap
 nb:=0
 ncap:=0
 ka:=none
 kb:=0
 kcap:=0
 tb:=tb
 pb:=pb
 P:=fun _=>0
 Q:=fun _=>0
 S:=fun _=>0
 R:=fun _ _=>0
theorem Made.nm {v v4:World} {p:PlanN} {C:Nat} {nodes faulty skew jitter drift round frame:Int} {sa:Option Addr} {ns sc:Nat} {la:Option Addr} {nl lc:Nat} {wa:Option Addr} {nw wc:Nat} {fa:Int} {cs:List Int} {ca:Option Addr} {n ccap:Nat} {clk:List Nat} {tb pb:Nat} {Z:List Nat}
  (h:Made v v4 C (madeL nodes faulty skew jitter drift round frame sa ns sc la nl lc wa nw wc fa ca n ccap tb pb) cs ca ccap clk tb pb) (hZ:∀ c,c∈Z→c<v.heap.size) :
  NMy v4 v4 v.heap.size Z C p (fun q=>v4.cell? ⟨C,q,none⟩) clk (map0 sa sc la lc ca ccap tb pb) 0:=by
 have hs:=h.bel.size
 have h1:=h.lC
 have h2:=h.lt
 have lt1:=h.mt.lt
 have lt2:=h.mp.lt
 refine ⟨.slice none 0 0,⟨of0 C tb pb clk Z,map0 sa sc la lc ca ccap tb pb,⟨⟨rfl,rfl⟩,⟨rfl,rfl⟩,⟨rfl,rfl⟩,rfl,rfl⟩,?_⟩,fun g hg=>by cases hg⟩
 refine ⟨fun q _ _=>rfl,h.cel 12 _ rfl,h.cel 13 _ rfl,h.z,World.ownsRow_nil _ _ _ _,World.ownsRow_nil _ _ _ _,rfl,.inl rfl,?_,?_,fun g hg=>(by cases hg),fun g hg=>(by cases hg),fun j hj=>absurd hj (Nat.not_lt_zero _),fun j hj=>absurd hj (Nat.not_lt_zero _),fun a b hT=>(by cases hT),⟨_,h.mt,fun a b hT=>(by cases hT)⟩,⟨rfl,⟨_,h.mp,fun i j _ _=>.inl ⟨rfl,rfl⟩⟩⟩,fun j _=>rfl,fun j _=>rfl,fun a b _=>rfl,rfl,⟨fun x c hc=>?_,fun x y hxy c hc hd=>?_⟩,fun x c hx hc=>?_,hs⟩
 ·show C∉tb::(clk ++ ([] ++ []))
  simp only [List.append_nil,List.mem_cons,not_or]
  exact ⟨by omega,fun y=>(h.lk C y).2.2.2.2 rfl⟩
 ·show tb∉clk ++ ([] ++ [])
  simp only [List.append_nil]
  exact fun y=>(h.lk tb y).2.2.1 rfl
 ·rcases of0_in hc with ⟨_,y⟩ | ⟨_,y⟩ | ⟨_,y⟩
  ·simp only [List.mem_cons] at y
   rcases y with rfl | rfl | y
   ·omega
   ·exact lt1
   ·exact (h.lk c y).2.1
  ·rw [y];exact lt2
  ·have:=hZ c y;omega
 ·rcases of0_in hc with ⟨q1,y⟩ | ⟨q1,y⟩ | ⟨q1,y⟩ <;> rcases of0_in hd with ⟨q2,z⟩ | ⟨q2,z⟩ | ⟨q2,z⟩
  ·exact hxy (q1.trans q2.symm)
  ·simp only [List.mem_cons] at y
   rcases y with y | y | y
   ·omega
   ·omega
   ·exact (h.lk c y).2.2.2.1 z
  ·have:=hZ c z
   simp only [List.mem_cons] at y
   rcases y with y | y | y
   ·omega
   ·omega
   ·have:=(h.lk c y).1;omega
  ·simp only [List.mem_cons] at z
   rcases z with z | z | z
   ·omega
   ·omega
   ·exact (h.lk c z).2.2.2.1 y
  ·exact hxy (q1.trans q2.symm)
  ·have:=hZ c z;omega
  ·have:=hZ c y
   simp only [List.mem_cons] at z
   rcases z with z | z | z
   ·omega
   ·omega
   ·have:=(h.lk c z).1;omega
  ·have:=hZ c y;omega
  ·exact hxy (q1.trans q2.symm)
 ·rcases of0_in hc with ⟨_,y⟩ | ⟨_,y⟩ | ⟨q,y⟩
  ·simp only [List.mem_cons] at y
   rcases y with rfl | rfl | y
   ·omega
   ·omega
   ·exact (h.lk c y).1
  ·omega
  ·exact absurd q hx
theorem NMx.links0 {w:World} {base:Nat} {Z:List Nat} {C:Nat} {p:PlanN} {cc:Nat→Option Value} {clk:List Nat} {m0:RMap} {i:Nat} {V12 V13:Value} (h:NMx w base Z C p cc clk m0 i 0 (fun _ _=>false) V12 V13):NMx w base Z C p cc clk m0 i 0 (tkB p.n 0 0) V12 V13:=by
 have e:tkB p.n 0 0=fun _ _=>false:=by
  funext a b
  unfold tkB
  simp
 rw [e];exact h
end
section
section
variable {w:World} {O:List Nat} {C:Nat} {p:PlanN} {fa:Int} {cs:List Int} {s:ClS} {rd:Int} {B:Nat} {m:CMap}
theorem Cl.closed (h:Cl w O C p fa cs s rd B m) {g gc:Nat} {cs':List Int} (hg:g<w.heap.size) (hgO:g∉O) (hcell:∀ j,j<cs'.length→w.cell? ⟨g,j,none⟩=some (.int .i64 (cs'.getD j 0))) (rd':Int) :
  Cl ((w.setCell ⟨C,12,none⟩ (.int .i64 rd')).setCell ⟨C,11,none⟩ (.slice (some ⟨g,0,none⟩) cs'.length gc)) (g::O) C p fa cs' s rd' B { m with X:=g::m.X,cb:=g,ccap:=gc }∧Turns C C w ((w.setCell ⟨C,12,none⟩ (.int .i64 rd')).setCell ⟨C,11,none⟩ (.slice (some ⟨g,0,none⟩) cs'.length gc)):=by
 have hT:Turns C C w ((w.setCell ⟨C,12,none⟩ (.int .i64 rd')).setCell ⟨C,11,none⟩ (.slice (some ⟨g,0,none⟩) cs'.length gc)):=((Turns.refl C C w).set (p:=⟨C,12,none⟩) (.inl rfl) _).set (p:=⟨C,11,none⟩) (.inl rfl) _
 refine ⟨?_,hT⟩
 obtain ⟨Of,h⟩:=h
 have hCO:C∈O:=h.sub iB C (by rw [h.ob];exact List.mem_cons_self)
 have hgC:g≠C:=fun e=>hgO (e▸hCO)
 have b:=h.base
 have cC:∀ j,j≠11→j≠12→((w.setCell ⟨C,12,none⟩ (.int .i64 rd')).setCell ⟨C,11,none⟩ (.slice (some ⟨g,0,none⟩) cs'.length gc)).cell? ⟨C,j,none⟩=w.cell? ⟨C,j,none⟩:=fun j h1 h2=>(cell_other (.inr h1)).trans (cell_other (.inr h2))
 have cX:∀ c j,c≠C→((w.setCell ⟨C,12,none⟩ (.int .i64 rd')).setCell ⟨C,11,none⟩ (.slice (some ⟨g,0,none⟩) cs'.length gc)).cell? ⟨c,j,none⟩=w.cell? ⟨c,j,none⟩:=fun c j hc=>(cell_other (.inl hc)).trans (cell_other (.inl hc))
 have nX:∀ c,c∈m.X→c≠C:=fun c hc e=>b.nC (e▸hc)
 have hsz:((w.setCell ⟨C,12,none⟩ (.int .i64 rd')).setCell ⟨C,11,none⟩ (.slice (some ⟨g,0,none⟩) cs'.length gc)).heap.size=w.heap.size:=by simp
 have same:∀ i,i≠iB→Same (Of i) w ((w.setCell ⟨C,12,none⟩ (.int .i64 rd')).setCell ⟨C,11,none⟩ (.slice (some ⟨g,0,none⟩) cs'.length gc)):=fun i hi=>⟨hT.size,fun c hc=>by
  have:c≠C:=fun e=>h.fam.ap i iB hi c hc (by rw [h.ob,e];exact List.mem_cons_self)
  exact hT.block c (h.fam.lt i c hc) this this⟩
 refine ⟨setO Of iB (C::g::m.X),⟨?_,?_,?_,?_,?_,fun j hj=>?_,fun k hk=>?_,fun k j hk hj hb=>?_,fun k j hk hj hb=>?_⟩⟩
 ·refine ⟨(cC 0 (by decide) (by decide)).trans b.c0,(cC 1 (by decide) (by decide)).trans b.c1,(cC 3 (by decide) (by decide)).trans b.c3,(cC 4 (by decide) (by decide)).trans b.c4,(cC 5 (by decide) (by decide)).trans b.c5,(cC 6 (by decide) (by decide)).trans b.c6,(cC 10 (by decide) (by decide)).trans b.c10,cell_set ((cell_other (.inr (by decide))).trans b.c11),(cell_other (.inr (by decide))).trans (cell_set b.c12),(cC 13 (by decide) (by decide)).trans b.c13,(cC 14 (by decide) (by decide)).trans b.c14,fun i=>soft_set.trans (soft_set.trans (b.z i)),by rw [hsz];exact b.lc,?_,fun c hc=>?_,fun j hj=>(cX g j hgC).trans (hcell j hj),List.mem_cons_self,fun h0=>?_,fun j hj=>(cX _ _ (nX _ b.ndX)).trans (b.nd j hj),List.mem_cons_of_mem _ b.ndX,fun h0=>⟨(b.la h0).1,List.mem_cons_of_mem _ (b.la h0).2⟩,fun k hk=>?_,fun k hk=>⟨List.mem_cons_of_mem _ (b.en k hk).1,fun j hj=>(cX _ _ (nX _ (b.en k hk).1)).trans ((b.en k hk).2 j hj)⟩,fun k j hk hj hb=>?_⟩
  ·intro hc
   rcases List.mem_cons.1 hc with e | e
   ·exact hgC e.symm
   ·exact b.nC e
  ·rw [hsz]
   rcases List.mem_cons.1 hc with e | e
   ·subst e;exact hg
   ·exact b.lx c e
  ·obtain ⟨sb,off,e,hb,hc⟩:=b.sl h0
   exact ⟨sb,off,e,List.mem_cons_of_mem _ hb,fun i hi=>⟨(cX _ _ (nX _ hb)).trans (hc i hi).1,(cX _ _ (nX _ hb)).trans (hc i hi).2.1,(cX _ _ (nX _ hb)).trans (hc i hi).2.2⟩⟩
  ·have hl:=nX _ (b.la (by omega)).2
   obtain ⟨a1,a2,a3⟩:=b.lk k hk
   exact ⟨(cX _ _ hl).trans a1,(cX _ _ hl).trans a2,(cX _ _ hl).trans a3⟩
  ·obtain ⟨a1,a2,a3⟩:=b.dn k j hk hj hb
   exact ⟨List.mem_cons_of_mem _ a1,(cX _ _ (nX _ a1)).trans a2,(cX _ _ (nX _ a1)).trans a3⟩
 ·rw [setO_at]
 ·refine ⟨fun i c hc=>?_,fun i j hij=>?_⟩
  ·rw [hsz]
   by_cases e:i=iB
   ·rw [e,setO_at] at hc
    rcases List.mem_cons.1 hc with y | y
    ·subst y;exact b.lc
    ·rcases List.mem_cons.1 y with z | z
     ·subst z;exact hg
     ·exact b.lx c z
   ·rw [setO_not _ _ e] at hc;exact h.fam.lt i c hc
  ·have key:∀ i,i≠iB→Apart (C::g::m.X) (Of i):=fun i hi c hc hx=>by
    rcases List.mem_cons.1 hc with y | y
    ·exact h.fam.ap iB i (Ne.symm hi) c (by rw [h.ob,y];exact List.mem_cons_self) hx
    ·rcases List.mem_cons.1 y with z | z
     ·exact hgO (z▸h.sub i c hx)
     ·exact h.fam.ap iB i (Ne.symm hi) c (by rw [h.ob];exact List.mem_cons_of_mem _ z) hx
   by_cases e:i=iB
   ·rw [e,setO_at,setO_not _ _ (fun y=>hij (e.trans y.symm))]
    exact key j (fun y=>hij (e.trans y.symm))
   ·rw [setO_not _ _ e]
    by_cases e':j=iB
    ·rw [e',setO_at];exact (key i e).symm
    ·rw [setO_not _ _ e'];exact h.fam.ap i j hij
 ·intro i c hc
  by_cases e:i=iB
  ·rw [e,setO_at] at hc
   rcases List.mem_cons.1 hc with y | y
   ·subst y;exact List.mem_cons_of_mem _ hCO
   ·rcases List.mem_cons.1 y with z | z
    ·subst z;exact List.mem_cons_self
    ·exact List.mem_cons_of_mem _ (h.sub iB c (by rw [h.ob];exact List.mem_cons_of_mem _ z))
  ·rw [setO_not _ _ e] at hc;exact List.mem_cons_of_mem _ (h.sub i c hc)
 ·intro c hc
  rw [hsz]
  rcases List.mem_cons.1 hc with y | y
  ·subst y;exact hg
  ·exact h.lo c y
 ·obtain ⟨⟨a1,a2⟩,a3⟩:=h.node j hj
  rw [setO_not _ _ (by intro y;cases y)]
  exact ⟨⟨a1.same (a2▸same (iN j) (by intro y;cases y)),a2⟩,a3⟩
 ·rw [setO_not _ _ (by intro y;cases y)]
  exact ⟨(h.snd k hk).1.keep (same (iS k) (by intro y;cases y)),(h.snd k hk).2⟩
 ·rw [setO_not _ _ (by intro y;cases y)]
  obtain ⟨a,b,q,r⟩:=h.rcv k j hk hj hb
  exact ⟨a,b,q.keep (same (iR k j) (by intro y;cases y)),r⟩
 ·rw [setO_not _ _ (by intro y;cases y)]
  obtain ⟨l,q,r⟩:=h.que k j hk hj hb
  exact ⟨l,q.keep (same (iQ k j) (by intro y;cases y)),r⟩
theorem csendsIn {V wr:World} (h:InCl O V wr C p fa cs s rd B m) (H:HapS) (i:Nat) (mode:Int) (hi:i<p.ns) (hl:H.lies=bitI fa) (hm:H.mode (p.S.nd i)=mode) (hnd:0≤p.nd i) (hwn:p.S.nd i<p.n) (hnn:p.nodes=p.n) (hn:p.n≤16) (hB0:1≤B)
  (hr1:1≤p.round) (hr2:p.round≤137438953472) (hrd:0≤rd) (hf0:0≤p.fr i) (hf1:p.fr i≤1099511627776) (hnl:p.nl≤8) (hB:B≤999990) (hlk:∀ k,k<p.nl→0≤p.lf k∧0≤p.lb k∧p.lb k≤1099511627776) :
  Calls Tryz.prog 38 #[.pointer (some ⟨C,0,none⟩),.int .i64 i,.int .i64 mode] wr fun e w'=>∃ mem sent LK SQ SD,e=.returned (.tuple #[.agg #[.int .i64 (p.S.nd i:Nat),.int .i64 i,.int .i64 mem,.int .i64 LK,.int .i64 SQ,.string SD],.bool sent])∧((LK=msgLk (s.goes p.S H rd i).2∧SQ=msgSeq (s.goes p.S H rd i).2∧SD=msgDat (s.goes p.S H rd i).2)∧MsgIn p (s.goes p.S H rd i).2∧sent=s.sends H (p.S.nd i)∧(sent=true→mem=bitsV (s.tells p.S H (p.S.nd i)) p.n))∧InCl O V w' C p fa cs (s.sentS p H rd i) rd B m:=by
 obtain ⟨O',h,c⟩:=h
 have hmsg:=c.msg H i
 refine (csendsA c H i mode hi hl hm hnd hwn hnn hn hB0 hr1 hr2 hrd hf0 hf1 hnl hB hlk).mono ?_
 rintro e w' ⟨mem,sent,he,h1,h2,O'',h3,h4⟩
 exact ⟨mem,sent,_,_,_,he,⟨⟨rfl,rfl,rfl⟩,hmsg,h1,h2⟩,O'',h.trans h3,h4⟩
theorem cslotIn {V wr:World} {H:HapS} {i:Nat} {mem l0 l1 LK SQ:Int} {SD:ByteArray} {sent:Bool} (h:InCl O V wr C p fa cs (s.sentS p H rd i) rd B m) (hx:(LK=msgLk (s.goes p.S H rd i).2∧SQ=msgSeq (s.goes p.S H rd i).2∧SD=msgDat (s.goes p.S H rd i).2)∧MsgIn p (s.goes p.S H rd i).2∧sent=s.sends H (p.S.nd i)∧(sent=true→mem=bitsV (s.tells p.S H (p.S.nd i)) p.n)) (hw:p.S.nd i<p.n) (hn:p.n≤16) (hB:B≤999000) (h0:∀ j,j<p.n→bitI l0 j=H.lost i 0 j) (h1:∀ j,j<p.n→bitI l1 j=H.lost i 1 j) :
  Calls Tryz.prog 40 #[.pointer (some ⟨C,0,none⟩),.agg #[.int .i64 (p.S.nd i:Nat),.int .i64 i,.int .i64 mem,.int .i64 LK,.int .i64 SQ,.string SD],.bool sent,.agg #[.int .i64 l0,.int .i64 l1]] wr fun e w'=>e=.returned (.tuple #[])∧InCl O V w' C p fa cs (s.slot p.S H rd i) rd (B+5*p.n) m:=by
 obtain ⟨O',h,c⟩:=h
 obtain ⟨⟨rfl,rfl,rfl⟩,hm,hs,hmem⟩:=hx
 refine (cslot_any c hm hw hn hB hs hmem h0 h1).mono ?_
 rintro e w' ⟨he,O'',h3,h4⟩
 exact ⟨he,O'',h.trans h3,h4⟩
end
end
section
theorem set_far {w u w3:World} {n g FB:Nat} {ST:Nat→Int} (hg:u.heap.size≤g∧g<w3.heap.size) (hc:∀ j,j<n→w3.cell? ⟨g,j,none⟩=some (.int .i64 (ST j))) (hz:∀ j,w3.frozen? ⟨g,j,none⟩=false) (hu:Below w.heap.size w u) (hb:Below u.heap.size u w3) (hF:FB≠g) (hF0:w.heap.size≤FB) (x0:w3.cell? ⟨FB,0,none⟩=some (.int .i64 0)) :
  ((w.heap.size≤g∧g<((w3.setCell ⟨FB,0,none⟩ (.int .i64 0)).setCell ⟨FB,1,none⟩ (.int .i64 (-1))).heap.size)∧(∀ j,j<n→((w3.setCell ⟨FB,0,none⟩ (.int .i64 0)).setCell ⟨FB,1,none⟩ (.int .i64 (-1))).cell? ⟨g,j,none⟩=some (.int .i64 (ST j)))∧∀ j,((w3.setCell ⟨FB,0,none⟩ (.int .i64 0)).setCell ⟨FB,1,none⟩ (.int .i64 (-1))).frozen? ⟨g,j,none⟩=false)∧((w3.setCell ⟨FB,0,none⟩ (.int .i64 0)).setCell ⟨FB,1,none⟩ (.int .i64 (-1))).cell? ⟨FB,0,none⟩=some (.int .i64 0)∧Below w.heap.size w ((w3.setCell ⟨FB,0,none⟩ (.int .i64 0)).setCell ⟨FB,1,none⟩ (.int .i64 (-1))):=by
 have hs:=hu.size
 refine ⟨⟨⟨by omega,by simpa using hg.2⟩,fun j hj=>(cell_other (.inl (Ne.symm hF))).trans ((cell_other (.inl (Ne.symm hF))).trans (hc j hj)),fun j=>soft_set.trans (soft_set.trans (hz j))⟩,(cell_other (.inr (by decide))).trans (cell_set x0),((hu.trans (hb.mono hs)).setCell (p:=⟨FB,0,none⟩) hF0 _).setCell (p:=⟨FB,1,none⟩) hF0 _⟩
def w_rp_set_0 (k:Nat):Bool:=(decide (18≤k) && decide (k≤19)) || (decide (156≤k) && decide (k≤169))
theorem rp_set (code:Code) (hcode:Tryz.f10.body.bind (regionIn 22)=some code) (Q:Exit→Act→World→Prop) (C n ca off ccap g12 c12 f:Nat) (ST:Nat→Int) (w:World) (y11:w.cell? ⟨C,11,none⟩=some (.slice (some ⟨ca,off,none⟩) n ccap)) (y1:w.cell? ⟨C,1,none⟩=some (.int .i64 f))
  (hset:∀ u,Below w.heap.size w u→Calls Tryz.prog 42 #[.slice (some ⟨ca,off,none⟩) n ccap,.slice (some ⟨g12,0,none⟩) n c12,.int .i64 f] u fun ev w'=>∃ g gc,ev=.returned (.tuple #[.slice (some ⟨g,0,none⟩) n gc,.agg #[.int .i64 0,.int .i64 (-1)]])∧(u.heap.size≤g∧g<w'.heap.size∧(∀ j,j<n→w'.cell? ⟨g,j,none⟩=some (.int .i64 (ST j)))∧∀ j,w'.frozen? ⟨g,j,none⟩=false)∧Below u.heap.size u w') {L:List Value} (hL0:L.length=452) (s0:L[0]? = some (.pointer (some ⟨C,0,none⟩))) (s12:L[12]? = some (.slice (some ⟨g12,0,none⟩) n c12))
  (hexit:∀ (L':List Value) (g gc FB:Nat) (w3:World),((w.heap.size≤g∧g<w3.heap.size)∧(∀ j,j<n→w3.cell? ⟨g,j,none⟩=some (.int .i64 (ST j)))∧∀ j,w3.frozen? ⟨g,j,none⟩=false)→w3.cell? ⟨FB,0,none⟩=some (.int .i64 0)→Below w.heap.size w w3→L'.length=452→Rest w_rp_set_0 L L'→L'[18]? = some (.slice (some ⟨g,0,none⟩) n gc)→L'[19]? = some (.pointer (some ⟨FB,0,none⟩))→Q .normal ⟨L'.toArray,[]⟩ w3) :
  Code.wp Tryz.prog code Q ⟨L.toArray,[]⟩ w:=by
 have hb2':(Tryz.f10.body.bind (regionIn 22)).getD Code.skip=code:=by rw [hcode];rfl
 obtain rfl:=hb2'
 clear hcode
 conv=>arg 2;whnf
 have HEX:Hid _:=hexit
 obtain ⟨fL,rfl⟩:=lit L 452 hL0
 replace s0:=lit_at s0
 replace s12:=lit_at s12
 simp only [List.range,List.range.loop,List.map_cons,List.map_nil,s0,s12]
 have HSET:Hid _:=hset
 have hlC:C<w.heap.size:=lt_of_cell y11
 have HB0:Hid (Below w.heap.size w w.drew):=(Below.refl _ _).drew
 have HB1:Hid (Below w.heap.size w (w.alloc (.cells #[.int .i64 0,.int .i64 0] 38)).drew):=((Below.refl _ _).alloc (Nat.le_refl _) _).drew
 have hne:C≠w.heap.size:=by omega
 have HF0:Hid ((w.alloc (.cells #[.int .i64 0,.int .i64 0] 38)).drew.cell? ⟨w.heap.size,0,none⟩=some (.int .i64 0)∧(w.alloc (.cells #[.int .i64 0,.int .i64 0] 38)).drew.cell? ⟨w.heap.size,1,none⟩=some (.int .i64 0)∧(w.alloc (.cells #[.int .i64 0,.int .i64 0] 38)).drew.frozen? ⟨w.heap.size,0,none⟩=false∧(w.alloc (.cells #[.int .i64 0,.int .i64 0] 38)).drew.frozen? ⟨w.heap.size,1,none⟩=false∧w.heap.size<(w.alloc (.cells #[.int .i64 0,.int .i64 0] 38)).drew.heap.size):=by
  show ((w.alloc (.cells #[.int .i64 0,.int .i64 0] 38)).cell? ⟨w.heap.size,0,none⟩=_∧(w.alloc (.cells #[.int .i64 0,.int .i64 0] 38)).cell? ⟨w.heap.size,1,none⟩=_∧(w.alloc (.cells #[.int .i64 0,.int .i64 0] 38)).frozen? ⟨w.heap.size,0,none⟩=false∧(w.alloc (.cells #[.int .i64 0,.int .i64 0] 38)).frozen? ⟨w.heap.size,1,none⟩=false∧w.heap.size<(w.alloc (.cells #[.int .i64 0,.int .i64 0] 38)).heap.size)
  simp
 clear hexit hset
 go_region_held3 (fun u=>u.cell? ⟨C,11,none⟩=some (.slice (some ⟨ca,off,none⟩) n ccap)∧u.cell? ⟨C,1,none⟩=some (.int .i64 f)) (go_keep) (first
  | (go_at_call 42;refine (HSET.out _ HB0.out).mono ?_;rintro ev w3 ⟨g,gc,rfl,⟨hg1,hg2,hgc,hgz⟩,hbS⟩;have y11b:=keep_cell y11 (HB0.out.trans hbS);have y1b:=keep_cell y1 (HB0.out.trans hbS);have hne3:C≠w3.heap.size:=(by have:=hbS.size;have:w.drew.heap.size=w.heap.size:=rfl;omega);have q11:(((w3.alloc (.cells #[.int .i64 0,.int .i64 0] 38)).setCell ⟨w3.heap.size,0,none⟩ (.int .i64 0)).setCell ⟨w3.heap.size,1,none⟩ (.int .i64 (-1))).cell? ⟨C,11,none⟩=some (.slice (some ⟨ca,off,none⟩) n ccap):=(cell_other (.inl hne3)).trans ((cell_other (.inl hne3)).trans ((World.cell?_alloc_lt _ _ _ (lt_of_cell y11b)).trans y11b));have q1:(((w3.alloc (.cells #[.int .i64 0,.int .i64 0] 38)).setCell ⟨w3.heap.size,0,none⟩ (.int .i64 0)).setCell ⟨w3.heap.size,1,none⟩ (.int .i64 (-1))).cell? ⟨C,1,none⟩=some (.int .i64 f):=(cell_other (.inl hne3)).trans ((cell_other (.inl hne3)).trans ((World.cell?_alloc_lt _ _ _ (lt_of_cell y1b)).trans y1b)))
  | (go_at_call 42;refine (HSET.out _ HB1.out).mono ?_;rintro ev w3 ⟨g,gc,rfl,⟨hg1,hg2,hgc,hgz⟩,hbS⟩;have y11b:=keep_cell y11 (HB1.out.trans (hbS.mono HB1.out.size));have y1b:=keep_cell y1 (HB1.out.trans (hbS.mono HB1.out.size));have f0:=keep_cell HF0.out.1 hbS;have f1:=keep_cell HF0.out.2.1 hbS;have f2:=(hbS.frozen (p:=⟨w.heap.size,0,none⟩) HF0.out.2.2.2.2).trans HF0.out.2.2.1;have f3:=(hbS.frozen (p:=⟨w.heap.size,1,none⟩) HF0.out.2.2.2.2).trans HF0.out.2.2.2.1;have q11:((w3.setCell ⟨w.heap.size,0,none⟩ (.int .i64 0)).setCell ⟨w.heap.size,1,none⟩ (.int .i64 (-1))).cell? ⟨C,11,none⟩=some (.slice (some ⟨ca,off,none⟩) n ccap):=(cell_other (.inl hne)).trans ((cell_other (.inl hne)).trans y11b);have q1:((w3.setCell ⟨w.heap.size,0,none⟩ (.int .i64 0)).setCell ⟨w.heap.size,1,none⟩ (.int .i64 (-1))).cell? ⟨C,1,none⟩=some (.int .i64 f):=(cell_other (.inl hne)).trans ((cell_other (.inl hne)).trans y1b)))
 ·have hB:Below w.heap.size w w3:=HB0.out.trans hbS
  have hA:Below w3.heap.size w3 (w3.alloc (.cells #[.int .i64 0,.int .i64 (-1)] 38)):=(Below.refl _ _).alloc (Nat.le_refl _) _
  exact HEX.out _ _ _ _ _ ⟨⟨hg1,Nat.lt_of_lt_of_le hg2 hA.size⟩,fun j hj=>(hA.cell (p:=⟨g,j,none⟩) hg2).trans (hgc j hj),fun j=>(hA.frozen (p:=⟨g,j,none⟩) hg2).trans (hgz j)⟩ (by simp) (hB.trans (hA.mono hB.size)) rfl (Rest.of rfl) rfl rfl
 ·have hf:=set_far (w:=w) (n:=n) (FB:=w.heap.size) ⟨hg1,hg2⟩ hgc hgz HB1.out hbS (by have:=HF0.out.2.2.2.2;omega) (Nat.le_refl _) f0
  exact HEX.out _ _ _ _ _ hf.1 hf.2.1 hf.2.2 rfl (Rest.of rfl) rfl rfl
end
section
section
variable {w:World} {O Z:List Nat} {C:Nat} {p:PlanN} {fa:Int} {cs:List Int} {s:ClS} {rd:Int} {B:Nat} {m:RMap}
def w_rp_take_0 (k:Nat):Bool:=(decide (374≤k) && decide (k≤402))
theorem rp_take (code:Code) (hcode:Tryz.f10.body.bind (regionIn 73)=some code) (Q:Exit→Act→World→Prop) (h:RCl w O Z C p fa cs s rd B m) (k j:Nat) (q:Int) (hk:k<p.nl) (hj:j<p.n) (hnl:p.nl≤8) (hn:p.n≤16) (hB:B≤999990) (hbt:bitI (p.lt k) j=true) {L:List Value} (hL0:L.length=452) (s0:L[0]? = some (.pointer (some ⟨C,0,none⟩))) (s27:L[27]? = some (.int .i64 k)) (s28:L[28]? = some (.int .i64 q)) (s35:L[35]? = some (.int .i64 j))
  (hexit:∀ (L':List Value) (w3:World),InRC O w w3 Z C p fa cs (s.setNew k j (tkNew (takeB (s.newest k j) q) q (s.newest k j))) rd (B+1) m→L'.length=452→Rest w_rp_take_0 L L'→L'[402]? = some (.bool (takeB (s.newest k j) q))→Q .normal ⟨L'.toArray,[]⟩ w3) :
  Code.wp Tryz.prog code Q ⟨L.toArray,[]⟩ w:=by
 have hb2:(Tryz.f10.body.bind (regionIn 73)).getD Code.skip=code:=by rw [hcode];rfl
 obtain rfl:=hb2
 clear hcode
 conv=>arg 2;whnf
 have HEX:Hid _:=hexit
 obtain ⟨fL,rfl⟩:=lit L 452 hL0
 replace s0:=lit_at s0
 replace s27:=lit_at s27
 replace s28:=lit_at s28
 replace s35:=lit_at s35
 simp only [List.range,List.range.loop,List.map_cons,List.map_nil,s0,s27,s28,s35]
 clear hexit
 have hI:InRC O w w.drew Z C p fa cs s rd B m:=⟨O,Foot.refl O w,h⟩ |> fun x=>InRC.drawn x 1
 have HT:Hid (Calls Tryz.prog 46 #[.pointer (some ⟨m.R k j,0,none⟩),.int .i64 q] w.drew fun e w'=>e=.returned (.bool (takeB (s.newest k j) q))∧InRC O w w' Z C p fa cs (s.setNew k j (tkNew (takeB (s.newest k j) q) q (s.newest k j))) rd (B+1) m):=rtakeI hI k j hk hj q hB
 have hlook:(Instr.lookup 61 (.map (some m.tb)) (.agg #[.int .i64 k,.int .i64 j]) false).run Tryz.prog w.drew=.ok (.pointer (some ⟨m.R k j,0,none⟩)) w.drew:=hI.base.look hk hj hnl hn
 have c7:=h.base.c7
 have c14:=h.base.c14
 have lc:=h.base.lc
 obtain ⟨b,off,e,hbZ,hc⟩:=h.rows.lk (by omega)
 have hbl:=h.rows.zl b hbZ
 rw [e] at c7
 obtain ⟨x0,x1,x2,x3⟩:=hc k hk
 have hpw:=pow_small16 j (by omega)
 have kk:(k:Int)<(p.nl:Int):=by omega
 have hba:=bit_and (p.lt k) (j:=j) (by omega)
 rw [hbt] at hba
 have e1:IntKind.i64.wrap ((2:Int) ^ j)=2 ^ j:=by
  rw [IntKind.wrap_i64]
  generalize (2:Int) ^ j=T at *
  omega
 have HL:Hid (∀ (w':World) (s':ClS) (B':Nat),InRC O w w' Z C p fa cs s' rd B' m→(w'.cell? ⟨C,7,none⟩=some (.slice (some ⟨b,off,none⟩) p.nl m.lcap)∧w'.cell? ⟨C,14,none⟩=some (.map (some m.tb)))∧w'.cell? ⟨b,off+k*4+1,none⟩=some (.int .i64 (p.lt k))∧w.heap.size≤w'.heap.size):=fun w' s' B' hi=>by
  have y7:=hi.base.c7
  rw [e] at y7
  obtain ⟨b',off',e',hb',hc'⟩:=hi.rows.lk (by omega)
  rw [e] at e'
  cases e'
  exact ⟨⟨y7,hi.base.c14⟩,(hc' k hk).2.1,hi.size⟩
 clear hc h e hbt hI
 generalize p.lt k=LT at *
 generalize p.nl=NL at *
 go_region_held3 (fun u=>u.cell? ⟨C,7,none⟩=some (.slice (some ⟨b,off,none⟩) NL m.lcap)∧u.cell? ⟨C,14,none⟩=some (.map (some m.tb))∧u.cell? ⟨b,off+k*4+1,none⟩=some (.int .i64 LT)) (go_keep) (first
  | (go_at_call 46;refine HT.out.mono ?_;rintro ev w3 ⟨rfl,hI3⟩;obtain ⟨⟨y7,y14⟩,y1,hs3⟩:=HL.out w3 _ _ hI3))
 exact HEX.out _ _ hI3 rfl (Rest.of rfl) rfl
end
end
section
def RNewPost (w:World) (p:PlanN) (a:PlanAt) (fa:Int) (cs:List Int) (e:Ending) (w':World):Prop :=
 Below w.heap.size w w'∧∃ K I,NewIs p fa cs K I∧((K≠0∧e=.returned (.tuple #[.pointer none,.agg #[.int .i64 K,.int .i64 I]])) ∨
  (K=0∧∃ O Z C m,e=.returned (.tuple #[.pointer (some ⟨C,0,none⟩),.agg #[.int .i64 0,.int .i64 (-1)]])∧RCl w' O Z C p fa cs ClS.start 0 1 m∧(∀ c,c∈O→w.heap.size≤c)∧∀ u:World,p.In a u→∀ c,c∈Z→c<u.heap.size))
theorem nbox10 (w:World) (a b c d e f g h i j:Value) (t:TypeId) (k l:Value) (t':TypeId) (V:World) (hV:(w.alloc (.cells #[a,b,c,d,e,f,g,h,i,j] t)).alloc (.cells #[k,l] t')=V) :
  ((V.cell? ⟨w.heap.size,0,none⟩=some a∧V.cell? ⟨w.heap.size,1,none⟩=some b∧V.cell? ⟨w.heap.size,2,none⟩=some c∧V.cell? ⟨w.heap.size,3,none⟩=some d∧V.cell? ⟨w.heap.size,4,none⟩=some e)∧V.cell? ⟨w.heap.size,5,none⟩=some f∧V.cell? ⟨w.heap.size,6,none⟩=some g∧V.cell? ⟨w.heap.size,7,none⟩=some h∧V.cell? ⟨w.heap.size,8,none⟩=some i∧V.cell? ⟨w.heap.size,9,none⟩=some j)∧(V.cell? ⟨w.heap.size+1,0,none⟩=some k∧V.cell? ⟨w.heap.size+1,1,none⟩=some l∧∀ q,V.frozen? ⟨w.heap.size+1,q,none⟩=false)∧Below w.heap.size w V∧V.heap.size=w.heap.size+1+1:=by
 subst hV
 have hE:(w.alloc (.cells #[a,b,c,d,e,f,g,h,i,j] t)).heap.size=w.heap.size+1:=by simp
 have n0:=World.cell?_alloc_new (w.alloc (.cells #[a,b,c,d,e,f,g,h,i,j] t)) #[k,l] t' 0
 have n1:=World.cell?_alloc_new (w.alloc (.cells #[a,b,c,d,e,f,g,h,i,j] t)) #[k,l] t' 1
 rw [hE] at n0 n1
 refine ⟨⟨⟨by simp,by simp,by simp,by simp,by simp⟩,by simp,by simp,by simp,by simp,by simp⟩,⟨n0,n1,fun q=>?_⟩,((Below.refl _ _).alloc (Nat.le_refl _) _).alloc (by simp) _,by simp⟩
 rw [← hE]
 simp
theorem npow17 (n:Nat) (h:n≤16):1≤(2:Int) ^ n∧(2:Int) ^ n≤65536:=by
 have:n=0∨n=1∨n=2∨n=3∨n=4∨n=5∨n=6∨n=7∨n=8∨n=9∨n=10∨n=11∨n=12∨n=13∨n=14∨n=15∨n=16:=by omega
 rcases this with rfl | rfl | rfl | rfl | rfl | rfl | rfl | rfl | rfl | rfl | rfl | rfl | rfl | rfl | rfl | rfl | rfl <;> decide
theorem fbox2 (v:World) (E I:Value) (t:TypeId) (V:World) (hV:v.alloc (.cells #[E,I] t)=V):V.cell? ⟨v.heap.size,0,none⟩=some E∧V.cell? ⟨v.heap.size,1,none⟩=some I∧Below v.heap.size v V∧V.heap.size=v.heap.size+1:=by
 subst hV
 exact ⟨by simp,by simp,(Below.refl _ _).alloc (Nat.le_refl _) _,by simp⟩
theorem RNewPost.bad {w v:World} {p:PlanN} {a:PlanAt} {fa:Int} {cs:List Int} {K:Int} (hN:NewIs p fa cs K (-1)) (hK:K≠0) (hB:Below w.heap.size w v):RNewPost w p a fa cs (.returned (.tuple #[.pointer none,.agg #[.int .i64 K,.int .i64 (-1)]])) v:=⟨hB,K,-1,hN,.inl ⟨hK,rfl⟩⟩
theorem fput {v:World} {R:Nat} {E I x0 x1:Value} (h0:v.cell? ⟨R,0,none⟩=some x0) (h1:v.cell? ⟨R,1,none⟩=some x1) :
  ((v.setCell ⟨R,0,none⟩ E).setCell ⟨R,1,none⟩ I).cell? ⟨R,0,none⟩=some E∧((v.setCell ⟨R,0,none⟩ E).setCell ⟨R,1,none⟩ I).cell? ⟨R,1,none⟩=some I∧Turns R R v ((v.setCell ⟨R,0,none⟩ E).setCell ⟨R,1,none⟩ I) :=
 ⟨(cell_other (.inr (by decide))).trans (cell_set h0),cell_set ((cell_other (.inr (by decide))).trans h1),((Turns.refl _ _ _).set (p:=⟨R,0,none⟩) (.inl rfl) _).set (p:=⟨R,1,none⟩) (.inl rfl) _⟩
theorem checkIs_any (p:PlanN):∃ E I,p.Is E I:=by
 show ∃ E I,CheckIs p.nodes p.faulty p.skew p.jitter p.drift p.round p.frame p.ns p.nl p.nw p.nd p.fr p.td p.lf p.lt p.lb p.lq (fun j=>bitI (p.lt j) (p.lf j).toNat) (2 ^ p.nodes.toNat) p.wp p.wf p.wt E I
 by_cases h:headErr p.nodes p.faulty p.skew p.jitter p.drift p.round p.frame p.ns p.nl p.nw=0
 ·obtain ⟨e1,i1,g1⟩:=FirstBad.any (slotErr p.nd p.fr p.td p.nodes p.skew p.round) p.ns
  obtain ⟨e2,i2,g2⟩:=FirstBad.any (linkErr p.lf p.lt p.lb p.lq (fun j=>bitI (p.lt j) (p.lf j).toNat) p.nodes (2 ^ p.nodes.toNat)) p.nl
  obtain ⟨e3,i3,g3⟩:=FirstBad.any (winErr p.wp p.wf p.wt p.frame) p.nw
  by_cases z1:e1=0
  ·by_cases z2:e2=0
   ·by_cases z3:e3=0
    ·exact ⟨0,-1,.inr ⟨h,e1,i1,e2,i2,e3,i3,g1,g2,g3,fun q=>absurd z1 q,fun _ q=>absurd z2 q,fun _ _ q=>absurd z3 q,fun _ _ _=>⟨rfl,rfl⟩⟩⟩
    ·exact ⟨e3,2000+i3,.inr ⟨h,e1,i1,e2,i2,e3,i3,g1,g2,g3,fun q=>absurd z1 q,fun _ q=>absurd z2 q,fun _ _ _=>⟨rfl,rfl⟩,fun _ _ q=>absurd q z3⟩⟩
   ·exact ⟨e2,1000+i2,.inr ⟨h,e1,i1,e2,i2,e3,i3,g1,g2,g3,fun q=>absurd z1 q,fun _ _=>⟨rfl,rfl⟩,fun _ q=>absurd q z2,fun _ q=>absurd q z2⟩⟩
  ·exact ⟨e1,i1,.inr ⟨h,e1,i1,e2,i2,e3,i3,g1,g2,g3,fun _=>⟨rfl,rfl⟩,fun q=>absurd q z1,fun q=>absurd q z1,fun q=>absurd q z1⟩⟩
 ·exact ⟨_,-1,.inl ⟨h,rfl,rfl⟩⟩
def zOf (p:PlanN) (a:PlanAt):List Nat:=(if 0<p.ns then (a.sa.map Addr.block).toList else []) ++ (if 0<p.nl then (a.la.map Addr.block).toList else [])
theorem zOf_lt {p:PlanN} {a:PlanAt} {w:World} (h:p.In a w) {c:Nat} (hc:c∈zOf p a):c<w.heap.size:=by
 unfold zOf at hc
 rcases List.mem_append.1 hc with y | y
 ·by_cases h0:0<p.ns
  ·rw [if_pos h0] at y
   obtain ⟨b,off,e,hb,_⟩:=h.slots h0
   rw [e] at y
   have:c=b:=by simpa using y
   omega
  ·rw [if_neg h0] at y;cases y
 ·by_cases h0:0<p.nl
  ·rw [if_pos h0] at y
   obtain ⟨b,off,e,hb,_⟩:=h.links h0
   rw [e] at y
   have:c=b:=by simpa using y
   omega
  ·rw [if_neg h0] at y;cases y
theorem zOf_rows {p:PlanN} {a:PlanAt} {w:World} (h:p.In a w) {m:RMap} (hs:m.sa=a.sa) (hl:m.la=a.la):RRows w (zOf p a) p m:=by
 refine ⟨fun h0=>?_,fun h0=>?_,fun c hc=>zOf_lt h hc⟩
 ·obtain ⟨b,off,e,hb,hc⟩:=h.slots h0
  exact ⟨b,off,hs.trans e,by unfold zOf;rw [if_pos h0,e];exact List.mem_append.2 (.inl (List.mem_singleton.2 rfl)),hc⟩
 ·obtain ⟨b,off,e,hb,hc⟩:=h.links h0
  exact ⟨b,off,hl.trans e,by unfold zOf;rw [if_pos h0,e];exact List.mem_append.2 (.inr (List.mem_singleton.2 rfl)),hc⟩
theorem rn_done {v2 v3 v6:World} {p:PlanN} {a:PlanAt} {C N n ccap tb pb:Nat} {fa:Int} {cs:List Int} {ca2:Option Addr} {clk:List Nat} {V12:Value} (hM:Made v2 v3 C (madeL N p.faulty p.skew p.jitter p.drift p.round p.frame a.sa p.ns a.sc a.la p.nl a.lc a.wa p.nw a.wc fa ca2 n ccap tb pb) cs ca2 ccap clk tb pb)
  (hz:NMz v6 v2.heap.size (zOf p a) C p (fun q=>v3.cell? ⟨C,q,none⟩) clk (map0 a.sa a.sc a.la a.lc ca2 ccap tb pb) V12 p.nl) (hT:Turns C tb v3 v6) (hn1:1≤p.n) (hN:p.nodes=(N:Int)) (hlen:cs.length=n) (hIn:p.In a v6) (hZ:∀ c,c∈zOf p a→c<v2.heap.size) :
  ∃ O m,RCl v6 O (zOf p a) C p fa cs ClS.start 0 1 m∧∀ c,c∈O→v2.heap.size≤c:=by
 obtain ⟨V13,Of,m,⟨⟨f1,f2⟩,⟨f3,f4⟩,⟨f5,f6⟩,f7,f8⟩,h⟩:=hz
 refine h.done (fa:=fa) (cs:=cs) (fun a b ha hb=>by unfold tkB;simp [ha,hb]) hn1 ?_ (hM.cel 1 _ rfl) (hM.cel 3 _ rfl) (hM.cel 4 _ rfl) (hM.cel 5 _ rfl) ?_ ?_ (hM.cel 10 _ rfl) ?_ ?_ ?_ (hM.cel 16 _ rfl) (fun h0=>?_) (zOf_rows hIn f3 f5) hZ
 ·rw [hN];exact hM.cel 0 _ rfl
 ·rw [f3,f4];exact hM.cel 6 _ rfl
 ·rw [f5,f6];exact hM.cel 7 _ rfl
 ·rw [f7,f8,hlen];exact hM.cel 11 _ rfl
 ·rw [f1];exact hM.cel 14 _ rfl
 ·rw [f2];exact hM.cel 15 _ rfl
 ·obtain ⟨b,e,hb,hc⟩:=hM.row h0
  have hk:=hM.lk b hb
  exact ⟨b,0,f7.trans e,hb,fun j hj=>by rw [Nat.zero_add];exact (hT.cell (p:=⟨b,j,none⟩) hk.2.1 hk.2.2.2.2 hk.2.2.1).trans (hc j hj)⟩
theorem NMx.below {w w':World} {base:Nat} {Z:List Nat} {C:Nat} {p:PlanN} {cc:Nat→Option Value} {clk:List Nat} {m0:RMap} {i k:Nat} {T:Nat→Nat→Bool} {V12 V13:Value} (h:NMx w base Z C p cc clk m0 i k T V12 V13) (b:Below w.heap.size w w'):NMx w' base Z C p cc clk m0 i k T V12 V13:=by
 obtain ⟨Of,m,hf,hn⟩:=h
 exact ⟨Of,m,hf,hn.below b⟩
theorem NMx.c13 {w:World} {base:Nat} {Z:List Nat} {C:Nat} {p:PlanN} {cc:Nat→Option Value} {clk:List Nat} {m0:RMap} {i k:Nat} {T:Nat→Nat→Bool} {V12 V13:Value} (h:NMx w base Z C p cc clk m0 i k T V12 V13):w.cell? ⟨C,13,none⟩=some V13:=by
 obtain ⟨Of,m,hf,hn⟩:=h
 exact hn.c13
theorem NMx.celq {w:World} {base:Nat} {Z:List Nat} {C:Nat} {p:PlanN} {cc:Nat→Option Value} {clk:List Nat} {m0:RMap} {i k:Nat} {T:Nat→Nat→Bool} {V12 V13:Value} (h:NMx w base Z C p cc clk m0 i k T V12 V13) (q:Nat) (h12:q≠12) (h13:q≠13):w.cell? ⟨C,q,none⟩=cc q:=by
 obtain ⟨Of,m,hf,hn⟩:=h
 exact hn.cel q h12 h13
theorem Turns.wide {P Q:Nat} {w w':World} (h:Turns P P w w'):Turns P Q w w':=⟨h.os,h.tape,h.output,h.size,fun c hc h1 _=>h.block c hc h1 h1⟩
theorem Same.of_turns {X:List Nat} {R:Nat} {w w':World} (h:Turns R R w w') (hl:∀ c,c∈X→c<w.heap.size) (hn:∀ c,c∈X→c≠R):Same X w w':=⟨h.size,fun c hc=>h.block c (hl c hc) (hn c hc) (hn c hc)⟩
theorem rchk (p:PlanN) (a:PlanAt) (w:World) (h:p.In a w) (hf:Fine0 w) {E I:Int} (hC:p.Is E I):Calls Tryz.prog 30 #[p.val a] w fun e w'=>e=.returned (.agg #[.int .i64 E,.int .i64 I])∧Below w.heap.size w w' :=
 refCheck_any p.nodes p.faulty p.skew p.jitter p.drift p.round p.frame a.sa a.la a.wa p.ns a.sc p.nl a.lc p.nw a.wc p.nd p.fr p.td p.lf p.lt p.lb p.lq _ _ p.wp p.wf p.wt E I w h.slots h.links h.wins rfl (fun j h0 h1=>(bit_and (p.lt j) (by omega)).symm) hf hC
end
end Go.Proofs.YtooadfgibdjdeaaGreatDoor
