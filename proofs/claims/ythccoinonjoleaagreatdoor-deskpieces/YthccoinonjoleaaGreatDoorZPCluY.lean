import Derived.Test.YthccoinonjoleaaGreatDoorZPCluG
import Derived.Test.YthccoinonjoleaaGreatDoorZPCluV
namespace Go.Proofs.YthccoinonjoleaaGreatDoor
open Go.RowKit
set_option maxRecDepth 100000
set_option maxHeartbeats 16000000
section
section
variable {w:World} {O:List Nat} {C:Nat} {p:PlanN} {fa:Int} {cs:List Int} {s:ClS} {rd:Int} {B:Nat} {m:CMap}
theorem Cl.closed (h:Cl w O C p fa cs s rd B m) {g gc:Nat} {cs':List Int} (hg:g<w.heap.size) (hgO:g∉O) (hcell:∀ j,j<cs'.length→w.cell? ⟨g,j,none⟩=some (.int .i64 (cs'.getD j 0))) (rd':Int) :
  Cl ((w.setCell ⟨C,12,none⟩ (.int .i64 rd')).setCell ⟨C,11,none⟩ (.slice (some ⟨g,0,none⟩) cs'.length gc)) (g::O) C p fa cs' s rd' B { m with X:=g::m.X,cb:=g,ccap:=gc }∧Turns C C w ((w.setCell ⟨C,12,none⟩ (.int .i64 rd')).setCell ⟨C,11,none⟩ (.slice (some ⟨g,0,none⟩) cs'.length gc)):=by
 have hT:Turns C C w ((w.setCell ⟨C,12,none⟩ (.int .i64 rd')).setCell ⟨C,11,none⟩ (.slice (some ⟨g,0,none⟩) cs'.length gc)):=((Turns.refl C C w).set (p:=⟨C,12,none⟩) (.inl rfl) _).set (p:=⟨C,11,none⟩) (.inl rfl) _
 refine ⟨?_,hT⟩
 obtain ⟨Of,h⟩:=h
 have hCO:C∈O:=h.sub iB C (by rw [h.ob];exact List.mem_cons_self)
 have hgC:g≠C:=fun e=>hgO (e▸hCO)
 have b:=h.base
 have cC:∀ j,j≠11→j≠12→((w.setCell ⟨C,12,none⟩ (.int .i64 rd')).setCell ⟨C,11,none⟩ (.slice (some ⟨g,0,none⟩) cs'.length gc)).cell? ⟨C,j,none⟩=w.cell? ⟨C,j,none⟩:=fun j h1 h2=>(cell_other (.inr h1)).trans (cell_other (.inr h2))
 have cX:∀ c j,c≠C→((w.setCell ⟨C,12,none⟩ (.int .i64 rd')).setCell ⟨C,11,none⟩ (.slice (some ⟨g,0,none⟩) cs'.length gc)).cell? ⟨c,j,none⟩=w.cell? ⟨c,j,none⟩:=fun c j hc=>(cell_other (.inl hc)).trans (cell_other (.inl hc))
 have nX:∀ c,c∈m.X→c≠C:=fun c hc e=>b.nC (e▸hc)
 have hsz:((w.setCell ⟨C,12,none⟩ (.int .i64 rd')).setCell ⟨C,11,none⟩ (.slice (some ⟨g,0,none⟩) cs'.length gc)).heap.size=w.heap.size:=by simp
 have same:∀ i,i≠iB→Same (Of i) w ((w.setCell ⟨C,12,none⟩ (.int .i64 rd')).setCell ⟨C,11,none⟩ (.slice (some ⟨g,0,none⟩) cs'.length gc)):=fun i hi=>⟨hT.size,fun c hc=>by
  have:c≠C:=fun e=>h.fam.ap i iB hi c hc (by rw [h.ob,e];exact List.mem_cons_self)
  exact hT.block c (h.fam.lt i c hc) this this⟩
 refine ⟨setO Of iB (C::g::m.X),⟨?_,?_,?_,?_,?_,fun j hj=>?_,fun k hk=>?_,fun k j hk hj hb=>?_,fun k j hk hj hb=>?_⟩⟩
 ·refine ⟨(cC 0 (by decide) (by decide)).trans b.c0,(cC 1 (by decide) (by decide)).trans b.c1,(cC 3 (by decide) (by decide)).trans b.c3,(cC 4 (by decide) (by decide)).trans b.c4,(cC 5 (by decide) (by decide)).trans b.c5,(cC 6 (by decide) (by decide)).trans b.c6,(cC 10 (by decide) (by decide)).trans b.c10,cell_set ((cell_other (.inr (by decide))).trans b.c11),(cell_other (.inr (by decide))).trans (cell_set b.c12),(cC 13 (by decide) (by decide)).trans b.c13,(cC 14 (by decide) (by decide)).trans b.c14,fun i=>soft_set.trans (soft_set.trans (b.z i)),by rw [hsz];exact b.lc,?_,fun c hc=>?_,fun j hj=>(cX g j hgC).trans (hcell j hj),List.mem_cons_self,fun h0=>?_,fun j hj=>(cX _ _ (nX _ b.ndX)).trans (b.nd j hj),List.mem_cons_of_mem _ b.ndX,fun h0=>⟨(b.la h0).1,List.mem_cons_of_mem _ (b.la h0).2⟩,fun k hk=>?_,fun k hk=>⟨List.mem_cons_of_mem _ (b.en k hk).1,fun j hj=>(cX _ _ (nX _ (b.en k hk).1)).trans ((b.en k hk).2 j hj)⟩,fun k j hk hj hb=>?_⟩
  ·intro hc
   rcases List.mem_cons.1 hc with e | e
   ·exact hgC e.symm
   ·exact b.nC e
  ·rw [hsz]
   rcases List.mem_cons.1 hc with e | e
   ·subst e;exact hg
   ·exact b.lx c e
  ·obtain ⟨sb,off,e,hb,hc⟩:=b.sl h0
   exact ⟨sb,off,e,List.mem_cons_of_mem _ hb,fun i hi=>⟨(cX _ _ (nX _ hb)).trans (hc i hi).1,(cX _ _ (nX _ hb)).trans (hc i hi).2.1,(cX _ _ (nX _ hb)).trans (hc i hi).2.2⟩⟩
  ·have hl:=nX _ (b.la (by omega)).2
   obtain ⟨a1,a2,a3⟩:=b.lk k hk
   exact ⟨(cX _ _ hl).trans a1,(cX _ _ hl).trans a2,(cX _ _ hl).trans a3⟩
  ·obtain ⟨a1,a2,a3⟩:=b.dn k j hk hj hb
   exact ⟨List.mem_cons_of_mem _ a1,(cX _ _ (nX _ a1)).trans a2,(cX _ _ (nX _ a1)).trans a3⟩
 ·rw [setO_at]
 ·refine ⟨fun i c hc=>?_,fun i j hij=>?_⟩
  ·rw [hsz]
   by_cases e:i=iB
   ·rw [e,setO_at] at hc
    rcases List.mem_cons.1 hc with y | y
    ·subst y;exact b.lc
    ·rcases List.mem_cons.1 y with z | z
     ·subst z;exact hg
     ·exact b.lx c z
   ·rw [setO_not _ _ e] at hc;exact h.fam.lt i c hc
  ·have key:∀ i,i≠iB→Apart (C::g::m.X) (Of i):=fun i hi c hc hx=>by
    rcases List.mem_cons.1 hc with y | y
    ·exact h.fam.ap iB i (Ne.symm hi) c (by rw [h.ob,y];exact List.mem_cons_self) hx
    ·rcases List.mem_cons.1 y with z | z
     ·exact hgO (z▸h.sub i c hx)
     ·exact h.fam.ap iB i (Ne.symm hi) c (by rw [h.ob];exact List.mem_cons_of_mem _ z) hx
   by_cases e:i=iB
   ·rw [e,setO_at,setO_not _ _ (fun y=>hij (e.trans y.symm))]
    exact key j (fun y=>hij (e.trans y.symm))
   ·rw [setO_not _ _ e]
    by_cases e':j=iB
    ·rw [e',setO_at];exact (key i e).symm
    ·rw [setO_not _ _ e'];exact h.fam.ap i j hij
 ·intro i c hc
  by_cases e:i=iB
  ·rw [e,setO_at] at hc
   rcases List.mem_cons.1 hc with y | y
   ·subst y;exact List.mem_cons_of_mem _ hCO
   ·rcases List.mem_cons.1 y with z | z
    ·subst z;exact List.mem_cons_self
    ·exact List.mem_cons_of_mem _ (h.sub iB c (by rw [h.ob];exact List.mem_cons_of_mem _ z))
  ·rw [setO_not _ _ e] at hc;exact List.mem_cons_of_mem _ (h.sub i c hc)
 ·intro c hc
  rw [hsz]
  rcases List.mem_cons.1 hc with y | y
  ·subst y;exact hg
  ·exact h.lo c y
 ·obtain ⟨⟨a1,a2⟩,a3⟩:=h.node j hj
  rw [setO_not _ _ (by intro y;cases y)]
  exact ⟨⟨a1.same (a2▸same (iN j) (by intro y;cases y)),a2⟩,a3⟩
 ·rw [setO_not _ _ (by intro y;cases y)]
  exact ⟨(h.snd k hk).1.keep (same (iS k) (by intro y;cases y)),(h.snd k hk).2⟩
 ·rw [setO_not _ _ (by intro y;cases y)]
  obtain ⟨a,b,q,r⟩:=h.rcv k j hk hj hb
  exact ⟨a,b,q.keep (same (iR k j) (by intro y;cases y)),r⟩
 ·rw [setO_not _ _ (by intro y;cases y)]
  obtain ⟨l,q,r⟩:=h.que k j hk hj hb
  exact ⟨l,q.keep (same (iQ k j) (by intro y;cases y)),r⟩
theorem csendsIn {V wr:World} (h:InCl O V wr C p fa cs s rd B m) (H:HapS) (i:Nat) (mode:Int) (hi:i<p.ns) (hl:H.lies=bitI fa) (hm:H.mode (p.S.nd i)=mode) (hnd:0≤p.nd i) (hwn:p.S.nd i<p.n) (hnn:p.nodes=p.n) (hn:p.n≤16) (hB0:1≤B)
  (hr1:1≤p.round) (hr2:p.round≤137438953472) (hrd:0≤rd) (hf0:0≤p.fr i) (hf1:p.fr i≤1099511627776) (hnl:p.nl≤8) (hB:B≤9999990) (hlk:∀ k,k<p.nl→0≤p.lf k∧0≤p.lb k∧p.lb k≤1099511627776) :
  Calls Tryz.prog 86 #[.pointer (some ⟨C,0,none⟩),.int .i64 i,.int .i64 mode] wr fun e w'=>∃ mem sent LK SQ SD,e=.returned (.tuple #[.agg #[.int .i64 (p.S.nd i:Nat),.int .i64 i,.int .i64 mem,.int .i64 LK,.int .i64 SQ,.string SD],.bool sent])∧((LK=msgLk (s.goes p.S H rd i).2∧SQ=msgSeq (s.goes p.S H rd i).2∧SD=msgDat (s.goes p.S H rd i).2)∧MsgIn p (s.goes p.S H rd i).2∧sent=s.sends H (p.S.nd i)∧(sent=true→mem=bitsV (s.tells p.S H (p.S.nd i)) p.n))∧InCl O V w' C p fa cs (s.sentS p H rd i) rd B m:=by
 obtain ⟨O',h,c⟩:=h
 have hmsg:=c.msg H i
 refine (csendsA c H i mode hi hl hm hnd hwn hnn hn hB0 hr1 hr2 hrd hf0 hf1 hnl hB hlk).mono ?_
 rintro e w' ⟨mem,sent,he,h1,h2,O'',h3,h4⟩
 exact ⟨mem,sent,_,_,_,he,⟨⟨rfl,rfl,rfl⟩,hmsg,h1,h2⟩,O'',h.trans h3,h4⟩
theorem cslotIn {V wr:World} {H:HapS} {i:Nat} {mem l0 l1 LK SQ:Int} {SD:ByteArray} {sent:Bool} (h:InCl O V wr C p fa cs (s.sentS p H rd i) rd B m) (hx:(LK=msgLk (s.goes p.S H rd i).2∧SQ=msgSeq (s.goes p.S H rd i).2∧SD=msgDat (s.goes p.S H rd i).2)∧MsgIn p (s.goes p.S H rd i).2∧sent=s.sends H (p.S.nd i)∧(sent=true→mem=bitsV (s.tells p.S H (p.S.nd i)) p.n)) (hw:p.S.nd i<p.n) (hn:p.n≤16) (hB:B≤9999000) (h0:∀ j,j<p.n→bitI l0 j=H.lost i 0 j) (h1:∀ j,j<p.n→bitI l1 j=H.lost i 1 j) :
  Calls Tryz.prog 88 #[.pointer (some ⟨C,0,none⟩),.agg #[.int .i64 (p.S.nd i:Nat),.int .i64 i,.int .i64 mem,.int .i64 LK,.int .i64 SQ,.string SD],.bool sent,.agg #[.int .i64 l0,.int .i64 l1]] wr fun e w'=>e=.returned (.tuple #[])∧InCl O V w' C p fa cs (s.slot p.S H rd i) rd (B+5*p.n) m:=by
 obtain ⟨O',h,c⟩:=h
 obtain ⟨⟨rfl,rfl,rfl⟩,hm,hs,hmem⟩:=hx
 refine (cslot_any c hm hw hn hB hs hmem h0 h1).mono ?_
 rintro e w' ⟨he,O'',h3,h4⟩
 exact ⟨he,O'',h.trans h3,h4⟩
end
end
end Go.Proofs.YthccoinonjoleaaGreatDoor
