import Derived.Test.YthccoinonjoleaaGreatDoorZR14
import Derived.Deep.RegionHeld3
namespace Go.Proofs.YthccoinonjoleaaGreatDoor
open Go.RowKit
set_option maxRecDepth 100000
set_option maxHeartbeats 16000000
section
structure ClS.Small (c:ClS):Prop where
 all:∀ k x,x∈(c.links k).all→x.size≤40
 port:∀ k j x,x∈c.ports k j→x.size≤40
theorem ClS.Small.start:ClS.start.Small:=⟨fun _ _ h=>(by cases h),fun _ _ _ h=>(by cases h)⟩
theorem ClS.Small.recvD {c:ClS} (h:c.Small) (k j:Nat):(recvD (c.ports k j)).size≤40:=by
 unfold Go.Proofs.YthccoinonjoleaaGreatDoor.recvD
 cases e:c.ports k j with
 | nil=>exact Nat.zero_le _
 | cons x l=>exact h.port k j x (by rw [e];exact List.mem_cons_self)
theorem ClS.Small.recv {c:ClS} (h:c.Small) (k j:Nat):(c.recv k j).Small:=by
 refine ⟨h.all,fun k' j' x hx=>?_⟩
 have hx':x∈(if k'=k∧j'=j then (c.ports k j).tail else c.ports k' j'):=hx
 by_cases e:k'=k∧j'=j
 ·rw [if_pos e] at hx'
  exact h.port k j x (List.mem_of_mem_tail hx')
 ·rw [if_neg e] at hx'
  exact h.port k' j' x hx'
theorem ClS.Small.put {c:ClS} (h:c.Small) (p:PlanN) (k:Nat) (d:ByteArray):(c.put p k d).Small:=by
 refine ⟨fun k' x hx=>?_,h.port⟩
 have hx':x∈(if k'=k then ({ all:=putAll (Go.Proofs.YthccoinonjoleaaGreatDoor.putK ((c.links k).all.length - (c.links k).went) (p.lq k) d) (c.links k).all d,went:=(c.links k).went,last:=(c.links k).last,now:=(c.links k).now } : SendS) else c.links k').all:=hx
 by_cases e:k'=k
 ·rw [if_pos e] at hx'
  have hx2:x∈putAll (Go.Proofs.YthccoinonjoleaaGreatDoor.putK ((c.links k).all.length - (c.links k).went) (p.lq k) d) (c.links k).all d:=hx'
  unfold putAll at hx2
  by_cases hk:Go.Proofs.YthccoinonjoleaaGreatDoor.putK ((c.links k).all.length - (c.links k).went) (p.lq k) d=0
  ·rw [if_pos hk] at hx2
   rcases List.mem_append.1 hx2 with q | q
   ·exact h.all k x q
   ·have:x=d:=by simpa using q
    subst this
    unfold Go.Proofs.YthccoinonjoleaaGreatDoor.putK at hk
    by_cases hs:40<x.size
    ·rw [if_pos hs] at hk
     cases hk
    ·exact Nat.le_of_not_lt hs
  ·rw [if_neg hk] at hx2
   exact h.all k x hx2
 ·rw [if_neg e] at hx'
  exact h.all k' x hx'
theorem linksTo_small (p:PlanS) (who:Nat) (t:Int) (L:Nat→SendS) (h:∀ k x,x∈(L k).all→x.size≤40):∀ n,(∀ k x,x∈((linksTo p who t L n).1 k).all→x.size≤40)∧(msgDat (linksTo p who t L n).2).size≤40:=by
 intro n
 induction n with
 | zero=>exact ⟨h,Nat.zero_le _⟩
 | succ n ih =>
  show (∀ k x,x∈((if (linksTo p who t L n).2.isSome=true∨p.lf n≠who then linksTo p who t L n else _).1 k).all→_)∧(msgDat (if (linksTo p who t L n).2.isSome=true∨p.lf n≠who then linksTo p who t L n else _).2).size≤40
  by_cases hc:(linksTo p who t L n).2.isSome=true∨p.lf n≠who
  ·rw [if_pos hc]
   exact ih
  ·rw [if_neg hc]
   refine ⟨fun k x hx=>?_,?_⟩
   ·have hx':x∈(if k=n then ((linksTo p who t L n).1 n).asked t (p.lb n) else (linksTo p who t L n).1 k).all:=hx
    by_cases e:k=n
    ·rw [if_pos e] at hx'
     exact ih.1 n x hx'
    ·rw [if_neg e] at hx'
     exact ih.1 k x hx'
   ·show (msgDat (if _ then some _ else none)).size≤40
    split
    ·show (((linksTo p who t L n).1 n).all.getD ((linksTo p who t L n).1 n).went ByteArray.empty).size≤40
     rw [List.getD_eq_getElem?_getD]
     cases e:((linksTo p who t L n).1 n).all[((linksTo p who t L n).1 n).went]? with
     | none=>exact Nat.zero_le _
     | some y=>exact ih.1 n y (List.mem_of_getElem? e)
    ·exact Nat.zero_le _
theorem ClS.Small.slot {c:ClS} (h:c.Small) (p:PlanS) (H:HapS) (rd:Int) (i:Nat):(c.slot p H rd i).Small:=by
 have hg:(∀ k x,x∈((c.goes p H rd i).1 k).all→x.size≤40)∧(msgDat (c.goes p H rd i).2).size≤40:=by
  unfold ClS.goes
  by_cases e:c.sends H (p.nd i)=true
  ·rw [if_pos e]
   exact linksTo_small p _ _ c.links h.all p.nl
  ·rw [if_neg e]
   exact ⟨h.all,Nat.zero_le _⟩
 refine ⟨hg.1,fun k j x hx=>?_⟩
 have hx':x∈(if c.takes p H i (c.goes p H rd i).2 k j=true∧(c.ports k j).length<16 then c.ports k j ++ [msgDat (c.goes p H rd i).2] else c.ports k j):=hx
 by_cases e:c.takes p H i (c.goes p H rd i).2 k j=true∧(c.ports k j).length<16
 ·rw [if_pos e] at hx'
  rcases List.mem_append.1 hx' with q | q
  ·exact h.port k j x q
  ·have:x=msgDat (c.goes p H rd i).2:=by simpa using q
   rw [this]
   exact hg.2
 ·rw [if_neg e] at hx'
  exact h.port k j x hx'
theorem ClS.Small.slots {c:ClS} (h:c.Small) (p:PlanS) (H:HapS) (rd:Int):∀ n,(c.slots p H rd n).Small
 | 0=>h
 | n+1=>(ClS.Small.slots h p H rd n).slot p H rd n
def DkS.Small (s:DkS):Prop:=∀ fa cs c rd T,s.clu=some (fa,cs,c,rd,T)→c.Small
theorem DkS.Small.start:DkS.start.Small:=fun _ _ _ _ _ h=>(by cases h)
theorem DkS.Small.none {s:DkS} (h:s.clu=none):s.Small:=fun _ _ _ _ _ e=>by rw [h] at e;cases e
theorem DkS.Small.some {s:DkS} {fa:Int} {cs:List Int} {c:ClS} {rd:Int} {T:Nat} (h:c.Small) (e:s.clu=some (fa,cs,c,rd,T)):s.Small:=fun fa' cs' c' rd' T' e'=>by
 rw [e] at e'
 cases e'
 exact h
theorem DkS.Small.does {k:Kd} {s s':DkS} {n:List Int} {tx:ByteArray} {r:Res} (h:s.Small) (hd:DoesIs k s n tx s' r):s'.Small:=by
 cases k using Kd.each
 case plan_=>obtain ⟨rfl,_⟩:=hd;exact h
 case slot_=>rcases hd with ⟨_,rfl,_⟩ | ⟨_,rfl,_⟩ <;> exact h
 case link_=>rcases hd with ⟨_,rfl,_⟩ | ⟨_,rfl,_⟩ <;> exact h
 case bytes_=>obtain ⟨_,_,_,rfl,_⟩:=hd;exact h
 case start_ =>
  obtain ⟨_,_,_,q⟩:=hd
  rcases q with ⟨_,rfl,_⟩ | ⟨_,rfl,_⟩
  ·exact h
  ·exact .some .start rfl
 case put_ =>
  obtain ⟨fa,cs,c,rd,T,hc,q⟩:=hd
  rcases q with ⟨j,_,_,rfl,_⟩ | ⟨_,rfl,_⟩
  ·exact .some ((h _ _ _ _ _ hc).put _ _ _) rfl
  ·exact h
 case receive_ =>
  obtain ⟨fa,cs,c,rd,T,hc,q⟩:=hd
  rcases q with ⟨j,i,_,_,_,rfl,_⟩ | ⟨_,rfl,_⟩
  ·exact .some ((h _ _ _ _ _ hc).recv _ _) rfl
  ·exact h
 case lose_=>obtain ⟨rfl,_⟩:=hd;exact h
 case read_=>obtain ⟨rfl,_⟩:=hd;exact h
 case drift_=>obtain ⟨rfl,_⟩:=hd;exact h
 case mode_=>obtain ⟨rfl,_⟩:=hd;exact h
 case round_ =>
  obtain ⟨fa,cs,c,rd,T,hc,q⟩:=hd
  rcases q with ⟨_,rfl,_⟩ | ⟨_,rfl,_⟩
  ·exact h
  ·exact .some ((h _ _ _ _ _ hc).slots _ _ _ _) rfl
 case clocks_=>obtain ⟨_,_,_,_,_,_,rfl,_⟩:=hd;exact h
 case spread_=>obtain ⟨_,_,_,_,_,_,rfl,_⟩:=hd;exact h
 case members_=>obtain ⟨_,_,_,_,_,_,rfl,_⟩:=hd;exact h
 case midpoint_=>obtain ⟨rfl,_⟩:=hd;exact h
 case local_=>obtain ⟨rfl,_⟩:=hd;exact h
 case real_=>obtain ⟨rfl,_⟩:=hd;exact h
 case clear_=>obtain ⟨rfl,_⟩:=hd;exact .start
 case help_=>obtain ⟨rfl,_⟩:=hd;exact h
end
section
section
variable {w:World} {base S:Nat} {M O:List Nat} {st:DkS} {A:SesA} {N:Nat}
theorem Tryz.infoStr:(Tryz.prog.info? 9).map (fun i=>(i.zero,i.size,i.bytes))=some (some (.string ⟨#[]⟩),1,16):=by kernel_rfl
theorem owns_below' {u u':World} {B n:Nat} {e:TypeId} {v:Value} {xs:List Value} (h:u.ownsRow B e 1 v n xs) (hb:Below u.heap.size u u'):u'.ownsRow B e 1 v n xs:=owns_at h fun g hg=>hb.block g (h.lt g hg).2
theorem lens_le:∀ (l:List Int),(∀ x∈l,intR x)→Lib.lens (l.map fun x=>(itoaB x).data.toList)≤21*l.length
 | [],_=>by simp [Lib.lens]
 | x::l,h=>by
  have h1:=lens_le l fun y hy=>h y (List.mem_cons_of_mem _ hy)
  have h2:(itoaB x).data.toList.length≤21:=by
   have:=itoaB_size (h x List.mem_cons_self)
   rw [Array.length_toList]
   exact this
  simp only [List.map_cons,Lib.lens,List.length_cons,List.sum_cons] at h1 ⊢
  omega
theorem numsB_short {l:List Int} (hl:l.length≤16) (h:∀ x∈l,intR x):(numsB l).size≤500:=by
 show (Lib.join (l.map fun x=>(itoaB x).data.toList) [32]).toArray.size≤500
 rw [List.size_toArray]
 cases l with
 | nil=>simp [Lib.join]
 | cons x l =>
  rw [List.map_cons,Lib.join_length,← List.map_cons (f:=fun x=>(itoaB x).data.toList)]
  have:=lens_le (x::l) h
  simp only [List.length_cons,List.length_nil,List.length_map] at hl this ⊢
  omega
def txtsV (cs:List Int):List Value:=cs.map fun x=>.string (itoaB x)
theorem txtsV_succ (cs:List Int) (k:Nat) (hk:k<cs.length):txtsV (cs.take (k+1))=txtsV (cs.take k) ++ [.string (itoaB (cs.getD k 0))]:=by
 unfold txtsV
 rw [List.take_add_one,List.getElem?_eq_getElem hk,List.map_append]
 simp [List.getD_eq_getElem?_getD,List.getElem?_eq_getElem hk]
theorem join_any (cs:List Int) (hl:cs.length≤16) (hin:∀ x∈cs,intR x) (B:Nat) (u:World) (v:Value) (h:u.ownsRow B 9 1 v cs.length (txtsV cs)) :
  Calls Tryz.prog 57 #[v,.string ⟨#[32]⟩] u fun e w'=>e=.returned (.string (numsB cs))∧Below u.heap.size u w':=by
 rcases h.2 with ⟨rfl,h0⟩ | ⟨g,cap,cur,rfl,hg,hh,hnc,_⟩
 ·obtain rfl:cs = []:=List.eq_nil_of_length_eq_zero h0
  refine (Tryz.strings_Join_none none 0 ⟨#[32]⟩ u).mono fun e w' q=>?_
  rw [q.1,q.2]
  exact ⟨rfl,Below.refl _ _⟩
 ·have e:(cs.map itoaB).length=cs.length:=by simp
  have hc:∀ (j:Nat) x,(cs.map itoaB)[j]? = some x→u.cell? ⟨g,0+j,none⟩=some (.string x):=fun j x hj=>by
   have:=h.cells (g:=g) rfl j (.string x) (by
    unfold txtsV
    rw [List.getElem?_map] at hj ⊢
    cases q:cs[j]? with
    | none=>rw [q] at hj;cases hj
    | some y=>rw [q] at hj;cases hj;rfl)
   rw [add_at] at this
   exact this
  have hjl:(Lib.join ((cs.map itoaB).map (·.data.toList)) [32]).length≤500:=by
   have:=numsB_short hl hin
   unfold numsB at this
   rw [List.map_map]
   show (Lib.join (cs.map fun x=>(itoaB x).data.toList) [32]).length≤500
   simpa [ByteArray.size] using this
  have hj:=Tryz.strings_Join g 0 cap (cs.map itoaB) ⟨#[32]⟩ u hc (lt_of_blk hh) (by rw [e];omega) (by rw [e];exact hnc) (by show (Lib.join _ [32]).length≤_;omega)
  rw [e] at hj
  refine hj.mono fun e w' q=>⟨?_,q.2⟩
  rw [q.1]
  unfold numsB
  rw [List.map_map]
  rfl
theorem clocks_does (h:Ses w base S M O st A N) (hD:DeskW w.heap.size w) {fa:Int} {cs:List Int} {c:ClS} {rd:Int} {T:Nat} (hcl:st.clu=some (fa,cs,c,rd,T)) (n:List Int) (v:Value) (tx:ByteArray) :
  Calls Tryz.prog 25 #[.pointer (some ⟨S,0,none⟩),.agg #[v,.string tx]] w (DoesP base S M O st N .clocks_ n tx w):=by
 generalize hV:w.alloc (.cells #[v,.string tx] 71)=V
 have hB:Below w.heap.size w V:=hV▸(Below.refl _ w).alloc (Nat.le_refl _) _
 have hs:=h.below hB
 have c0:V.cell? ⟨S,10,none⟩=some (.pointer (some ⟨A.C,0,none⟩)):=by
  have:V.cell? ⟨S,10,none⟩=some (.pointer (st.clu.map fun _=>⟨A.C,0,none⟩)):=cell_blk hs.blk (i:=10) rfl
  rw [hcl] at this
  exact this
 obtain ⟨hcu,hTN⟩:=hs.r.clu fa cs c rd T hcl
 have HB:Hid (Below w.heap.size w V):=hB
 have HD:Hid (∀ u,Below w.heap.size w u→Desk0 u):=fun u hu=>hD u hu
 have hC:=cluOps2.clocks hcu
 have hok:=(cluOps.ok hcu).1
 have hl16:cs.length≤16:=by
  rw [hok.len]
  have:=hok.plan.bounds.n2
  show st.plan.nodes.toNat≤16
  omega
 have HI:Hid (∀ x∈cs,intR x):=fun x hx=>by have:=hok.inn x hx;exact ⟨by omega,by omega⟩
 have HE:Hid (∀ w' e,Below V.heap.size V w'→e=(Res.ok (numsB cs)).ending→DoesP base S M O st N .clocks_ n tx w e w'):=fun w' e q1 q2=>asks_end h hB q1 (k:=.clocks_) (n:=n) (tx:=tx) ⟨fa,cs,c,rd,T,hcl,rfl,rfl⟩ q2
 clear h hD hB hs hcu hok hTN hcl
 obtain ⟨i0,hi,hz0,hz1,hz2⟩:=info_parts Tryz.infoStr
 go_enter Tryz.func25,Tryz.ntmps25
 go_wp2_with fail
 refine hC.mono ?_
 rintro ev u1 ⟨a,cap,rfl,hrow,b1⟩
 have HR:Hid (IntRow u1 a cs):=hrow
 obtain ⟨m,hm⟩:∃ m,cs.length=m:=⟨_,rfl⟩
 rw [hm] at hl16
 have HM:Hid (cs.length=m):=hm
 have HB1:Hid (Below V.heap.size V u1):=b1
 rw [hm]
 clear hrow hm b1
 go_wp2_with fail
 go_loopw [5,14] (fun lv iv wr=>∃ k:Nat,iv=.int .i64 k∧k≤m∧wr.ownsRow u1.heap.size 9 1 lv k (txtsV (cs.take k))∧Below u1.heap.size u1 wr) (fun _ iv _=>m - (intOf iv).toNat)
 case atStart =>
  exact ⟨0,rfl,Nat.zero_le _,World.ownsRow_nil _ _ _ _,Below.refl _ _⟩
 case round =>
  obtain ⟨k,rfl,hk,hown,hbe⟩:=hrel
  have hsz:=hbe.size
  by_cases hlt:k<m
  ·obtain ⟨b,off,rfl,hbl,hcs⟩:=HR.out (by rw [HM.out];omega)
   have y0:wr.cell? ⟨b,off+k,none⟩=some (.int .i64 (cs.getD k 0)):=(hbe.cell (p:=⟨b,off+k,none⟩) hbl).trans (hcs k (by rw [HM.out];exact hlt))
   have HIx:Hid (intR (cs.getD k 0)):=HI.out _ (by rw [List.getD_eq_getElem?_getD,List.getElem?_eq_getElem (by rw [HM.out];exact hlt)];exact List.getElem_mem _)
   have HSu:Hid (txtsV (cs.take (k+1))=txtsV (cs.take k) ++ [.string (itoaB (cs.getD k 0))]):=txtsV_succ cs k (by rw [HM.out];exact hlt)
   obtain ⟨x,hx⟩:∃ x,cs.getD k 0=x:=⟨_,rfl⟩
   rw [hx] at y0 HIx HSu
   clear hx hcs
   have hI:=itoa_any x HIx.out wr (HD.out wr (HB.out.trans ((HB1.out.trans (hbe.mono HB1.out.size)).mono HB.out.size)))
   go_wp2_with fail
   refine hI.mono ?_
   rintro ev w2 ⟨rfl,hb2⟩
   have hb2':=hbe.trans (hb2.mono hbe.size)
   have hown2:=owns_below' hown hb2
   have hw2:=hb2'.size
   go_wp2_with (at_builtin;refine wpList_append_own _ rfl _ _ 65 rfl u1.heap.size 9 i0 (.string ⟨#[]⟩) 1 16 Tryz.underlying65 hi hz0 hz1 hz2 rfl (by decide) _ _ _ rfl (hown2.alloc _) ⟨w2.heap.size,0,none⟩ 1 1 [.string (itoaB x)] rfl rfl (cell_one_new _ _ _) (by intro u hu;simp at hu;subst hu;rfl) (by unfold maxLen;omega) (by omega) (by simp;omega) ?_;intro v' w3 hown' hgrow hnil)
   have hb3:Below u1.heap.size u1 w3:=(hb2'.alloc hw2 _).grown hgrow (by simp;omega) (fun g hg=>(hown2.lt g hg).1)
   refine ⟨⟨k+1,by go_num,by omega,by rw [HSu.out];exact hown',hb3⟩,?_⟩
   simp [intOf];omega
  ·have:k=m:=by omega
   subst this
   have hj:=join_any cs (by rw [HM.out];exact hl16) HI.out u1.heap.size wr _ (by rw [HM.out];rw [List.take_of_length_le (Nat.le_of_eq HM.out)] at hown;exact hown)
   go_wp2_with fail
   refine hj.mono ?_
   rintro ev w2 ⟨rfl,hb2⟩
   go_wp2_with fail
   go_ret
   exact HE.out w2 _ (HB1.out.trans ((hbe.trans (hb2.mono hbe.size)).mono HB1.out.size)) rfl
end
end
section
section
variable {w V u:World} {base S:Nat} {M O O':List Nat} {st:DkS} {A:SesA} {N:Nat}
theorem Ses.clus (h:Ses V base S M O st A N) (hf:Foot O O' V u) {fa:Int} {cs:List Int} {c:ClS} {rd:Int} {T:Nat} (hne:st.clu≠none) (hc:Clu u O' A.C st.plan fa cs c rd T) (hT:T≤N):Ses u base S M O' { st with clu:=some (fa,cs,c,rd,T) } A N∧Foot (M ++ O) (M ++ O') V u:=by
 have hM:∀ x,x∈M→u.heap[x]? = V.heap[x]?:=fun x hx=>hf.block x (h.r.hi x hx) (fun y=>h.r.ap x y hx)
 have hbS:base≤V.heap.size:=Nat.le_trans (h.r.lo S h.r.s) (Nat.le_of_lt (h.r.hi S h.r.s))
 refine ⟨⟨?_,?_⟩,?_⟩
 ·exact {
      s:=h.r.s
      lo:=h.r.lo
      hi:=fun x hx=>Nat.lt_of_lt_of_le (h.r.hi x hx) hf.size
      loO:=hf.above h.r.loO hbS
      hiO:=cluOps.lt hc
      ap:=hf.apart h.r.ap h.r.hi
      oS:=owns_at h.r.oS fun g hg=>hM g (h.r.bS g hg)
      oL:=owns_at h.r.oL fun g hg=>hM g (h.r.bL g hg)
      oO:=owns_at h.r.oO fun g hg=>hM g (h.r.bO g hg)
      oR:=owns_at h.r.oR fun g hg=>hM g (h.r.bR g hg)
      bS:=h.r.bS
      bL:=h.r.bL
      bO:=h.r.bO
      bR:=h.r.bR
      rD:=h.r.rD.at hf.size fun b off e h0=>hM b (h.r.bD b off e h0).1
      rM:=h.r.rM.at hf.size fun b off e h0=>hM b (h.r.bM b off e h0).1
      bD:=fun b off e h0=>⟨(h.r.bD b off e h0).1,by rw [hM b (h.r.bD b off e h0).1];exact (h.r.bD b off e h0).2⟩
      bM:=fun b off e h0=>⟨(h.r.bM b off e h0).1,by rw [hM b (h.r.bM b off e h0).1];exact (h.r.bM b off e h0).2⟩
      nw:=h.r.nw
      iL:=h.r.iL
      iO:=h.r.iO
      ns:=h.r.ns
      nl:=h.r.nl
      nL:=h.r.nL
      nR:=h.r.nR
      nD:=h.r.nD
      nM:=h.r.nM
      clu:=fun fa' cs' c' rd' T' e=>by cases e;exact ⟨hc,hT⟩ }
 ·rw [hM S h.r.s,h.blk]
  have e:(st.clu.map fun _=>(⟨A.C,0,none⟩:Addr))=some ⟨A.C,0,none⟩:=by
   cases q:st.clu with
   | none=>exact absurd q hne
   | some y=>rfl
  unfold DkS.cells
  rw [e]
  rfl
 ·exact ⟨hf.os,hf.tape,hf.output,hf.size,fun x hx hn=>hf.block x hx (fun y=>hn (List.mem_append.2 (.inr y))),fun x hx=>by
   rcases List.mem_append.1 hx with q | q
   ·exact .inl (List.mem_append.2 (.inl q))
   ·rcases hf.fresh x q with y | y
    ·exact .inl (List.mem_append.2 (.inr y))
    ·exact .inr y⟩
theorem put_does (h:Ses w base S M O st A N) (hD:DeskW base w) {fa:Int} {cs:List Int} {c:ClS} {rd:Int} {T:Nat} (hcl:st.clu=some (fa,cs,c,rd,T)) (hN:N≤3000) (x:Int) (a:Option Addr) (cap:Nat) (tx:ByteArray) (hr:NumsOut w M O a [x]) :
  Calls Tryz.prog 18 #[.pointer (some ⟨S,0,none⟩),.agg #[.slice a 1 cap,.string tx]] w (DoesP base S M O st N .put_ [x] tx w):=by
 obtain ⟨b,off,rfl,hbl,hc⟩:=hr.1 (by simp)
 have hbo:=hr.2 b off rfl (by simp)
 generalize hV:w.alloc (.cells #[.slice (some ⟨b,off,none⟩) 1 cap,.string tx] 71)=V
 have hB:Below w.heap.size w V:=hV▸(Below.refl _ w).alloc (Nat.le_refl _) _
 have hs:=h.below hB
 have c0:V.cell? ⟨S,10,none⟩=some (.pointer (some ⟨A.C,0,none⟩)):=by
  have:V.cell? ⟨S,10,none⟩=some (.pointer (st.clu.map fun _=>⟨A.C,0,none⟩)):=cell_blk hs.blk (i:=10) rfl
  rw [hcl] at this
  exact this
 obtain ⟨hcu,hTN⟩:=hs.r.clu fa cs c rd T hcl
 have hcd:Clu (V.drewN 1) O A.C st.plan fa cs c rd T:=cluOps.keep hcu (Same.of_below (bdN V 1) (cluOps.lt hcu))
 have hbS:base≤V.heap.size:=Nat.le_trans (hs.r.lo S hs.r.s) (Nat.le_of_lt (hs.r.hi S hs.r.s))
 have hbw:base≤w.heap.size:=Nat.le_trans (h.r.lo S h.r.s) (Nat.le_of_lt (h.r.hi S h.r.s))
 have HB:Hid (Below w.heap.size w V):=hB
 have HDV:Hid (DeskW base V):=hD.below (hB.mono hbw)
 have x0:V.cell? ⟨w.heap.size,0,none⟩=some (.slice (some ⟨b,off,none⟩) 1 cap):=by rw [← hV];simp [go_sem]
 have x1:V.cell? ⟨w.heap.size,1,none⟩=some (.string tx):=by rw [← hV];simp [go_sem]
 have n0:V.cell? ⟨b,off,none⟩=some (.int .i64 x):=(hB.cell (p:=⟨b,off,none⟩) hbl).trans (by have:=hc 0 (by simp);simpa using this)
 have hbV:b<V.heap.size:=Nat.lt_of_lt_of_le hbl hB.size
 have hwV:w.heap.size<V.heap.size:=by rw [← hV];simp
 have hSV:=hs.r.hi S hs.r.s
 have hwO:w.heap.size∉O:=fun q=>by have:=h.r.hiO _ q;omega
 have hbO:b∉O:=fun q=>hbo (List.mem_append.2 (.inr q))
 have hSO:S∉O:=fun q=>h.r.ap S q h.r.s
 have HC:Hid (Calls Tryz.prog 51 #[.pointer (some ⟨A.C,0,none⟩),.int .i64 x,.string tx] (V.drewN 1) fun e u=>∃ k O',e=.returned (errV k)∧Foot O O' V u∧((k=0→∀ u',Below u.heap.size u u'→DoesP base S M O st N .put_ [x] tx w (.returned (.string Kd.put_.name)) u')∧(k≠0→∀ u',Below u.heap.size u u'→DoesP base S M O st N .put_ [x] tx w (thrown k) u'))):=by
  by_cases hx:0≤x∧x<st.plan.nl
  ·obtain ⟨j,rfl⟩:∃ j:Nat,x=j:=⟨x.toNat,by omega⟩
   refine (cluOps.put j tx hcd (by omega) (by omega)).mono fun e u ⟨he,O1,hf,hc1⟩=>?_
   have hf':Foot O O1 V u:=⟨hf.os,hf.tape,hf.output,hf.size,hf.block,hf.fresh⟩
   obtain ⟨q1,q2⟩:=(hs.later (Nat.le_succ N)).clus hf' (by rw [hcl];exact fun q=>by cases q) hc1 (by omega)
   refine ⟨c.putK st.plan j tx,O1,he,hf',fun hk u' hu=>?_,fun hk u' hu=>?_⟩
   ·exact ⟨_,.ok Kd.put_.name,M,O1,A,⟨fa,cs,c,rd,T,hcl,.inl ⟨j,rfl,by omega,rfl,by rw [if_pos hk]⟩⟩,rfl,((Foot.of_below hB).trans q2).trans (Foot.of_below hu),q1.below hu⟩
   ·exact ⟨_,.err (c.putK st.plan j tx),M,O1,A,⟨fa,cs,c,rd,T,hcl,.inl ⟨j,rfl,by omega,rfl,by rw [if_neg hk]⟩⟩,rfl,((Foot.of_below hB).trans q2).trans (Foot.of_below hu),q1.below hu⟩
  ·refine (cluOps.put_bad x tx hcd hx).mono fun e u ⟨he,hb1⟩=>?_
   have b1:Below V.heap.size V u:=undrewN hb1
   exact ⟨2,O,he,Foot.of_below b1,fun q=>(by cases q),fun _ u' hu=>asks_end h hB (b1.trans (hu.mono b1.size)) (k:=.put_) (n:=[x]) (tx:=tx) (r:=.err 2) ⟨fa,cs,c,rd,T,hcl,.inr ⟨hx,rfl,rfl⟩⟩ rfl⟩
 have HD:Hid (∀ O' u,Foot O O' V u→Desk0 u):=fun O' u hf=>HDV.out u (hf.below hs.r.loO hbS)
 clear h hD hB hs hcu hcd hTN hc hr hbo hcl HDV
 go_enter Tryz.func18,Tryz.ntmps18
 go_wp2_with fail
 refine wp_region_held_drew (S:=fun v=>v.cell? ⟨w.heap.size,0,none⟩=some (.slice (some ⟨b,off,none⟩) 1 cap)∧v.cell? ⟨w.heap.size,1,none⟩=some (.string tx)∧v.cell? ⟨b,off,none⟩=some (.int .i64 x)∧v.cell? ⟨S,10,none⟩=some (.pointer (some ⟨A.C,0,none⟩))) (by kernel_rfl) ⟨x0,x1,n0,c0⟩ (fun hHeld=>?_)
 refine tk 0 hHeld ?_
 refine tk 1 hHeld ?_
 refine tk 2 hHeld ?_
 refine tk 3 hHeld ?_
 refine tk 4 hHeld ?_
 refine tk 5 hHeld ?_
 refine tk 6 hHeld ?_
 refine tk 7 hHeld ?_
 refine tk 8 hHeld ?_
 refine tk 9 hHeld ?_
 refine rdy 10 fun K hK=>?_
 go_simp
 refine Calls.mono HC.out ?_
 rintro ev u1 ⟨k,O1,rfl,hf,hk0,hk1⟩
 refine kp hK (fun hHeld=>?_) ⟨(hf.cell (p:=⟨w.heap.size,0,none⟩) hwV hwO).trans x0,(hf.cell (p:=⟨w.heap.size,1,none⟩) hwV hwO).trans x1,(hf.cell (p:=⟨b,off,none⟩) hbV hbO).trans n0,(hf.cell (p:=⟨S,10,none⟩) hSV hSO).trans c0⟩
 clear hK K
 have hA:=askNone_any u1 (HD.out O1 u1 hf).told (errV_is u1 k)
 refine rdy 11 fun K hK=>?_
 go_simp
 refine hA.mono ?_
 rintro ev u2 ⟨he2,hu2⟩
 by_cases hk:k=0
 ·rw [if_pos hk] at he2
  subst he2
  refine kp hK (fun hHeld=>?_) ⟨(hu2.cell (p:=⟨w.heap.size,0,none⟩) (Nat.lt_of_lt_of_le hwV hf.size)).trans ((hf.cell (p:=⟨w.heap.size,0,none⟩) hwV hwO).trans x0),(hu2.cell (p:=⟨w.heap.size,1,none⟩) (Nat.lt_of_lt_of_le hwV hf.size)).trans ((hf.cell (p:=⟨w.heap.size,1,none⟩) hwV hwO).trans x1),(hu2.cell (p:=⟨b,off,none⟩) (Nat.lt_of_lt_of_le hbV hf.size)).trans ((hf.cell (p:=⟨b,off,none⟩) hbV hbO).trans n0),(hu2.cell (p:=⟨S,10,none⟩) (Nat.lt_of_lt_of_le hSV hf.size)).trans ((hf.cell (p:=⟨S,10,none⟩) hSV hSO).trans c0)⟩
  clear hK K
  refine dn ?_
  go_wp2_with fail
  go_ret
  exact hk0 hk u2 hu2
 ·rw [if_neg hk] at he2
  subst he2
  exact ⟨rfl,hk1 hk u2 hu2⟩
theorem receive_does (h:Ses w base S M O st A N) (hD:DeskW base w) {fa:Int} {cs:List Int} {c:ClS} {rd:Int} {T:Nat} (hcl:st.clu=some (fa,cs,c,rd,T)) (hsm:c.Small) (x y:Int) (a:Option Addr) (cap:Nat) (tx:ByteArray) (hr:NumsOut w M O a [x,y]) :
  Calls Tryz.prog 19 #[.pointer (some ⟨S,0,none⟩),.agg #[.slice a 2 cap,.string tx]] w (DoesP base S M O st N .receive_ [x,y] tx w):=by
 obtain ⟨b,off,rfl,hbl,hc⟩:=hr.1 (by simp)
 have hbo:=hr.2 b off rfl (by simp)
 generalize hV:w.alloc (.cells #[.slice (some ⟨b,off,none⟩) 2 cap,.string tx] 71)=V
 have hB:Below w.heap.size w V:=hV▸(Below.refl _ w).alloc (Nat.le_refl _) _
 have hs:=h.below hB
 have c0:V.cell? ⟨S,10,none⟩=some (.pointer (some ⟨A.C,0,none⟩)):=by
  have:V.cell? ⟨S,10,none⟩=some (.pointer (st.clu.map fun _=>⟨A.C,0,none⟩)):=cell_blk hs.blk (i:=10) rfl
  rw [hcl] at this
  exact this
 obtain ⟨hcu,hTN⟩:=hs.r.clu fa cs c rd T hcl
 have hcd:Clu (V.drewN 1) O A.C st.plan fa cs c rd T:=cluOps.keep hcu (Same.of_below (bdN V 1) (cluOps.lt hcu))
 have hbS:base≤V.heap.size:=Nat.le_trans (hs.r.lo S hs.r.s) (Nat.le_of_lt (hs.r.hi S hs.r.s))
 have hbw:base≤w.heap.size:=Nat.le_trans (h.r.lo S h.r.s) (Nat.le_of_lt (h.r.hi S h.r.s))
 have HB:Hid (Below w.heap.size w V):=hB
 have HDV:Hid (DeskW base V):=hD.below (hB.mono hbw)
 have x0:V.cell? ⟨w.heap.size,0,none⟩=some (.slice (some ⟨b,off,none⟩) 2 cap):=by rw [← hV];simp [go_sem]
 have n0:V.cell? ⟨b,off,none⟩=some (.int .i64 x):=(hB.cell (p:=⟨b,off,none⟩) hbl).trans (by have:=hc 0 (by simp);simpa using this)
 have n1:V.cell? ⟨b,off+1,none⟩=some (.int .i64 y):=(hB.cell (p:=⟨b,off+1,none⟩) hbl).trans (by have:=hc 1 (by simp);simpa using this)
 have hbV:b<V.heap.size:=Nat.lt_of_lt_of_le hbl hB.size
 have hwV:w.heap.size<V.heap.size:=by rw [← hV];simp
 have hSV:=hs.r.hi S hs.r.s
 have hwO:w.heap.size∉O:=fun q=>by have:=h.r.hiO _ q;omega
 have hbO:b∉O:=fun q=>hbo (List.mem_append.2 (.inr q))
 have hSO:S∉O:=fun q=>h.r.ap S q h.r.s
 have hok:=(cluOps.ok hcu).1
 have hnn:st.plan.nodes=(st.plan.n:Int):=clu_nn hok
 have HC:Hid (Calls Tryz.prog 53 #[.pointer (some ⟨A.C,0,none⟩),.int .i64 x,.int .i64 y] (V.drewN 1) fun e u=>∃ k d O',e=.returned (.tuple #[.string d,errV k])∧d.size≤40∧Foot O O' V u∧((k=0→∀ u',Below u.heap.size u u'→DoesP base S M O st N .receive_ [x,y] tx w (.returned (.string (⟨#[105,115,32]⟩ ++ d))) u')∧(k≠0→∀ u',Below u.heap.size u u'→DoesP base S M O st N .receive_ [x,y] tx w (thrown k) u'))):=by
  by_cases hx:(0≤x∧x<st.plan.nodes)∧(0≤y∧y<st.plan.nl)∧bitI (st.plan.lt y.toNat) x.toNat=true
  ·obtain ⟨⟨hx0,hx1⟩,⟨hy0,hy1⟩,hbit⟩:=hx
   obtain ⟨j,rfl⟩:∃ j:Nat,x=j:=⟨x.toNat,by omega⟩
   obtain ⟨i,rfl⟩:∃ i:Nat,y=i:=⟨y.toNat,by omega⟩
   have hj:j<st.plan.n:=by omega
   have hi:i<st.plan.nl:=by omega
   have hbit':bitI (st.plan.lt i) j=true:=by simpa using hbit
   refine (cluOps.recv j i hcd hj hi hbit').mono fun e u ⟨he,O1,hf,hc1⟩=>?_
   have hf':Foot O O1 V u:=⟨hf.os,hf.tape,hf.output,hf.size,hf.block,hf.fresh⟩
   obtain ⟨q1,q2⟩:=(hs.later (Nat.le_succ N)).clus hf' (by rw [hcl];exact fun q=>by cases q) hc1 (by omega)
   refine ⟨recvK (c.ports i j),recvD (c.ports i j),O1,he,hsm.recvD i j,hf',fun hk u' hu=>?_,fun hk u' hu=>?_⟩
   ·exact ⟨_,.ok (⟨#[105,115,32]⟩ ++ recvD (c.ports i j)),M,O1,A,⟨fa,cs,c,rd,T,hcl,.inl ⟨j,i,rfl,rfl,⟨hj,hi,hbit'⟩,rfl,by rw [if_pos hk]⟩⟩,rfl,((Foot.of_below hB).trans q2).trans (Foot.of_below hu),q1.below hu⟩
   ·exact ⟨_,.err (recvK (c.ports i j)),M,O1,A,⟨fa,cs,c,rd,T,hcl,.inl ⟨j,i,rfl,rfl,⟨hj,hi,hbit'⟩,rfl,by rw [if_neg hk]⟩⟩,rfl,((Foot.of_below hB).trans q2).trans (Foot.of_below hu),q1.below hu⟩
  ·refine (cluOps.recv_bad x y hcd hx).mono fun e u ⟨he,hb1⟩=>?_
   have b1:Below V.heap.size V u:=undrewN hb1
   exact ⟨2,ByteArray.empty,O,he,by decide,Foot.of_below b1,fun q=>(by cases q),fun _ u' hu=>asks_end h hB (b1.trans (hu.mono b1.size)) (k:=.receive_) (n:=[x,y]) (tx:=tx) (r:=.err 2) ⟨fa,cs,c,rd,T,hcl,.inr ⟨hx,rfl,rfl⟩⟩ rfl⟩
 have HD:Hid (∀ O' u,Foot O O' V u→Desk0 u):=fun O' u hf=>HDV.out u (hf.below hs.r.loO hbS)
 clear h hD hB hs hcu hcd hTN hc hr hbo hcl HDV hok hnn
 go_enter Tryz.func19,Tryz.ntmps19
 go_wp2_with fail
 refine wp_region_held_drew (S:=fun v=>v.cell? ⟨w.heap.size,0,none⟩=some (.slice (some ⟨b,off,none⟩) 2 cap)∧v.cell? ⟨b,off,none⟩=some (.int .i64 x)∧v.cell? ⟨b,off+1,none⟩=some (.int .i64 y)∧v.cell? ⟨S,10,none⟩=some (.pointer (some ⟨A.C,0,none⟩))) (by kernel_rfl) ⟨x0,n0,n1,c0⟩ (fun hHeld=>?_)
 refine tk 0 hHeld ?_
 refine tk 1 hHeld ?_
 refine tk 2 hHeld ?_
 refine tk 3 hHeld ?_
 refine tk 4 hHeld ?_
 refine tk 5 hHeld ?_
 refine tk 6 hHeld ?_
 refine tk 7 hHeld ?_
 refine tk 8 hHeld ?_
 refine tk 9 hHeld ?_
 refine tk 10 hHeld ?_
 refine tk 11 hHeld ?_
 refine rdy 12 fun K hK=>?_
 go_simp
 refine Calls.mono HC.out ?_
 rintro ev u1 ⟨k,d,O1,rfl,hd,hf,hk0,hk1⟩
 have y0:=(hf.cell (p:=⟨w.heap.size,0,none⟩) hwV hwO).trans x0
 have y1:=(hf.cell (p:=⟨b,off,none⟩) hbV hbO).trans n0
 have y2:=(hf.cell (p:=⟨b,off+1,none⟩) hbV hbO).trans n1
 have y3:=(hf.cell (p:=⟨S,10,none⟩) hSV hSO).trans c0
 refine kp hK (fun hHeld=>?_) ⟨y0,y1,y2,y3⟩
 clear hK K
 refine tk 13 hHeld ?_
 refine tk 14 hHeld ?_
 refine rdy 15 fun K hK=>?_
 go_simp
 by_cases hk:k=0
 ·subst hk
  rw [errV_0]
  refine (rightStr_yes (.string d) u1).mono ?_
  rintro ev u2 ⟨rfl,hu2⟩
  have z0:=(hu2.cell (p:=⟨w.heap.size,0,none⟩) (Nat.lt_of_lt_of_le hwV hf.size)).trans y0
  have z1:=(hu2.cell (p:=⟨b,off,none⟩) (Nat.lt_of_lt_of_le hbV hf.size)).trans y1
  have z2:=(hu2.cell (p:=⟨b,off+1,none⟩) (Nat.lt_of_lt_of_le hbV hf.size)).trans y2
  have z3:=(hu2.cell (p:=⟨S,10,none⟩) (Nat.lt_of_lt_of_le hSV hf.size)).trans y3
  have hz2:¬ 9223372036854775807<3+d.size:=by omega
  refine kp hK (fun hHeld=>?_) ⟨z0,z1,z2,z3⟩
  clear hK K
  refine tk 16 hHeld ?_
  refine rdy 17 fun K hK=>?_
  go_simp
  refine kp hK (fun hHeld=>?_) ⟨z0,z1,z2,z3⟩
  clear hK K
  refine dn ?_
  go_wp2_with fail
  go_ret
  exact hk0 trivial u2 hu2
 ·refine (rightStr_no (.string d) u1 (HD.out O1 u1 hf).told (errV_is u1 k) hk).mono ?_
  rintro ev u2 ⟨rfl,hu2⟩
  exact ⟨rfl,hk1 hk u2 hu2⟩
end
end
end Go.Proofs.YthccoinonjoleaaGreatDoor
