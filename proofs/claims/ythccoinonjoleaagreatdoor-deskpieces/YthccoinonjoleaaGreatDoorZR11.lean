import Derived.Test.YthccoinonjoleaaGreatDoorZR10
import Derived.BigQuiet
import Derived.RegionTactic
namespace Go.Proofs.YthccoinonjoleaaGreatDoor
open Go.RowKit
set_option maxRecDepth 100000
set_option maxHeartbeats 16000000
section
def quadCells (f g h i:Nat→Int):Nat→List Value
 | 0=>[]
 | n+1=>quadCells f g h i n ++ [.int .i64 (f n),.int .i64 (g n),.int .i64 (h n),.int .i64 (i n)]
theorem quadCells_length (f g h i:Nat→Int):∀ n,(quadCells f g h i n).length=n*4
 | 0=>rfl
 | n+1=>by simp [quadCells,quadCells_length f g h i n];omega
theorem quadCells_at (f g h i:Nat→Int):∀ n j,j<n→(quadCells f g h i n)[j*4]? = some (.int .i64 (f j))∧(quadCells f g h i n)[j*4+1]? = some (.int .i64 (g j))∧(quadCells f g h i n)[j*4+2]? = some (.int .i64 (h j))∧(quadCells f g h i n)[j*4+3]? = some (.int .i64 (i j)):=by
 intro n
 induction n with
 | zero=>intro j hj;omega
 | succ n ih =>
  intro j hj
  have hl:=quadCells_length f g h i n
  unfold quadCells
  by_cases h1:j<n
  ·obtain ⟨a,b,c,d⟩:=ih j h1
   refine ⟨?_,?_,?_,?_⟩
   ·rw [List.getElem?_append_left (by omega)];exact a
   ·rw [List.getElem?_append_left (by omega)];exact b
   ·rw [List.getElem?_append_left (by omega)];exact c
   ·rw [List.getElem?_append_left (by omega)];exact d
  ·obtain rfl:j=n:=by omega
   refine ⟨?_,?_,?_,?_⟩
   ·rw [List.getElem?_append_right (by omega),hl,Nat.sub_self];rfl
   ·rw [List.getElem?_append_right (by omega),hl,Nat.add_sub_cancel_left];rfl
   ·rw [List.getElem?_append_right (by omega),hl,Nat.add_sub_cancel_left];rfl
   ·rw [List.getElem?_append_right (by omega),hl,Nat.add_sub_cancel_left];rfl
theorem owns_quad {e:TypeId} {w:World} {base n:Nat} {v:Value} {f g' h' i':Nat→Int} (h:w.ownsRow base e 4 v n (quadCells f g' h' i' n)):∃ a cap,v=.slice a n cap∧Rows4 w a n f g' h' i':=by
 rcases h.2 with ⟨rfl,rfl⟩ | ⟨g,cap,cur,rfl,hg,hh,_⟩
 ·exact ⟨none,0,rfl,fun q=>absurd q (Nat.lt_irrefl _)⟩
 ·have hlt:g<w.heap.size:=by
   rcases Nat.lt_or_ge g w.heap.size with q | q
   ·exact q
   ·rw [Array.getElem?_eq_none q] at hh;cases hh
  refine ⟨_,_,rfl,fun _=>⟨g,0,rfl,hlt,fun j hj=>?_⟩⟩
  have h3:=quadCells_at f g' h' i' n j hj
  have c:=fun i u (hi:(quadCells f g' h' i' n)[i]? = some u)=>h.cells (g:=g) rfl i u hi
  refine ⟨?_,?_,?_,?_⟩
  ·have:=c _ _ h3.1;rw [add_at] at this;exact this
  ·have:=c _ _ h3.2.1;rw [add_at] at this;exact this
  ·have:=c _ _ h3.2.2.1;rw [add_at] at this;exact this
  ·have:=c _ _ h3.2.2.2;rw [add_at] at this;exact this
theorem slotCells_updI (f g h:Nat→Int) (x y z:Int) (m:Nat):∀ n,n≤m→slotCells (updI f m x) (updI g m y) (updI h m z) n=slotCells f g h n:=by
 intro n
 induction n with
 | zero=>intro _;rfl
 | succ n ih =>
  intro hn
  have e:∀ (f:Nat→Int) x,updI f m x n=f n:=fun f x=>by unfold updI;rw [if_neg (by omega)]
  rw [slotCells_succ,slotCells_succ,ih (by omega),e,e,e]
theorem slotCells_put (f g h:Nat→Int) (x y z:Int) (n:Nat):slotCells (updI f n x) (updI g n y) (updI h n z) (n+1)=slotCells f g h n ++ [.int .i64 x,.int .i64 y,.int .i64 z]:=by
 rw [slotCells_succ,slotCells_updI f g h x y z n n (Nat.le_refl _)]
 simp [updI]
theorem quadCells_updI (f g h i:Nat→Int) (x y z u:Int) (m:Nat):∀ n,n≤m→quadCells (updI f m x) (updI g m y) (updI h m z) (updI i m u) n=quadCells f g h i n:=by
 intro n
 induction n with
 | zero=>intro _;rfl
 | succ n ih =>
  intro hn
  have e:∀ (f:Nat→Int) x,updI f m x n=f n:=fun f x=>by unfold updI;rw [if_neg (by omega)]
  unfold quadCells
  rw [ih (by omega),e,e,e,e]
theorem quadCells_put (f g h i:Nat→Int) (x y z u:Int) (n:Nat):quadCells (updI f n x) (updI g n y) (updI h n z) (updI i n u) (n+1)=quadCells f g h i n ++ [.int .i64 x,.int .i64 y,.int .i64 z,.int .i64 u]:=by
 show quadCells _ _ _ _ n ++ _=_
 rw [quadCells_updI f g h i x y z u n n (Nat.le_refl _)]
 simp [updI]
theorem cell_blk {w:World} {b i:Nat} {cs:Array Value} {t:TypeId} {v:Value} (h:w.heap[b]? = some (.cells cs t (0,0))) (hi:cs[i]? = some v):w.cell? ⟨b,i,none⟩=some v:=by
 rw [cell_of_row w b i cs t (0,0) h];exact hi
theorem soft_blk {w:World} {b i:Nat} {cs:Array Value} {t:TypeId} (h:w.heap[b]? = some (.cells cs t (0,0))):w.frozen? ⟨b,i,none⟩=false:=by
 simp [World.frozen?,h]
theorem set_blk {w:World} {b i:Nat} {cs:Array Value} {t:TypeId} (h:w.heap[b]? = some (.cells cs t (0,0))) (v:Value):(w.setCell ⟨b,i,none⟩ v).heap[b]? = some (.cells (cs.setIfInBounds i v) t (0,0)):=by
 simp [World.setCell,Array.getElem?_modify,h]
theorem set_other {w:World} {b c i:Nat} (h:c≠b) (v:Value):(w.setCell ⟨b,i,none⟩ v).heap[c]? = w.heap[c]?:=by
 simp [World.setCell,Array.getElem?_modify,Ne.symm h]
structure SesA where
 vS:Value
 vL:Value
 vO:Value
 vR:Value
 da:Option Addr
 dc:Nat
 ma:Option Addr
 mc:Nat
 C:Nat
def intR (x:Int):Prop:=-9223372036854775808≤x∧x≤9223372036854775807
structure SesR (w:World) (base S:Nat) (M O:List Nat) (st:DkS) (A:SesA) (N:Nat):Prop where
 s:S∈M
 lo:∀ c,c∈M→base≤c
 hi:∀ c,c∈M→c<w.heap.size
 loO:∀ c,c∈O→base≤c
 hiO:∀ c,c∈O→c<w.heap.size
 ap:Apart O M
 oS:w.ownsRow base 80 3 A.vS st.plan.ns (slotCells st.plan.nd st.plan.fr st.plan.td st.plan.ns)
 oL:w.ownsRow base 84 4 A.vL st.plan.nl (quadCells st.plan.lf st.plan.lt st.plan.lb st.plan.lq st.plan.nl)
 oO:w.ownsRow base 98 3 A.vO st.next.nL (slotCells st.next.ls st.next.lc st.next.lt st.next.nL)
 oR:w.ownsRow base 100 3 A.vR st.next.nR (slotCells st.next.rn st.next.ro st.next.ri st.next.nR)
 bS:∀ g,A.vS.ownBlock=some g→g∈M
 bL:∀ g,A.vL.ownBlock=some g→g∈M
 bO:∀ g,A.vO.ownBlock=some g→g∈M
 bR:∀ g,A.vR.ownBlock=some g→g∈M
 rD:IntRow w A.da st.next.drifts
 rM:IntRow w A.ma st.next.modes
 bD:∀ b off,A.da=some ⟨b,off,none⟩→0<st.next.drifts.length→b∈M∧∃ cs fr,w.heap[b]? = some (.cells cs 3 fr)
 bM:∀ b off,A.ma=some ⟨b,off,none⟩→0<st.next.modes.length→b∈M∧∃ cs fr,w.heap[b]? = some (.cells cs 3 fr)
 nw:st.plan.nw=0
 iL:∀ k,k<st.plan.nl→intR (st.plan.lt k)
 iO:∀ k,k<st.next.nL→intR (st.next.lt k)
 ns:st.plan.ns≤32
 nl:st.plan.nl≤8
 nL:st.next.nL≤N
 nR:st.next.nR≤N
 nD:st.next.drifts.length≤20000
 nM:st.next.modes.length≤20000
 clu:∀ fa cs c rd T,st.clu=some (fa,cs,c,rd,T)→Clu w O A.C st.plan fa cs c rd T∧T≤N
def DkS.cells (st:DkS) (A:SesA):Array Value:=sesCells st.plan.nodes st.plan.faulty st.plan.skew st.plan.jitter st.plan.drift st.plan.round A.vS A.vL st.plan.frame (st.clu.map fun _=>⟨A.C,0,none⟩) A.vO A.vR (.slice A.da st.next.drifts.length A.dc) (.slice A.ma st.next.modes.length A.mc)
structure Ses (w:World) (base S:Nat) (M O:List Nat) (st:DkS) (A:SesA) (N:Nat):Prop where
 r:SesR w base S M O st A N
 blk:w.heap[S]? = some (.cells (st.cells A) 56 (0,0))
theorem owns_ne {w:World} {base:Nat} {e t:TypeId} {size:Nat} {v:Value} {n g S:Nat} {xs:List Value} {cs:Array Value} {fr:Nat × Nat} (h:w.ownsRow base e size v n xs) (hS:w.heap[S]? = some (.cells cs t fr)) (ht:e≠t) (hg:v.ownBlock=some g):g≠S:=by
 intro hgS
 subst hgS
 rcases h.2 with ⟨q,_⟩ | ⟨g',cap,cur,q,_,hh,_⟩
 ·rw [q] at hg;cases hg
 ·rw [q] at hg
  cases hg
  rw [hS] at hh
  injection hh with hh
  injection hh with _ h2
  exact ht h2.symm
theorem blk_ne {w:World} {b c:Nat} {cs cs':Array Value} {t t':TypeId} {fr fr':Nat × Nat} (h:w.heap[b]? = some (.cells cs t fr)) (h':w.heap[c]? = some (.cells cs' t' fr')) (hne:t≠t'):b≠c:=by
 intro e
 subst e
 rw [h] at h'
 injection h' with h'
 injection h' with _ h2
 exact hne h2
theorem owns_at {w w':World} {base:Nat} {e:TypeId} {size:Nat} {v:Value} {n:Nat} {xs:List Value} (h:w.ownsRow base e size v n xs) (hs:∀ g,v.ownBlock=some g→w'.heap[g]? = w.heap[g]?):w'.ownsRow base e size v n xs:=by
 obtain ⟨h1,h2⟩:=h
 refine ⟨h1,?_⟩
 rcases h2 with h2 | ⟨g,cap,cur,rfl,hg,hh,r⟩
 ·exact .inl h2
 ·exact .inr ⟨g,cap,cur,rfl,hg,(hs g rfl).trans hh,r⟩
theorem owns_blk {w:World} {base:Nat} {e:TypeId} {size:Nat} {v:Value} {n g:Nat} {xs:List Value} (h:w.ownsRow base e size v n xs) (hg:v.ownBlock=some g):∃ cs fr,w.heap[g]? = some (.cells cs e fr):=by
 rcases h.2 with ⟨q,_⟩ | ⟨g',cap,cur,q,_,hh,_⟩
 ·rw [q] at hg;cases hg
 ·rw [q] at hg
  cases hg
  exact ⟨_,_,hh⟩
theorem IntRow.at {w w':World} {a:Option Addr} {l:List Int} (h:IntRow w a l) (hsz:w.heap.size≤w'.heap.size) (hs:∀ b off,a=some ⟨b,off,none⟩→0<l.length→w'.heap[b]? = w.heap[b]?):IntRow w' a l:=fun h0=>by
 obtain ⟨b,off,e,hl,hc⟩:=h h0
 exact ⟨b,off,e,Nat.lt_of_lt_of_le hl hsz,fun j hj=>(World.cell?_of_block (w:=w) (hs b off e h0)).trans (hc j hj)⟩
section
variable {w w':World} {base S:Nat} {M O:List Nat} {st:DkS} {A:SesA} {N:Nat}
theorem SesR.keep (h:SesR w base S M O st A N) {cs:Array Value} {fr:Nat × Nat} (hb:w.heap[S]? = some (.cells cs 56 fr)) (hsz:w.heap.size≤w'.heap.size) (hM:∀ c,c∈M→c≠S→w'.heap[c]? = w.heap[c]?) (hO:Same O w w'):SesR w' base S M O st A N:=by
 have own:∀ {e:TypeId} {size:Nat} {v:Value} {n:Nat} {xs:List Value},w.ownsRow base e size v n xs→e≠56→(∀ g,v.ownBlock=some g→g∈M)→w'.ownsRow base e size v n xs:=fun h1 h2 h3=>owns_at h1 fun g hg=>hM g (h3 g hg) (owns_ne h1 hb h2 hg)
 have hne:∀ {b:Nat},(∃ cs fr,w.heap[b]? = some (.cells cs 3 fr))→b≠S:=fun ⟨_,_,q⟩=>blk_ne q hb (by decide)
 exact { h with
  hi:=fun c hc=>Nat.lt_of_lt_of_le (h.hi c hc) hsz
  hiO:=fun c hc=>Nat.lt_of_lt_of_le (h.hiO c hc) hsz
  oS:=own h.oS (by decide) h.bS
  oL:=own h.oL (by decide) h.bL
  oO:=own h.oO (by decide) h.bO
  oR:=own h.oR (by decide) h.bR
  rD:=h.rD.at hsz fun b off e h0=>hM b (h.bD b off e h0).1 (hne (h.bD b off e h0).2)
  rM:=h.rM.at hsz fun b off e h0=>hM b (h.bM b off e h0).1 (hne (h.bM b off e h0).2)
  bD:=fun b off e h0=>⟨(h.bD b off e h0).1,by rw [hM b (h.bD b off e h0).1 (hne (h.bD b off e h0).2)];exact (h.bD b off e h0).2⟩
  bM:=fun b off e h0=>⟨(h.bM b off e h0).1,by rw [hM b (h.bM b off e h0).1 (hne (h.bM b off e h0).2)];exact (h.bM b off e h0).2⟩
  clu:=fun fa cs c rd T e=>⟨cluOps.keep (h.clu fa cs c rd T e).1 hO,(h.clu fa cs c rd T e).2⟩ }
theorem SesR.later {N':Nat} (h:SesR w base S M O st A N) (hN:N≤N'):SesR w base S M O st A N' :=
 { h with nL:=Nat.le_trans h.nL hN,nR:=Nat.le_trans h.nR hN,clu:=fun fa cs c rd T e=>⟨(h.clu fa cs c rd T e).1,Nat.le_trans (h.clu fa cs c rd T e).2 hN⟩ }
theorem Ses.later {N':Nat} (h:Ses w base S M O st A N) (hN:N≤N'):Ses w base S M O st A N':=⟨h.r.later hN,h.blk⟩
theorem Ses.keep (h:Ses w base S M O st A N) (hM:Same M w w') (hO:Same O w w'):Ses w' base S M O st A N :=
 ⟨h.r.keep h.blk hM.1 (fun c hc _=>hM.2 c hc) hO,(hM.2 S h.r.s).trans h.blk⟩
theorem Ses.below (h:Ses w base S M O st A N) (hb:Below w.heap.size w w'):Ses w' base S M O st A N:=h.keep (Same.of_below hb h.r.hi) (Same.of_below hb h.r.hiO)
theorem Ses.rest (h:Ses w base S M O st A N) (hsz:w'.heap.size=w.heap.size) (ho:∀ c,c≠S→w'.heap[c]? = w.heap[c]?):SesR w' base S M O st A N :=
 h.r.keep h.blk (Nat.le_of_eq hsz.symm) (fun c _ hn=>ho c hn) ⟨Nat.le_of_eq hsz.symm,fun c hc=>ho c (fun e=>h.r.ap c hc (e▸h.r.s))⟩
end
def DoesP (base S:Nat) (M O:List Nat) (st:DkS) (N:Nat) (k:Kd) (n:List Int) (tx:ByteArray) (w:World) (e:Ending) (w':World):Prop :=
 ∃ st' r M' O' A',DoesIs k st n tx st' r∧e=r.ending∧Foot (M ++ O) (M' ++ O') w w'∧Ses w' base S M' O' st' A' (N+1)
end
section
section
variable {w:World} {base S:Nat} {M O:List Nat} {st:DkS} {A:SesA} {N:Nat}
theorem Ses.alloc (h:Ses w base S M O st A N) (o:Obj):Ses (w.alloc o) base S M O st A N:=h.below ((Below.refl _ w).alloc (Nat.le_refl _) o)
theorem Foot.alloc {X:List Nat} (o:Obj):Foot X X w (w.alloc o):=Foot.of_below ((Below.refl _ w).alloc (Nat.le_refl _) o)
theorem foot_set {X:List Nat} {i:Nat} (hS:S∈X) (v:Value):Foot X X w (w.setCell ⟨S,i,none⟩ v) :=
 ⟨rfl,rfl,rfl,by simp,fun c _ hn=>set_other (fun e=>hn (by rw [e];exact hS)) v,fun _ h=>.inl h⟩
theorem bdN (v:World) (q:Nat):Below v.heap.size v (v.drewN q):=⟨rfl,rfl,rfl,Nat.le_refl _,fun _ _=>rfl⟩
def NumsIn (w:World) (M:List Nat) (a:Option Addr) (n:List Int):Prop:=IntRow w a n∧∀ b off,a=some ⟨b,off,none⟩→0<n.length→b∈M∧∃ cs fr,w.heap[b]? = some (.cells cs 3 fr)
theorem NumsIn.ne {a:Option Addr} {n:List Int} {b off:Nat} (hr:NumsIn w M a n) (h:Ses w base S M O st A N) (e:a=some ⟨b,off,none⟩) (h0:0<n.length):b≠S:=by
 obtain ⟨_,_,_,q⟩:=hr.2 b off e h0
 exact blk_ne q h.blk (by decide)
theorem foot_drawn {X Y:List Nat} {u v:World} {q:Nat} (h:Foot X Y u v):Foot X Y u (v.drewN q):=⟨h.os,h.tape,h.output,h.size,h.block,h.fresh⟩
theorem setPlan_does (h:Ses w base S M O st A N) (hc0:st.clu=none) (n:List Int) (hn:n.length=6) (a:Option Addr) (cap:Nat) (tx:ByteArray) (hr:NumsIn w M a n) :
  Calls Tryz.prog 13 #[.pointer (some ⟨S,0,none⟩),.agg #[.slice a n.length cap,.string tx]] w (DoesP base S M O st N .plan_ n tx w):=by
 obtain ⟨b,off,rfl,hbl,hc⟩:=hr.1 (by omega)
 have hne:b≠S:=hr.ne h rfl (by omega)
 rw [hn] at hc ⊢
 generalize hV:w.alloc (.cells #[.slice (some ⟨b,off,none⟩) 6 cap,.string tx] 71)=V
 have hB:Below w.heap.size w V:=hV▸(Below.refl _ w).alloc (Nat.le_refl _) _
 have x0:V.cell? ⟨w.heap.size,0,none⟩=some (.slice (some ⟨b,off,none⟩) 6 cap):=by rw [← hV];simp [go_sem]
 have n0:V.cell? ⟨b,off,none⟩=some (.int .i64 (n.getD 0 0)):=(hB.cell (p:=⟨b,off,none⟩) hbl).trans (hc 0 (by decide))
 have n1:V.cell? ⟨b,off+1,none⟩=some (.int .i64 (n.getD 1 0)):=(hB.cell (p:=⟨b,off+1,none⟩) hbl).trans (hc 1 (by decide))
 have n2:V.cell? ⟨b,off+2,none⟩=some (.int .i64 (n.getD 2 0)):=(hB.cell (p:=⟨b,off+2,none⟩) hbl).trans (hc 2 (by decide))
 have n3:V.cell? ⟨b,off+3,none⟩=some (.int .i64 (n.getD 3 0)):=(hB.cell (p:=⟨b,off+3,none⟩) hbl).trans (hc 3 (by decide))
 have n4:V.cell? ⟨b,off+4,none⟩=some (.int .i64 (n.getD 4 0)):=(hB.cell (p:=⟨b,off+4,none⟩) hbl).trans (hc 4 (by decide))
 have n5:V.cell? ⟨b,off+5,none⟩=some (.int .i64 (n.getD 5 0)):=(hB.cell (p:=⟨b,off+5,none⟩) hbl).trans (hc 5 (by decide))
 have hs:=h.below hB
 have hblk:=hs.blk
 have c0:=cell_blk hblk (i:=0) rfl
 have c1:=cell_blk hblk (i:=1) rfl
 have c2:=cell_blk hblk (i:=2) rfl
 have c3:=cell_blk hblk (i:=3) rfl
 have c4:=cell_blk hblk (i:=4) rfl
 have c5:=cell_blk hblk (i:=5) rfl
 have z0:=soft_blk hblk (i:=0)
 have z1:=soft_blk hblk (i:=1)
 have z2:=soft_blk hblk (i:=2)
 have z3:=soft_blk hblk (i:=3)
 have z4:=soft_blk hblk (i:=4)
 have z5:=soft_blk hblk (i:=5)
 have HS:Hid (Ses V base S M O st A N):=hs
 have HB:Hid (Below w.heap.size w V):=hB
 have HC:Hid (st.clu=none):=hc0
 generalize hy0:n.getD 0 0=y0 at n0
 generalize hy1:n.getD 1 0=y1 at n1
 generalize hy2:n.getD 2 0=y2 at n2
 generalize hy3:n.getD 3 0=y3 at n3
 generalize hy4:n.getD 4 0=y4 at n4
 generalize hy5:n.getD 5 0=y5 at n5
 have HY:Hid (n.getD 0 0=y0∧n.getD 1 0=y1∧n.getD 2 0=y2∧n.getD 3 0=y3∧n.getD 4 0=y4∧n.getD 5 0=y5):=⟨hy0,hy1,hy2,hy3,hy4,hy5⟩
 clear hblk hs hc h hr hn hc0 hB hy0 hy1 hy2 hy3 hy4 hy5
 go_enter Tryz.func13,Tryz.ntmps13
 go_wp2_with fail
 go_quiet (fail)
 go_wp2_with fail
 go_region
 go_wp2_with fail
 refine bodyPost_ret (v:=.string Kd.plan_.name) (by simp [results,Tryz.results13,go_sem];rfl) rfl ?_
 obtain ⟨e0,e1,e2,e3,e4,e5⟩:=HY.out
 subst e0 e1 e2 e3 e4 e5
 have hd:=HS.out.below (bdN V (nq+1))
 have hS:S∈M ++ O:=List.mem_append.2 (.inl hd.r.s)
 refine ⟨{ st with plan:=st.plan.head n },.ok Kd.plan_.name,M,O,A,⟨rfl,rfl⟩,rfl,?_,?_,?_⟩
 ·exact (((((((foot_drawn (Foot.of_below HB.out)).trans (foot_set hS _)).trans (foot_set hS _)).trans (foot_set hS _)).trans (foot_set hS _)).trans (foot_set hS _)).trans (foot_set hS _))
 ·have hr:=hd.rest (w':=(((((((V.drewN (nq+1)).setCell ⟨S,0,none⟩ (.int .i64 (n.getD 0 0))).setCell ⟨S,1,none⟩ (.int .i64 (n.getD 1 0))).setCell ⟨S,2,none⟩ (.int .i64 (n.getD 2 0))).setCell ⟨S,3,none⟩ (.int .i64 (n.getD 3 0))).setCell ⟨S,4,none⟩ (.int .i64 (n.getD 4 0))).setCell ⟨S,5,none⟩ (.int .i64 (n.getD 5 0)))) (by simp) (fun c hc=>by simp only [set_other hc])
  exact { hr.later (Nat.le_succ N) with clu:=fun fa cs c rd T e=>by rw [HC.out] at e;cases e }
 ·exact set_blk (set_blk (set_blk (set_blk (set_blk (set_blk hd.blk _) _) _) _) _) _
end
end
end Go.Proofs.YthccoinonjoleaaGreatDoor
