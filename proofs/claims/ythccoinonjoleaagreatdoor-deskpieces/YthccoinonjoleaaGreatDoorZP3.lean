import Derived.Test.YthccoinonjoleaaGreatDoorZP2
import Derived.Test.YthccoinonjoleaaGreatDoorZPlanWhole
import Derived.BigQuiet
import Derived.Deep.RegionHeld3
namespace Go.Proofs.YthccoinonjoleaaGreatDoor
open Go.RowKit
set_option maxRecDepth 100000
set_option maxHeartbeats 16000000
section
def bitI (x:Int) (j:Nat):Bool:=decide (x / 2 ^ j % 2=1)
structure PlanN where
 nodes:Int
 faulty:Int
 skew:Int
 jitter:Int
 drift:Int
 round:Int
 frame:Int
 ns:Nat
 nl:Nat
 nw:Nat
 nd:Nat→Int
 fr:Nat→Int
 td:Nat→Int
 lf:Nat→Int
 lt:Nat→Int
 lb:Nat→Int
 lq:Nat→Int
 wp:Nat→Int
 wf:Nat→Int
 wt:Nat→Int
def PlanN.n (p:PlanN):Nat:=p.nodes.toNat
def PlanN.Is (p:PlanN) (E I:Int):Prop :=
 CheckIs p.nodes p.faulty p.skew p.jitter p.drift p.round p.frame p.ns p.nl p.nw p.nd p.fr p.td p.lf p.lt p.lb p.lq (fun j=>bitI (p.lt j) (p.lf j).toNat) (2 ^ p.nodes.toNat) p.wp p.wf p.wt E I
def PlanN.S (p:PlanN):PlanS where
 n:=p.n
 round:=p.round
 ns:=p.ns
 nd:=fun i=>(p.nd i).toNat
 fr:=p.fr
 nl:=p.nl
 lf:=fun k=>(p.lf k).toNat
 lt:=fun k j=>bitI (p.lt k) j
 lb:=p.lb
structure RoundN where
 nL:Nat
 ls:Nat→Int
 lc:Nat→Int
 lt:Nat→Int
 nR:Nat
 rn:Nat→Int
 ro:Nat→Int
 ri:Nat→Int
 drifts:List Int
 modes:List Int
def RoundN.reads (r:RoundN):List ReadS:=(List.range r.nR).map fun i=>⟨r.rn i,r.ro i,r.ri i⟩
def RoundN.hap (r:RoundN) (fa:Int):HapS where
 lies:=bitI fa
 mode:=fun j=>if j<r.modes.length then r.modes.getD j 0 else 0
 lost:=fun i c j=>(List.range r.nL).any fun x=>decide (r.ls x=i) && (decide (r.lc x=c) && bitI (r.lt x) j)
def RoundN.none:RoundN:=⟨0,fun _=>0,fun _=>0,fun _=>0,0,fun _=>0,fun _=>0,fun _=>0,[],[]⟩
def cluTo (p:PlanN) (fa:Int) (cs:List Int) (r:RoundN):List Int:=(List.range p.n).map (clocksTo p.n p.faulty.toNat (bitI fa) p.jitter p.drift (fun i=>cs.getD i 0) r.reads r.drifts)
def cluFar (p:PlanN) (fa:Int) (cs:List Int) (r:RoundN):Bool:=beyondB p.n (clocksTo p.n p.faulty.toNat (bitI fa) p.jitter p.drift (fun i=>cs.getD i 0) r.reads r.drifts)
def cluOn (p:PlanN) (fa:Int) (s:ClS) (rd:Int) (r:RoundN):ClS:=s.slots p.S (r.hap fa) rd p.ns
def spreadL (l:List Int):Int:=l.foldl max (l.headD 0) - l.foldl min (l.headD 0)
def rightOf (fa:Int) (cs:List Int):List Int:=((List.range cs.length).filter fun i=>!bitI fa i).map fun i=>cs.getD i 0
def ClS.start:ClS where
 nodes:=fun _=>⟨fun _=>true,1,0,false⟩
 links:=fun _=>⟨[],0,0,0⟩
 newest:=fun _ _=>-1
 ports:=fun _ _=>[]
def NewIs (p:PlanN) (fa:Int) (cs:List Int) (K I:Int):Prop :=
 (∃ E,p.Is E I∧E≠0∧K=E) ∨
 (p.Is 0 (-1)∧I = -1 ∧
  ((¬ (0≤fa∧fa<2 ^ p.n∧(List.range p.n).countP (bitI fa)≤p.faulty.toNat)∧K=1) ∨
   ((0≤fa∧fa<2 ^ p.n∧(List.range p.n).countP (bitI fa)≤p.faulty.toNat) ∧
    ((cs.length≠p.n∧K=7) ∨
    (cs.length=p.n ∧
     ((¬ ((∀ c∈cs,-274877906944≤c∧c≤274877906944)∧spreadL (rightOf fa cs)≤p.skew)∧K=2) ∨
      (((∀ c∈cs,-274877906944≤c∧c≤274877906944)∧spreadL (rightOf fa cs)≤p.skew)∧K=0)))))))
structure CluOk (p:PlanN) (fa:Int) (cs:List Int):Prop where
 plan:p.Is 0 (-1)
 f0:0≤fa
 f1:fa<2 ^ p.n
 fc:(List.range p.n).countP (bitI fa)≤p.faulty.toNat
 len:cs.length=p.n
 inn:∀ c∈cs,-274877906944≤c∧c≤274877906944
 near:spreadL (rightOf fa cs)≤p.skew
theorem NewIs.ok {p:PlanN} {fa:Int} {cs:List Int} {I:Int} (h:NewIs p fa cs 0 I):CluOk p fa cs:=by
 rcases h with ⟨E,_,h1,h2⟩ | ⟨h0,_,h⟩
 ·exact absurd h2.symm h1
 ·rcases h with ⟨_,h⟩ | ⟨h1,h⟩
  ·cases h
  ·rcases h with ⟨_,h⟩ | ⟨h2,h⟩
   ·cases h
   ·rcases h with ⟨_,h⟩ | ⟨h3,_⟩
    ·cases h
    ·exact ⟨h0,h1.1,h1.2.1,h1.2.2,h2,h3.1,h3.2⟩
structure PlanB (p:PlanN):Prop where
 n1:1≤p.nodes
 n2:p.nodes≤16
 f0:0≤p.faulty
 f3:p.faulty*3+1≤p.nodes
 s0:0≤p.skew
 s1:p.skew≤137438953472
 j0:0≤p.jitter
 j1:p.jitter≤137438953472
 d0:0≤p.drift
 d1:p.drift≤137438953472
 r0:1≤p.round
 r1:p.round≤137438953472
 ns:p.ns≤32
 nl:p.nl≤8
 sk:p.skew / 2+p.jitter*2+p.drift*2+1≤p.skew
 slot:∀ i,i<p.ns→(0≤p.nd i∧p.nd i<p.nodes)∧0≤p.fr i∧p.fr i≤p.round
 link:∀ k,k<p.nl→(0≤p.lf k∧p.lf k<p.nodes)∧(1≤p.lt k∧p.lt k<2 ^ p.n)∧(1≤p.lb k∧p.lb k≤137438953472)∧1≤p.lq k∧p.lq k≤16
theorem PlanN.Is.bounds {p:PlanN} {I:Int} (h:p.Is 0 I):PlanB p:=by
 unfold PlanN.Is CheckIs at h
 rcases h with ⟨h1,h2,_⟩ | ⟨h0,e1,i1,e2,i2,e3,i3,F1,F2,F3,R⟩
 ·exact absurd h2.symm h1
 ·have z1:e1=0:=by
   by_cases q:e1=0
   ·exact q
   ·exact absurd (R.1 q).1.symm q
  have z2:e2=0:=by
   by_cases q:e2=0
   ·exact q
   ·exact absurd (R.2.1 z1 q).1.symm q
  subst z1 z2
  have g1:∀ j,j<p.ns→slotErr p.nd p.fr p.td p.nodes p.skew p.round j=0:=by
   rcases F1 with ⟨h,_⟩ | ⟨_,_,_,_,h,_⟩
   ·exact h
   ·exact absurd rfl h
  have g2:∀ j,j<p.nl→linkErr p.lf p.lt p.lb p.lq (fun j=>bitI (p.lt j) (p.lf j).toNat) p.nodes (2 ^ p.nodes.toNat) j=0:=by
   rcases F2 with ⟨h,_⟩ | ⟨_,_,_,_,h,_⟩
   ·exact h
   ·exact absurd rfl h
  unfold headErr at h0
  by_cases a1:p.nodes<1∨16<p.nodes∨p.faulty<0∨p.nodes<p.faulty*3+1
  ·rw [if_pos a1] at h0;cases h0
  rw [if_neg a1] at h0
  by_cases a2:p.skew<0∨137438953472<p.skew∨p.jitter<0∨137438953472<p.jitter∨p.drift<0∨137438953472<p.drift
  ·rw [if_pos a2] at h0;cases h0
  rw [if_neg a2] at h0
  by_cases a3:p.round<1∨137438953472<p.round∨p.frame<1∨137438953472<p.frame
  ·rw [if_pos a3] at h0;cases h0
  rw [if_neg a3] at h0
  by_cases a4:32<p.ns∨8<p.nl∨32<p.nw
  ·rw [if_pos a4] at h0;cases h0
  rw [if_neg a4] at h0
  by_cases a5:p.skew<p.skew / 2+p.jitter*2+p.drift*2+1
  ·rw [if_pos a5] at h0;cases h0
  have hup:=slots_up (show 0≤p.skew by omega) g1
  refine ⟨by omega,by omega,by omega,by omega,by omega,by omega,by omega,by omega,by omega,by omega,by omega,by omega,by omega,by omega,by omega,fun i hi=>?_,fun k hk=>?_⟩
  ·have:=hup i hi
   have:=slotErr_to (g1 i hi)
   exact ⟨⟨by omega,by omega⟩,by omega,by omega⟩
  ·have h:=g2 k hk
   unfold linkErr at h
   by_cases b1:p.lf k<0∨p.nodes - 1<p.lf k
   ·rw [if_pos b1] at h;cases h
   rw [if_neg b1] at h
   by_cases b2:p.lt k<1∨2 ^ p.nodes.toNat - 1<p.lt k∨bitI (p.lt k) (p.lf k).toNat=true
   ·rw [if_pos b2] at h;cases h
   rw [if_neg b2] at h
   by_cases b3:(p.lb k<1∨137438953472<p.lb k)∨p.lq k<1∨16<p.lq k
   ·rw [if_pos b3] at h;cases h
   have e:(2:Int) ^ p.n=2 ^ p.nodes.toNat:=rfl
   rw [e]
   generalize (2:Int) ^ p.nodes.toNat=PW at *
   exact ⟨⟨by omega,by omega⟩,⟨by omega,by omega⟩,⟨by omega,by omega⟩,by omega,by omega⟩
end
section
theorem pHears_all {w:World} {P:Nat} {id:Int} {n:Nat} {t:Nat→Bool} {g b:Int} {fz:Bool} (h:ProgNode w P id n (bitsV t n) g b fz) (frm what:Int) (hn:n≤16) (hg0:0≤g) (hg:g≤4611686018427387904) (hb0:0≤b) (hb:b≤4611686018427387904) :
  Calls Tryz.prog 124 #[.pointer (some ⟨P,0,none⟩),.int .i64 frm,.int .i64 what] w fun e w'=>e=.returned (.tuple #[])∧ProgNode w' P id n (bitsV (heT id n fz frm what t) n) (heG id n fz frm what g) (heB id n fz frm what b) fz∧Turns P P w w':=by
 cases q:hearsB id n fz frm what
 ·refine (pHears_not h frm what q).mono ?_
  rintro e w' ⟨rfl,rfl⟩
  unfold heG heB
  rw [heT_not t q,q,if_neg (fun y=>by cases y.1),if_neg (fun y=>by cases y.1)]
  exact ⟨rfl,h,Turns.refl _ _ _⟩
 ·obtain ⟨hf,k,rfl,h1,h2,h3,h4⟩:=hears_parts q
  refine (pHears_acts h k what hn hf h1 h2 h3 h4 hg0 hg hb0 hb).mono ?_
  rintro e w' ⟨rfl,a,c⟩
  unfold heG heB
  rw [heT_acts t q,q]
  simp only [true_and]
  rw [hf]
  exact ⟨a,c⟩
end
section
theorem headErr_zero {nodes faulty skew jitter drift round frame:Int} {ns nl nw:Nat} (h:headErr nodes faulty skew jitter drift round frame ns nl nw=0) :
  1≤nodes∧nodes≤16∧0≤faulty∧faulty≤5∧(0≤skew∧skew≤137438953472)∧(0≤jitter∧jitter≤137438953472)∧(0≤drift∧drift≤137438953472)∧(1≤round∧round≤137438953472)∧(1≤frame∧frame≤137438953472)∧ns≤32∧nl≤8∧nw≤32:=by
 unfold headErr at h
 by_cases h1:nodes<1∨16<nodes∨faulty<0∨nodes<faulty*3+1
 ·simp [h1] at h
 ·rw [if_neg h1] at h
  by_cases h2:skew<0∨137438953472<skew∨jitter<0∨137438953472<jitter∨drift<0∨137438953472<drift
  ·simp [h2] at h
  ·rw [if_neg h2] at h
   by_cases h3:round<1∨137438953472<round∨frame<1∨137438953472<frame
   ·simp [h3] at h
   ·rw [if_neg h3] at h
    by_cases h4:32<ns∨8<nl∨32<nw
    ·simp [h4] at h
    ·omega
theorem pw_boundsP (nodes:Int) (h1:1≤nodes) (h2:nodes≤16):2≤(2:Int) ^ nodes.toNat∧(2:Int) ^ nodes.toNat≤65536:=by
 have:nodes=1∨nodes=2∨nodes=3∨nodes=4∨nodes=5∨nodes=6∨nodes=7∨nodes=8∨nodes=9∨nodes=10∨nodes=11∨nodes=12∨nodes=13∨nodes=14∨nodes=15∨nodes=16:=by omega
 rcases this with rfl | rfl | rfl | rfl | rfl | rfl | rfl | rfl | rfl | rfl | rfl | rfl | rfl | rfl | rfl | rfl <;> decide
theorem AtIs.err {w:World} {E:Value} {e i:Int} (h:AtIs w E e i) (he:e≠0):ErrIs w E e i:=by
 rcases h with ⟨_,h⟩ | h
 ·exact absurd h he
 ·exact .inr (.inr h)
theorem AtIs.isNone {w:World} {E:Value} {i:Int} (h:AtIs w E 0 i):E=.nilIface:=by
 rcases h with ⟨h,_⟩ | ⟨_,_,h,_⟩
 ·exact h
 ·exact absurd rfl h
theorem AtIs.isSome {w:World} {E:Value} {e i:Int} (h:AtIs w E e i) (he:e≠0):∃ b,E=.iface 231 (.pointer (some ⟨b,0,none⟩)):=by
 rcases h with ⟨_,h⟩ | ⟨b,h,_⟩
 ·exact absurd h he
 ·exact ⟨b,h⟩
theorem check_any (nodes faulty skew jitter drift round frame:Int) (sa la wa:Option Addr) (ns sc nl lc nw wc:Nat) (nd fr tq lf lt lb lq:Nat→Int) (hit:Nat→Bool) (pw:Int) (wp wf wt:Nat→Int) (E I:Int) (w:World)
  (hs:Rows3 w sa ns nd fr tq) (hl:Rows4 w la nl lf lt lb lq) (hw:Rows3 w wa nw wp wf wt) (hpw:(2:Int) ^ nodes.toNat=pw) (hhit:∀ j,0≤lf j→lf j≤15→hit j=(bits BinOp.and .i64 (lt j) (2 ^ (lf j).toNat) != 0))
  (hC:CheckIs nodes faulty skew jitter drift round frame ns nl nw nd fr tq lf lt lb lq hit pw wp wf wt E I) :
  Calls Tryz.prog 70 #[.agg #[.int .i64 nodes,.int .i64 faulty,.int .i64 skew,.int .i64 jitter,.int .i64 drift,.int .i64 round,.slice sa ns sc,.slice la nl lc,.int .i64 frame,.slice wa nw wc]] w fun ev w'=>∃ V,ev=.returned V∧ErrIs w' V E I∧Below w.heap.size w w':=by
 have HC:Hid (CheckIs nodes faulty skew jitter drift round frame ns nl nw nd fr tq lf lt lb lq hit pw wp wf wt E I):=hC
 have HPW:Hid ((2:Int) ^ nodes.toNat=pw):=hpw
 have HH:Hid (∀ j,0≤lf j→lf j≤15→hit j=(bits BinOp.and .i64 (lt j) (2 ^ (lf j).toNat) != 0)):=hhit
 clear hC hpw hhit
 obtain ⟨hc,hV⟩:=box10 nodes faulty skew jitter drift round frame sa la wa ns sc nl lc nw wc w 48
 replace hs:=hs.below hV
 replace hl:=hl.below hV
 replace hw:=hw.below hV
 go_enter Tryz.func70,Tryz.ntmps70
 go_wp2_with fail
 generalize w.alloc (.cells #[.int .i64 nodes,.int .i64 faulty,.int .i64 skew,.int .i64 jitter,.int .i64 drift,.int .i64 round,.slice sa ns sc,.slice la nl lc,.int .i64 frame,.slice wa nw wc] 48)=V at hc hV hs hl hw ⊢
 refine (whole_any nodes faulty skew jitter drift round frame sa la wa ns sc nl lc nw wc _).mono ?_
 rintro ev w1 ⟨rfl,hb1⟩
 obtain ⟨h,hh⟩:∃ h,headErr nodes faulty skew jitter drift round frame ns nl nw=h:=⟨_,rfl⟩
 rw [hh]
 by_cases hz:h=0
 rotate_left
 ·have hn:(h == 0)=false:=by simpa using hz
  have hn2:(h != 0)=true:=by simpa using hz
  obtain ⟨rfl,rfl⟩:=HC.out.head hh hz
  have HZ:Hid (E≠0):=hz
  clear hz hh
  go_wp2
  go_ret
  exact ⟨_,rfl,.inr (.inl ⟨rfl,HZ.out,rfl⟩),hV.trans (hb1.mono hV.size)⟩
 ·subst hz
  have H0:=headErr_zero hh
  obtain ⟨a1,a2,_,_,⟨b1,b2⟩,_,_,⟨c1,c2⟩,_,d1,d2,d3⟩:=H0
  obtain ⟨p1,p2⟩:=pw_boundsP nodes a1 a2
  rw [HPW.out] at p1 p2
  have HX:Hid (∃ e1 i1 e2 i2 e3 i3,FirstBad (slotErr nd fr tq nodes skew round) ns e1 i1∧FirstBad (linkErr lf lt lb lq hit nodes pw) nl e2 i2∧FirstBad (winErr wp wf wt frame) nw e3 i3∧PlanRes e1 i1 e2 i2 e3 i3 E I):=by
   rcases HC.out with ⟨q,_⟩ | ⟨_,q⟩
   ·exact absurd hh q
   ·exact q
  clear HC hh
  obtain ⟨e1,i1,e2,i2,e3,i3,g1,g2,g3,g4⟩:=HX.out
  have HS:Hid (∀ u:World,Below V.heap.size V u→Calls Tryz.prog 107 #[.agg #[.int .i64 nodes,.int .i64 faulty,.int .i64 skew,.int .i64 jitter,.int .i64 drift,.int .i64 round,.slice sa ns sc,.slice la nl lc,.int .i64 frame,.slice wa nw wc]] u fun ev w'=>∃ E,ev=.returned E∧AtIs w' E e1 i1∧Below u.heap.size u w'):=fun u hu =>
   slots_any nodes faulty skew jitter drift round frame sa la wa ns sc nl lc nw wc u a1 a2 b1 b2 c1 c2 d1 nd fr tq (hs.below hu) e1 i1 g1
  have HL:Hid (∀ u:World,Below V.heap.size V u→Calls Tryz.prog 108 #[.agg #[.int .i64 nodes,.int .i64 faulty,.int .i64 skew,.int .i64 jitter,.int .i64 drift,.int .i64 round,.slice sa ns sc,.slice la nl lc,.int .i64 frame,.slice wa nw wc]] u fun ev w'=>∃ E,ev=.returned E∧AtIs w' E e2 (1000+i2)∧Below u.heap.size u w'):=fun u hu =>
   links_any nodes faulty skew jitter drift round frame sa la wa ns sc nl lc nw wc u a1 a2 d2 lf lt lb lq (hl.below hu) hit pw HPW.out p1 p2 HH.out e2 i2 g2
  have HW:Hid (∀ u:World,Below V.heap.size V u→Calls Tryz.prog 109 #[.agg #[.int .i64 nodes,.int .i64 faulty,.int .i64 skew,.int .i64 jitter,.int .i64 drift,.int .i64 round,.slice sa ns sc,.slice la nl lc,.int .i64 frame,.slice wa nw wc]] u fun ev w'=>∃ E,ev=.returned E∧AtIs w' E e3 (2000+i3)∧Below u.heap.size u w'):=fun u hu =>
   wins_any nodes faulty skew jitter drift round frame sa la wa ns sc nl lc nw wc u d3 wp wf wt (hw.below hu) e3 i3 g3
  have HR:Hid (PlanRes e1 i1 e2 i2 e3 i3 E I):=g4
  clear HX g1 g2 g3 g4 HPW HH hs hl hw
  obtain ⟨x0,x1,x2,x3,x4,x5,x6,x7,x8,x9⟩:=hc.below hb1
  go_wp2_with fail
  refine (HS.out _ hb1).mono ?_
  rintro ev w2 ⟨E1,rfl,hE1,hb2⟩
  have hB2:=stepB hb1 hb2
  clear x0 x1 x2 x3 x4 x5 x6 x7 x8 x9
  by_cases z1:e1=0
  rotate_left
  ·obtain ⟨b,rfl⟩:=hE1.isSome z1
   have HE:Hid (ErrIs w2 (.iface 231 (.pointer (some ⟨b,0,none⟩))) E I):=by
    obtain ⟨r1,r2⟩:=HR.out.1 z1
    rw [r1,r2];exact hE1.err z1
   clear z1 hE1
   go_wp2
   go_ret
   exact ⟨_,rfl,HE.out,hV.trans (hB2.mono hV.size)⟩
  subst z1
  obtain rfl:=hE1.isNone
  obtain ⟨x0,x1,x2,x3,x4,x5,x6,x7,x8,x9⟩:=hc.below hB2
  go_wp2_with fail
  refine (HL.out _ hB2).mono ?_
  rintro ev w3 ⟨E2,rfl,hE2,hb3⟩
  have hB3:=stepB hB2 hb3
  clear x0 x1 x2 x3 x4 x5 x6 x7 x8 x9
  by_cases z2:e2=0
  rotate_left
  ·obtain ⟨b,rfl⟩:=hE2.isSome z2
   have HE:Hid (ErrIs w3 (.iface 231 (.pointer (some ⟨b,0,none⟩))) E I):=by
    obtain ⟨r1,r2⟩:=HR.out.2.1 rfl z2
    rw [r1,r2];exact hE2.err z2
   clear z2 hE2
   go_wp2
   go_ret
   exact ⟨_,rfl,HE.out,hV.trans (hB3.mono hV.size)⟩
  subst z2
  obtain rfl:=hE2.isNone
  obtain ⟨x0,x1,x2,x3,x4,x5,x6,x7,x8,x9⟩:=hc.below hB3
  go_wp2_with fail
  refine (HW.out _ hB3).mono ?_
  rintro ev w4 ⟨E3,rfl,hE3,hb4⟩
  have hB4:=stepB hB3 hb4
  have HE:Hid (ErrIs w4 E3 E I):=by
   by_cases z3:e3=0
   ·subst z3
    obtain rfl:=hE3.isNone
    exact .inl ⟨rfl,HR.out.fine rfl rfl rfl⟩
   ·obtain ⟨r1,r2⟩:=HR.out.win rfl rfl z3
    rw [r1,r2];exact hE3.err z3
  clear x0 x1 x2 x3 x4 x5 x6 x7 x8 x9 hE3
  go_wp2
  go_ret
  exact ⟨_,rfl,HE.out,hV.trans (hB4.mono hV.size)⟩
end
section
structure PlanAt where
 sa:Option Addr
 sc:Nat
 la:Option Addr
 lc:Nat
 wa:Option Addr
 wc:Nat
def PlanN.val (p:PlanN) (a:PlanAt):Value:=.agg #[.int .i64 p.nodes,.int .i64 p.faulty,.int .i64 p.skew,.int .i64 p.jitter,.int .i64 p.drift,.int .i64 p.round,.slice a.sa p.ns a.sc,.slice a.la p.nl a.lc,.int .i64 p.frame,.slice a.wa p.nw a.wc]
structure PlanN.In (p:PlanN) (a:PlanAt) (w:World):Prop where
 slots:Rows3 w a.sa p.ns p.nd p.fr p.td
 links:Rows4 w a.la p.nl p.lf p.lt p.lb p.lq
 wins:Rows3 w a.wa p.nw p.wp p.wf p.wt
 ints:∀ k,k<p.nl→-9223372036854775808≤p.lt k∧p.lt k≤9223372036854775807
 ls:p.ns≤9223372036854775807
 ll:p.nl≤9223372036854775807
 lw:p.nw≤9223372036854775807
theorem PlanN.In.below {p:PlanN} {a:PlanAt} {w w':World} (h:p.In a w) (hb:Below w.heap.size w w'):p.In a w':=⟨h.slots.below hb,h.links.below hb,h.wins.below hb,h.ints,h.ls,h.ll,h.lw⟩
structure RoundAt where
 la:Option Addr
 lc:Nat
 ra:Option Addr
 rc:Nat
 da:Option Addr
 dc:Nat
 ma:Option Addr
 mc:Nat
def RoundN.val (r:RoundN) (a:RoundAt):Value:=.agg #[.slice a.la r.nL a.lc,.slice a.ra r.nR a.rc,.slice a.da r.drifts.length a.dc,.slice a.ma r.modes.length a.mc]
structure RoundN.In (r:RoundN) (a:RoundAt) (w:World):Prop where
 losses:Rows3 w a.la r.nL r.ls r.lc r.lt
 reads:Rows3 w a.ra r.nR r.rn r.ro r.ri
 drifts:IntRow w a.da r.drifts
 modes:IntRow w a.ma r.modes
 ints:∀ x,x<r.nL→-9223372036854775808≤r.lt x∧r.lt x≤9223372036854775807
 lL:r.nL≤9223372036854775807
 lR:r.nR≤9223372036854775807
 lD:r.drifts.length≤9223372036854775807
 lM:r.modes.length≤9223372036854775807
theorem RoundN.In.below {r:RoundN} {a:RoundAt} {w w':World} (h:r.In a w) (hb:Below w.heap.size w w'):r.In a w':=⟨h.losses.below hb,h.reads.below hb,h.drifts.below hb,h.modes.below hb,h.ints,h.lL,h.lR,h.lD,h.lM⟩
theorem RoundN.In.low {r:RoundN} {a:RoundAt} {w:World} (h:r.In a w):∀ b off,a.ma=some ⟨b,off,Option.none⟩→0<r.modes.length→b<w.heap.size:=fun b off e h0=>by
 obtain ⟨b',off',e',hl,_⟩:=h.modes h0
 rw [e] at e'
 injection e' with e'
 injection e' with e'
 rw [e']
 exact hl
def ClS.put (s:ClS) (p:PlanN) (k:Nat) (d:ByteArray):ClS where
 nodes:=s.nodes
 links:=fun j=>if j=k then { all:=putAll (putK ((s.links k).all.length - (s.links k).went) (p.lq k) d) (s.links k).all d,went:=(s.links k).went,last:=(s.links k).last,now:=(s.links k).now } else s.links j
 newest:=s.newest
 ports:=s.ports
def ClS.putK (s:ClS) (p:PlanN) (k:Nat) (d:ByteArray):Int:=Go.Proofs.YthccoinonjoleaaGreatDoor.putK ((s.links k).all.length - (s.links k).went) (p.lq k) d
def ClS.recv (s:ClS) (k j:Nat):ClS where
 nodes:=s.nodes
 links:=s.links
 newest:=s.newest
 ports:=fun k' j'=>if k'=k∧j'=j then (s.ports k j).tail else s.ports k' j'
structure CluOps (Clu:World→List Nat→Nat→PlanN→Int→List Int→ClS→Int→Nat→Prop):Prop where
 chk:∀ (p:PlanN) (a:PlanAt) (w:World),p.In a w→∃ E I,p.Is E I∧Calls Tryz.prog 70 #[p.val a] w fun e w'=>∃ V,e=.returned V∧ErrIs w' V E I∧Below w.heap.size w w'
 ok:∀ {w:World} {O:List Nat} {C:Nat} {p:PlanN} {fa:Int} {cs:List Int} {s:ClS} {rd:Int} {T:Nat},Clu w O C p fa cs s rd T→CluOk p fa cs∧0≤rd∧rd≤T
 lt:∀ {w:World} {O:List Nat} {C:Nat} {p:PlanN} {fa:Int} {cs:List Int} {s:ClS} {rd:Int} {T:Nat},Clu w O C p fa cs s rd T→∀ c,c∈O→c<w.heap.size
 keep:∀ {w w':World} {O:List Nat} {C:Nat} {p:PlanN} {fa:Int} {cs:List Int} {s:ClS} {rd:Int} {T:Nat},Clu w O C p fa cs s rd T→Same O w w'→Clu w' O C p fa cs s rd T
 new:∀ (p:PlanN) (a:PlanAt) (fa:Int) (ca:Option Addr) (cap:Nat) (cs:List Int) (w:World),p.In a w→IntRow w ca cs→cs.length≤9223372036854775807→-9223372036854775808≤fa→fa≤9223372036854775807 →
  Calls Tryz.prog 49 #[p.val a,.int .i64 fa,.slice ca cs.length cap] w fun e w'=>Below w.heap.size w w'∧∃ K I,NewIs p fa cs K I∧((K≠0∧∃ E,e=.returned (.tuple #[.pointer none,E])∧ErrIs w' E K I)∨(K=0∧∃ O C,e=.returned (.tuple #[.pointer (some ⟨C,0,none⟩),.nilIface])∧Clu w' O C p fa cs ClS.start 0 0∧∀ c,c∈O→w.heap.size≤c))
 play:∀ {w:World} {O:List Nat} {C:Nat} {p:PlanN} {fa:Int} {cs:List Int} {s:ClS} {rd:Int} {T:Nat} (r:RoundN) (a:RoundAt),Clu w O C p fa cs s rd T→T≤3000→r.In a w→(∀ b off,a.ma=some ⟨b,off,none⟩→0<r.modes.length→b∉O) →
  Calls Tryz.prog 54 #[.pointer (some ⟨C,0,none⟩),r.val a] w fun e w'=>∃ O',Foot O O' w w'∧((cluFar p fa cs r=true∧e=.returned (errV 6)∧Clu w' O' C p fa cs s rd T)∨(cluFar p fa cs r=false∧e=.returned (errV 0)∧Clu w' O' C p fa (cluTo p fa cs r) (cluOn p fa s rd r) (rd+1) (T+1)))
 put_bad:∀ {w:World} {O:List Nat} {C:Nat} {p:PlanN} {fa:Int} {cs:List Int} {s:ClS} {rd:Int} {T:Nat} (k:Int) (d:ByteArray),Clu w O C p fa cs s rd T→¬ (0≤k∧k<p.nl) →
  Calls Tryz.prog 51 #[.pointer (some ⟨C,0,none⟩),.int .i64 k,.string d] w fun e w'=>e=.returned (errV 2)∧Below w.heap.size w w'
 put:∀ {w:World} {O:List Nat} {C:Nat} {p:PlanN} {fa:Int} {cs:List Int} {s:ClS} {rd:Int} {T:Nat} (k:Nat) (d:ByteArray),Clu w O C p fa cs s rd T→T≤3000→k<p.nl →
  Calls Tryz.prog 51 #[.pointer (some ⟨C,0,none⟩),.int .i64 k,.string d] w fun e w'=>e=.returned (errV (s.putK p k d))∧∃ O',Foot O O' w w'∧Clu w' O' C p fa cs (s.put p k d) rd (T+1)
 recv_bad:∀ {w:World} {O:List Nat} {C:Nat} {p:PlanN} {fa:Int} {cs:List Int} {s:ClS} {rd:Int} {T:Nat} (j k:Int),Clu w O C p fa cs s rd T→¬ ((0≤j∧j<p.nodes)∧(0≤k∧k<p.nl)∧bitI (p.lt k.toNat) j.toNat=true) →
  Calls Tryz.prog 53 #[.pointer (some ⟨C,0,none⟩),.int .i64 j,.int .i64 k] w fun e w'=>e=.returned (.tuple #[.string ByteArray.empty,errV 2])∧Below w.heap.size w w'
 recv:∀ {w:World} {O:List Nat} {C:Nat} {p:PlanN} {fa:Int} {cs:List Int} {s:ClS} {rd:Int} {T:Nat} (j k:Nat),Clu w O C p fa cs s rd T→j<p.n→k<p.nl→bitI (p.lt k) j=true →
  Calls Tryz.prog 53 #[.pointer (some ⟨C,0,none⟩),.int .i64 j,.int .i64 k] w fun e w'=>e=.returned (.tuple #[.string (recvD (s.ports k j)),errV (recvK (s.ports k j))])∧∃ O',Foot O O' w w'∧Clu w' O' C p fa cs (s.recv k j) rd T
 spread:∀ {w:World} {O:List Nat} {C:Nat} {p:PlanN} {fa:Int} {cs:List Int} {s:ClS} {rd:Int} {T:Nat},Clu w O C p fa cs s rd T →
  Calls Tryz.prog 58 #[.pointer (some ⟨C,0,none⟩)] w fun e w'=>e=.returned (.int .i64 (spreadL (rightOf fa cs)))∧Below w.heap.size w w'
 rounds:∀ {w:World} {O:List Nat} {C:Nat} {p:PlanN} {fa:Int} {cs:List Int} {s:ClS} {rd:Int} {T:Nat},Clu w O C p fa cs s rd T →
  Calls Tryz.prog 55 #[.pointer (some ⟨C,0,none⟩)] w fun e w'=>e=.returned (.int .i64 rd)∧Below w.heap.size w w'
end
section
theorem FirstBad.one {f:Nat→Int} {n:Nat} {e i e' i':Int} (h:FirstBad f n e i) (h':FirstBad f n e' i'):e=e'∧i=i':=by
 rcases h with ⟨h0,h1,h2⟩ | ⟨k,hk,h0,hf,h1,h2⟩
 ·obtain ⟨q1,q2⟩:=h'.at_end h0
  exact ⟨h1.trans q1.symm,h2.trans q2.symm⟩
 ·obtain ⟨q1,q2⟩:=h'.at_bad hk h0 (fun y=>h1 (hf.symm.trans y))
  exact ⟨hf.symm.trans q1.symm,h2.trans q2.symm⟩
theorem PlanN.Is.one {p:PlanN} {E I E' I':Int} (h:p.Is E I) (h':p.Is E' I'):E=E'∧I=I':=by
 unfold PlanN.Is CheckIs at h h'
 rcases h with ⟨a0,a1,a2⟩ | ⟨a0,e1,i1,e2,i2,e3,i3,F1,F2,F3,R⟩
 ·rcases h' with ⟨b0,b1,b2⟩ | ⟨b0,_⟩
  ·exact ⟨a1.trans b1.symm,a2.trans b2.symm⟩
  ·exact absurd b0 a0
 ·rcases h' with ⟨b0,b1,b2⟩ | ⟨b0,g1,j1,g2,j2,g3,j3,G1,G2,G3,S⟩
  ·exact absurd a0 b0
  ·obtain ⟨rfl,rfl⟩:=F1.one G1
   obtain ⟨rfl,rfl⟩:=F2.one G2
   obtain ⟨rfl,rfl⟩:=F3.one G3
   by_cases z1:e1=0
   ·by_cases z2:e2=0
    ·by_cases z3:e3=0
     ·have q1:=R.2.2.2 z1 z2 z3
      have q2:=S.2.2.2 z1 z2 z3
      exact ⟨q1.1.trans q2.1.symm,q1.2.trans q2.2.symm⟩
     ·have q1:=R.2.2.1 z1 z2 z3
      have q2:=S.2.2.1 z1 z2 z3
      exact ⟨q1.1.trans q2.1.symm,q1.2.trans q2.2.symm⟩
    ·have q1:=R.2.1 z1 z2
     have q2:=S.2.1 z1 z2
     exact ⟨q1.1.trans q2.1.symm,q1.2.trans q2.2.symm⟩
   ·have q1:=R.1 z1
    have q2:=S.1 z1
    exact ⟨q1.1.trans q2.1.symm,q1.2.trans q2.2.symm⟩
theorem PlanN.Is.neg {p:PlanN} {I:Int} (h:p.Is 0 I):I = -1:=by
 unfold PlanN.Is CheckIs at h
 rcases h with ⟨a0,a1,a2⟩ | ⟨a0,e1,i1,e2,i2,e3,i3,F1,F2,F3,R⟩
 ·exact a2
 ·by_cases z1:e1=0
  ·by_cases z2:e2=0
   ·by_cases z3:e3=0
    ·exact (R.2.2.2 z1 z2 z3).2
    ·exact absurd (R.2.2.1 z1 z2 z3).1.symm z3
   ·exact absurd (R.2.1 z1 z2).1.symm z2
  ·exact absurd (R.1 z1).1.symm z1
theorem NewIs.one {p:PlanN} {fa:Int} {cs:List Int} {K I K' I':Int} (h:NewIs p fa cs K I) (h':NewIs p fa cs K' I'):K=K'∧I=I':=by
 rcases h with ⟨E,h1,h2,h3⟩ | ⟨h0,hI,h⟩
 ·rcases h' with ⟨E',g1,g2,g3⟩ | ⟨g0,_⟩
  ·obtain ⟨q1,q2⟩:=h1.one g1
   exact ⟨h3.trans (q1.trans g3.symm),q2⟩
  ·exact absurd (h1.one g0).1 h2
 ·rcases h' with ⟨E',g1,g2,g3⟩ | ⟨g0,gI,g⟩
  ·exact absurd (g1.one h0).1 g2
  ·refine ⟨?_,hI.trans gI.symm⟩
   rcases h with ⟨n1,k1⟩ | ⟨n1,h⟩
   ·rcases g with ⟨m1,l1⟩ | ⟨m1,g⟩
    ·exact k1.trans l1.symm
    ·exact absurd m1 n1
   ·rcases g with ⟨m1,l1⟩ | ⟨m1,g⟩
    ·exact absurd n1 m1
    ·rcases h with ⟨n2,k2⟩ | ⟨n2,h⟩
     ·rcases g with ⟨m2,l2⟩ | ⟨m2,g⟩
      ·exact k2.trans l2.symm
      ·exact absurd m2 n2
     ·rcases g with ⟨m2,l2⟩ | ⟨m2,g⟩
      ·exact absurd n2 m2
      ·rcases h with ⟨n3,k3⟩ | ⟨n3,k3⟩
       ·rcases g with ⟨m3,l3⟩ | ⟨m3,l3⟩
        ·exact k3.trans l3.symm
        ·exact absurd m3 n3
       ·rcases g with ⟨m3,l3⟩ | ⟨m3,l3⟩
        ·exact absurd n3 m3
        ·exact k3.trans l3.symm
end
section
theorem ofInt_any (x:Int):(BitVec.ofInt 64 x).toNat=(x % 18446744073709551616).toNat:=by
 rw [BitVec.toNat_ofInt]
 rfl
theorem bit_and (x:Int) {j:Nat} (hj:j≤62):(bits BinOp.and .i64 x (2 ^ j) != 0)=bitI x j:=by
 have hp:(2:Nat) ^ j≤2 ^ 62:=Nat.pow_le_pow_right (by decide) hj
 have hp2:(2:Nat) ^ 62=4611686018427387904:=by decide
 have hq:(((2:Int) ^ j) % 18446744073709551616).toNat=2 ^ j:=by
  have h:∀ T:Nat,T≤4611686018427387904→((T:Int) % 18446744073709551616).toNat=T:=fun T h=>by omega
  rw [pow_cast]
  exact h _ (by rw [← hp2];exact hp)
 obtain ⟨X,hX⟩:∃ X:Nat,(x % 18446744073709551616).toNat=X:=⟨_,rfl⟩
 have hlt:X &&& 2 ^ j≤2 ^ j:=Nat.and_le_right
 have e:bits BinOp.and .i64 x (2 ^ j)=((X &&& 2 ^ j:Nat):Int):=by
  show IntKind.i64.wrap ((BitVec.ofInt 64 x &&& BitVec.ofInt 64 (2 ^ j)).toNat:Int)=_
  rw [BitVec.toNat_and,ofInt_any,ofInt_any,hq,hX]
  exact wrap_nat _ (by omega)
 rw [e]
 have h1:((((X &&& 2 ^ j:Nat):Int)) != 0)=((X &&& 2 ^ j) != 0):=by
  cases h:(X &&& 2 ^ j) != 0
  ·have:X &&& 2 ^ j=0:=by simpa using h
   rw [this];rfl
  ·have:X &&& 2 ^ j≠0:=by simpa using h
   simp only [bne_iff_ne,ne_eq]
   omega
 rw [h1,and_pow_ne,Nat.testBit_eq_decide_div_mod_eq]
 unfold bitI
 obtain ⟨q,hqx⟩:∃ q:Int,x=X+18446744073709551616*q:=⟨x / 18446744073709551616,by omega⟩
 have hpos:(0:Int)<2 ^ j:=by rw [pow_cast];exact_mod_cast Nat.two_pow_pos j
 have h64:(18446744073709551616:Int)=2 ^ j*(2*2 ^ (63 - j)):=by
  have:(2:Int) ^ j*(2*2 ^ (63 - j))=2 ^ (j+(1+(63 - j))):=by rw [Int.pow_add,Int.pow_add];rfl
  rw [this,show j+(1+(63 - j))=64 by omega]
  decide
 have h2:x / 2 ^ j=(X:Int) / 2 ^ j+2*2 ^ (63 - j)*q:=by
  rw [hqx,h64,Int.mul_assoc,Int.add_mul_ediv_left _ _ (by omega)]
 have h3:x / 2 ^ j % 2=(X:Int) / 2 ^ j % 2:=by
  rw [h2,Int.mul_assoc,Int.add_mul_emod_self_left]
 rw [h3,pow_cast]
 congr 1
 apply propext
 constructor
 ·intro h;exact_mod_cast h
 ·intro h;exact_mod_cast h
end
section
theorem foldl_max_mem (l:List Int):∀ x,x≤l.foldl max x∧∀ y∈l,y≤l.foldl max x:=by
 induction l with
 | nil=>intro x;exact ⟨Int.le_refl _,fun y hy=>(by cases hy)⟩
 | cons a l ih =>
  intro x
  have h:=ih (max x a)
  simp only [List.foldl_cons]
  refine ⟨by omega,fun y hy=>?_⟩
  rcases List.mem_cons.1 hy with rfl | q
  ·omega
  ·exact h.2 y q
theorem foldl_max_in (l:List Int):∀ x,l.foldl max x=x∨l.foldl max x∈l:=by
 induction l with
 | nil=>intro x;exact .inl rfl
 | cons a l ih =>
  intro x
  simp only [List.foldl_cons]
  rcases ih (max x a) with h | h
  ·rw [h]
   by_cases q:x≤a
   ·rw [Int.max_eq_right q];exact .inr (List.mem_cons.2 (.inl rfl))
   ·rw [Int.max_eq_left (by omega)];exact .inl rfl
  ·exact .inr (List.mem_cons.2 (.inr h))
theorem foldl_min_mem (l:List Int):∀ x,l.foldl min x≤x∧∀ y∈l,l.foldl min x≤y:=by
 induction l with
 | nil=>intro x;exact ⟨Int.le_refl _,fun y hy=>(by cases hy)⟩
 | cons a l ih =>
  intro x
  have h:=ih (min x a)
  simp only [List.foldl_cons]
  refine ⟨by omega,fun y hy=>?_⟩
  rcases List.mem_cons.1 hy with rfl | q
  ·omega
  ·exact h.2 y q
theorem foldl_min_in (l:List Int):∀ x,l.foldl min x=x∨l.foldl min x∈l:=by
 induction l with
 | nil=>intro x;exact .inl rfl
 | cons a l ih =>
  intro x
  simp only [List.foldl_cons]
  rcases ih (min x a) with h | h
  ·rw [h]
   by_cases q:a≤x
   ·rw [Int.min_eq_right q];exact .inr (List.mem_cons.2 (.inl rfl))
   ·rw [Int.min_eq_left (by omega)];exact .inl rfl
  ·exact .inr (List.mem_cons.2 (.inr h))
theorem spreadL_le {l:List Int} {K:Int} (hK:0≤K):spreadL l≤K↔∀ x∈l,∀ y∈l,x - y≤K:=by
 unfold spreadL
 constructor
 ·intro h x hx y hy
  have h1:=(foldl_max_mem l (l.headD 0)).2 x hx
  have h2:=(foldl_min_mem l (l.headD 0)).2 y hy
  omega
 ·intro h
  cases l with
  | nil=>simpa using hK
  | cons a l =>
   have hm:(a::l).foldl max ((a::l).headD 0)∈a::l:=by
    rcases foldl_max_in (a::l) ((a::l).headD 0) with q | q
    ·rw [q];exact List.mem_cons.2 (.inl rfl)
    ·exact q
   have hn:(a::l).foldl min ((a::l).headD 0)∈a::l:=by
    rcases foldl_min_in (a::l) ((a::l).headD 0) with q | q
    ·rw [q];exact List.mem_cons.2 (.inl rfl)
    ·exact q
   exact h _ hm _ hn
theorem near_iff {fa skew:Int} {cs:List Int} (hK:0≤skew):spreadL (rightOf fa cs)≤skew↔Near1 cs.length (bitI fa) skew (fun i=>cs.getD i 0):=by
 rw [spreadL_le hK]
 constructor
 ·intro h i j hi oi hj oj
  have mem:∀ i,i<cs.length→bitI fa i=false→cs.getD i 0∈rightOf fa cs:=fun i hi oi =>
   List.mem_map.2 ⟨i,List.mem_filter.2 ⟨List.mem_range.2 hi,by simp [oi]⟩,rfl⟩
  exact h _ (mem i hi oi) _ (mem j hj oj)
 ·intro h x hx y hy
  obtain ⟨i,hi,rfl⟩:=List.mem_map.1 hx
  obtain ⟨j,hj,rfl⟩:=List.mem_map.1 hy
  have hi:=List.mem_filter.1 hi
  have hj:=List.mem_filter.1 hj
  exact h i j (List.mem_range.1 hi.1) (by simpa using hi.2) (List.mem_range.1 hj.1) (by simpa using hj.2)
theorem cluTo_len (p:PlanN) (fa:Int) (cs:List Int) (r:RoundN):(cluTo p fa cs r).length=p.n:=by simp [cluTo]
theorem cluTo_get (p:PlanN) (fa:Int) (cs:List Int) (r:RoundN) {i:Nat} (h:i<p.n):(cluTo p fa cs r).getD i 0=clocksTo p.n p.faulty.toNat (bitI fa) p.jitter p.drift (fun i=>cs.getD i 0) r.reads r.drifts i:=by
 simp [cluTo,List.getD,h]
theorem CluOk.next {p:PlanN} {fa:Int} {cs:List Int} (h:CluOk p fa cs) (r:RoundN) (hf:cluFar p fa cs r=false):CluOk p fa (cluTo p fa cs r):=by
 have hb:=h.plan.bounds
 refine ⟨h.plan,h.f0,h.f1,h.fc,cluTo_len p fa cs r,fun c hc=>?_,?_⟩
 ·obtain ⟨i,hi,rfl⟩:=List.mem_map.1 hc
  unfold cluFar beyondB at hf
  rw [List.any_eq_false] at hf
  have:=hf i hi
  simp only [decide_eq_true_eq] at this
  omega
 ·rw [near_iff hb.s0,cluTo_len]
  have hn:=(near_iff hb.s0).1 h.near
  rw [h.len] at hn
  have hN:=hn.round (f:=p.faulty.toNat) r.reads r.drifts h.fc (by have:=hb.f3;have:=hb.f0;have:=hb.n1;unfold PlanN.n;omega) hb.j0 hb.d0 (by have:=hb.sk;omega)
  intro i j hi oi hj oj
  show (cluTo p fa cs r).getD i 0 - (cluTo p fa cs r).getD j 0≤p.skew
  rw [cluTo_get p fa cs r hi,cluTo_get p fa cs r hj]
  exact hN i j hi oi hj oj
end
section
theorem encode_bad (nodes faulty skew jitter drift round frame:Int) (sa la wa:Option Addr) (ns sc nl lc nw wc:Nat) (E I:Int) (w:World) (hE:E≠0)
  (hc:∀ v:World,Below w.heap.size w v→Calls Tryz.prog 70 #[.agg #[.int .i64 nodes,.int .i64 faulty,.int .i64 skew,.int .i64 jitter,.int .i64 drift,.int .i64 round,.slice sa ns sc,.slice la nl lc,.int .i64 frame,.slice wa nw wc]] v fun ev w'=>∃ X,ev=.returned X∧ErrIs w' X E I∧Below v.heap.size v w') :
  Calls Tryz.prog 47 #[.agg #[.int .i64 nodes,.int .i64 faulty,.int .i64 skew,.int .i64 jitter,.int .i64 drift,.int .i64 round,.slice sa ns sc,.slice la nl lc,.int .i64 frame,.slice wa nw wc]] w fun ev w'=>∃ X,ev=.returned (.tuple #[.slice none 0 0,X])∧ErrIs w' X E I∧Below w.heap.size w w':=by
 obtain ⟨hcc,hV⟩:=box10 nodes faulty skew jitter drift round frame sa la wa ns sc nl lc nw wc w 48
 have HE:Hid (E≠0):=hE
 clear hE
 go_enter Tryz.func47,Tryz.ntmps47
 go_wp2_with fail
 generalize w.alloc (.cells #[.int .i64 nodes,.int .i64 faulty,.int .i64 skew,.int .i64 jitter,.int .i64 drift,.int .i64 round,.slice sa ns sc,.slice la nl lc,.int .i64 frame,.slice wa nw wc] 48)=V at hcc hV ⊢
 refine (hc V hV).mono ?_
 rintro ev w1 ⟨X,rfl,hX,hb1⟩
 have HX:Hid (ErrIs w1 X E I):=hX
 rcases hX with ⟨_,h0,_⟩ | ⟨rfl,_,_⟩ | ⟨b,rfl,_⟩
 ·exact absurd h0 HE.out
 ·go_wp2
  go_ret2
  exact ⟨_,rfl,HX.out,hV.trans (hb1.mono hV.size)⟩
 ·go_wp2
  go_ret2
  exact ⟨_,rfl,HX.out,hV.trans (hb1.mono hV.size)⟩
theorem bytesOf_pos (L:List Int) (h:1≤L.length):1≤(bytesOf L).length:=by
 cases L with
 | nil=>simp at h
 | cons x r =>
  have:=numB_len 5 x.toNat
  simp [bytesOf];omega
section
variable {nodes faulty skew jitter drift round frame:Int} {ns nl nw:Nat} {nd fr tq lf lt lb lq wp wf wt:Nat→Int} {k:Nat} {x:Int}
theorem mem_slotsTo {f g h:Nat→Int} {n:Nat} (hk:k<n) (hx:x∈[f k,g k,h k]):x∈slotsTo f g h n:=by
 unfold slotsTo;exact List.mem_flatMap.2 ⟨k,List.mem_range.2 hk,hx⟩
theorem mem_linksTo {f g h i:Nat→Int} {n:Nat} (hk:k<n) (hx:x∈[f k,g k,h k,i k]):x∈linksN f g h i n:=by
 unfold linksN;exact List.mem_flatMap.2 ⟨k,List.mem_range.2 hk,hx⟩
theorem mem_slot (hk:k<ns) (hx:x∈[nd k,fr k,tq k]):x∈planNums nodes faulty skew jitter drift round frame ns nl nw nd fr tq lf lt lb lq wp wf wt:=by
 unfold planNums;simp only [List.mem_append];exact .inl (.inl (.inl (.inl (.inr (mem_slotsTo hk hx)))))
theorem mem_link (hk:k<nl) (hx:x∈[lf k,lt k,lb k,lq k]):x∈planNums nodes faulty skew jitter drift round frame ns nl nw nd fr tq lf lt lb lq wp wf wt:=by
 unfold planNums;simp only [List.mem_append];exact .inl (.inl (.inr (mem_linksTo hk hx)))
theorem mem_win (hk:k<nw) (hx:x∈[wp k,wf k,wt k]):x∈planNums nodes faulty skew jitter drift round frame ns nl nw nd fr tq lf lt lb lq wp wf wt:=by
 unfold planNums;simp only [List.mem_append];exact .inr (mem_slotsTo hk hx)
theorem mem_other (hx:x∈[(nl:Int),frame,(nw:Int)]):x∈planNums nodes faulty skew jitter drift round frame ns nl nw nd fr tq lf lt lb lq wp wf wt:=by
 unfold planNums;simp only [List.mem_append]
 simp at hx
 rcases hx with rfl | rfl | rfl
 ·exact .inl (.inl (.inl (.inr (by simp))))
 ·exact .inl (.inr (by simp))
 ·exact .inl (.inr (by simp))
end
theorem encode_ok (nodes faulty skew jitter drift round frame:Int) (sa la wa:Option Addr) (ns sc nl lc nw wc:Nat) (nd fr tq lf lt lb lq wp wf wt:Nat→Int) (w:World)
  (hs:Rows3 w sa ns nd fr tq) (hl:Rows4 w la nl lf lt lb lq) (hw:Rows3 w wa nw wp wf wt) (d1:ns≤32) (d2:nl≤8) (d3:nw≤32)
  (hnn:∀ x∈planNums nodes faulty skew jitter drift round frame ns nl nw nd fr tq lf lt lb lq wp wf wt,0≤x∧x≤1099511627776)
  (hc:∀ v:World,Below w.heap.size w v→Calls Tryz.prog 70 #[.agg #[.int .i64 nodes,.int .i64 faulty,.int .i64 skew,.int .i64 jitter,.int .i64 drift,.int .i64 round,.slice sa ns sc,.slice la nl lc,.int .i64 frame,.slice wa nw wc]] v fun ev w'=>∃ X,ev=.returned X∧ErrIs w' X 0 (-1)∧Below v.heap.size v w') :
  Calls Tryz.prog 47 #[.agg #[.int .i64 nodes,.int .i64 faulty,.int .i64 skew,.int .i64 jitter,.int .i64 drift,.int .i64 round,.slice sa ns sc,.slice la nl lc,.int .i64 frame,.slice wa nw wc]] w fun ev w'=>∃ v,ev=.returned (.tuple #[v,.nilIface]) ∧
   w'.ownsRow w.heap.size 5 1 v (bytesOf (planNums nodes faulty skew jitter drift round frame ns nl nw nd fr tq lf lt lb lq wp wf wt)).length ((bytesOf (planNums nodes faulty skew jitter drift round frame ns nl nw nd fr tq lf lt lb lq wp wf wt)).map (Value.int .u8))∧Below w.heap.size w w':=by
 obtain ⟨hcc,hV⟩:=box10 nodes faulty skew jitter drift round frame sa la wa ns sc nl lc nw wc w 48
 have HNN:Hid (∀ x∈planNums nodes faulty skew jitter drift round frame ns nl nw nd fr tq lf lt lb lq wp wf wt,0≤x∧x≤1099511627776):=hnn
 clear hnn
 replace hs:=hs.below hV
 replace hl:=hl.below hV
 replace hw:=hw.below hV
 go_enter Tryz.func47,Tryz.ntmps47
 go_wp2_with fail
 generalize w.alloc (.cells #[.int .i64 nodes,.int .i64 faulty,.int .i64 skew,.int .i64 jitter,.int .i64 drift,.int .i64 round,.slice sa ns sc,.slice la nl lc,.int .i64 frame,.slice wa nw wc] 48)=V at hcc hV hs hl hw ⊢
 refine (hc V hV).mono ?_
 clear hc
 rintro ev w1 ⟨X,rfl,hX,hb1⟩
 obtain rfl:X=.nilIface:=by
  rcases hX with ⟨h,_⟩ | ⟨_,h,_⟩ | ⟨_,_,h,_⟩
  ·exact h
  ·exact absurd rfl h
  ·exact absurd rfl h
 clear hX
 replace hs:=hs.below hb1
 replace hl:=hl.below hb1
 replace hw:=hw.below hb1
 replace hcc:=hcc.below hb1
 replace hV:=hV.trans (hb1.mono hV.size)
 clear hb1
 obtain ⟨x0,x1,x2,x3,x4,x5,x6,x7,x8,x9⟩:=hcc.below (Below.refl _ _)
 go_wp2_with fail
 refine (write_new w1.heap.size _ [] [nodes,faulty,skew,jitter,drift,round] _ _ w1 _ rfl rfl (World.ownsRow_nil _ _ _ _) (Nat.le_refl _) (fun x hx=>HNN.out x (by simp [planNums];simp at hx;omega)) (by simp) (by simp)).mono ?_
 rintro ev w2 ⟨v2,rfl,ho2,hB2,hz2⟩
 rw [List.nil_append] at ho2
 have ho2':Hid (w2.ownsRow w1.heap.size 5 1 v2 (bytesOf ([nodes,faulty,skew,jitter,drift,round])).length ((bytesOf ([nodes,faulty,skew,jitter,drift,round])).map (Value.int .u8))):=ho2
 clear ho2 x0 x1 x2 x3 x4 x5 x6 x7 x8 x9
 obtain ⟨x0,x1,x2,x3,x4,x5,x6,x7,x8,x9⟩:=hcc.below hB2
 clear x0 x1 x2 x3 x4 x5 x7 x8 x9
 go_wp2_with fail
 refine (write_new w1.heap.size _ _ [(ns:Int)] _ _ w2 _ rfl rfl ho2'.out (by omega) (fun x hx=>HNN.out x (by simp [planNums];simp at hx;omega)) (by have:=bytesOf_len [nodes,faulty,skew,jitter,drift,round];simp at this;omega) (by simp)).mono ?_
 rintro ev w3 ⟨v3,rfl,ho3,hB3,hz3⟩
 replace hB3:=hB2.trans hB3
 have ho3':Hid (w3.ownsRow w1.heap.size 5 1 v3 (bytesOf ([nodes,faulty,skew,jitter,drift,round,(ns:Int)] ++ slotsTo nd fr tq 0)).length ((bytesOf ([nodes,faulty,skew,jitter,drift,round,(ns:Int)] ++ slotsTo nd fr tq 0)).map (Value.int .u8))):=by
  show World.ownsRow _ _ _ _ _ _ _
  rw [← bytesOf_append] at ho3;simpa [slotsTo] using ho3
 clear ho2' ho3 x6 hB2 hz2 hz3
 obtain ⟨x0,x1,x2,x3,x4,x5,x6,x7,x8,x9⟩:=hcc.below hB3
 clear x0 x1 x2 x3 x4 x5 x7 x8 x9
 have MS:Hid (∀ k,k<ns→∀ x∈[nd k,fr k,tq k],0≤x∧x≤1099511627776):=fun k hk x hx=>HNN.out x (mem_slot hk hx)
 have ML:Hid (∀ k,k<nl→∀ x∈[lf k,lt k,lb k,lq k],0≤x∧x≤1099511627776):=fun k hk x hx=>HNN.out x (mem_link hk hx)
 have MW:Hid (∀ k,k<nw→∀ x∈[wp k,wf k,wt k],0≤x∧x≤1099511627776):=fun k hk x hx=>HNN.out x (mem_win hk hx)
 have MO:Hid (∀ x∈[(nl:Int),frame,(nw:Int)],0≤x∧x≤1099511627776):=fun x hx=>HNN.out x (mem_other hx)
 clear HNN
 go_wp2_with fail
 go_loopw [5,40] (fun v t wr=>∃ k:Nat,k≤ns∧t=.int .i64 k∧Hid (wr.ownsRow w1.heap.size 5 1 v (bytesOf ([nodes,faulty,skew,jitter,drift,round,(ns:Int)] ++ slotsTo nd fr tq k)).length ((bytesOf ([nodes,faulty,skew,jitter,drift,round,(ns:Int)] ++ slotsTo nd fr tq k)).map (Value.int .u8)))∧Below w1.heap.size w1 wr) (fun _ t _=>ns - (intOf t).toNat)
 case atStart=>exact ⟨0,Nat.zero_le _,rfl,ho3',hB3⟩
 case round =>
  obtain ⟨k,hk,rfl,ho,hbe⟩:=hrel
  have hbz:=hbe.size
  rcases (show k<ns∨ns=k by omega) with hlt | hkk
  ·obtain ⟨b,off,rfl,hb,hcl⟩:=hs (by omega)
   obtain ⟨r0,r1,r2⟩:=hcl k hlt
   replace r0:=keep_cell r0 hbe
   replace r1:=keep_cell r1 hbe
   replace r2:=keep_cell r2 hbe
   have hbr:b<wr.heap.size:=lt_of_cell r0
   clear hcl
   go_wp2_with fail
   refine (write_new w1.heap.size _ _ [nd k,fr k,tq k] _ _ (wr.alloc (.cells #[.int .i64 (nd k),.int .i64 (fr k),.int .i64 (tq k)] 80)) (wr.heap.size+1) (by simp) rfl (owns_below ho.out ((Below.refl _ _).alloc (Nat.le_refl _) _)) (by simp;omega) (MS.out k hlt) (Nat.le_trans (bytesOf_len _) (by simp [slotsTo_len];omega)) (by simp)).mono ?_
   rintro ev w3 ⟨v3,rfl,ho3,hB3,hz3⟩
   have hb4:Below w1.heap.size w1 w3:=(hbe.alloc hbe.size _).trans hB3
   have ho4:Hid (w3.ownsRow w1.heap.size 5 1 v3 (bytesOf ([nodes,faulty,skew,jitter,drift,round,(ns:Int)] ++ slotsTo nd fr tq (k+1))).length ((bytesOf ([nodes,faulty,skew,jitter,drift,round,(ns:Int)] ++ slotsTo nd fr tq (k+1))).map (Value.int .u8))):=by
    show World.ownsRow _ _ _ _ _ _ _
    rw [slotsTo_succ,← List.append_assoc,bytesOf_append];exact ho3
   clear ho ho3 r0 r1 r2
   go_wp2
   go_roundw
   case rel=>exact ⟨k+1,by omega,by go_num,ho4,hb4⟩
   case measure=>simp [intOf];omega
  ·subst hkk
   clear hk
   obtain ⟨x0,x1,x2,x3,x4,x5,x6,x7,x8,x9⟩:=hcc.below hbe
   clear x0 x1 x2 x3 x4 x5 x6 x8 x9
   go_wp2_with fail
   refine (write_new w1.heap.size _ _ [(nl:Int)] _ _ wr _ rfl rfl ho.out (by omega) (fun x hx=>MO.out x (by simp at hx ⊢;omega)) (Nat.le_trans (bytesOf_len _) (by simp [slotsTo_len];omega)) (by simp)).mono ?_
   rintro ev w5 ⟨v5,rfl,ho5,hB5,hz5⟩
   replace hB5:=hbe.trans hB5
   have ho5':Hid (w5.ownsRow w1.heap.size 5 1 v5 (bytesOf ([nodes,faulty,skew,jitter,drift,round,(ns:Int)] ++ slotsTo nd fr tq ns ++ [(nl:Int)] ++ linksN lf lt lb lq 0)).length ((bytesOf ([nodes,faulty,skew,jitter,drift,round,(ns:Int)] ++ slotsTo nd fr tq ns ++ [(nl:Int)] ++ linksN lf lt lb lq 0)).map (Value.int .u8))):=by
    show World.ownsRow _ _ _ _ _ _ _
    rw [← bytesOf_append] at ho5;simpa [linksN] using ho5
   clear ho ho5 x7 hbe hbz hz5
   obtain ⟨x0,x1,x2,x3,x4,x5,x6,x7,x8,x9⟩:=hcc.below hB5
   clear x0 x1 x2 x3 x4 x5 x6 x8 x9
   go_wp2_with fail
   rename World=>wy
   go_loopw [5,65] (fun v t wr=>∃ k:Nat,k≤nl∧t=.int .i64 k∧Hid (wr.ownsRow w1.heap.size 5 1 v (bytesOf ([nodes,faulty,skew,jitter,drift,round,(ns:Int)] ++ slotsTo nd fr tq ns ++ [(nl:Int)] ++ linksN lf lt lb lq k)).length ((bytesOf ([nodes,faulty,skew,jitter,drift,round,(ns:Int)] ++ slotsTo nd fr tq ns ++ [(nl:Int)] ++ linksN lf lt lb lq k)).map (Value.int .u8)))∧Below w1.heap.size w1 wr) (fun _ t _=>nl - (intOf t).toNat)
   case atStart=>exact ⟨0,Nat.zero_le _,rfl,ho5',hB5⟩
   case round =>
    obtain ⟨k,hk,rfl,ho,hbe⟩:=hrel
    have hbz:=hbe.size
    rcases (show k<nl∨nl=k by omega) with hlt | hkk
    ·obtain ⟨b,off,rfl,hb,hcl⟩:=hl (by omega)
     obtain ⟨r0,r1,r2,r3⟩:=hcl k hlt
     replace r0:=keep_cell r0 hbe
     replace r1:=keep_cell r1 hbe
     replace r2:=keep_cell r2 hbe
     replace r3:=keep_cell r3 hbe
     have hbr:b<wr.heap.size:=lt_of_cell r0
     clear hcl
     go_wp2_with fail
     refine (write_new w1.heap.size _ _ [lf k,lt k,lb k,lq k] _ _ (wr.alloc (.cells #[.int .i64 (lf k),.int .i64 (lt k),.int .i64 (lb k),.int .i64 (lq k)] 84)) (wr.heap.size+1) (by simp) rfl (owns_below ho.out ((Below.refl _ _).alloc (Nat.le_refl _) _)) (by simp;omega) (ML.out k hlt) (Nat.le_trans (bytesOf_len _) (by simp [slotsTo_len,linksN_len];omega)) (by simp)).mono ?_
     rintro ev w3 ⟨v3,rfl,ho3,hB3,hz3⟩
     have hb4:Below w1.heap.size w1 w3:=(hbe.alloc hbe.size _).trans hB3
     have ho4:Hid (w3.ownsRow w1.heap.size 5 1 v3 (bytesOf ([nodes,faulty,skew,jitter,drift,round,(ns:Int)] ++ slotsTo nd fr tq ns ++ [(nl:Int)] ++ linksN lf lt lb lq (k+1))).length ((bytesOf ([nodes,faulty,skew,jitter,drift,round,(ns:Int)] ++ slotsTo nd fr tq ns ++ [(nl:Int)] ++ linksN lf lt lb lq (k+1))).map (Value.int .u8))):=by
      show World.ownsRow _ _ _ _ _ _ _
      rw [linksN_succ,← List.append_assoc,bytesOf_append];exact ho3
     clear ho ho3 r0 r1 r2 r3
     go_wp2
     go_roundw
     case rel=>exact ⟨k+1,by omega,by go_num,ho4,hb4⟩
     case measure=>simp [intOf];omega
    ·subst hkk
     clear hk
     obtain ⟨x0,x1,x2,x3,x4,x5,x6,x7,x8,x9⟩:=hcc.below hbe
     clear x0 x1 x2 x3 x4 x5 x6 x7
     go_wp2_with fail
     refine (write_new w1.heap.size _ _ [frame,(nw:Int)] _ _ wr _ rfl rfl ho.out (by omega) (fun x hx=>MO.out x (by simp at hx ⊢;omega)) (Nat.le_trans (bytesOf_len _) (by simp [slotsTo_len,linksN_len];omega)) (by simp)).mono ?_
     rintro ev w6 ⟨v6,rfl,ho6,hB6,hz6⟩
     replace hB6:=hbe.trans hB6
     have ho6':Hid (w6.ownsRow w1.heap.size 5 1 v6 (bytesOf ([nodes,faulty,skew,jitter,drift,round,(ns:Int)] ++ slotsTo nd fr tq ns ++ [(nl:Int)] ++ linksN lf lt lb lq nl ++ [frame,(nw:Int)] ++ slotsTo wp wf wt 0)).length ((bytesOf ([nodes,faulty,skew,jitter,drift,round,(ns:Int)] ++ slotsTo nd fr tq ns ++ [(nl:Int)] ++ linksN lf lt lb lq nl ++ [frame,(nw:Int)] ++ slotsTo wp wf wt 0)).map (Value.int .u8))):=by
      show World.ownsRow _ _ _ _ _ _ _
      rw [← bytesOf_append] at ho6;simpa [slotsTo] using ho6
     clear ho ho6 x8 x9 hbe hbz hz6
     obtain ⟨x0,x1,x2,x3,x4,x5,x6,x7,x8,x9⟩:=hcc.below hB6
     clear x0 x1 x2 x3 x4 x5 x6 x7 x8
     go_wp2_with fail
     rename World=>wz
     go_loopw [5,92] (fun v t wr=>∃ k:Nat,k≤nw∧t=.int .i64 k∧Hid (wr.ownsRow w1.heap.size 5 1 v (bytesOf ([nodes,faulty,skew,jitter,drift,round,(ns:Int)] ++ slotsTo nd fr tq ns ++ [(nl:Int)] ++ linksN lf lt lb lq nl ++ [frame,(nw:Int)] ++ slotsTo wp wf wt k)).length ((bytesOf ([nodes,faulty,skew,jitter,drift,round,(ns:Int)] ++ slotsTo nd fr tq ns ++ [(nl:Int)] ++ linksN lf lt lb lq nl ++ [frame,(nw:Int)] ++ slotsTo wp wf wt k)).map (Value.int .u8)))∧Below w1.heap.size w1 wr) (fun _ t _=>nw - (intOf t).toNat)
     case atStart=>exact ⟨0,Nat.zero_le _,rfl,ho6',hB6⟩
     case round =>
      obtain ⟨k,hk,rfl,ho,hbe⟩:=hrel
      have hbz:=hbe.size
      rcases (show k<nw∨nw=k by omega) with hlt | hkk
      ·obtain ⟨b,off,rfl,hb,hcl⟩:=hw (by omega)
       obtain ⟨r0,r1,r2⟩:=hcl k hlt
       replace r0:=keep_cell r0 hbe
       replace r1:=keep_cell r1 hbe
       replace r2:=keep_cell r2 hbe
       have hbr:b<wr.heap.size:=lt_of_cell r0
       clear hcl
       go_wp2_with fail
       refine (write_new w1.heap.size _ _ [wp k,wf k,wt k] _ _ (wr.alloc (.cells #[.int .i64 (wp k),.int .i64 (wf k),.int .i64 (wt k)] 124)) (wr.heap.size+1) (by simp) rfl (owns_below ho.out ((Below.refl _ _).alloc (Nat.le_refl _) _)) (by simp;omega) (MW.out k hlt) (Nat.le_trans (bytesOf_len _) (by simp [slotsTo_len,linksN_len];omega)) (by simp)).mono ?_
       rintro ev w3 ⟨v3,rfl,ho3,hB3,hz3⟩
       have hb4:Below w1.heap.size w1 w3:=(hbe.alloc hbe.size _).trans hB3
       have ho4:Hid (w3.ownsRow w1.heap.size 5 1 v3 (bytesOf ([nodes,faulty,skew,jitter,drift,round,(ns:Int)] ++ slotsTo nd fr tq ns ++ [(nl:Int)] ++ linksN lf lt lb lq nl ++ [frame,(nw:Int)] ++ slotsTo wp wf wt (k+1))).length ((bytesOf ([nodes,faulty,skew,jitter,drift,round,(ns:Int)] ++ slotsTo nd fr tq ns ++ [(nl:Int)] ++ linksN lf lt lb lq nl ++ [frame,(nw:Int)] ++ slotsTo wp wf wt (k+1))).map (Value.int .u8))):=by
        show World.ownsRow _ _ _ _ _ _ _
        rw [slotsTo_succ,← List.append_assoc,bytesOf_append];exact ho3
       clear ho ho3 r0 r1 r2
       go_wp2
       go_roundw
       case rel=>exact ⟨k+1,by omega,by go_num,ho4,hb4⟩
       case measure=>simp [intOf];omega
      ·subst hkk
       clear hk
       have hbl:=bytesOf_len ([nodes,faulty,skew,jitter,drift,round,(ns:Int)] ++ slotsTo nd fr tq ns ++ [(nl:Int)] ++ linksN lf lt lb lq nl ++ [frame,(nw:Int)] ++ slotsTo wp wf wt nw)
       simp only [List.length_append,slotsTo_len,linksN_len,List.length_cons,List.length_nil] at hbl
       have hbp:1≤(bytesOf ([nodes,faulty,skew,jitter,drift,round,(ns:Int)] ++ slotsTo nd fr tq ns ++ [(nl:Int)] ++ linksN lf lt lb lq nl ++ [frame,(nw:Int)] ++ slotsTo wp wf wt nw)).length:=bytesOf_pos _ (by simp)
       obtain ⟨N,hN⟩:∃ N,(bytesOf ([nodes,faulty,skew,jitter,drift,round,(ns:Int)] ++ slotsTo nd fr tq ns ++ [(nl:Int)] ++ linksN lf lt lb lq nl ++ [frame,(nw:Int)] ++ slotsTo wp wf wt nw)).length=N:=⟨_,rfl⟩
       have hoN:=ho.out
       rw [hN] at hoN hbp hbl
       have HNL:Hid ((bytesOf ([nodes,faulty,skew,jitter,drift,round,(ns:Int)] ++ slotsTo nd fr tq ns ++ [(nl:Int)] ++ linksN lf lt lb lq nl ++ [frame,(nw:Int)] ++ slotsTo wp wf wt nw)).length=N):=hN
       obtain ⟨g1,cap1,rfl,hg1,hc1⟩:=owns_some hoN hbp
       have HON:Hid (World.ownsRow _ _ _ _ _ _ _):=hoN
       have hdec:decide ((2000:Int)<(N:Int))=false:=decide_eq_false (by omega)
       clear hc1 ho hN hoN
       go_wp2
       go_ret2
       refine ⟨_,rfl,?_,hV.trans (hbe.mono hV.size)⟩
       have e:planNums nodes faulty skew jitter drift round frame ns nl nw nd fr tq lf lt lb lq wp wf wt = [nodes,faulty,skew,jitter,drift,round,(ns:Int)] ++ slotsTo nd fr tq ns ++ [(nl:Int)] ++ linksN lf lt lb lq nl ++ [frame,(nw:Int)] ++ slotsTo wp wf wt nw:=rfl
       rw [e,HNL.out]
       exact owns_mono HON.out hV.size
end
end Go.Proofs.YthccoinonjoleaaGreatDoor
