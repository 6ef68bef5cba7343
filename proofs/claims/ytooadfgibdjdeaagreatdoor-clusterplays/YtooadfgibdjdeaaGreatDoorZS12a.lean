import Derived.Test.YtooadfgibdjdeaaGreatDoorZS11a
import Derived.Deep.AppendLies
import Derived.Deep.DeepCutAuto
import Derived.RegionTactic
namespace Go.Proofs.YtooadfgibdjdeaaGreatDoor
open Go.RowKit
set_option maxRecDepth 100000
set_option maxHeartbeats 16000000
section
def msgLk (mk:Option (Nat × Int × ByteArray)):Int:=match mk with | none=>-1 | some (k,_,_)=>k
def MsgIn (p:PlanN) (mk:Option (Nat × Int × ByteArray)):Prop:=∀ k q d,mk=some (k,q,d)→k<p.nl∧d.size≤40
def ClS.takeM (s:ClS) (p:PlanN) (mk:Option (Nat × Int × ByteArray)) (j:Nat):ClS:=match mk with | none=>s | some (k,q,d)=>if bitI (p.lt k) j=true then s.take1 k j q d else s
theorem takeB_self {q:Int} : takeB q q=false:=by
 by_cases h:0≤q∧q≤255
 ·rw [takeB_ahead h h.1 h.2]
  unfold aheadB
  have:(q - q+255) % 255=0:=by omega
  rw [this]
  simp
 ·exact takeB_low h
theorem take1_again (s:ClS) (k j:Nat) (q:Int) (d:ByteArray):(s.take1 k j q d).take1 k j q d=s.take1 k j q d:=by
 cases h:takeB (s.newest k j) q
 ·have e:s.take1 k j q d=s:=if_neg (by rw [h];decide)
  rw [e,e]
 ·have e:s.take1 k j q d=(s.setNew k j q).setPort k j (if (s.ports k j).length<16 then s.ports k j ++ [d] else s.ports k j):=if_pos h
  have e2:(s.take1 k j q d).newest k j=q:=by rw [e];exact if_pos ⟨rfl,rfl⟩
  have e3:takeB ((s.take1 k j q d).newest k j) q=false:=by rw [e2];exact takeB_self
  exact if_neg (by rw [e3];decide)
theorem takeM_again (s:ClS) (p:PlanN) (mk:Option (Nat × Int × ByteArray)) (j:Nat):(s.takeM p mk j).takeM p mk j=s.takeM p mk j:=by
 match mk with
 | none=>rfl
 | some (k,q,d) =>
  show (if bitI (p.lt k) j=true then ClS.take1 (if bitI (p.lt k) j=true then s.take1 k j q d else s) k j q d else (if bitI (p.lt k) j=true then s.take1 k j q d else s))=(if bitI (p.lt k) j=true then s.take1 k j q d else s)
  split
  ·exact take1_again s k j q d
  ·rfl
theorem takeM_nodes (s:ClS) (p:PlanN) (mk:Option (Nat × Int × ByteArray)) (j:Nat):(s.takeM p mk j).nodes=s.nodes:=by
 match mk with
 | none=>rfl
 | some (k,q,d) =>
  show (if bitI (p.lt k) j=true then s.take1 k j q d else s).nodes=s.nodes
  unfold ClS.take1
  split
  ·split <;> rfl
  ·rfl
section
variable {w:World} {O:List Nat} {C:Nat} {p:PlanN} {fa:Int} {cs:List Int} {s:ClS} {rd:Int} {B:Nat} {m:CMap}
theorem ctakeM (h:Cl w O C p fa cs s rd B m) (nd i mem:Int) (mk:Option (Nat × Int × ByteArray)) (j:Nat) (hj:j<p.n) (hm:MsgIn p mk) (hB:B≤999990) :
  Calls Tryz.prog 74 #[.pointer (some ⟨C,0,none⟩),frameV nd i mem (msgLk mk) (msgSeq mk) (msgDat mk),.int .i64 j] w fun e w'=>e=.returned (.tuple #[])∧∃ O',Foot O O' w w'∧Cl w' O' C p fa cs (s.takeM p mk j) rd (B+2) m:=by
 match mk with
 | none =>
  refine (ctake_none C nd i mem 0 ByteArray.empty j w).mono ?_
  rintro e w' ⟨he,hw⟩
  exact ⟨he,O,Foot.of_below hw,(h.below hw).more (by omega)⟩
 | some (k,q,d) =>
  obtain ⟨h1,h2⟩:=hm k q d rfl
  exact ctake_any h nd i mem q d j k hj h1 h2 hB
def cameB (sent:Bool) (l0 l1:Int) (j:Nat) (c:Nat):Bool:=sent && ((decide (1≤c) && !bitI l0 j) || (decide (2≤c) && !bitI l1 j))
def ClS.hearTo (s:ClS) (p:PlanN) (who:Nat) (mem:Int) (mk:Option (Nat × Int × ByteArray)) (sent:Bool) (l0 l1:Int):Nat→ClS
 | 0=>s
 | j+1 =>
  if j=who then s.hearTo p who mem mk sent l0 l1 j else
   (if cameB sent l0 l1 j 2=true then (s.hearTo p who mem mk sent l0 l1 j).takeM p mk j else s.hearTo p who mem mk sent l0 l1 j).setNode j ((s.nodes j).hears j p.n who (if cameB sent l0 l1 j 2=true then judgeV p.n (s.nodes j).t (tb mem) who mem else 0))
theorem hearTo_nodes {who:Nat} {mem:Int} {mk:Option (Nat × Int × ByteArray)} {sent:Bool} {l0 l1:Int} : ∀ j x,j≤x→(s.hearTo p who mem mk sent l0 l1 j).nodes x=s.nodes x:=by
 intro j
 induction j with
 | zero=>intro x _;rfl
 | succ j ih =>
  intro x hx
  show ClS.nodes (if j=who then s.hearTo p who mem mk sent l0 l1 j else (if cameB sent l0 l1 j 2=true then (s.hearTo p who mem mk sent l0 l1 j).takeM p mk j else s.hearTo p who mem mk sent l0 l1 j).setNode j _) x=s.nodes x
  split
  ·exact ih x (by omega)
  ·show (if x=j then _ else ClS.nodes (if cameB sent l0 l1 j 2=true then (s.hearTo p who mem mk sent l0 l1 j).takeM p mk j else s.hearTo p who mem mk sent l0 l1 j) x)=s.nodes x
   rw [if_neg (by omega)]
   split
   ·rw [takeM_nodes];exact ih x (by omega)
   ·exact ih x (by omega)
theorem cameB_zero (sent:Bool) (l0 l1:Int) (j:Nat):cameB sent l0 l1 j 0=false:=by unfold cameB;simp
theorem cameB_succ (sent:Bool) (l0 l1:Int) (j c:Nat) (hc:c<2):cameB sent l0 l1 j (c+1)=(cameB sent l0 l1 j c || (sent && !bitI (if c=0 then l0 else l1) j)):=by
 have:c=0∨c=1:=by omega
 rcases this with rfl | rfl
 ·unfold cameB;simp
 ·unfold cameB;cases sent <;> simp
def InCl (O:List Nat) (V wr:World) (C:Nat) (p:PlanN) (fa:Int) (cs:List Int) (s:ClS) (rd:Int) (B:Nat) (m:CMap):Prop:=∃ O',Foot O O' V wr∧Cl wr O' C p fa cs s rd B m
theorem InCl.box {V wr:World} (h:InCl O V wr C p fa cs s rd B m) {b:Nat} (hb:b<V.heap.size) (hn:b∉O) (i:Nat):wr.cell? ⟨b,i,none⟩=V.cell? ⟨b,i,none⟩:=by
 obtain ⟨_,h,_⟩:=h
 exact h.cell (p:=⟨b,i,none⟩) hb hn
theorem InCl.size {V wr:World} (h:InCl O V wr C p fa cs s rd B m):V.heap.size≤wr.heap.size:=by
 obtain ⟨_,h,_⟩:=h
 exact h.size
theorem InCl.base {V wr:World} (h:InCl O V wr C p fa cs s rd B m):CBase wr C p fa cs rd m:=by
 obtain ⟨_,_,h⟩:=h
 exact h.base
theorem InCl.below {V wr w':World} (h:InCl O V wr C p fa cs s rd B m) (k:Below wr.heap.size wr w'):InCl O V w' C p fa cs s rd B m:=by
 obtain ⟨O',h,c⟩:=h
 exact ⟨O',h.trans (Foot.of_below k),c.below k⟩
theorem InCl.drawn {V wr:World} (h:InCl O V wr C p fa cs s rd B m) (u:Nat):InCl O V (wr.drewN u) C p fa cs s rd B m:=h.below ⟨rfl,rfl,rfl,Nat.le_refl _,fun _ _=>rfl⟩
theorem InCl.more {V wr:World} {B':Nat} (h:InCl O V wr C p fa cs s rd B m) (hB:B≤B'):InCl O V wr C p fa cs s rd B' m:=by
 obtain ⟨O',h,c⟩:=h
 exact ⟨O',h,c.more hB⟩
theorem pidx0 (x y:Int) (w:World):(Instr.index 112 (.agg #[.int .i64 x,.int .i64 y]) (.int .i64 0)).run Tryz.prog w=.ok (.int .i64 x) w:=rfl
theorem pidx1 (x y:Int) (w:World):(Instr.index 112 (.agg #[.int .i64 x,.int .i64 y]) (.int .i64 1)).run Tryz.prog w=.ok (.int .i64 y) w:=rfl
theorem pidx (x y:Int) (c:Nat) (hc:c<2) (w:World):(Instr.index 112 (.agg #[.int .i64 x,.int .i64 y]) (.int .i64 c)).run Tryz.prog w=.ok (.int .i64 (if c=0 then x else y)) w:=by
 have:c=0∨c=1:=by omega
 rcases this with rfl | rfl
 ·exact pidx0 x y w
 ·exact pidx1 x y w
theorem ctakeI {V wr:World} (h:InCl O V wr C p fa cs s rd B m) (nd i mem:Int) (mk:Option (Nat × Int × ByteArray)) (j:Nat) (hj:j<p.n) (hm:MsgIn p mk) (hB:B≤999990) :
  Calls Tryz.prog 74 #[.pointer (some ⟨C,0,none⟩),frameV nd i mem (msgLk mk) (msgSeq mk) (msgDat mk),.int .i64 j] wr fun e w'=>e=.returned (.tuple #[])∧InCl O V w' C p fa cs (s.takeM p mk j) rd (B+2) m:=by
 obtain ⟨O',h,c⟩:=h
 refine (ctakeM c nd i mem mk j hj hm hB).mono ?_
 rintro e w' ⟨he,O'',h2,c2⟩
 exact ⟨he,O'',h.trans h2,c2⟩
theorem cjudgeI {V wr:World} (h:InCl O V wr C p fa cs s rd B m) (j:Nat) (hj:j<p.n) (hn:p.n≤16) (frm mem:Int) :
  Calls Tryz.prog 73 #[.pointer (some ⟨m.P j,0,none⟩),.int .i64 frm,.int .i64 mem] wr fun e w'=>e=.returned (.int .i64 (judgeV p.n (s.nodes j).t (tb mem) frm mem))∧InCl O V w' C p fa cs s rd B m:=by
 obtain ⟨O',h,c⟩:=h
 refine (pJudges_any (c.nod hj).1 frm mem hn).mono ?_
 rintro e w' ⟨he,q,rfl⟩
 exact ⟨he,InCl.drawn ⟨O',h,c⟩ q⟩
theorem chearI {V wr:World} (h:InCl O V wr C p fa cs s rd B m) (j:Nat) (hj:j<p.n) (hn:p.n≤16) (frm what:Int) (hB:B≤999990) :
  Calls Tryz.prog 75 #[.pointer (some ⟨m.P j,0,none⟩),.int .i64 frm,.int .i64 what] wr fun e w'=>e=.returned (.tuple #[])∧InCl O V w' C p fa cs (s.setNode j { t:=heT j p.n (s.nodes j).fz frm what (s.nodes j).t,g:=heG j p.n (s.nodes j).fz frm what (s.nodes j).g,b:=heB j p.n (s.nodes j).fz frm what (s.nodes j).b,fz:=(s.nodes j).fz }) rd (B+1) m:=by
 obtain ⟨O',h,c⟩:=h
 obtain ⟨n1,⟨⟨n2,n3⟩,n4,n5⟩,n6⟩:=c.nod hj
 refine (pHears_all n1 frm what hn n2 (by omega) n4 (by omega)).mono ?_
 rintro e w' ⟨he,q1,q2⟩
 obtain ⟨O'',h2,c2⟩:=n6 w' (B+1) { t:=heT j p.n (s.nodes j).fz frm what (s.nodes j).t,g:=heG j p.n (s.nodes j).fz frm what (s.nodes j).g,b:=heB j p.n (s.nodes j).fz frm what (s.nodes j).b,fz:=(s.nodes j).fz } q1 q2 (by
  unfold NodeIn heG heB
  simp only []
  constructor <;> split <;> omega) (Nat.le_succ _)
 exact ⟨he,O'',h.trans h2,c2⟩
theorem two_boxes (w:World) (a b c d e f x y:Value) (t u:TypeId) (V:World) (hV:V=(w.alloc (.cells #[a,b,c,d,e,f] t)).alloc (.cells #[x,y] u)) :
  (∀ (i:Nat) (v:Value),(#[a,b,c,d,e,f]:Array Value)[i]? = some v→V.cell? ⟨w.heap.size,i,none⟩=some v)∧(∀ (i:Nat) (v:Value),(#[x,y]:Array Value)[i]? = some v→V.cell? ⟨w.heap.size+1,i,none⟩=some v)∧Below w.heap.size w V∧V.heap.size=w.heap.size+2:=by
 subst hV
 refine ⟨fun i v hi=>?_,fun i v hi=>?_,((Below.refl _ _).alloc (Nat.le_refl _) _).alloc (by simp) _,by simp⟩
 ·rw [World.cell?_alloc_lt _ _ _ (by simp)]
  simp
  simpa using hi
 ·have e:w.heap.size+1=(w.alloc (.cells #[a,b,c,d,e,f] t)).heap.size:=by simp
  rw [e]
  simp
  simpa using hi
theorem chear_any (h:Cl w O C p fa cs s rd B m) (who:Nat) (i mem:Int) (mk:Option (Nat × Int × ByteArray)) (sent:Bool) (l0 l1:Int) (hwho:who<p.n) (hn:p.n≤16) (hm:MsgIn p mk) (hB:B≤999000) :
  Calls Tryz.prog 40 #[.pointer (some ⟨C,0,none⟩),frameV who i mem (msgLk mk) (msgSeq mk) (msgDat mk),.bool sent,.agg #[.int .i64 l0,.int .i64 l1]] w fun e w'=>e=.returned (.tuple #[])∧∃ O',Foot O O' w w'∧Cl w' O' C p fa cs (s.hearTo p who mem mk sent l0 l1 p.n) rd (B+5*p.n) m:=by
 have HM:Hid (MsgIn p mk):=hm
 have HT:Hid (∀ (V wr:World) (s:ClS) (B j:Nat),InCl O V wr C p fa cs s rd B m→j<p.n→B≤999990→Calls Tryz.prog 74 #[.pointer (some ⟨C,0,none⟩),.agg #[.int .i64 who,.int .i64 i,.int .i64 mem,.int .i64 (msgLk mk),.int .i64 (msgSeq mk),.string (msgDat mk)],.int .i64 j] wr fun e w'=>e=.returned (.tuple #[])∧InCl O V w' C p fa cs (s.takeM p mk j) rd (B+2) m):=fun V wr s B j h hj hB=>ctakeI h who i mem mk j hj hm hB
 clear hm
 unfold frameV
 generalize msgLk mk=lk at *
 generalize msgSeq mk=q at *
 generalize msgDat mk=d at *
 obtain ⟨V,hVe⟩:∃ V,V=(w.alloc (.cells #[.int .i64 who,.int .i64 i,.int .i64 mem,.int .i64 lk,.int .i64 q,.string d] 120)).alloc (.cells #[.int .i64 l0,.int .i64 l1] 112):=⟨_,rfl⟩
 obtain ⟨bx,by2,hBel,hsz⟩:=two_boxes w _ _ _ _ _ _ _ _ _ _ V hVe
 have HV0:Hid (Foot O O w V):=Foot.of_below hBel
 have hc:=h.below hBel
 have HI0:Hid (InCl O V V C p fa cs s rd B m):=⟨O,Foot.refl _ _,hc⟩
 have HX:Hid ((w.heap.size∉O∧w.heap.size+1∉O)∧(∀ (i':Nat) (v:Value),(#[.int .i64 who,.int .i64 i,.int .i64 mem,.int .i64 lk,.int .i64 q,.string d]:Array Value)[i']? = some v→V.cell? ⟨w.heap.size,i',none⟩=some v)∧(∀ (i':Nat) (v:Value),(#[.int .i64 l0,.int .i64 l1]:Array Value)[i']? = some v→V.cell? ⟨w.heap.size+1,i',none⟩=some v)∧V.heap.size=w.heap.size+2):=⟨⟨fun y=>Nat.lt_irrefl _ (h.lt _ y),fun y=>by have:=h.lt _ y;omega⟩,bx,by2,hsz⟩
 have c13:=hc.base.c13
 have hlC:=hc.base.lc
 have HN:Hid (p.n≤16∧who<p.n∧B≤999000):=⟨hn,hwho,hB⟩
 have hVe':=hVe.symm
 obtain ⟨n,hpn⟩:∃ n,p.n=n:=⟨_,rfl⟩
 have HPN:Hid (p.n=n):=hpn
 rw [hpn] at c13 hn hwho ⊢
 clear h hc hBel hVe bx by2 hpn hB
 go_enter Tryz.func40,Tryz.ntmps40
 go_wp2_with fail
 clear hVe' c13 hsz hlC HM
 go_loopw [18] (fun t wr=>∃ j:Nat,j≤n∧t=.int .i64 j∧Hid (InCl O V wr C p fa cs (s.hearTo p who mem mk sent l0 l1 j) rd (B+5*j) m)) (fun t _=>n - (intOf t).toNat)
 case atStart=>exact ⟨0,Nat.zero_le _,rfl,HI0⟩
 case round =>
  obtain ⟨j,hj,rfl,HI⟩:=hrel
  by_cases hlt:j<n
  ·have jj:(j:Int)<(n:Int):=by omega
   have cnd:=HI.out.base.nd j (by rw [HPN.out];exact hlt)
   have hnb:=HI.out.base.lx _ HI.out.base.ndX
   have hbw:w.heap.size<wr.heap.size:=by have:=HI.out.size;have:=HX.out.2.2.2;omega
   have hbw2:w.heap.size+1<wr.heap.size:=by have:=HI.out.size;have:=HX.out.2.2.2;omega
   have f0:wr.cell? ⟨w.heap.size,0,none⟩=some (.int .i64 who):=(HI.out.box (by have:=HX.out.2.2.2;omega) HX.out.1.1 0).trans (HX.out.2.1 0 _ rfl)
   have a0:wr.cell? ⟨w.heap.size+1,0,none⟩=some (.int .i64 l0):=(HI.out.box (by have:=HX.out.2.2.2;omega) HX.out.1.2 0).trans (HX.out.2.2.1 0 _ rfl)
   have a1:wr.cell? ⟨w.heap.size+1,1,none⟩=some (.int .i64 l1):=(HI.out.box (by have:=HX.out.2.2.2;omega) HX.out.1.2 1).trans (HX.out.2.2.1 1 _ rfl)
   have HLT:Hid (j<n):=hlt
   by_cases hwj:j=who
   ·have HI2:Hid (InCl O V wr C p fa cs (s.hearTo p who mem mk sent l0 l1 (j+1)) rd (B+5*(j+1)) m):=by
     have e:s.hearTo p who mem mk sent l0 l1 (j+1)=s.hearTo p who mem mk sent l0 l1 j:=if_pos hwj
     show InCl _ _ _ _ _ _ _ _ _ _ _
     rw [e]
     exact HI.out.more (by omega)
    subst hwj
    clear HI a0 a1
    go_wp2
    go_roundw
    case rel=>exact ⟨j+1,by omega,by go_num,HI2⟩
    case measure=>simp [intOf];omega
   ·have kw:((j:Int) == (who:Int))=false:=by simp;omega
    have HW:Hid (¬ j=who):=hwj
    clear hwj
    go_wp2_with fail
    clear f0 a0 a1 cnd kw
    go_loopw [10,28] (fun x t v=>∃ c:Nat,c≤2∧t=.int .i64 c∧x=.int .i64 (if cameB sent l0 l1 j c=true then judgeV p.n (s.nodes j).t (tb mem) who mem else 0)∧Hid (InCl O V v C p fa cs (if cameB sent l0 l1 j c=true then (s.hearTo p who mem mk sent l0 l1 j).takeM p mk j else s.hearTo p who mem mk sent l0 l1 j) rd (B+5*j+2*c) m)) (fun _ t _=>2 - (intOf t).toNat)
    case atStart =>
     refine ⟨0,by decide,rfl,?_,?_⟩
     ·rw [cameB_zero];rfl
     ·rw [cameB_zero];exact HI
    case round =>
     clear HI
     obtain ⟨c,hc,rfl,rfl,HJ⟩:=hrel
     have HJN:Hid ((if cameB sent l0 l1 j c=true then (s.hearTo p who mem mk sent l0 l1 j).takeM p mk j else s.hearTo p who mem mk sent l0 l1 j).nodes j=s.nodes j):=by
      show _=_
      split
      ·rw [takeM_nodes];exact hearTo_nodes j j (Nat.le_refl _)
      ·exact hearTo_nodes j j (Nat.le_refl _)
     by_cases hc2:c<2
     ·have hix:=pidx l0 l1 c hc2
      have cc2:(c:Int)<2:=by omega
      have HS:=cameB_succ sent l0 l1 j c hc2
      have HSU:Hid (cameB sent l0 l1 j (c+1)=(cameB sent l0 l1 j c || (sent && !bitI (if c=0 then l0 else l1) j))):=HS
      clear HS
      have HJ16:Hid (j≤16):=by show j≤16;omega
      generalize (if c=0 then l0 else l1)=lc at *
      have hhas:=fun v=>chas_any lc j HJ16.out v
      cases hs:sent && !bitI lc j
      ·have HE:Hid (cameB sent l0 l1 j (c+1)=cameB sent l0 l1 j c):=by show _=_;rw [HSU.out,hs,Bool.or_false]
       have HJ2:Hid (InCl O V wr C p fa cs (if cameB sent l0 l1 j (c+1)=true then (s.hearTo p who mem mk sent l0 l1 j).takeM p mk j else s.hearTo p who mem mk sent l0 l1 j) rd (B+5*j+2*(c+1)) m):=by
        show InCl _ _ _ _ _ _ _ _ _ _ _
        rw [HE.out]
        exact HJ.out.more (by omega)
       clear HJ HSU
       generalize hWH:(if cameB sent l0 l1 j c=true then judgeV p.n (s.nodes j).t (tb mem) who mem else 0)=WH
       have HWH:Hid (WH=(if cameB sent l0 l1 j (c+1)=true then judgeV p.n (s.nodes j).t (tb mem) who mem else 0)):=by show _=_;rw [HE.out];exact hWH.symm
       clear hWH HE HJN
       cases sent
       ·clear hhas hs
        go_wp2
        go_roundw
        case rel=>exact ⟨c+1,by omega,by go_num,by rw [HWH.out],HJ2⟩
        case measure=>simp [intOf];omega
       ·have hb2:bitI lc j=true:=by simpa using hs
        rw [hb2] at hhas
        clear hs hb2
        go_wp2_with fail
        refine (hhas _).mono ?_
        rintro e v1 ⟨rfl,hv⟩
        replace hv:=hv.symm
        subst hv
        go_wp2
        go_roundw
        case rel=>exact ⟨c+1,by omega,by go_num,by rw [HWH.out],HJ2⟩
        case measure=>simp [intOf];omega
      ·have hsent:sent=true:=by cases sent <;> simp_all
       have hb2:bitI lc j=false:=by cases sent <;> simp_all
       have HE:Hid (cameB sent l0 l1 j (c+1)=true):=by show _=_;rw [HSU.out,hs,Bool.or_true]
       rw [hb2] at hhas
       have f0:wr.cell? ⟨w.heap.size,0,none⟩=some (.int .i64 who):=(HJ.out.box (by have:=HX.out.2.2.2;omega) HX.out.1.1 0).trans (HX.out.2.1 0 _ rfl)
       have f2:wr.cell? ⟨w.heap.size,2,none⟩=some (.int .i64 mem):=(HJ.out.box (by have:=HX.out.2.2.2;omega) HX.out.1.1 2).trans (HX.out.2.1 2 _ rfl)
       have hbw3:w.heap.size<wr.heap.size:=by have:=HJ.out.size;have:=HX.out.2.2.2;omega
       have hjud:=cjudgeI HJ.out j (by rw [HPN.out];exact HLT.out) HN.out.1 who mem
       rw [HJN.out] at hjud
       have HTW:Hid ((if cameB sent l0 l1 j c=true then (s.hearTo p who mem mk sent l0 l1 j).takeM p mk j else s.hearTo p who mem mk sent l0 l1 j).takeM p mk j=(s.hearTo p who mem mk sent l0 l1 j).takeM p mk j):=by
        show _=_
        split
        ·exact takeM_again _ _ _ _
        ·rfl
       clear hs HSU
       generalize (if cameB sent l0 l1 j c=true then (s.hearTo p who mem mk sent l0 l1 j).takeM p mk j else s.hearTo p who mem mk sent l0 l1 j)=SC at *
       generalize (if cameB sent l0 l1 j c=true then judgeV p.n (s.nodes j).t (tb mem) who mem else 0)=WH at *
       obtain ⟨JV,hJV⟩:∃ JV,judgeV p.n (s.nodes j).t (tb mem) who mem=JV:=⟨_,rfl⟩
       have HJV:Hid (judgeV p.n (s.nodes j).t (tb mem) who mem=JV):=hJV
       rw [hJV] at hjud
       clear hJV HJN
       have HSE:Hid (sent=true):=hsent
       subst hsent
       go_wp2_with fail
       refine (hhas _).mono ?_
       rintro e v1 ⟨rfl,hv⟩
       replace hv:=hv.symm
       subst hv
       go_wp2_with fail
       refine hjud.mono ?_
       rintro e v1 ⟨rfl,hI1⟩
       have HI1:Hid (InCl O V v1 C p fa cs SC rd (B+5*j+2*c) m):=hI1
       have y:∀ (i':Nat) (v:Value),(#[.int .i64 who,.int .i64 i,.int .i64 mem,.int .i64 lk,.int .i64 q,.string d]:Array Value)[i']? = some v→v1.cell? ⟨w.heap.size,i',none⟩=some v:=fun i' v hv=>(hI1.box (by have:=HX.out.2.2.2;omega) HX.out.1.1 i').trans (HX.out.2.1 i' v hv)
       have g0:v1.cell? ⟨w.heap.size,0,none⟩=some (.int .i64 who):=y 0 _ rfl
       have g1:v1.cell? ⟨w.heap.size,1,none⟩=some (.int .i64 i):=y 1 _ rfl
       have g2:v1.cell? ⟨w.heap.size,2,none⟩=some (.int .i64 mem):=y 2 _ rfl
       have g3:v1.cell? ⟨w.heap.size,3,none⟩=some (.int .i64 lk):=y 3 _ rfl
       have g4:v1.cell? ⟨w.heap.size,4,none⟩=some (.int .i64 q):=y 4 _ rfl
       have g5:v1.cell? ⟨w.heap.size,5,none⟩=some (.string d):=y 5 _ rfl
       have hbw4:w.heap.size<v1.heap.size:=by have:=hI1.size;have:=HX.out.2.2.2;omega
       clear y hjud HJ hI1
       go_wp2_with fail
       refine (HT.out V v1 SC _ j HI1.out (by rw [HPN.out];exact HLT.out) (by have:=HN.out;omega)).mono ?_
       rintro e v2 ⟨rfl,hI2⟩
       have HI2:Hid (InCl O V v2 C p fa cs (if cameB true l0 l1 j (c+1)=true then (s.hearTo p who mem mk true l0 l1 j).takeM p mk j else s.hearTo p who mem mk true l0 l1 j) rd (B+5*j+2*(c+1)) m):=by
        show InCl _ _ _ _ _ _ _ _ _ _ _
        rw [HE.out,if_pos rfl,← HTW.out]
        exact hI2
       have HWH:Hid (JV=(if cameB true l0 l1 j (c+1)=true then judgeV p.n (s.nodes j).t (tb mem) who mem else 0)):=by show _=_;rw [HE.out,if_pos rfl];exact HJV.out.symm
       clear hI2 HI1 HTW HE g0 g1 g2 g3 g4 g5
       go_wp2
       go_roundw
       case rel=>exact ⟨c+1,by omega,by go_num,by rw [HWH.out],HI2⟩
       case measure=>simp [intOf];omega
     ·obtain rfl:c=2:=by omega
      have f0:wr.cell? ⟨w.heap.size,0,none⟩=some (.int .i64 who):=(HJ.out.box (by have:=HX.out.2.2.2;omega) HX.out.1.1 0).trans (HX.out.2.1 0 _ rfl)
      have hbw3:w.heap.size<wr.heap.size:=by have:=HJ.out.size;have:=HX.out.2.2.2;omega
      have HWE:Hid (∃ WH,(if cameB sent l0 l1 j 2=true then judgeV p.n (s.nodes j).t (tb mem) who mem else 0)=WH):=⟨_,rfl⟩
      have hhr:=chearI HJ.out j (by rw [HPN.out];exact HLT.out) HN.out.1 who (if cameB sent l0 l1 j 2=true then judgeV p.n (s.nodes j).t (tb mem) who mem else 0) (by have:=HN.out;omega)
      have HST:Hid (s.hearTo p who mem mk sent l0 l1 (j+1)=(if cameB sent l0 l1 j 2=true then (s.hearTo p who mem mk sent l0 l1 j).takeM p mk j else s.hearTo p who mem mk sent l0 l1 j).setNode j ((s.nodes j).hears j p.n who (if cameB sent l0 l1 j 2=true then judgeV p.n (s.nodes j).t (tb mem) who mem else 0))):=if_neg HW.out
      rw [HJN.out] at hhr
      generalize (if cameB sent l0 l1 j 2=true then judgeV p.n (s.nodes j).t (tb mem) who mem else 0)=WH at *
      clear HWE HJN HJ
      go_wp2_with fail
      refine hhr.mono ?_
      rintro e v1 ⟨rfl,hI1⟩
      have HI2:Hid (InCl O V v1 C p fa cs (s.hearTo p who mem mk sent l0 l1 (j+1)) rd (B+5*(j+1)) m):=by
       show InCl _ _ _ _ _ _ _ _ _ _ _
       rw [HST.out]
       exact hI1
      clear hI1 hhr HST
      go_wp2
      go_roundw
      case rel=>exact ⟨j+1,by omega,by go_num,HI2⟩
      case measure=>simp [intOf];omega
  ·have hjn:j=n:=by omega
   have HD:Hid (∃ O',Foot O O' w wr∧Cl wr O' C p fa cs (s.hearTo p who mem mk sent l0 l1 n) rd (B+5*n) m):=by
    obtain ⟨O',h1,h2⟩:=HI.out
    rw [hjn] at h2
    exact ⟨O',HV0.out.trans h1,h2⟩
   have kk:decide (j<n)=false:=decide_eq_false (by omega)
   clear hjn hlt HI
   go_wp2
   exact bodyPost_end (v:=.tuple #[]) (by simp [results,Tryz.results40,go_sem]) rfl ⟨rfl,HD.out⟩
end
end
section
theorem Tryz.infoPNode:(Tryz.prog.info? 147).map (fun i=>(i.zero,i.size,i.bytes))=some (some (.pointer none),1,8):=by kernel_rfl
theorem Tryz.infoCLink:(Tryz.prog.info? 137).map (fun i=>(i.zero,i.size,i.bytes))=some (some (.agg #[.int .i64 0,.pointer none,.slice none 0 0]),3,40):=by kernel_rfl
theorem owns_form3 {w:World} {base n:Nat} {e:TypeId} {v:Value} {xs:List Value} (h:w.ownsRow base e 3 v n xs):∃ a cap,v=.slice a n cap:=by
 rcases h.2 with ⟨e0,rfl⟩ | ⟨g,cap,cur,hv,_⟩
 ·exact ⟨none,0,e0⟩
 ·exact ⟨_,cap,hv⟩
theorem FilN.first {wz w0:World} {X0:List Nat} {C n:Nat} (z:∀ i,w0.frozen? ⟨C,i,none⟩=false) (c13:w0.cell? ⟨C,13,none⟩=some (.slice none 0 0)) (hC:wz.heap.size≤C∧C<w0.heap.size) (hX:∀ c,c∈X0→(wz.heap.size≤c∧c<w0.heap.size)∧c≠C):∃ Of,FilN w0 w0 wz.heap.size X0 Of C n (fun _=>0) (.slice none 0 0) 0:=by
 have hG:∀ i c,c∈(fun i:CIx=>if i=iB then [C] else if i=iX then X0 else []) i→(i=iB∧c=C)∨(i=iX∧c∈X0):=fun i c hc=>by
  by_cases h1:i=iB
  ·subst h1;exact .inl ⟨rfl,by simpa using hc⟩
  ·by_cases h2:i=iX
   ·subst h2;exact .inr ⟨rfl,by simpa using hc⟩
   ·simp only [if_neg h1,if_neg h2] at hc;simp at hc
 refine ⟨fun i=>if i=iB then [C] else if i=iX then X0 else [],⟨fun i c hc=>?_,fun i j hij c hc hn=>?_⟩,fun i c hc=>?_,rfl,rfl,fun i hi=>?_,fun _ _=>rfl,c13,z,⟨Nat.le_refl _,fun _ _=>rfl⟩,World.ownsRow_nil _ _ _ _,fun j hj=>absurd hj (Nat.not_lt_zero _),Below.refl _ _⟩
 ·rcases hG i c hc with ⟨_,y⟩ | ⟨_,y⟩
  ·omega
  ·exact (hX c y).1.2
 ·rcases hG i c hc with ⟨a,y⟩ | ⟨a,y⟩ <;> rcases hG j c hn with ⟨b,z⟩ | ⟨b,z⟩
  ·exact hij (a.trans b.symm)
  ·exact (hX c z).2 y
  ·exact (hX c y).2 z
  ·exact hij (a.trans b.symm)
 ·rcases hG i c hc with ⟨_,y⟩ | ⟨_,y⟩
  ·omega
  ·exact (hX c y).1.1
 ·by_cases h1:i=iB
  ·exact .inl h1
  ·by_cases h2:i=iX
   ·exact .inr (.inl h2)
   ·simp only [if_neg h1,if_neg h2] at hi;exact absurd rfl hi
def MadeLink (wr wx:World) (K:Nat) (p:PlanN) (MB:Nat):Prop :=
 ∃ N S' E' D' R' Q',LinkNew wr.heap.size wx N K p.n p.n (p.lt K) (p.lb K) (p.lq K) S' E' D' R' Q'∧Below wr.heap.size wr wx∧wr.heap.size≤MB∧MB<wx.heap.size ∧
  wx.cell? ⟨MB,0,none⟩=some (.int .i64 (p.lf K))∧wx.cell? ⟨MB,1,none⟩=some (.pointer (some ⟨S',0,none⟩))∧wx.cell? ⟨MB,2,none⟩=some (.slice (some ⟨E',0,none⟩) p.n p.n)
theorem MadeLink.after {wr V1 Va w1:World} {K n:Nat} {p:PlanN} {N:CIx→List Nat} {S' E':Nat} {D' R' Q':Nat→Nat} (hn:p.n=n) (hQ:Below wr.heap.size wr V1) (hVa:Below V1.heap.size V1 Va) (hB1:Below Va.heap.size Va w1) (hL:LinkNew Va.heap.size w1 N K n n (p.lt K) (p.lb K) (p.lq K) S' E' D' R' Q') {t:TypeId} :
  MadeLink wr (w1.alloc (.cells #[.int .i64 (p.lf K),.pointer (some ⟨S',0,none⟩),.slice (some ⟨E',0,none⟩) n n] t)) K p w1.heap.size:=by
 subst hn
 have s1:=hQ.size
 have s2:=hVa.size
 have s3:=hB1.size
 obtain ⟨r0,r1,r2,rB,rS⟩:=rbox3 w1 (.int .i64 (p.lf K)) (.pointer (some ⟨S',0,none⟩)) (.slice (some ⟨E',0,none⟩) p.n p.n) t
 have hk:Below wr.heap.size wr w1:=hQ.trans ((hVa.mono s1).trans (hB1.mono (by omega)))
 exact ⟨N,S',E',D',R',Q',(hL.same rB.size (fun c _ h2=>rB.block c h2)).low (by omega),hk.trans (rB.mono hk.size),hk.size,by omega,r0,r1,r2⟩
theorem MadeLink.before {wr V1 Va w1:World} {K n:Nat} {p:PlanN} {N:CIx→List Nat} {S' E':Nat} {D' R' Q':Nat→Nat} (hn:p.n=n) (hQ:Below wr.heap.size wr V1) (hVa:Below V1.heap.size V1 Va) (hs:Va.heap.size=V1.heap.size+1) (hB1:Below Va.heap.size Va w1) (hL:LinkNew Va.heap.size w1 N K n n (p.lt K) (p.lb K) (p.lq K) S' E' D' R' Q') {a b c:Value} (m0:w1.cell? ⟨V1.heap.size,0,none⟩=some a) (m1:w1.cell? ⟨V1.heap.size,1,none⟩=some b) (m2:w1.cell? ⟨V1.heap.size,2,none⟩=some c) :
  MadeLink wr (((w1.setCell ⟨V1.heap.size,0,none⟩ (.int .i64 (p.lf K))).setCell ⟨V1.heap.size,1,none⟩ (.pointer (some ⟨S',0,none⟩))).setCell ⟨V1.heap.size,2,none⟩ (.slice (some ⟨E',0,none⟩) n n)) K p V1.heap.size:=by
 subst hn
 have s1:=hQ.size
 have s3:=hB1.size
 have hT:Turns V1.heap.size V1.heap.size w1 (((w1.setCell ⟨V1.heap.size,0,none⟩ (.int .i64 (p.lf K))).setCell ⟨V1.heap.size,1,none⟩ (.pointer (some ⟨S',0,none⟩))).setCell ⟨V1.heap.size,2,none⟩ (.slice (some ⟨E',0,none⟩) p.n p.n)):=(((Turns.refl _ _ w1).set (p:=⟨V1.heap.size,0,none⟩) (.inl rfl) _).set (p:=⟨V1.heap.size,1,none⟩) (.inl rfl) _).set (p:=⟨V1.heap.size,2,none⟩) (.inl rfl) _
 have hk:Below wr.heap.size wr w1:=hQ.trans ((hVa.mono s1).trans (hB1.mono (by omega)))
 refine ⟨N,S',E',D',R',Q',(hL.same hT.size (fun c h1 h2=>hT.block c h2 (by omega) (by omega))).low (by omega),hk.trans (hT.below hk.size (by omega) (by omega)),s1,?_,?_,?_,?_⟩
 ·have:=hT.size;omega
 ·exact (cell_other (.inr (by decide))).trans ((cell_other (.inr (by decide))).trans (cell_set m0))
 ·exact (cell_other (.inr (by decide))).trans (cell_set ((cell_other (.inr (by decide))).trans m1))
 ·exact cell_set ((cell_other (.inr (by decide))).trans ((cell_other (.inr (by decide))).trans m2))
theorem cfill_any (C:Nat) (p:PlanN) (fa:Int) (cs:List Int) (cb ccap:Nat) (sa:Option Addr) (scap:Nat) (X0:List Nat) (la:Option Addr) (lcap:Nat) (wz w0:World) (hH:CHead w0 C p fa cs cb ccap sa scap X0) (z:∀ i,w0.frozen? ⟨C,i,none⟩=false) (c13:w0.cell? ⟨C,13,none⟩=some (.slice none 0 0)) (c14:w0.cell? ⟨C,14,none⟩=some (.slice none 0 0)) (hC:wz.heap.size≤C∧C<w0.heap.size) (hX:∀ c,c∈X0→(wz.heap.size≤c∧c<w0.heap.size)∧c≠C) (hb:Below wz.heap.size wz w0) (hl:Rows4 wz la p.nl p.lf p.lt p.lb p.lq) (hB:PlanB p) :
  Calls Tryz.prog 29 #[.pointer (some ⟨C,0,none⟩),.slice la p.nl lcap] w0 fun e w'=>e=.returned .nilIface∧Below wz.heap.size w0 w'∧∃ O m,Cl w' O C p fa cs ClS.start 0 1 m∧∀ c,c∈O→wz.heap.size≤c:=by
 obtain ⟨i0,hi,hz0,hz1,hz2⟩:=info_parts Tryz.infoPNode
 obtain ⟨i1,gi,gz0,gz1,gz2⟩:=info_parts Tryz.infoCLink
 have hn1:1≤p.n:=by have:=hB.n1;unfold PlanN.n;omega
 have hn16:p.n≤16:=by have:=hB.n2;unfold PlanN.n;omega
 have hnn:p.nodes=(p.n:Int):=by have:=hB.n1;unfold PlanN.n;omega
 have hnl:=hB.nl
 have c0:=hH.c0
 rw [hnn] at c0
 have HF0:=FilN.first (n:=p.n) z c13 hC hX
 have HN0:Hid (∃ Of P v,FilN w0 w0 wz.heap.size X0 Of C p.n P v 0):=by
  obtain ⟨Of,h⟩:=HF0
  exact ⟨Of,_,_,h⟩
 have hlC:=hC.2
 have HHD:Hid (CHead w0 C p fa cs cb ccap sa scap X0∧w0.cell? ⟨C,14,none⟩=some (.slice none 0 0)):=⟨hH,c14⟩
 have HZ:Hid (Below wz.heap.size wz w0∧Rows4 wz la p.nl p.lf p.lt p.lb p.lq):=⟨hb,hl⟩
 have HPB:Hid (PlanB p):=hB
 have HC:Hid (wz.heap.size≤C∧C<w0.heap.size):=hC
 have HNN:Hid (p.nodes=(p.n:Int)):=hnn
 clear hH z c13 c14 hC hX hb hl hB HF0 hnn
 obtain ⟨n,hpn⟩:∃ n,p.n=n:=⟨_,rfl⟩
 have HPN:Hid (p.n=n):=hpn
 rw [hpn] at c0 HN0 hn1 hn16
 obtain ⟨nl,hpl⟩:∃ nl,p.nl=nl:=⟨_,rfl⟩
 have HPL:Hid (p.nl=nl):=hpl
 rw [hpl] at hnl
 rw [hpl]
 clear hpn hpl
 go_enter Tryz.func29,Tryz.ntmps29
 go_wp2_with fail
 go_loopw [17] (fun t wr=>∃ I:Nat,I≤n∧t=.int .i64 I∧Hid (∃ Of P v,FilN w0 wr wz.heap.size X0 Of C n P v I)) (fun t _=>n - (intOf t).toNat)
 case atStart=>exact ⟨0,Nat.zero_le _,rfl,HN0⟩
 case round =>
  obtain ⟨I,hI,rfl,HI⟩:=hrel
  clear HN0
  by_cases hlt:I<n
  ·have ii:(I:Int)<(n:Int):=by omega
   obtain ⟨Of,P,v,hF⟩:=HI.out
   have y0:=(hF.kc 0 (by decide)).trans c0
   have hCw:C<wr.heap.size:=hF.fam.lt iB C (by rw [hF.ob];exact List.mem_cons_self)
   have HF:Hid (FilN w0 wr wz.heap.size X0 Of C n P v I):=hF
   clear hF HI
   go_wp2_with fail
   refine (pNew_good I n wr hn1 hn16 (by omega) ii).mono ?_
   rintro e w1 ⟨rfl,hp1,hb1⟩
   obtain ⟨a,cap,hv⟩:=owns_form HF.out.vo
   have HV:Hid (v=.slice a I cap):=hv
   have y13:=(hb1.cell (p:=⟨C,13,none⟩) hCw).trans HF.out.c13
   have x13:=(hb1.frozen (p:=⟨C,13,none⟩) hCw).trans (HF.out.z 13)
   rw [hv] at y13
   have hOwn:=owns_below HF.out.vo hb1
   rw [hv] at hOwn
   have hCw1:C<w1.heap.size:=Nat.lt_of_lt_of_le hCw hb1.size
   have HP1:Hid (Below wr.heap.size wr w1∧ProgNode w1 wr.heap.size I n (2 ^ n - 1) 1 0 false):=⟨hb1,hp1⟩
   have HI':Hid (I<n∧n≤16):=⟨hlt,hn16⟩
   clear y0 hb1 hp1 hv
   go_wp2_with (at_builtin;refine wpList_append_own_at _ rfl _ _ 87 rfl (C+1) 147 i0 (.pointer none) 1 8 Tryz.underlying87 hi hz0 hz1 hz2 rfl (by decide) (.slice a I cap) I _ rfl (hOwn.alloc _) ⟨w1.heap.size,0,none⟩ 1 1 [.pointer (some ⟨wr.heap.size,0,none⟩)] rfl rfl (cell_one_new _ _ _) (by simp [Value.oneCell']) (by unfold maxLen;omega) (by omega) (by simp;omega) ?_;apply Hid.out)
   unfold Hid
   intro v' w3 hown' hgrow _ hat
   obtain ⟨a',cap',rfl⟩:=owns_form hown'
   have hst:=HF.out.step HP1.out.1 HP1.out.2 ((Below.refl _ _).alloc (Nat.le_refl _) _) hown' (by rw [HV.out];exact hgrow) (by rw [HV.out];simpa using hat)
   have HST:Hid (∃ Of P v,FilN w0 (w3.setCell ⟨C,13,none⟩ (.slice a' (I+1) cap')) wz.heap.size X0 Of C n P v (I+1)):=by
    obtain ⟨Of',h'⟩:=hst
    exact ⟨Of',_,_,h'⟩
   have hne:some C≠(Value.slice a I cap).ownBlock:=fun e=>by
    have:=(hOwn.lt C e.symm).1;omega
   have hs3:=hgrow.size
   have hsa:(w1.alloc (.cells #[.pointer (some ⟨wr.heap.size,0,none⟩)] 147)).heap.size=w1.heap.size+1:=by simp
   have hA:Below w1.heap.size w1 (w1.alloc (.cells #[.pointer (some ⟨wr.heap.size,0,none⟩)] 147)):=(Below.refl _ _).alloc (Nat.le_refl _) _
   have q13:w3.cell? ⟨C,13,none⟩=some (.slice a I cap):=(World.cell?_of_block (a:=⟨C,13,none⟩) (hgrow.block C (by omega) hne)).trans ((hA.cell (p:=⟨C,13,none⟩) hCw1).trans y13)
   have r13:w3.frozen? ⟨C,13,none⟩=false:=(World.frozen?_of_block (a:=⟨C,13,none⟩) (hgrow.block C (by omega) hne)).trans ((hA.frozen (p:=⟨C,13,none⟩) hCw1).trans x13)
   have hC3:C<w3.heap.size:=by omega
   clear hst hne hs3 hsa hA hown' hgrow hat hOwn y13 x13
   go_wp2
   go_roundw
   case rel=>exact ⟨I+1,by omega,by go_num,HST⟩
   case measure=>simp [intOf];omega
  ·have hIn:I=n:=by omega
   have kj:decide (I<n)=false:=decide_eq_false (by omega)
   obtain ⟨Of,P,v,hF⟩:=HI.out
   rw [hIn] at hF
   have hF':=hF
   rw [← HPN.out] at hF'
   obtain ⟨nb,ncap,Of',hv,hnd,hK0⟩:=hF'.done (by rw [HPN.out];exact hn1) HHD.out.2 (fun _=>0) (fun _=>0) (fun _ _=>0) (fun _ _=>0) (fun _ _=>0)
   have HK0:Hid (∃ Of S E D R Q u,FilK wr wr wz.heap.size X0 Of C nb p P S E D R Q u 0):=⟨_,_,_,_,_,_,_,hK0⟩
   have HB0:Hid (Below wz.heap.size w0 wr):=hF.bel
   have HHN:Hid (CHead wr C p fa cs cb ccap sa scap X0):=HHD.out.1.keep (fun i hi=>hF.kc i (by omega)) hF.kx
   have y0:=(hF.kc 0 (by decide)).trans c0
   have H13:Hid (wr.cell? ⟨C,13,none⟩=some (.slice (some ⟨nb,0,none⟩) p.n ncap)∧∀ j,j<p.n→wr.cell? ⟨nb,j,none⟩=some (.pointer (some ⟨P j,0,none⟩))):=⟨by rw [hF.c13,hv],hnd⟩
   have hCr:C<wr.heap.size:=hF.fam.lt iB C (by rw [hF.ob];exact List.mem_cons_self)
   clear hF hF' hv hnd hK0 hIn hlt HI HHD c0 hI
   obtain ⟨wn,hwn⟩:∃ x,x=wr:=⟨wr,rfl⟩
   subst hwn
   go_wp2_with fail
   go_loopw [46] (fun t wk=>∃ K:Nat,K≤nl∧t=.int .i64 K∧Hid (∃ Of S E D R Q u,FilK wn wk wz.heap.size X0 Of C nb p P S E D R Q u K)) (fun t _=>nl - (intOf t).toNat)
   case atStart=>exact ⟨0,Nat.zero_le _,rfl,HK0⟩
   case round =>
    obtain ⟨K,hK,rfl,HI⟩:=hrel
    clear HK0
    by_cases hlt:K<nl
    ·have kk:(K:Int)<(nl:Int):=by omega
     obtain ⟨Of,S,E,D,R,Q,u,hF⟩:=HI.out
     obtain ⟨b,off,hla,hbz,hc⟩:=HZ.out.2 (by rw [HPL.out];omega)
     subst hla
     obtain ⟨x0,x1,x2,x3⟩:=hc K (by rw [HPL.out];exact hlt)
     have hBz:Below wz.heap.size wz wr:=HZ.out.1.trans (HB0.out.trans hF.bel)
     have y0':=(hBz.cell (p:=⟨b,off+K*4,none⟩) hbz).trans x0
     have y1':=(hBz.cell (p:=⟨b,off+K*4+1,none⟩) hbz).trans x1
     have y2':=(hBz.cell (p:=⟨b,off+K*4+2,none⟩) hbz).trans x2
     have y3':=(hBz.cell (p:=⟨b,off+K*4+3,none⟩) hbz).trans x3
     have hbw:b<wr.heap.size:=Nat.lt_of_lt_of_le hbz hBz.size
     have hCw:C<wr.heap.size:=hF.fam.lt iB C (by rw [hF.ob];simp)
     have yc0:=(hF.kc 0 (by decide)).trans y0
     obtain ⟨⟨q0,q1,q2,q3⟩,qB,qS⟩:=box4 wr (.int .i64 (p.lf K)) (.int .i64 (p.lt K)) (.int .i64 (p.lb K)) (.int .i64 (p.lq K)) 105
     obtain ⟨l1,l2,⟨l3,l4⟩,l5,l6⟩:=HPB.out.link K (by rw [HPL.out];exact hlt)
     have yc1:=(qB.cell (p:=⟨C,0,none⟩) hCw).trans yc0
     have hCv:C<(wr.alloc (.cells #[.int .i64 (p.lf K),.int .i64 (p.lt K),.int .i64 (p.lb K),.int .i64 (p.lq K)] 105)).heap.size:=by rw [qS];omega
     have hwv:wr.heap.size<(wr.alloc (.cells #[.int .i64 (p.lf K),.int .i64 (p.lt K),.int .i64 (p.lb K),.int .i64 (p.lq K)] 105)).heap.size:=by rw [qS];omega
     have hnw:=fun v=>newLink_any K n (p.lf K) (p.lt K) (p.lb K) (p.lq K) v hn16 ⟨⟨l3,by omega⟩,l5,l6⟩
     have HQB:Hid _:=qB
     have HF:Hid (FilK wn wr wz.heap.size X0 Of C nb p P S E D R Q u K):=hF
     clear x0 x1 x2 x3 hc hF HI hBz l1 l2 l3 l4 l5 l6 qB qS
     go_wp2_with fail
     clear y0' y1' y2' y3' yc0
     generalize (wr.alloc (.cells #[.int .i64 (p.lf K),.int .i64 (p.lt K),.int .i64 (p.lb K),.int .i64 (p.lq K)] 105))=V1 at *
     have hQ:∀ o,Below V1.heap.size V1 (V1.alloc o):=fun o=>(Below.refl _ _).alloc (Nat.le_refl _) _
     have t0:=fun o=>((hQ o).cell (p:=⟨wr.heap.size,0,none⟩) hwv).trans q0
     have t1:=fun o=>((hQ o).cell (p:=⟨wr.heap.size,1,none⟩) hwv).trans q1
     have t2:=fun o=>((hQ o).cell (p:=⟨wr.heap.size,2,none⟩) hwv).trans q2
     have t3:=fun o=>((hQ o).cell (p:=⟨wr.heap.size,3,none⟩) hwv).trans q3
     have t4:=fun o=>((hQ o).cell (p:=⟨C,0,none⟩) hCv).trans yc1
     have HQ:Hid _:=hQ
     clear hQ
     go_cut [10,11] (fun mv ev wx=>ev=.nilIface∧∃ MB,mv=.pointer (some ⟨MB,0,none⟩)∧Hid (MadeLink wr wx K p MB))
     case first =>
      go_region_with (go_at_call 66;refine (hnw _).mono ?_;rintro e w1 ⟨hB1,N,S',E',D',R',Q',rfl,hL⟩;try (have m0:w1.cell? ⟨V1.heap.size,0,none⟩=some (.int .i64 0):=(hB1.cell (p:=⟨V1.heap.size,0,none⟩) (by simp)).trans (by simp);have m1:w1.cell? ⟨V1.heap.size,1,none⟩=some (.pointer none):=(hB1.cell (p:=⟨V1.heap.size,1,none⟩) (by simp)).trans (by simp);have m2:w1.cell? ⟨V1.heap.size,2,none⟩=some (.slice none 0 0):=(hB1.cell (p:=⟨V1.heap.size,2,none⟩) (by simp)).trans (by simp);have z0:w1.frozen? ⟨V1.heap.size,0,none⟩=false:=(hB1.frozen (p:=⟨V1.heap.size,0,none⟩) (by simp)).trans (by simp);have z1:w1.frozen? ⟨V1.heap.size,1,none⟩=false:=(hB1.frozen (p:=⟨V1.heap.size,1,none⟩) (by simp)).trans (by simp);have z2:w1.frozen? ⟨V1.heap.size,2,none⟩=false:=(hB1.frozen (p:=⟨V1.heap.size,2,none⟩) (by simp)).trans (by simp);have hlw:V1.heap.size<w1.heap.size:=(by have:=hB1.size;simp at this;omega)))
      all_goals go_wp2_with fail
      all_goals go_meet
      all_goals refine ⟨rfl,_,rfl,?_⟩
      all_goals unfold Hid
      all_goals repeat apply MadeLink.drew
      all_goals first
       | exact MadeLink.after HPN.out HQB.out (Below.refl _ _).drew hB1 hL
       | exact MadeLink.after HPN.out HQB.out (Below.refl _ _) hB1 hL
       | exact MadeLink.after HPN.out HQB.out (Below.refl _ _).drew.drew hB1 hL
       | exact MadeLink.before HPN.out HQB.out ((Below.refl _ _).alloc (Nat.le_refl _) _).drew (by simp) hB1 hL m0 m1 m2
       | exact MadeLink.before HPN.out HQB.out ((Below.refl _ _).alloc (Nat.le_refl _) _) (by simp) hB1 hL m0 m1 m2
       | exact MadeLink.before HPN.out HQB.out ((Below.refl _ _).alloc (Nat.le_refl _) _).drew.drew (by simp) hB1 hL m0 m1 m2
       | exact MadeLink.before HPN.out HQB.out ((Below.refl _ _).drew.alloc (Nat.le_refl _) _).drew (by simp) hB1 hL m0 m1 m2
       | exact MadeLink.before HPN.out HQB.out ((Below.refl _ _).drew.alloc (Nat.le_refl _) _) (by simp) hB1 hL m0 m1 m2
     case rest =>
      obtain ⟨rfl,MB,rfl,HML⟩:=hcut
      clear t0 t1 t2 t3 t4 q0 q1 q2 q3 hnw yc1 hCv hwv HQ HQB
      obtain ⟨N,S',E',D',R',Q',hL,hk1,hMB,hMl,r0,r1,r2⟩:=HML.out
      obtain ⟨LF,hLF⟩:∃ LF,p.lf K=LF:=⟨_,rfl⟩
      rw [hLF] at r0
      rw [HPN.out] at r2
      obtain ⟨a,cap,hu⟩:=owns_form3 HF.out.uo
      have y14:=(hk1.cell (p:=⟨C,14,none⟩) hCw).trans HF.out.c14
      have x14:=(hk1.frozen (p:=⟨C,14,none⟩) hCw).trans (HF.out.z 14)
      rw [hu] at y14
      have hOwn:=owns_below HF.out.uo hk1
      rw [hu] at hOwn
      have hs1:=hk1.size
      have hCw2:C<wc.heap.size:=by omega
      have HL:Hid (LinkNew wr.heap.size wc N K p.n p.n (p.lt K) (p.lb K) (p.lq K) S' E' D' R' Q'∧p.lf K=LF∧u=.slice a K cap∧Below wr.heap.size wr wc):=⟨hL,hLF,hu,hk1⟩
      have hMC:MB≠C:=by omega
      have hAl:∀ o,Below wc.heap.size wc (wc.drew.alloc o):=fun o=>(Below.refl _ _).drew.alloc (Nat.le_refl _) _
      have r0a:=fun o=>((hAl o).cell (p:=⟨MB,0,none⟩) hMl).trans r0
      have r1a:=fun o=>((hAl o).cell (p:=⟨MB,1,none⟩) hMl).trans r1
      have r2a:=fun o=>((hAl o).cell (p:=⟨MB,2,none⟩) hMl).trans r2
      have y14a:=fun o=>((hAl o).cell (p:=⟨C,14,none⟩) hCw2).trans y14
      have hOwn2:wc.drew.ownsRow (C+1) 137 3 (.slice a K cap) K (triCells (fun k=>.int .i64 (p.lf k)) (fun k=>.pointer (some ⟨S k,0,none⟩)) (fun k=>.slice (some ⟨E k,0,none⟩) p.n p.n) K):=hOwn
      have HQ3:Hid (∀ gq cq w3,w3.ownsRow (C+1) 137 3 (.slice (some ⟨gq,0,none⟩) (K+1) cq) (K+1) (triCells (fun k=>.int .i64 (p.lf k)) (fun k=>.pointer (some ⟨S k,0,none⟩)) (fun k=>.slice (some ⟨E k,0,none⟩) p.n p.n) K ++ [.int .i64 LF,.pointer (some ⟨S',0,none⟩),.slice (some ⟨E',0,none⟩) n n])→(wc.drew.alloc (.cells #[.int .i64 LF,.pointer (some ⟨S',0,none⟩),.slice (some ⟨E',0,none⟩) n n] 137)).grownBy w3 (Value.slice a K cap).ownBlock→((Value.slice a K cap).ownBlock=some gq∨gq=wc.heap.size+1)→(w3.cell? ⟨C,14,none⟩=some (.slice a K cap)∧w3.frozen? ⟨C,14,none⟩=false∧C<w3.heap.size)∧(w3.cell? ⟨MB,0,none⟩=some (.int .i64 LF)∧w3.cell? ⟨MB,1,none⟩=some (.pointer (some ⟨S',0,none⟩))∧w3.cell? ⟨MB,2,none⟩=some (.slice (some ⟨E',0,none⟩) n n))∧∃ Of S E D R Q u,FilK wn (w3.setCell ⟨C,14,none⟩ (.slice (some ⟨gq,0,none⟩) (K+1) cq)) wz.heap.size X0 Of C nb p P S E D R Q u (K+1)):=by
       intro gq cq w3 hown' hgrow hat
       have hA:=hAl (.cells #[.int .i64 LF,.pointer (some ⟨S',0,none⟩),.slice (some ⟨E',0,none⟩) n n] 137)
       have hsa:(wc.drew.alloc (.cells #[.int .i64 LF,.pointer (some ⟨S',0,none⟩),.slice (some ⟨E',0,none⟩) n n] 137)).heap.size=wc.heap.size+1:=by simp
       have hs3:=hgrow.size
       have hne:some C≠(Value.slice a K cap).ownBlock:=fun e=>by
        have:=(hOwn.lt C e.symm).1;omega
       have hneM:some MB≠(Value.slice a K cap).ownBlock:=fun e=>by
        have g:=HF.out.fam.lt iB MB (by rw [HF.out.ob,hu,← e];simp)
        omega
       have cM:∀ i,w3.cell? ⟨MB,i,none⟩=wc.cell? ⟨MB,i,none⟩:=fun i=>(World.cell?_of_block (a:=⟨MB,i,none⟩) (hgrow.block MB (by omega) hneM)).trans (hA.cell (p:=⟨MB,i,none⟩) hMl)
       refine ⟨⟨(World.cell?_of_block (a:=⟨C,14,none⟩) (hgrow.block C (by omega) hne)).trans ((hA.cell (p:=⟨C,14,none⟩) hCw2).trans y14),(World.frozen?_of_block (a:=⟨C,14,none⟩) (hgrow.block C (by omega) hne)).trans ((hA.frozen (p:=⟨C,14,none⟩) hCw2).trans x14),by omega⟩,⟨(cM 0).trans r0,(cM 1).trans r1,(cM 2).trans r2⟩,?_⟩
       have hst:=HF.out.step (u':=.slice (some ⟨gq,0,none⟩) (K+1) cq) hk1 hL (Nat.le_refl _) hA (by rw [hLF];simpa only [HPN.out] using hown') (by rw [hu];exact hgrow) (by
        rw [hu]
        rcases hat with y | y
        ·exact .inl y.symm
        ·exact .inr (by rw [hsa,← y];rfl))
       obtain ⟨Of',h'⟩:=hst
       exact ⟨Of',_,_,_,_,_,_,h'⟩
      clear hL hLF hu hk1 HML hMB HL hAl hOwn HF
      go_wp2_with fail
      refine wp_region_noPanic ?_
      refine wp_region_held_drew (S:=fun u=>u.cell? ⟨MB,0,none⟩=some (.int .i64 LF)∧u.cell? ⟨MB,1,none⟩=some (.pointer (some ⟨S',0,none⟩))∧u.cell? ⟨MB,2,none⟩=some (.slice (some ⟨E',0,none⟩) n n)) (by kernel_rfl) ⟨r0,r1,r2⟩ (fun hHeld=>?_)
      refine tk 0 hHeld ?_
      refine tk 1 hHeld ?_
      refine tk 2 hHeld ?_
      refine tk 3 hHeld ?_
      refine tk 5 hHeld ?_
      refine rd2 4 6 (fun Kq hK=>?_) fun Kq hK=>?_
      ·go_simp
       refine kp hK (fun hHeld=>?_) ⟨r0,r1,r2⟩
       clear hK Kq
       refine rdy 6 fun Kq hK=>?_
       go_simp
       refine kp hK (fun hHeld=>?_) ⟨r0a _,r1a _,r2a _⟩
       clear hK Kq
       refine rdy 7 fun Kq hK=>?_
       (refine step_append_lies _ (by rfl) _ _ _ (by rfl) (C+1) 137 i1 (.agg #[.int .i64 0,.pointer none,.slice none 0 0]) 3 40 Tryz.underlying88 gi gz0 gz1 gz2 rfl (by decide) (.slice a K cap) K _ (by rfl) (hOwn2.alloc _) ⟨wc.heap.size,0,none⟩ 1 1 [.int .i64 LF,.pointer (some ⟨S',0,none⟩),.slice (some ⟨E',0,none⟩) n n] (by rfl) rfl (row_cells wc.drew #[.int .i64 LF,.pointer (some ⟨S',0,none⟩),.slice (some ⟨E',0,none⟩) n n] 137) (by simp [Value.oneCell']) (by decide) (by unfold maxLen;omega) (by omega) (by simp;omega) (wc.heap.size+1) (by simp) ?_;intro gq cq w3 hown' hgrow hat _;have hQ3:=HQ3.out gq cq w3 hown' hgrow hat;clear hown' hgrow hat;obtain ⟨⟨y14c,x14c,hC3⟩,⟨s0,s1,s2⟩,hst⟩:=hQ3;have HST:Hid _:=hst;clear hst)
       refine kp hK (fun hHeld=>?_) ⟨s0,s1,s2⟩
       clear hK Kq
       refine tk 8 hHeld ?_
       refine tk 9 hHeld ?_
       refine rdy 10 fun Kq hK=>?_
       go_simp
       refine kp hK (fun hHeld=>?_) ⟨(cell_other (.inl hMC)).trans s0,(cell_other (.inl hMC)).trans s1,(cell_other (.inl hMC)).trans s2⟩
       clear hK Kq
       refine dn ?_
       refine NoPanic.normal ?_
       clear y14c x14c s0 s1 s2 r0 r1 r2 r0a r1a r2a y14 x14 y14a HQ3
       go_wp2
       go_roundw
       case rel=>exact ⟨K+1,by omega,by go_num,HST⟩
       case measure=>simp [intOf];omega
      ·go_simp
       refine kp hK (fun hHeld=>?_) ⟨r0a _,r1a _,r2a _⟩
       clear hK Kq
       refine rdy 4 fun Kq hK=>?_
       go_simp
       refine kp hK (fun hHeld=>?_) ⟨r0a _,r1a _,r2a _⟩
       clear hK Kq
       refine rdy 7 fun Kq hK=>?_
       (refine step_append_lies _ (by rfl) _ _ _ (by rfl) (C+1) 137 i1 (.agg #[.int .i64 0,.pointer none,.slice none 0 0]) 3 40 Tryz.underlying88 gi gz0 gz1 gz2 rfl (by decide) (.slice a K cap) K _ (by rfl) (hOwn2.alloc _) ⟨wc.heap.size,0,none⟩ 1 1 [.int .i64 LF,.pointer (some ⟨S',0,none⟩),.slice (some ⟨E',0,none⟩) n n] (by rfl) rfl (row_cells wc.drew #[.int .i64 LF,.pointer (some ⟨S',0,none⟩),.slice (some ⟨E',0,none⟩) n n] 137) (by simp [Value.oneCell']) (by decide) (by unfold maxLen;omega) (by omega) (by simp;omega) (wc.heap.size+1) (by simp) ?_;intro gq cq w3 hown' hgrow hat _;have hQ3:=HQ3.out gq cq w3 hown' hgrow hat;clear hown' hgrow hat;obtain ⟨⟨y14c,x14c,hC3⟩,⟨s0,s1,s2⟩,hst⟩:=hQ3;have HST:Hid _:=hst;clear hst)
       refine kp hK (fun hHeld=>?_) ⟨s0,s1,s2⟩
       clear hK Kq
       refine tk 8 hHeld ?_
       refine tk 9 hHeld ?_
       refine rdy 10 fun Kq hK=>?_
       go_simp
       refine kp hK (fun hHeld=>?_) ⟨(cell_other (.inl hMC)).trans s0,(cell_other (.inl hMC)).trans s1,(cell_other (.inl hMC)).trans s2⟩
       clear hK Kq
       refine dn ?_
       refine NoPanic.normal ?_
       clear y14c x14c s0 s1 s2 r0 r1 r2 r0a r1a r2a y14 x14 y14a HQ3
       go_wp2
       go_roundw
       case rel=>exact ⟨K+1,by omega,by go_num,HST⟩
       case measure=>simp [intOf];omega
    ·have hKn:K=nl:=by omega
     have kj:decide (K<nl)=false:=decide_eq_false (by omega)
     obtain ⟨Of,S,E,D,R,Q,u,hF⟩:=HI.out
     have HD:Hid (Below wz.heap.size w0 wr∧∃ O m,Cl wr O C p fa cs ClS.start 0 1 m∧∀ c,c∈O→wz.heap.size≤c):=by
      refine ⟨HB0.out.trans hF.bel,?_⟩
      rw [hKn,← HPL.out] at hF
      exact hF.whole H13.out.1 H13.out.2 HHN.out
     clear hF HI hKn hlt
     go_wp2
     go_ret
     exact ⟨rfl,HD.out⟩
end
end Go.Proofs.YtooadfgibdjdeaaGreatDoor
