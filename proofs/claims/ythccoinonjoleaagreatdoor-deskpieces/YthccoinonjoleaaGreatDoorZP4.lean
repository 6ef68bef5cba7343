import Derived.Test.YthccoinonjoleaaGreatDoorZP3
import Derived.BigQuiet
import Derived.Deep.Draws
import Derived.Deep.LoopGhost
import Derived.Deep.QuietTactic
import Derived.Laws.BitsAllLaws
import Derived.RegionTactic
import Derived.WalkKit
import Derived.WalkLawsBesides
import Derived.WalkSpells
namespace Go.Proofs.YthccoinonjoleaaGreatDoor
open Go.RowKit
set_option maxRecDepth 100000
set_option maxHeartbeats 16000000
section
structure CluOps2 (Clu:World→List Nat→Nat→PlanN→Int→List Int→ClS→Int→Nat→Prop):Prop where
 clocks:∀ {w:World} {O:List Nat} {C:Nat} {p:PlanN} {fa:Int} {cs:List Int} {s:ClS} {rd:Int} {T:Nat},Clu w O C p fa cs s rd T →
  Calls Tryz.prog 56 #[.pointer (some ⟨C,0,none⟩)] w fun e w'=>∃ a cap,e=.returned (.slice a cs.length cap)∧IntRow w' a cs∧Below w.heap.size w w'
 members:∀ {w:World} {O:List Nat} {C:Nat} {p:PlanN} {fa:Int} {cs:List Int} {s:ClS} {rd:Int} {T:Nat} (j:Nat),Clu w O C p fa cs s rd T→j<p.n →
  Calls Tryz.prog 59 #[.pointer (some ⟨C,0,none⟩),.int .i64 j] w fun e w'=>e=.returned (.tuple #[.int .i64 (bitsV (s.nodes j).t p.n),.bool (s.nodes j).fz,.nilIface])∧Below w.heap.size w w'
 members_bad:∀ {w:World} {O:List Nat} {C:Nat} {p:PlanN} {fa:Int} {cs:List Int} {s:ClS} {rd:Int} {T:Nat} (j:Int),Clu w O C p fa cs s rd T→¬ (0≤j∧j<p.nodes) →
  Calls Tryz.prog 59 #[.pointer (some ⟨C,0,none⟩),.int .i64 j] w fun e w'=>e=.returned (.tuple #[.int .i64 0,.bool false,errV 2])∧Below w.heap.size w w'
end
section
theorem pow17 (n:Nat) (h:n≤16):1≤(2:Int) ^ n∧(2:Int) ^ n≤65536:=by
 have:n=0∨n=1∨n=2∨n=3∨n=4∨n=5∨n=6∨n=7∨n=8∨n=9∨n=10∨n=11∨n=12∨n=13∨n=14∨n=15∨n=16:=by omega
 rcases this with rfl | rfl | rfl | rfl | rfl | rfl | rfl | rfl | rfl | rfl | rfl | rfl | rfl | rfl | rfl | rfl | rfl <;> decide
theorem cbit_any (k:Nat) (hk:k≤16) (w:World):Calls Tryz.prog 73 #[.int .i64 k] w fun e w'=>e=.returned (.int .i64 (2 ^ k))∧w'=w:=by
 have p:=pow17 k hk
 go_enter Tryz.func73,Tryz.ntmps73
 go_wp2
 go_ret
 exact ⟨rfl,rfl⟩
theorem chas_any (x:Int) (j:Nat) (hj:j≤16) (w:World):Calls Tryz.prog 90 #[.int .i64 x,.int .i64 j] w fun e w'=>e=.returned (.bool (bitI x j))∧w'=w:=by
 have p:=pow17 j hj
 have hb:=bit_and x (j:=j) (by omega)
 have HB:=cbit_any j hj w
 generalize (2:Int) ^ j=T at *
 go_enter Tryz.func90,Tryz.ntmps90
 go_wp2_with fail
 refine HB.mono ?_
 rintro e w1 ⟨rfl,h⟩
 replace h:=h.symm
 subst h
 clear HB
 go_wp2
 go_ret
 exact ⟨rfl,rfl⟩
theorem Tryz.makesFunc9 (fn:Fn) (first cap:Array Value) (w:World):(Instr.makeFunc fn first cap).run Tryz.prog w=.ok (.func fn first cap) w:=rfl
theorem ccut_any (most:Int) (w:World):Calls Tryz.prog 113 #[.int .i64 most] w fun e w'=>e=.returned (.func (.func 148) #[] #[.pointer (some ⟨w.heap.size,0,none⟩)])∧w'=w.alloc (.cells #[.int .i64 most] 3):=by
 have hmf:=Tryz.makesFunc9
 go_enter Tryz.func113,Tryz.ntmps113
 go_wp2
 go_ret
 exact ⟨rfl,rfl⟩
theorem lt_of_cell9 {w:World} {X i:Nat} {v:Value} (h:w.cell? ⟨X,i,none⟩=some v):X<w.heap.size:=by
 rcases Nat.lt_or_ge X w.heap.size with g | g
 ·exact g
 ·simp [World.cell?,Array.getElem?_eq_none g] at h
theorem ccut1_any (x most:Int) (B:Nat) (h0:0≤most) (h1:most≤1099511627776) (w:World) (hc:w.cell? ⟨B,0,none⟩=some (.int .i64 most)) :
  Calls Tryz.prog 148 #[.int .i64 x,.pointer (some ⟨B,0,none⟩)] w fun e w'=>e=.returned (.int .i64 (cutV x most))∧w'=w:=by
 have hl:B<w.heap.size:=lt_of_cell9 hc
 unfold cutV
 by_cases k1:x < -most
 ·rw [show max (-most) (min most x) = -most by omega]
  go_enter Tryz.func148,Tryz.ntmps148
  go_wp2
  all_goals go_ret
  all_goals first | exact ⟨rfl,rfl⟩ | exact ⟨(by show Ending.returned (.int .i64 (min (max x (-most)) most))=Ending.returned (.int .i64 _);congr 2;omega),rfl⟩ | exact ⟨(by congr 2;omega),rfl⟩
 ·have k1':=decide_eq_false k1
  by_cases k2:most<x
  ·rw [show max (-most) (min most x)=most by omega]
   go_enter Tryz.func148,Tryz.ntmps148
   go_wp2
   all_goals go_ret
   all_goals first | exact ⟨rfl,rfl⟩ | exact ⟨(by show Ending.returned (.int .i64 (min (max x (-most)) most))=Ending.returned (.int .i64 _);congr 2;omega),rfl⟩ | exact ⟨(by congr 2;omega),rfl⟩
  ·rw [show max (-most) (min most x)=x by omega]
   have k2':=decide_eq_false k2
   go_enter Tryz.func148,Tryz.ntmps148
   go_wp2
   all_goals go_ret
   all_goals first | exact ⟨rfl,rfl⟩ | exact ⟨(by show Ending.returned (.int .i64 (min (max x (-most)) most))=Ending.returned (.int .i64 _);congr 2;omega),rfl⟩ | exact ⟨(by congr 2;omega),rfl⟩
def tooFarB (x:Int):Bool:=decide (x < -274877906944∨274877906944<x)
theorem ctooFar_any (x:Int) (w:World):Calls Tryz.prog 77 #[.int .i64 x] w fun e w'=>e=.returned (.bool (tooFarB x))∧Below w.heap.size w w':=by
 have HC:=ccut_any 274877906944 w
 have H1:=ccut1_any x 274877906944 w.heap.size (by decide) (by decide) (w.alloc (.cells #[.int .i64 274877906944] 3)) (by simp)
 have hb:Below w.heap.size w (w.alloc (.cells #[.int .i64 274877906944] 3)):=(Below.refl _ _).alloc (Nat.le_refl _) _
 have HB:Hid _:=hb
 clear hb
 have he:(cutV x 274877906944 != x)=tooFarB x:=by
  unfold cutV tooFarB
  by_cases h:x < -274877906944∨274877906944<x
  ·rw [decide_eq_true h];simp;omega
  ·rw [decide_eq_false h];simp;omega
 generalize cutV x 274877906944=y at *
 generalize tooFarB x=b at *
 go_enter Tryz.func77,Tryz.ntmps77
 go_wp2_with fail
 refine HC.mono ?_
 rintro e w1 ⟨rfl,rfl⟩
 go_wp2_with fail
 refine H1.mono ?_
 rintro e w1 ⟨rfl,rfl⟩
 go_wp2
 go_ret
 exact ⟨rfl,HB.out⟩
def FirstFar (l:List Int) (i:Int):Prop :=
 (i = -1∧∀ j,j<l.length→tooFarB (l.getD j 0)=false)∨∃ k:Nat,k<l.length∧i=k∧tooFarB (l.getD k 0)=true
theorem FirstFar.is {l:List Int} {i:Int} (h:FirstFar l i):decide (0≤i)=l.any tooFarB:=by
 rcases h with ⟨rfl,h⟩ | ⟨k,hk,rfl,h⟩
 ·rw [decide_eq_false (by omega)]
  symm
  rw [Bool.eq_false_iff]
  intro h2
  obtain ⟨x,hx,h3⟩:=List.any_eq_true.1 h2
  obtain ⟨j,hj,rfl⟩:=List.getElem_of_mem hx
  have:=h j hj
  simp [List.getD,hj] at this
  rw [this] at h3
  cases h3
 ·rw [decide_eq_true (by omega)]
  symm
  refine List.any_eq_true.2 ⟨l[k],List.getElem_mem hk,?_⟩
  simpa [List.getD,hk] using h
theorem cfind_any (a:Option Addr) (cap n:Nat) (l:List Int) (hl:l.length=n) (w:World) (hr:IntRow w a l) (hn:n≤1000) :
  Calls Tryz.prog 112 #[.slice a n cap,.func (.func 77) #[] #[]] w fun e w'=>∃ i,e=.returned (.int .i64 i)∧FirstFar l i∧Below w.heap.size w w':=by
 have HR:Hid (IntRow w a l):=hr
 have HL:Hid (l.length=n):=hl
 clear hr hl
 go_enter Tryz.func112,Tryz.ntmps112
 go_wp2_with fail
 go_loopw [8] (fun t wr=>∃ k:Nat,k≤n∧t=.int .i64 k∧Hid (∀ j,j<k→tooFarB (l.getD j 0)=false)∧Hid (Below w.heap.size w wr)) (fun t _=>n - (intOf t).toNat)
 case atStart=>exact ⟨0,Nat.zero_le _,rfl,fun j hj=>absurd hj (Nat.not_lt_zero _),Below.refl _ _⟩
 case round =>
  obtain ⟨k,hk,rfl,h0,hbe⟩:=hrel
  by_cases hlt:k<n
  ·obtain ⟨b,off,rfl,hb,hc⟩:=HR.out (by have:=HL.out;omega)
   have y0:=(hbe.out.cell (p:=⟨b,off+k,none⟩) hb).trans (hc k (by have:=HL.out;omega))
   clear hc
   have hz:b<wr.heap.size:=Nat.lt_of_lt_of_le hb hbe.out.size
   have kk:(k:Int)<(n:Int):=by omega
   have hlk:=ctooFar_any (l.getD k 0) wr
   have HLT:Hid (k<n):=hlt
   by_cases hit:tooFarB (l.getD k 0)=true
   ·rw [hit] at hlk
    have HHit:Hid (FirstFar l k):=.inr ⟨k,(by have:=HL.out;omega),rfl,hit⟩
    clear hit
    generalize l.getD k 0=P at *
    go_wp2_with fail
    refine hlk.mono ?_
    rintro e w1 ⟨rfl,hw1⟩
    have HB1:Hid (Below w.heap.size w w1):=hbe.out.trans (hw1.mono hbe.out.size)
    clear hlk hw1 y0
    go_wp2
    go_ret
    exact ⟨_,rfl,HHit.out,HB1.out⟩
   ·have hit2:tooFarB (l.getD k 0)=false:=by simpa using hit
    rw [hit2] at hlk
    have HN:Hid (∀ j,j<k+1→tooFarB (l.getD j 0)=false):=fun j hj=>by
     rcases Nat.lt_or_ge j k with q | q
     ·exact h0.out j q
     ·obtain rfl:j=k:=by omega
      exact hit2
    clear hit hit2 h0
    generalize l.getD k 0=P at *
    go_wp2_with fail
    refine hlk.mono ?_
    rintro e w1 ⟨rfl,hw1⟩
    have HB1:Hid (Below w.heap.size w w1):=hbe.out.trans (hw1.mono hbe.out.size)
    clear hlk hw1 y0
    go_wp2
    go_roundw
    case rel=>exact ⟨k+1,by omega,by go_num,HN,HB1⟩
    case measure=>simp [intOf];omega
  ·have hkn:k=n:=by omega
   have HM:Hid (FirstFar l (-1)):=.inl ⟨rfl,fun j hj=>h0.out j (by have:=HL.out;omega)⟩
   have kk:decide (k<n)=false:=decide_eq_false (by omega)
   clear hkn hlt
   go_wp2
   go_ret
   exact ⟨_,rfl,HM.out,hbe.out⟩
theorem cfar_any (a:Option Addr) (cap n:Nat) (l:List Int) (hl:l.length=n) (w:World) (hr:IntRow w a l) (hn:n≤1000) :
  Calls Tryz.prog 76 #[.slice a n cap,.func (.func 77) #[] #[]] w fun e w'=>e=.returned (.bool (l.any tooFarB))∧Below w.heap.size w w':=by
 have HF:=cfind_any a cap n l hl w hr hn
 clear hr hl
 obtain ⟨B,hB⟩:∃ B,l.any tooFarB=B:=⟨_,rfl⟩
 have HB:Hid (l.any tooFarB=B):=hB
 rw [hB]
 clear hB
 go_enter Tryz.func76,Tryz.ntmps76
 go_wp2_with fail
 refine HF.mono ?_
 rintro e w1 ⟨i,rfl,hi,hb⟩
 have he:=hi.is
 rw [HB.out] at he
 clear hi HF
 go_wp2
 go_ret
 exact ⟨rfl,hb⟩
end
section
def RoundsIn (w:World) (a:Option Addr) (n:Nat) (R:Nat→RoundN) (A:Nat→RoundAt):Prop :=
 0<n→∃ b off,a=some ⟨b,off,none⟩∧b<w.heap.size∧∀ j,j<n→(w.cell? ⟨b,off+j*4,none⟩=some (.slice (A j).la (R j).nL (A j).lc)∧w.cell? ⟨b,off+j*4+1,none⟩=some (.slice (A j).ra (R j).nR (A j).rc)∧w.cell? ⟨b,off+j*4+2,none⟩=some (.slice (A j).da (R j).drifts.length (A j).dc)∧w.cell? ⟨b,off+j*4+3,none⟩=some (.slice (A j).ma (R j).modes.length (A j).mc))∧(R j).In (A j) w
theorem RoundsIn.below {w w':World} {a:Option Addr} {n:Nat} {R:Nat→RoundN} {A:Nat→RoundAt} (h:RoundsIn w a n R A) (hb:Below w.heap.size w w'):RoundsIn w' a n R A:=by
 intro hn
 obtain ⟨b,off,e,hl,hc⟩:=h hn
 refine ⟨b,off,e,Nat.lt_of_lt_of_le hl hb.size,fun j hj=>⟨⟨?_,?_,?_,?_⟩,(hc j hj).2.below hb⟩⟩
 ·exact (hb.cell (p:=⟨b,off+j*4,none⟩) hl).trans (hc j hj).1.1
 ·exact (hb.cell (p:=⟨b,off+j*4+1,none⟩) hl).trans (hc j hj).1.2.1
 ·exact (hb.cell (p:=⟨b,off+j*4+2,none⟩) hl).trans (hc j hj).1.2.2.1
 ·exact (hb.cell (p:=⟨b,off+j*4+3,none⟩) hl).trans (hc j hj).1.2.2.2
def SaysIn (w:World) (a:Option Addr) (n:Nat) (K:Nat→Int) (R:Nat→RoundN) (A:Nat→RoundAt):Prop :=
 0<n→∃ b off,a=some ⟨b,off,none⟩∧b<w.heap.size∧∀ j,j<n→(w.cell? ⟨b,off+j*5,none⟩=some (.int .i64 (K j))∧w.cell? ⟨b,off+j*5+1,none⟩=some (.slice (A j).la (R j).nL (A j).lc)∧w.cell? ⟨b,off+j*5+2,none⟩=some (.slice (A j).ra (R j).nR (A j).rc)∧w.cell? ⟨b,off+j*5+3,none⟩=some (.slice (A j).da (R j).drifts.length (A j).dc)∧w.cell? ⟨b,off+j*5+4,none⟩=some (.slice (A j).ma (R j).modes.length (A j).mc))∧(R j).In (A j) w
theorem SaysIn.below {w w':World} {a:Option Addr} {n:Nat} {K:Nat→Int} {R:Nat→RoundN} {A:Nat→RoundAt} (h:SaysIn w a n K R A) (hb:Below w.heap.size w w'):SaysIn w' a n K R A:=by
 intro hn
 obtain ⟨b,off,e,hl,hc⟩:=h hn
 refine ⟨b,off,e,Nat.lt_of_lt_of_le hl hb.size,fun j hj=>⟨⟨?_,?_,?_,?_,?_⟩,(hc j hj).2.below hb⟩⟩
 ·exact (hb.cell (p:=⟨b,off+j*5,none⟩) hl).trans (hc j hj).1.1
 ·exact (hb.cell (p:=⟨b,off+j*5+1,none⟩) hl).trans (hc j hj).1.2.1
 ·exact (hb.cell (p:=⟨b,off+j*5+2,none⟩) hl).trans (hc j hj).1.2.2.1
 ·exact (hb.cell (p:=⟨b,off+j*5+3,none⟩) hl).trans (hc j hj).1.2.2.2.1
 ·exact (hb.cell (p:=⟨b,off+j*5+4,none⟩) hl).trans (hc j hj).1.2.2.2.2
theorem foldl_max_ge (l:List Int):∀ x,x≤l.foldl max x:=by
 induction l with
 | nil=>intro x;exact Int.le_refl _
 | cons a l ih =>
  intro x
  have:=ih (max x a)
  simp only [List.foldl_cons]
  omega
theorem foldl_min_le (l:List Int):∀ x,l.foldl min x≤x:=by
 induction l with
 | nil=>intro x;exact Int.le_refl _
 | cons a l ih =>
  intro x
  have:=ih (min x a)
  simp only [List.foldl_cons]
  omega
theorem spreadL_pos (l:List Int):0≤spreadL l:=by
 have h1:=foldl_max_ge l (l.headD 0)
 have h2:=foldl_min_le l (l.headD 0)
 unfold spreadL
 omega
end
section
def on1 (x:Int):Int:=IntKind.u64.wrap (bits .and .u64 (x / 2) 6148914691236517205+bits .and .u64 x 6148914691236517205)
def on2 (x:Int):Int:=IntKind.u64.wrap (bits .and .u64 (x / 4) 3689348814741910323+bits .and .u64 x 3689348814741910323)
def on3 (x:Int):Int:=bits .and .u64 (IntKind.u64.wrap (x / 16+x)) 1085102592571150095
def on4 (x:Int):Int:=IntKind.u64.wrap (x+x / 256)
def on5 (x:Int):Int:=IntKind.u64.wrap (x+x / 65536)
def on6 (x:Int):Int:=IntKind.u64.wrap (x+x / 4294967296)
def on7 (x:Int):Int:=bits .and .i64 (wrap64 x) 127
def onesV (x:Int):Int:=on7 (on6 (on5 (on4 (on3 (on2 (on1 x))))))
theorem u64_in (y:Int):0≤IntKind.u64.wrap y∧IntKind.u64.wrap y≤18446744073709551615:=by
 simp [IntKind.wrap,IntKind.bits,IntKind.signed];omega
theorem and64_in (y z:Int):0≤bits .and .u64 y z∧bits .and .u64 y z≤18446744073709551615:=u64_in _
theorem ones_any (x:Int) (h01:0≤x∧x≤18446744073709551615) (w:World):Calls Tryz.prog 72 #[.int .u64 x] w fun e w'=>e=.returned (.int .i64 (onesV x))∧w'=w:=by
 obtain ⟨h0,h1⟩:=h01
 have HE:Hid (onesV x=on7 (on6 (on5 (on4 (on3 (on2 (on1 x))))))):=rfl
 have e1:IntKind.u64.wrap (bits .and .u64 (x / 2) 6148914691236517205+bits .and .u64 x 6148914691236517205)=on1 x:=rfl
 have b1:0≤on1 x∧on1 x≤18446744073709551615:=u64_in _
 generalize on1 x=y1 at *
 have e2:IntKind.u64.wrap (bits .and .u64 (y1 / 4) 3689348814741910323+bits .and .u64 y1 3689348814741910323)=on2 y1:=rfl
 have b2:0≤on2 y1∧on2 y1≤18446744073709551615:=u64_in _
 generalize on2 y1=y2 at *
 have e3:bits .and .u64 (IntKind.u64.wrap (y2 / 16+y2)) 1085102592571150095=on3 y2:=rfl
 have b3:0≤on3 y2∧on3 y2≤18446744073709551615:=and64_in _ _
 generalize on3 y2=y3 at *
 have e4:IntKind.u64.wrap (y3+y3 / 256)=on4 y3:=rfl
 have b4:0≤on4 y3∧on4 y3≤18446744073709551615:=u64_in _
 generalize on4 y3=y4 at *
 have e5:IntKind.u64.wrap (y4+y4 / 65536)=on5 y4:=rfl
 have b5:0≤on5 y4∧on5 y4≤18446744073709551615:=u64_in _
 generalize on5 y4=y5 at *
 have e6:IntKind.u64.wrap (y5+y5 / 4294967296)=on6 y5:=rfl
 have b6:0≤on6 y5∧on6 y5≤18446744073709551615:=u64_in _
 generalize on6 y5=y6 at *
 have e7:bits .and .i64 (wrap64 y6) 127=on7 y6:=rfl
 generalize on7 y6=y7 at *
 rw [HE.out]
 go_enter Tryz.func72,Tryz.ntmps72
 go_wp2
 go_ret
 exact ⟨rfl,rfl⟩
def pcN:Nat→Nat→Nat
 | 0,_=>0
 | d+1,x=>x % 2+pcN d (x / 2)
theorem pcN_top:∀ (d x:Nat),pcN (d+1) x=pcN d x+x / 2 ^ d % 2:=by
 intro d
 induction d with
 | zero=>intro x;show x % 2+0=0+x / 1 % 2;rw [Nat.div_one];omega
 | succ d ih =>
  intro x
  show x % 2+pcN (d+1) (x / 2)=x % 2+pcN d (x / 2)+_
  rw [ih (x / 2),Nat.div_div_eq_div_mul,Nat.pow_succ,Nat.mul_comm 2]
  omega
def onN (x:Nat):Nat :=
 let n1:=((x / 2) &&& 6148914691236517205)+(x &&& 6148914691236517205)
 let n2:=((n1 / 4) &&& 3689348814741910323)+(n1 &&& 3689348814741910323)
 let n3:=(n2 / 16+n2) &&& 1085102592571150095
 let n4:=n3+n3 / 256
 let n5:=n4+n4 / 65536
 let n6:=n5+n5 / 4294967296
 n6 &&& 127
def onL (x:Nat):Nat:=(fun n1=>(fun n2=>(fun n3=>(fun n4=>(fun n5=>Nat.land (Nat.add n5 (Nat.div n5 4294967296)) 127) (Nat.add n4 (Nat.div n4 65536))) (Nat.add n3 (Nat.div n3 256))) (Nat.land (Nat.add (Nat.div n2 16) n2) 1085102592571150095)) (Nat.add (Nat.land (Nat.div n1 4) 3689348814741910323) (Nat.land n1 3689348814741910323))) (Nat.add (Nat.land (Nat.div x 2) 6148914691236517205) (Nat.land x 6148914691236517205))
def onChk:Nat→Nat→Nat→Bool
 | 0,x,c=>Nat.beq (onL x) c
 | d+1,x,c=>cond (onChk d (Nat.mul 2 x) c) (onChk d (Nat.succ (Nat.mul 2 x)) (Nat.succ c)) false
theorem onChk_all:onChk 16 0 0=true:=by kernel_rfl
theorem onChk_at:∀ d b c,onChk d b c=true→∀ x,x / 2 ^ d=b→onL x=c+pcN d x:=by
 intro d
 induction d with
 | zero =>
  intro b c h x hx
  rw [Nat.pow_zero,Nat.div_one] at hx
  subst hx
  exact Nat.eq_of_beq_eq_true h
 | succ d ih =>
  intro b c h x hx
  have h2:onChk d (2*b) c=true∧onChk d (2*b+1) (c+1)=true:=by
   have h':cond (onChk d (2*b) c) (onChk d (2*b+1) (c+1)) false=true:=h
   cases q:onChk d (2*b) c
   ·rw [q] at h';cases h'
   ·rw [q] at h';exact ⟨rfl,h'⟩
  have e:x / 2 ^ (d+1)=x / 2 ^ d / 2:=by rw [Nat.pow_succ,Nat.div_div_eq_div_mul]
  rw [e] at hx
  rw [pcN_top]
  rcases Nat.mod_two_eq_zero_or_one (x / 2 ^ d) with q | q
  ·rw [q,ih (2*b) c h2.1 x (by omega)]
   omega
  ·rw [q,ih (2*b+1) (c+1) h2.2 x (by omega)]
   omega
theorem onN_is {x:Nat} (h:x<65536):onN x=pcN 16 x:=by
 have:=onChk_at 16 0 0 onChk_all x (Nat.div_eq_of_lt h)
 rw [Nat.zero_add] at this
 exact this
theorem wrapU {n:Nat} (h:n<18446744073709551616):IntKind.u64.wrap (n:Int)=(n:Int):=by
 simp [IntKind.wrap,IntKind.bits,IntKind.signed];omega
theorem onesV_nat {x:Nat} (h:x<65536):onesV x=(onN x:Nat):=by
 have a1:((x / 2) &&& 6148914691236517205)≤x / 2:=Nat.and_le_left
 have a2:(x &&& 6148914691236517205)≤x:=Nat.and_le_left
 have c1:on1 x=((((x / 2) &&& 6148914691236517205)+(x &&& 6148914691236517205):Nat):Int):=by
  unfold on1
  rw [show ((x:Int) / 2)=((x / 2:Nat):Int) by omega,show (6148914691236517205:Int)=((6148914691236517205:Nat):Int) from rfl,u64_and_nat _ _ (by omega) (by decide),u64_and_nat _ _ (by omega) (by decide),← Int.natCast_add]
  exact wrapU (by omega)
 unfold onesV onN
 rw [c1]
 have hn1:(x / 2 &&& 6148914691236517205)+(x &&& 6148914691236517205)≤131072:=by omega
 generalize ((x / 2) &&& 6148914691236517205)+(x &&& 6148914691236517205)=n1 at *
 have b1:((n1 / 4) &&& 3689348814741910323)≤n1 / 4:=Nat.and_le_left
 have b2:(n1 &&& 3689348814741910323)≤n1:=Nat.and_le_left
 have c2:on2 n1=((((n1 / 4) &&& 3689348814741910323)+(n1 &&& 3689348814741910323):Nat):Int):=by
  unfold on2
  rw [show ((n1:Int) / 4)=((n1 / 4:Nat):Int) by omega,show (3689348814741910323:Int)=((3689348814741910323:Nat):Int) from rfl,u64_and_nat _ _ (by omega) (by decide),u64_and_nat _ _ (by omega) (by decide),← Int.natCast_add]
  exact wrapU (by omega)
 rw [c2]
 simp only []
 have hn2:(n1 / 4 &&& 3689348814741910323)+(n1 &&& 3689348814741910323)≤262144:=by omega
 generalize ((n1 / 4) &&& 3689348814741910323)+(n1 &&& 3689348814741910323)=n2 at *
 have d1:((n2 / 16+n2) &&& 1085102592571150095)≤n2 / 16+n2:=Nat.and_le_left
 have c3:on3 n2=(((n2 / 16+n2) &&& 1085102592571150095:Nat):Int):=by
  unfold on3
  rw [show ((n2:Int) / 16+n2)=((n2 / 16+n2:Nat):Int) by omega,wrapU (by omega),show (1085102592571150095:Int)=((1085102592571150095:Nat):Int) from rfl,u64_and_nat _ _ (by omega) (by decide)]
 rw [c3]
 generalize (n2 / 16+n2) &&& 1085102592571150095=n3 at *
 have c4:on4 n3=((n3+n3 / 256:Nat):Int):=by
  unfold on4
  rw [show ((n3:Int)+n3 / 256)=((n3+n3 / 256:Nat):Int) by omega]
  exact wrapU (by omega)
 rw [c4]
 obtain ⟨n4,hn4⟩:∃ n4,n3+n3 / 256=n4:=⟨_,rfl⟩
 rw [hn4]
 have c5:on5 n4=((n4+n4 / 65536:Nat):Int):=by
  unfold on5
  rw [show ((n4:Int)+n4 / 65536)=((n4+n4 / 65536:Nat):Int) by omega]
  exact wrapU (by omega)
 rw [c5]
 obtain ⟨n5,hn5⟩:∃ n5,n4+n4 / 65536=n5:=⟨_,rfl⟩
 rw [hn5]
 have c6:on6 n5=((n5+n5 / 4294967296:Nat):Int):=by
  unfold on6
  rw [show ((n5:Int)+n5 / 4294967296)=((n5+n5 / 4294967296:Nat):Int) by omega]
  exact wrapU (by omega)
 rw [c6]
 obtain ⟨n6,hn6⟩:∃ n6,n5+n5 / 4294967296=n6:=⟨_,rfl⟩
 rw [hn6]
 unfold on7
 rw [show wrap64 ((n6:Nat):Int)=((n6:Nat):Int) by unfold wrap64;omega,show (127:Int)=((127:Nat):Int) from rfl,i64_and_nat _ _ (by omega) (by decide)]
theorem pcN_count:∀ (n x:Nat),(List.range n).countP (bitI (x:Int))=pcN n x:=by
 intro n
 induction n with
 | zero=>intro x;rfl
 | succ n ih =>
  intro x
  rw [List.range_succ_eq_map,List.countP_cons,List.countP_map]
  have e:(bitI (x:Int) ∘ Nat.succ)=bitI ((x / 2:Nat):Int):=by
   funext j
   show bitI (x:Int) (j+1)=bitI ((x / 2:Nat):Int) j
   unfold bitI
   have:(x:Int) / 2 ^ (j+1)=((x / 2:Nat):Int) / 2 ^ j:=by
    rw [show ((x / 2:Nat):Int)=(x:Int) / 2 by omega,Int.pow_succ,Int.mul_comm,← Int.ediv_ediv_of_nonneg (by decide)]
   rw [this]
  rw [e,ih]
  show pcN n (x / 2)+_=x % 2+pcN n (x / 2)
  have:bitI (x:Int) 0=decide (x % 2=1):=by
   unfold bitI
   rw [Int.pow_zero,Int.ediv_one]
   congr 1
   apply propext
   omega
  rw [this]
  rcases Nat.mod_two_eq_zero_or_one x with q | q
  ·rw [q];simp
  ·rw [q];simp;omega
theorem pcN_more:∀ (d n x:Nat),x<2 ^ n→pcN (n+d) x=pcN n x:=by
 intro d n
 induction n with
 | zero =>
  intro x hx
  have:x=0:=by simpa using hx
  subst this
  rw [Nat.zero_add]
  show pcN d 0=0
  induction d with
  | zero=>rfl
  | succ d ih=>show 0 % 2+pcN d (0 / 2)=0;rw [Nat.zero_div,ih]
 | succ n ih =>
  intro x hx
  rw [show n+1+d=(n+d)+1 by omega]
  show x % 2+pcN (n+d) (x / 2)=x % 2+pcN n (x / 2)
  rw [ih (x / 2) (by rw [Nat.pow_succ] at hx;omega)]
theorem ones_small {x n:Nat} (hn:n≤16) (h:x<2 ^ n):onesV x=((List.range n).countP (bitI (x:Int)):Nat):=by
 have hx:x<65536:=Nat.lt_of_lt_of_le h (Nat.pow_le_pow_right (n:=2) (by decide) hn)
 have:=pcN_more (16 - n) n x h
 rw [show n+(16 - n)=16 by omega] at this
 rw [onesV_nat hx,onN_is hx,pcN_count,this]
end
end Go.Proofs.YthccoinonjoleaaGreatDoor
