import Derived.Test.YtooadfgibdjdeaaGreatDoorZP3
import Derived.BigQuiet
import Derived.Deep.Draws
import Derived.Deep.LoopGhost
import Derived.Deep.QuietTactic
import Derived.Deep.RegionHeld3
import Derived.Deep.Slices
import Derived.Laws.BitsAllLaws
import Derived.RegionTactic
import Derived.WalkKit
import Derived.WalkLawsBesides
import Derived.WalkSpells
namespace Go.Proofs.YtooadfgibdjdeaaGreatDoor
open Go.RowKit
set_option maxRecDepth 100000
set_option maxHeartbeats 16000000
section
theorem pow17 (n:Nat) (h:n≤16):1≤(2:Int) ^ n∧(2:Int) ^ n≤65536:=by
 have:n=0∨n=1∨n=2∨n=3∨n=4∨n=5∨n=6∨n=7∨n=8∨n=9∨n=10∨n=11∨n=12∨n=13∨n=14∨n=15∨n=16:=by omega
 rcases this with rfl | rfl | rfl | rfl | rfl | rfl | rfl | rfl | rfl | rfl | rfl | rfl | rfl | rfl | rfl | rfl | rfl <;> decide
theorem cbit_any (k:Nat) (hk:k≤16) (w:World):Calls Tryz.prog 24 #[.int .i64 k] w fun e w'=>e=.returned (.int .i64 (2 ^ k))∧w'=w:=by
 have p:=pow17 k hk
 go_enter Tryz.func24,Tryz.ntmps24
 go_wp2
 go_ret
 exact ⟨rfl,rfl⟩
theorem chas_any (x:Int) (j:Nat) (hj:j≤16) (w:World):Calls Tryz.prog 52 #[.int .i64 x,.int .i64 j] w fun e w'=>e=.returned (.bool (bitI x j))∧w'=w:=by
 have p:=pow17 j hj
 have hb:=bit_and x (j:=j) (by omega)
 have HB:=cbit_any j hj w
 generalize (2:Int) ^ j=T at *
 go_enter Tryz.func52,Tryz.ntmps52
 go_wp2_with fail
 refine HB.mono ?_
 rintro e w1 ⟨rfl,h⟩
 replace h:=h.symm
 subst h
 clear HB
 go_wp2
 go_ret
 exact ⟨rfl,rfl⟩
theorem Tryz.makesFunc9 (fn:Fn) (first cap:Array Value) (w:World):(Instr.makeFunc fn first cap).run Tryz.prog w=.ok (.func fn first cap) w:=rfl
theorem ccut_any (most:Int) (w:World):Calls Tryz.prog 64 #[.int .i64 most] w fun e w'=>e=.returned (.func (.func 86) #[] #[.pointer (some ⟨w.heap.size,0,none⟩)])∧w'=w.alloc (.cells #[.int .i64 most] 3):=by
 have hmf:=Tryz.makesFunc9
 go_enter Tryz.func64,Tryz.ntmps64
 go_wp2
 go_ret
 exact ⟨rfl,rfl⟩
theorem lt_of_cell9 {w:World} {X i:Nat} {v:Value} (h:w.cell? ⟨X,i,none⟩=some v):X<w.heap.size:=by
 rcases Nat.lt_or_ge X w.heap.size with g | g
 ·exact g
 ·simp [World.cell?,Array.getElem?_eq_none g] at h
theorem ccut1_any (x most:Int) (B:Nat) (h0:0≤most) (h1:most≤1099511627776) (w:World) (hc:w.cell? ⟨B,0,none⟩=some (.int .i64 most)) :
  Calls Tryz.prog 86 #[.int .i64 x,.pointer (some ⟨B,0,none⟩)] w fun e w'=>e=.returned (.int .i64 (cutV x most))∧w'=w:=by
 have hl:B<w.heap.size:=lt_of_cell9 hc
 unfold cutV
 by_cases k1:x < -most
 ·rw [show max (-most) (min most x) = -most by omega]
  go_enter Tryz.func86,Tryz.ntmps86
  go_wp2
  all_goals go_ret
  all_goals first | exact ⟨rfl, rfl⟩ | exact ⟨(by show Ending.returned (.int .i64 (min (max x (-most)) most)) = Ending.returned (.int .i64 _); congr 2; omega), rfl⟩ | exact ⟨(by congr 2; omega), rfl⟩
 ·have k1':=decide_eq_false k1
  by_cases k2:most<x
  ·rw [show max (-most) (min most x)=most by omega]
   go_enter Tryz.func86,Tryz.ntmps86
   go_wp2
   all_goals go_ret
   all_goals first | exact ⟨rfl, rfl⟩ | exact ⟨(by show Ending.returned (.int .i64 (min (max x (-most)) most)) = Ending.returned (.int .i64 _); congr 2; omega), rfl⟩ | exact ⟨(by congr 2; omega), rfl⟩
  ·rw [show max (-most) (min most x)=x by omega]
   have k2':=decide_eq_false k2
   go_enter Tryz.func86,Tryz.ntmps86
   go_wp2
   all_goals go_ret
   all_goals first | exact ⟨rfl, rfl⟩ | exact ⟨(by show Ending.returned (.int .i64 (min (max x (-most)) most)) = Ending.returned (.int .i64 _); congr 2; omega), rfl⟩ | exact ⟨(by congr 2; omega), rfl⟩
def tooFarB (x:Int):Bool:=decide (x < -274877906944∨274877906944<x)
theorem ctooFar_any (x:Int) (w:World):Calls Tryz.prog 28 #[.int .i64 x] w fun e w'=>e=.returned (.bool (tooFarB x))∧Below w.heap.size w w':=by
 have HC:=ccut_any 274877906944 w
 have H1:=ccut1_any x 274877906944 w.heap.size (by decide) (by decide) (w.alloc (.cells #[.int .i64 274877906944] 3)) (by simp)
 have hb:Below w.heap.size w (w.alloc (.cells #[.int .i64 274877906944] 3)):=(Below.refl _ _).alloc (Nat.le_refl _) _
 have HB:Hid _:=hb
 clear hb
 have he:(cutV x 274877906944 != x)=tooFarB x:=by
  unfold cutV tooFarB
  by_cases h:x < -274877906944∨274877906944<x
  ·rw [decide_eq_true h];simp;omega
  ·rw [decide_eq_false h];simp;omega
 generalize cutV x 274877906944=y at *
 generalize tooFarB x=b at *
 go_enter Tryz.func28,Tryz.ntmps28
 go_wp2_with fail
 refine HC.mono ?_
 rintro e w1 ⟨rfl,rfl⟩
 go_wp2_with fail
 refine H1.mono ?_
 rintro e w1 ⟨rfl,rfl⟩
 go_wp2
 go_ret
 exact ⟨rfl,HB.out⟩
def FirstFar (l:List Int) (i:Int):Prop :=
 (i = -1∧∀ j,j<l.length→tooFarB (l.getD j 0)=false)∨∃ k:Nat,k<l.length∧i=k∧tooFarB (l.getD k 0)=true
theorem FirstFar.is {l:List Int} {i:Int} (h:FirstFar l i):decide (0≤i)=l.any tooFarB:=by
 rcases h with ⟨rfl,h⟩ | ⟨k,hk,rfl,h⟩
 ·rw [decide_eq_false (by omega)]
  symm
  rw [Bool.eq_false_iff]
  intro h2
  obtain ⟨x,hx,h3⟩:=List.any_eq_true.1 h2
  obtain ⟨j,hj,rfl⟩:=List.getElem_of_mem hx
  have:=h j hj
  simp [List.getD,hj] at this
  rw [this] at h3
  cases h3
 ·rw [decide_eq_true (by omega)]
  symm
  refine List.any_eq_true.2 ⟨l[k],List.getElem_mem hk,?_⟩
  simpa [List.getD,hk] using h
theorem cfind_any (a:Option Addr) (cap n:Nat) (l:List Int) (hl:l.length=n) (w:World) (hr:IntRow w a l) (hn:n≤1000) :
  Calls Tryz.prog 63 #[.slice a n cap,.func (.func 28) #[] #[]] w fun e w'=>∃ i,e=.returned (.int .i64 i)∧FirstFar l i∧Below w.heap.size w w':=by
 have HR:Hid (IntRow w a l):=hr
 have HL:Hid (l.length=n):=hl
 clear hr hl
 go_enter Tryz.func63,Tryz.ntmps63
 go_wp2_with fail
 go_loopw [8] (fun t wr=>∃ k:Nat,k≤n∧t=.int .i64 k∧Hid (∀ j,j<k→tooFarB (l.getD j 0)=false)∧Hid (Below w.heap.size w wr)) (fun t _=>n - (intOf t).toNat)
 case atStart=>exact ⟨0,Nat.zero_le _,rfl,fun j hj=>absurd hj (Nat.not_lt_zero _),Below.refl _ _⟩
 case round =>
  obtain ⟨k,hk,rfl,h0,hbe⟩:=hrel
  by_cases hlt:k<n
  ·obtain ⟨b,off,rfl,hb,hc⟩:=HR.out (by have:=HL.out;omega)
   have y0:=(hbe.out.cell (p:=⟨b,off+k,none⟩) hb).trans (hc k (by have:=HL.out;omega))
   clear hc
   have hz:b<wr.heap.size:=Nat.lt_of_lt_of_le hb hbe.out.size
   have kk:(k:Int)<(n:Int):=by omega
   have hlk:=ctooFar_any (l.getD k 0) wr
   have HLT:Hid (k<n):=hlt
   by_cases hit:tooFarB (l.getD k 0)=true
   ·rw [hit] at hlk
    have HHit:Hid (FirstFar l k):=.inr ⟨k,(by have:=HL.out;omega),rfl,hit⟩
    clear hit
    generalize l.getD k 0=P at *
    go_wp2_with fail
    refine hlk.mono ?_
    rintro e w1 ⟨rfl,hw1⟩
    have HB1:Hid (Below w.heap.size w w1):=hbe.out.trans (hw1.mono hbe.out.size)
    clear hlk hw1 y0
    go_wp2
    go_ret
    exact ⟨_,rfl,HHit.out,HB1.out⟩
   ·have hit2:tooFarB (l.getD k 0)=false:=by simpa using hit
    rw [hit2] at hlk
    have HN:Hid (∀ j,j<k+1→tooFarB (l.getD j 0)=false):=fun j hj=>by
     rcases Nat.lt_or_ge j k with q | q
     ·exact h0.out j q
     ·obtain rfl:j=k:=by omega
      exact hit2
    clear hit hit2 h0
    generalize l.getD k 0=P at *
    go_wp2_with fail
    refine hlk.mono ?_
    rintro e w1 ⟨rfl,hw1⟩
    have HB1:Hid (Below w.heap.size w w1):=hbe.out.trans (hw1.mono hbe.out.size)
    clear hlk hw1 y0
    go_wp2
    go_roundw
    case rel=>exact ⟨k+1,by omega,by go_num,HN,HB1⟩
    case measure=>simp [intOf];omega
  ·have hkn:k=n:=by omega
   have HM:Hid (FirstFar l (-1)):=.inl ⟨rfl,fun j hj=>h0.out j (by have:=HL.out;omega)⟩
   have kk:decide (k<n)=false:=decide_eq_false (by omega)
   clear hkn hlt
   go_wp2
   go_ret
   exact ⟨_,rfl,HM.out,hbe.out⟩
theorem cfar_any (a:Option Addr) (cap n:Nat) (l:List Int) (hl:l.length=n) (w:World) (hr:IntRow w a l) (hn:n≤1000) :
  Calls Tryz.prog 27 #[.slice a n cap,.func (.func 28) #[] #[]] w fun e w'=>e=.returned (.bool (l.any tooFarB))∧Below w.heap.size w w':=by
 have HF:=cfind_any a cap n l hl w hr hn
 clear hr hl
 obtain ⟨B,hB⟩:∃ B,l.any tooFarB=B:=⟨_,rfl⟩
 have HB:Hid (l.any tooFarB=B):=hB
 rw [hB]
 clear hB
 go_enter Tryz.func27,Tryz.ntmps27
 go_wp2_with fail
 refine HF.mono ?_
 rintro e w1 ⟨i,rfl,hi,hb⟩
 have he:=hi.is
 rw [HB.out] at he
 clear hi HF
 go_wp2
 go_ret
 exact ⟨rfl,hb⟩
end
section
structure CluOps2 (Clu:World→List Nat→Nat→PlanN→Int→List Int→ClS→Int→Nat→Prop):Prop where
 clocks:∀ {w:World} {O:List Nat} {C:Nat} {p:PlanN} {fa:Int} {cs:List Int} {s:ClS} {rd:Int} {T:Nat},Clu w O C p fa cs s rd T →
  Calls Tryz.prog 19 #[.pointer (some ⟨C,0,none⟩)] w fun e w'=>∃ a cap,e=.returned (.slice a cs.length cap)∧IntRow w' a cs∧Below w.heap.size w w'
 members:∀ {w:World} {O:List Nat} {C:Nat} {p:PlanN} {fa:Int} {cs:List Int} {s:ClS} {rd:Int} {T:Nat} (j:Nat),Clu w O C p fa cs s rd T→j<p.n →
  Calls Tryz.prog 20 #[.pointer (some ⟨C,0,none⟩),.int .i64 j] w fun e w'=>e=.returned (.tuple #[.int .i64 (bitsV (s.nodes j).t p.n),.bool (s.nodes j).fz,.nilIface])∧Below w.heap.size w w'
 members_bad:∀ {w:World} {O:List Nat} {C:Nat} {p:PlanN} {fa:Int} {cs:List Int} {s:ClS} {rd:Int} {T:Nat} (j:Int),Clu w O C p fa cs s rd T→¬ (0≤j∧j<p.nodes) →
  Calls Tryz.prog 20 #[.pointer (some ⟨C,0,none⟩),.int .i64 j] w fun e w'=>e=.returned (.tuple #[.int .i64 0,.bool false,errV 2])∧Below w.heap.size w w'
end
section
theorem pow16 (n:Nat) (h:n≤15):1≤(2:Int) ^ n∧(2:Int) ^ n≤32768:=by
 have:n=0∨n=1∨n=2∨n=3∨n=4∨n=5∨n=6∨n=7∨n=8∨n=9∨n=10∨n=11∨n=12∨n=13∨n=14∨n=15:=by omega
 rcases this with rfl | rfl | rfl | rfl | rfl | rfl | rfl | rfl | rfl | rfl | rfl | rfl | rfl | rfl | rfl | rfl <;> decide
theorem refLies_any (C:Nat) (fa:Int) (j:Nat) (hj:j≤15) (w:World) (hc:w.cell? ⟨C,10,none⟩=some (.int .i64 fa)) :
  Calls Tryz.prog 33 #[.pointer (some ⟨C,0,none⟩),.int .i64 j] w fun e w'=>e=.returned (.bool (bitI fa j))∧∃ q,w'=w.drewN q:=by
 have hp:=pow16 j hj
 have hb:=bit_and fa (j:=j) (by omega)
 have hl:C<w.heap.size:=by
  rcases Nat.lt_or_ge C w.heap.size with g | g
  ·exact g
  ·simp [World.cell?,Array.getElem?_eq_none g] at hc
 have e1:wrap64 ((2:Int) ^ j)=2 ^ j:=by
  unfold wrap64
  generalize (2:Int) ^ j=T at *
  omega
 go_enter Tryz.func33,Tryz.ntmps33
 go_wp2_with fail
 go_quiet (fail)
 go_wp2
 go_ret
 exact ⟨rfl,_,rfl⟩
theorem refCut_any (x most:Int) (h0:0≤most) (h1:most≤1099511627776) (w:World) :
  Calls Tryz.prog 41 #[.int .i64 x,.int .i64 most] w fun e w'=>e=.returned (.int .i64 (cutV x most))∧w'=w:=by
 unfold cutV
 by_cases k1:x<most
 ·by_cases k2:-most<x
  ·rw [show max (-most) (min most x)=x by omega]
   go_enter Tryz.func41,Tryz.ntmps41
   go_wp2
   go_ret
   exact ⟨rfl,rfl⟩
  ·rw [show max (-most) (min most x) = -most by omega]
   have k2':=decide_eq_false k2
   go_enter Tryz.func41,Tryz.ntmps41
   go_wp2
   go_ret
   exact ⟨rfl,rfl⟩
 ·rw [show max (-most) (min most x)=most by omega]
  have k1':=decide_eq_false k1
  go_enter Tryz.func41,Tryz.ntmps41
  go_wp2
  all_goals go_ret
  ·exact ⟨rfl,rfl⟩
  ·obtain rfl:most=0:=by omega
   exact ⟨rfl,rfl⟩
end
section
def SprIs (l:List Int) (i k:Nat) (n:Int):Prop :=
 0≤n∧(∀ a b,a<l.length→b<l.length→(a<i∨(a=i∧b<k))→l.getD a 0 - l.getD b 0≤n)∧(n=0∨∃ a b,a<l.length∧b<l.length∧l.getD a 0 - l.getD b 0=n)
theorem getD_mem0 {l:List Int} {a:Nat} (h:a<l.length):l.getD a 0∈l:=by
 simp [List.getD,List.getElem?_eq_getElem h]
theorem SprIs.step {l:List Int} {i k:Nat} {n:Int} (h:SprIs l i k n) (hi:i<l.length) (hk:k<l.length):SprIs l i (k+1) (if n<l.getD i 0 - l.getD k 0 then l.getD i 0 - l.getD k 0 else n):=by
 obtain ⟨h0,h1,h2⟩:=h
 split
 ·next q =>
  refine ⟨by omega,fun a b ha hb hab=>?_,.inr ⟨i,k,hi,hk,rfl⟩⟩
  by_cases e:a=i∧b=k
  ·rw [e.1,e.2];exact Int.le_refl _
  ·have:=h1 a b ha hb (by omega)
   omega
 ·next q =>
  refine ⟨h0,fun a b ha hb hab=>?_,h2⟩
  by_cases e:a=i∧b=k
  ·rw [e.1,e.2];omega
  ·exact h1 a b ha hb (by omega)
theorem SprIs.next {l:List Int} {i:Nat} {n:Int} (h:SprIs l i l.length n):SprIs l (i+1) 0 n:=by
 obtain ⟨h0,h1,h2⟩:=h
 exact ⟨h0,fun a b ha hb hab=>h1 a b ha hb (by omega),h2⟩
theorem SprIs.whole {l:List Int} {n:Int} (h:SprIs l l.length 0 n):n=spreadL l:=by
 obtain ⟨h0,h1,h2⟩:=h
 have a1:spreadL l≤n:=(spreadL_le h0).2 fun x hx y hy=>by
  obtain ⟨i,hi,rfl⟩:=List.getElem_of_mem hx
  obtain ⟨j,hj,rfl⟩:=List.getElem_of_mem hy
  have:=h1 i j hi hj (.inl hi)
  simpa [List.getD,List.getElem?_eq_getElem hi,List.getElem?_eq_getElem hj] using this
 have hp:0≤spreadL l:=by
  have g1:=(foldl_max_mem l (l.headD 0)).1
  have g2:=(foldl_min_mem l (l.headD 0)).1
  unfold spreadL
  omega
 rcases h2 with rfl | ⟨a,b,ha,hb,e⟩
 ·omega
 ·have:=(spreadL_le hp).1 (Int.le_refl _) _ (getD_mem0 ha) _ (getD_mem0 hb)
  omega
theorem refSpread_any (a:Option Addr) (cap:Nat) (l:List Int) (w:World) (hr:IntRow w a l) (hn:l.length≤1000) (hin:∀ x∈l,-274877906944≤x∧x≤274877906944) :
  Calls Tryz.prog 54 #[.slice a l.length cap] w fun e w'=>e=.returned (.int .i64 (spreadL l))∧∃ q,w'=w.drewN q:=by
 obtain ⟨n,hln⟩:∃ n,l.length=n:=⟨_,rfl⟩
 have HL:Hid (l.length=n):=hln
 have HIn:Hid (∀ j,j<n→-274877906944≤l.getD j 0∧l.getD j 0≤274877906944):=fun j hj=>hin _ (getD_mem0 (by omega))
 have HR:Hid (IntRow w a l):=hr
 rw [hln] at hn ⊢
 clear hin hr hln
 go_enter Tryz.func54,Tryz.ntmps54
 go_wp2_with fail
 go_loopw [3,10] (fun nv t wr=>∃ (i:Nat) (N:Int),i≤n∧t=.int .i64 i∧nv=.int .i64 N∧Hid (SprIs l i 0 N)∧0≤N∧N≤549755813888∧∃ q,wr=w.drewN q) (fun _ t _=>n - (intOf t).toNat)
 case atStart=>exact ⟨0,0,Nat.zero_le _,rfl,rfl,⟨Int.le_refl _,fun a b _ _ h=>absurd h (by omega),.inl rfl⟩,by decide,by decide,0,rfl⟩
 case round =>
  obtain ⟨i,N,hi,rfl,rfl,hS,hN0,hN1,q,rfl⟩:=hrel
  by_cases hlt:i<n
  ·have kk:(i:Int)<(n:Int):=by omega
   obtain ⟨b,off,rfl,hb,hc⟩:=HR.out (by rw [HL.out];omega)
   have y0:=hc i (by rw [HL.out];exact hlt)
   have hi1:=HIn.out i hlt
   generalize hCI:l.getD i 0=CI at *
   have HCI:Hid (l.getD i 0=CI):=hCI
   clear hCI
   have HC:Hid (∀ j,j<l.length→w.cell? ⟨b,off+j,none⟩=some (.int .i64 (l.getD j 0))):=hc
   clear hc
   go_wp2_with fail
   go_loopw [3,16] (fun nv t wr=>∃ (k:Nat) (M:Int),k≤n∧t=.int .i64 k∧nv=.int .i64 M∧Hid (SprIs l i k M)∧0≤M∧M≤549755813888∧∃ q,wr=w.drewN q) (fun _ t _=>n - (intOf t).toNat)
   case atStart=>exact ⟨0,N,Nat.zero_le _,rfl,rfl,hS,hN0,hN1,q,rfl⟩
   case round =>
    clear hS
    obtain ⟨k,M,hk,rfl,rfl,hS,hM0,hM1,q2,rfl⟩:=hrel
    by_cases hlk:k<n
    ·have kk2:(k:Int)<(n:Int):=by omega
     have z0:=HC.out k (by rw [HL.out];exact hlk)
     have hk1:=HIn.out k hlk
     have HSt:=hS.out.step (by rw [HL.out];exact hlt) (by rw [HL.out];exact hlk)
     rw [HCI.out] at HSt
     generalize l.getD k 0=CK at *
     by_cases hmx:M<CI - CK
     ·rw [if_pos hmx] at HSt
      have HS2:Hid _:=HSt
      clear HSt hS
      go_wp2_with fail
      exact ⟨⟨k+1,_,by omega,by go_num,rfl,HS2,by omega,by omega,_,rfl⟩,by simp [intOf];omega⟩
     ·rw [if_neg hmx] at HSt
      have hmx':=decide_eq_false hmx
      have HS2:Hid _:=HSt
      clear HSt hS
      go_wp2_with fail
      exact ⟨⟨k+1,_,by omega,by go_num,rfl,HS2,by omega,by omega,_,rfl⟩,by simp [intOf];omega⟩
    ·have hkn:k=n:=by omega
     have HS2:Hid (SprIs l (i+1) 0 M):=by
      have:=hS.out
      rw [hkn,← HL.out] at this
      exact this.next
     have kk2:decide (k<n)=false:=decide_eq_false hlk
     clear hkn hlk hS
     go_wp2_with fail
     exact ⟨⟨i+1,M,by omega,by go_num,rfl,HS2,hM0,hM1,_,rfl⟩,by simp [intOf];omega⟩
  ·have hin:i=n:=by omega
   have HE:Hid (N=spreadL l):=by
    have:=hS.out
    rw [hin,← HL.out] at this
    exact this.whole
   have kk:decide (i<n)=false:=decide_eq_false hlt
   clear hin hlt hS
   go_wp2
   go_ret
   exact ⟨congrArg (fun x=>Ending.returned (Value.int .i64 x)) HE.out,_,rfl⟩
end
section
def lostB (ls lch lt:Nat→Int) (k i ch to_:Nat):Bool:=(List.range k).any fun x=>decide (ls x=i) && (decide (lch x=ch) && bitI (lt x) to_)
theorem lostB_succ (ls lch lt:Nat→Int) (k i ch to_:Nat):lostB ls lch lt (k+1) i ch to_=(lostB ls lch lt k i ch to_ || (decide (ls k=i) && (decide (lch k=ch) && bitI (lt k) to_))):=by
 unfold lostB
 rw [List.range_succ,List.any_append]
 simp
theorem lbox3 (w:World) (a b c:Value) (t:TypeId):(w.alloc (.cells #[a,b,c] t)).cell? ⟨w.heap.size,0,none⟩=some a∧(w.alloc (.cells #[a,b,c] t)).cell? ⟨w.heap.size,1,none⟩=some b∧(w.alloc (.cells #[a,b,c] t)).cell? ⟨w.heap.size,2,none⟩=some c:=⟨by simp,by simp,by simp⟩
def w_rp_loss_0 (k:Nat):Bool:=decide (k=38) || decide (k=40) || (decide (338≤k) && decide (k≤360))
theorem rp_loss (body:Code) (hbody:(Tryz.f10.body.map loopsIn).bind (fun l=>l[8]?)=some body) (Q:Exit→Act→World→Prop) (i to_ ch:Nat) (b0:Bool) (la:Option Addr) (nL lc:Nat) (ls lch lt:Nat→Int) (w:World) (hr:Rows3 w la nL ls lch lt) (hL:nL≤9223372036854775807) (hto:to_≤15) {L:List Value} (hL0:L.length=452) (s21:L[21]? = some (.int .i64 i)) (s35:L[35]? = some (.int .i64 to_)) (s37:L[37]? = some (.int .i64 ch)) (s38:L[38]? = some (.bool b0)) (s336:L[336]? = some (.slice la nL lc)) (s337:L[337]? = some (.int .i64 nL)) (s338:L[338]? = some (.int .i64 0))
  (hexit:∀ (L':List Value) (wr:World),Below w.heap.size w wr→L'.length=452→Rest w_rp_loss_0 L L'→L'[38]? = some (.bool (b0 && !lostB ls lch lt nL i ch to_))→L'[338]? = some (.int .i64 nL)→Q (.exit 16) ⟨L'.toArray,[]⟩ wr) :
  Code.wp Tryz.prog (Code.loop body) Q ⟨L.toArray,[]⟩ w:=by
 have hb2:((Tryz.f10.body.map loopsIn).bind (fun l=>l[8]?)).getD Code.skip=body:=by rw [hbody];rfl
 obtain rfl:=hb2
 clear hbody
 conv=>arg 2;arg 1;whnf
 have HEX:Hid _:=hexit
 obtain ⟨fL,rfl⟩:=lit L 452 hL0
 replace s21:=lit_at s21
 replace s35:=lit_at s35
 replace s37:=lit_at s37
 replace s38:=lit_at s38
 replace s336:=lit_at s336
 replace s337:=lit_at s337
 replace s338:=lit_at s338
 simp only [List.range,List.range.loop,List.map_cons,List.map_nil,s21,s35,s37,s38,s336,s337,s338]
 have HR:Hid (Rows3 w la nL ls lch lt):=hr
 clear hexit hr
 go_loopw [338,38] (fun t v wr=>∃ k:Nat,k≤nL∧t=.int .i64 k∧v=.bool (b0 && !lostB ls lch lt k i ch to_)∧Hid (Below w.heap.size w wr)) (fun t _ _=>nL - (intOf t).toNat)
 case atStart=>exact ⟨0,Nat.zero_le _,rfl,by simp [lostB],Below.refl _ _⟩
 case round =>
  obtain ⟨k,hk,rfl,rfl,hbe⟩:=hrel
  by_cases hlt:k<nL
  ·obtain ⟨b,off,rfl,hbl,hc⟩:=HR.out (by omega)
   obtain ⟨x0,x1,x2⟩:=hc k hlt
   have y0:=(hbe.out.cell (p:=⟨b,off+k*3,none⟩) hbl).trans x0
   have y1:=(hbe.out.cell (p:=⟨b,off+k*3+1,none⟩) hbl).trans x1
   have y2:=(hbe.out.cell (p:=⟨b,off+k*3+2,none⟩) hbl).trans x2
   have hbw:b<wr.heap.size:=Nat.lt_of_lt_of_le hbl hbe.out.size
   have kk:(k:Int)<(nL:Int):=by omega
   have HS:Hid (lostB ls lch lt (k+1) i ch to_=(lostB ls lch lt k i ch to_ || (decide (ls k=i) && (decide (lch k=ch) && bitI (lt k) to_)))):=lostB_succ ..
   have hsh:=bit_shift (lt k) to_
   have hB:Below w.heap.size w (wr.alloc (.cells #[.int .i64 (ls k),.int .i64 (lch k),.int .i64 (lt k)] 52)):=hbe.out.alloc hbe.out.size _
   have HB:Hid _:=hB
   clear hc hB x0 x1 x2
   generalize lostB ls lch lt k i ch to_=LB at *
   generalize ls k=A0 at *
   generalize lch k=A1 at *
   generalize lt k=A2 at *
   by_cases e0:A0=(i:Int)
   ·subst e0
    by_cases e1:A1=(ch:Int)
    ·subst e1
     cases hbt:bitI A2 to_
     ·rw [hbt] at hsh HS
      go_wp2
      exact ⟨⟨k+1,by omega,by go_num,by rw [HS.out];simp,HB.out⟩,by simp [intOf];omega⟩
     ·rw [hbt] at hsh HS
      go_wp2
      exact ⟨⟨k+1,by omega,by go_num,by rw [HS.out];simp,HB.out⟩,by simp [intOf];omega⟩
    ·have e1':(A1 == (ch:Int))=false:=by simpa using e1
     have HE:Hid (decide (A1=(ch:Int))=false):=decide_eq_false e1
     clear e1
     go_wp2
     exact ⟨⟨k+1,by omega,by go_num,by rw [HS.out,HE.out];simp,HB.out⟩,by simp [intOf];omega⟩
   ·have e0':(A0 == (i:Int))=false:=by simpa using e0
    have HE:Hid (decide (A0=(i:Int))=false):=decide_eq_false e0
    clear e0
    go_wp2
    exact ⟨⟨k+1,by omega,by go_num,by rw [HS.out,HE.out];simp,HB.out⟩,by simp [intOf];omega⟩
  ·obtain rfl:k=nL:=by omega
   go_wp2
   exact HEX.out _ _ hbe.out rfl (Rest.of rfl) rfl rfl
end
section
open Go.ChangeShapes Go.WideShapes Go.ChangeAt Go.RowKit Go.Joins Go.Deep
theorem open_planN {H:Type} {enc:TypeId × Value→H} {w:World} {spare:Nat→Bool} {held:Bool} {r:Reach} {b0:Nat} {v:Value} {d:DataW H} {p:List MemPlace}
  (hv:Value.okWide Tryz.prog w r b0 26 v) (h:DataW.Trod enc Tryz.prog w 0 spare held 26 v d p) :
  ∃ (q:PlanN) (a:PlanAt),v=q.val a∧q.In a w:=by
 obtain ⟨nodes,faulty,skew,jitter,drift,round,frame,sa,la,wa,ns,sc,nl,lc,nw,wc,nd,fr,to_,lf,lt,lb,lq,wp,wf,wt,rfl,_,⟨m1,m2,m3⟩,r3,r4,r5,_,i7,_⟩:=open_plan hv h
 exact ⟨⟨nodes,faulty,skew,jitter,drift,round,frame,ns,nl,nw,nd,fr,to_,lf,lt,lb,lq,wp,wf,wt⟩,⟨sa,sc,la,lc,wa,wc⟩,rfl,r3,r4,r5,fun k hk=>isInt_le' (i7 k hk).2.1,Nat.le_trans m1 (by decide),Nat.le_trans m2 (by decide),Nat.le_trans m3 (by decide)⟩
end
section

end
section
def refRightTo (fa:Int) (cs:List Int) (k:Nat):List Int:=((List.range k).filter fun i=>!bitI fa i).map fun i=>cs.getD i 0
theorem refRightTo_succ (fa:Int) (cs:List Int) (k:Nat):refRightTo fa cs (k+1)=refRightTo fa cs k ++ (if bitI fa k=true then [] else [cs.getD k 0]):=by
 unfold refRightTo
 rw [List.range_succ,List.filter_append,List.map_append]
 congr 1
 cases h:bitI fa k <;> simp [h]
theorem refRightTo_len (fa:Int) (cs:List Int) (k:Nat):(refRightTo fa cs k).length≤k:=by
 unfold refRightTo
 rw [List.length_map]
 exact Nat.le_trans (List.length_filter_le _ _) (by simp)
theorem refRightTo_mem {fa:Int} {cs:List Int} {k:Nat} (hk:k≤cs.length) {x:Int} (h:x∈refRightTo fa cs k):x∈cs:=by
 obtain ⟨i,hi,rfl⟩:=List.mem_map.1 h
 have:=List.mem_range.1 (List.mem_filter.1 hi).1
 exact getD_mem0 (by omega)
theorem refOwnsRow9 {w:World} {base n:Nat} {v:Value} {l:List Int} (h:w.ownsRow base 3 1 v n (l.map (Value.int .i64))):∃ a cap,v=.slice a l.length cap∧IntRow w a l∧l.length=n:=by
 have hl:l.length=n:=by have:=h.1;simpa using this
 rcases h.2 with ⟨rfl,h0⟩ | ⟨g,cap,cur,rfl,hg,hh,_⟩
 ·refine ⟨none,0,by rw [hl,h0],fun q=>absurd q (by omega),hl⟩
 ·have hlt:g<w.heap.size:=by
   rcases Nat.lt_or_ge g w.heap.size with q | q
   ·exact q
   ·rw [Array.getElem?_eq_none q] at hh;cases hh
  refine ⟨_,cap,by rw [hl],fun _=>⟨g,0,rfl,hlt,fun j hj=>?_⟩,hl⟩
  have:=h.cells (g:=g) rfl j (.int .i64 (l.getD j 0)) (by simp [List.getD,List.getElem?_eq_getElem hj])
  rw [add_at] at this
  exact this
theorem refCSpread_any (C:Nat) (fa:Int) (a:Option Addr) (cap:Nat) (cs:List Int) (w:World) (c10:w.cell? ⟨C,10,none⟩=some (.int .i64 fa)) (c11:w.cell? ⟨C,11,none⟩=some (.slice a cs.length cap)) (hr:IntRow w a cs) (hn:cs.length≤16) (hin:∀ x∈cs,-274877906944≤x∧x≤274877906944) :
  Calls Tryz.prog 17 #[.pointer (some ⟨C,0,none⟩)] w fun e w'=>e=.returned (.int .i64 (spreadL (rightOf fa cs)))∧Below w.heap.size w w':=by
 obtain ⟨n,hln⟩:∃ n,cs.length=n:=⟨_,rfl⟩
 have HL:Hid (cs.length=n):=hln
 have HIn:Hid (∀ x∈cs,-274877906944≤x∧x≤274877906944):=hin
 have HR:Hid (IntRow w a cs):=hr
 have hlC:C<w.heap.size:=lt_of_cell c10
 obtain ⟨i0,hi,hz0,hz1,hz2⟩:=info_parts Tryz.infoInt
 rw [hln] at hn c11
 clear hin hr hln
 go_enter Tryz.func17,Tryz.ntmps17
 go_wp2_with fail
 go_loopw [3,11] (fun lv t wr=>∃ k:Nat,k≤n∧t=.int .i64 k∧Hid (wr.ownsRow w.heap.size 3 1 lv (refRightTo fa cs k).length ((refRightTo fa cs k).map (Value.int .i64)))∧Hid (Below w.heap.size w wr)) (fun _ t _=>n - (intOf t).toNat)
 case atStart=>exact ⟨0,Nat.zero_le _,rfl,World.ownsRow_nil _ _ _ _,Below.refl _ _⟩
 case round =>
  obtain ⟨k,hk,rfl,hown,hbe⟩:=hrel
  have y10:=keep_cell c10 hbe.out
  by_cases hlt:k<n
  ·have kk:(k:Int)<(n:Int):=by omega
   obtain ⟨b,off,rfl,hb,hc⟩:=HR.out (by rw [HL.out];omega)
   have y0:=(hbe.out.cell (p:=⟨b,off+k,none⟩) hb).trans (hc k (by rw [HL.out];exact hlt))
   have hbw:b<wr.heap.size:=Nat.lt_of_lt_of_le hb hbe.out.size
   have HS:Hid (refRightTo fa cs (k+1)=refRightTo fa cs k ++ (if bitI fa k=true then [] else [cs.getD k 0])):=refRightTo_succ fa cs k
   have hrl:=refRightTo_len fa cs k
   have hli:=refLies_any C fa k (by omega) wr y10
   have hs0:=hbe.out.size
   generalize cs.getD k 0=CK at *
   generalize hRT:refRightTo fa cs k=RT at *
   clear hc hRT
   cases hb2:bitI fa k
   ·rw [hb2] at hli
    rw [hb2,if_neg (by decide)] at HS
    go_wp2_with fail
    refine hli.mono ?_
    rintro ev w2 ⟨rfl,q,rfl⟩
    have hOq:(wr.drewN q).ownsRow w.heap.size 3 1 u3 RT.length (RT.map (Value.int .i64)):=hown.out
    clear hli
    go_wp2_with (at_builtin;refine wpList_append_own _ rfl _ _ 27 rfl w.heap.size 3 i0 (.int .i64 0) 1 8 Tryz.underlying27 hi hz0 hz1 hz2 rfl (by decide) u3 _ _ rfl (hOq.alloc _) ⟨wr.heap.size,0,none⟩ 1 1 [.int .i64 CK] rfl rfl (cell_one_new _ _ _) (ints_one [CK]) (by unfold maxLen;omega) (by omega) (by simp;omega) ?_;intro v' w3 hown' hgrow hnil)
    have hb3:Below w.heap.size w w3:=((hbe.out.trans (⟨rfl,rfl,rfl,Nat.le_refl _,fun _ _=>rfl⟩:Below w.heap.size wr (wr.drewN q))).alloc hs0 _).grown hgrow (by simp;omega) (fun g hg=>(hown.out.lt g hg).1)
    refine ⟨⟨k+1,by omega,by go_num,?_,hb3⟩,?_⟩
    ·rw [HS.out,List.map_append,List.length_append]
     exact hown'
    ·simp [intOf];omega
   ·rw [hb2] at hli
    rw [hb2,if_pos rfl,List.append_nil] at HS
    go_wp2_with fail
    refine hli.mono ?_
    rintro ev w2 ⟨rfl,q,rfl⟩
    clear hli
    go_wp2_with fail
    refine ⟨⟨k+1,by omega,by go_num,?_,⟨hbe.out.os,hbe.out.tape,hbe.out.output,hbe.out.size,hbe.out.block⟩⟩,?_⟩
    ·rw [HS.out]
     exact hown.out
    ·simp [intOf];omega
  ·have hkn:k=n:=by omega
   obtain ⟨va,vcap,rfl,hir,hlen2⟩:=refOwnsRow9 hown.out
   have hsp:=refSpread_any va vcap (refRightTo fa cs k) wr hir (Nat.le_trans (refRightTo_len fa cs k) (by omega)) (fun x hx=>HIn.out x (refRightTo_mem (by rw [HL.out];exact hk) hx))
   have HE:Hid (refRightTo fa cs k=rightOf fa cs):=by show _=_;rw [hkn,← HL.out];rfl
   have kk:decide (k<n)=false:=decide_eq_false hlt
   clear hkn hlt hown hir hlen2
   go_wp2_with fail
   refine hsp.mono ?_
   rintro ev w2 ⟨rfl,q,rfl⟩
   clear hsp
   go_wp2
   go_ret
   exact ⟨congrArg (fun x=>Ending.returned (Value.int .i64 (spreadL x))) HE.out,⟨hbe.out.os,hbe.out.tape,hbe.out.output,hbe.out.size,hbe.out.block⟩⟩
end
section
def w_rn_clk_1 (k:Nat):Bool:=decide (k=15) || (decide (83≤k) && decide (k≤91))
def w_rn_clk_0 (k:Nat):Bool:=decide (k=15) || (decide (83≤k) && decide (k≤91))
theorem rn_clk (body:Code) (hbody:(Tryz.f6.body.map loopsIn).bind (fun l=>l[1]?)=some body) (Q:Exit→Act→World→Prop) (RB n:Nat) (ca:Option Addr) (ccap:Nat) (cs:List Int) (w:World) (hlen:cs.length=n) (hn:n≤9223372036854775807) (hr:IntRow w ca cs) (r0:w.cell? ⟨RB,0,none⟩=some (.int .i64 0)) (r1:w.cell? ⟨RB,1,none⟩=some (.int .i64 0)) (q0:w.frozen? ⟨RB,0,none⟩=false) (q1:w.frozen? ⟨RB,1,none⟩=false) {L:List Value} (hL0:L.length=139) (s6:L[6]? = some (.pointer none)) (s7:L[7]? = some (.pointer (some ⟨RB,0,none⟩))) (s81:L[81]? = some (.slice ca n ccap)) (s82:L[82]? = some (.int .i64 n)) (s83:L[83]? = some (.int .i64 0))
  (hexit:∀ (L':List Value) (wr:World),(∀ c∈cs,-274877906944≤c∧c≤274877906944)→wr=w→L'.length=139→Rest w_rn_clk_1 L L'→L'[83]? = some (.int .i64 n)→Q (.exit 2) ⟨L'.toArray,[]⟩ wr)
  (hret:∀ (L':List Value) (wr:World),¬ (∀ c∈cs,-274877906944≤c∧c≤274877906944)→(wr.cell? ⟨RB,0,none⟩=some (.int .i64 2)∧wr.cell? ⟨RB,1,none⟩=some (.int .i64 (-1)))→Turns RB RB w wr→L'.length=139→Rest w_rn_clk_0 L L'→Q .ret ⟨L'.toArray,[]⟩ wr) :
  Code.wp Tryz.prog (Code.loop body) Q ⟨L.toArray,[]⟩ w:=by
 have hb2:((Tryz.f6.body.map loopsIn).bind (fun l=>l[1]?)).getD Code.skip=body:=by rw [hbody];rfl
 obtain rfl:=hb2
 clear hbody
 conv=>arg 2;arg 1;whnf
 have HEX:Hid _:=hexit
 have HRT:Hid _:=hret
 obtain ⟨fL,rfl⟩:=lit L 139 hL0
 replace s6:=lit_at s6
 replace s7:=lit_at s7
 replace s81:=lit_at s81
 replace s82:=lit_at s82
 replace s83:=lit_at s83
 simp only [List.range,List.range.loop,List.map_cons,List.map_nil,s6,s7,s81,s82,s83]
 have HR:Hid (IntRow w ca cs):=hr
 have HLEN:Hid (cs.length=n):=hlen
 have lR:RB<w.heap.size:=lt_of_cell r0
 clear hexit hret hr hlen
 go_loopw [83,6] (fun a b wr=>∃ i:Nat,i≤n∧a=.int .i64 i∧b=.pointer none∧wr=w∧Hid (∀ j,j<i→-274877906944≤cs.getD j 0∧cs.getD j 0≤274877906944)) (fun a _ _=>n - (intOf a).toNat)
 case atStart=>exact ⟨0,Nat.zero_le _,rfl,rfl,rfl,fun j hj=>absurd hj (Nat.not_lt_zero _)⟩
 case round =>
  obtain ⟨i,hi,rfl,rfl,hwr,hin⟩:=hrel
  subst hwr
  by_cases hlt:i<n
  ·have ii:(i:Int)<(n:Int):=by omega
   obtain ⟨b,off,rfl,hbl,hc⟩:=HR.out (by rw [HLEN.out];omega)
   have y0:=hc i (by rw [HLEN.out];exact hlt)
   have hca:=in_is (cs.getD i 0) (-274877906944) 274877906944 wr
   by_cases hk:-274877906944≤cs.getD i 0∧cs.getD i 0≤274877906944
   ·rw [decide_eq_true hk] at hca
    have HIN:Hid (∀ j,j<i+1→-274877906944≤cs.getD j 0∧cs.getD j 0≤274877906944):=fun j hj=>by
     by_cases e:j=i
     ·subst e;exact hk
     ·exact hin.out j (by omega)
    clear hk hc
    generalize cs.getD i 0=CI at *
    go_wp2_with fail
    refine hca.mono ?_
    rintro ev w2 ⟨rfl,hw2⟩
    replace hw2:=hw2.symm
    subst hw2
    clear hca
    go_wp2
    exact ⟨⟨i+1,by omega,by go_num,by first | trivial | rfl,by first | trivial | rfl,HIN.out⟩,by simp [intOf];omega⟩
   ·rw [decide_eq_false hk] at hca
    have HNO:Hid (¬ (∀ c∈cs,-274877906944≤c∧c≤274877906944)):=fun y=>hk (y _ (getD_mem0 (by rw [HLEN.out];exact hlt)))
    clear hk hc
    generalize cs.getD i 0=CI at *
    go_wp2_with fail
    refine hca.mono ?_
    rintro ev w2 ⟨rfl,hw2⟩
    replace hw2:=hw2.symm
    subst hw2
    clear hca
    go_wp2_with fail
    refine (refBare_any 2 _).mono ?_
    rintro ev w3 ⟨rfl,hb3⟩
    have x0:=keep_cell r0 hb3
    have x1:=keep_cell r1 hb3
    have f0:=(hb3.frozen (p:=⟨RB,0,none⟩) lR).trans q0
    have f1:=(hb3.frozen (p:=⟨RB,1,none⟩) lR).trans q1
    have HT:Hid (Turns RB RB wr ((w3.setCell ⟨RB,0,none⟩ (.int .i64 2)).setCell ⟨RB,1,none⟩ (.int .i64 (-1)))):=((Turns.trans (⟨hb3.os,hb3.tape,hb3.output,hb3.size,fun c hc _ _=>hb3.block c hc⟩:Turns RB RB wr w3) (Turns.refl _ _ _)).set (p:=⟨RB,0,none⟩) (.inl rfl) _).set (p:=⟨RB,1,none⟩) (.inl rfl) _
    have HC:Hid (((w3.setCell ⟨RB,0,none⟩ (.int .i64 2)).setCell ⟨RB,1,none⟩ (.int .i64 (-1))).cell? ⟨RB,0,none⟩=some (.int .i64 2)∧((w3.setCell ⟨RB,0,none⟩ (.int .i64 2)).setCell ⟨RB,1,none⟩ (.int .i64 (-1))).cell? ⟨RB,1,none⟩=some (.int .i64 (-1))):=⟨(cell_other (.inr (by decide))).trans (cell_set x0),cell_set ((cell_other (.inr (by decide))).trans x1)⟩
    go_wp2
    exact HRT.out _ _ HNO.out HC.out HT.out rfl (Rest.of rfl)
  ·obtain rfl:i=n:=by omega
   go_wp2
   exact HEX.out _ _ (fun c hc=>by
    obtain ⟨j,hj,e⟩:=List.getElem_of_mem hc
    have:=hin.out j (by rw [← HLEN.out];exact hj)
    rw [List.getD_eq_getElem?_getD,List.getElem?_eq_getElem hj,Option.getD_some,e] at this
    exact this) rfl rfl (Rest.of rfl) rfl
end
section
def on1 (x:Int):Int:=IntKind.u64.wrap (bits .and .u64 (x / 2) 6148914691236517205+bits .and .u64 x 6148914691236517205)
def on2 (x:Int):Int:=IntKind.u64.wrap (bits .and .u64 (x / 4) 3689348814741910323+bits .and .u64 x 3689348814741910323)
def on3 (x:Int):Int:=bits .and .u64 (IntKind.u64.wrap (x / 16+x)) 1085102592571150095
def on4 (x:Int):Int:=IntKind.u64.wrap (x+x / 256)
def on5 (x:Int):Int:=IntKind.u64.wrap (x+x / 65536)
def on6 (x:Int):Int:=IntKind.u64.wrap (x+x / 4294967296)
def on7 (x:Int):Int:=bits .and .i64 (wrap64 x) 127
def onesV (x:Int):Int:=on7 (on6 (on5 (on4 (on3 (on2 (on1 x))))))
theorem u64_in (y:Int):0≤IntKind.u64.wrap y∧IntKind.u64.wrap y≤18446744073709551615:=by
 simp [IntKind.wrap,IntKind.bits,IntKind.signed];omega
theorem and64_in (y z:Int):0≤bits .and .u64 y z∧bits .and .u64 y z≤18446744073709551615:=u64_in _
theorem ones_any (x:Int) (h01:0≤x∧x≤18446744073709551615) (w:World):Calls Tryz.prog 23 #[.int .u64 x] w fun e w'=>e=.returned (.int .i64 (onesV x))∧w'=w:=by
 obtain ⟨h0,h1⟩:=h01
 have HE:Hid (onesV x=on7 (on6 (on5 (on4 (on3 (on2 (on1 x))))))):=rfl
 have e1:IntKind.u64.wrap (bits .and .u64 (x / 2) 6148914691236517205+bits .and .u64 x 6148914691236517205)=on1 x:=rfl
 have b1:0≤on1 x∧on1 x≤18446744073709551615:=u64_in _
 generalize on1 x=y1 at *
 have e2:IntKind.u64.wrap (bits .and .u64 (y1 / 4) 3689348814741910323+bits .and .u64 y1 3689348814741910323)=on2 y1:=rfl
 have b2:0≤on2 y1∧on2 y1≤18446744073709551615:=u64_in _
 generalize on2 y1=y2 at *
 have e3:bits .and .u64 (IntKind.u64.wrap (y2 / 16+y2)) 1085102592571150095=on3 y2:=rfl
 have b3:0≤on3 y2∧on3 y2≤18446744073709551615:=and64_in _ _
 generalize on3 y2=y3 at *
 have e4:IntKind.u64.wrap (y3+y3 / 256)=on4 y3:=rfl
 have b4:0≤on4 y3∧on4 y3≤18446744073709551615:=u64_in _
 generalize on4 y3=y4 at *
 have e5:IntKind.u64.wrap (y4+y4 / 65536)=on5 y4:=rfl
 have b5:0≤on5 y4∧on5 y4≤18446744073709551615:=u64_in _
 generalize on5 y4=y5 at *
 have e6:IntKind.u64.wrap (y5+y5 / 4294967296)=on6 y5:=rfl
 have b6:0≤on6 y5∧on6 y5≤18446744073709551615:=u64_in _
 generalize on6 y5=y6 at *
 have e7:bits .and .i64 (wrap64 y6) 127=on7 y6:=rfl
 generalize on7 y6=y7 at *
 rw [HE.out]
 go_enter Tryz.func23,Tryz.ntmps23
 go_wp2
 go_ret
 exact ⟨rfl,rfl⟩
def pcN:Nat→Nat→Nat
 | 0,_=>0
 | d+1,x=>x % 2+pcN d (x / 2)
theorem pcN_top:∀ (d x:Nat),pcN (d+1) x=pcN d x+x / 2 ^ d % 2:=by
 intro d
 induction d with
 | zero=>intro x;show x % 2+0=0+x / 1 % 2;rw [Nat.div_one];omega
 | succ d ih =>
  intro x
  show x % 2+pcN (d+1) (x / 2)=x % 2+pcN d (x / 2)+_
  rw [ih (x / 2),Nat.div_div_eq_div_mul,Nat.pow_succ,Nat.mul_comm 2]
  omega
def onN (x:Nat):Nat :=
 let n1:=((x / 2) &&& 6148914691236517205)+(x &&& 6148914691236517205)
 let n2:=((n1 / 4) &&& 3689348814741910323)+(n1 &&& 3689348814741910323)
 let n3:=(n2 / 16+n2) &&& 1085102592571150095
 let n4:=n3+n3 / 256
 let n5:=n4+n4 / 65536
 let n6:=n5+n5 / 4294967296
 n6 &&& 127
def onL (x:Nat):Nat:=(fun n1=>(fun n2=>(fun n3=>(fun n4=>(fun n5=>Nat.land (Nat.add n5 (Nat.div n5 4294967296)) 127) (Nat.add n4 (Nat.div n4 65536))) (Nat.add n3 (Nat.div n3 256))) (Nat.land (Nat.add (Nat.div n2 16) n2) 1085102592571150095)) (Nat.add (Nat.land (Nat.div n1 4) 3689348814741910323) (Nat.land n1 3689348814741910323))) (Nat.add (Nat.land (Nat.div x 2) 6148914691236517205) (Nat.land x 6148914691236517205))
def onChk:Nat→Nat→Nat→Bool
 | 0,x,c=>Nat.beq (onL x) c
 | d+1,x,c=>cond (onChk d (Nat.mul 2 x) c) (onChk d (Nat.succ (Nat.mul 2 x)) (Nat.succ c)) false
theorem onChk_all:onChk 16 0 0=true:=by kernel_rfl
theorem onChk_at:∀ d b c,onChk d b c=true→∀ x,x / 2 ^ d=b→onL x=c+pcN d x:=by
 intro d
 induction d with
 | zero =>
  intro b c h x hx
  rw [Nat.pow_zero,Nat.div_one] at hx
  subst hx
  exact Nat.eq_of_beq_eq_true h
 | succ d ih =>
  intro b c h x hx
  have h2:onChk d (2*b) c=true∧onChk d (2*b+1) (c+1)=true:=by
   have h':cond (onChk d (2*b) c) (onChk d (2*b+1) (c+1)) false=true:=h
   cases q:onChk d (2*b) c
   ·rw [q] at h';cases h'
   ·rw [q] at h';exact ⟨rfl,h'⟩
  have e:x / 2 ^ (d+1)=x / 2 ^ d / 2:=by rw [Nat.pow_succ,Nat.div_div_eq_div_mul]
  rw [e] at hx
  rw [pcN_top]
  rcases Nat.mod_two_eq_zero_or_one (x / 2 ^ d) with q | q
  ·rw [q,ih (2*b) c h2.1 x (by omega)]
   omega
  ·rw [q,ih (2*b+1) (c+1) h2.2 x (by omega)]
   omega
theorem onN_is {x:Nat} (h:x<65536):onN x=pcN 16 x:=by
 have:=onChk_at 16 0 0 onChk_all x (Nat.div_eq_of_lt h)
 rw [Nat.zero_add] at this
 exact this
theorem wrapU {n:Nat} (h:n<18446744073709551616):IntKind.u64.wrap (n:Int)=(n:Int):=by
 simp [IntKind.wrap,IntKind.bits,IntKind.signed];omega
theorem onesV_nat {x:Nat} (h:x<65536):onesV x=(onN x:Nat):=by
 have a1:((x / 2) &&& 6148914691236517205)≤x / 2:=Nat.and_le_left
 have a2:(x &&& 6148914691236517205)≤x:=Nat.and_le_left
 have c1:on1 x=((((x / 2) &&& 6148914691236517205)+(x &&& 6148914691236517205):Nat):Int):=by
  unfold on1
  rw [show ((x:Int) / 2)=((x / 2:Nat):Int) by omega,show (6148914691236517205:Int)=((6148914691236517205:Nat):Int) from rfl,u64_and_nat _ _ (by omega) (by decide),u64_and_nat _ _ (by omega) (by decide),← Int.natCast_add]
  exact wrapU (by omega)
 unfold onesV onN
 rw [c1]
 have hn1:(x / 2 &&& 6148914691236517205)+(x &&& 6148914691236517205)≤131072:=by omega
 generalize ((x / 2) &&& 6148914691236517205)+(x &&& 6148914691236517205)=n1 at *
 have b1:((n1 / 4) &&& 3689348814741910323)≤n1 / 4:=Nat.and_le_left
 have b2:(n1 &&& 3689348814741910323)≤n1:=Nat.and_le_left
 have c2:on2 n1=((((n1 / 4) &&& 3689348814741910323)+(n1 &&& 3689348814741910323):Nat):Int):=by
  unfold on2
  rw [show ((n1:Int) / 4)=((n1 / 4:Nat):Int) by omega,show (3689348814741910323:Int)=((3689348814741910323:Nat):Int) from rfl,u64_and_nat _ _ (by omega) (by decide),u64_and_nat _ _ (by omega) (by decide),← Int.natCast_add]
  exact wrapU (by omega)
 rw [c2]
 simp only []
 have hn2:(n1 / 4 &&& 3689348814741910323)+(n1 &&& 3689348814741910323)≤262144:=by omega
 generalize ((n1 / 4) &&& 3689348814741910323)+(n1 &&& 3689348814741910323)=n2 at *
 have d1:((n2 / 16+n2) &&& 1085102592571150095)≤n2 / 16+n2:=Nat.and_le_left
 have c3:on3 n2=(((n2 / 16+n2) &&& 1085102592571150095:Nat):Int):=by
  unfold on3
  rw [show ((n2:Int) / 16+n2)=((n2 / 16+n2:Nat):Int) by omega,wrapU (by omega),show (1085102592571150095:Int)=((1085102592571150095:Nat):Int) from rfl,u64_and_nat _ _ (by omega) (by decide)]
 rw [c3]
 generalize (n2 / 16+n2) &&& 1085102592571150095=n3 at *
 have c4:on4 n3=((n3+n3 / 256:Nat):Int):=by
  unfold on4
  rw [show ((n3:Int)+n3 / 256)=((n3+n3 / 256:Nat):Int) by omega]
  exact wrapU (by omega)
 rw [c4]
 obtain ⟨n4,hn4⟩:∃ n4,n3+n3 / 256=n4:=⟨_,rfl⟩
 rw [hn4]
 have c5:on5 n4=((n4+n4 / 65536:Nat):Int):=by
  unfold on5
  rw [show ((n4:Int)+n4 / 65536)=((n4+n4 / 65536:Nat):Int) by omega]
  exact wrapU (by omega)
 rw [c5]
 obtain ⟨n5,hn5⟩:∃ n5,n4+n4 / 65536=n5:=⟨_,rfl⟩
 rw [hn5]
 have c6:on6 n5=((n5+n5 / 4294967296:Nat):Int):=by
  unfold on6
  rw [show ((n5:Int)+n5 / 4294967296)=((n5+n5 / 4294967296:Nat):Int) by omega]
  exact wrapU (by omega)
 rw [c6]
 obtain ⟨n6,hn6⟩:∃ n6,n5+n5 / 4294967296=n6:=⟨_,rfl⟩
 rw [hn6]
 unfold on7
 rw [show wrap64 ((n6:Nat):Int)=((n6:Nat):Int) by unfold wrap64;omega,show (127:Int)=((127:Nat):Int) from rfl,i64_and_nat _ _ (by omega) (by decide)]
theorem pcN_count:∀ (n x:Nat),(List.range n).countP (bitI (x:Int))=pcN n x:=by
 intro n
 induction n with
 | zero=>intro x;rfl
 | succ n ih =>
  intro x
  rw [List.range_succ_eq_map,List.countP_cons,List.countP_map]
  have e:(bitI (x:Int) ∘ Nat.succ)=bitI ((x / 2:Nat):Int):=by
   funext j
   show bitI (x:Int) (j+1)=bitI ((x / 2:Nat):Int) j
   unfold bitI
   have:(x:Int) / 2 ^ (j+1)=((x / 2:Nat):Int) / 2 ^ j:=by
    rw [show ((x / 2:Nat):Int)=(x:Int) / 2 by omega,Int.pow_succ,Int.mul_comm,← Int.ediv_ediv_of_nonneg (by decide)]
   rw [this]
  rw [e,ih]
  show pcN n (x / 2)+_=x % 2+pcN n (x / 2)
  have:bitI (x:Int) 0=decide (x % 2=1):=by
   unfold bitI
   rw [Int.pow_zero,Int.ediv_one]
   congr 1
   apply propext
   omega
  rw [this]
  rcases Nat.mod_two_eq_zero_or_one x with q | q
  ·rw [q];simp
  ·rw [q];simp;omega
theorem pcN_more:∀ (d n x:Nat),x<2 ^ n→pcN (n+d) x=pcN n x:=by
 intro d n
 induction n with
 | zero =>
  intro x hx
  have:x=0:=by simpa using hx
  subst this
  rw [Nat.zero_add]
  show pcN d 0=0
  induction d with
  | zero=>rfl
  | succ d ih=>show 0 % 2+pcN d (0 / 2)=0;rw [Nat.zero_div,ih]
 | succ n ih =>
  intro x hx
  rw [show n+1+d=(n+d)+1 by omega]
  show x % 2+pcN (n+d) (x / 2)=x % 2+pcN n (x / 2)
  rw [ih (x / 2) (by rw [Nat.pow_succ] at hx;omega)]
theorem ones_small {x n:Nat} (hn:n≤16) (h:x<2 ^ n):onesV x=((List.range n).countP (bitI (x:Int)):Nat):=by
 have hx:x<65536:=Nat.lt_of_lt_of_le h (Nat.pow_le_pow_right (n:=2) (by decide) hn)
 have:=pcN_more (16 - n) n x h
 rw [show n+(16 - n)=16 by omega] at this
 rw [onesV_nat hx,onN_is hx,pcN_count,this]
end
section
open Go.ChangeShapes Go.WideShapes Go.ChangeAt Go.RowKit Go.Joins Go.Deep
theorem Tryz.cellsLoss:Tryz.prog.cellsOf 51=3:=by kernel_rfl
theorem Tryz.cellsReading:Tryz.prog.cellsOf 54=3:=by kernel_rfl
theorem Tryz.cellsRound:Tryz.prog.cellsOf 45=4:=by kernel_rfl
theorem Tryz.cellsIntR:Tryz.prog.cellsOf 3=1:=by kernel_rfl
theorem Tryz.cellsIntsR:Tryz.prog.cellsOf 27=1:=by kernel_rfl
theorem Tryz.cellsLosses:Tryz.prog.cellsOf 42=1:=by kernel_rfl
theorem Tryz.cellsReadings:Tryz.prog.cellsOf 43=1:=by kernel_rfl
section
variable {H:Type} {enc:TypeId × Value→H} {w:World} {spare:Nat→Bool} {held:Bool}
theorem ints_any_len {fuel:Nat} {v:Value} {x:DataW H × List MemPlace} (h:DataW.trod enc Tryz.prog w 0 spare held fuel 27 [v]=some x):∃ a cap l,v=.slice a (l:List Int).length cap∧IntRow w a l∧l.length≤9223372036854775807:=by
 rcases open_ints Tryz.underlying27 Tryz.underlying3 Tryz.cellsIntR h with ⟨hcs,_⟩ | ⟨a,len',cap',zs,hcs,_,hl,hm,hz,_,hcell,hwz⟩
 ·simp at hcs
  subst hcs
  obtain ⟨l,e,hr,_⟩:=ints_at (p:=x.2) (d:=x.1) h
  exact ⟨none,0,l,by rw [← e],hr,by rw [← e];exact Nat.zero_le _⟩
 ·simp at hcs
  subst hcs
  obtain ⟨l,e,hr,_⟩:=ints_at (p:=x.2) (d:=x.1) h
  exact ⟨some a,cap',l,by rw [← e],hr,by rw [← e];unfold maxLen at hm;omega⟩
theorem open_tri {P:Program} {t ti:TypeId} {f0 f1 f2:Field} {n:Nat} {cs:List Value} {x:DataW H × List MemPlace} (ht:P.underlying t=some (.struct #[f0,f1,f2])) (hi:P.underlying ti=some (.int .i64))
  (h0:f0.type=ti∧f0.offset=0) (h1:f1.type=ti∧f1.offset=1) (h2:f2.type=ti∧f2.offset=2) (hc:P.cellsOf t=3) (hci:P.cellsOf ti=1)
  (h:DataW.trod enc P w 0 spare held n t cs=some x):∃ a b c:Int,cs = [.int .i64 a,.int .i64 b,.int .i64 c]∧isInt a∧isInt b∧isInt c:=by
 obtain ⟨y0,y1,y2,m,_,hl,q0,q1,q2⟩:=trod_struct3 ht h
 rw [hc] at hl
 match cs,hl with
 | [v0,v1,v2],_ =>
  rw [h0.1,h0.2,hci] at q0
  rw [h1.1,h1.2,hci] at q1
  rw [h2.1,h2.2,hci] at q2
  obtain ⟨a,e0,_,wa⟩:=DataW.trod_int hi q0
  obtain ⟨b,e1,_,wb⟩:=DataW.trod_int hi q1
  obtain ⟨c,e2,_,wc⟩:=DataW.trod_int hi q2
  simp at e0 e1 e2
  subst e0 e1 e2
  exact ⟨a,b,c,rfl,wa,wb,wc⟩
theorem open_round {n:Nat} {cs:List Value} {x:DataW H × List MemPlace} (h:DataW.trod enc Tryz.prog w 0 spare held n 45 cs=some x) :
  ∃ (r:RoundN) (a:RoundAt),cs = [.slice a.la r.nL a.lc,.slice a.ra r.nR a.rc,.slice a.da r.drifts.length a.dc,.slice a.ma r.modes.length a.mc]∧r.In a w:=by
 obtain ⟨y0,y1,y2,y3,m,_,hl,q0,q1,q2,q3⟩:=trod_struct4 Tryz.underlying45 h
 rw [Tryz.cellsRound] at hl
 match cs,hl with
 | [v0,v1,v2,v3],_ =>
  have r0:DataW.trod enc Tryz.prog w 0 spare held m 42 [v0]=some y0:=by
   have:=q0;rw [Tryz.cellsLosses] at this;simpa using this
  have r1:DataW.trod enc Tryz.prog w 0 spare held m 43 [v1]=some y1:=by
   have:=q1;rw [Tryz.cellsReadings] at this;simpa using this
  have r2:DataW.trod enc Tryz.prog w 0 spare held m 27 [v2]=some y2:=by
   have:=q2;rw [Tryz.cellsIntsR] at this;simpa using this
  have r3:DataW.trod enc Tryz.prog w 0 spare held m 27 [v3]=some y3:=by
   have:=q3;rw [Tryz.cellsIntsR] at this;simpa using this
  obtain ⟨a0,l0,c0,f,g,k,rfl,m0,hr0,i0⟩:=open_rows3 (t:=42) Tryz.underlying42 Tryz.cellsLoss (fun n cs x hh=>open_tri Tryz.underlying51 Tryz.underlying3 ⟨rfl,rfl⟩ ⟨rfl,rfl⟩ ⟨rfl,rfl⟩ Tryz.cellsLoss Tryz.cellsIntR hh) r0
  obtain ⟨a1,l1,c1,f1,g1,k1,rfl,m1,hr1,_⟩:=open_rows3 (t:=43) Tryz.underlying43 Tryz.cellsReading (fun n cs x hh=>open_tri Tryz.underlying54 Tryz.underlying3 ⟨rfl,rfl⟩ ⟨rfl,rfl⟩ ⟨rfl,rfl⟩ Tryz.cellsReading Tryz.cellsIntR hh) r1
  obtain ⟨a2,c2,dr,rfl,hr2,m2⟩:=ints_any_len r2
  obtain ⟨a3,c3,mo,rfl,hr3,m3⟩:=ints_any_len r3
  exact ⟨⟨l0,f,g,k,l1,f1,g1,k1,dr,mo⟩,⟨a0,c0,a1,c1,a2,c2,a3,c3⟩,rfl,hr0,hr1,hr2,hr3,fun j hj=>isInt_le' (i0 j hj).2.2,Nat.le_trans m0 (by decide),Nat.le_trans m1 (by decide),m2,m3⟩
end
end
end Go.Proofs.YtooadfgibdjdeaaGreatDoor
