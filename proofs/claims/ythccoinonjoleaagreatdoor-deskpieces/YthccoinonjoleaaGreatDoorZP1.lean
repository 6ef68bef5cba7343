import Derived.Test.YthccoinonjoleaaGreatDoorZP0
import Derived.Test.YthccoinonjoleaaGreatDoorZAs
import Derived.Test.YthccoinonjoleaaGreatDoorRows
import Derived.Below
import Derived.BigQuiet
import Derived.Carry
import Derived.Deep.AppendLies
import Derived.Deep.QuietTactic
import Derived.Deep.RegionHeld3
import Derived.DeepKeys5
import Derived.Maps.Keyed
import Derived.RegionTactic
import Derived.WalkKit
import Derived.WalkLawsBesides
import Derived.WalkSpells
namespace Go.Proofs.YthccoinonjoleaaGreatDoor
open Go.RowKit
set_option maxRecDepth 100000
set_option maxHeartbeats 16000000
section
open Go.RowKit Go.Extern.Stop Go.Stop Go.Extern
def Told (w:World):Prop:=w.cell? ⟨2,0,none⟩=some (.iface 259 (.agg #[.pointer (some ⟨7,38,none⟩)]))
theorem Told.lt {w:World} (h:Told w):2<w.heap.size:=by
 rcases Nat.lt_or_ge 2 w.heap.size with k | k
 ·exact k
 ·simp [Told,World.cell?,Array.getElem?_eq_none k] at h
theorem Told.below {w w':World} (h:Told w) (hb:Below w.heap.size w w'):Told w':=by
 have:=hb.cell (p:=⟨2,0,none⟩) h.lt
 unfold Told at *
 rw [this];exact h
theorem Told.alloc {w:World} (h:Told w) (o:Obj):Told (w.alloc o):=h.below ((Below.refl _ _).alloc (Nat.le_refl _) _)
theorem tell_nil (w:World):Calls Tryz.prog 79 #[.nilIface] w fun e w'=>e=.returned (.int .i64 0)∧Below w.heap.size w w':=by
 go_enter Tryz.func79,Tryz.ntmps79
 go_wp2
 go_ret
 exact ⟨rfl,Below.refl _ _⟩
theorem tell_e (k:Int) (w:World) (hg:Told w):Calls Tryz.prog 79 #[.iface 25 (.int .i64 k)] w fun e w'=>e=.returned (.int .i64 k)∧Below w.heap.size w w':=by
 have hh:=as_hit k ⟨w.heap.size,0,none⟩ (.int .i64 0) (w.alloc (.cells #[.int .i64 0] 25)) (hg.alloc _) (by simp) (by simp)
 go_enter Tryz.func79,Tryz.ntmps79
 go_wp2_with fail
 refine hh.mono ?_
 rintro e w' ⟨rfl,rfl⟩
 clear hh
 go_wp2
 go_ret
 refine ⟨rfl,?_⟩
 repeat (refine Below.alloc ?_ (by simp;try omega) _)
 exact Below.refl _ _
theorem tell_at (k:Int) (a:Addr) (w:World) (hg:Told w) (hk:w.cell? a=some (.int .i64 k)):Calls Tryz.prog 79 #[.iface 231 (.pointer (some a))] w fun e w'=>e=.returned (.int .i64 k)∧Below w.heap.size w w':=by
 have hal:a.block<w.heap.size:=by
  rcases Nat.lt_or_ge a.block w.heap.size with h | h
  ·exact h
  ·simp [World.cell?,Array.getElem?_eq_none h] at hk
 have hh:=as_at k a ⟨w.heap.size,0,none⟩ (.int .i64 0) (w.alloc (.cells #[.int .i64 0] 25)) (by rw [World.cell?_alloc_lt _ _ a hal];exact hk) (hg.alloc _) (by simp) (by simp)
 clear hk
 go_enter Tryz.func79,Tryz.ntmps79
 go_wp2_with fail
 refine hh.mono ?_
 rintro e w' ⟨rfl,rfl⟩
 clear hh
 go_wp2
 go_ret
 refine ⟨rfl,?_⟩
 repeat (refine Below.alloc ?_ (by simp;try omega) _)
 exact Below.refl _ _
end
section
open Go
def laidList:List (String × DataW Unit):=Rows.deskPiecesRow.laid
def pow10Name:String:=(laidList.getD 2 ("",.agg [])).1
end
section
theorem owns_form {w:World} {base n:Nat} {e:TypeId} {v:Value} {xs:List Value} (h:w.ownsRow base e 1 v n xs):∃ a cap,v=.slice a n cap:=by
 rcases h.2 with ⟨e0,rfl⟩ | ⟨g,cap,cur,hv,_⟩
 ·exact ⟨none,0,e0⟩
 ·exact ⟨_,cap,hv⟩
theorem owns_put {w:World} {base:Nat} {e:TypeId} {size:Nat} {v:Value} {n:Nat} {xs:List Value} {b i:Nat} {x:Value} (h:w.ownsRow base e size v n xs) (hb:b<base):(w.setCell ⟨b,i,none⟩ x).ownsRow base e size v n xs:=by
 obtain ⟨h1,h2⟩:=h
 refine ⟨h1,?_⟩
 rcases h2 with h2 | ⟨g,cap,cur,rfl,hg,hh,r⟩
 ·exact .inl h2
 ·refine .inr ⟨g,cap,cur,rfl,hg,?_,r⟩
  rw [← hh]
  have:b≠g:=by omega
  simp [World.setCell,Array.getElem?_modify,this]
end
section
theorem cell_set {w:World} {P i:Nat} {v u:Value} (h:w.cell? ⟨P,i,none⟩=some u):(w.setCell ⟨P,i,none⟩ v).cell? ⟨P,i,none⟩=some v:=World.cell?_setCell_same _ _ _ h
theorem cell_other {w:World} {P i Q j:Nat} {v:Value} (h:Q≠P∨j≠i):(w.setCell ⟨P,i,none⟩ v).cell? ⟨Q,j,none⟩=w.cell? ⟨Q,j,none⟩:=World.cell?_setCell_other _ _ _ _ (fun e=>by
 rcases h with q | q
 ·exact q (congrArg Addr.block e).symm
 ·exact q (congrArg Addr.off e).symm)
theorem soft_set {w:World} {p q:Addr} {v:Value} : (w.setCell p v).frozen? q=w.frozen? q:=by simp
theorem Turns.drawn {P Q:Nat} {w:World} (q:Nat):Turns P Q w (w.drewN q):=⟨rfl,rfl,rfl,Nat.le_refl _,fun _ _ _ _=>rfl⟩
end
section
section
variable {n f:Nat} {ok:Nat→Bool} {u:Int} {now:Nat→Int} {row:Nat→Nat→Int}
theorem meet_ok (hc:n - f≤(List.range n).countP ok) (h3:3*f+1≤n)
  (hr:∀ i k,i<n→ok i=true→k<n→ok k=true→now k - now i - u≤row i k∧row i k≤now k - now i+u) (i j:Nat) (hi':i<n) (hi:ok i=true) (hj':j<n) (hj:ok j=true) :
  now i+rank ((List.range n).map (row i)) f≤now j+rank ((List.range n).map (row j)) (n - 1 - f)+2*u:=by
 have c1:=count_low ((List.range n).map (row i)) f (by simp;omega)
 have c2:=count_high ((List.range n).map (row j)) (n - 1 - f) (by simp;omega)
 rw [List.countP_map] at c1 c2
 simp only [List.length_map,List.length_range] at c1
 obtain ⟨k,hk,a,b,c⟩:=pigeon3 _ _ _ (List.range n) (show 2*(List.range n).length<_ by rw [List.length_range];exact Nat.lt_of_lt_of_le (by omega:2*n<(n - f)+(n - 1 - f+1)+(n - f)) (Nat.add_le_add (Nat.add_le_add c1 c2) hc))
 have hk:=List.mem_range.1 hk
 simp at a b
 have h1:=hr i k hi' hi hk c
 have h2:=hr j k hj' hj hk c
 omega
theorem low_ok {low:Int} (hc:n - f≤(List.range n).countP ok) (hf:f<n)
  (hr:∀ i k,i<n→ok i=true→k<n→ok k=true→now k - now i - u≤row i k∧row i k≤now k - now i+u)
  (hl:∀ k,k<n→ok k=true→low≤now k) (i:Nat) (hi':i<n) (hi:ok i=true) :
  low - u≤now i+rank ((List.range n).map (row i)) f:=by
 have c2:=count_high ((List.range n).map (row i)) f (by simp;omega)
 rw [List.countP_map] at c2
 obtain ⟨k,hk,b,c⟩:=pigeon2 _ _ (List.range n) (show (List.range n).length<_ by rw [List.length_range];exact Nat.lt_of_lt_of_le (by omega:n<(f+1)+(n - f)) (Nat.add_le_add c2 hc))
 have hk:=List.mem_range.1 hk
 simp at b
 have h1:=hr i k hi' hi hk c
 have h2:=hl k hk c
 omega
theorem high_ok {high:Int} (hc:n - f≤(List.range n).countP ok) (hf:f<n)
  (hr:∀ i k,i<n→ok i=true→k<n→ok k=true→now k - now i - u≤row i k∧row i k≤now k - now i+u)
  (hh:∀ k,k<n→ok k=true→now k≤high) (i:Nat) (hi':i<n) (hi:ok i=true) :
  now i+rank ((List.range n).map (row i)) (n - 1 - f)≤high+u:=by
 have c1:=count_low ((List.range n).map (row i)) (n - 1 - f) (by simp;omega)
 rw [List.countP_map] at c1
 simp only [List.length_map,List.length_range] at c1
 obtain ⟨k,hk,b,c⟩:=pigeon2 _ _ (List.range n) (show (List.range n).length<_ by rw [List.length_range];exact Nat.lt_of_lt_of_le (by omega:n<(n - (n - 1 - f))+(n - f)) (Nat.add_le_add c1 hc))
 have hk:=List.mem_range.1 hk
 simp at b
 have h1:=hr i k hi' hi hk c
 have h2:=hh k hk c
 omega
theorem halves_ok {low high:Int} (hc:n - f≤(List.range n).countP ok) (h3:3*f+1≤n)
  (hr:∀ i k,i<n→ok i=true→k<n→ok k=true→now k - now i - u≤row i k∧row i k≤now k - now i+u)
  (hl:∀ k,k<n→ok k=true→low≤now k) (hh:∀ k,k<n→ok k=true→now k≤high) (i j:Nat) (hi':i<n) (hi:ok i=true) (hj':j<n) (hj:ok j=true) :
  setOn n f now row i - setOn n f now row j≤(high - low) / 2+2*u+1:=by
 have a1:=meet_ok hc h3 hr i j hi' hi hj' hj
 have a2:=low_ok hc (by omega) hr hl j hj' hj
 have a3:=high_ok hc (by omega) hr hh i hi' hi
 unfold setOn midOf
 simp only [List.length_map,List.length_range]
 omega
theorem ends_ok (now:Nat→Int) (ok:Nat→Bool):∀ n:Nat,(∃ k,k<n∧ok k=true)→∃ a b,(a<n∧ok a=true)∧(b<n∧ok b=true)∧∀ k,k<n→ok k=true→now a≤now k∧now k≤now b:=by
 intro n
 induction n with
 | zero=>rintro ⟨k,hk,_⟩;omega
 | succ n ih =>
  rintro ⟨k,hk,hok⟩
  by_cases he:∃ k,k<n∧ok k=true
  ·obtain ⟨a,b,⟨ha,oa⟩,⟨hb,ob⟩,hab⟩:=ih he
   by_cases on:ok n=true
   ·refine ⟨if now n<now a then n else a,if now b<now n then n else b,?_,?_,fun k hk ok=>?_⟩
    ·split
     ·exact ⟨by omega,on⟩
     ·exact ⟨by omega,oa⟩
    ·split
     ·exact ⟨by omega,on⟩
     ·exact ⟨by omega,ob⟩
    ·have h1:=hab a ha oa
     have h2:=hab b hb ob
     rcases Nat.lt_or_ge k n with q | q
     ·have:=hab k q ok
      constructor
      ·split <;> omega
      ·split <;> omega
     ·obtain rfl:k=n:=by omega
      constructor
      ·split <;> omega
      ·split <;> omega
   ·refine ⟨a,b,⟨by omega,oa⟩,⟨by omega,ob⟩,fun k hk ok=>?_⟩
    rcases Nat.lt_or_ge k n with q | q
    ·exact hab k q ok
    ·obtain rfl:k=n:=by omega
     exact absurd ok on
  ·have hkn:k=n:=by
    rcases Nat.lt_or_ge k n with q | q
    ·exact absurd ⟨k,q,hok⟩ he
    ·omega
   subst hkn
   refine ⟨k,k,⟨by omega,hok⟩,⟨by omega,hok⟩,fun j hj oj=>?_⟩
   rcases Nat.lt_or_ge j k with q | q
   ·exact absurd ⟨j,q,oj⟩ he
   ·obtain rfl:j=k:=by omega
    exact ⟨Int.le_refl _,Int.le_refl _⟩
theorem skew_round {skew D:Int} {dr:Nat→Int} (hc:n - f≤(List.range n).countP ok) (h3:3*f+1≤n) (hS:skew / 2+2*u+1+2*D≤skew)
  (hr:∀ i k,i<n→ok i=true→k<n→ok k=true→now k - now i - u≤row i k∧row i k≤now k - now i+u)
  (hs:∀ i j,i<n→ok i=true→j<n→ok j=true→now i - now j≤skew) (hd:∀ i,i<n→-D≤dr i∧dr i≤D) (i j:Nat) (hi':i<n) (hi:ok i=true) (hj':j<n) (hj:ok j=true) :
  (setOn n f now row i+dr i) - (setOn n f now row j+dr j)≤skew:=by
 obtain ⟨a,b,⟨ha,oa⟩,⟨hb,ob⟩,hab⟩:=ends_ok now ok n ⟨i,hi',hi⟩
 have h1:=halves_ok hc h3 hr (fun k hk o=>(hab k hk o).1) (fun k hk o=>(hab k hk o).2) i j hi' hi hj' hj
 have h2:=hs b a hb ob ha oa
 have h3:=hd i hi'
 have h4:=hd j hj'
 omega
theorem count_ok (lies:Nat→Bool) (n f:Nat) (h:(List.range n).countP lies≤f):n - f≤(List.range n).countP (fun k=>!lies k):=by
 have e:=List.length_eq_countP_add_countP lies (l:=List.range n)
 rw [List.length_range] at e
 have e2:(List.range n).countP (fun k=>!lies k)=(List.range n).countP (fun a=>decide ¬ lies a=true):=by
  congr 1
  funext k
  cases lies k <;> rfl
 omega
end
end
section
def emptyS:Value:=.string ByteArray.empty
def noneB (n went:Nat) (t last bag:Int):Bool:=decide (went=n) || (decide (0<went) && decide (t<last+bag))
def putK (many:Nat) (queue:Int) (d:ByteArray):Int:=if 40<d.size then 4 else if queue≤(many:Int) then 12 else 0
def sendK (many went:Nat) (t now last bag:Int):Int:=if ¬ (0≤t∧t≤1099511627776) then 2 else if t<now then 10 else if noneB many went t last bag=true then 8 else 0
def putAll (K:Int) (all:List ByteArray) (d:ByteArray):List ByteArray:=if K=0 then all ++ [d] else all
def sendSeq (K:Int) (went:Nat):Int:=if K=0 then ordN went else 0
def sendDat (K:Int) (all:List ByteArray) (went:Nat):ByteArray:=if K=0 then all.getD went ByteArray.empty else ByteArray.empty
def sendWent (K:Int) (went:Nat):Nat:=if K=0 then went+1 else went
def sendLast (K t last:Int):Int:=if K=0 then t else last
def sendNow (K t now:Int):Int:=if K=0∨K=8 then t else now
end
section
def slotErr (nd fr tq:Nat→Int) (nodes skew round:Int) (j:Nat):Int :=
 if tq j≤fr j then 1 else if (j=0∧fr j<0)∨(0<j∧fr j≤tq (j - 1)+skew) then 10 else if round - skew - 1<tq j then 2 else if nd j<0∨nodes - 1<nd j then 7 else 0
theorem slotErr_to {nd fr tq:Nat→Int} {nodes skew round:Int} {j:Nat} (h:slotErr nd fr tq nodes skew round j=0):fr j<tq j∧tq j≤round - skew - 1∧(j=0→0≤fr j)∧(0<j→tq (j - 1)+skew<fr j)∧0≤nd j∧nd j≤nodes - 1:=by
 unfold slotErr at h
 by_cases h1:tq j≤fr j
 ·simp [h1] at h
 ·rw [if_neg h1] at h
  by_cases h2:(j=0∧fr j<0)∨(0<j∧fr j≤tq (j - 1)+skew)
  ·simp [h2] at h
  ·rw [if_neg h2] at h
   by_cases h3:round - skew - 1<tq j
   ·simp [h3] at h
   ·rw [if_neg h3] at h
    by_cases h4:nd j<0∨nodes - 1<nd j
    ·simp [h4] at h
    ·omega
theorem slots_up {nd fr tq:Nat→Int} {nodes skew round:Int} (hsk:0≤skew) {k:Nat} (h:∀ j,j<k→slotErr nd fr tq nodes skew round j=0):∀ j,j<k→0≤fr j∧fr j<tq j∧tq j≤round - skew - 1:=by
 intro j
 induction j with
 | zero =>
  intro hj
  have g:=slotErr_to (h 0 hj)
  exact ⟨g.2.2.1 rfl,g.1,g.2.1⟩
 | succ j ih =>
  intro hj
  have g:=slotErr_to (h (j+1) hj)
  have g2:=ih (by omega)
  have g3:=g.2.2.2.1 (by omega)
  simp at g3
  exact ⟨by omega,g.1,g.2.1⟩
def linkErr (lf lt lb lq:Nat→Int) (hit:Nat→Bool) (nodes pw:Int) (j:Nat):Int :=
 if lf j<0∨nodes - 1<lf j then 7 else if lt j<1∨pw - 1<lt j∨hit j=true then 1 else if (lb j<1∨137438953472<lb j)∨lq j<1∨16<lq j then 2 else 0
theorem linkErr_7 {lf lt lb lq:Nat→Int} {hit:Nat→Bool} {nodes pw:Int} {j:Nat} (h:lf j<0∨nodes - 1<lf j):linkErr lf lt lb lq hit nodes pw j=7:=by unfold linkErr;rw [if_pos h]
theorem linkErr_1 {lf lt lb lq:Nat→Int} {hit:Nat→Bool} {nodes pw:Int} {j:Nat} (h:0≤lf j) (h':lf j≤nodes - 1) (h2:lt j<1∨pw - 1<lt j∨hit j=true):linkErr lf lt lb lq hit nodes pw j=1:=by
 unfold linkErr;rw [if_neg (by omega),if_pos h2]
theorem linkErr_2 {lf lt lb lq:Nat→Int} {hit:Nat→Bool} {nodes pw:Int} {j:Nat} (h:0≤lf j) (h':lf j≤nodes - 1) (h2:¬ (lt j<1∨pw - 1<lt j∨hit j=true)) (h3:(lb j<1∨137438953472<lb j)∨lq j<1∨16<lq j):linkErr lf lt lb lq hit nodes pw j=2:=by
 unfold linkErr;rw [if_neg (by omega),if_neg h2,if_pos h3]
theorem linkErr_0 {lf lt lb lq:Nat→Int} {hit:Nat→Bool} {nodes pw:Int} {j:Nat} (h:0≤lf j) (h':lf j≤nodes - 1) (h2:¬ (lt j<1∨pw - 1<lt j∨hit j=true)) (h3:1≤lb j∧lb j≤137438953472) (h4:1≤lq j∧lq j≤16):linkErr lf lt lb lq hit nodes pw j=0:=by
 unfold linkErr;rw [if_neg (by omega),if_neg h2,if_neg (by omega)]
def PlanRes (e1 i1 e2 i2 e3 i3 E I:Int):Prop :=
 (e1≠0→E=e1∧I=i1)∧(e1=0→e2≠0→E=e2∧I=1000+i2)∧(e1=0→e2=0→e3≠0→E=e3∧I=2000+i3)∧(e1=0→e2=0→e3=0→E=0∧I = -1)
theorem PlanRes.slot {e1 i1 e2 i2 e3 i3 E I c k:Int} (h:PlanRes e1 i1 e2 i2 e3 i3 E I) (g:e1=c∧i1=k) (hc:c≠0):E=c∧I=k:=by
 obtain ⟨rfl,rfl⟩:=g
 exact h.1 hc
theorem PlanRes.win {e1 i1 e2 i2 e3 i3 E I:Int} (h:PlanRes e1 i1 e2 i2 e3 i3 E I) (h1:e1=0) (h2:e2=0) (h3:e3≠0):E=e3∧I=2000+i3:=h.2.2.1 h1 h2 h3
theorem PlanRes.fine {e1 i1 e2 i2 e3 i3 E I:Int} (h:PlanRes e1 i1 e2 i2 e3 i3 E I) (h1:e1=0) (h2:e2=0) (h3:e3=0):E=0∧I = -1:=h.2.2.2 h1 h2 h3
theorem PlanRes.link {e1 i1 e2 i2 e3 i3 E I c k:Int} (h:PlanRes e1 i1 e2 i2 e3 i3 E I) (h1:e1=0) (g:e2=c∧i2=k) (hc:c≠0):E=c∧I=1000+k:=by
 obtain ⟨rfl,rfl⟩:=g
 exact h.2.1 h1 hc
end
section
structure Foot (O O':List Nat) (w w':World):Prop where
 os:w'.os=w.os
 tape:w'.tape=w.tape
 output:w'.output=w.output
 size:w.heap.size≤w'.heap.size
 block:∀ c,c<w.heap.size→c∉O→w'.heap[c]? = w.heap[c]?
 fresh:∀ c,c∈O'→c∈O∨w.heap.size≤c
theorem Foot.refl (O:List Nat) (w:World):Foot O O w w:=⟨rfl,rfl,rfl,Nat.le_refl _,fun _ _ _=>rfl,fun _ h=>.inl h⟩
theorem Foot.trans {O O' O'':List Nat} {a b c:World} (h:Foot O O' a b) (k:Foot O' O'' b c):Foot O O'' a c :=
 ⟨k.os.trans h.os,k.tape.trans h.tape,k.output.trans h.output,Nat.le_trans h.size k.size,fun i hi hn=>(k.block i (Nat.lt_of_lt_of_le hi h.size) (fun y=>(h.fresh i y).elim hn (fun z=>absurd hi (by omega)))).trans (h.block i hi hn),fun i hi=>by
  rcases k.fresh i hi with z | z
  ·exact h.fresh i z
  ·exact .inr (Nat.le_trans h.size z)⟩
theorem Foot.of_below {O:List Nat} {w w':World} (h:Below w.heap.size w w'):Foot O O w w':=⟨h.os,h.tape,h.output,h.size,fun c hc _=>h.block c hc,fun _ h=>.inl h⟩
theorem Foot.of_turns {O:List Nat} {P Q:Nat} {w w':World} (h:Turns P Q w w') (hp:P∈O) (hq:Q∈O):Foot O O w w' :=
 ⟨h.os,h.tape,h.output,h.size,fun c hc hn=>h.block c hc (fun e=>hn (e▸hp)) (fun e=>hn (e▸hq)),fun _ h=>.inl h⟩
theorem Foot.drawn (O:List Nat) (w:World) (q:Nat):Foot O O w (w.drewN q):=⟨rfl,rfl,rfl,Nat.le_refl _,fun _ _ _=>rfl,fun _ h=>.inl h⟩
theorem Foot.more {O O':List Nat} {w w':World} (h:Foot O O' w w') (X:List Nat):Foot (O ++ X) (O' ++ X) w w' :=
 ⟨h.os,h.tape,h.output,h.size,fun c hc hn=>h.block c hc (fun y=>hn (List.mem_append.2 (.inl y))),fun c hc=>by
  rcases List.mem_append.1 hc with z | z
  ·rcases h.fresh c z with y | y
   ·exact .inl (List.mem_append.2 (.inl y))
   ·exact .inr y
  ·exact .inl (List.mem_append.2 (.inr z))⟩
theorem Foot.under {O O':List Nat} {w w':World} (h:Foot O O' w w') (P:Nat):Foot (P::O) (P::O') w w' :=
 ⟨h.os,h.tape,h.output,h.size,fun c hc hn=>h.block c hc (fun y=>hn (List.mem_cons.2 (.inr y))),fun c hc=>by
  rcases List.mem_cons.1 hc with z | z
  ·exact .inl (List.mem_cons.2 (.inl z))
  ·rcases h.fresh c z with y | y
   ·exact .inl (List.mem_cons.2 (.inr y))
   ·exact .inr y⟩
theorem Foot.below {O O':List Nat} {w w':World} {B:Nat} (h:Foot O O' w w') (hO:∀ c,c∈O→B≤c) (hB:B≤w.heap.size):Below B w w':=⟨h.os,h.tape,h.output,h.size,fun c hc=>h.block c (by omega) (fun y=>by have:=hO c y;omega)⟩
theorem Foot.above {O O':List Nat} {w w':World} {B:Nat} (h:Foot O O' w w') (hO:∀ c,c∈O→B≤c) (hB:B≤w.heap.size):∀ c,c∈O'→B≤c:=fun c hc=>by
 rcases h.fresh c hc with y | y
 ·exact hO c y
 ·omega
theorem Foot.cell {O O':List Nat} {w w':World} (h:Foot O O' w w') {p:Addr} (hp:p.block<w.heap.size) (hn:p.block∉O):w'.cell? p=w.cell? p:=World.cell?_of_block (w:=w) (h.block p.block hp hn)
theorem Foot.frozen {O O':List Nat} {w w':World} (h:Foot O O' w w') {p:Addr} (hp:p.block<w.heap.size) (hn:p.block∉O):w'.frozen? p=w.frozen? p:=World.frozen?_of_block (w:=w) (h.block p.block hp hn)
def Apart (O X:List Nat):Prop:=∀ c,c∈O→c∉X
theorem Apart.symm {O X:List Nat} (h:Apart O X):Apart X O:=fun c hc hn=>h c hn hc
theorem Foot.apart {O O' X:List Nat} {w w':World} (h:Foot O O' w w') (ha:Apart O X) (hX:∀ c,c∈X→c<w.heap.size):Apart O' X:=fun c hc hx=>by
 rcases h.fresh c hc with y | y
 ·exact ha c y hx
 ·have:=hX c hx;omega
def Same (X:List Nat) (w w':World):Prop:=w.heap.size≤w'.heap.size∧∀ c,c∈X→w'.heap[c]? = w.heap[c]?
theorem Foot.same {O O' X:List Nat} {w w':World} (h:Foot O O' w w') (ha:Apart O X) (hX:∀ c,c∈X→c<w.heap.size):Same X w w':=⟨h.size,fun c hc=>h.block c (hX c hc) (fun y=>ha c y hc)⟩
theorem Same.of_below {X:List Nat} {w w':World} (h:Below w.heap.size w w') (hX:∀ c,c∈X→c<w.heap.size):Same X w w':=⟨h.size,fun c hc=>h.block c (hX c hc)⟩
theorem Same.cell {X:List Nat} {w w':World} (h:Same X w w') {p:Addr} (hp:p.block∈X):w'.cell? p=w.cell? p:=World.cell?_of_block (w:=w) (h.2 p.block hp)
theorem Same.frozen {X:List Nat} {w w':World} (h:Same X w w') {p:Addr} (hp:p.block∈X):w'.frozen? p=w.frozen? p:=World.frozen?_of_block (w:=w) (h.2 p.block hp)
theorem Same.part {X Y:List Nat} {w w':World} (h:Same X w w') (hs:∀ c,c∈Y→c∈X):Same Y w w':=⟨h.1,fun c hc=>h.2 c (hs c hc)⟩
theorem owns_same {X:List Nat} {w w':World} {base:Nat} {e:TypeId} {size:Nat} {v:Value} {n:Nat} {xs:List Value} (h:w.ownsRow base e size v n xs) (hs:Same X w w') (hv:∀ g,v.ownBlock=some g→g∈X):w'.ownsRow base e size v n xs:=by
 obtain ⟨h1,h2⟩:=h
 refine ⟨h1,?_⟩
 rcases h2 with h2 | ⟨g,cap,cur,rfl,hg,hh,r⟩
 ·exact .inl h2
 ·refine .inr ⟨g,cap,cur,rfl,hg,?_,r⟩
  rw [hs.2 g (hv g rfl)];exact hh
end
section
theorem Tryz.mfp (fn:Fn) (first cap:Array Value) (w:World):(Instr.makeFunc fn first cap).run Tryz.prog w=.ok (.func fn first cap) w:=rfl
def btw (b c:Nat):Value:=.func (.func 186) #[] #[.pointer (some ⟨b,0,none⟩),.pointer (some ⟨c,0,none⟩)]
def Btw (w:World) (fv:Value) (lo hi:Int):Prop :=
 ∃ b c:Nat,fv=btw b c∧w.cell? ⟨b,0,none⟩=some (.int .i64 lo)∧w.cell? ⟨c,0,none⟩=some (.int .i64 hi)
theorem Btw.below {w w':World} {fv:Value} {lo hi:Int} (h:Btw w fv lo hi) (hb:Below w.heap.size w w'):Btw w' fv lo hi:=by
 obtain ⟨b,c,e,h1,h2⟩:=h
 exact ⟨b,c,e,keep_cell h1 hb,keep_cell h2 hb⟩
theorem between_any (lo hi:Int) (w:World):Calls Tryz.prog 144 #[.int .i64 lo,.int .i64 hi] w fun e w'=>∃ fv,e=.returned fv∧Btw w' fv lo hi∧Below w.heap.size w w':=by
 have hmf:=Tryz.mfp
 go_enter Tryz.func144,Tryz.ntmps144
 go_wp2
 go_ret
 refine ⟨_,rfl,⟨w.heap.size,w.heap.size+1,rfl,by simp,by simp⟩,?_⟩
 repeat (refine Below.alloc ?_ (by simp;try omega) _)
 exact Below.refl _ _
theorem all_any (fv:Value) (lo hi:Int) (b n cap:Nat) (f:Nat→Int) (R:Bool) (w:World) (hn:n≤1000) (hB:Btw w fv lo hi) (hc:∀ j,j<n→w.cell? ⟨b,j,none⟩=some (.int .i64 (f j))) (hb:b<w.heap.size)
  (hR:R=true↔∀ j,j<n→lo≤f j∧f j≤hi) :
  Calls Tryz.prog 143 #[fv,.slice (some ⟨b,0,none⟩) n cap] w fun e w'=>e=.returned (.bool R)∧Below w.heap.size w w':=by
 obtain ⟨c1,c2,rfl,h1,h2⟩:=hB
 unfold btw
 have l1:c1<w.heap.size:=lt_of_cell h1
 have l2:c2<w.heap.size:=lt_of_cell h2
 have HC:Hid (∀ j,j<n→w.cell? ⟨b,j,none⟩=some (.int .i64 (f j))):=hc
 have HR:Hid (R=true↔∀ j,j<n→lo≤f j∧f j≤hi):=hR
 clear hc hR
 go_enter Tryz.func143,Tryz.ntmps143
 go_wp2
 go_loopw [9] (fun t wr=>∃ k:Nat,k≤n∧t=.int .i64 k∧Hid (∀ j,j<k→lo≤f j∧f j≤hi)∧Below w.heap.size w wr) (fun t _=>n - (intOf t).toNat)
 case atStart=>exact ⟨0,Nat.zero_le _,rfl,fun j hj=>absurd hj (Nat.not_lt_zero _),Below.refl _ _⟩
 case round =>
  obtain ⟨k,hk,rfl,h0,hbe⟩:=hrel
  by_cases hlt:k<n
  ·have y0:=(hbe.cell (p:=⟨b,k,none⟩) hb).trans (HC.out k hlt)
   have y1:=(hbe.cell (p:=⟨c1,0,none⟩) l1).trans h1
   have y2:=(hbe.cell (p:=⟨c2,0,none⟩) l2).trans h2
   have hz:b<wr.heap.size:=Nat.lt_of_lt_of_le hb hbe.size
   by_cases g1:lo≤f k
   ·by_cases g2:f k≤hi
    ·go_wp2
     refine ⟨⟨k+1,by omega,by go_num,fun j hj=>?_,hbe⟩,?_⟩
     ·rcases Nat.lt_succ_iff_lt_or_eq.1 hj with q | q
      ·exact h0.out j q
      ·subst q;exact ⟨g1,g2⟩
     ·simp [intOf];omega
    ·have g2':decide (f k≤hi)=false:=decide_eq_false g2
     have hRf:R=false:=by
      cases R with
      | false=>rfl
      | true=>exact absurd ((HR.out.1 rfl) k hlt).2 g2
     go_wp2
     go_ret
     exact ⟨rfl,hbe⟩
   ·have g1':decide (lo≤f k)=false:=decide_eq_false g1
    have hRf:R=false:=by
     cases R with
     | false=>rfl
     | true=>exact absurd ((HR.out.1 rfl) k hlt).1 g1
    go_wp2
    go_ret
    exact ⟨rfl,hbe⟩
  ·have hRt:R=true:=HR.out.2 (fun j hj=>h0.out j (by omega))
   go_wp2
   go_ret
   exact ⟨by rw [hRt];rfl,hbe⟩
theorem all_1 (fv:Value) (lo hi x:Int) (b cap:Nat) (w:World) (hB:Btw w fv lo hi) (h0:w.cell? ⟨b,0,none⟩=some (.int .i64 x)) :
  Calls Tryz.prog 143 #[fv,.slice (some ⟨b,0,none⟩) 1 cap] w fun e w'=>e=.returned (.bool (decide (lo≤x∧x≤hi)))∧Below w.heap.size w w' :=
 all_any fv lo hi b 1 cap (fun _=>x) _ w (by omega) hB (fun j hj=>by
  have:j=0:=by omega
  rw [this];exact h0) (lt_of_cell h0) (by
  rw [decide_eq_true_iff]
  exact ⟨fun h _ _=>h,fun h=>h 0 (by omega)⟩)
theorem all_2 (fv:Value) (lo hi x y:Int) (b cap:Nat) (w:World) (hB:Btw w fv lo hi) (h0:w.cell? ⟨b,0,none⟩=some (.int .i64 x)) (h1:w.cell? ⟨b,1,none⟩=some (.int .i64 y)) :
  Calls Tryz.prog 143 #[fv,.slice (some ⟨b,0,none⟩) 2 cap] w fun e w'=>e=.returned (.bool (decide ((lo≤x∧x≤hi)∧lo≤y∧y≤hi)))∧Below w.heap.size w w' :=
 all_any fv lo hi b 2 cap (fun j=>if j=0 then x else y) _ w (by omega) hB (fun j hj=>by
  have:j=0∨j=1:=by omega
  rcases this with rfl | rfl
  ·exact h0
  ·exact h1) (lt_of_cell h0) (by
  rw [decide_eq_true_iff]
  constructor
  ·intro h j hj
   have:j=0∨j=1:=by omega
   rcases this with rfl | rfl
   ·exact h.1
   ·exact h.2
  ·intro h
   exact ⟨h 0 (by omega),h 1 (by omega)⟩)
theorem all_3 (fv:Value) (lo hi x y z:Int) (b cap:Nat) (w:World) (hB:Btw w fv lo hi) (h0:w.cell? ⟨b,0,none⟩=some (.int .i64 x)) (h1:w.cell? ⟨b,1,none⟩=some (.int .i64 y)) (h2:w.cell? ⟨b,2,none⟩=some (.int .i64 z)) :
  Calls Tryz.prog 143 #[fv,.slice (some ⟨b,0,none⟩) 3 cap] w fun e w'=>e=.returned (.bool (decide ((lo≤x∧x≤hi)∧(lo≤y∧y≤hi)∧lo≤z∧z≤hi)))∧Below w.heap.size w w' :=
 all_any fv lo hi b 3 cap (fun j=>if j=0 then x else if j=1 then y else z) _ w (by omega) hB (fun j hj=>by
  have:j=0∨j=1∨j=2:=by omega
  rcases this with rfl | rfl | rfl
  ·exact h0
  ·exact h1
  ·exact h2) (lt_of_cell h0) (by
  rw [decide_eq_true_iff]
  constructor
  ·intro h j hj
   have:j=0∨j=1∨j=2:=by omega
   rcases this with rfl | rfl | rfl
   ·exact h.1
   ·exact h.2.1
   ·exact h.2.2
  ·intro h
   exact ⟨h 0 (by omega),h 1 (by omega),h 2 (by omega)⟩)
theorem at_none (p:Int) (w:World):Calls Tryz.prog 146 #[.int .i64 0,.int .i64 p] w fun ev w'=>ev=.returned .nilIface∧Below w.heap.size w w':=by
 go_enter Tryz.func146,Tryz.ntmps146
 go_wp2
 go_ret
 exact ⟨rfl,Below.refl _ _⟩
theorem at_some (e p:Int) (he:e≠0) (w:World):Calls Tryz.prog 146 #[.int .i64 e,.int .i64 p] w fun ev w'=>∃ b,ev=.returned (.iface 231 (.pointer (some ⟨b,0,none⟩)))∧w'.cell? ⟨b,0,none⟩=some (.int .i64 e)∧w'.cell? ⟨b,1,none⟩=some (.int .i64 p)∧Below w.heap.size w w':=by
 have h1:(e == 0)=false:=by simpa using he
 clear he
 go_enter Tryz.func146,Tryz.ntmps146
 go_wp2
 go_ret
 refine ⟨_,rfl,by simp,by simp,?_⟩
 repeat (first | refine Below.setCell ?_ (by first | omega | (simp;omega) | simp) _ | refine Below.alloc ?_ (by first | omega | (simp;omega) | simp) _)
 exact Below.refl _ _
def spanErr (fr tq least most:Int):Int:=if tq≤fr then 1 else if fr<least then 10 else if most<tq then 2 else 0
theorem checkSpan_any (fr tq least most:Int) (w:World):Calls Tryz.prog 145 #[.agg #[.int .i64 fr,.int .i64 tq],.int .i64 least,.int .i64 most] w fun ev w'=>ev=.returned (.int .i64 (spanErr fr tq least most))∧Below w.heap.size w w':=by
 unfold spanErr
 by_cases g1:tq≤fr
 ·rw [if_pos g1]
  go_enter Tryz.func145,Tryz.ntmps145
  go_wp2
  go_ret
  exact ⟨rfl,(Below.refl _ _).alloc (Nat.le_refl _) _⟩
 ·rw [if_neg g1]
  have g1':decide (tq≤fr)=false:=decide_eq_false g1
  by_cases g2:fr<least
  ·rw [if_pos g2]
   go_enter Tryz.func145,Tryz.ntmps145
   go_wp2
   go_ret
   exact ⟨rfl,(Below.refl _ _).alloc (Nat.le_refl _) _⟩
  ·rw [if_neg g2]
   have g2':decide (fr<least)=false:=decide_eq_false g2
   by_cases g3:most<tq
   ·rw [if_pos g3]
    go_enter Tryz.func145,Tryz.ntmps145
    go_wp2
    go_ret
    exact ⟨rfl,(Below.refl _ _).alloc (Nat.le_refl _) _⟩
   ·rw [if_neg g3]
    have g3':decide (most<tq)=false:=decide_eq_false g3
    go_enter Tryz.func145,Tryz.ntmps145
    go_wp2
    go_ret
    exact ⟨rfl,(Below.refl _ _).alloc (Nat.le_refl _) _⟩
end
section
def numB:Nat→Nat→List Int
 | 0,n=>[(n:Int)]
 | k+1,n=>if n<128 then [(n:Int)] else ((n % 128:Nat)+128:Int)::numB k (n / 128)
theorem numB_len:∀ k n,1≤(numB k n).length∧(numB k n).length≤k+1
 | 0,n=>by simp [numB]
 | k+1,n=>by
  unfold numB
  split
  ·simp
  ·have:=numB_len k (n / 128)
   simp
   omega
theorem Tryz.infoByte:(Tryz.prog.info? 5).map (fun i=>(i.zero,i.size,i.bytes))=some (some (.int .u8 0),1,1):=by kernel_rfl
def slotsTo (nd fr tq:Nat→Int) (k:Nat):List Int:=(List.range k).flatMap fun j=>[nd j,fr j,tq j]
theorem slotsTo_succ (nd fr tq:Nat→Int) (k:Nat):slotsTo nd fr tq (k+1)=slotsTo nd fr tq k ++ [nd k,fr k,tq k]:=by
 simp [slotsTo,List.range_succ,List.flatMap_append]
theorem slotsTo_len (nd fr tq:Nat→Int) (k:Nat):(slotsTo nd fr tq k).length=3*k:=by
 induction k with
 | zero=>simp [slotsTo]
 | succ k ih=>rw [slotsTo_succ,List.length_append,ih];simp;omega
def linksN (lf lt lb lq:Nat→Int) (k:Nat):List Int:=(List.range k).flatMap fun j=>[lf j,lt j,lb j,lq j]
theorem linksN_succ (lf lt lb lq:Nat→Int) (k:Nat):linksN lf lt lb lq (k+1)=linksN lf lt lb lq k ++ [lf k,lt k,lb k,lq k]:=by
 simp [linksN,List.range_succ,List.flatMap_append]
theorem linksN_len (lf lt lb lq:Nat→Int) (k:Nat):(linksN lf lt lb lq k).length=4*k:=by
 induction k with
 | zero=>simp [linksN]
 | succ k ih=>rw [linksN_succ,List.length_append,ih];simp;omega
def bytesTo (L:List Int) (k:Nat):List Int:=(L.take k).flatMap fun x=>numB 5 x.toNat
theorem bytesTo_succ (L:List Int) (k:Nat) (h:k<L.length):bytesTo L (k+1)=bytesTo L k ++ numB 5 (L[k]).toNat:=by
 unfold bytesTo
 rw [List.take_succ_eq_append_getElem h,List.flatMap_append]
 simp
theorem bytesTo_len (L:List Int):∀ k,k≤L.length→(bytesTo L k).length≤6*k:=by
 intro k
 induction k with
 | zero=>simp [bytesTo]
 | succ k ih =>
  intro h
  rw [bytesTo_succ L k (by omega),List.length_append]
  have:=numB_len 5 (L[k]).toNat
  have:=ih (by omega)
  omega
def planNums (nodes faulty skew jitter drift round frame:Int) (ns nl nw:Nat) (nd fr tq lf lt lb lq wp wf wt:Nat→Int):List Int:=((([nodes,faulty,skew,jitter,drift,round,(ns:Int)] ++ slotsTo nd fr tq ns ++ [(nl:Int)]) ++ linksN lf lt lb lq nl) ++ [frame,(nw:Int)] ++ slotsTo wp wf wt nw)
theorem planNums_len (nodes faulty skew jitter drift round frame:Int) (ns nl nw:Nat) (nd fr tq lf lt lb lq wp wf wt:Nat→Int):(planNums nodes faulty skew jitter drift round frame ns nl nw nd fr tq lf lt lb lq wp wf wt).length=10+3*ns+4*nl+3*nw:=by
 simp [planNums,slotsTo_len,linksN_len];omega
end
section
def far (x:Int):Bool:=decide (x < -1099511627776) || decide (1099511627776<x)
theorem far_false {x:Int} : far x=false↔-1099511627776≤x∧x≤1099511627776:=by
 unfold far;simp
theorem far_true {x:Int} : far x=true↔x < -1099511627776∨1099511627776<x:=by
 unfold far;simp
def midErr (l:List Int) (f:Int):Int:=if f<0∨(l.length:Int)<2*f+1 then 1 else if l.any far=true then 2 else 0
def midVal (l:List Int) (f:Int):Int:=if midErr l f=0 then midOf l f.toNat else 0
theorem midErr_1 {l:List Int} {f:Int} (h:f<0∨(l.length:Int)<2*f+1):midErr l f=1:=by unfold midErr;rw [if_pos h]
theorem midErr_2 {l:List Int} {f:Int} (h:¬ (f<0∨(l.length:Int)<2*f+1)) (h2:l.any far=true):midErr l f=2:=by unfold midErr;rw [if_neg h,if_pos h2]
theorem midErr_0 {l:List Int} {f:Int} (h:¬ (f<0∨(l.length:Int)<2*f+1)) (h2:l.any far=false):midErr l f=0:=by unfold midErr;rw [if_neg h,if_neg (by simp [h2])]
theorem midVal_bad {l:List Int} {f:Int} (h:midErr l f≠0):midVal l f=0:=by unfold midVal;rw [if_neg h]
theorem midVal_ok {l:List Int} {f:Int} (h:midErr l f=0):midVal l f=midOf l f.toNat:=by unfold midVal;rw [if_pos h]
theorem rank_in {l:List Int} (h:l.any far=false) {k:Nat} (hk:k<l.length):-1099511627776≤rank l k∧rank l k≤1099511627776:=by
 have:=rank_mem l hk
 rw [List.any_eq_false] at h
 exact far_false.1 (by simpa using h _ this)
theorem below_then {w u v:World} (h:Below w.heap.size w u) (k:Below u.heap.size u v):Below w.heap.size w v:=h.trans (k.mono h.size)
end
section
def tb (m:Int) (j:Nat):Bool:=m.toNat.testBit j
theorem and_pow_ne (a j:Nat):((a &&& 2 ^ j) != 0)=a.testBit j:=by
 cases h:a.testBit j
 ·have:a &&& 2 ^ j=0:=Nat.eq_of_testBit_eq fun i=>by
   rw [Nat.testBit_and,Nat.testBit_two_pow,Nat.zero_testBit]
   by_cases e:j=i
   ·subst e;rw [h];rfl
   ·rw [decide_eq_false e,Bool.and_false]
  rw [this];rfl
 ·have:a &&& 2 ^ j≠0:=fun e=>by
   have g:(a &&& 2 ^ j).testBit j=true:=by rw [Nat.testBit_and,Nat.testBit_two_pow_self,h];rfl
   rw [e,Nat.zero_testBit] at g
   cases g
  simpa using this
theorem pow_cast (j:Nat):((2:Int) ^ j)=((2 ^ j:Nat):Int):=by simp
theorem tb_bitsV (s:Nat→Bool):∀ n j,tb (bitsV s n) j=(decide (j<n) && s j)
 | 0,j=>by unfold tb;simp [bitsV]
 | n+1,j=>by
  have ih:=tb_bitsV s n j
  have hb:=bitsV_in s n
  unfold tb at ih ⊢
  obtain ⟨a,ha⟩:=Int.eq_ofNat_of_zero_le hb.1
  have hlt:a<2 ^ n:=by
   have:=hb.2
   rw [ha,pow_cast] at this
   omega
  simp only [bitsV]
  rw [ha] at ih ⊢
  rw [Int.toNat_natCast] at ih
  cases hs:s n
  ·simp only [Bool.false_eq_true,if_false,Int.add_zero]
   rw [Int.toNat_natCast,ih]
   by_cases e:j=n
   ·subst e;rw [hs];simp
   ·congr 1
    exact decide_eq_decide.2 (by omega)
  ·simp only [if_true]
   rw [pow_cast,show ((a:Int)+((2 ^ n:Nat):Int)).toNat=2 ^ n*1+a by omega,Nat.two_pow_add_eq_or_of_lt hlt,Nat.testBit_or,ih,Nat.mul_one,Nat.testBit_two_pow]
   by_cases e:n=j
   ·subst e;rw [hs];simp
   ·rw [decide_eq_false e,Bool.false_or]
    congr 1
    exact decide_eq_decide.2 (by omega)
theorem bitsV_tb {m:Int} {n:Nat} (h0:0≤m) (h1:m<2 ^ n):bitsV (tb m) n=m:=by
 have hb:=bitsV_in (tb m) n
 have e:(bitsV (tb m) n).toNat=m.toNat:=Nat.eq_of_testBit_eq fun i=>by
  have this:(bitsV (tb m) n).toNat.testBit i=(decide (i<n) && m.toNat.testBit i):=tb_bitsV (tb m) n i
  rw [this]
  by_cases hi:i<n
  ·rw [decide_eq_true hi,Bool.true_and]
  ·rw [decide_eq_false hi,Bool.false_and]
   refine (Nat.testBit_lt_two_pow ?_).symm
   have h2:m.toNat<2 ^ n:=by
    have:((m.toNat:Nat):Int)<((2 ^ n:Nat):Int):=by rw [← pow_cast];omega
    omega
   exact Nat.lt_of_lt_of_le h2 (Nat.pow_le_pow_right (by decide) (by omega))
 omega
theorem bitsV_congr {s t:Nat→Bool} : ∀ {n:Nat},(∀ j,j<n→s j=t j)→bitsV s n=bitsV t n
 | 0,_=>rfl
 | n+1,h=>by
  simp only [bitsV]
  rw [bitsV_congr (n:=n) fun j hj=>h j (by omega),h n (by omega)]
end
section

end
section
theorem Tryz.mf (fn:Fn) (first cap:Array Value) (w:World):(Instr.makeFunc fn first cap).run Tryz.prog w=.ok (.func fn first cap) w:=rfl
theorem right_no1 (f s n d:Int) (w:World)  (k1:f<0) :
  Calls Tryz.prog 96 #[.agg #[.int .i64 f,.int .i64 s,.int .i64 n,.int .i64 d]] w fun e w'=>e=.returned (.bool false)∧Below w.heap.size w w':=by
 have hmf:=Tryz.mf
 have hn:decide (0≤f)=false:=decide_eq_false (by omega)
 go_enter Tryz.func96,Tryz.ntmps96
 go_wp2
 go_ret
 refine ⟨rfl,?_⟩
 repeat (refine Below.alloc ?_ (by simp;try omega) _)
 exact Below.refl _ _
theorem right_no2 (f s n d:Int) (w:World) (h1:0≤f) (k2:1099511627776<f) :
  Calls Tryz.prog 96 #[.agg #[.int .i64 f,.int .i64 s,.int .i64 n,.int .i64 d]] w fun e w'=>e=.returned (.bool false)∧Below w.heap.size w w':=by
 have hmf:=Tryz.mf
 have hn:decide (f≤1099511627776)=false:=decide_eq_false (by omega)
 go_enter Tryz.func96,Tryz.ntmps96
 go_wp2
 go_ret
 refine ⟨rfl,?_⟩
 repeat (refine Below.alloc ?_ (by simp;try omega) _)
 exact Below.refl _ _
theorem right_no3 (f s n d:Int) (w:World) (h1:0≤f) (h2:f≤1099511627776) (k3:s < -1099511627776) :
  Calls Tryz.prog 96 #[.agg #[.int .i64 f,.int .i64 s,.int .i64 n,.int .i64 d]] w fun e w'=>e=.returned (.bool false)∧Below w.heap.size w w':=by
 have hmf:=Tryz.mf
 have hn:decide (-1099511627776≤s)=false:=decide_eq_false (by omega)
 go_enter Tryz.func96,Tryz.ntmps96
 go_wp2
 go_ret
 refine ⟨rfl,?_⟩
 repeat (refine Below.alloc ?_ (by simp;try omega) _)
 exact Below.refl _ _
theorem right_no4 (f s n d:Int) (w:World) (h1:0≤f) (h2:f≤1099511627776) (h3:-1099511627776≤s) (k4:1099511627776<s) :
  Calls Tryz.prog 96 #[.agg #[.int .i64 f,.int .i64 s,.int .i64 n,.int .i64 d]] w fun e w'=>e=.returned (.bool false)∧Below w.heap.size w w':=by
 have hmf:=Tryz.mf
 have hn:decide (s≤1099511627776)=false:=decide_eq_false (by omega)
 go_enter Tryz.func96,Tryz.ntmps96
 go_wp2
 go_ret
 refine ⟨rfl,?_⟩
 repeat (refine Below.alloc ?_ (by simp;try omega) _)
 exact Below.refl _ _
theorem right_no5 (f s n d:Int) (w:World) (h1:0≤f) (h2:f≤1099511627776) (h3:-1099511627776≤s) (h4:s≤1099511627776) (k5:n<1) :
  Calls Tryz.prog 96 #[.agg #[.int .i64 f,.int .i64 s,.int .i64 n,.int .i64 d]] w fun e w'=>e=.returned (.bool false)∧Below w.heap.size w w':=by
 have hmf:=Tryz.mf
 have hn:decide (1≤n)=false:=decide_eq_false (by omega)
 go_enter Tryz.func96,Tryz.ntmps96
 go_wp2
 go_ret
 refine ⟨rfl,?_⟩
 repeat (refine Below.alloc ?_ (by simp;try omega) _)
 exact Below.refl _ _
theorem right_no6 (f s n d:Int) (w:World) (h1:0≤f) (h2:f≤1099511627776) (h3:-1099511627776≤s) (h4:s≤1099511627776) (h5:1≤n) (k6:1000000<n) :
  Calls Tryz.prog 96 #[.agg #[.int .i64 f,.int .i64 s,.int .i64 n,.int .i64 d]] w fun e w'=>e=.returned (.bool false)∧Below w.heap.size w w':=by
 have hmf:=Tryz.mf
 have hn:decide (n≤1000000)=false:=decide_eq_false (by omega)
 go_enter Tryz.func96,Tryz.ntmps96
 go_wp2
 go_ret
 refine ⟨rfl,?_⟩
 repeat (refine Below.alloc ?_ (by simp;try omega) _)
 exact Below.refl _ _
theorem right_no7 (f s n d:Int) (w:World) (h1:0≤f) (h2:f≤1099511627776) (h3:-1099511627776≤s) (h4:s≤1099511627776) (h5:1≤n) (h6:n≤1000000) (k7:d<1) :
  Calls Tryz.prog 96 #[.agg #[.int .i64 f,.int .i64 s,.int .i64 n,.int .i64 d]] w fun e w'=>e=.returned (.bool false)∧Below w.heap.size w w':=by
 have hmf:=Tryz.mf
 have hn:decide (1≤d)=false:=decide_eq_false (by omega)
 go_enter Tryz.func96,Tryz.ntmps96
 go_wp2
 go_ret
 refine ⟨rfl,?_⟩
 repeat (refine Below.alloc ?_ (by simp;try omega) _)
 exact Below.refl _ _
theorem right_no8 (f s n d:Int) (w:World) (h1:0≤f) (h2:f≤1099511627776) (h3:-1099511627776≤s) (h4:s≤1099511627776) (h5:1≤n) (h6:n≤1000000) (h7:1≤d) (k8:1000000<d) :
  Calls Tryz.prog 96 #[.agg #[.int .i64 f,.int .i64 s,.int .i64 n,.int .i64 d]] w fun e w'=>e=.returned (.bool false)∧Below w.heap.size w w':=by
 have hmf:=Tryz.mf
 have hn:decide (d≤1000000)=false:=decide_eq_false (by omega)
 go_enter Tryz.func96,Tryz.ntmps96
 go_wp2
 go_ret
 refine ⟨rfl,?_⟩
 repeat (refine Below.alloc ?_ (by simp;try omega) _)
 exact Below.refl _ _
theorem right_no9 (f s n d:Int) (w:World) (h1:0≤f) (h2:f≤1099511627776) (h3:-1099511627776≤s) (h4:s≤1099511627776) (h5:1≤n) (h6:n≤1000000) (h7:1≤d) (h8:d≤1000000) (k9:2*d<n) :
  Calls Tryz.prog 96 #[.agg #[.int .i64 f,.int .i64 s,.int .i64 n,.int .i64 d]] w fun e w'=>e=.returned (.bool false)∧Below w.heap.size w w':=by
 have hmf:=Tryz.mf
 have hn:decide (n≤2*d)=false:=decide_eq_false (by omega)
 go_enter Tryz.func96,Tryz.ntmps96
 go_wp2
 go_ret
 refine ⟨rfl,?_⟩
 repeat (refine Below.alloc ?_ (by simp;try omega) _)
 exact Below.refl _ _
theorem right_no10 (f s n d:Int) (w:World) (h1:0≤f) (h2:f≤1099511627776) (h3:-1099511627776≤s) (h4:s≤1099511627776) (h5:1≤n) (h6:n≤1000000) (h7:1≤d) (h8:d≤1000000) (h9:n≤2*d) (k10:2*n<d) :
  Calls Tryz.prog 96 #[.agg #[.int .i64 f,.int .i64 s,.int .i64 n,.int .i64 d]] w fun e w'=>e=.returned (.bool false)∧Below w.heap.size w w':=by
 have hmf:=Tryz.mf
 have hn:decide (d≤2*n)=false:=decide_eq_false (by omega)
 go_enter Tryz.func96,Tryz.ntmps96
 go_wp2
 go_ret
 refine ⟨rfl,?_⟩
 repeat (refine Below.alloc ?_ (by simp;try omega) _)
 exact Below.refl _ _
theorem right_yes (f s n d:Int) (w:World) (h:rightB f s n d=true) :
  Calls Tryz.prog 96 #[.agg #[.int .i64 f,.int .i64 s,.int .i64 n,.int .i64 d]] w fun e w'=>e=.returned (.bool true)∧Below w.heap.size w w':=by
 obtain ⟨h1,h2,h3,h4,h5,h6,h7,h8,h9,h10⟩:=right_of h
 clear h
 have hmf:=Tryz.mf
 go_enter Tryz.func96,Tryz.ntmps96
 go_wp2
 go_ret
 refine ⟨rfl,?_⟩
 repeat (refine Below.alloc ?_ (by simp;try omega) _)
 exact Below.refl _ _
theorem right_no (f s n d:Int) (w:World) (h:rightB f s n d=false) :
  Calls Tryz.prog 96 #[.agg #[.int .i64 f,.int .i64 s,.int .i64 n,.int .i64 d]] w fun e w'=>e=.returned (.bool false)∧Below w.heap.size w w':=by
 have hh:=of_decide_eq_false h
 by_cases h1:0≤f
 rotate_left
 ·exact right_no1 f s n d w (by omega)
 by_cases h2:f≤1099511627776
 rotate_left
 ·exact right_no2 f s n d w h1 (by omega)
 by_cases h3:-1099511627776≤s
 rotate_left
 ·exact right_no3 f s n d w h1 h2 (by omega)
 by_cases h4:s≤1099511627776
 rotate_left
 ·exact right_no4 f s n d w h1 h2 h3 (by omega)
 by_cases h5:1≤n
 rotate_left
 ·exact right_no5 f s n d w h1 h2 h3 h4 (by omega)
 by_cases h6:n≤1000000
 rotate_left
 ·exact right_no6 f s n d w h1 h2 h3 h4 h5 (by omega)
 by_cases h7:1≤d
 rotate_left
 ·exact right_no7 f s n d w h1 h2 h3 h4 h5 h6 (by omega)
 by_cases h8:d≤1000000
 rotate_left
 ·exact right_no8 f s n d w h1 h2 h3 h4 h5 h6 h7 (by omega)
 by_cases h9:n≤2*d
 rotate_left
 ·exact right_no9 f s n d w h1 h2 h3 h4 h5 h6 h7 h8 (by omega)
 by_cases h10:d≤2*n
 rotate_left
 ·exact right_no10 f s n d w h1 h2 h3 h4 h5 h6 h7 h8 h9 (by omega)
 exact absurd ⟨h1,h2,h3,h4,h5,h6,h7,h8,h9,h10⟩ hh
end
section
open Go.Maps (Keyed)
def MapIs (P:Program) (k:TypeId) (w:World) (b:Nat) (f:Value→Option Value):Prop :=
 ∃ (es:Array MapEntry) (clock:Nat),w.heap[b]? = some (.map es clock)∧(∀ (i:Nat) (e:MapEntry),es[i]? = some e→∃ l,keyOf P k e.key=some l)∧(∀ (i j:Nat) (a c:MapEntry),es[i]? = some a→es[j]? = some c→a.key=c.key→i=j)∧∀ x v,f x=some v↔∃ (i:Nat) (e:MapEntry),es[i]? = some e∧e.key=x∧e.val=v
def PutF (f:Value→Option Value) (x v:Value) (f':Value→Option Value):Prop:=f' x=some v∧∀ y,y≠x→f' y=f y
theorem PutF.any (f:Value→Option Value) (x v:Value):∃ f',PutF f x v f':=by
 classical
 exact ⟨fun y=>if y=x then some v else f y,if_pos rfl,fun y h=>if_neg h⟩
section
variable {P:Program} {k t e:TypeId} {w:World} {b:Nat} {f:Value→Option Value}
theorem MapIs.new (P:Program) (k:TypeId) (w:World):MapIs P k (w.alloc (.map #[] 0)) w.heap.size (fun _=>none):=by
 refine ⟨#[],0,heap_alloc_new w _,fun i e he=>(by simp at he),fun i j a c h=>(by simp at h),fun x v=>⟨fun h=>(by cases h),?_⟩⟩
 rintro ⟨i,e,he,_⟩
 simp at he
theorem MapIs.lt (h:MapIs P k w b f):b<w.heap.size:=by
 obtain ⟨es,clock,hb,_⟩:=h
 exact (Array.getElem?_eq_some_iff.1 hb).1
theorem MapIs.keep {w':World} (h:MapIs P k w b f) (e:w'.heap[b]? = w.heap[b]?):MapIs P k w' b f:=by
 obtain ⟨es,clock,hb,r⟩:=h
 exact ⟨es,clock,e.trans hb,r⟩
theorem MapIs.look (h:MapIs P k w b f) (K:Keyed P k) (ht:P.underlying t=some (.map k e)) {z:Value} (hz:(zeroValue e).run P w=.ok z w) {x:Value} {lx:Lit} (hx:keyOf P k x=some lx) (c:Bool) :
  (Instr.lookup t (.map (some b)) x c).run P w=.ok (if c then .tuple #[(f x).getD z,.bool (f x).isSome] else (f x).getD z) w:=by
 obtain ⟨es,clock,hb,hk,hd,hf⟩:=h
 rcases K.find w hx es.toList (fun e he=>by obtain ⟨i,hi⟩:=List.getElem?_of_mem he;exact hk i e (by simpa using hi)) with ⟨h1,h2⟩ | ⟨j,e0,h1,h2,h3⟩
 ·have hn:f x=none:=by
   cases e:f x with
   | none=>rfl
   | some v =>
    obtain ⟨i,e0,he,hk0,_⟩:=(hf x v).1 e
    exact absurd hk0 (h2 e0 (List.mem_of_getElem? (by simpa using he:es.toList[i]? = some e0)))
  rw [hn]
  cases c <;> simp [Instr.lookup,run_underlying ht,MapKept.run_getObj_map hb,K.check w _ hx,h1,hz,Result.andThen]
 ·have hv:f x=some e0.val:=(hf x e0.val).2 ⟨j,e0,by simpa using h2,h3,rfl⟩
  rw [hv]
  cases c <;> simp [Instr.lookup,run_underlying ht,MapKept.run_getObj_map hb,K.check w _ hx,h1,Result.andThen]
theorem MapIs.put (h:MapIs P k w b f) (K:Keyed P k) (ht:P.underlying t=some (.map k e)) {x v:Value} {lx:Lit} (hx:keyOf P k x=some lx) :
  ∃ w' f',(Instr.mapUpdate t (.map (some b)) x v).run P w=.ok () w'∧MapIs P k w' b f'∧PutF f x v f'∧Turns b b w w':=by
 have hlt:=h.lt
 obtain ⟨f',hpf⟩:=PutF.any f x v
 obtain ⟨es,clock,hb,hk,hd,hf⟩:=h
 have hset:∀ o:Obj,Turns b b w { w with heap:=w.heap.setIfInBounds b o }∧({ w with heap:=w.heap.setIfInBounds b o } : World).heap[b]? = some o:=fun o=>by
  refine ⟨⟨rfl,rfl,rfl,by simp,fun c hc h1 _=>?_⟩,?_⟩
  ·show (w.heap.setIfInBounds b o)[c]? = _
   rw [Array.getElem?_setIfInBounds_ne (Ne.symm h1)]
  ·show (w.heap.setIfInBounds b o)[b]? = _
   rw [Array.getElem?_setIfInBounds_self_of_lt hlt]
 rcases K.find w hx es.toList (fun e he=>by obtain ⟨i,hi⟩:=List.getElem?_of_mem he;exact hk i e (by simpa using hi)) with ⟨h1,h2⟩ | ⟨j,e0,h1,h2,h3⟩
 ·have hno:∀ (i:Nat) (e:MapEntry),es[i]? = some e→e.key≠x:=fun i e he=>h2 e (List.mem_of_getElem? (by simpa using he:es.toList[i]? = some e))
  have hp:∀ (i:Nat) (e:MapEntry),(es.push ⟨x,v,clock⟩)[i]? = some e↔(i=es.size∧e=⟨x,v,clock⟩)∨(i≠es.size∧es[i]? = some e):=fun i e=>by
   rw [Array.getElem?_push]
   by_cases q:i=es.size
   ·rw [if_pos q]
    constructor
    ·intro h;exact .inl ⟨q,(Option.some.inj h).symm⟩
    ·rintro (⟨_,rfl⟩ | ⟨h,_⟩)
     ·rfl
     ·exact absurd q h
   ·rw [if_neg q]
    constructor
    ·intro h;exact .inr ⟨q,h⟩
    ·rintro (⟨h,_⟩ | ⟨_,h⟩)
     ·exact absurd h q
     ·exact h
  refine ⟨_,f',?_,⟨es.push ⟨x,v,clock⟩,clock+1,(hset _).2,fun i e he=>?_,fun i j a c ha hc hac=>?_,fun y u=>?_⟩,hpf,(hset _).1⟩
  ·simp [Instr.mapUpdate,run_underlying ht,MapKept.run_getObj_map hb,K.check w false hx,h1,MapKept.run_setObj_map _ hb,Result.andThen]
  ·rcases (hp i e).1 he with ⟨_,rfl⟩ | ⟨_,h⟩
   ·exact ⟨lx,hx⟩
   ·exact hk i e h
  ·rcases (hp i a).1 ha with ⟨q1,rfl⟩ | ⟨q1,h1⟩
   ·rcases (hp j c).1 hc with ⟨q2,rfl⟩ | ⟨q2,h2⟩
    ·omega
    ·exact absurd hac.symm (hno j c h2)
   ·rcases (hp j c).1 hc with ⟨q2,rfl⟩ | ⟨q2,h2⟩
    ·exact absurd hac (hno i a h1)
    ·exact hd i j a c h1 h2 hac
  ·by_cases q:y=x
   ·subst q
    rw [hpf.1]
    constructor
    ·intro h;exact ⟨es.size,⟨y,v,clock⟩,(hp _ _).2 (.inl ⟨rfl,rfl⟩),rfl,Option.some.inj h⟩
    ·rintro ⟨i,e,he,hk1,hv⟩
     rcases (hp i e).1 he with ⟨_,rfl⟩ | ⟨_,h⟩
     ·exact congrArg some hv
     ·exact absurd hk1 (hno i e h)
   ·rw [hpf.2 y q,hf]
    constructor
    ·rintro ⟨i,e,he,r⟩
     have:i<es.size:=(Array.getElem?_eq_some_iff.1 he).1
     exact ⟨i,e,(hp i e).2 (.inr ⟨by omega,he⟩),r⟩
    ·rintro ⟨i,e,he,hk1,hv⟩
     rcases (hp i e).1 he with ⟨_,rfl⟩ | ⟨_,h⟩
     ·exact absurd hk1.symm q
     ·exact ⟨i,e,h,hk1,hv⟩
 ·have hj:es[j]? = some e0:=by simpa using h2
  have hp:∀ (i:Nat) (e:MapEntry),(es.modify j (fun e'=>{ e' with key:=x,val:=v }))[i]? = some e↔(i=j∧e = { e0 with key:=x,val:=v })∨(i≠j∧es[i]? = some e):=fun i e=>by
   rw [Array.getElem?_modify]
   by_cases q:j=i
   ·subst q
    rw [if_pos rfl,hj]
    constructor
    ·intro h;exact .inl ⟨rfl,(Option.some.inj h).symm⟩
    ·rintro (⟨_,rfl⟩ | ⟨h,_⟩)
     ·rfl
     ·exact absurd rfl h
   ·rw [if_neg q]
    constructor
    ·intro h;exact .inr ⟨Ne.symm q,h⟩
    ·rintro (⟨h,_⟩ | ⟨_,h⟩)
     ·exact absurd h.symm q
     ·exact h
  have hno:∀ (i:Nat) (e:MapEntry),i≠j→es[i]? = some e→e.key≠x:=fun i e hi he q=>hi (hd i j e e0 he hj (q.trans h3.symm))
  refine ⟨_,f',?_,⟨es.modify j (fun e'=>{ e' with key:=x,val:=v }),clock,(hset _).2,fun i e he=>?_,fun i i' a c ha hc hac=>?_,fun y u=>?_⟩,hpf,(hset _).1⟩
  ·simp [Instr.mapUpdate,run_underlying ht,MapKept.run_getObj_map hb,K.check w false hx,h1,hj,h3,K.stays w hx,MapKept.run_setObj_map _ hb,Result.andThen]
  ·rcases (hp i e).1 he with ⟨_,rfl⟩ | ⟨_,h⟩
   ·exact ⟨lx,hx⟩
   ·exact hk i e h
  ·rcases (hp i a).1 ha with ⟨q1,rfl⟩ | ⟨q1,h1⟩
   ·rcases (hp i' c).1 hc with ⟨q2,rfl⟩ | ⟨q2,h2⟩
    ·omega
    ·exact absurd hac.symm (hno i' c q2 h2)
   ·rcases (hp i' c).1 hc with ⟨q2,rfl⟩ | ⟨q2,h2⟩
    ·exact absurd hac (hno i a q1 h1)
    ·exact hd i i' a c h1 h2 hac
  ·by_cases q:y=x
   ·subst q
    rw [hpf.1]
    constructor
    ·intro h;exact ⟨j,{ e0 with key:=y,val:=v },(hp _ _).2 (.inl ⟨rfl,rfl⟩),rfl,Option.some.inj h⟩
    ·rintro ⟨i,e,he,hk1,hv⟩
     rcases (hp i e).1 he with ⟨_,rfl⟩ | ⟨q1,h⟩
     ·exact congrArg some hv
     ·exact absurd hk1 (hno i e q1 h)
   ·rw [hpf.2 y q,hf]
    constructor
    ·rintro ⟨i,e,he,hk1,hv⟩
     have:i≠j:=by
      rintro rfl
      rw [hj] at he
      cases he
      exact q (hk1.symm.trans h3)
     exact ⟨i,e,(hp i e).2 (.inr ⟨this,he⟩),hk1,hv⟩
    ·rintro ⟨i,e,he,hk1,hv⟩
     rcases (hp i e).1 he with ⟨_,rfl⟩ | ⟨_,h⟩
     ·exact absurd hk1.symm q
     ·exact ⟨i,e,h,hk1,hv⟩
end
end
section
abbrev thrown (k:Int):Ending:=.panicked [{ v:=.iface 25 (.int .i64 k),recovered:=false }]
theorem ask_yes (k:Int) (w:World):Calls Tryz.prog 40 #[.bool true,.int .i64 k] w fun e w'=>e=.returned (.tuple #[])∧w'=w:=by
 go_enter Tryz.func40,Tryz.ntmps40
 go_wp2
 exact bodyPost_end (v:=.tuple #[]) (by simp [results,Tryz.results40,go_sem]) rfl ⟨rfl,rfl⟩
theorem ask_no (k:Int) (w:World):Calls Tryz.prog 40 #[.bool false,.int .i64 k] w fun e w'=>e=thrown k∧w'=w:=by
 go_enter Tryz.func40,Tryz.ntmps40
 go_wp2
 exact ⟨rfl,rfl,rfl⟩
theorem undrewN {w u:World} {q:Nat} (h:Below (w.drewN q).heap.size (w.drewN q) u):Below w.heap.size w u:=⟨h.os,h.tape,h.output,h.size,h.block⟩
theorem tell_any {E:Value} {k i:Int} (w:World) (hg:Told w) (h:ErrIs w E k i):Calls Tryz.prog 79 #[E] w fun e w'=>e=.returned (.int .i64 k)∧Below w.heap.size w w':=by
 rcases h with ⟨rfl,rfl,_⟩ | ⟨rfl,_⟩ | ⟨b,rfl,_,h1,_⟩
 ·exact tell_nil w
 ·exact tell_e k w hg
 ·exact tell_at k _ w hg h1
theorem askNone_no (w:World):Calls Tryz.prog 50 #[.nilIface] w fun e w'=>e=.returned (.tuple #[])∧Below w.heap.size w w':=by
 have ht:=fun u=>tell_nil u
 have ha:=fun u=>ask_yes 0 u
 go_enter Tryz.func50,Tryz.ntmps50
 go_wp2_with fail
 go_region_held3 (fun _=>True) (exact trivial) (first
  | (go_at_call 79;refine (ht _).mono ?_;rintro ev u1 ⟨rfl,hu1⟩)
  | (go_at_call 40;refine (ha _).mono ?_;rintro ev u2 ⟨rfl,rfl⟩))
 exact bodyPost_end (v:=.tuple #[]) (by simp [results,Tryz.results50,go_sem]) rfl ⟨rfl,undrewN (q:=1) hu1⟩
theorem askNone_some {E:Value} {k i:Int} (w:World) (hg:Told w) (h:ErrIs w E k i) (hk:k≠0):Calls Tryz.prog 50 #[E] w fun e w'=>e=thrown k∧Below w.heap.size w w':=by
 have ha:=fun u=>ask_no k u
 obtain ⟨t,x,rfl⟩:∃ t x,E=.iface t x:=by
  rcases h with ⟨_,h,_⟩ | ⟨h,_⟩ | ⟨b,h,_⟩
  ·exact absurd h hk
  ·exact ⟨_,_,h⟩
  ·exact ⟨_,_,h⟩
 have ht:=fun (q:Nat)=>tell_any (w.drewN q) hg h
 go_enter Tryz.func50,Tryz.ntmps50
 go_wp2_with fail
 refine wp_region_held_drew (S:=fun _=>True) (by kernel_rfl) trivial (fun hHeld=>?_)
 refine tk 0 hHeld ?_
 refine tk 1 hHeld ?_
 refine tk 2 hHeld ?_
 refine rdy 3 fun K hK=>?_
 go_simp
 refine (ht 1).mono ?_
 rintro ev u1 ⟨rfl,hu1⟩
 refine kp hK (fun hHeld=>?_) trivial
 clear hK K
 refine rdy 4 fun K hK=>?_
 go_simp
 refine (ha _).mono ?_
 rintro ev u2 ⟨rfl,rfl⟩
 exact ⟨rfl,rfl,undrewN hu1⟩
theorem askNone_any {E:Value} {k i:Int} (w:World) (hg:Told w) (h:ErrIs w E k i):Calls Tryz.prog 50 #[E] w fun e w'=>e=(if k=0 then .returned (.tuple #[]) else thrown k)∧Below w.heap.size w w':=by
 by_cases hk:k=0
 ·rw [if_pos hk]
  rcases h with ⟨rfl,_,_⟩ | ⟨_,h,_⟩ | ⟨b,_,h,_⟩
  ·exact askNone_no w
  ·exact absurd hk h
  ·exact absurd hk h
 ·rw [if_neg hk];exact askNone_some w hg h hk
theorem rightBytes_yes (v:Value) (w:World):Calls Tryz.prog 46 #[v,.nilIface] w fun e w'=>e=.returned v∧Below w.heap.size w w':=by
 have ha:=askNone_no w
 go_enter Tryz.func46,Tryz.ntmps46
 go_wp2_with fail
 refine ha.mono ?_
 rintro e w' ⟨rfl,hb⟩
 go_wp2_with fail
 go_ret
 exact ⟨rfl,hb⟩
theorem rightBytes_no {E:Value} {k i:Int} (v:Value) (w:World) (hg:Told w) (h:ErrIs w E k i) (hk:k≠0):Calls Tryz.prog 46 #[v,E] w fun e w'=>e=thrown k∧Below w.heap.size w w':=by
 have ha:=askNone_some w hg h hk
 go_enter Tryz.func46,Tryz.ntmps46
 go_wp2_with fail
 refine ha.mono ?_
 rintro e w' ⟨rfl,hb⟩
 exact ⟨rfl,rfl,hb⟩
theorem rightClu_yes (v:Value) (w:World):Calls Tryz.prog 48 #[v,.nilIface] w fun e w'=>e=.returned v∧Below w.heap.size w w':=by
 have ha:=askNone_no w
 go_enter Tryz.func48,Tryz.ntmps48
 go_wp2_with fail
 refine ha.mono ?_
 rintro e w' ⟨rfl,hb⟩
 go_wp2_with fail
 go_ret
 exact ⟨rfl,hb⟩
theorem rightClu_no {E:Value} {k i:Int} (v:Value) (w:World) (hg:Told w) (h:ErrIs w E k i) (hk:k≠0):Calls Tryz.prog 48 #[v,E] w fun e w'=>e=thrown k∧Below w.heap.size w w':=by
 have ha:=askNone_some w hg h hk
 go_enter Tryz.func48,Tryz.ntmps48
 go_wp2_with fail
 refine ha.mono ?_
 rintro e w' ⟨rfl,hb⟩
 exact ⟨rfl,rfl,hb⟩
theorem rightStr_yes (v:Value) (w:World):Calls Tryz.prog 52 #[v,.nilIface] w fun e w'=>e=.returned v∧Below w.heap.size w w':=by
 have ha:=askNone_no w
 go_enter Tryz.func52,Tryz.ntmps52
 go_wp2_with fail
 refine ha.mono ?_
 rintro e w' ⟨rfl,hb⟩
 go_wp2_with fail
 go_ret
 exact ⟨rfl,hb⟩
theorem rightStr_no {E:Value} {k i:Int} (v:Value) (w:World) (hg:Told w) (h:ErrIs w E k i) (hk:k≠0):Calls Tryz.prog 52 #[v,E] w fun e w'=>e=thrown k∧Below w.heap.size w w':=by
 have ha:=askNone_some w hg h hk
 go_enter Tryz.func52,Tryz.ntmps52
 go_wp2_with fail
 refine ha.mono ?_
 rintro e w' ⟨rfl,hb⟩
 exact ⟨rfl,rfl,hb⟩
theorem rightInt_yes (v:Value) (w:World):Calls Tryz.prog 60 #[v,.nilIface] w fun e w'=>e=.returned v∧Below w.heap.size w w':=by
 have ha:=askNone_no w
 go_enter Tryz.func60,Tryz.ntmps60
 go_wp2_with fail
 refine ha.mono ?_
 rintro e w' ⟨rfl,hb⟩
 go_wp2_with fail
 go_ret
 exact ⟨rfl,hb⟩
theorem rightInt_no {E:Value} {k i:Int} (v:Value) (w:World) (hg:Told w) (h:ErrIs w E k i) (hk:k≠0):Calls Tryz.prog 60 #[v,E] w fun e w'=>e=thrown k∧Below w.heap.size w w':=by
 have ha:=askNone_some w hg h hk
 go_enter Tryz.func60,Tryz.ntmps60
 go_wp2_with fail
 refine ha.mono ?_
 rintro e w' ⟨rfl,hb⟩
 exact ⟨rfl,rfl,hb⟩
end
section
def sendsB (g b:Int) (fz:Bool):Bool:=!fz && decide (b<g)
def hearsB (id:Int) (n:Nat) (fz:Bool) (frm what:Int):Bool:=!fz && decide (0≤frm∧frm<n∧frm≠id∧0≤what∧what≤2)
def judgeV (n:Nat) (t s:Nat→Bool) (frm m:Int):Int:=if (0≤frm∧frm<n)∧0≤m∧m<2 ^ n∧judB n frm.toNat s t=true then 1 else 2
def heT (id:Int) (n:Nat) (fz:Bool) (frm what:Int) (t:Nat→Bool):Nat→Bool:=fun j=>if hearsB id n fz frm what=true∧(j:Int)=frm then decide (what=1) else t j
def heG (id:Int) (n:Nat) (fz:Bool) (frm what g:Int):Int:=if hearsB id n fz frm what=true∧what=1 then g+1 else g
def heB (id:Int) (n:Nat) (fz:Bool) (frm what b:Int):Int:=if hearsB id n fz frm what=true∧what=2 then b+1 else b
theorem hears_parts {id:Int} {n:Nat} {fz:Bool} {frm what:Int} (h:hearsB id n fz frm what=true):fz=false∧∃ k:Nat,frm=(k:Int)∧k<n∧(k:Int)≠id∧0≤what∧what≤2:=by
 unfold hearsB at h
 simp only [Bool.and_eq_true,Bool.not_eq_true',decide_eq_true_eq] at h
 obtain ⟨h1,h2,h3,h4,h5,h6⟩:=h
 exact ⟨h1,frm.toNat,by omega,by omega,by omega,h5,h6⟩
theorem heT_acts {id:Int} {n:Nat} {fz:Bool} {k:Nat} {what:Int} (t:Nat→Bool) (h:hearsB id n fz k what=true):heT id n fz k what t=fun j=>if j=k then decide (what=1) else t j:=by
 funext j
 unfold heT
 by_cases e:j=k
 ·rw [if_pos ⟨h,by omega⟩,if_pos e]
 ·rw [if_neg (fun y=>e (by omega)),if_neg e]
theorem heT_not {id:Int} {n:Nat} {fz:Bool} {frm what:Int} (t:Nat→Bool) (h:hearsB id n fz frm what=false):heT id n fz frm what t=t:=by
 funext j
 unfold heT
 rw [if_neg (fun y=>by rw [h] at y;cases y.1)]
end
section
def headErr (nodes faulty skew jitter drift round frame:Int) (ns nl nw:Nat):Int :=
 if nodes<1∨16<nodes∨faulty<0∨nodes<faulty*3+1 then 1
 else if skew<0∨137438953472<skew∨jitter<0∨137438953472<jitter∨drift<0∨137438953472<drift then 2
 else if round<1∨137438953472<round∨frame<1∨137438953472<frame then 2
 else if 32<ns∨8<nl∨32<nw then 4
 else if skew<skew / 2+jitter*2+drift*2+1 then 13 else 0
def CheckIs (nodes faulty skew jitter drift round frame:Int) (ns nl nw:Nat) (nd fr tq lf lt lb lq:Nat→Int) (hit:Nat→Bool) (pw:Int) (wp wf wt:Nat→Int) (E I:Int):Prop :=
 (headErr nodes faulty skew jitter drift round frame ns nl nw≠0∧E=headErr nodes faulty skew jitter drift round frame ns nl nw∧I = -1) ∨
 (headErr nodes faulty skew jitter drift round frame ns nl nw=0∧∃ e1 i1 e2 i2 e3 i3,FirstBad (slotErr nd fr tq nodes skew round) ns e1 i1∧FirstBad (linkErr lf lt lb lq hit nodes pw) nl e2 i2∧FirstBad (winErr wp wf wt frame) nw e3 i3∧PlanRes e1 i1 e2 i2 e3 i3 E I)
theorem headErr_1 {nodes faulty skew jitter drift round frame:Int} {ns nl nw:Nat} (h:nodes<1∨16<nodes∨faulty<0∨nodes<faulty*3+1):headErr nodes faulty skew jitter drift round frame ns nl nw=1:=by unfold headErr;rw [if_pos h]
theorem headErr_2 {nodes faulty skew jitter drift round frame:Int} {ns nl nw:Nat} (h:¬ (nodes<1∨16<nodes∨faulty<0∨nodes<faulty*3+1)) (h2:skew<0∨137438953472<skew∨jitter<0∨137438953472<jitter∨drift<0∨137438953472<drift):headErr nodes faulty skew jitter drift round frame ns nl nw=2:=by unfold headErr;rw [if_neg h,if_pos h2]
theorem headErr_3 {nodes faulty skew jitter drift round frame:Int} {ns nl nw:Nat} (h:¬ (nodes<1∨16<nodes∨faulty<0∨nodes<faulty*3+1)) (h2:¬ (skew<0∨137438953472<skew∨jitter<0∨137438953472<jitter∨drift<0∨137438953472<drift)) (h3:round<1∨137438953472<round∨frame<1∨137438953472<frame):headErr nodes faulty skew jitter drift round frame ns nl nw=2:=by unfold headErr;rw [if_neg h,if_neg h2,if_pos h3]
theorem headErr_4 {nodes faulty skew jitter drift round frame:Int} {ns nl nw:Nat} (h:¬ (nodes<1∨16<nodes∨faulty<0∨nodes<faulty*3+1)) (h2:¬ (skew<0∨137438953472<skew∨jitter<0∨137438953472<jitter∨drift<0∨137438953472<drift)) (h3:¬ (round<1∨137438953472<round∨frame<1∨137438953472<frame)) (h4:32<ns∨8<nl∨32<nw):headErr nodes faulty skew jitter drift round frame ns nl nw=4:=by unfold headErr;rw [if_neg h,if_neg h2,if_neg h3,if_pos h4]
theorem headErr_13 {nodes faulty skew jitter drift round frame:Int} {ns nl nw:Nat} (h:¬ (nodes<1∨16<nodes∨faulty<0∨nodes<faulty*3+1)) (h2:¬ (skew<0∨137438953472<skew∨jitter<0∨137438953472<jitter∨drift<0∨137438953472<drift)) (h3:¬ (round<1∨137438953472<round∨frame<1∨137438953472<frame)) (h4:¬ (32<ns∨8<nl∨32<nw)) (h5:skew<skew / 2+jitter*2+drift*2+1):headErr nodes faulty skew jitter drift round frame ns nl nw=13:=by unfold headErr;rw [if_neg h,if_neg h2,if_neg h3,if_neg h4,if_pos h5]
theorem headErr_0 {nodes faulty skew jitter drift round frame:Int} {ns nl nw:Nat} (h:¬ (nodes<1∨16<nodes∨faulty<0∨nodes<faulty*3+1)) (h2:¬ (skew<0∨137438953472<skew∨jitter<0∨137438953472<jitter∨drift<0∨137438953472<drift)) (h3:¬ (round<1∨137438953472<round∨frame<1∨137438953472<frame)) (h4:¬ (32<ns∨8<nl∨32<nw)) (h5:¬ skew<skew / 2+jitter*2+drift*2+1):headErr nodes faulty skew jitter drift round frame ns nl nw=0:=by unfold headErr;rw [if_neg h,if_neg h2,if_neg h3,if_neg h4,if_neg h5]
theorem CheckIs.head {nodes faulty skew jitter drift round frame:Int} {ns nl nw:Nat} {nd fr tq lf lt lb lq:Nat→Int} {hit:Nat→Bool} {pw:Int} {wp wf wt:Nat→Int} {E I c:Int} (h:CheckIs nodes faulty skew jitter drift round frame ns nl nw nd fr tq lf lt lb lq hit pw wp wf wt E I) (g:headErr nodes faulty skew jitter drift round frame ns nl nw=c) (hc:c≠0):E=c∧I = -1:=by
 rcases h with ⟨_,h1,h2⟩ | ⟨h0,_⟩
 ·exact ⟨h1.trans g,h2⟩
 ·exact absurd (g.symm.trans h0) hc
end
section
def lostK (K lost:Int):Int:=if K=12 then lost+1 else lost
def recvK (all:List ByteArray):Int:=if all = [] then 8 else 0
def recvD (all:List ByteArray):ByteArray:=all.headD ByteArray.empty
end
section
theorem undrewP {V u:World} (h:Below V.drew.heap.size V.drew u):Below V.heap.size V u:=⟨h.os,h.tape,h.output,h.size,h.block⟩
theorem stepB {V u u':World} (hW:Below V.heap.size V u) (h:Below u.heap.size u u'):Below V.heap.size V u':=hW.trans (h.mono hW.size)
theorem stepD {V u u':World} (hW:Below V.heap.size V u) (h:Below u.drew.heap.size u.drew u'):Below V.heap.size V u':=stepB hW (undrewP h)
theorem stepA {V u u':World} {o:Obj} (hW:Below V.heap.size V u) (h:Below (u.alloc o).heap.size (u.alloc o) u'):Below V.heap.size V u':=stepB (hW.alloc hW.size _) h
theorem stepDA {V u u':World} {o:Obj} (hW:Below V.heap.size V u) (h:Below (u.drew.alloc o).heap.size (u.drew.alloc o) u'):Below V.heap.size V u':=stepB (hW.alloc hW.size o) ⟨h.os,h.tape,h.output,h.size,h.block⟩
def Cells10 (b:Nat) (nodes faulty skew jitter drift round frame:Int) (sa la wa:Option Addr) (ns sc nl lc nw wc:Nat) (u:World):Prop :=
 u.cell? ⟨b,0,none⟩=some (.int .i64 nodes)∧u.cell? ⟨b,1,none⟩=some (.int .i64 faulty)∧u.cell? ⟨b,2,none⟩=some (.int .i64 skew)∧u.cell? ⟨b,3,none⟩=some (.int .i64 jitter)∧u.cell? ⟨b,4,none⟩=some (.int .i64 drift)∧u.cell? ⟨b,5,none⟩=some (.int .i64 round)∧u.cell? ⟨b,6,none⟩=some (.slice sa ns sc)∧u.cell? ⟨b,7,none⟩=some (.slice la nl lc)∧u.cell? ⟨b,8,none⟩=some (.int .i64 frame)∧u.cell? ⟨b,9,none⟩=some (.slice wa nw wc)
theorem Cells10.below {b:Nat} {nodes faulty skew jitter drift round frame:Int} {sa la wa:Option Addr} {ns sc nl lc nw wc:Nat} {u u':World} (h:Cells10 b nodes faulty skew jitter drift round frame sa la wa ns sc nl lc nw wc u) (hb:Below u.heap.size u u'):Cells10 b nodes faulty skew jitter drift round frame sa la wa ns sc nl lc nw wc u':=by
 obtain ⟨h0,h1,h2,h3,h4,h5,h6,h7,h8,h9⟩:=h
 exact ⟨keep_cell h0 hb,keep_cell h1 hb,keep_cell h2 hb,keep_cell h3 hb,keep_cell h4 hb,keep_cell h5 hb,keep_cell h6 hb,keep_cell h7 hb,keep_cell h8 hb,keep_cell h9 hb⟩
theorem box10 (nodes faulty skew jitter drift round frame:Int) (sa la wa:Option Addr) (ns sc nl lc nw wc:Nat) (w:World) (t:TypeId) :
  Cells10 w.heap.size nodes faulty skew jitter drift round frame sa la wa ns sc nl lc nw wc (w.alloc (.cells #[.int .i64 nodes,.int .i64 faulty,.int .i64 skew,.int .i64 jitter,.int .i64 drift,.int .i64 round,.slice sa ns sc,.slice la nl lc,.int .i64 frame,.slice wa nw wc] t))∧Below w.heap.size w (w.alloc (.cells #[.int .i64 nodes,.int .i64 faulty,.int .i64 skew,.int .i64 jitter,.int .i64 drift,.int .i64 round,.slice sa ns sc,.slice la nl lc,.int .i64 frame,.slice wa nw wc] t)) :=
 ⟨⟨by simp,by simp,by simp,by simp,by simp,by simp,by simp,by simp,by simp,by simp⟩,(Below.refl _ _).alloc (Nat.le_refl _) _⟩
theorem all_1b (R:Bool) (fv:Value) (lo hi x:Int) (b cap:Nat) (w:World) (hB:Btw w fv lo hi) (h0:w.cell? ⟨b,0,none⟩=some (.int .i64 x)) (hR:decide (lo≤x∧x≤hi)=R) :
  Calls Tryz.prog 143 #[fv,.slice (some ⟨b,0,none⟩) 1 cap] w fun e w'=>e=.returned (.bool R)∧Below w.heap.size w w':=hR▸all_1 fv lo hi x b cap w hB h0
theorem all_2b (R:Bool) (fv:Value) (lo hi x y:Int) (b cap:Nat) (w:World) (hB:Btw w fv lo hi) (h0:w.cell? ⟨b,0,none⟩=some (.int .i64 x)) (h1:w.cell? ⟨b,1,none⟩=some (.int .i64 y)) (hR:decide ((lo≤x∧x≤hi)∧lo≤y∧y≤hi)=R) :
  Calls Tryz.prog 143 #[fv,.slice (some ⟨b,0,none⟩) 2 cap] w fun e w'=>e=.returned (.bool R)∧Below w.heap.size w w':=hR▸all_2 fv lo hi x y b cap w hB h0 h1
theorem all_3b (R:Bool) (fv:Value) (lo hi x y z:Int) (b cap:Nat) (w:World) (hB:Btw w fv lo hi) (h0:w.cell? ⟨b,0,none⟩=some (.int .i64 x)) (h1:w.cell? ⟨b,1,none⟩=some (.int .i64 y)) (h2:w.cell? ⟨b,2,none⟩=some (.int .i64 z)) (hR:decide ((lo≤x∧x≤hi)∧(lo≤y∧y≤hi)∧lo≤z∧z≤hi)=R) :
  Calls Tryz.prog 143 #[fv,.slice (some ⟨b,0,none⟩) 3 cap] w fun e w'=>e=.returned (.bool R)∧Below w.heap.size w w':=hR▸all_3 fv lo hi x y z b cap w hB h0 h1 h2
theorem Btw.alloc {w:World} {fv:Value} {lo hi:Int} (h:Btw w fv lo hi) (o:Obj):Btw (w.alloc o) fv lo hi:=h.below ((Below.refl _ _).alloc (Nat.le_refl _) _)
theorem wrap_smallP (n:Int) (h0:0≤n) (h:n≤1000000):IntKind.i64.wrap n=n:=by
 simp [IntKind.wrap,IntKind.bits,IntKind.signed]
 omega
theorem pow_smallP (n:Nat) (h:n≤15):1≤(2:Int) ^ n∧(2:Int) ^ n≤32768:=by
 have:n=0∨n=1∨n=2∨n=3∨n=4∨n=5∨n=6∨n=7∨n=8∨n=9∨n=10∨n=11∨n=12∨n=13∨n=14∨n=15:=by omega
 rcases this with rfl | rfl | rfl | rfl | rfl | rfl | rfl | rfl | rfl | rfl | rfl | rfl | rfl | rfl | rfl | rfl <;> decide
end
section
structure Fam {I:Type} (w:World) (O:I→List Nat):Prop where
 lt:∀ i c,c∈O i→c<w.heap.size
 ap:∀ i j,i≠j→Apart (O i) (O j)
section
variable {I:Type} {w w':World} {O:I→List Nat}
def setO [DecidableEq I] (O:I→List Nat) (i:I) (X:List Nat):I→List Nat:=fun j=>if j=i then X else O j
theorem setO_at [DecidableEq I] (O:I→List Nat) (i:I) (X:List Nat):setO O i X i=X:=if_pos rfl
theorem setO_not [DecidableEq I] (O:I→List Nat) {i j:I} (X:List Nat) (h:j≠i):setO O i X j=O j:=if_neg h
theorem Fam.same (h:Fam w O) {i:I} {X:List Nat} (k:Foot (O i) X w w') {j:I} (hj:j≠i):Same (O j) w w':=k.same (h.ap i j (Ne.symm hj)) (h.lt j)
theorem Fam.step [DecidableEq I] (h:Fam w O) {i:I} {X:List Nat} (k:Foot (O i) X w w') (hX:∀ c,c∈X→c<w'.heap.size):Fam w' (setO O i X):=by
 refine ⟨fun j c hc=>?_,fun a b hab=>?_⟩
 ·by_cases e:j=i
  ·subst e;rw [setO_at] at hc;exact hX c hc
  ·rw [setO_not _ _ e] at hc;exact Nat.lt_of_lt_of_le (h.lt j c hc) k.size
 ·by_cases ea:a=i
  ·subst ea
   rw [setO_at,setO_not _ _ (Ne.symm hab)]
   exact k.apart (h.ap a b hab) (h.lt b)
  ·rw [setO_not _ _ ea]
   by_cases eb:b=i
   ·subst eb
    rw [setO_at]
    exact (k.apart (h.ap b a (Ne.symm hab)) (h.lt a)).symm
   ·rw [setO_not _ _ eb]
    exact h.ap a b hab
theorem Fam.below (h:Fam w O) (k:Below w.heap.size w w'):Fam w' O∧∀ i,Same (O i) w w' :=
 ⟨⟨fun i c hc=>Nat.lt_of_lt_of_le (h.lt i c hc) k.size,h.ap⟩,fun i=>Same.of_below k (h.lt i)⟩
theorem Fam.drawn (h:Fam w O) (q:Nat):Fam (w.drewN q) O:=⟨h.lt,h.ap⟩
theorem Fam.add [DecidableEq I] (h:Fam w O) {i:I} {X:List Nat} (k:Below w.heap.size w w') (hi:O i = []) (hX:∀ c,c∈X→w.heap.size≤c∧c<w'.heap.size):Fam w' (setO O i X):=by
 refine h.step (i:=i) ?_ (fun c hc=>(hX c hc).2)
 rw [hi]
 exact ⟨k.os,k.tape,k.output,k.size,fun c hc _=>k.block c hc,fun c hc=>.inr (hX c hc).1⟩
theorem Fam.low {B:Nat} {w0:World} (hb:Below B w0 w) (hB:B≤w.heap.size) {i:I} {X:List Nat} (k:Foot (O i) X w w') (hl:∀ i c,c∈O i→B≤c):Below B w0 w'∧∀ c,c∈X→B≤c :=
 ⟨hb.trans (k.below (hl i) hB),k.above (hl i) hB⟩
end
end
section
theorem i64_andNot_nat (a b:Nat) (ha:a<9223372036854775808) (hb:b<9223372036854775808):bits .andNot .i64 (a:Int) (b:Int)=((a &&& (18446744073709551615 - b):Nat):Int):=by
 show IntKind.i64.wrap ((BitVec.ofInt 64 (a:Int) &&& ~~~BitVec.ofInt 64 (b:Int)).toNat:Int)=_
 rw [BitVec.toNat_and,BitVec.toNat_not,ofInt_u64 a (by omega),ofInt_u64 b (by omega)]
 have e:2 ^ 64 - 1 - b=18446744073709551615 - b:=by omega
 rw [e]
 exact wrap_nat _ (Nat.lt_of_le_of_lt Nat.and_le_left ha)
theorem pow_nat_le {k n:Nat} (h:k≤n):(2:Nat) ^ k≤2 ^ n:=Nat.pow_le_pow_right (by decide) h
theorem pow_small {k:Nat} (h:k≤16):(2:Nat) ^ k≤65536:=pow_nat_le (n:=16) h
theorem is_bitsV {a n:Nat} {s:Nat→Bool} (h:∀ j,a.testBit j=(decide (j<n) && s j)):(a:Int)=bitsV s n:=by
 have hb:=(bitsV_in s n).1
 have e:(bitsV s n).toNat=a:=Nat.eq_of_testBit_eq fun i=>by
  rw [h i];exact tb_bitsV s n i
 omega
theorem bitsV_nat (t:Nat→Bool) (n:Nat):∃ a:Nat,bitsV t n=(a:Int)∧a<2 ^ n∧∀ j,a.testBit j=(decide (j<n) && t j):=by
 have hb:=bitsV_in t n
 refine ⟨(bitsV t n).toNat,by omega,?_,fun j=>tb_bitsV t n j⟩
 have:(((bitsV t n).toNat:Nat):Int)<((2 ^ n:Nat):Int):=by rw [← pow_cast];omega
 omega
theorem or_bit (t:Nat→Bool) {n k:Nat} (hn:n≤16) (hk:k<n):bits BinOp.or .i64 (bitsV t n) (2 ^ k)=bitsV (fun j=>if j=k then true else t j) n:=by
 obtain ⟨a,ha,hl,hb⟩:=bitsV_nat t n
 have p1:=pow_small hn
 have p2:=pow_small (k:=k) (by omega)
 rw [ha,pow_cast,i64_or_nat a (2 ^ k) (by omega) (by omega)]
 refine is_bitsV fun j=>?_
 rw [Nat.testBit_or,hb,Nat.testBit_two_pow]
 by_cases e:k=j
 ·subst e;simp [hk]
 ·rw [decide_eq_false e,Bool.or_false,if_neg (Ne.symm e)]
theorem clear_bit (t:Nat→Bool) {n k:Nat} (hn:n≤16) (hk:k<n):bits BinOp.andNot .i64 (bitsV t n) (2 ^ k)=bitsV (fun j=>if j=k then false else t j) n:=by
 obtain ⟨a,ha,hl,hb⟩:=bitsV_nat t n
 have p1:=pow_small hn
 have p2:=pow_small (k:=k) (by omega)
 rw [ha,pow_cast,i64_andNot_nat a (2 ^ k) (by omega) (by omega)]
 refine is_bitsV fun j=>?_
 rw [show 18446744073709551615 - 2 ^ k=2 ^ 64 - (2 ^ k+1) by omega,Nat.testBit_and,Nat.testBit_two_pow_sub_succ (by omega),hb,Nat.testBit_two_pow]
 by_cases e:k=j
 ·subst e;simp
 ·rw [decide_eq_false e,Bool.not_false,Bool.and_true,if_neg (Ne.symm e)]
  by_cases q:j<n
  ·rw [decide_eq_true q,decide_eq_true (show j<64 by omega),Bool.and_true]
  ·rw [decide_eq_false q];rfl
theorem all_bits:∀ n,bitsV (fun _=>true) n=2 ^ n - 1
 | 0=>rfl
 | n+1=>by
  have h:=all_bits n
  have e:(2:Int) ^ (n+1)=2 ^ n*2:=Int.pow_succ 2 n
  simp only [bitsV]
  rw [h,if_pos trivial];omega
theorem told_good (t:Nat→Bool) {n k:Nat} (hk:k<n) (m:Int):m=bitsV (fun j=>if j=k then true else t j) n↔0≤m∧m<2 ^ n∧judB n k (tb m) t=true:=by
 constructor
 ·intro e
  have hb:=bitsV_in (fun j=>if j=k then true else t j) n
  refine ⟨by omega,by omega,judB_iff.2 ⟨?_,fun j hj hne=>?_⟩⟩
  ·rw [e,tb_bitsV,decide_eq_true hk];simp
  ·rw [e,tb_bitsV,decide_eq_true hj,if_neg hne];rfl
 ·rintro ⟨h0,h1,h2⟩
  obtain ⟨g1,g2⟩:=judB_iff.1 h2
  rw [← bitsV_tb h0 h1]
  refine bitsV_congr fun j hj=>?_
  by_cases e:j=k
  ·subst e;rw [if_pos rfl];exact g1
  ·rw [if_neg e];exact g2 j hj e
theorem rest_bits {m:Int} {n:Nat} (hn:n≤16) (h0:-9223372036854775808≤m) (h1:m<9223372036854775808):(bits BinOp.andNot .i64 m (2 ^ n - 1) != 0) = !decide (0≤m∧m<2 ^ n):=by
 have p1:=pow_small hn
 have p0:0<(2:Nat) ^ n:=Nat.pow_pos (by decide)
 obtain ⟨A,hA⟩:∃ A,(BitVec.ofInt 64 m).toNat=A:=⟨_,rfl⟩
 have hA2:(A:Int)=m % 18446744073709551616:=by
  rw [← hA,BitVec.toNat_ofInt]
  omega
 have hAl:A<2 ^ 64:=by rw [← hA];exact (BitVec.ofInt 64 m).isLt
 have e1:((2:Int) ^ n - 1)=((2 ^ n - 1:Nat):Int):=by rw [pow_cast];omega
 obtain ⟨X,hX⟩:∃ X,A &&& (2 ^ 64 - ((2 ^ n - 1)+1))=X:=⟨_,rfl⟩
 have hXl:X<2 ^ 64:=by rw [← hX];exact Nat.lt_of_le_of_lt Nat.and_le_left hAl
 have eB:bits BinOp.andNot .i64 m (2 ^ n - 1)=IntKind.i64.wrap (X:Int):=by
  show IntKind.i64.wrap ((BitVec.ofInt 64 m &&& ~~~BitVec.ofInt 64 (2 ^ n - 1)).toNat:Int)=_
  rw [e1,BitVec.toNat_and,BitVec.toNat_not,hA,ofInt_u64 (2 ^ n - 1) (by omega)]
  rw [← hX]
  congr 3
  omega
 have hz:IntKind.i64.wrap (X:Int)=0↔X=0:=by
  simp [IntKind.wrap,IntKind.bits,IntKind.signed];omega
 have hbit:∀ i,X.testBit i=(A.testBit i && (decide (i<64) && !decide (i<n))):=fun i=>by
  rw [← hX,Nat.testBit_and,Nat.testBit_two_pow_sub_succ (by omega),Nat.testBit_two_pow_sub_one]
 have hX0:X=0↔A<2 ^ n:=by
  constructor
  ·intro e
   refine Nat.lt_pow_two_of_testBit A fun i hi=>?_
   by_cases q:i<64
   ·have:=hbit i
    rw [e,Nat.zero_testBit,decide_eq_true q,decide_eq_false (by omega)] at this
    simpa using this.symm
   ·exact Nat.testBit_lt_two_pow (Nat.lt_of_lt_of_le hAl (pow_nat_le (by omega)))
  ·intro hlt
   refine Nat.eq_of_testBit_eq fun i=>?_
   rw [hbit,Nat.zero_testBit]
   by_cases q:i<n
   ·rw [decide_eq_true q];simp
   ·rw [Nat.testBit_lt_two_pow (Nat.lt_of_lt_of_le hlt (pow_nat_le (by omega)))];rfl
 have hm:A<2 ^ n↔(0≤m∧m<2 ^ n):=by
  rw [pow_cast]
  constructor <;> intro q <;> omega
 rw [eB]
 by_cases q:0≤m∧m<2 ^ n
 ·rw [decide_eq_true q,hz.2 (hX0.2 (hm.2 q))];rfl
 ·rw [decide_eq_false q,Bool.not_false]
  simp only [bne_iff_ne,ne_eq]
  intro e
  exact q (hm.1 (hX0.1 (hz.1 e)))
end
section
def nwV (nw:Int):Int:=if nw<0 then 0 else nw
structure Rcv (w:World) (O:List Nat) (P:Nat) (nw a b:Int):Prop where
 c0:w.cell? ⟨P,0,none⟩=some (.bool (decide (0≤nw)))
 c1:w.cell? ⟨P,1,none⟩=some (.int .i64 (nwV nw))
 c2:w.cell? ⟨P,2,none⟩=some (.int .i64 a)
 c3:w.cell? ⟨P,3,none⟩=some (.int .i64 b)
 z:∀ i,w.frozen? ⟨P,i,none⟩=false
 lp:P<w.heap.size
 own:O = [P]
theorem Rcv.lt {w:World} {O:List Nat} {P:Nat} {nw a b:Int} (h:Rcv w O P nw a b):∀ c,c∈O→c<w.heap.size:=by
 intro c hcc
 rw [h.own] at hcc
 have:=h.lp
 simp only [List.mem_cons,List.not_mem_nil,or_false] at hcc
 omega
theorem Rcv.keep {w w':World} {O:List Nat} {P:Nat} {nw a b:Int} (h:Rcv w O P nw a b) (k:Same O w w'):Rcv w' O P nw a b:=by
 have hp:P∈O:=by rw [h.own];exact List.mem_cons.2 (.inl rfl)
 exact ⟨(k.cell (p:=⟨P,0,none⟩) hp).trans h.c0,(k.cell (p:=⟨P,1,none⟩) hp).trans h.c1,(k.cell (p:=⟨P,2,none⟩) hp).trans h.c2,(k.cell (p:=⟨P,3,none⟩) hp).trans h.c3,fun i=>(k.frozen (p:=⟨P,i,none⟩) hp).trans (h.z i),Nat.lt_of_lt_of_le h.lp k.1,h.own⟩
theorem rcvNew (w:World):Calls Tryz.prog 154 #[] w fun e w'=>∃ O P,e=.returned (.pointer (some ⟨P,0,none⟩))∧Rcv w' O P (-1) 0 0∧Below w.heap.size w w'∧∀ c,c∈O→w.heap.size≤c:=by
 have fin:Rcv (w.alloc (.cells #[.bool false,.int .i64 0,.int .i64 0,.int .i64 0] 257)) [w.heap.size] w.heap.size (-1) 0 0 :=
  ⟨by simp,by simp [nwV],by simp,by simp,fun i=>by simp,by simp,rfl⟩
 have HF:Hid _:=fin
 have HB:Hid (Below w.heap.size w (w.alloc (.cells #[.bool false,.int .i64 0,.int .i64 0,.int .i64 0] 257))):=(Below.refl _ _).alloc (Nat.le_refl _) _
 clear fin
 go_enter Tryz.func154,Tryz.ntmps154
 go_wp2
 go_ret
 exact ⟨_,_,rfl,HF.out,HB.out,fun c hc=>by
  simp only [List.mem_cons,List.not_mem_nil,or_false] at hc
  omega⟩
def aheadB (nw seq:Int):Bool:=decide (seq≠0) && (decide (1≤(seq - nw+255) % 255) && decide ((seq - nw+255) % 255≤127))
theorem ordN_self {k:Nat} (h:k≤255):ordN k=(k:Int):=by
 unfold ordN
 split <;> omega
theorem ahead_met {nw seq:Int} (h0:0≤nw) (h1:nw≤255) (h2:0≤seq) (h3:seq≤255):metB nw seq 127=aheadB nw seq:=by
 obtain ⟨k,rfl⟩:∃ k:Nat,nw=k:=⟨nw.toNat,by omega⟩
 have hk:k≤255:=by omega
 rw [Bool.eq_iff_iff,metB_iff]
 unfold aheadB
 rw [← ordN_self hk]
 simp only [ordN_steps,Bool.and_eq_true,decide_eq_true_eq]
 rw [ordN_self hk]
 constructor
 ·rintro ⟨d,q1,q2,q3⟩
  unfold ordN at q3
  rw [if_neg (by omega)] at q3
  omega
 ·rintro ⟨q1,q2,q3⟩
  refine ⟨((seq - k+255) % 255).toNat,by omega,by omega,?_⟩
  unfold ordN
  rw [if_neg (by omega)]
  omega
theorem ahead_any {nw seq:Int} (h0:0≤nw) (h1:nw≤255) (h2:0≤seq) (h3:seq≤255) (w:World):Calls Tryz.prog 202 #[.int .i64 nw,.int .i64 seq] w fun e w'=>e=.returned (.bool (aheadB nw seq))∧w'=w:=by
 unfold aheadB
 by_cases k0:seq=0
 ·subst k0
  go_enter Tryz.func202,Tryz.ntmps202
  go_wp2
  go_ret
  exact ⟨by simp,rfl⟩
 ·have k1:(seq == 0)=false:=by simpa using k0
  have hm:Int.tmod (seq - nw+255) 255=(seq - nw+255) % 255:=Int.tmod_eq_emod_of_nonneg (by omega)
  have hx:0≤(seq - nw+255) % 255∧(seq - nw+255) % 255<255:=by omega
  rw [decide_eq_true k0,Bool.true_and]
  generalize (seq - nw+255) % 255=x at *
  by_cases q1:1≤x
  ·by_cases q2:x≤127
   ·rw [decide_eq_true q1,decide_eq_true q2]
    go_enter Tryz.func202,Tryz.ntmps202
    go_wp2
    go_ret
    exact ⟨rfl,rfl⟩
   ·have q2':=decide_eq_false q2
    rw [decide_eq_true q1,q2']
    clear q2
    go_enter Tryz.func202,Tryz.ntmps202
    go_wp2
    go_ret
    exact ⟨rfl,rfl⟩
  ·have q1':=decide_eq_false q1
   rw [q1',Bool.false_and]
   clear q1
   go_enter Tryz.func202,Tryz.ntmps202
   go_wp2
   go_ret
   exact ⟨rfl,rfl⟩
theorem takeB_low {nw seq:Int} (h:¬ (0≤seq∧seq≤255)):takeB nw seq=false:=by
 unfold takeB
 rw [decide_eq_false h,Bool.false_and]
theorem takeB_none {nw seq:Int} (h:0≤seq∧seq≤255) (hn:nw<0):takeB nw seq=true:=by
 unfold takeB
 rw [decide_eq_true h,decide_eq_true hn]
 rfl
theorem takeB_ahead {nw seq:Int} (h:0≤seq∧seq≤255) (hn:0≤nw) (h1:nw≤255):takeB nw seq=aheadB nw seq:=by
 unfold takeB
 rw [decide_eq_true h,decide_eq_false (by omega),ahead_met hn h1 h.1 h.2]
 rfl
theorem isNew_any {w:World} {O:List Nat} {P:Nat} {nw a b:Int} (h:Rcv w O P nw a b) (seq:Int) (hn2:nw≤255) :
  Calls Tryz.prog 191 #[.pointer (some ⟨P,0,none⟩),.int .i64 seq] w fun e w'=>e=.returned (.bool (takeB nw seq))∧w'=w:=by
 obtain ⟨c0,c1,c2,c3,z,lp,own⟩:=h
 clear z own
 by_cases k0:seq<0
 ·rw [takeB_low (by omega)]
  go_enter Tryz.func191,Tryz.ntmps191
  go_wp2
  go_ret
  exact ⟨rfl,rfl⟩
 ·by_cases k1:255<seq
  ·have k0':=decide_eq_false k0
   rw [takeB_low (by omega)]
   clear k0
   go_enter Tryz.func191,Tryz.ntmps191
   go_wp2
   go_ret
   exact ⟨rfl,rfl⟩
  ·have hs:0≤seq∧seq≤255:=by omega
   have k0':=decide_eq_false k0
   have k1':=decide_eq_false k1
   clear k0 k1
   by_cases hn:nw<0
   ·rw [takeB_none hs hn]
    rw [decide_eq_false (by omega)] at c0
    clear hs
    go_enter Tryz.func191,Tryz.ntmps191
    go_wp2
    go_ret
    exact ⟨rfl,rfl⟩
   ·rw [takeB_ahead hs (by omega) hn2]
    rw [decide_eq_true (by omega)] at c0
    have e1:nwV nw=nw:=if_neg hn
    rw [e1] at c1
    have hA:=ahead_any (nw:=nw) (seq:=seq) (by omega) hn2 hs.1 hs.2
    clear hn hs e1
    generalize aheadB nw seq=T at *
    go_enter Tryz.func191,Tryz.ntmps191
    go_wp2_with fail
    refine (hA _).mono ?_
    rintro e w1 ⟨rfl,q⟩
    replace q:=q.symm
    subst q
    cases T
    ·go_wp2
     go_ret
     exact ⟨rfl,rfl⟩
    ·go_wp2
     go_ret
     exact ⟨rfl,rfl⟩
theorem rcvTake {w:World} {O:List Nat} {P:Nat} {nw a b:Int} (h:Rcv w O P nw a b) (seq:Int) (d:ByteArray) (hn2:nw≤255) (ha0:0≤a) (ha:a≤4611686018427387904) (hb0:0≤b) (hb:b≤4611686018427387904) :
  Calls Tryz.prog 164 #[.pointer (some ⟨P,0,none⟩),.agg #[.int .i64 seq,.string d]] w fun e w'=>e=.returned (.bool (takeB nw seq))∧∃ O',Rcv w' O' P (tkNew (takeB nw seq) seq nw) (tkTold (takeB nw seq) a) (tkNot (takeB nw seq) b)∧Foot O O' w w':=by
 have hI:=fun (w':World) (k:Same O w w')=>isNew_any (h.keep k) seq hn2
 have hin:=@takeB_in nw seq
 obtain ⟨T,hT⟩:∃ T,takeB nw seq=T:=⟨_,rfl⟩
 rw [hT] at hI hin ⊢
 clear hT
 obtain ⟨c0,c1,c2,c3,z,lp,rfl⟩:=h
 obtain ⟨V,hV⟩:∃ V,w.alloc (.cells #[.int .i64 seq,.string d] 236)=V:=⟨_,rfl⟩
 have hB:Below w.heap.size w V:=by rw [← hV];exact (Below.refl w.heap.size w).alloc (Nat.le_refl _) _
 have hIw:=hI V (Same.of_below hB (fun c hc=>by simp at hc;omega))
 have cc:∀ i,V.cell? ⟨P,i,none⟩=w.cell? ⟨P,i,none⟩:=fun i=>hB.cell (p:=⟨P,i,none⟩) lp
 have HZ:Hid (∀ i,V.frozen? ⟨P,i,none⟩=false):=fun i=>(hB.frozen (p:=⟨P,i,none⟩) lp).trans (z i)
 have y0:=(cc 0).trans c0
 have y1:=(cc 1).trans c1
 have y2:=(cc 2).trans c2
 have y3:=(cc 3).trans c3
 have zz0:=HZ.out 0
 have zz1:=HZ.out 1
 have zz2:=HZ.out 2
 have zz3:=HZ.out 3
 have x0:V.cell? ⟨w.heap.size,0,none⟩=some (.int .i64 seq):=by rw [← hV];simp
 have hVs:V.heap.size=w.heap.size+1:=by rw [← hV];simp
 have lV:P<V.heap.size:=by omega
 have HB:Hid (Below w.heap.size w V):=hB
 clear hI c0 c1 c2 c3 cc z hB
 cases T
 ·clear hin
  have HF:Hid (Rcv (V.setCell ⟨P,3,none⟩ (.int .i64 (b+1))) [P] P nw a (b+1)):=⟨(cell_other (.inr (by decide))).trans y0,(cell_other (.inr (by decide))).trans y1,(cell_other (.inr (by decide))).trans y2,cell_set y3,fun i=>soft_set.trans (HZ.out i),by simpa using lV,rfl⟩
  have HT:Hid (Foot [P] [P] w (V.setCell ⟨P,3,none⟩ (.int .i64 (b+1)))):=(Foot.of_below HB.out).trans (Foot.of_turns ((Turns.refl P P V).set (p:=⟨P,3,none⟩) (.inl rfl) _) (List.mem_cons.2 (.inl rfl)) (List.mem_cons.2 (.inl rfl)))
  go_enter Tryz.func164,Tryz.ntmps164
  go_wp2_with fail
  refine hIw.mono ?_
  rintro e w1 ⟨rfl,q⟩
  replace q:=q.symm
  subst q
  clear hIw hV
  go_wp2_with fail
  go_region
  go_wp2
  go_ret
  exact ⟨rfl,_,HF.out.keep ⟨Nat.le_refl _,fun _ _=>rfl⟩,HT.out.trans (Foot.drawn _ _ 1)⟩
 ·have hs:=hin rfl
  clear hin
  have HF:Hid (Rcv (((V.setCell ⟨P,2,none⟩ (.int .i64 (a+1))).setCell ⟨P,0,none⟩ (.bool true)).setCell ⟨P,1,none⟩ (.int .i64 seq)) [P] P seq (a+1) b):=by
   refine ⟨?_,?_,?_,?_,fun i=>soft_set.trans (soft_set.trans (soft_set.trans (HZ.out i))),by simpa using lV,rfl⟩
   ·rw [decide_eq_true hs.1]
    exact (cell_other (.inr (by decide))).trans (cell_set ((cell_other (.inr (by decide))).trans y0))
   ·rw [show nwV seq=seq from if_neg (by omega)]
    exact cell_set ((cell_other (.inr (by decide))).trans ((cell_other (.inr (by decide))).trans y1))
   ·exact (cell_other (.inr (by decide))).trans ((cell_other (.inr (by decide))).trans (cell_set y2))
   ·exact (cell_other (.inr (by decide))).trans ((cell_other (.inr (by decide))).trans ((cell_other (.inr (by decide))).trans y3))
  have HT:Hid (Foot [P] [P] w (((V.setCell ⟨P,2,none⟩ (.int .i64 (a+1))).setCell ⟨P,0,none⟩ (.bool true)).setCell ⟨P,1,none⟩ (.int .i64 seq))):=(Foot.of_below HB.out).trans (Foot.of_turns ((((Turns.refl P P V).set (p:=⟨P,2,none⟩) (.inl rfl) _).set (p:=⟨P,0,none⟩) (.inl rfl) _).set (p:=⟨P,1,none⟩) (.inl rfl) _) (List.mem_cons.2 (.inl rfl)) (List.mem_cons.2 (.inl rfl)))
  go_enter Tryz.func164,Tryz.ntmps164
  go_wp2_with fail
  refine hIw.mono ?_
  rintro e w1 ⟨rfl,q⟩
  replace q:=q.symm
  subst q
  clear hIw hV
  go_wp2_with fail
  go_region
  go_wp2_with fail
  go_region
  go_wp2
  go_ret
  exact ⟨rfl,_,HF.out.keep ⟨Nat.le_refl _,fun _ _=>rfl⟩,HT.out.trans (Foot.drawn _ _ 2)⟩
end
section
theorem Tryz.infoStr7:(Tryz.prog.info? 9).map (fun i=>(i.zero,i.size,i.bytes))=some (some (.string ByteArray.empty),1,16):=by kernel_rfl
def freeV (went:Nat) (last bag:Int):Int:=if went=0 then 0 else last+bag
structure PSendr (w:World) (B P:Nat) (bag queue:Int) (all:List ByteArray) (v:Value) (went:Nat) (last now:Int):Prop where
 c0:w.cell? ⟨P,0,none⟩=some (.int .i64 bag)
 c1:w.cell? ⟨P,1,none⟩=some (.int .i64 queue)
 c2:w.cell? ⟨P,2,none⟩=some v
 c3:w.cell? ⟨P,3,none⟩=some (.int .i64 now)
 c4:w.cell? ⟨P,4,none⟩=some (.int .i64 (freeV went last bag))
 c5:w.cell? ⟨P,5,none⟩=some (.int .i64 (ordN went))
 z:∀ i,w.frozen? ⟨P,i,none⟩=false
 own:w.ownsRow B 9 1 v (all.length - went) ((all.drop went).map Value.string)
 lp:P<B
 lb:B≤w.heap.size
 we:went≤all.length
def Sdr (w:World) (O:List Nat) (P:Nat) (bag queue:Int) (all:List ByteArray) (went:Nat) (last now:Int):Prop :=
 ∃ v,PSendr w (P+1) P bag queue all v went last now∧O=P::v.ownBlock.toList
theorem Sdr.mem {w:World} {O:List Nat} {P:Nat} {bag queue:Int} {all:List ByteArray} {went:Nat} {last now:Int} (h:Sdr w O P bag queue all went last now):P∈O:=by
 obtain ⟨v,_,rfl⟩:=h
 exact List.mem_cons.2 (.inl rfl)
theorem Sdr.lt {w:World} {O:List Nat} {P:Nat} {bag queue:Int} {all:List ByteArray} {went:Nat} {last now:Int} (h:Sdr w O P bag queue all went last now):∀ c,c∈O→c<w.heap.size:=by
 obtain ⟨v,h,rfl⟩:=h
 intro c hc
 rcases List.mem_cons.1 hc with y | y
 ·have:=h.lp;have:=h.lb;omega
 ·exact (h.own.lt c (by simpa using y)).2
theorem Sdr.keep {w':World} {w:World} {O:List Nat} {P:Nat} {bag queue:Int} {all:List ByteArray} {went:Nat} {last now:Int} (h:Sdr w O P bag queue all went last now) (k:Same O w w'):Sdr w' O P bag queue all went last now:=by
 obtain ⟨v,h,rfl⟩:=h
 have hp:P∈P::v.ownBlock.toList:=List.mem_cons.2 (.inl rfl)
 exact ⟨v,⟨(k.cell (p:=⟨P,0,none⟩) hp).trans h.c0,(k.cell (p:=⟨P,1,none⟩) hp).trans h.c1,(k.cell (p:=⟨P,2,none⟩) hp).trans h.c2,(k.cell (p:=⟨P,3,none⟩) hp).trans h.c3,(k.cell (p:=⟨P,4,none⟩) hp).trans h.c4,(k.cell (p:=⟨P,5,none⟩) hp).trans h.c5,fun i=>(k.frozen (p:=⟨P,i,none⟩) hp).trans (h.z i),owns_same h.own k (fun g hg=>List.mem_cons.2 (.inr (by simpa using hg))),h.lp,Nat.le_trans h.lb k.1,h.we⟩,rfl⟩
theorem PSendr.drawn {w:World} {B P:Nat} {bag queue:Int} {all:List ByteArray} {v:Value} {went:Nat} {last now:Int} (h:PSendr w B P bag queue all v went last now) (q:Nat):PSendr (w.drewN q) B P bag queue all v went last now:=⟨h.c0,h.c1,h.c2,h.c3,h.c4,h.c5,h.z,h.own,h.lp,h.lb,h.we⟩
theorem psdr_new {w:World} {bag queue:Int} : Sdr (w.alloc (.cells #[.int .i64 bag,.int .i64 queue,.slice none 0 0,.int .i64 0,.int .i64 0,.int .i64 0] 188)) [w.heap.size] w.heap.size bag queue [] 0 0 0:=by
 have c:∀ (i:Nat) (u:Value),(#[.int .i64 bag,.int .i64 queue,.slice none 0 0,.int .i64 0,.int .i64 0,.int .i64 0]:Array Value)[i]? = some u→(w.alloc (.cells #[.int .i64 bag,.int .i64 queue,.slice none 0 0,.int .i64 0,.int .i64 0,.int .i64 0] 188)).cell? ⟨w.heap.size,i,none⟩=some u:=fun i u hi=>by
  simp
  simpa using hi
 exact ⟨.slice none 0 0,⟨c 0 _ rfl,c 1 _ rfl,c 2 _ rfl,c 3 _ rfl,c 4 _ rfl,c 5 _ rfl,fun i=>by simp,World.ownsRow_nil _ _ _ _,by omega,by simp,Nat.le_refl _⟩,rfl⟩
theorem put_limit {w:World} {B P:Nat} {bag queue:Int} {all:List ByteArray} {v:Value} {went:Nat} {last now:Int} (h:PSendr w B P bag queue all v went last now) (d:ByteArray) (hd:40<d.size) :
  Calls Tryz.prog 81 #[.pointer (some ⟨P,0,none⟩),.string d] w fun e w'=>e=.returned (errV 4)∧w'=w:=by
 have _:=h
 have k:(40:Int)<(d.size:Int):=by omega
 go_enter Tryz.func81,Tryz.ntmps81
 go_wp2
 go_ret
 exact ⟨rfl,rfl⟩
theorem put_full {w:World} {B P:Nat} {bag queue:Int} {all:List ByteArray} {v:Value} {went:Nat} {last now:Int} (h:PSendr w B P bag queue all v went last now) (d:ByteArray) (hd:d.size≤40) (hq:queue≤((all.length - went:Nat):Int)) (ha:all.length≤10000000) :
  Calls Tryz.prog 81 #[.pointer (some ⟨P,0,none⟩),.string d] w fun e w'=>e=.returned (errV 12)∧∃ q,w'=w.drewN q:=by
 obtain ⟨c0,c1,c2,c3,c4,c5,z,own,lp,lb,we⟩:=h
 obtain ⟨a,cap,rfl⟩:=owns_form own
 have hd2:decide (40<(d.size:Int))=false:=decide_eq_false (by omega)
 have hlp:P<w.heap.size:=by omega
 have hn:all.length - went≤10000000:=by omega
 clear own z we
 generalize all.length - went=n at *
 go_enter Tryz.func81,Tryz.ntmps81
 go_wp2_with fail
 go_quiet (fail)
 go_wp2
 go_ret
 exact ⟨rfl,_,rfl⟩
theorem put_ok {w:World} {B P:Nat} {bag queue:Int} {all:List ByteArray} {v:Value} {went:Nat} {last now:Int} (h:PSendr w B P bag queue all v went last now) (d:ByteArray) (hd:d.size≤40) (hq:((all.length - went:Nat):Int)<queue) (ha:all.length≤10000000) :
  Calls Tryz.prog 81 #[.pointer (some ⟨P,0,none⟩),.string d] w fun e w'=>e=.returned (errV 0)∧∃ v',PSendr w' B P bag queue (all ++ [d]) v' went last now∧Turns P (v.ownBlock.getD P) w w'∧(v'.ownBlock=v.ownBlock∨∃ g,w.heap.size≤g∧v'.ownBlock=some g):=by
 obtain ⟨c0,c1,c2,c3,c4,c5,z,own,lp,lb,we⟩:=h
 obtain ⟨i0,hi,hz0,hz1,hz2⟩:=info_parts Tryz.infoStr7
 obtain ⟨a,cap,rfl⟩:=owns_form own
 have hd2:decide (40<(d.size:Int))=false:=decide_eq_false (by omega)
 have hq2:decide (queue≤((all.length - went:Nat):Int))=false:=decide_eq_false (by omega)
 have z2:=z 2
 have HZ:Hid (∀ i,w.frozen? ⟨P,i,none⟩=false):=z
 have hlp:P<w.heap.size:=by omega
 obtain ⟨n,hn⟩:∃ n,all.length - went=n:=⟨_,rfl⟩
 have HN:Hid (all.length - went=n∧went≤all.length):=⟨hn,we⟩
 rw [hn] at own hq2 c2
 have HOwn:Hid (w.ownsRow B 9 1 (.slice a n cap) n ((all.drop went).map Value.string)):=own
 have hn1:n≤10000000:=by omega
 rw [hn]
 clear own hq z hn we ha
 go_enter Tryz.func81,Tryz.ntmps81
 go_wp2_with fail
 go_quiet (fail)
 have hOq:(w.drewN nq).ownsRow B 9 1 (.slice a n cap) n ((all.drop went).map Value.string):=HOwn.out
 go_wp2_with (at_builtin;refine wpList_append_own_at _ rfl _ _ 65 rfl B 9 i0 (.string ByteArray.empty) 1 16 Tryz.underlying65 hi hz0 hz1 hz2 rfl (by decide) (.slice a n cap) n _ rfl (hOq.alloc _) ⟨w.heap.size,0,none⟩ 1 1 [.string d] rfl rfl (cell_one_new _ _ _) (by simp [Value.oneCell']) (by unfold maxLen;omega) (by omega) (by simp;omega) ?_;apply Hid.out)
 unfold Hid
 intro v' w3 hown' hgrow _ hat
 have hrow:∀ g,(Value.slice a n cap).ownBlock=some g→B≤g∧g<w.heap.size:=fun g hg=>HOwn.out.lt g hg
 have hD:∀ C,Below C w (w.drewN nq):=fun _=>⟨rfl,rfl,rfl,Nat.le_refl _,fun _ _=>rfl⟩
 have hB3:Below B w w3:=(((hD B).alloc lb _).grown hgrow (by simp;omega) (fun g hg=>(hrow g hg).1))
 have HT3:Hid (Turns P ((Value.slice a n cap).ownBlock.getD P) w w3):=by
  have hA:Below w.heap.size w ((w.drewN nq).alloc (.cells #[.string d] 9)):=(hD w.heap.size).alloc (Nat.le_refl _) _
  refine ⟨hB3.os,hB3.tape,hB3.output,hB3.size,fun c hc h1 h2=>?_⟩
  refine (hgrow.block c (by have:=hA.size;omega) (fun e=>?_)).trans (hA.block c hc)
  rw [← e] at h2
  exact h2 rfl
 have HAt:Hid (v'.ownBlock=(Value.slice a n cap).ownBlock∨∃ g,w.heap.size≤g∧v'.ownBlock=some g):=by
  rcases hat with y | y
  ·exact .inl y
  ·exact .inr ⟨_,by omega,y⟩
 obtain ⟨a3,cap3,rfl⟩:=owns_form hown'
 have HO3:Hid (w3.ownsRow B 9 1 (.slice a3 (n+1) cap3) (n+1) ((all.drop went).map Value.string ++ [.string d])):=by rw [List.map_drop];exact hown'
 have cc:∀ i,w3.cell? ⟨P,i,none⟩=w.cell? ⟨P,i,none⟩:=fun i=>hB3.cell (p:=⟨P,i,none⟩) lp
 have HZ3:Hid (∀ i,w3.frozen? ⟨P,i,none⟩=false):=fun i=>(hB3.frozen (p:=⟨P,i,none⟩) lp).trans (HZ.out i)
 have y2:=(cc 2).trans c2
 have zz2:=HZ3.out 2
 have hs3:=hB3.size
 have hl3:P<w3.heap.size:=by omega
 have fin:PSendr (w3.setCell ⟨P,2,none⟩ (.slice a3 (n+1) cap3)) B P bag queue (all ++ [d]) (.slice a3 (n+1) cap3) went last now :=
  ⟨(cell_other (.inr (by decide))).trans ((cc 0).trans c0),(cell_other (.inr (by decide))).trans ((cc 1).trans c1),cell_set y2,(cell_other (.inr (by decide))).trans ((cc 3).trans c3),(cell_other (.inr (by decide))).trans ((cc 4).trans c4),(cell_other (.inr (by decide))).trans ((cc 5).trans c5),fun i=>soft_set.trans (HZ3.out i),by
   have e0:=HN.out
   have e1:(all ++ [d]).length - went=n+1:=by simp;omega
   have e2:((all ++ [d]).drop went).map Value.string=(all.drop went).map Value.string ++ [.string d]:=by
    rw [List.drop_append_of_le_length e0.2,List.map_append];rfl
   rw [e1,e2]
   exact owns_put HO3.out lp,lp,by simp;omega,by have:=HN.out;simp;omega⟩
 have HFin:Hid _:=fin
 have HTT:Hid _:=HT3.out.set (p:=⟨P,2,none⟩) (.inl rfl) (.slice a3 (n+1) cap3)
 clear fin cc hown' hgrow hat hB3 hrow hOq c0 c1 c2 c3 c4 c5
 go_wp2
 go_ret
 exact ⟨rfl,_,HFin.out,HTT.out,HAt.out⟩
theorem sdrPut {w:World} {O:List Nat} {P:Nat} {bag queue:Int} {all:List ByteArray} {went:Nat} {last now:Int} (h:Sdr w O P bag queue all went last now) (d:ByteArray) (ha:all.length≤10000000) :
  Calls Tryz.prog 81 #[.pointer (some ⟨P,0,none⟩),.string d] w fun e w'=>e=.returned (errV (putK (all.length - went) queue d))∧∃ O',Sdr w' O' P bag queue (putAll (putK (all.length - went) queue d) all d) went last now∧Foot O O' w w':=by
 obtain ⟨v,h,rfl⟩:=h
 unfold putAll putK
 by_cases h1:40<d.size
 ·simp only [if_pos h1]
  refine (put_limit h d h1).mono ?_
  rintro e w' ⟨rfl,rfl⟩
  exact ⟨rfl,_,⟨v,h,rfl⟩,Foot.refl _ _⟩
 ·simp only [if_neg h1]
  by_cases h2:queue≤((all.length - went:Nat):Int)
  ·simp only [if_pos h2]
   refine (put_full h d (by omega) h2 ha).mono ?_
   rintro e w' ⟨rfl,q,rfl⟩
   exact ⟨rfl,_,⟨v,h.drawn q,rfl⟩,Foot.drawn _ _ _⟩
  ·simp only [if_neg h2]
   refine (put_ok h d (by omega) (by omega) ha).mono ?_
   rintro e w' ⟨rfl,v',h',ht,hat⟩
   refine ⟨rfl,_,⟨v',h',rfl⟩,?_⟩
   refine ⟨ht.os,ht.tape,ht.output,ht.size,fun c hc hn=>?_,fun c hc=>?_⟩
   ·have hP:c≠P:=fun y=>hn (List.mem_cons.2 (.inl y))
    refine ht.block c hc hP ?_
    cases e:v.ownBlock with
    | none=>exact hP
    | some g =>
     intro y
     refine hn (List.mem_cons.2 (.inr ?_))
     rw [e,y]
     exact List.mem_singleton.2 rfl
   ·rcases List.mem_cons.1 hc with y | y
    ·exact .inl (List.mem_cons.2 (.inl y))
    ·rcases hat with z | ⟨g,hg,z⟩
     ·rw [z] at y;exact .inl (List.mem_cons.2 (.inr y))
     ·rw [z] at y
      have:c=g:=by simpa using y
      exact .inr (by omega)
end
section
theorem Tryz.makesFunc (fn:Fn) (first cap:Array Value) (w:World):(Instr.makeFunc fn first cap).run Tryz.prog w=.ok (.func fn first cap) w:=rfl
theorem add6 (a b:Int) (w:World) (h1:-1099511627776≤a) (h2:a≤1099511627776) (h3:-1099511627776≤b) (h4:b≤1099511627776) (h:1099511627776<a+b) :
  Calls Tryz.prog 161 #[.int .i64 a,.int .i64 b] w fun e w'=>e=.returned (.tuple #[.int .i64 0,.iface 25 (.int .i64 2)])∧Below w.heap.size w w':=by
 have hmf:=Tryz.makesFunc
 have hp:-1099511627776≤a+b:=by omega
 have hn:decide (a+b≤1099511627776)=false:=decide_eq_false (by omega)
 go_enter Tryz.func161,Tryz.ntmps161
 go_wp2
 go_ret2
 refine ⟨rfl,?_⟩
 repeat (refine Below.alloc ?_ (by first | omega | (simp;omega) | simp) _)
 exact Below.refl _ _
theorem add7 (a b:Int) (w:World) (h1:-1099511627776≤a) (h2:a≤1099511627776) (h3:-1099511627776≤b) (h4:b≤1099511627776) (h5:-1099511627776≤a+b) (h6:a+b≤1099511627776) :
  Calls Tryz.prog 161 #[.int .i64 a,.int .i64 b] w fun e w'=>e=.returned (.tuple #[.int .i64 (a+b),.nilIface])∧Below w.heap.size w w':=by
 have hmf:=Tryz.makesFunc
 go_enter Tryz.func161,Tryz.ntmps161
 go_wp2
 go_ret2
 refine ⟨rfl,?_⟩
 repeat (refine Below.alloc ?_ (by first | omega | (simp;omega) | simp) _)
 exact Below.refl _ _
end
section
def stepErr (m:Nat) (c:Int) (row:List Int) (f:Int):Int:=if row.length≠m then 1 else if far c=true then 2 else midErr row f
def stepVal (m:Nat) (c:Int) (row:List Int) (f:Int):Int:=if stepErr m c row f=0 then midVal row f else 0
theorem stepErr_1 {m:Nat} {c:Int} {row:List Int} {f:Int} (h:row.length≠m):stepErr m c row f=1:=by unfold stepErr;rw [if_pos h]
theorem stepErr_2 {m:Nat} {c:Int} {row:List Int} {f:Int} (h:row.length=m) (h2:far c=true):stepErr m c row f=2:=by unfold stepErr;rw [if_neg (by simp [h]),if_pos h2]
theorem stepErr_mid {m:Nat} {c:Int} {row:List Int} {f:Int} (h:row.length=m) (h2:far c=false):stepErr m c row f=midErr row f:=by unfold stepErr;rw [if_neg (by simp [h]),if_neg (by simp [h2])]
theorem stepVal_bad {m:Nat} {c:Int} {row:List Int} {f:Int} (h:stepErr m c row f≠0):stepVal m c row f=0:=by unfold stepVal;rw [if_neg h]
theorem stepVal_ok {m:Nat} {c:Int} {row:List Int} {f:Int} (h:stepErr m c row f=0):stepVal m c row f=midVal row f:=by unfold stepVal;rw [if_pos h]
theorem stepErr_zero {m:Nat} {c:Int} {row:List Int} {f:Int} (h:stepErr m c row f=0):row.length=m∧far c=false∧midErr row f=0:=by
 by_cases h1:row.length=m
 ·cases h2:far c
  ·rw [stepErr_mid h1 h2] at h;exact ⟨h1,rfl,h⟩
  ·rw [stepErr_2 h1 h2] at h;cases h
 ·rw [stepErr_1 h1] at h;cases h
theorem midErr_zero {l:List Int} {f:Int} (h:midErr l f=0):0≤f∧2*f+1≤(l.length:Int)∧l.any far=false:=by
 by_cases h1:f<0∨(l.length:Int)<2*f+1
 ·rw [midErr_1 h1] at h;cases h
 ·cases h2:l.any far
  ·exact ⟨by omega,by omega,rfl⟩
  ·rw [midErr_2 h1 h2] at h;cases h
theorem midVal_in (l:List Int) (f:Int):-1099511627776≤midVal l f∧midVal l f≤1099511627776:=by
 by_cases h:midErr l f=0
 ·obtain ⟨h1,h2,h3⟩:=midErr_zero h
  rw [midVal_ok h]
  have a:=rank_in h3 (k:=f.toNat) (by omega)
  have b:=rank_in h3 (k:=l.length - 1 - f.toNat) (by omega)
  unfold midOf
  omega
 ·rw [midVal_bad h];omega
def TabRow (w:World) (a:Option Addr) (rows:List (List Int)):Prop :=
 0<rows.length→∃ b off,a=some ⟨b,off,none⟩∧b<w.heap.size∧∀ j,j<rows.length→∃ ra cap,w.cell? ⟨b,off+j,none⟩=some (.slice ra (rows.getD j []).length cap)∧IntRow w ra (rows.getD j [])
theorem TabRow.below {w w':World} {a:Option Addr} {rows:List (List Int)} (h:TabRow w a rows) (hb:Below w.heap.size w w'):TabRow w' a rows:=fun h0=>by
 obtain ⟨b,off,e,hl,hc⟩:=h h0
 refine ⟨b,off,e,Nat.lt_of_lt_of_le hl hb.size,fun j hj=>?_⟩
 obtain ⟨ra,cap,h1,h2⟩:=hc j hj
 exact ⟨ra,cap,(hb.cell (p:=⟨b,off+j,none⟩) hl).trans h1,h2.below hb⟩
def setTo (cs:List Int) (rows:List (List Int)) (f:Int) (k:Nat):List Int:=(List.range k).map fun j=>cs.getD j 0+midVal (rows.getD j []) f
theorem setTo_succ (cs:List Int) (rows:List (List Int)) (f:Int) (k:Nat):setTo cs rows f (k+1)=setTo cs rows f k ++ [cs.getD k 0+midVal (rows.getD k []) f]:=by
 simp [setTo,List.range_succ]
theorem setTo_len (cs:List Int) (rows:List (List Int)) (f:Int) (k:Nat):(setTo cs rows f k).length=k:=by simp [setTo]
end
section
theorem old_cells {v w:World} (h:Below v.heap.size v w):∀ b o,b<v.heap.size→w.cell? ⟨b,o,none⟩=v.cell? ⟨b,o,none⟩:=fun _ _ hb=>h.cell hb
theorem below_box {w w1:World} {o:Obj} (hb:Below (w.alloc o).heap.size (w.alloc o) w1):Below w.heap.size w w1:=((Below.refl _ _).alloc (Nat.le_refl _) _).trans (hb.mono (by simp))
theorem box4T {w w1:World} {a b c d:Value} {T:TypeId} (hb:Below (w.alloc (.cells #[a,b,c,d] T)).heap.size (w.alloc (.cells #[a,b,c,d] T)) w1) :
  w1.cell? ⟨w.heap.size,0,none⟩=some a∧w1.cell? ⟨w.heap.size,1,none⟩=some b∧w1.cell? ⟨w.heap.size,2,none⟩=some c∧w1.cell? ⟨w.heap.size,3,none⟩=some d∧w.heap.size<w1.heap.size:=by
 have hz:=hb.size
 simp at hz
 refine ⟨?_,?_,?_,?_,by omega⟩ <;> (rw [old_cells hb _ _ (by simp)];simp)
theorem local_arg (f s n d r:Int) (w:World) (h:rightB f s n d=false) :
  Calls Tryz.prog 63 #[.agg #[.int .i64 f,.int .i64 s,.int .i64 n,.int .i64 d],.int .i64 r] w fun e w'=>e=.returned (.tuple #[.int .i64 0,.iface 25 (.int .i64 1)])∧Below w.heap.size w w':=by
 have HR:Hid (rightB f s n d=false):=h
 clear h
 have hmf:=Tryz.mf
 go_enter Tryz.func63,Tryz.ntmps63
 go_wp2_with (go_at_call 96;refine (right_no f s n d _ HR.out).mono ?_;rintro e w1 ⟨rfl,hb⟩)
 go_ret2
 exact ⟨rfl,below_box hb⟩
theorem local_early (f s n d r:Int) (w:World) (h:rightB f s n d=true) (hr:r<f) :
  Calls Tryz.prog 63 #[.agg #[.int .i64 f,.int .i64 s,.int .i64 n,.int .i64 d],.int .i64 r] w fun e w'=>e=.returned (.tuple #[.int .i64 0,.iface 25 (.int .i64 2)])∧Below w.heap.size w w':=by
 have HR:Hid (rightB f s n d=true):=h
 clear h
 have hmf:=Tryz.mf
 have hn:decide (f≤r)=false:=decide_eq_false (by omega)
 go_enter Tryz.func63,Tryz.ntmps63
 go_wp2_with (first | (go_at_call 96;refine (right_yes f s n d _ HR.out).mono ?_;rintro e w1 ⟨rfl,hb⟩;obtain ⟨c0,c1,c2,c3,hz⟩:=box4T hb) | go_in)
 go_ret2
 refine ⟨rfl,?_⟩
 repeat (refine Below.alloc ?_ (by first | omega | (simp;omega) | simp) _)
 exact below_box hb
theorem local_late (f s n d r:Int) (w:World) (h:rightB f s n d=true) (hr:1099511627776<r) :
  Calls Tryz.prog 63 #[.agg #[.int .i64 f,.int .i64 s,.int .i64 n,.int .i64 d],.int .i64 r] w fun e w'=>e=.returned (.tuple #[.int .i64 0,.iface 25 (.int .i64 2)])∧Below w.heap.size w w':=by
 have hf:=(right_of h).2.1
 have HR:Hid (rightB f s n d=true):=h
 clear h
 have hmf:=Tryz.mf
 have hn:decide (r≤1099511627776)=false:=decide_eq_false (by omega)
 have hle:f≤r:=by omega
 go_enter Tryz.func63,Tryz.ntmps63
 go_wp2_with (first | (go_at_call 96;refine (right_yes f s n d _ HR.out).mono ?_;rintro e w1 ⟨rfl,hb⟩;obtain ⟨c0,c1,c2,c3,hz⟩:=box4T hb) | go_in)
 go_ret2
 refine ⟨rfl,?_⟩
 repeat (refine Below.alloc ?_ (by first | omega | (simp;omega) | simp) _)
 exact below_box hb
theorem local_ok (f s n d r:Int) (w:World) (h:rightB f s n d=true) (hr:f≤r) (hr2:r≤1099511627776) (hv:s+(r - f)*n / d≤1099511627776) :
  Calls Tryz.prog 63 #[.agg #[.int .i64 f,.int .i64 s,.int .i64 n,.int .i64 d],.int .i64 r] w fun e w'=>e=.returned (.tuple #[.int .i64 (s+(r - f)*n / d),.nilIface])∧Below w.heap.size w w':=by
 obtain ⟨h1,h2,h3,h4,h5,h6,h7,h8,h9,h10⟩:=right_of h
 have HR:Hid (rightB f s n d=true):=h
 clear h
 obtain ⟨p1,p2⟩:=prod_bounds (x:=r - f) (n:=n) (M:=1099511627776) (R:=1000000) (by omega) (by omega) h5 h6
 obtain ⟨q1,q2⟩:=quo_bounds (x:=r - f) (n:=n) (d:=d) (M:=1099511627776) (by omega) (by omega) h5 h7 h9
 have hmf:=Tryz.mf
 go_enter Tryz.func63,Tryz.ntmps63
 go_wp2_with (first | (go_at_call 96;refine (right_yes f s n d _ HR.out).mono ?_;rintro e w1 ⟨rfl,hb⟩;obtain ⟨c0,c1,c2,c3,hz⟩:=box4T hb) | go_in)
 go_quiet (fail)
 go_wp2
 go_ret2
 refine ⟨rfl,below_drewN ?_ _⟩
 repeat (refine Below.alloc ?_ (by first | omega | (simp;omega) | simp) _)
 exact below_box hb
theorem local_high (f s n d r:Int) (w:World) (h:rightB f s n d=true) (hr:f≤r) (hr2:r≤1099511627776) (hv:1099511627776<s+(r - f)*n / d) :
  Calls Tryz.prog 63 #[.agg #[.int .i64 f,.int .i64 s,.int .i64 n,.int .i64 d],.int .i64 r] w fun e w'=>e=.returned (.tuple #[.int .i64 0,.iface 25 (.int .i64 2)])∧Below w.heap.size w w':=by
 obtain ⟨h1,h2,h3,h4,h5,h6,h7,h8,h9,h10⟩:=right_of h
 have HR:Hid (rightB f s n d=true):=h
 clear h
 obtain ⟨p1,p2⟩:=prod_bounds (x:=r - f) (n:=n) (M:=1099511627776) (R:=1000000) (by omega) (by omega) h5 h6
 obtain ⟨q1,q2⟩:=quo_bounds (x:=r - f) (n:=n) (d:=d) (M:=1099511627776) (by omega) (by omega) h5 h7 h9
 have hmf:=Tryz.mf
 go_enter Tryz.func63,Tryz.ntmps63
 go_wp2_with (first | (go_at_call 96;refine (right_yes f s n d _ HR.out).mono ?_;rintro e w1 ⟨rfl,hb⟩;obtain ⟨c0,c1,c2,c3,hz⟩:=box4T hb) | go_in)
 go_quiet (fail)
 go_wp2
 go_ret2
 refine ⟨rfl,below_drewN ?_ _⟩
 repeat (refine Below.alloc ?_ (by first | omega | (simp;omega) | simp) _)
 exact below_box hb
end
end Go.Proofs.YthccoinonjoleaaGreatDoor
