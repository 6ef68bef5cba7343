import Derived.Test.YtooadfgibdjdeaaGreatDoorProg
import Derived.Below
import Derived.Deep.RegionHeld3
import Derived.Deep.Slices
import Derived.Laws.BitsAllLaws
import Derived.Lib.SmallJoins
import Derived.ProofKit
import Derived.WalkKit
import Derived.WalkLawsBesides
import Derived.WalkSpells
import GoSem.Claim
namespace Go.Proofs.YtooadfgibdjdeaaGreatDoor
open Go.RowKit
set_option maxRecDepth 100000
set_option maxHeartbeats 16000000
section
def Fine0 (w:World):Prop:=0<w.heap.size∧w.cell? ⟨0,0,none⟩=some (.int .i64 0)∧w.cell? ⟨0,1,none⟩=some (.int .i64 (-1))
theorem Fine0.below {w w':World} (h:Fine0 w) (hb:Below w.heap.size w w'):Fine0 w' :=
 ⟨Nat.lt_of_lt_of_le h.1 hb.size,(hb.cell (p:=⟨0,0,none⟩) h.1).trans h.2.1,(hb.cell (p:=⟨0,1,none⟩) h.1).trans h.2.2⟩
end
section
def srt (l:List Int):List Int:=l.mergeSort fun x y=>decide (x≤y)
def rank (l:List Int) (k:Nat):Int:=(srt l).getD k 0
def midOf (l:List Int) (f:Nat):Int:=(rank l f+rank l (l.length - 1 - f)) / 2
theorem getD_at {l:List Int} {i:Nat} (h:i<l.length):l.getD i 0=l[i]:=by simp [List.getD,h]
theorem srt_perm (l:List Int):(srt l).Perm l:=List.mergeSort_perm _ _
theorem srt_length (l:List Int):(srt l).length=l.length:=(srt_perm l).length_eq
theorem srt_pair (l:List Int):List.Pairwise (fun a b=>a≤b) (srt l):=by
 have h:=List.pairwise_mergeSort (le:=fun x y:Int=>decide (x≤y)) (fun a b c h1 h2=>by simp at *;omega) (fun a b=>by simp;omega) l
 exact h.imp (fun h=>by simpa using h)
theorem rank_mono (l:List Int) {i j:Nat} (hij:i≤j) (hj:j<l.length):rank l i≤rank l j:=by
 have hl:=srt_length l
 have hi':i<(srt l).length:=by omega
 have hj':j<(srt l).length:=by omega
 unfold rank
 rw [getD_at hi',getD_at hj']
 by_cases e:i=j
 ·subst e;exact Int.le_refl _
 ·exact List.pairwise_iff_getElem.1 (srt_pair l) i j hi' hj' (by omega)
theorem rank_mem (l:List Int) {i:Nat} (hi:i<l.length):rank l i∈l:=by
 have hi':i<(srt l).length:=by rw [srt_length];exact hi
 unfold rank
 rw [getD_at hi']
 exact (srt_perm l).mem_iff.1 (List.getElem_mem hi')
theorem count_low (l:List Int) (f:Nat) (hf:f<l.length):l.length - f≤l.countP (fun x=>decide (rank l f≤x)):=by
 rw [← (srt_perm l).countP_eq]
 have hsp:srt l=(srt l).take f ++ (srt l).drop f:=(List.take_append_drop f _).symm
 rw [hsp,List.countP_append]
 have:((srt l).drop f).countP (fun x=>decide (rank l f≤x))=((srt l).drop f).length:=by
  rw [List.countP_eq_length]
  intro a ha
  obtain ⟨k,hk,rfl⟩:=List.getElem_of_mem ha
  rw [List.length_drop,srt_length] at hk
  have:=rank_mono l (i:=f) (j:=f+k) (by omega) (by omega)
  rw [List.getElem_drop]
  rw [show rank l (f+k)=(srt l)[f+k]'(by rw [srt_length];omega) from getD_at _] at this
  simpa using this
 rw [this,List.length_drop,srt_length]
 omega
theorem count_high (l:List Int) (k:Nat) (hk:k<l.length):k+1≤l.countP (fun x=>decide (x≤rank l k)):=by
 rw [← (srt_perm l).countP_eq]
 have hsp:srt l=(srt l).take (k+1) ++ (srt l).drop (k+1):=(List.take_append_drop (k+1) _).symm
 rw [hsp,List.countP_append]
 have:((srt l).take (k+1)).countP (fun x=>decide (x≤rank l k))=((srt l).take (k+1)).length:=by
  rw [List.countP_eq_length]
  intro a ha
  obtain ⟨j,hj,rfl⟩:=List.getElem_of_mem ha
  rw [List.length_take,srt_length] at hj
  have:=rank_mono l (i:=j) (j:=k) (by omega) hk
  rw [List.getElem_take]
  rw [show rank l j=(srt l)[j]'(by rw [srt_length];omega) from getD_at _] at this
  simpa using this
 rw [this,List.length_take,srt_length]
 omega
theorem pigeon3 (p q r:Nat→Bool):∀ l:List Nat,2*l.length<l.countP p+l.countP q+l.countP r→∃ x,x∈l∧p x=true∧q x=true∧r x=true
 | [],h=>by simp at h
 | x::l,h=>by
  by_cases hx:p x=true∧q x=true∧r x=true
  ·exact ⟨x,List.mem_cons_self,hx⟩
  ·have:=pigeon3 p q r l (by
    simp only [List.countP_cons,List.length_cons] at h
    cases hp:p x <;> cases hq:q x <;> cases hr:r x <;> simp_all <;> omega)
   obtain ⟨y,hy,h3⟩:=this
   exact ⟨y,List.mem_cons_of_mem _ hy,h3⟩
theorem pigeon2 (p q:Nat→Bool) (l:List Nat) (h:l.length<l.countP p+l.countP q):∃ x,x∈l∧p x=true∧q x=true:=by
 have:=pigeon3 p q (fun _=>true) l (by
  rw [show l.countP (fun _=>true)=l.length from List.countP_eq_length.2 (fun _ _=>rfl)];omega)
 obtain ⟨x,hx,h1,h2,_⟩:=this
 exact ⟨x,hx,h1,h2⟩
def setOn (n f:Nat) (now:Nat→Int) (row:Nat→Nat→Int) (i:Nat):Int:=now i+midOf ((List.range n).map (row i)) f
end
section
def stepN (a:Int):Int:=if a+1=256 then 1 else a+1
def stepsN (a:Int):Nat→Int
 | 0=>a
 | k+1=>stepN (stepsN a k)
def metB (a seq:Int):Nat→Bool
 | 0=>false
 | k+1=>metB a seq k || decide (stepsN a (k+1)=seq)
def takeB (nw seq:Int):Bool:=decide (0≤seq∧seq≤255) && (decide (nw<0) || metB nw seq 127)
theorem stepsN_in {a:Int} (h0:0≤a) (h1:a≤255):∀ k,0≤stepsN a k∧stepsN a k≤255
 | 0=>⟨h0,h1⟩
 | k+1=>by
  have:=stepsN_in h0 h1 k
  show 0≤stepN (stepsN a k)∧stepN (stepsN a k)≤255
  unfold stepN
  split <;> omega
def ordN (k:Nat):Int:=if k=0 then 0 else (((k - 1) % 255+1:Nat):Int)
theorem ordN_in (k:Nat):0≤ordN k∧ordN k≤255:=by
 unfold ordN
 split <;> omega
theorem ordN_step (k:Nat):stepN (ordN k)=ordN (k+1):=by
 rcases Nat.eq_zero_or_pos k with rfl | hk
 ·decide
 ·have e1:ordN k=(((k - 1) % 255+1:Nat):Int):=if_neg (by omega)
  have e2:ordN (k+1)=(((k+1 - 1) % 255+1:Nat):Int):=if_neg (by omega)
  rw [e1,e2]
  unfold stepN
  split <;> omega
theorem ordN_steps (k:Nat):∀ d,stepsN (ordN k) d=ordN (k+d)
 | 0=>rfl
 | d+1=>by
  show stepN (stepsN (ordN k) d)=ordN (k+(d+1))
  rw [ordN_steps k d,ordN_step]
  rfl
theorem metB_iff {a seq:Int} : ∀ {n:Nat},metB a seq n=true↔∃ d,1≤d∧d≤n∧stepsN a d=seq
 | 0=>⟨fun h=>(by cases h),fun ⟨d,h1,h2,_⟩=>(by omega)⟩
 | n+1=>by
  show (metB a seq n || decide (stepsN a (n+1)=seq))=true↔_
  rw [Bool.or_eq_true,decide_eq_true_eq,metB_iff]
  constructor
  ·rintro (⟨d,h1,h2,h3⟩ | h)
   ·exact ⟨d,h1,by omega,h3⟩
   ·exact ⟨n+1,by omega,Nat.le_refl _,h⟩
  ·rintro ⟨d,h1,h2,h3⟩
   rcases Nat.lt_or_ge d (n+1) with q | q
   ·exact .inl ⟨d,h1,by omega,h3⟩
   ·obtain rfl:d=n+1:=by omega
    exact .inr h3
def tkNew (t:Bool) (seq nw:Int):Int:=if t=true then seq else nw
def tkTold (t:Bool) (a:Int):Int:=if t=true then a+1 else a
def tkNot (t:Bool) (b:Int):Int:=if t=true then b else b+1
theorem takeB_in {nw seq:Int} (h:takeB nw seq=true):0≤seq∧seq≤255:=by
 unfold takeB at h
 rw [Bool.and_eq_true,decide_eq_true_eq] at h
 exact h.1
end
section
structure Turns (P Q:Nat) (w w':World):Prop where
 os:w'.os=w.os
 tape:w'.tape=w.tape
 output:w'.output=w.output
 size:w.heap.size≤w'.heap.size
 block:∀ c,c<w.heap.size→c≠P→c≠Q→w'.heap[c]? = w.heap[c]?
theorem Turns.refl (P Q:Nat) (w:World):Turns P Q w w:=⟨rfl,rfl,rfl,Nat.le_refl _,fun _ _ _ _=>rfl⟩
theorem Turns.trans {P Q:Nat} {a b c:World} (h:Turns P Q a b) (k:Turns P Q b c):Turns P Q a c :=
 ⟨k.os.trans h.os,k.tape.trans h.tape,k.output.trans h.output,Nat.le_trans h.size k.size,fun i hi h1 h2=>(k.block i (Nat.lt_of_lt_of_le hi h.size) h1 h2).trans (h.block i hi h1 h2)⟩
theorem Turns.of_below {P Q:Nat} {w w':World} (h:Below w.heap.size w w'):Turns P Q w w':=⟨h.os,h.tape,h.output,h.size,fun c hc _ _=>h.block c hc⟩
theorem Turns.set {P Q:Nat} {a w:World} (h:Turns P Q a w) {p:Addr} (hp:p.block=P∨p.block=Q) (u:Value):Turns P Q a (w.setCell p u) :=
 h.trans ⟨rfl,rfl,rfl,by simp [World.setCell],fun c _ h1 h2=>Below.heap_setCell _ _ _ _ (by rcases hp with e | e <;> rw [e] <;> omega)⟩
theorem Turns.below {P Q B:Nat} {w w':World} (h:Turns P Q w w') (hB:B≤w.heap.size) (hP:B≤P) (hQ:B≤Q):Below B w w':=⟨h.os,h.tape,h.output,h.size,fun c hc=>h.block c (by omega) (by omega) (by omega)⟩
theorem Turns.cell {P Q:Nat} {w w':World} (h:Turns P Q w w') {p:Addr} (hp:p.block<w.heap.size) (h1:p.block≠P) (h2:p.block≠Q):w'.cell? p=w.cell? p:=World.cell?_of_block (w:=w) (h.block p.block hp h1 h2)
theorem Turns.frozen {P Q:Nat} {w w':World} (h:Turns P Q w w') {p:Addr} (hp:p.block<w.heap.size) (h1:p.block≠P) (h2:p.block≠Q):w'.frozen? p=w.frozen? p:=World.frozen?_of_block (w:=w) (h.block p.block hp h1 h2)
def bitsV (t:Nat→Bool):Nat→Int
 | 0=>0
 | k+1=>bitsV t k+(if t k=true then 2 ^ k else 0)
theorem pow_pos (k:Nat):(0:Int)<2 ^ k:=Int.pow_pos (by decide)
theorem bitsV_in (t:Nat→Bool):∀ k,0≤bitsV t k∧bitsV t k<2 ^ k
 | 0=>⟨Int.le_refl _,(by show (0:Int)<1;decide)⟩
 | k+1=>by
  have h:=bitsV_in t k
  have p:=pow_pos k
  have e:(2:Int) ^ (k+1)=2 ^ k*2:=Int.pow_succ 2 k
  simp only [bitsV]
  split <;> omega
theorem pow_le {k n:Nat} (h:k≤n):(2:Int) ^ k≤2 ^ n:=by
 induction n with
 | zero =>
      obtain rfl:k=0:=by omega
      exact Int.le_refl _
 | succ n ih =>
  rcases Nat.lt_or_ge k (n+1) with q | q
  ·have:=ih (by omega)
   have p:=pow_pos n
   have e:(2:Int) ^ (n+1)=2 ^ n*2:=Int.pow_succ 2 n
   omega
  ·obtain rfl:k=n+1:=by omega
   exact Int.le_refl _
end
section
def judB (n who:Nat) (m t:Nat→Bool):Bool:=m who && decide (∀ j,j<n→j≠who→m j=t j)
theorem judB_iff {n who:Nat} {m t:Nat→Bool} : judB n who m t=true↔m who=true∧∀ j,j<n→j≠who→m j=t j:=by
 unfold judB
 rw [Bool.and_eq_true,decide_eq_true_eq]
end
section
def FirstBad (f:Nat→Int) (n:Nat) (e i:Int):Prop :=
 (∀ j,j<n→f j=0)∧e=0∧i=0∨∃ k:Nat,k<n∧(∀ j,j<k→f j=0)∧f k=e∧e≠0∧i=k
theorem FirstBad.at_bad {f:Nat→Int} {n:Nat} {e i:Int} (h:FirstBad f n e i) {k:Nat} (hk:k<n) (h0:∀ j,j<k→f j=0) (hf:f k≠0):e=f k∧i=k:=by
 rcases h with ⟨ha,_,_⟩ | ⟨k',hk',h0',he,hne,hi⟩
 ·exact absurd (ha k hk) hf
 ·rcases Nat.lt_trichotomy k k' with g | g | g
  ·exact absurd (h0' k g) hf
  ·subst g;exact ⟨he.symm,hi⟩
  ·exact absurd ((h0 k' g).symm.trans he) (Ne.symm hne)
theorem FirstBad.at_end {f:Nat→Int} {n:Nat} {e i:Int} (h:FirstBad f n e i) (h0:∀ j,j<n→f j=0):e=0∧i=0:=by
 rcases h with ⟨_,he,hi⟩ | ⟨k',hk',_,he,hne,_⟩
 ·exact ⟨he,hi⟩
 ·exact absurd ((h0 k' hk').symm.trans he) (Ne.symm hne)
theorem FirstBad.is {f:Nat→Int} {n:Nat} {e i:Int} (h:FirstBad f n e i) {k:Nat} (hk:k<n) (h0:∀ j,j<k→f j=0) {c:Int} (hf:f k=c) (hc:c≠0):e=c∧i=k:=by
 have g:=h.at_bad hk h0 (by rw [hf];exact hc)
 exact ⟨g.1.trans hf,g.2⟩
theorem FirstBad.bound {f:Nat→Int} {n:Nat} {e i:Int} (h:FirstBad f n e i):0≤i∧i≤n:=by
 rcases h with ⟨_,_,hi⟩ | ⟨k,hk,_,_,_,hi⟩ <;> omega
theorem FirstBad.any (f:Nat→Int):∀ n:Nat,∃ e i,FirstBad f n e i:=by
 intro n
 induction n with
 | zero=>exact ⟨0,0,.inl ⟨fun j hj=>absurd hj (Nat.not_lt_zero _),rfl,rfl⟩⟩
 | succ n ih =>
  obtain ⟨e,i,h⟩:=ih
  rcases h with ⟨ha,_,_⟩ | ⟨k,hk,h0,he,hne,hi⟩
  ·by_cases hf:f n=0
   ·refine ⟨0,0,.inl ⟨fun j hj=>?_,rfl,rfl⟩⟩
    rcases Nat.lt_succ_iff_lt_or_eq.1 hj with g | g
    ·exact ha j g
    ·rw [g];exact hf
   ·exact ⟨f n,n,.inr ⟨n,Nat.lt_succ_self _,ha,rfl,hf,rfl⟩⟩
  ·exact ⟨e,i,.inr ⟨k,Nat.lt_succ_of_lt hk,h0,he,hne,hi⟩⟩
theorem next_zero {f:Nat→Int} {k:Nat} (h0:∀ j,j<k→f j=0) (h:f k=0):∀ j,j<k+1→f j=0:=by
 intro j hj
 rcases Nat.lt_succ_iff_lt_or_eq.1 hj with g | g
 ·exact h0 j g
 ·rw [g];exact h
def winErr (pt fr tq:Nat→Int) (frame:Int) (j:Nat):Int :=
 if tq j≤fr j then 1 else if (j=0∧fr j<0)∨(0<j∧fr j<tq (j - 1)) then 10 else if frame<tq j then 2 else if pt j<0∨5<pt j then 7 else 0
theorem winErr_1 {pt fr tq:Nat→Int} {frame:Int} {j:Nat} (h:tq j≤fr j):winErr pt fr tq frame j=1:=by simp [winErr,h]
theorem winErr_10 {pt fr tq:Nat→Int} {frame:Int} {j:Nat} (h:fr j<tq j) (h2:(j=0∧fr j<0)∨(0<j∧fr j<tq (j - 1))):winErr pt fr tq frame j=10:=by
 unfold winErr;rw [if_neg (by omega),if_pos h2]
theorem winErr_2 {pt fr tq:Nat→Int} {frame:Int} {j:Nat} (h:fr j<tq j) (h2:¬ ((j=0∧fr j<0)∨(0<j∧fr j<tq (j - 1)))) (h3:frame<tq j):winErr pt fr tq frame j=2:=by
 unfold winErr;rw [if_neg (by omega),if_neg h2,if_pos h3]
theorem winErr_7 {pt fr tq:Nat→Int} {frame:Int} {j:Nat} (h:fr j<tq j) (h2:¬ ((j=0∧fr j<0)∨(0<j∧fr j<tq (j - 1)))) (h3:tq j≤frame) (h4:pt j<0∨5<pt j):winErr pt fr tq frame j=7:=by
 unfold winErr;rw [if_neg (by omega),if_neg h2,if_neg (by omega),if_pos h4]
theorem winErr_0 {pt fr tq:Nat→Int} {frame:Int} {j:Nat} (h:fr j<tq j) (h2:¬ ((j=0∧fr j<0)∨(0<j∧fr j<tq (j - 1)))) (h3:tq j≤frame) (h4:0≤pt j) (h5:pt j≤5):winErr pt fr tq frame j=0:=by
 unfold winErr;rw [if_neg (by omega),if_neg h2,if_neg (by omega),if_neg (by omega)]
end
section
open Go.ChangeShapes Go.WideShapes Go.ChangeAt Go.RowKit Go.Joins Go.Deep
def isInt (n:Int):Prop:=(Lit.int .i64 n).wf=true
theorem add_plain (b off n:Nat):(⟨b,off,none⟩:Addr).add n=⟨b,off+n,none⟩:=by
 unfold Addr.add
 split
 ·rename_i h;subst h;rfl
 ·rfl
def Rows3 (w:World) (a:Option Addr) (n:Nat) (f g h:Nat→Int):Prop :=
 0<n→∃ b off,a=some ⟨b,off,none⟩∧b<w.heap.size∧∀ j,j<n→w.cell? ⟨b,off+j*3,none⟩=some (.int .i64 (f j))∧w.cell? ⟨b,off+j*3+1,none⟩=some (.int .i64 (g j))∧w.cell? ⟨b,off+j*3+2,none⟩=some (.int .i64 (h j))
theorem Rows3.below {w w':World} {a:Option Addr} {n:Nat} {f g h:Nat→Int} (r:Rows3 w a n f g h) (hb:Below w.heap.size w w'):Rows3 w' a n f g h:=by
 intro hn
 obtain ⟨b,off,ha,hbl,hc⟩:=r hn
 exact ⟨b,off,ha,Nat.lt_of_lt_of_le hbl hb.size,fun j hj=>⟨(hb.cell hbl).trans (hc j hj).1,(hb.cell hbl).trans (hc j hj).2.1,(hb.cell hbl).trans (hc j hj).2.2⟩⟩
def Rows4 (w:World) (a:Option Addr) (n:Nat) (f g h i:Nat→Int):Prop :=
 0<n→∃ b off,a=some ⟨b,off,none⟩∧b<w.heap.size∧∀ j,j<n→w.cell? ⟨b,off+j*4,none⟩=some (.int .i64 (f j))∧w.cell? ⟨b,off+j*4+1,none⟩=some (.int .i64 (g j))∧w.cell? ⟨b,off+j*4+2,none⟩=some (.int .i64 (h j))∧w.cell? ⟨b,off+j*4+3,none⟩=some (.int .i64 (i j))
theorem Rows4.below {w w':World} {a:Option Addr} {n:Nat} {f g h i:Nat→Int} (r:Rows4 w a n f g h i) (hb:Below w.heap.size w w'):Rows4 w' a n f g h i:=by
 intro hn
 obtain ⟨b,off,ha,hbl,hc⟩:=r hn
 exact ⟨b,off,ha,Nat.lt_of_lt_of_le hbl hb.size,fun j hj=>⟨(hb.cell hbl).trans (hc j hj).1,(hb.cell hbl).trans (hc j hj).2.1,(hb.cell hbl).trans (hc j hj).2.2.1,(hb.cell hbl).trans (hc j hj).2.2.2⟩⟩
section
variable {H:Type} {enc:TypeId × Value→H} {P:Program} {w:World} {spare:Nat→Bool} {held:Bool}
theorem open_three {t ti ts:TypeId} {f0 f1 g0 g1:Field} {n:Nat} {cs:List Value} {x:DataW H × List MemPlace} (ht:P.underlying t=some (.struct #[f0,f1])) (hs:P.underlying ts=some (.struct #[g0,g1])) (hi:P.underlying ti=some (.int .i64))
  (h0:f0.type=ti∧f0.offset=0) (h1:f1.type=ts∧f1.offset=1) (k0:g0.type=ti∧g0.offset=0) (k1:g1.type=ti∧g1.offset=1) (hc:P.cellsOf t=3) (hcs:P.cellsOf ts=2) (hci:P.cellsOf ti=1)
  (h:DataW.trod enc P w 0 spare held n t cs=some x):∃ a b c:Int,cs = [.int .i64 a,.int .i64 b,.int .i64 c]∧isInt a∧isInt b∧isInt c:=by
 obtain ⟨y0,y1,m,_,hl,q0,q1⟩:=trod_struct2 ht h
 rw [hc] at hl
 match cs,hl with
 | [v0,v1,v2],_ =>
  rw [h0.1,h0.2,hci] at q0
  rw [h1.1,h1.2,hcs] at q1
  obtain ⟨a,e0,_,wa⟩:=DataW.trod_int hi q0
  obtain ⟨z0,z1,m2,_,_,r0,r1⟩:=trod_struct2 hs q1
  rw [k0.1,k0.2,hci] at r0
  rw [k1.1,k1.2,hci] at r1
  obtain ⟨b,e1,_,wb⟩:=DataW.trod_int hi r0
  obtain ⟨c,e2,_,wc⟩:=DataW.trod_int hi r1
  simp at e0 e1 e2
  subst e0 e1 e2
  exact ⟨a,b,c,rfl,wa,wb,wc⟩
theorem open_four {t ti:TypeId} {f0 f1 f2 f3:Field} {n:Nat} {cs:List Value} {x:DataW H × List MemPlace} (ht:P.underlying t=some (.struct #[f0,f1,f2,f3])) (hi:P.underlying ti=some (.int .i64))
  (h0:f0.type=ti∧f0.offset=0) (h1:f1.type=ti∧f1.offset=1) (h2:f2.type=ti∧f2.offset=2) (h3:f3.type=ti∧f3.offset=3) (hc:P.cellsOf t=4) (hci:P.cellsOf ti=1)
  (h:DataW.trod enc P w 0 spare held n t cs=some x):∃ a b c d:Int,cs = [.int .i64 a,.int .i64 b,.int .i64 c,.int .i64 d]∧isInt a∧isInt b∧isInt c∧isInt d:=by
 obtain ⟨y0,y1,y2,y3,m,_,hl,q0,q1,q2,q3⟩:=trod_struct4 ht h
 rw [hc] at hl
 match cs,hl with
 | [v0,v1,v2,v3],_ =>
  rw [h0.1,h0.2,hci] at q0
  rw [h1.1,h1.2,hci] at q1
  rw [h2.1,h2.2,hci] at q2
  rw [h3.1,h3.2,hci] at q3
  obtain ⟨a,e0,_,wa⟩:=DataW.trod_int hi q0
  obtain ⟨b,e1,_,wb⟩:=DataW.trod_int hi q1
  obtain ⟨c,e2,_,wc⟩:=DataW.trod_int hi q2
  obtain ⟨d,e3,_,wd⟩:=DataW.trod_int hi q3
  simp at e0 e1 e2 e3
  subst e0 e1 e2 e3
  exact ⟨a,b,c,d,rfl,wa,wb,wc,wd⟩
theorem open_rows3 {t e:TypeId} {n:Nat} {v:Value} {x:DataW H × List MemPlace} (ht:P.underlying t=some (.slice e)) (hc:P.cellsOf e=3)
  (hel:∀ (n:Nat) (cs:List Value) (x:DataW H × List MemPlace),DataW.trod enc P w 0 spare held n e cs=some x→∃ a b c:Int,cs = [.int .i64 a,.int .i64 b,.int .i64 c]∧isInt a∧isInt b∧isInt c)
  (h:DataW.trod enc P w 0 spare held n t [v]=some x) :
  ∃ (a:Option Addr) (len cap:Nat) (f g k:Nat→Int),v=.slice a len cap∧len≤maxLen∧Rows3 w a len f g k∧∀ j,j<len→isInt (f j)∧isInt (g j)∧isInt (k j):=by
 rcases open_slice ht h with ⟨h0,_⟩ | ⟨a,len,cap,m,n',D,Pl,h0,_,hl,hm,hmm,_,hx⟩
 ·simp at h0
  exact ⟨none,0,0,fun _=>0,fun _=>0,fun _=>0,h0,Nat.zero_le _,fun hn=>absurd hn (Nat.lt_irrefl _),fun j hj=>absurd hj (Nat.not_lt_zero _)⟩
 ·simp at h0
  have hle:len≤m:=by rw [hmm];split <;> omega
  have key:∀ i,i<len→∃ q:Int × Int × Int,(w.cell? (a.add (i*3))=some (.int .i64 q.1)∧w.cell? ((a.add (i*3)).add 1)=some (.int .i64 q.2.1)∧w.cell? ((a.add (i*3)).add 2)=some (.int .i64 q.2.2))∧isInt q.1∧isInt q.2.1∧isInt q.2.2:=by
   intro i hi
   obtain ⟨cs',h1,h2⟩:=hx i (by omega)
   rw [hc] at h1
   obtain ⟨p,q,r,rfl,wp,wq,wr⟩:=hel _ _ _ h2
   obtain ⟨_,_,h3⟩:=World.cells?_some h1
   exact ⟨(p,q,r),⟨by simpa [Addr.add] using h3 0 (by omega),by simpa using h3 1 (by omega),by simpa using h3 2 (by omega)⟩,wp,wq,wr⟩
  obtain ⟨F,hF⟩:=choose_lt key
  refine ⟨some a,len,cap,fun i=>(F i).1,fun i=>(F i).2.1,fun i=>(F i).2.2,h0,by omega,fun hn=>?_,fun j hj=>(hF j hj).2⟩
  obtain ⟨b,off,spot⟩:=a
  have hs:spot=none:=by simpa [Addr.add] using World.cell?_spot (hF 0 hn).1.1
  subst hs
  refine ⟨b,off,rfl,?_,fun j hj=>?_⟩
  ·have hc0:=(hF 0 hn).1.1
   rcases Nat.lt_or_ge b w.heap.size with g | g
   ·exact g
   ·simp [World.cell?,Addr.add,Array.getElem?_eq_none g] at hc0
  ·have:=(hF j hj).1
   simpa only [add_plain] using this
theorem open_rows4 {t e:TypeId} {n:Nat} {v:Value} {x:DataW H × List MemPlace} (ht:P.underlying t=some (.slice e)) (hc:P.cellsOf e=4)
  (hel:∀ (n:Nat) (cs:List Value) (x:DataW H × List MemPlace),DataW.trod enc P w 0 spare held n e cs=some x→∃ a b c d:Int,cs = [.int .i64 a,.int .i64 b,.int .i64 c,.int .i64 d]∧isInt a∧isInt b∧isInt c∧isInt d)
  (h:DataW.trod enc P w 0 spare held n t [v]=some x) :
  ∃ (a:Option Addr) (len cap:Nat) (f g k l:Nat→Int),v=.slice a len cap∧len≤maxLen∧Rows4 w a len f g k l∧∀ j,j<len→isInt (f j)∧isInt (g j)∧isInt (k j)∧isInt (l j):=by
 rcases open_slice ht h with ⟨h0,_⟩ | ⟨a,len,cap,m,n',D,Pl,h0,_,hl,hm,hmm,_,hx⟩
 ·simp at h0
  exact ⟨none,0,0,fun _=>0,fun _=>0,fun _=>0,fun _=>0,h0,Nat.zero_le _,fun hn=>absurd hn (Nat.lt_irrefl _),fun j hj=>absurd hj (Nat.not_lt_zero _)⟩
 ·simp at h0
  have hle:len≤m:=by rw [hmm];split <;> omega
  have key:∀ i,i<len→∃ q:Int × Int × Int × Int,(w.cell? (a.add (i*4))=some (.int .i64 q.1)∧w.cell? ((a.add (i*4)).add 1)=some (.int .i64 q.2.1)∧w.cell? ((a.add (i*4)).add 2)=some (.int .i64 q.2.2.1)∧w.cell? ((a.add (i*4)).add 3)=some (.int .i64 q.2.2.2))∧isInt q.1∧isInt q.2.1∧isInt q.2.2.1∧isInt q.2.2.2:=by
   intro i hi
   obtain ⟨cs',h1,h2⟩:=hx i (by omega)
   rw [hc] at h1
   obtain ⟨p,q,r,s,rfl,wp,wq,wr,ws⟩:=hel _ _ _ h2
   obtain ⟨_,_,h3⟩:=World.cells?_some h1
   exact ⟨(p,q,r,s),⟨by simpa [Addr.add] using h3 0 (by omega),by simpa using h3 1 (by omega),by simpa using h3 2 (by omega),by simpa using h3 3 (by omega)⟩,wp,wq,wr,ws⟩
  obtain ⟨F,hF⟩:=choose_lt key
  refine ⟨some a,len,cap,fun i=>(F i).1,fun i=>(F i).2.1,fun i=>(F i).2.2.1,fun i=>(F i).2.2.2,h0,by omega,fun hn=>?_,fun j hj=>(hF j hj).2⟩
  obtain ⟨b,off,spot⟩:=a
  have hs:spot=none:=by simpa [Addr.add] using World.cell?_spot (hF 0 hn).1.1
  subst hs
  refine ⟨b,off,rfl,?_,fun j hj=>?_⟩
  ·have hc0:=(hF 0 hn).1.1
   rcases Nat.lt_or_ge b w.heap.size with g | g
   ·exact g
   ·simp [World.cell?,Addr.add,Array.getElem?_eq_none g] at hc0
  ·have:=(hF j hj).1
   simpa only [add_plain] using this
theorem open_ten {t:TypeId} {fs:Array Field} {r:Reach} {b0:Nat} {v:Value} {d:DataW H} {p:List MemPlace} (ht:P.underlying t=some (.struct fs)) (hc:P.cellsOf t=10) (ts:List TypeId)
  (hf:∀ i,i<10→∃ f,fs[i]? = some f∧f.type=ts.getD i 0∧f.offset=i∧P.cellsOf (ts.getD i 0)=1) (hsz:fs.size=10)
  (hv:Value.okWide P w r b0 t v) (h:DataW.Trod enc P w 0 spare held t v d p) :
  ∃ c0 c1 c2 c3 c4 c5 c6 c7 c8 c9:Value,v=.agg #[c0,c1,c2,c3,c4,c5,c6,c7,c8,c9]∧∀ i,i<10→∃ n x,DataW.trod enc P w 0 spare held n (ts.getD i 0) [[c0,c1,c2,c3,c4,c5,c6,c7,c8,c9].getD i .nilIface]=some x:=by
 obtain ⟨cs,rfl,hz⟩:=okWide_struct ht hv
 rw [hc] at hz
 obtain ⟨l⟩:=cs
 match l,hz with
 | [c0,c1,c2,c3,c4,c5,c6,c7,c8,c9],_ =>
  refine ⟨c0,c1,c2,c3,c4,c5,c6,c7,c8,c9,rfl,fun i hi=>?_⟩
  obtain ⟨fuel,hfu⟩:=h
  obtain ⟨xs,n,_,_,_,hlen,hx⟩:=DataW.trod_struct ht hfu
  obtain ⟨f,h1,h2,h3,h4⟩:=hf i hi
  have g:=hx i f h1
  rw [h2,h3,h4,List.getElem?_eq_getElem (by rw [hlen,hsz];exact hi)] at g
  refine ⟨n,xs[i]'(by rw [hlen,hsz];exact hi),?_⟩
  rw [← g]
  have:i=0∨i=1∨i=2∨i=3∨i=4∨i=5∨i=6∨i=7∨i=8∨i=9:=by omega
  rcases this with rfl | rfl | rfl | rfl | rfl | rfl | rfl | rfl | rfl | rfl <;> simp [Value.cells]
end
end
section
def IntRow (w:World) (a:Option Addr) (l:List Int):Prop :=
 0<l.length→∃ b off,a=some ⟨b,off,none⟩∧b<w.heap.size∧∀ j,j<l.length→w.cell? ⟨b,off+j,none⟩=some (.int .i64 (l.getD j 0))
theorem IntRow.below {w w':World} {a:Option Addr} {l:List Int} (h:IntRow w a l) (hb:Below w.heap.size w w'):IntRow w' a l:=fun h0=>by
 obtain ⟨b,off,e,hl,hc⟩:=h h0
 exact ⟨b,off,e,Nat.lt_of_lt_of_le hl hb.size,fun j hj=>(hb.cell (p:=⟨b,off+j,none⟩) hl).trans (hc j hj)⟩
end
section
theorem lt_of_cell {w:World} {a:Addr} {v:Value} (h:w.cell? a=some v):a.block<w.heap.size:=by
 rcases Nat.lt_or_ge a.block w.heap.size with g | g
 ·exact g
 ·simp [World.cell?,Array.getElem?_eq_none g] at h
theorem keep_cell {w w':World} {a:Addr} {v:Value} (h:w.cell? a=some v) (hb:Below w.heap.size w w'):w'.cell? a=some v:=(hb.cell (lt_of_cell h)).trans h
def ErrIs (w:World) (E:Value) (e i:Int):Prop :=
 (E=.nilIface∧e=0∧i = -1)∨(E=.iface 36 (.int .i64 e)∧e≠0∧i = -1)∨(∃ b,E=.iface 162 (.pointer (some ⟨b,0,none⟩))∧e≠0∧w.cell? ⟨b,0,none⟩=some (.int .i64 e)∧w.cell? ⟨b,1,none⟩=some (.int .i64 i))
end
section
def errV (k:Int):Value:=if k=0 then .nilIface else .iface 36 (.int .i64 k)
theorem errV_0:errV 0=.nilIface:=rfl
theorem errV_1:errV 1=.iface 36 (.int .i64 1):=rfl
theorem errV_2:errV 2=.iface 36 (.int .i64 2):=rfl
end
section
theorem wrap_nat (n:Nat) (h:n<9223372036854775808):IntKind.i64.wrap (n:Int)=(n:Int):=by
 simp [IntKind.wrap,IntKind.bits,IntKind.signed];omega
theorem i64_or_nat (a b:Nat) (ha:a<9223372036854775808) (hb:b<9223372036854775808):bits .or .i64 (a:Int) (b:Int)=((a ||| b:Nat):Int):=by
 show IntKind.i64.wrap ((BitVec.ofInt 64 (a:Int) ||| BitVec.ofInt 64 (b:Int)).toNat:Int)=_
 rw [BitVec.toNat_or,ofInt_u64 a (by omega),ofInt_u64 b (by omega)]
 exact wrap_nat _ (Nat.or_lt_two_pow (n:=63) ha hb)
theorem i64_and_nat (a b:Nat) (ha:a<9223372036854775808) (hb:b<9223372036854775808):bits .and .i64 (a:Int) (b:Int)=((a &&& b:Nat):Int):=by
 show IntKind.i64.wrap ((BitVec.ofInt 64 (a:Int) &&& BitVec.ofInt 64 (b:Int)).toNat:Int)=_
 rw [BitVec.toNat_and,ofInt_u64 a (by omega),ofInt_u64 b (by omega)]
 exact wrap_nat _ (Nat.and_lt_two_pow (n:=63) a hb)
theorem i64_xor_nat (a b:Nat) (ha:a<9223372036854775808) (hb:b<9223372036854775808):bits .xor .i64 (a:Int) (b:Int)=((a ^^^ b:Nat):Int):=by
 show IntKind.i64.wrap ((BitVec.ofInt 64 (a:Int) ^^^ BitVec.ofInt 64 (b:Int)).toNat:Int)=_
 rw [BitVec.toNat_xor,ofInt_u64 a (by omega),ofInt_u64 b (by omega)]
 exact wrap_nat _ (Nat.xor_lt_two_pow (n:=63) ha hb)
end
section
theorem Tryz.infoInt:(Tryz.prog.info? 3).map (fun i=>(i.zero,i.size,i.bytes))=some (some (.int .i64 0),1,8):=by kernel_rfl
theorem add_at (b off n:Nat):(⟨b,off,none⟩:Addr).add n=⟨b,off+n,none⟩:=by
 simp [Addr.add]
theorem owns_below {w w':World} {base:Nat} {e:TypeId} {size:Nat} {v:Value} {n:Nat} {xs:List Value} (h:w.ownsRow base e size v n xs) (hb:Below w.heap.size w w'):w'.ownsRow base e size v n xs:=by
 obtain ⟨h1,h2⟩:=h
 refine ⟨h1,?_⟩
 rcases h2 with h2 | ⟨g,cap,cur,rfl,hg,hh,r⟩
 ·exact .inl h2
 ·refine .inr ⟨g,cap,cur,rfl,hg,?_,r⟩
  have hlt:g<w.heap.size:=by
   rcases Nat.lt_or_ge g w.heap.size with q | q
   ·exact q
   ·rw [Array.getElem?_eq_none q] at hh;cases hh
  rw [hb.block g hlt];exact hh
theorem owns_mono {w:World} {base base':Nat} {e:TypeId} {size:Nat} {v:Value} {n:Nat} {xs:List Value} (h:w.ownsRow base e size v n xs) (hb:base'≤base):w.ownsRow base' e size v n xs:=by
 obtain ⟨h1,h2⟩:=h
 refine ⟨h1,?_⟩
 rcases h2 with h2 | ⟨g,cap,cur,hv,hg,r⟩
 ·exact .inl h2
 ·exact .inr ⟨g,cap,cur,hv,Nat.le_trans hb hg,r⟩
theorem owns_some {w:World} {base:Nat} {e:TypeId} {v:Value} {n:Nat} {xs:List Value} (h:w.ownsRow base e 1 v n xs) (hn:1≤n) :
  ∃ g cap,v=.slice (some ⟨g,0,none⟩) n cap∧base≤g∧∀ j u,xs[j]? = some u→w.cell? ((⟨g,0,none⟩:Addr).add j)=some u:=by
 rcases h.2 with ⟨_,h0⟩ | ⟨g,cap,cur,hv,hg,r⟩
 ·omega
 ·exact ⟨g,cap,hv,hg,fun j u hj=>h.cells (g:=g) (by rw [hv];rfl) j u hj⟩
theorem ints_one (l:List Int):∀ u∈l.map (Value.int .i64),u.oneCell'=true:=fun u hu=>by
 simp at hu;obtain ⟨a,_,rfl⟩:=hu;rfl
theorem owns_row (w:World) (cur:Array Value) (e:TypeId) (n:Nat) (hn:cur.size=n) (hm:n≤maxLen) (base:Nat) (hb:base≤w.heap.size):(w.alloc (.cells cur e)).ownsRow base e 1 (.slice (some ⟨w.heap.size,0,none⟩) n n) n cur.toList :=
 ⟨by simp [hn],.inr ⟨w.heap.size,n,cur,rfl,hb,by show (w.heap.push _)[w.heap.size]? = _;simp,Nat.le_refl _,hm,by omega,List.take_of_length_le (by simp [hn])⟩⟩
theorem row_cells (w:World) (cur:Array Value) (e:TypeId):∀ j u,cur.toList[j]? = some u→(w.alloc (.cells cur e)).cell? ((⟨w.heap.size,0,none⟩:Addr).add j)=some u:=by
 intro j u hj
 rw [add_at]
 simp at hj ⊢
 simpa using hj
end
section
theorem lit (L:List Value) (n:Nat) (h:L.length=n):∃ f:Nat→Value,L=(List.range n).map f:=by
 refine ⟨fun i=>L.getD i undef,List.ext_getElem (by simp [h]) fun i h1 h2=>?_⟩
 simp [List.getD,h1]
theorem lit_at {f:Nat→Value} {n i:Nat} {v:Value} (h:((List.range n).map f)[i]? = some v):f i=v:=by
 rw [List.getElem?_map] at h
 cases e:(List.range n)[i]? with
 | none=>rw [e] at h;cases h
 | some j =>
  rw [e] at h
  have hj:j=i:=by
   rw [List.getElem?_eq_some_iff] at e
   obtain ⟨h1,h2⟩:=e
   simpa using h2.symm
  subst hj
  exact Option.some.inj h
def Rest (W:Nat→Bool) (L L':List Value):Prop:=∀ i,W i=false→L'[i]? = L[i]?
def restB (f:Nat→Value) (W:Nat→Bool):Nat→List Value→Prop
 | _,[]=>True
 | k,x::l=>(W k=true∨x=f k)∧restB f W (k+1) l
theorem restB_at {f:Nat→Value} {W:Nat→Bool} : ∀ {l:List Value} {k:Nat},restB f W k l→∀ i,i<l.length→W (k+i)=false→l[i]? = some (f (k+i))
 | x::l,k,h,0,_,hn=>by
  rcases h.1 with q | q
  ·rw [Nat.add_zero,q] at hn;cases hn
  ·simp [q]
 | x::l,k,h,i+1,hi,hn=>by
  have e:k+1+i=k+(i+1):=by omega
  have:=restB_at (l:=l) (k:=k+1) h.2 i (by simpa using hi) (by rw [e];exact hn)
  rw [e] at this
  simpa using this
theorem Rest.of {f:Nat→Value} {W:Nat→Bool} {l:List Value} {n:Nat} (hl:l.length=n) (h:restB f W 0 l:=by repeat (first | exact trivial | refine ⟨.inr rfl,?_⟩ | refine ⟨.inr (Eq.symm (by assumption)),?_⟩ | refine ⟨.inl rfl,?_⟩)):Rest W ((List.range n).map f) l:=fun i hn=>by
 by_cases hi:i<l.length
 ·rw [restB_at h i hi (by simpa using hn)]
  simp [← hl,hi]
 ·rw [List.getElem?_eq_none (by omega),List.getElem?_eq_none (by simp;omega)]
theorem Rest.via {W:Nat→Bool} {A B C:List Value} (h:Rest W B C) (k:Rest W A B):Rest W A C:=fun i hi=>(h i hi).trans (k i hi)
def ov (W:Nat→Bool) (g:Nat→Value):Nat→List Value→List Value
 | _,[]=>[]
 | k,x::l=>(if W k=true then g k else x)::ov W g (k+1) l
theorem ov_len (W:Nat→Bool) (g:Nat→Value):∀ (l:List Value) (k:Nat),(ov W g k l).length=l.length
 | [],_=>rfl
 | x::l,k=>by simp [ov,ov_len W g l]
theorem ov_at (W:Nat→Bool) (g:Nat→Value):∀ (l:List Value) (k i:Nat),i<l.length→(ov W g k l)[i]? = if W (k+i) then some (g (k+i)) else l[i]?
 | x::l,k,0,_=>by
  simp only [ov,List.getElem?_cons_zero,Nat.add_zero]
  cases W k <;> simp
 | x::l,k,i+1,hi=>by
  have e:k+1+i=k+(i+1):=by omega
  have:=ov_at W g l (k+1) i (by simpa using hi)
  rw [e] at this
  simpa [ov] using this
theorem Rest.over {W:Nat→Bool} {L L':List Value} (h:Rest W L L') (hl:L'.length=L.length):∃ g,L'=ov W g 0 L:=by
 refine ⟨fun i=>L'.getD i undef,List.ext_getElem? fun i=>?_⟩
 by_cases hi:i<L.length
 ·rw [ov_at W _ L 0 i hi,Nat.zero_add]
  cases hw:W i with
  | true =>
   have h2:i<L'.length:=by omega
   simp [List.getD,h2]
  | false=>simpa using h i hw
 ·rw [List.getElem?_eq_none (by omega),List.getElem?_eq_none (by rw [ov_len];omega)]
end
section
def loopsIn:Code→List Code
 | .loop c=>c::loopsIn c
 | .seq a b=>loopsIn a ++ loopsIn b
 | .block _ c=>loopsIn c
 | .scope c=>loopsIn c
 | .cond _ a b=>loopsIn a ++ loopsIn b
 | _=>[]
end
section
theorem in_is (n lo hi:Int) (w:World):Calls Tryz.prog 31 #[.int .i64 n,.int .i64 lo,.int .i64 hi] w fun e w'=>e=.returned (.bool (decide (lo≤n∧n≤hi)))∧w'=w:=by
 by_cases h1:lo≤n
 ·by_cases h2:n≤hi
  ·rw [decide_eq_true (show lo≤n∧n≤hi from ⟨h1,h2⟩)]
   go_enter Tryz.func31,Tryz.ntmps31
   go_wp2
   go_ret
   exact ⟨rfl,rfl⟩
  ·have h3:decide (n≤hi)=false:=decide_eq_false h2
   rw [decide_eq_false (show ¬ (lo≤n∧n≤hi) by omega)]
   go_enter Tryz.func31,Tryz.ntmps31
   go_wp2
   go_ret
   exact ⟨rfl,rfl⟩
 ·have h3:decide (lo≤n)=false:=decide_eq_false h1
  rw [decide_eq_false (show ¬ (lo≤n∧n≤hi) by omega)]
  go_enter Tryz.func31,Tryz.ntmps31
  go_wp2
  go_ret
  exact ⟨rfl,rfl⟩
end
section
def regionIn (n:Nat):Code→Option Code
 | .region i o d=>if i=n then some (.region i o d) else none
 | .loop c=>regionIn n c
 | .seq a b=>(regionIn n a).orElse fun _=>regionIn n b
 | .block _ c=>regionIn n c
 | .scope c=>regionIn n c
 | .cond _ a b=>(regionIn n a).orElse fun _=>regionIn n b
 | _=>none
end
section
theorem step_mapPut {ops:Array Oper} {o:Oper} {a:Act} {K:Act→World→Prop} {Q:Exit→Act→World→Prop} {E:Prop} {w w':World} (hgd:o.guard=none) (t:TypeId) (m x v:Operand) (ho:o.op=Op.mapUpdate t m x v) (mv kv vv:Value) (hm:a.eval m=mv) (hx:a.eval x=kv) (hv:a.eval v=vv)
  (hrun:(Instr.mapUpdate t mv kv vv).run Tryz.prog w=.ok () w') (h:K (a.put o.dst undef) w'):if Region.wanted o (yielded ops a.tmps)=true then Oper.wp Tryz.prog o a w K Q else E:=by
 have hw:Region.wanted o (yielded ops a.tmps)=true:=by simp [Region.wanted,hgd]
 rw [if_pos hw]
 unfold Oper.wp
 simp [execOp,ho,hm,hx,hv,hrun,Result.andThen]
 exact h
end
section
def AtIs (w:World) (E:Value) (e i:Int):Prop :=
 (E=.nilIface∧e=0)∨(∃ b,E=.iface 162 (.pointer (some ⟨b,0,none⟩))∧e≠0∧w.cell? ⟨b,0,none⟩=some (.int .i64 e)∧w.cell? ⟨b,1,none⟩=some (.int .i64 i))
end
section

end
section

end
section
theorem refBare_any (k:Int) (w:World):Calls Tryz.prog 32 #[.int .i64 k] w fun e w'=>e=.returned (.agg #[.int .i64 k,.int .i64 (-1)])∧Below w.heap.size w w':=by
 go_enter Tryz.func32,Tryz.ntmps32
 go_wp2
 refine bodyPost_ret (v:=.agg #[.int .i64 k,.int .i64 (-1)]) (by simp [results,Tryz.results32,go_sem]) rfl ⟨rfl,?_⟩
 repeat (refine Below.alloc ?_ (by simp;try omega) _)
 exact Below.refl _ _
end
section
def smallB (ns nl nw:Nat):Bool:=decide (wrap64 (wrap64 ((ns:Int)+(nl:Int))+(nw:Int))≤120)
theorem small_any (nodes faulty skew jitter drift round frame:Int) (sa la wa:Option Addr) (ns sc nl lc nw wc:Nat) (w:World) :
  Calls Tryz.prog 4 #[.agg #[.int .i64 nodes,.int .i64 faulty,.int .i64 skew,.int .i64 jitter,.int .i64 drift,.int .i64 round,.slice sa ns sc,.slice la nl lc,.int .i64 frame,.slice wa nw wc]] w fun ev w'=>ev=.returned (.bool (smallB ns nl nw))∧Below w.heap.size w w':=by
 go_enter Tryz.func4,Tryz.ntmps4
 go_wp2
 go_ret
 exact ⟨rfl,(Below.refl _ _).alloc (Nat.le_refl _) _⟩
end
section
def skipB (md:Region.Mode) (ops:Array Oper):Array Bool→List (Nat × Tmp)→Array Value→Bool
 | _,[],_=>true
 | listed,(i,d)::r,t=>match ops[i]? with
  | some o=>(o.dst == some d) && !Region.wanted o (yielded ops t) && Region.free md ops listed i && (Region.ready md ops listed).contains i && skipB md ops (listed.setIfInBounds i true) r (t.setIfInBounds d undef)
  | none=>false
def skipL (listed:Array Bool) (is:List (Nat × Tmp)):Array Bool:=is.foldl (fun l p=>l.setIfInBounds p.1 true) listed
def skipA (a:Act) (is:List (Nat × Tmp)):Act:=is.foldl (fun a p=>a.put (some p.2) undef) a
theorem wpAnyH_skips {P:Program} {md:Region.Mode} {ops:Array Oper} {Q:Exit→Act→World→Prop} {S:World→Prop} (hs:Region.noSelect ops=true) (hQ:∀ c a d w,Q (.panic c) (a.put (some d) undef) w→Q (.panic c) a w) {w:World} (hS:S w) {fuel:Nat} :
  ∀ (is:List (Nat × Tmp)) {listed:Array Bool} {a:Act},skipB md ops listed is a.tmps=true→wpAnyH P md ops Q S fuel (skipL listed is) (skipA a is) w→wpAnyH P md ops Q S (fuel+is.length) listed a w
 | [],_,_,_,h=>h
 | (i,d)::r,listed,a,hb,h=>by
  unfold skipB at hb
  split at hb
  ·rename_i o ho
   simp only [Bool.and_eq_true,Bool.not_eq_true',beq_iff_eq] at hb
   obtain ⟨⟨⟨⟨h1,h2⟩,h3⟩,h4⟩,h5⟩:=hb
   have ih:=wpAnyH_skips hs hQ hS r (listed:=listed.setIfInBounds i true) (a:=a.put (some d) undef) h5 h
   refine wpAnyH_take (i:=i) (oi:=o) (v:=undef) ho hs h3 h4 (by rw [h1];exact fun c a w=>hQ c a d w) (Or.inr ⟨h2,rfl⟩) hS ?_
   rw [h1];exact ih
  ·cases hb
theorem zA {α:Type} (l:List α) (i:Nat) (a:α):l.toArray.setIfInBounds i a=(l.set i a).toArray:=by simp
theorem zB {α:Type} (x:α) (l:List α) (a:α):(x::l).set 0 a=a::l:=rfl
theorem zC {α:Type} (x:α) (l:List α) (n:Nat) (a:α):(x::l).set (n+1) a=x::l.set n a:=rfl
theorem opAt {ops:Array Oper} {i:Nat} {o:Oper} {r:List Oper} (h:ops.toList.drop i=o::r):ops[i]? = some o:=by
 have:=congrArg (fun l=>l[0]?) h
 simpa using this
section
variable {P:Program} {ops:Array Oper} {Q:Exit→Act→World→Prop} {md:Region.Mode} {S:World→Prop} {fuel:Nat} {listed:Array Bool}
theorem tk (i:Nat) {v:Value} {a b:Act} {w:World} {oi:Oper} {r:List Oper} (hS:S w) (h:wpAnyH P md ops Q S fuel (listed.setIfInBounds i true) b w) (hi:ops.toList.drop i=oi::r:=by exact rfl) (hs:Region.noSelect ops=true:=by kernel_rfl) (hf:Region.free md ops listed i=true:=by kernel_rfl) (hr:(Region.ready md ops listed).contains i=true:=by kernel_rfl) (hQ:∀ c a w,Q (.panic c) (a.put oi.dst v) w→Q (.panic c) a w:=by exact fun _ _ _ h=>h) (hy:YieldsIf P ops S oi v a:=by exact Or.inl ⟨by rfl,by (intro w hSw;(try dsimp only at hSw);go_simp <;> with_reducible rfl)⟩) (hb:a.put oi.dst v=b:=by (simp only [Act.put,zA,zB,zC];exact rfl)):wpAnyH P md ops Q S (fuel+1) listed a w:=wpAnyH_take (opAt hi) hs hf hr hQ hy hS (hb ▸ h)
theorem rdy (i:Nat) {o:Oper} {r:List Oper} {a:Act} {w:World} (h:∀ K':Act→World→Prop,Shut (∀ a w,S w→(S w→wpAnyH P md ops Q S fuel (listed.setIfInBounds i true) a w)→K' a w)→if Region.wanted o (yielded ops a.tmps)=true then Oper.wp P o a w K' Q else K' (a.put o.dst undef) w) (ho:ops.toList.drop i=o::r:=by exact rfl) (hr:Region.ready md ops listed=[i]:=by kernel_rfl):wpAnyH P md ops Q S (fuel+1) listed a w:=wpAnyH_ready hr (by simp) (AllReadyH.cons (opAt ho) h AllReadyH.nil)
theorem rd2 (i j:Nat) {o p:Oper} {r s:List Oper} {a:Act} {w:World} (h:∀ K':Act→World→Prop,Shut (∀ a w,S w→(S w→wpAnyH P md ops Q S fuel (listed.setIfInBounds i true) a w)→K' a w)→if Region.wanted o (yielded ops a.tmps)=true then Oper.wp P o a w K' Q else K' (a.put o.dst undef) w) (k:∀ K':Act→World→Prop,Shut (∀ a w,S w→(S w→wpAnyH P md ops Q S fuel (listed.setIfInBounds j true) a w)→K' a w)→if Region.wanted p (yielded ops a.tmps)=true then Oper.wp P p a w K' Q else K' (a.put p.dst undef) w) (ho:ops.toList.drop i=o::r:=by exact rfl) (hp:ops.toList.drop j=p::s:=by exact rfl) (hr:Region.ready md ops listed=[i,j]:=by kernel_rfl):wpAnyH P md ops Q S (fuel+1) listed a w:=wpAnyH_ready hr (by simp) (AllReadyH.cons (opAt ho) h (AllReadyH.cons (opAt hp) k AllReadyH.nil))
theorem kp {K:Act→World→Prop} {a b:Act} {w:World} (hK:Shut (∀ a w,S w→(S w→wpAnyH P md ops Q S fuel listed a w)→K a w)) (h:S w→wpAnyH P md ops Q S fuel listed b w) (hs:S w:=by ((try dsimp only);go_keep)) (hb:a=b:=by ((try simp only [Act.put,zA,zB,zC]);exact rfl)):K a w:=hK.out _ _ hs (hb ▸ h)
theorem dn {a:Act} {w:World} (h:Q .normal a w) (hr:Region.ready md ops listed=[]:=by kernel_rfl):wpAnyH P md ops Q S fuel listed a w:=wpAnyH_done hr h _
end
end
section
open Go.ChangeShapes Go.WideShapes Go.ChangeAt Go.RowKit Go.Joins
theorem isInt_le' {n:Int} (h:(Lit.int .i64 n).wf=true):-9223372036854775808≤n∧n≤9223372036854775807:=by
 simp only [Lit.wf,Bool.and_eq_true,decide_eq_true_eq] at h
 exact ⟨Int.le_trans (by decide) h.1,Int.le_trans h.2 (by decide)⟩
section
variable {H:Type} {enc:TypeId × Value→H} {w:World} {spare:Nat→Bool} {held:Bool} {r:Reach} {b0:Nat} {v:Value} {d:DataW H} {p:List MemPlace}
theorem open_number (hv:Value.okWide Tryz.prog w r b0 3 v) (h:DataW.Trod enc Tryz.prog w 0 spare held 3 v d p) :
  ∃ a:Int,v=.int .i64 a∧-9223372036854775808≤a∧a≤9223372036854775807:=by
 obtain ⟨a,rfl,_,_,wa⟩:=open_int Tryz.underlying3 hv h
 exact ⟨a,rfl,isInt_le' wa⟩
end
end
end Go.Proofs.YtooadfgibdjdeaaGreatDoor
