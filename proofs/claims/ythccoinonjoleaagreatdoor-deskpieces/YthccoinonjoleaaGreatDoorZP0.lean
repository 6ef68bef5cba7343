import Derived.Test.YthccoinonjoleaaGreatDoorProg
import Derived.Below
import Derived.Deep.RegionHeld3
import Derived.Deep.Slices
import Derived.KernelRfl
import Derived.Laws.BitsAllLaws
import Derived.Lib.Bytealg
import Derived.Lib.SmallJoins
import Derived.ProofKit
import Derived.WalkKit
import Derived.WalkLawsBesides
import Derived.WalkSpells
import GoSem.Claim
namespace Go.Proofs.YthccoinonjoleaaGreatDoor
open Go.RowKit
set_option maxRecDepth 100000
set_option maxHeartbeats 16000000
section
theorem lt_of_cell {w:World} {a:Addr} {v:Value} (h:w.cell? a=some v):a.block<w.heap.size:=by
 rcases Nat.lt_or_ge a.block w.heap.size with g | g
 ·exact g
 ·simp [World.cell?,Array.getElem?_eq_none g] at h
theorem keep_cell {w w':World} {a:Addr} {v:Value} (h:w.cell? a=some v) (hb:Below w.heap.size w w'):w'.cell? a=some v:=(hb.cell (lt_of_cell h)).trans h
def ErrIs (w:World) (E:Value) (e i:Int):Prop :=
 (E=.nilIface∧e=0∧i = -1)∨(E=.iface 25 (.int .i64 e)∧e≠0∧i = -1)∨(∃ b,E=.iface 231 (.pointer (some ⟨b,0,none⟩))∧e≠0∧w.cell? ⟨b,0,none⟩=some (.int .i64 e)∧w.cell? ⟨b,1,none⟩=some (.int .i64 i))
theorem ErrIs.below {w w':World} {E:Value} {e i:Int} (h:ErrIs w E e i) (hb:Below w.heap.size w w'):ErrIs w' E e i:=by
 rcases h with h | h | ⟨b,h1,h2,h3,h4⟩
 ·exact .inl h
 ·exact .inr (.inl h)
 ·exact .inr (.inr ⟨b,h1,h2,keep_cell h3 hb,keep_cell h4 hb⟩)
end
section
def errV (k:Int):Value:=if k=0 then .nilIface else .iface 25 (.int .i64 k)
theorem errV_0:errV 0=.nilIface:=rfl
theorem errV_1:errV 1=.iface 25 (.int .i64 1):=rfl
theorem errV_2:errV 2=.iface 25 (.int .i64 2):=rfl
end
section
theorem zA {α:Type} (l:List α) (i:Nat) (a:α):l.toArray.setIfInBounds i a=(l.set i a).toArray:=by simp
theorem zB {α:Type} (x:α) (l:List α) (a:α):(x::l).set 0 a=a::l:=rfl
theorem zC {α:Type} (x:α) (l:List α) (n:Nat) (a:α):(x::l).set (n+1) a=x::l.set n a:=rfl
theorem opAt {ops:Array Oper} {i:Nat} {o:Oper} {r:List Oper} (h:ops.toList.drop i=o::r):ops[i]? = some o:=by
 have:=congrArg (fun l=>l[0]?) h
 simpa using this
section
variable {P:Program} {ops:Array Oper} {Q:Exit→Act→World→Prop} {md:Region.Mode} {S:World→Prop} {fuel:Nat} {listed:Array Bool}
theorem tk (i:Nat) {v:Value} {a b:Act} {w:World} {oi:Oper} {r:List Oper} (hS:S w) (h:wpAnyH P md ops Q S fuel (listed.setIfInBounds i true) b w) (hi:ops.toList.drop i=oi::r:=by exact rfl) (hs:Region.noSelect ops=true:=by kernel_rfl) (hf:Region.free md ops listed i=true:=by kernel_rfl) (hr:(Region.ready md ops listed).contains i=true:=by kernel_rfl) (hQ:∀ c a w,Q (.panic c) (a.put oi.dst v) w→Q (.panic c) a w:=by exact fun _ _ _ h=>h) (hy:YieldsIf P ops S oi v a:=by exact Or.inl ⟨by rfl,by (intro w hSw;(try dsimp only at hSw);go_simp <;> with_reducible rfl)⟩) (hb:a.put oi.dst v=b:=by (simp only [Act.put,zA,zB,zC];exact rfl)):wpAnyH P md ops Q S (fuel+1) listed a w:=wpAnyH_take (opAt hi) hs hf hr hQ hy hS (hb▸h)
theorem rdy (i:Nat) {o:Oper} {r:List Oper} {a:Act} {w:World} (h:∀ K':Act→World→Prop,Shut (∀ a w,S w→(S w→wpAnyH P md ops Q S fuel (listed.setIfInBounds i true) a w)→K' a w)→if Region.wanted o (yielded ops a.tmps)=true then Oper.wp P o a w K' Q else K' (a.put o.dst undef) w) (ho:ops.toList.drop i=o::r:=by exact rfl) (hr:Region.ready md ops listed = [i]:=by kernel_rfl):wpAnyH P md ops Q S (fuel+1) listed a w:=wpAnyH_ready hr (by simp) (AllReadyH.cons (opAt ho) h AllReadyH.nil)
theorem rd2 (i j:Nat) {o p:Oper} {r s:List Oper} {a:Act} {w:World} (h:∀ K':Act→World→Prop,Shut (∀ a w,S w→(S w→wpAnyH P md ops Q S fuel (listed.setIfInBounds i true) a w)→K' a w)→if Region.wanted o (yielded ops a.tmps)=true then Oper.wp P o a w K' Q else K' (a.put o.dst undef) w) (k:∀ K':Act→World→Prop,Shut (∀ a w,S w→(S w→wpAnyH P md ops Q S fuel (listed.setIfInBounds j true) a w)→K' a w)→if Region.wanted p (yielded ops a.tmps)=true then Oper.wp P p a w K' Q else K' (a.put p.dst undef) w) (ho:ops.toList.drop i=o::r:=by exact rfl) (hp:ops.toList.drop j=p::s:=by exact rfl) (hr:Region.ready md ops listed = [i,j]:=by kernel_rfl):wpAnyH P md ops Q S (fuel+1) listed a w:=wpAnyH_ready hr (by simp) (AllReadyH.cons (opAt ho) h (AllReadyH.cons (opAt hp) k AllReadyH.nil))
theorem kp {K:Act→World→Prop} {a b:Act} {w:World} (hK:Shut (∀ a w,S w→(S w→wpAnyH P md ops Q S fuel listed a w)→K a w)) (h:S w→wpAnyH P md ops Q S fuel listed b w) (hs:S w:=by ((try dsimp only);go_keep)) (hb:a=b:=by ((try simp only [Act.put,zA,zB,zC]);exact rfl)):K a w:=hK.out _ _ hs (hb▸h)
theorem dn {a:Act} {w:World} (h:Q .normal a w) (hr:Region.ready md ops listed = []:=by kernel_rfl):wpAnyH P md ops Q S fuel listed a w:=wpAnyH_done hr h _
end
end
section
def IntRow (w:World) (a:Option Addr) (l:List Int):Prop :=
 0<l.length→∃ b off,a=some ⟨b,off,none⟩∧b<w.heap.size∧∀ j,j<l.length→w.cell? ⟨b,off+j,none⟩=some (.int .i64 (l.getD j 0))
theorem IntRow.below {w w':World} {a:Option Addr} {l:List Int} (h:IntRow w a l) (hb:Below w.heap.size w w'):IntRow w' a l:=fun h0=>by
 obtain ⟨b,off,e,hl,hc⟩:=h h0
 exact ⟨b,off,e,Nat.lt_of_lt_of_le hl hb.size,fun j hj=>(hb.cell (p:=⟨b,off+j,none⟩) hl).trans (hc j hj)⟩
end
section
theorem Tryz.infoInt:(Tryz.prog.info? 3).map (fun i=>(i.zero,i.size,i.bytes))=some (some (.int .i64 0),1,8):=by kernel_rfl
theorem add_at (b off n:Nat):(⟨b,off,none⟩:Addr).add n=⟨b,off+n,none⟩:=by
 simp [Addr.add]
theorem owns_below {w w':World} {base:Nat} {e:TypeId} {size:Nat} {v:Value} {n:Nat} {xs:List Value} (h:w.ownsRow base e size v n xs) (hb:Below w.heap.size w w'):w'.ownsRow base e size v n xs:=by
 obtain ⟨h1,h2⟩:=h
 refine ⟨h1,?_⟩
 rcases h2 with h2 | ⟨g,cap,cur,rfl,hg,hh,r⟩
 ·exact .inl h2
 ·refine .inr ⟨g,cap,cur,rfl,hg,?_,r⟩
  have hlt:g<w.heap.size:=by
   rcases Nat.lt_or_ge g w.heap.size with q | q
   ·exact q
   ·rw [Array.getElem?_eq_none q] at hh;cases hh
  rw [hb.block g hlt];exact hh
theorem owns_mono {w:World} {base base':Nat} {e:TypeId} {size:Nat} {v:Value} {n:Nat} {xs:List Value} (h:w.ownsRow base e size v n xs) (hb:base'≤base):w.ownsRow base' e size v n xs:=by
 obtain ⟨h1,h2⟩:=h
 refine ⟨h1,?_⟩
 rcases h2 with h2 | ⟨g,cap,cur,hv,hg,r⟩
 ·exact .inl h2
 ·exact .inr ⟨g,cap,cur,hv,Nat.le_trans hb hg,r⟩
theorem owns_some {w:World} {base:Nat} {e:TypeId} {v:Value} {n:Nat} {xs:List Value} (h:w.ownsRow base e 1 v n xs) (hn:1≤n) :
  ∃ g cap,v=.slice (some ⟨g,0,none⟩) n cap∧base≤g∧∀ j u,xs[j]? = some u→w.cell? ((⟨g,0,none⟩:Addr).add j)=some u:=by
 rcases h.2 with ⟨_,h0⟩ | ⟨g,cap,cur,hv,hg,r⟩
 ·omega
 ·exact ⟨g,cap,hv,hg,fun j u hj=>h.cells (g:=g) (by rw [hv];rfl) j u hj⟩
theorem ints_one (l:List Int):∀ u∈l.map (Value.int .i64),u.oneCell'=true:=fun u hu=>by
 simp at hu;obtain ⟨a,_,rfl⟩:=hu;rfl
theorem row_cells (w:World) (cur:Array Value) (e:TypeId):∀ j u,cur.toList[j]? = some u→(w.alloc (.cells cur e)).cell? ((⟨w.heap.size,0,none⟩:Addr).add j)=some u:=by
 intro j u hj
 rw [add_at]
 simp at hj ⊢
 simpa using hj
end
section
structure Turns (P Q:Nat) (w w':World):Prop where
 os:w'.os=w.os
 tape:w'.tape=w.tape
 output:w'.output=w.output
 size:w.heap.size≤w'.heap.size
 block:∀ c,c<w.heap.size→c≠P→c≠Q→w'.heap[c]? = w.heap[c]?
theorem Turns.refl (P Q:Nat) (w:World):Turns P Q w w:=⟨rfl,rfl,rfl,Nat.le_refl _,fun _ _ _ _=>rfl⟩
theorem Turns.trans {P Q:Nat} {a b c:World} (h:Turns P Q a b) (k:Turns P Q b c):Turns P Q a c :=
 ⟨k.os.trans h.os,k.tape.trans h.tape,k.output.trans h.output,Nat.le_trans h.size k.size,fun i hi h1 h2=>(k.block i (Nat.lt_of_lt_of_le hi h.size) h1 h2).trans (h.block i hi h1 h2)⟩
theorem Turns.of_below {P Q:Nat} {w w':World} (h:Below w.heap.size w w'):Turns P Q w w':=⟨h.os,h.tape,h.output,h.size,fun c hc _ _=>h.block c hc⟩
theorem Turns.set {P Q:Nat} {a w:World} (h:Turns P Q a w) {p:Addr} (hp:p.block=P∨p.block=Q) (u:Value):Turns P Q a (w.setCell p u) :=
 h.trans ⟨rfl,rfl,rfl,by simp [World.setCell],fun c _ h1 h2=>Below.heap_setCell _ _ _ _ (by rcases hp with e | e <;> rw [e] <;> omega)⟩
theorem Turns.below {P Q B:Nat} {w w':World} (h:Turns P Q w w') (hB:B≤w.heap.size) (hP:B≤P) (hQ:B≤Q):Below B w w':=⟨h.os,h.tape,h.output,h.size,fun c hc=>h.block c (by omega) (by omega) (by omega)⟩
theorem Turns.cell {P Q:Nat} {w w':World} (h:Turns P Q w w') {p:Addr} (hp:p.block<w.heap.size) (h1:p.block≠P) (h2:p.block≠Q):w'.cell? p=w.cell? p:=World.cell?_of_block (w:=w) (h.block p.block hp h1 h2)
theorem Turns.frozen {P Q:Nat} {w w':World} (h:Turns P Q w w') {p:Addr} (hp:p.block<w.heap.size) (h1:p.block≠P) (h2:p.block≠Q):w'.frozen? p=w.frozen? p:=World.frozen?_of_block (w:=w) (h.block p.block hp h1 h2)
def bitsV (t:Nat→Bool):Nat→Int
 | 0=>0
 | k+1=>bitsV t k+(if t k=true then 2 ^ k else 0)
theorem pow_pos (k:Nat):(0:Int)<2 ^ k:=Int.pow_pos (by decide)
theorem bitsV_in (t:Nat→Bool):∀ k,0≤bitsV t k∧bitsV t k<2 ^ k
 | 0=>⟨Int.le_refl _,(by show (0:Int)<1;decide)⟩
 | k+1=>by
  have h:=bitsV_in t k
  have p:=pow_pos k
  have e:(2:Int) ^ (k+1)=2 ^ k*2:=Int.pow_succ 2 k
  simp only [bitsV]
  split <;> omega
theorem pow_le {k n:Nat} (h:k≤n):(2:Int) ^ k≤2 ^ n:=by
 induction n with
 | zero =>
      obtain rfl:k=0:=by omega
      exact Int.le_refl _
 | succ n ih =>
  rcases Nat.lt_or_ge k (n+1) with q | q
  ·have:=ih (by omega)
   have p:=pow_pos n
   have e:(2:Int) ^ (n+1)=2 ^ n*2:=Int.pow_succ 2 n
   omega
  ·obtain rfl:k=n+1:=by omega
   exact Int.le_refl _
end
section
def srt (l:List Int):List Int:=l.mergeSort fun x y=>decide (x≤y)
def rank (l:List Int) (k:Nat):Int:=(srt l).getD k 0
def midOf (l:List Int) (f:Nat):Int:=(rank l f+rank l (l.length - 1 - f)) / 2
theorem getD_at {l:List Int} {i:Nat} (h:i<l.length):l.getD i 0=l[i]:=by simp [List.getD,h]
theorem srt_perm (l:List Int):(srt l).Perm l:=List.mergeSort_perm _ _
theorem srt_length (l:List Int):(srt l).length=l.length:=(srt_perm l).length_eq
theorem srt_pair (l:List Int):List.Pairwise (fun a b=>a≤b) (srt l):=by
 have h:=List.pairwise_mergeSort (le:=fun x y:Int=>decide (x≤y)) (fun a b c h1 h2=>by simp at *;omega) (fun a b=>by simp;omega) l
 exact h.imp (fun h=>by simpa using h)
theorem rank_mono (l:List Int) {i j:Nat} (hij:i≤j) (hj:j<l.length):rank l i≤rank l j:=by
 have hl:=srt_length l
 have hi':i<(srt l).length:=by omega
 have hj':j<(srt l).length:=by omega
 unfold rank
 rw [getD_at hi',getD_at hj']
 by_cases e:i=j
 ·subst e;exact Int.le_refl _
 ·exact List.pairwise_iff_getElem.1 (srt_pair l) i j hi' hj' (by omega)
theorem rank_mem (l:List Int) {i:Nat} (hi:i<l.length):rank l i∈l:=by
 have hi':i<(srt l).length:=by rw [srt_length];exact hi
 unfold rank
 rw [getD_at hi']
 exact (srt_perm l).mem_iff.1 (List.getElem_mem hi')
theorem count_low (l:List Int) (f:Nat) (hf:f<l.length):l.length - f≤l.countP (fun x=>decide (rank l f≤x)):=by
 rw [← (srt_perm l).countP_eq]
 have hsp:srt l=(srt l).take f ++ (srt l).drop f:=(List.take_append_drop f _).symm
 rw [hsp,List.countP_append]
 have:((srt l).drop f).countP (fun x=>decide (rank l f≤x))=((srt l).drop f).length:=by
  rw [List.countP_eq_length]
  intro a ha
  obtain ⟨k,hk,rfl⟩:=List.getElem_of_mem ha
  rw [List.length_drop,srt_length] at hk
  have:=rank_mono l (i:=f) (j:=f+k) (by omega) (by omega)
  rw [List.getElem_drop]
  rw [show rank l (f+k)=(srt l)[f+k]'(by rw [srt_length];omega) from getD_at _] at this
  simpa using this
 rw [this,List.length_drop,srt_length]
 omega
theorem count_high (l:List Int) (k:Nat) (hk:k<l.length):k+1≤l.countP (fun x=>decide (x≤rank l k)):=by
 rw [← (srt_perm l).countP_eq]
 have hsp:srt l=(srt l).take (k+1) ++ (srt l).drop (k+1):=(List.take_append_drop (k+1) _).symm
 rw [hsp,List.countP_append]
 have:((srt l).take (k+1)).countP (fun x=>decide (x≤rank l k))=((srt l).take (k+1)).length:=by
  rw [List.countP_eq_length]
  intro a ha
  obtain ⟨j,hj,rfl⟩:=List.getElem_of_mem ha
  rw [List.length_take,srt_length] at hj
  have:=rank_mono l (i:=j) (j:=k) (by omega) hk
  rw [List.getElem_take]
  rw [show rank l j=(srt l)[j]'(by rw [srt_length];omega) from getD_at _] at this
  simpa using this
 rw [this,List.length_take,srt_length]
 omega
theorem pigeon3 (p q r:Nat→Bool):∀ l:List Nat,2*l.length<l.countP p+l.countP q+l.countP r→∃ x,x∈l∧p x=true∧q x=true∧r x=true
 | [],h=>by simp at h
 | x::l,h=>by
  by_cases hx:p x=true∧q x=true∧r x=true
  ·exact ⟨x,List.mem_cons_self,hx⟩
  ·have:=pigeon3 p q r l (by
    simp only [List.countP_cons,List.length_cons] at h
    cases hp:p x <;> cases hq:q x <;> cases hr:r x <;> simp_all <;> omega)
   obtain ⟨y,hy,h3⟩:=this
   exact ⟨y,List.mem_cons_of_mem _ hy,h3⟩
theorem pigeon2 (p q:Nat→Bool) (l:List Nat) (h:l.length<l.countP p+l.countP q):∃ x,x∈l∧p x=true∧q x=true:=by
 have:=pigeon3 p q (fun _=>true) l (by
  rw [show l.countP (fun _=>true)=l.length from List.countP_eq_length.2 (fun _ _=>rfl)];omega)
 obtain ⟨x,hx,h1,h2,_⟩:=this
 exact ⟨x,hx,h1,h2⟩
theorem count_right (f:Nat):∀ n:Nat,n - f≤(List.range n).countP (fun k=>decide (f≤k))
 | 0=>by simp
 | n+1=>by
  have:=count_right f n
  rw [List.range_succ,List.countP_append,List.countP_singleton]
  by_cases h:f≤n
  ·rw [decide_eq_true h];simp;omega
  ·have:n+1 - f=0:=by omega
   omega
theorem low_left (n f:Nat) (u low:Int) (now:Nat→Int) (row:Nat→Nat→Int)
  (hr:∀ i k,f≤i→i<n→f≤k→k<n→now k - now i - u≤row i k∧row i k≤now k - now i+u)
  (hl:∀ k,f≤k→k<n→low≤now k) (i:Nat) (hi:f≤i) (hi':i<n) :
  low - u≤now i+rank ((List.range n).map (row i)) f:=by
 have c2:=count_high ((List.range n).map (row i)) f (by simp;omega)
 have c3:=count_right f n
 rw [List.countP_map] at c2
 obtain ⟨k,hk,b,c⟩:=pigeon2 _ _ (List.range n) (show (List.range n).length<_ by rw [List.length_range];exact Nat.lt_of_lt_of_le (by omega:n<(f+1)+(n - f)) (Nat.add_le_add c2 c3))
 have hk:=List.mem_range.1 hk
 simp at b c
 have h1:=hr i k hi hi' c hk
 have h2:=hl k c hk
 omega
theorem high_left (n f:Nat) (u high:Int) (now:Nat→Int) (row:Nat→Nat→Int)
  (hr:∀ i k,f≤i→i<n→f≤k→k<n→now k - now i - u≤row i k∧row i k≤now k - now i+u)
  (hh:∀ k,f≤k→k<n→now k≤high) (i:Nat) (hi:f≤i) (hi':i<n) :
  now i+rank ((List.range n).map (row i)) (n - 1 - f)≤high+u:=by
 have c1:=count_low ((List.range n).map (row i)) (n - 1 - f) (by simp;omega)
 have c3:=count_right f n
 rw [List.countP_map] at c1
 simp only [List.length_map,List.length_range] at c1
 obtain ⟨k,hk,b,c⟩:=pigeon2 _ _ (List.range n) (show (List.range n).length<_ by rw [List.length_range];exact Nat.lt_of_lt_of_le (by omega:n<(n - (n - 1 - f))+(n - f)) (Nat.add_le_add c1 c3))
 have hk:=List.mem_range.1 hk
 simp at b c
 have h1:=hr i k hi hi' c hk
 have h2:=hh k c hk
 omega
def setOn (n f:Nat) (now:Nat→Int) (row:Nat→Nat→Int) (i:Nat):Int:=now i+midOf ((List.range n).map (row i)) f
theorem within (n f:Nat) (u low high:Int) (now:Nat→Int) (row:Nat→Nat→Int) (h3:3*f+1≤n)
  (hr:∀ i k,f≤i→i<n→f≤k→k<n→now k - now i - u≤row i k∧row i k≤now k - now i+u)
  (hl:∀ k,f≤k→k<n→low≤now k) (hh:∀ k,f≤k→k<n→now k≤high) (i:Nat) (hi:f≤i) (hi':i<n) :
  low - u≤setOn n f now row i∧setOn n f now row i≤high+u:=by
 have a2:=low_left n f u low now row hr hl i hi hi'
 have a3:=high_left n f u high now row hr hh i hi hi'
 have a4:=rank_mono ((List.range n).map (row i)) (i:=f) (j:=n - 1 - f) (by omega) (by simp;omega)
 unfold setOn midOf
 simp only [List.length_map,List.length_range]
 omega
end
section
def stepN (a:Int):Int:=if a+1=256 then 1 else a+1
def stepsN (a:Int):Nat→Int
 | 0=>a
 | k+1=>stepN (stepsN a k)
def metB (a seq:Int):Nat→Bool
 | 0=>false
 | k+1=>metB a seq k || decide (stepsN a (k+1)=seq)
def takeB (nw seq:Int):Bool:=decide (0≤seq∧seq≤255) && (decide (nw<0) || metB nw seq 127)
def ordN (k:Nat):Int:=if k=0 then 0 else (((k - 1) % 255+1:Nat):Int)
theorem ordN_in (k:Nat):0≤ordN k∧ordN k≤255:=by
 unfold ordN
 split <;> omega
theorem ordN_step (k:Nat):stepN (ordN k)=ordN (k+1):=by
 rcases Nat.eq_zero_or_pos k with rfl | hk
 ·decide
 ·have e1:ordN k=(((k - 1) % 255+1:Nat):Int):=if_neg (by omega)
  have e2:ordN (k+1)=(((k+1 - 1) % 255+1:Nat):Int):=if_neg (by omega)
  rw [e1,e2]
  unfold stepN
  split <;> omega
theorem ordN_steps (k:Nat):∀ d,stepsN (ordN k) d=ordN (k+d)
 | 0=>rfl
 | d+1=>by
  show stepN (stepsN (ordN k) d)=ordN (k+(d+1))
  rw [ordN_steps k d,ordN_step]
  rfl
theorem metB_iff {a seq:Int} : ∀ {n:Nat},metB a seq n=true↔∃ d,1≤d∧d≤n∧stepsN a d=seq
 | 0=>⟨fun h=>(by cases h),fun ⟨d,h1,h2,_⟩=>(by omega)⟩
 | n+1=>by
  show (metB a seq n || decide (stepsN a (n+1)=seq))=true↔_
  rw [Bool.or_eq_true,decide_eq_true_eq,metB_iff]
  constructor
  ·rintro (⟨d,h1,h2,h3⟩ | h)
   ·exact ⟨d,h1,by omega,h3⟩
   ·exact ⟨n+1,by omega,Nat.le_refl _,h⟩
  ·rintro ⟨d,h1,h2,h3⟩
   rcases Nat.lt_or_ge d (n+1) with q | q
   ·exact .inl ⟨d,h1,by omega,h3⟩
   ·obtain rfl:d=n+1:=by omega
    exact .inr h3
def tkNew (t:Bool) (seq nw:Int):Int:=if t=true then seq else nw
def tkTold (t:Bool) (a:Int):Int:=if t=true then a+1 else a
def tkNot (t:Bool) (b:Int):Int:=if t=true then b else b+1
theorem takeB_in {nw seq:Int} (h:takeB nw seq=true):0≤seq∧seq≤255:=by
 unfold takeB at h
 rw [Bool.and_eq_true,decide_eq_true_eq] at h
 exact h.1
end
section
def judB (n who:Nat) (m t:Nat→Bool):Bool:=m who && decide (∀ j,j<n→j≠who→m j=t j)
theorem judB_iff {n who:Nat} {m t:Nat→Bool} : judB n who m t=true↔m who=true∧∀ j,j<n→j≠who→m j=t j:=by
 unfold judB
 rw [Bool.and_eq_true,decide_eq_true_eq]
structure Al where
 M:Nat→Nat→Bool
 G:Nat→Int
 B:Nat→Int
 F:Nat→Bool
 fl:Nat→Bool
 ev:Nat→Bool
 wr:Bool
def Al.ok (s:Al) (who:Nat):Bool:=!s.F who && decide (s.B who<s.G who)
def Al.good (s:Al) (n who what k:Nat):Bool:=s.ok who && decide (2≤what) && judB n who (s.M who) (s.M k)
def Al.bad (s:Al) (n who what k:Nat):Bool:=s.ok who && decide (1≤what) && !(s.good n who what k)
def Al.slot (s:Al) (n who what:Nat):Al where
 M k j:=if k=who∨s.F k=true then s.M k j else if j=who then s.good n who what k else s.M k j
 G k:=if k=who then (if s.ok who=true then 1 else s.G k) else if s.F k=true then s.G k else if s.good n who what k=true then s.G k+1 else s.G k
 B k:=if k=who then (if s.ok who=true then 0 else s.B k) else if s.F k=true then s.B k else if s.bad n who what k=true then s.B k+1 else s.B k
 F k:=if k=who then !s.ok who else s.F k
 fl k:=if k=who∧s.ok who=true then decide (what<2) else s.fl k
 ev k:=if k=who∧s.ok who=true then s.ev k || decide (what<2) else s.ev k
 wr:=s.wr || decide (what=1)
structure Al.Fine (s:Al) (n:Nat) (h:Nat→Bool):Prop where
 same:∀ k,k<n→s.F k=false→s.fl k=false→∀ j,j<n→s.M k j=h j
 own:∀ k,k<n→s.F k=false→s.M k k=true
 out:∀ k,k<n→s.F k=false→s.fl k=true→h k=false∧s.G k=1∧(s.B k=0→∀ j,j<n→j≠k→s.M k j=h j)
 once:∀ k,k<n→s.F k=false→s.fl k=true→s.ev k=true
 pos:∀ k,k<n→s.F k=false→1≤s.G k∧0≤s.B k
 clean:∀ k,k<n→s.F k=false→s.ev k=false→s.wr=false→s.B k=0
 froze:∀ k,k<n→s.F k=true→s.ev k=true∨s.wr=true
def Al.start:Al:={ M:=fun _ _=>true,G:=fun _=>1,B:=fun _=>0,F:=fun _=>false,fl:=fun _=>false,ev:=fun _=>false,wr:=false }
theorem Al.Fine.sent {s:Al} {n:Nat} {h:Nat→Bool} (f:s.Fine n h) {who:Nat} (hw:who<n) (ho:s.ok who=true):s.F who=false∧s.M who who=true∧∀ j,j<n→j≠who→s.M who j=h j:=by
 unfold Al.ok at ho
 simp only [Bool.and_eq_true,Bool.not_eq_true',decide_eq_true_eq] at ho
 obtain ⟨h1,h2⟩:=ho
 refine ⟨h1,f.own who hw h1,fun j hj hne=>?_⟩
 cases e:s.fl who
 ·exact f.same who hw h1 e j hj
 ·obtain ⟨_,g2,g3⟩:=f.out who hw h1 e
  have:=(f.pos who hw h1).2
  exact g3 (by omega) j hj hne
theorem Al.Fine.hears {s:Al} {n:Nat} {h:Nat→Bool} (f:s.Fine n h) {who k what:Nat} (hw:who<n) (ho:s.ok who=true) (hk:k<n) (hF:s.F k=false) (hfl:s.fl k=false) (h2:2≤what):s.good n who what k=true:=by
 obtain ⟨_,g2,g3⟩:=f.sent hw ho
 unfold Al.good
 rw [ho,decide_eq_true h2]
 refine judB_iff.2 ⟨g2,fun j hj hne=>?_⟩
 rw [g3 j hj hne,f.same k hk hF hfl j hj]
theorem Al.Fine.not_good {s:Al} {n:Nat} {h:Nat→Bool} (f:s.Fine n h) {who k what:Nat} (hw:who<n) (hne:k≠who) (hk:k<n) (hF:s.F k=false) (hfl:s.fl k=true):s.good n who what k=false:=by
 cases ho:s.ok who
 ·unfold Al.good;rw [ho];rfl
 ·obtain ⟨_,_,g3⟩:=f.sent hw ho
  cases e:s.good n who what k
  ·rfl
  ·unfold Al.good at e
   simp only [Bool.and_eq_true] at e
   have:=(judB_iff.1 e.2).2 k hk hne
   rw [g3 k hk hne,(f.out k hk hF hfl).1,f.own k hk hF] at this
   cases this
theorem Al.Fine.slot {s:Al} {n:Nat} {h:Nat→Bool} (f:s.Fine n h) {who what:Nat} (hw:who<n):(s.slot n who what).Fine n (fun j=>if j=who then s.ok who && decide (2≤what) else h j):=by
 have hsent:(s.slot n who what).F who=false→s.ok who=true:=fun e=>by
  simp only [Al.slot,if_true] at e
  simpa using e
 have hold:∀ k,k≠who→(s.slot n who what).F k=s.F k:=fun k hk=>by simp only [Al.slot,if_neg hk]
 have hfl:∀ k,k≠who→(s.slot n who what).fl k=s.fl k:=fun k hk=>by simp only [Al.slot];rw [if_neg (fun e=>hk e.1)]
 have hev:∀ k,k≠who→(s.slot n who what).ev k=s.ev k:=fun k hk=>by simp only [Al.slot];rw [if_neg (fun e=>hk e.1)]
 have hflw:s.ok who=true→(s.slot n who what).fl who=decide (what<2):=fun ho=>by simp only [Al.slot];rw [if_pos ⟨trivial,ho⟩]
 have hMw:∀ j,(s.slot n who what).M who j=s.M who j:=fun j=>by simp only [Al.slot,true_or,if_true]
 have hM:∀ k j,k≠who→s.F k=false→(s.slot n who what).M k j=if j=who then s.good n who what k else s.M k j:=fun k j hk hF=>by
  simp only [Al.slot];rw [if_neg (by simp [hk,hF])]
 refine ⟨fun k hk hF hf j hj=>?_,fun k hk hF=>?_,fun k hk hF hf=>?_,fun k hk hF hf=>?_,fun k hk hF=>?_,fun k hk hF he hwr=>?_,fun k hk hF=>?_⟩
 ·by_cases e:k=who
  ·subst e
   have ho:=hsent hF
   have h2:2≤what:=by rw [hflw ho] at hf;have:=of_decide_eq_false hf;omega
   obtain ⟨_,g2,g3⟩:=f.sent hw ho
   rw [hMw]
   by_cases ej:j=k
   ·subst ej;simp only [if_true];rw [g2,ho,decide_eq_true h2];rfl
   ·rw [if_neg ej];exact g3 j hj ej
  ·rw [hold k e] at hF
   rw [hfl k e] at hf
   rw [hM k j e hF]
   by_cases ej:j=who
   ·rw [if_pos ej,if_pos ej]
    cases ho:s.ok who
    ·unfold Al.good;rw [ho];rfl
    ·by_cases h2:2≤what
     ·rw [f.hears hw ho hk hF hf h2,decide_eq_true h2];rfl
     ·unfold Al.good;rw [ho,decide_eq_false h2];rfl
   ·rw [if_neg ej,if_neg ej];exact f.same k hk hF hf j hj
 ·by_cases e:k=who
  ·subst e
   rw [hMw];exact (f.sent hw (hsent hF)).2.1
  ·rw [hold k e] at hF
   rw [hM k k e hF,if_neg e];exact f.own k hk hF
 ·by_cases e:k=who
  ·subst e
   have ho:=hsent hF
   have h2:¬ 2≤what:=by rw [hflw ho] at hf;have:=of_decide_eq_true hf;omega
   refine ⟨?_,?_,fun _ j hj hne=>?_⟩
   ·simp only [if_true];rw [decide_eq_false h2,Bool.and_false]
   ·simp only [Al.slot,if_true];rw [if_pos ho]
   ·rw [hMw,if_neg hne];exact (f.sent hw ho).2.2 j hj hne
  ·rw [hold k e] at hF
   rw [hfl k e] at hf
   obtain ⟨g1,g2,g3⟩:=f.out k hk hF hf
   have hng:s.good n who what k=false:=f.not_good hw e hk hF hf
   refine ⟨by rw [if_neg e];exact g1,?_,fun hb j hj hne=>?_⟩
   ·simp only [Al.slot];rw [if_neg e,if_neg (by simp [hF]),if_neg (by simp [hng])];exact g2
   ·simp only [Al.slot] at hb
    rw [if_neg e,if_neg (by simp [hF])] at hb
    have h0:=(f.pos k hk hF).2
    by_cases hbd:s.bad n who what k=true
    ·rw [if_pos hbd] at hb;omega
    ·rw [if_neg hbd] at hb
     rw [hM k j e hF]
     by_cases ej:j=who
     ·rw [if_pos ej,if_pos ej,hng]
      unfold Al.bad at hbd
      rw [hng] at hbd
      cases ho:s.ok who
      ·rfl
      ·rw [ho] at hbd
       simp at hbd
       rw [decide_eq_false (by omega)];rfl
     ·rw [if_neg ej,if_neg ej];exact g3 hb j hj hne
 ·by_cases e:k=who
  ·subst e
   have ho:=hsent hF
   have h2:=hf
   rw [hflw ho] at h2
   simp only [Al.slot]
   rw [if_pos ⟨trivial,ho⟩,h2,Bool.or_true]
  ·rw [hold k e] at hF
   rw [hfl k e] at hf
   rw [hev k e];exact f.once k hk hF hf
 ·by_cases e:k=who
  ·subst e
   have ho:=hsent hF
   simp only [Al.slot,if_true]
   rw [if_pos ho,if_pos ho]
   decide
  ·rw [hold k e] at hF
   have:=f.pos k hk hF
   simp only [Al.slot,if_neg e,hF,Bool.false_eq_true,if_false]
   constructor <;> split <;> omega
 ·have hw2:s.wr=false∧what≠1:=by
   simp only [Al.slot,Bool.or_eq_false_iff,decide_eq_false_iff_not] at hwr
   exact hwr
  by_cases e:k=who
  ·subst e
   simp only [Al.slot,if_true]
   rw [if_pos (hsent hF)]
  ·rw [hold k e] at hF
   rw [hev k e] at he
   have hnf:s.fl k=false:=by
    cases q:s.fl k
    ·rfl
    ·have:=f.once k hk hF q
     rw [he] at this;cases this
   have hb:s.bad n who what k=false:=by
    unfold Al.bad
    cases ho:s.ok who
    ·rfl
    ·by_cases h2:2≤what
     ·rw [f.hears hw ho hk hF hnf h2];simp
     ·rw [decide_eq_false (by omega)];rfl
   simp only [Al.slot]
   rw [if_neg e,if_neg (by simp [hF]),if_neg (by simp [hb])]
   exact f.clean k hk hF he hw2.1
 ·have hmono:s.wr=true→(s.slot n who what).wr=true:=fun q=>by simp only [Al.slot];rw [q];rfl
  by_cases e:k=who
  ·subst e
   simp only [Al.slot,if_true] at hF
   have ho:s.ok k=false:=by simpa using hF
   have hevk:(s.slot n k what).ev k=s.ev k:=by simp only [Al.slot];rw [if_neg (by simp [ho])]
   rw [hevk]
   cases q:s.F k
   ·cases q2:s.ev k
    ·cases q3:s.wr
     ·have h0:=f.clean k hk q q2 q3
      have h1:=(f.pos k hk q).1
      unfold Al.ok at ho
      rw [q] at ho
      simp at ho
      omega
     ·exact .inr (hmono q3)
    ·exact .inl rfl
   ·rcases f.froze k hk q with z | z
    ·exact .inl z
    ·exact .inr (hmono z)
  ·rw [hold k e] at hF
   rw [hev k e]
   rcases f.froze k hk hF with z | z
   ·exact .inl z
   ·exact .inr (hmono z)
end
section
def FirstBad (f:Nat→Int) (n:Nat) (e i:Int):Prop :=
 (∀ j,j<n→f j=0)∧e=0∧i=0∨∃ k:Nat,k<n∧(∀ j,j<k→f j=0)∧f k=e∧e≠0∧i=k
theorem FirstBad.at_bad {f:Nat→Int} {n:Nat} {e i:Int} (h:FirstBad f n e i) {k:Nat} (hk:k<n) (h0:∀ j,j<k→f j=0) (hf:f k≠0):e=f k∧i=k:=by
 rcases h with ⟨ha,_,_⟩ | ⟨k',hk',h0',he,hne,hi⟩
 ·exact absurd (ha k hk) hf
 ·rcases Nat.lt_trichotomy k k' with g | g | g
  ·exact absurd (h0' k g) hf
  ·subst g;exact ⟨he.symm,hi⟩
  ·exact absurd ((h0 k' g).symm.trans he) (Ne.symm hne)
theorem FirstBad.at_end {f:Nat→Int} {n:Nat} {e i:Int} (h:FirstBad f n e i) (h0:∀ j,j<n→f j=0):e=0∧i=0:=by
 rcases h with ⟨_,he,hi⟩ | ⟨k',hk',_,he,hne,_⟩
 ·exact ⟨he,hi⟩
 ·exact absurd ((h0 k' hk').symm.trans he) (Ne.symm hne)
theorem FirstBad.is {f:Nat→Int} {n:Nat} {e i:Int} (h:FirstBad f n e i) {k:Nat} (hk:k<n) (h0:∀ j,j<k→f j=0) {c:Int} (hf:f k=c) (hc:c≠0):e=c∧i=k:=by
 have g:=h.at_bad hk h0 (by rw [hf];exact hc)
 exact ⟨g.1.trans hf,g.2⟩
theorem FirstBad.any (f:Nat→Int):∀ n:Nat,∃ e i,FirstBad f n e i:=by
 intro n
 induction n with
 | zero=>exact ⟨0,0,.inl ⟨fun j hj=>absurd hj (Nat.not_lt_zero _),rfl,rfl⟩⟩
 | succ n ih =>
  obtain ⟨e,i,h⟩:=ih
  rcases h with ⟨ha,_,_⟩ | ⟨k,hk,h0,he,hne,hi⟩
  ·by_cases hf:f n=0
   ·refine ⟨0,0,.inl ⟨fun j hj=>?_,rfl,rfl⟩⟩
    rcases Nat.lt_succ_iff_lt_or_eq.1 hj with g | g
    ·exact ha j g
    ·rw [g];exact hf
   ·exact ⟨f n,n,.inr ⟨n,Nat.lt_succ_self _,ha,rfl,hf,rfl⟩⟩
  ·exact ⟨e,i,.inr ⟨k,Nat.lt_succ_of_lt hk,h0,he,hne,hi⟩⟩
theorem next_zero {f:Nat→Int} {k:Nat} (h0:∀ j,j<k→f j=0) (h:f k=0):∀ j,j<k+1→f j=0:=by
 intro j hj
 rcases Nat.lt_succ_iff_lt_or_eq.1 hj with g | g
 ·exact h0 j g
 ·rw [g];exact h
def winErr (pt fr tq:Nat→Int) (frame:Int) (j:Nat):Int :=
 if tq j≤fr j then 1 else if (j=0∧fr j<0)∨(0<j∧fr j<tq (j - 1)) then 10 else if frame<tq j then 2 else if pt j<0∨5<pt j then 7 else 0
end
section
open Go.ChangeShapes Go.WideShapes Go.ChangeAt Go.RowKit Go.Joins Go.Deep
theorem add_plain (b off n:Nat):(⟨b,off,none⟩:Addr).add n=⟨b,off+n,none⟩:=by
 unfold Addr.add
 split
 ·rename_i h;subst h;rfl
 ·rfl
def Rows3 (w:World) (a:Option Addr) (n:Nat) (f g h:Nat→Int):Prop :=
 0<n→∃ b off,a=some ⟨b,off,none⟩∧b<w.heap.size∧∀ j,j<n→w.cell? ⟨b,off+j*3,none⟩=some (.int .i64 (f j))∧w.cell? ⟨b,off+j*3+1,none⟩=some (.int .i64 (g j))∧w.cell? ⟨b,off+j*3+2,none⟩=some (.int .i64 (h j))
theorem Rows3.below {w w':World} {a:Option Addr} {n:Nat} {f g h:Nat→Int} (r:Rows3 w a n f g h) (hb:Below w.heap.size w w'):Rows3 w' a n f g h:=by
 intro hn
 obtain ⟨b,off,ha,hbl,hc⟩:=r hn
 exact ⟨b,off,ha,Nat.lt_of_lt_of_le hbl hb.size,fun j hj=>⟨(hb.cell hbl).trans (hc j hj).1,(hb.cell hbl).trans (hc j hj).2.1,(hb.cell hbl).trans (hc j hj).2.2⟩⟩
def Rows4 (w:World) (a:Option Addr) (n:Nat) (f g h i:Nat→Int):Prop :=
 0<n→∃ b off,a=some ⟨b,off,none⟩∧b<w.heap.size∧∀ j,j<n→w.cell? ⟨b,off+j*4,none⟩=some (.int .i64 (f j))∧w.cell? ⟨b,off+j*4+1,none⟩=some (.int .i64 (g j))∧w.cell? ⟨b,off+j*4+2,none⟩=some (.int .i64 (h j))∧w.cell? ⟨b,off+j*4+3,none⟩=some (.int .i64 (i j))
theorem Rows4.below {w w':World} {a:Option Addr} {n:Nat} {f g h i:Nat→Int} (r:Rows4 w a n f g h i) (hb:Below w.heap.size w w'):Rows4 w' a n f g h i:=by
 intro hn
 obtain ⟨b,off,ha,hbl,hc⟩:=r hn
 exact ⟨b,off,ha,Nat.lt_of_lt_of_le hbl hb.size,fun j hj=>⟨(hb.cell hbl).trans (hc j hj).1,(hb.cell hbl).trans (hc j hj).2.1,(hb.cell hbl).trans (hc j hj).2.2.1,(hb.cell hbl).trans (hc j hj).2.2.2⟩⟩
section
variable {H:Type} {enc:TypeId × Value→H} {P:Program} {w:World} {spare:Nat→Bool} {held:Bool}
end
end
section
def skipB (md:Region.Mode) (ops:Array Oper):Array Bool→List (Nat × Tmp)→Array Value→Bool
 | _,[],_=>true
 | listed,(i,d)::r,t=>match ops[i]? with
  | some o=>(o.dst == some d) && !Region.wanted o (yielded ops t) && Region.free md ops listed i && (Region.ready md ops listed).contains i && skipB md ops (listed.setIfInBounds i true) r (t.setIfInBounds d undef)
  | none=>false
def skipL (listed:Array Bool) (is:List (Nat × Tmp)):Array Bool:=is.foldl (fun l p=>l.setIfInBounds p.1 true) listed
def skipA (a:Act) (is:List (Nat × Tmp)):Act:=is.foldl (fun a p=>a.put (some p.2) undef) a
theorem wpAnyH_skips {P:Program} {md:Region.Mode} {ops:Array Oper} {Q:Exit→Act→World→Prop} {S:World→Prop} (hs:Region.noSelect ops=true) (hQ:∀ c a d w,Q (.panic c) (a.put (some d) undef) w→Q (.panic c) a w) {w:World} (hS:S w) {fuel:Nat} :
  ∀ (is:List (Nat × Tmp)) {listed:Array Bool} {a:Act},skipB md ops listed is a.tmps=true→wpAnyH P md ops Q S fuel (skipL listed is) (skipA a is) w→wpAnyH P md ops Q S (fuel+is.length) listed a w
 | [],_,_,_,h=>h
 | (i,d)::r,listed,a,hb,h=>by
  unfold skipB at hb
  split at hb
  ·rename_i o ho
   simp only [Bool.and_eq_true,Bool.not_eq_true',beq_iff_eq] at hb
   obtain ⟨⟨⟨⟨h1,h2⟩,h3⟩,h4⟩,h5⟩:=hb
   have ih:=wpAnyH_skips hs hQ hS r (listed:=listed.setIfInBounds i true) (a:=a.put (some d) undef) h5 h
   refine wpAnyH_take (i:=i) (oi:=o) (v:=undef) ho hs h3 h4 (by rw [h1];exact fun c a w=>hQ c a d w) (Or.inr ⟨h2,rfl⟩) hS ?_
   rw [h1];exact ih
  ·cases hb
end
section
def rightB (f s n d:Int):Bool:=decide (0≤f∧f≤1099511627776∧-1099511627776≤s∧s≤1099511627776∧1≤n∧n≤1000000∧1≤d∧d≤1000000∧n≤2*d∧d≤2*n)
theorem right_of {f s n d:Int} (h:rightB f s n d=true):0≤f∧f≤1099511627776∧-1099511627776≤s∧s≤1099511627776∧1≤n∧n≤1000000∧1≤d∧d≤1000000∧n≤2*d∧d≤2*n:=of_decide_eq_true h
theorem prod_bounds {x n M R:Int} (h0:0≤x) (h1:x≤M) (h2:1≤n) (h3:n≤R):0≤x*n∧x*n≤M*R :=
 ⟨Int.mul_nonneg h0 (by omega),Int.mul_le_mul h1 h3 (by omega) (by omega)⟩
theorem quo_bounds {x n d M:Int} (h0:0≤x) (h1:x≤M) (h2:1≤n) (h4:1≤d) (h5:n≤2*d):0≤x*n / d∧x*n / d≤2*M:=by
 have hx:0≤x*n:=Int.mul_nonneg h0 (by omega)
 refine ⟨Int.ediv_nonneg hx (by omega),?_⟩
 have h6:x*n≤(2*M)*d:=by
  have a1:x*n≤x*(2*d):=Int.mul_le_mul_of_nonneg_left h5 h0
  have a2:x*(2*d)≤M*(2*d):=Int.mul_le_mul_of_nonneg_right h1 (by omega)
  have a3:M*(2*d)=(2*M)*d:=by rw [← Int.mul_assoc,Int.mul_comm M 2]
  omega
 exact Int.ediv_le_of_le_mul (by omega) h6
theorem up_bounds {x n d M:Int} (h0:0≤x) (h1:x≤M) (h2:1≤n) (h4:1≤d) (h5:d≤2*n):0≤(x*d+n - 1) / n∧(x*d+n - 1) / n≤2*M+1:=by
 have hx:0≤x*d:=Int.mul_nonneg h0 (by omega)
 refine ⟨Int.ediv_nonneg (by omega) (by omega),?_⟩
 have h6:x*d+n - 1≤(2*M+1)*n:=by
  have a1:x*d≤x*(2*n):=Int.mul_le_mul_of_nonneg_left h5 h0
  have a2:x*(2*n)≤M*(2*n):=Int.mul_le_mul_of_nonneg_right h1 (by omega)
  have a3:M*(2*n)=(2*M)*n:=by rw [← Int.mul_assoc,Int.mul_comm M 2]
  have a4:(2*M+1)*n=(2*M)*n+n:=by rw [Int.add_mul,Int.one_mul]
  omega
 exact Int.ediv_le_of_le_mul (by omega) h6
end
section
def sesCells (a b c d e f:Int) (vS vL:Value) (g:Int) (cp:Option Addr) (vO vR vD vM:Value):Array Value:=#[.int .i64 a,.int .i64 b,.int .i64 c,.int .i64 d,.int .i64 e,.int .i64 f,vS,vL,.int .i64 g,.slice none 0 0,.pointer cp,vO,vR,vD,vM]
theorem newSession_any (w:World):Calls Tryz.prog 6 #[] w fun e w'=>e=.returned (.pointer (some ⟨w.heap.size,0,none⟩))∧w'=w.alloc (.cells (sesCells 0 0 0 0 0 0 (.slice none 0 0) (.slice none 0 0) 1 none (.slice none 0 0) (.slice none 0 0) (.slice none 0 0) (.slice none 0 0)) 56):=by
 go_enter Tryz.func6,Tryz.ntmps6
 go_wp2
 go_ret
 trace_state
 exact ⟨rfl,rfl⟩
end
section
theorem wrap_nat (n:Nat) (h:n<9223372036854775808):IntKind.i64.wrap (n:Int)=(n:Int):=by
 simp [IntKind.wrap,IntKind.bits,IntKind.signed];omega
theorem i64_or_nat (a b:Nat) (ha:a<9223372036854775808) (hb:b<9223372036854775808):bits .or .i64 (a:Int) (b:Int)=((a ||| b:Nat):Int):=by
 show IntKind.i64.wrap ((BitVec.ofInt 64 (a:Int) ||| BitVec.ofInt 64 (b:Int)).toNat:Int)=_
 rw [BitVec.toNat_or,ofInt_u64 a (by omega),ofInt_u64 b (by omega)]
 exact wrap_nat _ (Nat.or_lt_two_pow (n:=63) ha hb)
theorem i64_and_nat (a b:Nat) (ha:a<9223372036854775808) (hb:b<9223372036854775808):bits .and .i64 (a:Int) (b:Int)=((a &&& b:Nat):Int):=by
 show IntKind.i64.wrap ((BitVec.ofInt 64 (a:Int) &&& BitVec.ofInt 64 (b:Int)).toNat:Int)=_
 rw [BitVec.toNat_and,ofInt_u64 a (by omega),ofInt_u64 b (by omega)]
 exact wrap_nat _ (Nat.and_lt_two_pow (n:=63) a hb)
theorem i64_xor_nat (a b:Nat) (ha:a<9223372036854775808) (hb:b<9223372036854775808):bits .xor .i64 (a:Int) (b:Int)=((a ^^^ b:Nat):Int):=by
 show IntKind.i64.wrap ((BitVec.ofInt 64 (a:Int) ^^^ BitVec.ofInt 64 (b:Int)).toNat:Int)=_
 rw [BitVec.toNat_xor,ofInt_u64 a (by omega),ofInt_u64 b (by omega)]
 exact wrap_nat _ (Nat.xor_lt_two_pow (n:=63) ha hb)
end
section

end
section
def AtIs (w:World) (E:Value) (e i:Int):Prop :=
 (E=.nilIface∧e=0)∨(∃ b,E=.iface 231 (.pointer (some ⟨b,0,none⟩))∧e≠0∧w.cell? ⟨b,0,none⟩=some (.int .i64 e)∧w.cell? ⟨b,1,none⟩=some (.int .i64 i))
end
section
def splitNl:List UInt8→List (List UInt8)
 | []=>[[]]
 | c::r=>if c=10 then []::splitNl r else (c::(splitNl r).headD [])::(splitNl r).tail
theorem splitNl_cons (c:UInt8) (r:List UInt8):splitNl (c::r)=if c=10 then []::splitNl r else (c::(splitNl r).headD [])::(splitNl r).tail:=rfl
theorem splitNl_ne:∀ l,splitNl l≠[]
 | []=>by simp [splitNl]
 | c::r=>by unfold splitNl;split <;> simp
theorem splitNl_one:∀ {l:List UInt8},(∀ c∈l,c≠10)→splitNl l = [l]
 | [],_=>rfl
 | c::r,h=>by
  unfold splitNl
  rw [if_neg (h c List.mem_cons_self),splitNl_one fun x hx=>h x (List.mem_cons_of_mem _ hx)]
  rfl
theorem splitNl_append:∀ (a b:List UInt8),splitNl (a ++ 10::b)=splitNl a ++ splitNl b
 | [],b=>by simp [splitNl]
 | c::r,b=>by
  rw [List.cons_append,splitNl_cons,splitNl_cons,splitNl_append r b]
  by_cases h:c=10
  ·rw [if_pos h,if_pos h];rfl
  ·rw [if_neg h,if_neg h]
   cases q:splitNl r with
   | nil=>exact absurd q (splitNl_ne r)
   | cons x xs=>rfl
theorem splitNl_cut {a:List UInt8} (h:∀ c∈a,c≠10) (b:List UInt8):splitNl (a ++ 10::b)=a::splitNl b:=by
 rw [splitNl_append,splitNl_one h];rfl
def trimNl (l:List UInt8):List UInt8:=if l.getLast? = some 10 then l.dropLast else l
theorem trimNl_end (a:List UInt8):trimNl (a ++ [10])=a:=by
 unfold trimNl
 rw [if_pos (by simp)]
 simp
theorem trimNl_two (a:List UInt8) {b:List UInt8} (h:b≠[]):trimNl (a ++ 10::b)=a ++ 10::trimNl b:=by
 unfold trimNl
 have e:(a ++ 10::b).getLast? = b.getLast?:=by
  rw [List.getLast?_append,List.getLast?_cons]
  cases q:b.getLast? with
  | none=>exact absurd (List.getLast?_eq_none_iff.1 q) h
  | some x=>rfl
 rw [e]
 by_cases q:b.getLast? = some 10
 ·rw [if_pos q,if_pos q]
  rw [List.dropLast_append_of_ne_nil (by simp)]
  cases b with
  | nil=>exact absurd rfl h
  | cons x r=>rfl
 ·rw [if_neg q,if_neg q]
def linesOf (t:ByteArray):List ByteArray:=(splitNl (trimNl t.data.toList)).map fun l=>⟨l.toArray⟩
theorem splitNl_len:∀ l,(splitNl l).length≤l.length+1
 | []=>by simp [splitNl]
 | c::r=>by
  have:=splitNl_len r
  unfold splitNl
  split
  ·simp;omega
  ·simp;omega
theorem splitNl_mem:∀ (l:List UInt8),∀ x∈splitNl l,x.length≤l.length
 | [],x,h=>by simp [splitNl] at h;simp [h]
 | c::r,x,h=>by
  have ih:=splitNl_mem r
  unfold splitNl at h
  split at h
  ·rcases List.mem_cons.1 h with q | q
   ·simp [q]
   ·have:=ih x q;simp;omega
  ·cases q:splitNl r with
   | nil=>exact absurd q (splitNl_ne r)
   | cons y ys =>
    rw [q] at h ih
    rcases List.mem_cons.1 h with e | e
    ·have:=ih y List.mem_cons_self
     rw [e]
     simp at this ⊢
     omega
    ·have:=ih x (List.mem_cons_of_mem _ e)
     simp;omega
theorem trimNl_len (l:List UInt8):(trimNl l).length≤l.length:=by
 unfold trimNl
 split
 ·simp
 ·exact Nat.le_refl _
theorem linesOf_mem {t x:ByteArray} (h:x∈linesOf t):x.size≤t.size:=by
 obtain ⟨l,hl,rfl⟩:=List.mem_map.1 h
 have h1:=splitNl_mem _ l hl
 have h2:=trimNl_len t.data.toList
 have h3:t.data.toList.length=t.data.size:=Array.length_toList
 show l.toArray.size≤t.data.size
 rw [List.size_toArray]
 omega
theorem linesOf_len (t:ByteArray):(linesOf t).length≤t.size+1:=by
 unfold linesOf
 rw [List.length_map]
 have h1:=splitNl_len (trimNl t.data.toList)
 have h2:=trimNl_len t.data.toList
 have h3:t.data.toList.length=t.data.size:=Array.length_toList
 show _≤t.data.size+1
 omega
theorem indexByte_cases (c:UInt8):∀ (l:List UInt8),(Lib.indexByte l c = -1∧∀ x∈l,x≠c)∨∃ (k:Nat),Lib.indexByte l c=k∧k<l.length∧l=l.take k ++ c::l.drop (k+1)∧∀ x∈l.take k,x≠c
 | []=>.inl ⟨rfl,fun _ h=>(by cases h)⟩
 | b::l=>by
  by_cases h:b=c
  ·subst h
   exact .inr ⟨0,by simp [Lib.indexByte],by simp,by simp,by simp⟩
  ·rcases indexByte_cases c l with ⟨h1,h2⟩ | ⟨k,h1,h2,h3,h4⟩
   ·refine .inl ⟨by simp [Lib.indexByte,h,h1],?_⟩
    intro x hx
    rcases List.mem_cons.1 hx with q | q
    ·rw [q];exact h
    ·exact h2 x q
   ·refine .inr ⟨k+1,?_,by simp;omega,?_,?_⟩
    ·have hk:¬ ((k:Int) = -1):=by omega
     simp [Lib.indexByte,h,h1,hk]
    ·rw [List.take_succ_cons,List.drop_succ_cons,List.cons_append,← h3]
    ·intro x hx
     rw [List.take_succ_cons] at hx
     rcases List.mem_cons.1 hx with q | q
     ·rw [q];exact h
     ·exact h4 x q
end
end Go.Proofs.YthccoinonjoleaaGreatDoor
