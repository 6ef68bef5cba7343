import Derived.Test.YtknimkfdnanejaaGreatDoorProg
import Derived.Test.YtknimkfdnanejaaGreatDoorZW2
import Derived.LoopIn
import Derived.LoopNIn
import Derived.OwnWalkIn
import Derived.RangeFuncBound
import Derived.RangeFuncNested
import Derived.Shelf.RegionOpen
import Derived.WalkKit
namespace Go.Proofs.YtknimkfdnanejaaGreatDoor
open Go.RowKit Go.Proofs.Tryz
set_option maxRecDepth 100000
set_option maxHeartbeats 16000000
def aG5{α:Type}(F:Fence)(n:Nat)(P:Program)(gf:Nat)(lb:Array Value)(enc:α->Array Value)(xs:List α)(W0:World):Prop:=
 ∀(l:Nat)(J:List α->World->Prop)(W:World),bW W0 W->(∀s A B,J s A->bW A B->J s B)->
  (∀pre x W1,J pre W1->pre++[x]<+:xs->YieldAt F (n-1) P l (enc x) W1 fun e W'=>e=rT (.bool true)/\J (pre++[x]) W')->J [] W->
  CallsIn F n P gf (#[.func (.yield l) #[] #[]]++lb) W fun e W'=>(∃v,e=rT v)/\J xs W'
theorem aI2{W:World}{k:Nat}{o:Obj}(h:k<W.heap.size):(W.putObj k o).heap[k]?=some o:=World.putObj_heap_same h
theorem wM{W:World}{k j:Nat}{o:Obj}(h:j≠k):(W.putObj k o).heap[j]?=W.heap[j]?:=World.putObj_heap_other h
theorem aB5{F:Fence}{n:Nat}{P:Program}{α:Type}{g:Operand}{ps:Array Tmp}{assign body:Code}{Q:Exit->Act->World->Prop}{a:Act}{w:World}
  (hro:F.round=none)(h1:1<=n){gf:Nat}{lb:Array Value}(hg:a.eval g=.func (.func gf) #[] lb)(hFg:F.fn gf)(eg:∀args w,(callFunc gf args).run P w=.ok (.enter gf args) w)
  {enc:α->Array Value}{xs:List α}(bK1:aG5 F (n-1) P gf lb enc xs w)(hps:∀x,(enc x).size=ps.size)
  (I:List α->World->Prop)(hIb:∀s A B,I s A->bW A B->I s B)(hIl:∀s A o,I s A->w.heap.size+1<A.heap.size->I s (A.putObj (w.heap.size+1) o))(h0:I [] w)(a₁:α->Act)
  (aXp:∀(l:Nat) (x:α) (W:World) (K:Act->World->Prop),K (a₁ x) W->
   assign.wpIn (F.inRound l) (n-1-1) P (Exit.then K (fun _ _ _=>False)) { tmps:=(ps.zip (enc x)).foldl (fun t (p,v)=>t.setIfInBounds p v) a.tmps,defers:=[] } W)
  (mP:∀(l:Nat) (pre:List α) (x:α) (W:World),I pre W->pre++[x]<+:xs->w.heap.size+1<W.heap.size->body.wpIn (F.inRound l) (n-1-1) P (fun e _ W'=>e=.normal/\W.heap.size<=W'.heap.size/\W'.heap[w.heap.size]?=W.heap[w.heap.size]?/\W'.heap[w.heap.size+1]?=W.heap[w.heap.size+1]?/\I (pre++[x]) W') (a₁ x) W)
  (bFc:∀(W:World),I xs W->W.heap[w.heap.size]?=some (.deferred (some []))->Q .normal { a with defers:={ target:=.collected w.heap.size,args:=#[] }::a.defers } W):
  (Code.rangeFunc g ps assign body).wpIn F n P Q a w:=by
 refine wpIn_rangeFunc ?_;intro fn hfn;rw[hro];obtain⟨rec,aA8⟩:∃rec:LoopState->Option Code->Loop,rec=fun st pe=>{ state:=st,pending:=pe,fn,tmps:=a.tmps,params:=ps,assign,body,defers:=w.heap.size }:=⟨_,rfl⟩;generalize hV:(w.alloc (.deferred (some []))).alloc (.loop (rec .ready none))=V;have bV:bW w V:=hV▸(((kX _ w).alloc (kF _) _).alloc oh _);have vL:V.heap[w.heap.size+1]?=some (.loop (rec .ready none)):=by rw[<-hV];have:=World.alloc_heap_new (w.alloc (.deferred (some []))) (.loop (rec .ready none));rwa [World.size_alloc]at this
 have vD:V.heap[w.heap.size]?=some (.deferred (some [])):=by rw[<-hV];exact(Below.heap_alloc _ _ _ oh).trans (World.alloc_heap_new w _)
 refine⟨w.heap.size+1,[{ target:=.collected w.heap.size,args:=#[] }],V,{ target:=.fn (.func gf) lb,args:=#[.func (.yield (w.heap.size+1)) #[] #[]] },V,gf,#[.func (.yield (w.heap.size+1)) #[] #[]]++lb,V,?_,?_,?_,?_,fun _=>h1,?_⟩
 ·rw[<-hV,aA8];exact run_enterLoop_outer _ _ _ _ _
 ·simp only[resolve,hg];simp[go_sem]
 ·intro f' N3;simp[Target.leads]at N3;subst N3;exact hFg
 ·simp[invoke,go_sem,eg]
 ·have keep:∀{A B:World}{k:Nat}{o:Obj},bW A B->A.heap[k]?=some o->B.heap[k]?=some o:=fun hb h=>(hb.block _ (Array.getElem?_eq_some_iff.1 h).1).trans h;refine(bK1 (w.heap.size+1) (fun pre W=>I pre W/\W.heap[w.heap.size+1]?=some (.loop (rec .ready none))/\W.heap[w.heap.size]?=some (.deferred (some []))) V bV (fun s A B h hb=>⟨hIb s A B h.1 hb,keep hb h.2.1,keep hb h.2.2⟩) ?_ ⟨hIb _ _ _ h0 bV,vL,vD⟩).mono ?_
  ·rintro pre x W ⟨hi,hl,hd⟩ aTk;have hlt:w.heap.size+1<W.heap.size:=(Array.getElem?_eq_some_iff.1 hl).1;have hy:=run_yield (P:=P) (args:=enc x) hl (by rw[aA8];exact hps x);rw[aA8]at hy;refine⟨fn,_,assign,body,hy,roundIn_of_wpIn hfn (aXp _ x W _ ⟨_,run_beginRound hl (by rw[aA8]),?_⟩)⟩;have l2:(W.putObj (w.heap.size+1) (.loop { rec .ready none with state:=.busy })).heap[w.heap.size+1]?=some (.loop { rec .ready none with state:=.busy }):=aI2 hlt;have d2:(W.putObj (w.heap.size+1) (.loop { rec .ready none with state:=.busy })).heap[w.heap.size]?=some (.deferred (some [])):=(wM od).trans hd;have s2:w.heap.size+1<(W.putObj (w.heap.size+1) (.loop { rec .ready none with state:=.busy })).heap.size:=(Array.getElem?_eq_some_iff.1 l2).1;refine wpIn_mono (mP _ pre x _ (hIl _ _ _ hi hlt) aTk s2) ?_;rintro e a3 W3 ⟨rfl,z3,d3,l3,i3⟩;have l3':=l3.trans l2;have z4:w.heap.size+1<W3.heap.size:=(Array.getElem?_eq_some_iff.1 l3').1;have hr:=run_endRound (P:=P) none l3';rw[aA8]at hr;refine⟨_,_,hr,rfl,?_,?_,?_⟩
   ·exact hIl _ _ _ i3 z4
   ·rw[aI2 z4,aA8];rfl
   ·exact(wM od).trans (d3.trans d2)
  ·rintro e W2 ⟨⟨v,rfl⟩,hi,hl,hd⟩;have hlt:w.heap.size+1<W2.heap.size:=(Array.getElem?_eq_some_iff.1 hl).1;have he:=run_endLoop (P:=P) hl (by rw[aA8];simp);rw[aA8]at he;exact⟨none,_,he,bFc _ (hIl _ _ _ hi hlt) ((wM od).trans hd)⟩
