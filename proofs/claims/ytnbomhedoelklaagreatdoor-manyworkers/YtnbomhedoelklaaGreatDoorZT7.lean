import Derived.Test.YtnbomhedoelklaaGreatDoorZT6
import Derived.LoopIn
import Derived.LoopNIn
import Derived.OwnWalkIn
import Derived.RangeFuncBound
import Derived.RangeFuncNested
import Derived.Shelf.RegionOpen
namespace Go.Proofs.YtnbomhedoelklaaGreatDoor
open Go.RowKit Go.Proofs.Tryz
set_option maxRecDepth 99999
set_option maxHeartbeats 0
def aFt{α:Type}(F:Fence)(n:Nat)(P:WJ)(gf:Nat)(lb:Array WB)(enc:α->Array WB)(xs:List α)(W0:WA):Prop:=
 ∀(l:Nat)(J:List α->WA->Prop)(W:WA),bW W0 W->(∀s A B,J s A->bW A B->J s B)->
  (∀pre x W1,J pre W1->pre++[x]<+:xs->YieldAt F (n-1) P l (enc x) W1 λe W'=>e=rT (.bool true)/\J (pre++[x]) W')->J [] W->
  CallsIn F n P gf (#[.func (.yield l) #[] #[]]++lb) W λe W'=>(∃v,e=rT v)/\J xs W'
theorem aHs{W:WA}{k:Nat}{o:Obj}(h:k<W.1.size):(W.putObj k o).1[k]?=some o:=World.putObj_heap_same h
theorem tB{W:WA}{k j:Nat}{o:Obj}(h:j≠k):(W.putObj k o).1[j]?=W.1[j]?:=World.putObj_heap_other h
theorem aB5{F:Fence}{n:Nat}{P:WJ}{α:Type}{g:Operand}{ps:Array Tmp}{assign body:Code}{Q:Exit->Act->WA->Prop}{a:Act}{w:WA}
  (hro:F.round=none)(h1:1<=n){gf:Nat}{lb:Array WB}(hg:a.eval g=.func (.func gf) #[] lb)(hFg:F.fn gf)(eg:∀args w,(callFunc gf args).run P w=.ok (.enter gf args) w)
  {enc:α->Array WB}{xs:List α}(bJu:aFt F (n-1) P gf lb enc xs w)(hps:∀x,(enc x).size=ps.size)
  (I:List α->WA->Prop)(hIb:∀s A B,I s A->bW A B->I s B)(hIl:∀s A o,I s A->w.1.size+1<A.1.size->I s (A.putObj (w.1.size+1) o))(h0:I [] w)(a₁:α->Act)
  (aXc:∀(l:Nat) (x:α) (W:WA) (K:Act->WA->Prop),K (a₁ x) W->
   assign.wpIn (F.inRound l) (n-1-1) P (Exit.then K (λ_ _ _=>False)) { tmps:=(ps.zip (enc x)).foldl (λt (p,v)=>t.setIfInBounds p v) a.tmps,defers:=[] } W)
  (bEz:∀(l:Nat) (pre:List α) (x:α) (W:WA),I pre W->pre++[x]<+:xs->w.1.size+1<W.1.size->body.wpIn (F.inRound l) (n-1-1) P (λe _ W'=>e=.normal/\W.1.size<=W'.1.size/\W'.1[w.1.size]?=W.1[w.1.size]?/\W'.1[w.1.size+1]?=W.1[w.1.size+1]?/\I (pre++[x]) W') (a₁ x) W)
  (bF4:∀(W:WA),I xs W->W.1[w.1.size]?=some (.deferred (some []))->Q .normal { a with defers:={ target:=.collected w.1.size,args:=#[] }::a.defers } W):
  (Code.rangeFunc g ps assign body).wpIn F n P Q a w:=by
 refine wpIn_rangeFunc ?_;intro fn hfn;rw[hro];obtain⟨rec,aGr⟩:∃rec:LoopState->Option Code->Loop,rec=λst pe=>{ state:=st,pending:=pe,fn,tmps:=a.tmps,params:=ps,assign,body,defers:=w.1.size }:=⟨_,rfl⟩;generalize hV:(w.alloc (.deferred (some []))).alloc (.loop (rec .ready none))=V;have bV:bW w V:=hV▸(((jD _ w).alloc (kG _) _).alloc oe _);have vL:V.1[w.1.size+1]?=some (.loop (rec .ready none)):=by rw[<-hV];have:=World.alloc_heap_new (w.alloc (.deferred (some []))) (.loop (rec .ready none));rwa [World.size_alloc]at this
 have vD:V.1[w.1.size]?=some (.deferred (some [])):=by rw[<-hV];exact(Below.heap_alloc _ _ _ oe).trans (World.alloc_heap_new w _)
 refine⟨w.1.size+1,[{ target:=.collected w.1.size,args:=#[] }],V,{ target:=.fn (.func gf) lb,args:=#[.func (.yield (w.1.size+1)) #[] #[]] },V,gf,#[.func (.yield (w.1.size+1)) #[] #[]]++lb,V,?_,?_,?_,?_,λ_=>h1,?_⟩
 .rw[<-hV,aGr];exact run_enterLoop_outer _ _ _ _ _
 .simp only[resolve,hg];simp[go_sem]
 .intro f' hf';simp[Target.leads]at hf';subst hf';exact hFg
 .simp[invoke,go_sem,eg]
 .have keep:∀{A B:WA}{k:Nat}{o:Obj},bW A B->A.1[k]?=some o->B.1[k]?=some o:=λhb h=>(hb.block _ (kZ h).1).trans h;refine(bJu (w.1.size+1) (λpre W=>I pre W/\W.1[w.1.size+1]?=some (.loop (rec .ready none))/\W.1[w.1.size]?=some (.deferred (some []))) V bV (λs A B h hb=>⟨hIb s A B h.1 hb,keep hb h.2.1,keep hb h.2.2⟩) ?_ ⟨hIb _ _ _ h0 bV,vL,vD⟩).mono ?_
  .rintro pre x W ⟨hi,hl,hd⟩ aK5;have hlt:w.1.size+1<W.1.size:=(kZ hl).1;have hy:=run_yield (P:=P) (args:=enc x) hl (by rw[aGr];exact hps x);rw[aGr]at hy;refine⟨fn,_,assign,body,hy,roundIn_of_wpIn hfn (aXc _ x W _ ⟨_,run_beginRound hl (by rw[aGr]),?_⟩)⟩;have l2:(W.putObj (w.1.size+1) (.loop { rec .ready none with state:=.busy })).1[w.1.size+1]?=some (.loop { rec .ready none with state:=.busy }):=aHs hlt;have d2:(W.putObj (w.1.size+1) (.loop { rec .ready none with state:=.busy })).1[w.1.size]?=some (.deferred (some [])):=(tB od).trans hd;have s2:w.1.size+1<(W.putObj (w.1.size+1) (.loop { rec .ready none with state:=.busy })).1.size:=(kZ l2).1;refine wpIn_mono (bEz _ pre x _ (hIl _ _ _ hi hlt) aK5 s2) ?_;rintro e a3 W3 ⟨rfl,z3,d3,l3,i3⟩;have l3':=l3.trans l2;have z4:w.1.size+1<W3.1.size:=(kZ l3').1;have hr:=run_endRound (P:=P) none l3';rw[aGr]at hr;refine⟨_,_,hr,rfl,?_,?_,?_⟩
   .exact hIl _ _ _ i3 z4
   .rw[aHs z4,aGr];rfl
   .exact(tB od).trans (d3.trans d2)
  .rintro e W2 ⟨⟨v,rfl⟩,hi,hl,hd⟩;have hlt:w.1.size+1<W2.1.size:=(kZ hl).1;have he:=run_endLoop (P:=P) hl (by rw[aGr];simp);rw[aGr]at he;exact⟨none,_,he,bF4 _ (hIl _ _ _ hi hlt) ((tB od).trans hd)⟩
section
variable{l l':Nat}
section
variable{Y:Sy}{F:FuncId->Prop}{C B:List WK}{main:Bool}{g:WC}{w w':WA}{fr fr1:WK}{cs:List WK}
theorem nH.sem{α:Type}{A:Sy->α->α->Prop}(h:nH Y F C g w fr cs w'){m m':Sem α}(hrr:∀N,Y.N<=N->RR (Y.wN N) (A (Y.wN N)) m m'){k kc:Result α->GStep}
  (hl:∀u,∃es,stepG Y.P true (gr fr (cs++B)) u=GStep.after es (k (m'.run Y.P u))){ec:Array Event}
  (hc:stepG Y.P main (gr (bC Y.ρ fr) (cs.map (bC Y.ρ)++C)) w=GStep.after (seen Y.P fr.fn ec) (kc (m.run Y.P w)))(hec:∀e∈ec,e∈m.events Y.P w #[])
  (aSw:∀x u,Bad x->∃o v es,k (.halt x u)=.ended o v es)
  (jM:∀N,Y.N<=N->∀a a' w1 fQ,A (Y.wN N) a a'->WR (Y.wN N) w1 fQ->fQ.1.size=N->(∀t',∃o v es,k (.ok a' (on fQ t'))=.ended o v es)\/∃fr1 qQ g1,(∀t',k (.ok a' (on fQ t'))=.go (gr fr1 (qQ++B)) (on fQ t') #[])/\kc (.ok a w1)=.go g1 w1 #[]/\nH (Y.wN N) F C g1 w1 fr1 qQ fQ)
  (bBl:∀N,Y.N<=N->∀v' w1 fQ,Sc (Y.wN N).S Y.Q v'->WR (Y.wN N) w1 fQ->fQ.1.size=N->(∀t',∃o v es,k (.halt (.panic v') (on fQ t'))=.ended o v es)\/∃fr1 qQ g1,(∀t',k (.halt (.panic v') (on fQ t'))=.go (gr fr1 (qQ++B)) (on fQ t') #[])/\kc (.halt (.panic (rV Y.ρ v')) w1)=.go g1 w1 #[]/\nH (Y.wN N) F C g1 w1 fr1 qQ fQ):X3 Y F C B main g w fr cs w':=zHr
def LR(Y:Sy)(r r':Loop):Prop:=r=rL Y.ρ r'/\((∀v∈r'.tmps,Sc Y.S Y.Q v)/\Y.S r'.defers)/\Y.C r'.fn r'.assign r'.body r'.pending
theorem wX(hl:BR Y l l'):RR Y (LR Y) (Instr.getLoop l) (Instr.getLoop l'):=by unfold Instr.getLoop;exact zC4
theorem Pg.beginRound(G:Pg Y F)(hl:BR Y l l'):RR Y (λ_ _=>True) (Instr.beginRound l) (Instr.beginRound l'):=by
 unfold Instr.beginRound;refine RR.AF (wX hl) ?_;rintro r r' ⟨rfl,h1,hc⟩;refine RR.AF (RR.setObj hl (o':=.loop { r' with state:=.busy }) rfl ⟨h1,hc⟩) λ_ _ _=>?_;have e:(rL Y.ρ r').state=r'.state:=rfl;rw[e];cases r'.state
 .exact RR.AG trivial
 all_goals exact G.en.panics _
theorem Pc.endRound(G:Pc Y F)(hl:BR Y l l')(jump:Option Code)(hj:∀c,jump=some c->∀r,aY Y F r c):RR Y (VR Y) (Instr.endRound l jump) (Instr.endRound l' jump):=by unfold Instr.endRound;refine RR.AF (wX hl) ?_;rintro r r' ⟨rfl,h1,hc⟩;obtain⟨c1,c2,c3,_⟩:=G.cOf _ _ _ _ hc;refine RR.AF (RR.setObj hl (o':=.loop { r' with state:=if jump.isNone then .ready else .done,pending:=jump }) rfl ⟨h1,G.aRy _ _ _ _ c1 c2 c3 hj⟩) λ_ _ _=>?_;exact RR.AG VR.bool
theorem Pc.endLoop(G:Pc Y F)(hl:BR Y l l'):RR Y (λj j'=>j=j'/\∀c,j'=some c->∀r,aY Y F r c) (Instr.endLoop l) (Instr.endLoop l'):=by
 unfold Instr.endLoop;refine RR.AF (wX hl) ?_;rintro r r' ⟨rfl,h1,hc⟩;have e:(rL Y.ρ r').state=r'.state:=rfl;have e2:(rL Y.ρ r').pending=r'.pending:=rfl;dsimp only;rw[e,e2];have key:RR Y (λj j'=>j=j'/\∀c,j'=some c->∀r,aY Y F r c) (do Go.setObj l (.loop { rL Y.ρ r' with state:=.exhausted });Pure.pure r'.pending) (do Go.setObj l' (.loop { r' with state:=.exhausted });Pure.pure r'.pending):=by refine RR.AF (RR.setObj hl (o':=.loop { r' with state:=.exhausted }) rfl ⟨h1,hc⟩) λ_ _ _=>?_;exact RR.AG ⟨rfl,(G.cOf _ _ _ _ hc).2.2.2⟩
 split
 .exact G.toPg.en.y8 _ _ _
 .exact key
theorem bD6(hl:BR Y l l'):RR Y (λd d'=>d=d'.map (rD Y.ρ)/\∀x∈d',ScD Y.S Y.Q x) (Instr.takeDeferred l) (Instr.takeDeferred l'):=by
 unfold Instr.takeDeferred;refine RR.AF (RR.getObj hl) ?_;rintro o o' ⟨rfl,ho,_⟩;cases o'<;>try exact RR.stuck _
 rename_i cs
 cases cs with
 |none=>exact RR.stuck _
 |some ds=>
  refine RR.AF (RR.setObj hl (o':=.deferred none) rfl (by simp[ScO])) λ_ _ _=>?_
  exact RR.AG ⟨rfl,ho ds rfl⟩
theorem Pc.enterLoop(G:Pc Y F){fn:FuncId}(hf:F fn){t t':Array WB}(ht:dF Y t t')(ps:Array Tmp){a b:Code}(ha:aY Y F false a)(hb:aY Y F false b){o o':Option Nat}(ho:o=o'.map Y.ρ)(hs:∀l,o'=some l->Y.S l):
  RR Y (λ(x x':Nat×List Deferred)=>BR Y x.1 x'.1/\x.2=x'.2.map (rD Y.ρ)/\∀d∈x'.2,ScD Y.S Y.Q d) (Instr.enterLoop fn t ps a b o) (Instr.enterLoop fn t' ps a b o'):=by
 unfold Instr.enterLoop;obtain⟨rfl,ht⟩:=ht;have key:∀(d d':Nat)(mk mk':List Deferred),BR Y d d'->mk=mk'.map (rD Y.ρ)->(∀x∈mk',ScD Y.S Y.Q x)->RR Y (λ(x x':Nat×List Deferred)=>BR Y x.1 x'.1/\x.2=x'.2.map (rD Y.ρ)/\∀d∈x'.2,ScD Y.S Y.Q d) (do Pure.pure (<-Go.newObj (.loop { state:=.ready,pending:=none,fn,tmps:=t'.map (rV Y.ρ),params:=ps,assign:=a,body:=b,defers:=d }),mk)) (do Pure.pure (<-Go.newObj (.loop { state:=.ready,pending:=none,fn,tmps:=t',params:=ps,assign:=a,body:=b,defers:=d' }),mk')):=by rintro _ d' mk mk' ⟨rfl,hd⟩ hmk hms;refine RR.AF (RR.newObj (o':=.loop { state:=.ready,pending:=none,fn,tmps:=t',params:=ps,assign:=a,body:=b,defers:=d' }) rfl ⟨⟨ht,hd⟩,G.aRy _ _ _ _ hf ha hb oe⟩) ?_;rintro r r' hr;exact RR.AG ⟨hr,hmk,hms⟩
 subst ho
 cases o' with
 |some l=>
  refine RR.AF (wX ⟨rfl,hs l rfl⟩) ?_
  rintro r r' ⟨rfl,h1,_⟩
  exact key _ _ [] [] ⟨rfl,h1.2⟩ rfl oe
 |none=>
  refine RR.AF (RR.newObj (o':=.deferred (some [])) rfl (by simp[ScO])) ?_
  rintro r r' ⟨rfl,hr⟩
  refine key _ _ _ [{ target:=.collected r',args:=#[] }] ⟨rfl,hr⟩ (by simp[rD,rTN]) λd hd=>?_
  rw[List.mem_singleton.1 hd]
  exact⟨hr,oe⟩
theorem bA2{X:Type}{f f':X->Sem WB}:∀(l:List X),(∀x∈l,RR Y (VR Y) (f x) (f' x))->RR Y (λ(c c':List WB)=>c=c'.map (rV Y.ρ)/\∀v∈c',Sc Y.S Y.Q v) (l.mapM f) (l.mapM f')
 |[],_=>RR.AG ⟨rfl,oe⟩
 |x::l,h=>by
  rw[List.mapM_cons,List.mapM_cons];refine RR.AF (h x oe) ?_;rintro v v' ⟨rfl,hv⟩;refine RR.AF (bA2 l λy hy=>h y (by simp[hy])) ?_;rintro c c' ⟨rfl,hc⟩;exact RR.AG ⟨rfl,λu hu=>by
   rcases kQ hu with rfl|hu
   .exact hv
   .exact hc u hu⟩
theorem Pg.results(G:Pg Y F)(fn:Func){t t':Array WB}(ht:dF Y t t'):RR Y (VR Y) (results fn t) (results fn t'):=by
 unfold Go.results;refine RR.AF (A:=dF Y) ?_ ?_
 .rw[Array.mapM_eq_mapM_toList,Array.mapM_eq_mapM_toList];refine RR.bCc (bA2 _ λx _=>?_) ?_
  .cases x with
   |tmp i=>exact RR.AG (aAz ht i)
   |cell a t=>exact RR.AF (G.en.asAddr (aAz ht a)) λ_ _ h=>RR.loadVar t h
  .rintro c c' ⟨rfl,hc⟩;exact⟨oe,El⟩
 .rintro c c' ⟨rfl,hc⟩;refine RR.AG ?_;by_cases h1:c'.size=1
  .rw[dif_pos (by simpa using h1),dif_pos h1];exact⟨oe,hc _ oe⟩
  .rw[dif_neg (by simpa using h1),dif_neg h1];exact dF.tuple ⟨rfl,hc⟩
end
end
section
section
variable{Y:Sy}{F:FuncId->Prop}{C B:List WK}{main:Bool}{g:WC}{w w':WA}{fr fr1:WK}{cs:List WK}
theorem iP.pop{c:WK}{l:List WK}(h:iP fr (c::l)):iP c l:=λx hx=>h x (by simpa using hx)
theorem aI1{Z:Sy}{c:WK}{l:List WK}{v:WB}(hk:fr.kind=.normal\/fr.kind=.deferred)(hv:Sc Z.S Z.Q v)(low:∀x∈c::l,dD Z F x)(last:iP fr (c::l)):
  ∃fr1,(∀u,doReturn Z.P true fr ((c::l)++B) none v u=.go (gr fr1 (l++B)) u #[])/\(∀u,doReturn Z.P main (bC Z.ρ fr) ((c::l).map (bC Z.ρ)++C) none (rV Z.ρ v) u=.go (gr (bC Z.ρ fr1) (l.map (bC Z.ρ)++C)) u #[])/\dD Z F fr1/\iP fr1 l:=by
 have hc:=low c oe;have hk':(bC Z.ρ fr).kind=fr.kind:=rfl;rcases hk with hk|hk
 .have sB:=pX Z.ρ c v hc.qE;have hq:=jL c v;refine⟨c.finish v,λu=>by simp[doReturn,hk,gr],λu=>?_,hc.finish hv,last.pop.of hq.1 hq.2⟩;rw[<-sB];simp[doReturn,hk',hk,gr]
 .have hm:=hc.mode;have ret:dD Z F { c with mode:=.returning }:=⟨hc.fn,hc.tmps,hc.todo,hc.defers,trivial,hc.kind,hc.round⟩
  cases uP:c.mode with
  |run=>exact⟨c,λu=>by simp[doReturn,hk,gr,uP],λu=>by simp[doReturn,hk,gr,bC,uP,rM],hc,last.pop⟩
  |returning=>exact⟨c,λu=>by simp[doReturn,hk,gr,uP],λu=>by simp[doReturn,hk,gr,bC,uP,rM],hc,last.pop⟩
  |panicking ch=>
   rw[uP]at hm
   cases ch with
   |nil=>exact⟨c,λu=>by simp[doReturn,hk,gr,uP],λu=>by simp[doReturn,hk,gr,bC,uP,rM],hc,last.pop⟩
   |cons x uH=>
    obtain⟨v0,rec,ge⟩:=x
    cases rec with
    |false=>exact⟨c,λu=>by simp[doReturn,hk,gr,uP],λu=>by simp[doReturn,hk,gr,bC,uP,rM,rP],hc,last.pop⟩
    |true=>
     have h1:uH.dropWhile (!·.goexit)=[]:=by
      have:∀(o:List PanicEntry),(∀e∈o,e.goexit=false)->o.dropWhile (!·.goexit)=[]:=by
       intro o
       induction o with
       |nil=>exact λ_=>rfl
       |cons e o ih=>exact λh=>by rw[List.dropWhile_cons,h e oe];exact ih λx hx=>h x o6
      exact this uH λe he=>(hm e (by simp[he])).2
     have h2:(uH.map (rP Z.ρ)).dropWhile (!·.goexit)=[]:=by
      rw[List.dropWhile_map]
      have:((λx=>!x.goexit)∘rP Z.ρ)=λ(x:PanicEntry)=>!x.goexit:=rfl
      rw[this,h1];rfl
     refine⟨{ c with mode:=.returning },λu=>by simp[doReturn,hk,gr,uP,h1],λu=>by simp[doReturn,hk,gr,bC,uP,rM,rP,h2],ret,last.pop.of rfl rfl⟩
theorem nH.ret{Z:Sy}{C B:List WK}{c:WK}{l:List WK}{v:WB}{w1 fQ:WA}(hk:fr.kind=.normal\/fr.kind=.deferred)(hv:Sc Z.S Z.Q v)(low:∀x∈c::l,dD Z F x)(last:iP fr (c::l))(hw:WR Z w1 fQ)(hn:fQ.1.size=Z.N):
  ∃fr1 qQ g1,(∀t',doReturn Z.P true fr ((c::l)++B) none v (on fQ t')=.go (gr fr1 (qQ++B)) (on fQ t') #[])/\doReturn Z.P main (bC Z.ρ fr) ((c::l).map (bC Z.ρ)++C) none (rV Z.ρ v) w1=.go g1 w1 #[]/\nH Z F C g1 w1 fr1 qQ fQ:=by obtain⟨fr1,h1,h2,h3,h4⟩:=aI1 (main:=main) (C:=C) hk hv low last;exact⟨fr1,l,_,λt'=>h1 (on fQ t'),h2 w1,⟨hn,hw,rfl,h3,λx hx=>low x o6,h4⟩⟩
theorem aEk{n N:Nat}(h:∀c∈cs,dD (Y.wN n) F c)(hN:n<=N):∀c∈cs,dD (Y.wN N) F c:=λc hc=>(h c hc).wN (Y:=Y) hN
def leaves(P:WJ)(main:Bool)(fr:WK)(cs:List WK)(jump:Option Code)(w:WA):GStep:=
 match fr.roundOf with
 |none=>match jump with
  |none=>.go (gr { fr with mode:=.returning } cs) w #[]
  |some .ret=>.go (gr { fr with mode:=.returning } cs) w #[]
  |some _=>.ended (.stuck "exit, goto: no such block or label" (fr.pos P)) w #[]
 |some l=>GStep.after (seen P fr.fn ((Instr.endRound l jump).runT P w #[]).2) (match (Instr.endRound l jump).run P w with
  |.ok v w=>doReturn P main fr cs none v w
  |.halt _ w=>.ended (.stuck "range over a function: no such loop" (fr.pos P)) w #[])
theorem nH.leave(G:∀N,Y.N<=N->Pc (Y.wN N) F)(h:nH Y F C g w fr cs w'){jump:Option Code}(hq:jump=none\/jump=some .ret\/(∃id,jump=some (.exit id))\/∃l,jump=some (.goto l))
  (hl:∀u,stepG Y.P true (gr fr (cs++B)) u=leaves Y.P true fr (cs++B) jump u)(hc:stepG Y.P main (gr (bC Y.ρ fr) (cs.map (bC Y.ρ)++C)) w=leaves Y.P main (bC Y.ρ fr) (cs.map (bC Y.ρ)++C) jump w):X3 Y F C B main g w fr cs w':=by
 cases hr:fr.roundOf with
 |none=>
  have hr':(bC Y.ρ fr).roundOf=none:=by simp[bC,hr]
  have ret:dD Y F { fr with mode:=.returning }:=⟨h.top.fn,h.top.tmps,h.top.todo,h.top.defers,trivial,h.top.kind,h.top.round⟩
  rcases hq with rfl|rfl|⟨id,rfl⟩|⟨l,rfl⟩
  .exact h.wC (fr1:={ fr with mode:=.returning }) ret rfl rfl (λu=>by rw[hl];simp[leaves,hr]) (by rw[hc];simp[leaves,bC,hr,gr,rM])
  .exact h.wC (fr1:={ fr with mode:=.returning }) ret rfl rfl (λu=>by rw[hl];simp[leaves,hr]) (by rw[hc];simp[leaves,bC,hr,gr,rM])
  .exact nH.ends λu=>by rw[hl];simp[leaves,hr]
  .exact nH.ends λu=>by rw[hl];simp[leaves,hr]
 |some l=>
  have hj:∀c,jump=some c->∀(Z:Sy) r,aY Z F r c:=by
   rcases hq with rfl|rfl|⟨id,rfl⟩|⟨l,rfl⟩<;>rintro c ⟨⟩ Z r<;>trivial
  have hr':(bC Y.ρ fr).roundOf=some (Y.ρ l):=by simp[bC,hr]
  cases fO:cs with
  |nil=>
   have:=(h.last fr (by simp[fO])).2
   rw[hr]at this;cases this
  |cons c ls=>
   rw[<-fO]
   refine h.sem (A:=λZ=>VR Z) (m:=Instr.endRound (Y.ρ l) jump) (m':=Instr.endRound l jump) (k:=λr=>match r with|.ok v w=>doReturn Y.P true fr (cs++B) none v w|.halt _ w=>.ended (.stuck "range over a function: no such loop" (fr.pos Y.P)) w #[]) (kc:=λr=>match r with|.ok v w=>doReturn Y.P main (bC Y.ρ fr) (cs.map (bC Y.ρ)++C) none v w|.halt _ w=>.ended (.stuck "range over a function: no such loop" ((bC Y.ρ fr).pos Y.P)) w #[])
    (λN hN=>(G N hN).endRound ⟨rfl,aB4 (Y:=Y) (n:=Y.N) hN _ (h.top.round l hr)⟩ jump λc hc r=>hj c hc _ r) (λu=>?_) (ec:=((Instr.endRound (Y.ρ l) jump).runT Y.P w #[]).2) ?_ (λe he=>he) (λx u _=>⟨_,_,_,rfl⟩) ?_ (λN hN v' w1 fQ _ _ _=>.inl λ_=>⟨_,_,_,rfl⟩)
   .rw[hl,leaves.eq_def,hr]
    exact⟨_,rfl⟩
   .rw[hc,leaves.eq_def,hr']
    rfl
   .rintro N hN v v' w1 fQ ⟨rfl,hv⟩ iM iU
    refine .inr ?_
    subst fO
    exact nH.ret (Z:=Y.wN N) h.top.kind hv (aEk (Y:=Y) (n:=Y.N) h.low hN) h.last iM iU
theorem nH.beginRound(G:∀N,Y.N<=N->Pc (Y.wN N) F)(h:nH Y F C g w fr cs w')(hm:fr.mode=.run){k:List Item}(ht:fr.todo=.beginRound::k):X3 Y F C B main g w fr cs w':=by
 have xF:(bC Y.ρ fr).mode=.run:=Ey;have oY:(bC Y.ρ fr).todo=.beginRound::k.map (rI Y.ρ):=Eh;refine h.apply G (.inr (.inr ⟨_,ht⟩)) (m:=do (bC Y.ρ fr).roundOf.elim (stuck "beginRound: no round") Instr.beginRound;Pure.pure .skip) (m':=do fr.roundOf.elim (stuck "beginRound: no round") Instr.beginRound;Pure.pure .skip) (λN hN=>?_) (λu=>by simp[gr,stepG,stepG.exec,hm,ht]) Ed;refine NR.unit ?_
 cases hr:fr.roundOf with
 |none=>
  have hr':(bC Y.ρ fr).roundOf=none:=by simp[bC,hr]
  rw[hr']
  exact RR.stuck _
 |some l=>
  have hr':(bC Y.ρ fr).roundOf=some (Y.ρ l):=by simp[bC,hr]
  rw[hr']
  exact(G N hN).toPg.beginRound ⟨rfl,aB4 (Y:=Y) (n:=Y.N) hN _ (h.top.round l hr)⟩
theorem nH.endLoop(G:∀N,Y.N<=N->Pc (Y.wN N) F)(h:nH Y F C g w fr cs w')(hm:fr.mode=.run){l:Nat}{k:List Item}(ht:fr.todo=.endRangeFunc l::k):X3 Y F C B main g w fr cs w':=by
 have xF:(bC Y.ρ fr).mode=.run:=Ey;have oY:(bC Y.ρ fr).todo=.endRangeFunc (Y.ρ l)::k.map (rI Y.ρ):=Eh;have hk:∀i∈k,qM Y F fr.roundOf.isNone i:=λi hi=>h.top.todo i o7;have hS:Y.S l:=h.top.todo (.endRangeFunc l) ez;refine h.sem (A:=λZ j j'=>j=j'/\∀c,j'=some c->∀r,aY Z F r c) (m:=Instr.endLoop (Y.ρ l)) (m':=Instr.endLoop l)
  (k:=λr=>match r with|.ok jump w=>.go (gr { fr with todo:=(jump.map Item.code).toList++k } (cs++B)) w #[]|.halt (.panic v) w=>.go (gr (fr.raise [{ v,recovered:=false }]) (cs++B)) w #[]|.halt _ w=>.ended (.stuck "range over a function: no such loop" (fr.pos Y.P)) w #[])
  (kc:=λr=>match r with|.ok jump w=>.go (gr { bC Y.ρ fr with todo:=(jump.map Item.code).toList++k.map (rI Y.ρ) } (cs.map (bC Y.ρ)++C)) w #[]|.halt (.panic v) w=>.go (gr ((bC Y.ρ fr).raise [{ v,recovered:=false }]) (cs.map (bC Y.ρ)++C)) w #[]|.halt _ w=>.ended (.stuck "range over a function: no such loop" ((bC Y.ρ fr).pos Y.P)) w #[])
  (λN hN=>(G N hN).endLoop ⟨rfl,aB4 (Y:=Y) (n:=Y.N) hN _ hS⟩) (λu=>?_) (ec:=((Instr.endLoop (Y.ρ l)).runT Y.P w #[]).2) ?_ (λe he=>he) (λx u hb=>?_) ?_ ?_
 .simp only[gr,stepG,hm,stepG.exec,ht,Sem.runT_fst];exact⟨_,rfl⟩
 .simp only[gr,stepG,xF,stepG.exec,oY,Sem.runT_fst];rfl
 .cases x<;>first|exact hb.elim|exact⟨_,_,_,rfl⟩
 .rintro N hN j j' w1 fQ ⟨rfl,hj⟩ iM iU;have top:dD (Y.wN N) F fr:=h.top.wN (Y:=Y) (n:=Y.N) hN;refine .inr ⟨{ fr with todo:=(j.map Item.code).toList++k },cs,_,λ_=>rfl,rfl,⟨iU,iM,?_,top.todo' λi hi=>?_,aEk (Y:=Y) (n:=Y.N) h.low hN,h.last.of rfl rfl⟩⟩
  .cases j<;>simp[bC,gr,rI,Sy.wN]
  .rcases kN hi with hi|hi
   .cases j with
    |none=>simp at hi
    |some c=>
     simp at hi
     subst hi
     exact hj c rfl _
   .exact top.todo i o7
 .rintro N hN v' w1 fQ hv iM iU;have top:dD (Y.wN N) F fr:=h.top.wN (Y:=Y) (n:=Y.N) hN;have hq:=tZ fr [{ v:=v',recovered:=false }];refine .inr ⟨fr.raise [{ v:=v',recovered:=false }],cs,_,λ_=>rfl,rfl,⟨iU,iM,?_,top.raise hv,aEk (Y:=Y) (n:=Y.N) h.low hN,h.last.of hq.1 hq.2⟩⟩;rw[aF0];rfl
theorem nH.draw(h:nH Y F C g w fr cs w')(hm:fr.mode=.run){id:Nat}{cZ:Array WQ}{k:List Item}(ht:fr.todo=.code (.region id cZ true)::k):X3 Y F C B main g w fr cs w':=by
 have xF:(bC Y.ρ fr).mode=.run:=Ey;have oY:(bC Y.ρ fr).todo=.code (.region id cZ true)::k.map (rI Y.ρ):=Eh;refine h.sem (A:=λ_ n n'=>n=n') (m:=choose (.order fr.fn id)) (m':=choose (.order fr.fn id))
  (k:=λr=>match r with|.ok t w=>.go (gr { fr with todo:=.inRegion cZ (Region.schedule (Y.P.follows .mixedOrders) cZ t)::k } (cs++B)) w #[]|.halt _ w=>.ended (.stuck "order" (fr.pos Y.P)) w #[])
  (kc:=λr=>match r with|.ok t w=>.go (gr { bC Y.ρ fr with todo:=.inRegion cZ (Region.schedule (Y.P.follows .mixedOrders) cZ t)::k.map (rI Y.ρ) } (cs.map (bC Y.ρ)++C)) w #[]|.halt _ w=>.ended (.stuck "order" ((bC Y.ρ fr).pos Y.P)) w #[])
  (λN hN=>RR.choose _) (λu=>?_) (ec:=#[]) ?_ (λe he=>absurd he oe) (λx u hb=>⟨_,_,_,rfl⟩) ?_ (λ_ _ _ _ _ _ _ _=>.inl λ_=>⟨_,_,_,rfl⟩)
 .refine⟨#[],?_⟩;simp only[gr,stepG,hm,stepG.exec,ht,Bool.not_true,Bool.false_eq_true,if_false];cases(choose (.order fr.fn id)).run Y.P u<;>simp[GStep.after]
 .simp only[gr,stepG,xF,stepG.exec,oY,Bool.not_true,Bool.false_eq_true,if_false];have:(bC Y.ρ fr).fn=fr.fn:=rfl;rw[this];have e0:seen Y.P fr.fn #[]=#[]:=by simp[seen]
  rw[e0];cases(choose (.order fr.fn id)).run Y.P w<;>simp[GStep.after]
 .rintro N hN t _ w1 fQ rfl iM iU;have top:dD (Y.wN N) F fr:=h.top.wN (Y:=Y) (n:=Y.N) hN;refine .inr ⟨{ fr with todo:=.inRegion cZ (Region.schedule (Y.P.follows .mixedOrders) cZ t)::k },cs,_,λ_=>rfl,rfl,⟨iU,iM,by simp[bC,gr,rI,Sy.wN],top.todo' λi hi=>?_,aEk (Y:=Y) (n:=Y.N) h.low hN,h.last.of rfl rfl⟩⟩;rcases kQ hi with rfl|hi
  .exact top.todo (.code (.region id cZ true)) ez
  .exact top.todo i o7
end
end
section
section
variable{Y:Sy}{F:FuncId->Prop}{C B:List WK}{main:Bool}{g:WC}{w w':WA}{fr fr1:WK}{cs:List WK}
theorem aDy(P:WJ)(fn:FuncId)(t:Array WB)(ps:Array Tmp)(a b:Code)(o:Option Nat)(u:WA):(∃s,∀t',(Instr.enterLoop fn t ps a b o).run P (on u t')=.halt (.stuck s) (on u t'))\/∃x H,∀t',(Instr.enterLoop fn t ps a b o).run P (on u t')=.ok x (on { u with heap:=H } t'):=by
 cases o with
 |none=>
  have e:Instr.enterLoop fn t ps a b none=.new (.deferred (some [])) λr=>.new (.loop { state:=.ready,pending:=none,fn,tmps:=t,params:=ps,assign:=a,body:=b,defers:=r }) λl=>.pure (l,[{ target:=.collected r,args:=#[] }]):=rfl
  rw[e]
  exact .inr ⟨((u.1.push (.deferred (some []))).size,[{ target:=.collected u.1.size,args:=#[] }]),(u.1.push (.deferred (some []))).push (.loop { state:=.ready,pending:=none,fn,tmps:=t,params:=ps,assign:=a,body:=b,defers:=u.1.size }),λt'=>rfl⟩
 |some l=>
  have e:Instr.enterLoop fn t ps a b (some l)=.getObj l λo=>(match o with|.loop r=>.pure r|_=>.halt (.stuck "range over a function: no such loop"):Sem Loop).bind λr=>.new (.loop { state:=.ready,pending:=none,fn,tmps:=t,params:=ps,assign:=a,body:=b,defers:=r.defers }) λl=>.pure (l,[]):=by
   show Sem.getObj l _=_
   congr 1
  have eh:∀t',(on u t').1=u.1:=λ_=>rfl
  rw[e]
  cases h:u.1[l]? with
  |none=>exact .inl ⟨ "getObj: no such block",λt'=>by simp only[Sem.run,eh,h]⟩
  |some ob=>
   cases ob<;>first
    |(refine .inl ⟨ "range over a function: no such loop",λt'=>?_⟩;simp only[Sem.run,eh,h,Sem.bind];done)
    |(refine .inl ⟨ "getObj: a row of cells",λt'=>?_⟩;simp only[Sem.run,eh,h];done)
    |(rename_i r;refine .inr ⟨(u.1.size,[]),u.1.push (.loop { state:=.ready,pending:=none,fn,tmps:=t,params:=ps,assign:=a,body:=b,defers:=r.defers }),λt'=>?_⟩;simp only[Sem.run,eh,h,Sem.bind];rfl)
theorem M7(ev:Operand->WB)(f:Operand)(v:WB)(ts:Array WI)(t:WI):resolve ev { callee:=.value f,args:=#[.const v],argTypes:=ts } t=Deferred.ofValue (ev f) #[ev (.const v)]:=by simp[resolve]
theorem nH.rangeFunc(G:∀N,Y.N<=N->Pc (Y.wN N) F)(h:nH Y F C g w fr cs w')(hm:fr.mode=.run){f:Operand}{ps:Array Tmp}{a b:Code}{k:List Item}(ht:fr.todo=.code (.rangeFunc f ps a b)::k):X3 Y F C B main g w fr cs w':=by
 have xF:(bC Y.ρ fr).mode=.run:=by simp[bC,hm,rM]
 have oY:(bC Y.ρ fr).todo=.code (.rangeFunc f ps a b)::k.map (rI Y.ρ):=by simp[bC,ht,rI]
 obtain⟨hf,ha,hb⟩:sP Y f/\aY Y F false a/\aY Y F false b:=h.top.todo (.code (.rangeFunc f ps a b)) (by rw[ht];simp)
 have hrr:∀N,Y.N<=N->RR (Y.wN N) (fun(x x':Nat×List Deferred)=>BR (Y.wN N) x.1 x'.1/\x.2=x'.2.map (rD (Y.wN N).ρ)/\∀d∈x'.2,ScD (Y.wN N).S (Y.wN N).Q d) (Instr.enterLoop fr.fn (bC Y.ρ fr).tmps ps a b (bC Y.ρ fr).roundOf) (Instr.enterLoop fr.fn fr.tmps ps a b fr.roundOf):=fun N hN=>by
  have top:dD (Y.wN N) F fr:=h.top.wN (Y:=Y) (n:=Y.N) hN
  exact(G N hN).enterLoop top.fn ⟨rfl,top.tmps⟩ ps (aY.re _ _ _ _ ha) (aY.re _ _ _ _ hb) rfl top.round
 obtain⟨N,hN,t,D0,r0,d1,d2,dY,hU⟩:=RR.use (Y:=Y) (n:=Y.N) (A:=fun Z (x x':Nat×List Deferred)=>BR Z x.1 x'.1/\x.2=x'.2.map (rD Z.ρ)/\∀d∈x'.2,ScD Z.S Z.Q d) hrr h.wr h.tight
 have dL:∀u,stepG Y.P true (gr fr (cs++B)) u=GStep.after (seen Y.P fr.fn ((Instr.enterLoop fr.fn fr.tmps ps a b fr.roundOf).events Y.P u #[])) (match (Instr.enterLoop fr.fn fr.tmps ps a b fr.roundOf).run Y.P u with
   |.ok x u=>stepG.apply Y.P true { fr with todo:=.inRangeFunc x.1::k,defers:=x.2++fr.defers } (cs++B) none (do let d <-Deferred.ofValue (fr.eval f) #[.func (.yield x.1) #[] #[]];invoke d.target d.args) u
   |.halt _ u=>.ended (.stuck "range over a function: no such loop" (fr.pos Y.P)) u #[]):=fun u=>by
  simp only[gr,stepG,hm,stepG.exec,ht,Sem.runT_eq]
  cases(Instr.enterLoop fr.fn fr.tmps ps a b fr.roundOf).run Y.P u with
  |ok x u=>
   obtain⟨l,mk⟩:=x
   simp only[M7]
   cases f<;>rfl
  |halt x u=>rfl
 have bBo:stepG Y.P main (gr (bC Y.ρ fr) (cs.map (bC Y.ρ)++C)) w=GStep.after (seen Y.P fr.fn ((Instr.enterLoop fr.fn (bC Y.ρ fr).tmps ps a b (bC Y.ρ fr).roundOf).events Y.P w #[])) (match (Instr.enterLoop fr.fn (bC Y.ρ fr).tmps ps a b (bC Y.ρ fr).roundOf).run Y.P w with
   |.ok x u=>stepG.apply Y.P true { bC Y.ρ fr with todo:=.inRangeFunc x.1::k.map (rI Y.ρ),defers:=x.2++(bC Y.ρ fr).defers } (cs.map (bC Y.ρ)++C) none (do let d <-Deferred.ofValue ((bC Y.ρ fr).eval f) #[.func (.yield x.1) #[] #[]];invoke d.target d.args) u
   |.halt _ u=>.ended (.stuck "range over a function: no such loop" ((bC Y.ρ fr).pos Y.P)) u #[]):=by
  simp only[gr,stepG,xF,stepG.exec,oY,Sem.runT_eq]
  rw[show(bC Y.ρ fr).fn=fr.fn from rfl]
  cases(Instr.enterLoop fr.fn (bC Y.ρ fr).tmps ps a b (bC Y.ρ fr).roundOf).run Y.P w with
  |ok x u=>
   obtain⟨l,mk⟩:=x
   simp only[M7]
   cases f<;>rfl
  |halt x u=>rfl
 rcases aDy Y.P fr.fn fr.tmps ps a b fr.roundOf w' with⟨s,hs⟩|⟨x',H,hs⟩
 ·exact⟨Y.N,kG _,t,w'.drawn,kG _,.inl fun t' _=>by simp only[dL,hs];exact⟨_,_,_,rfl⟩⟩
 ·have hr0:=dY t fun _ _ _=>rfl
  rw[hs]at hr0
  rcases hU with⟨x,u,rfl,_⟩|⟨w1,fQ,new,iM,iU,qU,ho1,hr⟩
  ·cases hr0
  rcases hr with⟨x,y',hA,rfl,e⟩|⟨v',hv,rfl,e⟩
  ·replace hr0:Result.ok x' (on { w' with heap:=H } t)=.ok y' (on fQ t):=hr0
   have i7:x'=y':=(Result.ok.inj hr0).1
   have hH:H=fQ.heap:=jA World.heap (Result.ok.inj hr0).2
   have hO0:=jA World.os (Result.ok.inj hr0).2
   have hO:w'.os=fQ.os:=hO0
   subst i7 hH
   obtain⟨e1,e2⟩:=aF8 e
   obtain⟨⟨ex1,hx1⟩,ex2,hx2⟩:=hA
   obtain⟨l,mk⟩:=x
   obtain⟨l',mk'⟩:=x'
   simp only at ex1 ex2 hx1 hx2
   have hL:(Y.wN N).ρ=Y.ρ:=rfl
   rw[hL]at ex1 ex2
   subst ex1 ex2
   have aFi:∀M,N<=M->dD (Y.wN M) F { fr with todo:=.inRangeFunc l'::k,defers:=mk'++fr.defers }:=fun M hM=>by
    have top:dD (Y.wN M) F fr:=h.top.wN (Y:=Y) (n:=Y.N) (kH hN hM)
    refine⟨top.fn,top.tmps,fun i hi=>?_,fun d hd=>?_,top.mode,top.kind,top.round⟩
    ·rcases kQ hi with rfl|hi
     ·exact aB4 (Y:=Y) hM _ hx1
     ·exact top.todo i (by rw[ht];simp[hi])
    ·rcases kN hd with hd|hd
     ·exact(hx2 d hd).mono (aB4 (Y:=Y) hM)
     ·exact top.defers d hd
   have bJt:∀M,N<=M->RR (Y.wN M) (NR (Y.wN M) F fr.roundOf.isNone) (do let d <-Deferred.ofValue ((bC Y.ρ fr).eval f) #[.func (.yield (Y.ρ l')) #[] #[]];invoke d.target d.args) (do let d <-Deferred.ofValue (fr.eval f) #[.func (.yield l') #[] #[]];invoke d.target d.args):=fun M hM=>by
    have hev:VR (Y.wN M) ((bC Y.ρ fr).eval f) (fr.eval f):=aE1 (Y:=Y.wN M) (h.wr.wN (Y:=Y) (n:=Y.N) (kH hN hM)) (aFi M hM).tmps f hf
    have hy:dF (Y.wN M) #[.func (.yield (Y.ρ l')) #[] #[]] #[.func (.yield l') #[] #[]]:=dF.one ⟨by simp[rV,rF,Sy.wN],by
     simp only[Sc]
     exact⟨⟨(G M (kH hN hM)).qy l',fun y hy=>by cases hy;exact aB4 (Y:=Y) hM _ hx1⟩,by simp,by simp⟩⟩
    refine RR.AF (I6 hev hy) ?_
    rintro d d' ⟨rfl,hd⟩
    exact(G M (kH hN hM)).invoke rfl hd.1 ⟨rfl,hd.2⟩
   have bJz:WR (Y.wN N) w1 { w' with heap:=fQ.heap }:=⟨iM.idG,iM.inj,iM.gn,iM.nN,iM.lt,iM.up,iM.ro,iM.own,iM.sc,iM.os.trans hO.symm,iM.oG⟩
   obtain⟨M,hM,t2,D,r2,d3,d4,aT7,hU2⟩:=RR.use (Y:=Y) (n:=N) (A:=fun Z=>NR Z F fr.roundOf.isNone) bJt bJz iU
   have low:∀c∈cs,dD (Y.wN M) F c:=fun c hc=>(h.low c hc).wN (Y:=Y) (n:=Y.N) (kH hN hM)
   have last:iP { fr with todo:=.inRangeFunc l'::k,defers:=mk'++fr.defers } cs:=h.last.of rfl rfl
   have kM:∀v v1,fY (Y.wN N) v v1->fY (Y.wN M) v v1:=fun v v1 q=>q.wN hM
   have oM:∀e,(Y.wN N).Ok e->(Y.wN M).Ok e:=fun e he=>Ok.wN hM he
   refine⟨M,kH hN hM,t2,D,d3,?_⟩
   simp only[dL,hs]
   rw[h.eq,bBo,e1]
   dsimp only
   have er:bC Y.ρ { fr with todo:=.inRangeFunc l'::k,defers:=mk'++fr.defers }={ bC Y.ρ fr with todo:=.inRangeFunc (Y.ρ l')::k.map (rI Y.ρ),defers:=mk'.map (rD Y.ρ)++(bC Y.ρ fr).defers }:=by
    simp[bC,rI]
   rw[<-er]
   have fin:Nx1 (Y.wN M) F C B w1 (Ag w'.drawn D t2) D (fun t'=>stepG.apply Y.P true { fr with todo:=.inRangeFunc l'::k,defers:=mk'++fr.defers } (cs++B) none (do let d <-Deferred.ofValue (fr.eval f) #[.func (.yield l') #[] #[]];invoke d.target d.args) (on { w' with heap:=fQ.heap } t')) (stepG.apply Y.P true (bC Y.ρ { fr with todo:=.inRangeFunc l'::k,defers:=mk'++fr.defers }) (cs.map (bC Y.ρ)++C) none (do let d <-Deferred.ofValue ((bC Y.ρ fr).eval f) #[.func (.yield (Y.ρ l')) #[] #[]];invoke d.target d.args) w1):=by
    rcases hU2 with⟨x,u,rfl,hb⟩|⟨w2,w2',bHb,xG,hn2,hk2,ho2,pF⟩
    ·exact .inl fun t' ht=>aC1 (G M (kH hN hM)).late (aT7 t' ht) hb
    ·rcases pF with⟨a2,a2',hA2,rfl,e3⟩|⟨v',hv,rfl,e3⟩
     ·exact aMf (Z:=Y.wN M) (G M (kH hN hM)) (.inr (.inl ⟨_,_,rfl⟩)) (aFi M hM) low last hA2 aT7 d4 e3 xG hn2 hk2 ho2
     ·exact xN (Z:=Y.wN M) (aFi M hM) low last hv aT7 d4 e3 xG hn2 hk2 ho2
   rcases fin with q|⟨fr1,qQ,w2',g1,w2,es,q0,q1,q2,q3,q4,q5⟩
   ·refine .inl fun t' ht=>?_
    obtain⟨o,u,es,q⟩:=q t' ht
    exact⟨o,u,_,by dsimp only at q⊢;rw[q];rfl⟩
   ·refine .inr ⟨fr1,qQ,w2',g1,w2,_,q0,fun t' ht=>?_,by rw[q2];rfl,q3,(kM _ _ qU).trans q4,?_⟩
    ·obtain⟨es',q⟩:=q1 t' ht
     exact⟨_,by dsimp only at q⊢;rw[q];rfl⟩
    ·refine aZp (U4 (Y:=Y) (Z:=Y.wN M) fr.fn ?_) q5
     rw[e2]
     exact fun x hx=>oM x (ho1 x hx)
  ·cases hr0
end
end
section
section
variable{Y:Sy}{F:FuncId->Prop}{C B:List WK}{main:Bool}{g:WC}{w w':WA}{fr fr1:WK}{cs:List WK}
theorem nH.sem2{α:Type}{A:Sy->α->α->Prop}(h:nH Y F C g w fr cs w'){m m':Sem α}(hrr:∀N,Y.N<=N->RR (Y.wN N) (A (Y.wN N)) m m')
  (aSw:∀u x v,m'.run Y.P u=.halt x v->Bad x->∃o v es,stepG Y.P true (gr fr (cs++B)) u=.ended o v es)
  (jM:∀N,Y.N<=N->∀a a' w1 fQ,A (Y.wN N) a a'->m.run Y.P w=.ok a w1->WR (Y.wN N) w1 fQ->fQ.1.size=N->∃fr1 qQ g1 ec,(∀u v,m'.run Y.P u=.ok a' v->∃es',stepG Y.P true (gr fr (cs++B)) u=.go (gr fr1 (qQ++B)) v es')/\stepG Y.P main (gr (bC Y.ρ fr) (cs.map (bC Y.ρ)++C)) w=.go g1 w1 (seen Y.P fr.fn ec)/\(∀e∈ec,e∈m.events Y.P w #[])/\nH (Y.wN N) F C g1 w1 fr1 qQ fQ)
  (bBl:∀N,Y.N<=N->∀v' w1 fQ,Sc (Y.wN N).S Y.Q v'->m.run Y.P w=.halt (.panic (rV Y.ρ v')) w1->WR (Y.wN N) w1 fQ->fQ.1.size=N->∃fr1 qQ g1 ec,(∀u v,m'.run Y.P u=.halt (.panic v') v->∃es',stepG Y.P true (gr fr (cs++B)) u=.go (gr fr1 (qQ++B)) v es')/\stepG Y.P main (gr (bC Y.ρ fr) (cs.map (bC Y.ρ)++C)) w=.go g1 w1 (seen Y.P fr.fn ec)/\(∀e∈ec,e∈m.events Y.P w #[])/\nH (Y.wN N) F C g1 w1 fr1 qQ fQ):X3 Y F C B main g w fr cs w':=have m60:=0;zHr
theorem iH{P:WJ}{b:Bool}{f:WK}{l:List WK}{u:WA}(hm:f.mode≠.run):stepG P b (gr f l) u=unwind P b f l none u:=by cases h:f.mode<;>first|exact absurd h hm|simp[gr,stepG,h]
theorem dD.bEf(h:dD Y F fr){ds:List Deferred}(hd:∀d∈ds,ScD Y.S Y.Q d):dD Y F { fr with defers:=ds }:=⟨h.fn,h.tmps,h.todo,hd,h.mode,h.kind,h.round⟩
theorem aKj{ρ:WN}(hm:fr.mode≠.run):(bC ρ fr).mode≠.run:=by have:(bC ρ fr).mode=rM ρ fr.mode:=rfl;rw[this];cases h:fr.mode<;>first|exact absurd h hm|simp[rM]
theorem nH.take(h:nH Y F C g w fr cs w')(hm:fr.mode≠.run){b:Nat}{a7v:Array WB}{ds:List Deferred}(hd:fr.defers={ target:=.collected b,args:=a7v }::ds):X3 Y F C B main g w fr cs w':=by
 have hS:=h.top.defers _ (by rw[hd];exact kT);have hb:Y.S b:=hS.1;have hd':(bC Y.ρ fr).defers={ target:=.collected (Y.ρ b),args:=a7v.map (rV Y.ρ) }::ds.map (rD Y.ρ):=by simp[bC,hd,rD,rTN]
 have s1:∀u,stepG Y.P true (gr fr (cs++B)) u=GStep.after (seen Y.P fr.fn ((Instr.takeDeferred b).events Y.P u #[])) (match (Instr.takeDeferred b).run Y.P u with|.ok c u=>.go (gr { fr with defers:=c++ds } (cs++B)) u #[]|.halt _ u=>.ended (.stuck "the deferred calls of a range-over-func loop have been taken" (fr.pos Y.P)) u #[]):=λu=>by rw[iH hm,unwind.eq_def,hd];simp only[Sem.runT_eq];cases(Instr.takeDeferred b).run Y.P u<;>rfl
 have s2:stepG Y.P main (gr (bC Y.ρ fr) (cs.map (bC Y.ρ)++C)) w=GStep.after (seen Y.P fr.fn ((Instr.takeDeferred (Y.ρ b)).events Y.P w #[])) (match (Instr.takeDeferred (Y.ρ b)).run Y.P w with|.ok c u=>.go (gr { bC Y.ρ fr with defers:=c++ds.map (rD Y.ρ) } (cs.map (bC Y.ρ)++C)) u #[]|.halt _ u=>.ended (.stuck "the deferred calls of a range-over-func loop have been taken" ((bC Y.ρ fr).pos Y.P)) u #[]):=by rw[iH (aKj hm),unwind.eq_def,hd'];simp only[Sem.runT_eq];cases(Instr.takeDeferred (Y.ρ b)).run Y.P w<;>rfl
 refine h.sem (A:=λZ d d'=>d=d'.map (rD Z.ρ)/\∀x∈d',ScD Z.S Z.Q x) (m:=Instr.takeDeferred (Y.ρ b)) (m':=Instr.takeDeferred b)
  (k:=λr=>match r with|.ok c u=>.go (gr { fr with defers:=c++ds } (cs++B)) u #[]|.halt _ u=>.ended (.stuck "the deferred calls of a range-over-func loop have been taken" (fr.pos Y.P)) u #[]) (kc:=λr=>match r with|.ok c u=>.go (gr { bC Y.ρ fr with defers:=c++ds.map (rD Y.ρ) } (cs.map (bC Y.ρ)++C)) u #[]|.halt _ u=>.ended (.stuck "the deferred calls of a range-over-func loop have been taken" ((bC Y.ρ fr).pos Y.P)) u #[])
  (λN hN=>bD6 ⟨rfl,aB4 (Y:=Y) (n:=Y.N) hN _ hb⟩) (λu=>⟨_,s1 u⟩) s2 (λe he=>he) (λx u _=>⟨_,_,_,rfl⟩) ?_ (λ_ _ _ _ _ _ _ _=>.inl λ_=>⟨_,_,_,rfl⟩)
 rintro N hN c c' w1 fQ ⟨rfl,hc⟩ iM iU;have top:dD (Y.wN N) F fr:=h.top.wN (Y:=Y) (n:=Y.N) hN;refine .inr ⟨{ fr with defers:=c'++ds },cs,_,λ_=>rfl,rfl,⟨iU,iM,by simp[bC,gr,Sy.wN],top.bEf λd G5=>?_,aEk (Y:=Y) (n:=Y.N) h.low hN,h.last.of rfl rfl⟩⟩;rcases kN G5 with G5|G5
 .exact hc d G5
 .exact top.defers d (by rw[hd];simp[G5])
theorem aG7{P:WJ}{f:WK}{d:Deferred}{u:WA}{c:List PanicEntry}(h:d.target=.nil)(hm:f.mode=.panicking c):∃o v es,callDeferred P f cs none d u=.ended o v es:=by simp[callDeferred,h,hm]
theorem yM{f:WK}{d:Deferred}(h:¬(d.target=.nil/\∃c,f.mode=.panicking c)):((d.target matches .nil)&&(f.mode matches .panicking _))=false:=by cases ht:d.target<;>cases hq:f.mode<;>first|rfl|exact absurd ⟨ht,_,hq⟩ h
theorem aDn{P:WJ}{s:WA->GStep}{f:WK}{d:Deferred}{a:Next}{fr1:WK}{qQ:List WK}{u v:WA}(s1:∀u,s u=callDeferred P f (cs++B) none d u)(hn:¬(d.target=.nil/\∃c,f.mode=.panicking c))(e:(invoke d.target d.args).run P u=.ok a v)(h:match a with
  |.enter g args=>fr1=Frame.enter P g args .deferred/\qQ=f::cs
  |.round l g t x y=>fr1=Frame.round l g t x y .deferred/\qQ=f::cs
  |.value _|.skip|.defer _=>fr1=f/\qQ=cs
  |_=>False):∃es',s u=.go (gr fr1 (qQ++B)) v es':=zJ2
theorem aJe{P:WJ}{s:WA->GStep}{f:WK}{d:Deferred}{x:WB}{u v:WA}(s1:∀u,s u=callDeferred P f (cs++B) none d u)(hn:¬(d.target=.nil/\∃c,f.mode=.panicking c))(e:(invoke d.target d.args).run P u=.halt (.panic x) v):∃es',s u=.go (gr (f.raise [{ v:=x,recovered:=false }]) (cs++B)) v es':=have bKk:=0;zJ2
theorem nH.deferred(G:∀N,Y.N<=N->Pc (Y.wN N) F)(h:nH Y F C g w fr cs w')(hm:fr.mode≠.run){d:Deferred}{ds:List Deferred}(hd:fr.defers=d::ds)(hc:∀b,d.target≠.collected b):X3 Y F C B main g w fr cs w':=by
 have hS:=h.top.defers d (by rw[hd];exact kT)
 have hd':(bC Y.ρ fr).defers=rD Y.ρ d::ds.map (rD Y.ρ):=by simp[bC,hd]
 have hc':∀b,(rD Y.ρ d).target≠.collected b:=fun b=>by
  have:(rD Y.ρ d).target=rTN Y.ρ d.target:=rfl
  rw[this]
  cases ht:d.target<;>simp[rTN]
  exact fun _=>hc _ ht
 have s1:∀u,stepG Y.P true (gr fr (cs++B)) u=callDeferred Y.P { fr with defers:=ds } (cs++B) none d u:=fun u=>by
  rw[iH hm,unwind.eq_def,hd]
  obtain⟨t,a⟩:=d
  cases t<;>first|exact absurd rfl (hc _)|rfl
 have s2:stepG Y.P main (gr (bC Y.ρ fr) (cs.map (bC Y.ρ)++C)) w=callDeferred Y.P (bC Y.ρ { fr with defers:=ds }) (cs.map (bC Y.ρ)++C) none (rD Y.ρ d) w:=by
  rw[iH (aKj hm),unwind.eq_def,hd']
  generalize rD Y.ρ d=d1 at hc'⊢
  obtain⟨t,a⟩:=d1
  cases t<;>first|exact absurd rfl (hc' _)|rfl
 by_cases hn:d.target=.nil/\∃c,fr.mode=.panicking c
 ·obtain⟨n1,c,n2⟩:=hn
  exact nH.ends fun u=>by rw[s1];exact aG7 n1 n2
 have hn':¬((rD Y.ρ d).target=.nil/\∃c,(bC Y.ρ { fr with defers:=ds }).mode=.panicking c):=by
  have e1:(rD Y.ρ d).target=rTN Y.ρ d.target:=rfl
  have e2:(bC Y.ρ { fr with defers:=ds }).mode=rM Y.ρ fr.mode:=rfl
  rw[e1,e2]
  rintro⟨q1,c,q2⟩
  apply hn
  constructor
  ·cases ht:d.target<;>rw[ht]at q1<;>simp[rTN]at q1⊢
  ·cases hq:fr.mode<;>rw[hq]at q2<;>simp[rM]at q2⊢
 have aFi:∀N,Y.N<=N->dD (Y.wN N) F { fr with defers:=ds }:=fun N hN=>by
  have top:dD (Y.wN N) F fr:=h.top.wN (Y:=Y) (n:=Y.N) hN
  exact top.bEf fun x hx=>top.defers x (by rw[hd];simp[hx])
 have aXo:∀N,Y.N<=N->∀c∈{ fr with defers:=ds }::cs,dD (Y.wN N) F c:=fun N hN c hc=>by
  rcases kQ hc with rfl|hc
  ·exact aFi N hN
  ·exact aEk (Y:=Y) (n:=Y.N) h.low hN c hc
 have last2:iP { fr with defers:=ds } cs:=h.last.of rfl rfl
 refine h.sem2 (A:=fun Z=>NR Z F false) (m:=invoke (rD Y.ρ d).target (rD Y.ρ d).args) (m':=invoke d.target d.args)
  (fun N hN=>(G N hN).invoke (t:=(rD Y.ρ d).target) (a:=(rD Y.ρ d).args) rfl (hS.1.mono (aB4 (Y:=Y) (n:=Y.N) hN)) ⟨rfl,fun v hv=>(hS.2 v hv).mono (aB4 (Y:=Y) (n:=Y.N) hN)⟩) ?_ ?_ ?_
 ·intro u x v hx hb
  rw[s1,callDeferred,kJ]
  rotate_left
  ·exact Bool.eq_false_iff.1 (yM (f:={ fr with defers:=ds }) hn)
  simp only[Sem.runT_eq,hx]
  cases x
  case stuck m=>exact⟨_,_,_,rfl⟩
  case unsupported m=>exact⟨_,_,_,rfl⟩
  all_goals exact hb.elim
 ·intro N hN a a' w1 fQ hA e iM iU
  rw[s2,callDeferred,kJ]
  rotate_left
  ·exact Bool.eq_false_iff.1 (yM hn')
  simp only[Sem.runT_eq,e]
  cases a'<;>cases a<;>first|exact hA.elim|skip
  ·exact⟨{ fr with defers:=ds },cs,_,_,fun u v e'=>aDn s1 hn e' ⟨rfl,rfl⟩,rfl,fun _ q=>q,⟨iU,iM,rfl,aFi N hN,aEk (Y:=Y) (n:=Y.N) h.low hN,last2⟩⟩
  ·exact⟨{ fr with defers:=ds },cs,_,_,fun u v e'=>aDn s1 hn e' ⟨rfl,rfl⟩,rfl,fun _ q=>q,⟨iU,iM,rfl,aFi N hN,aEk (Y:=Y) (n:=Y.N) h.low hN,last2⟩⟩
  ·rename_i f' a' f a
   obtain⟨ef,hf,ea,ha⟩:=hA
   replace ea:a=a'.map (rV Y.ρ):=ea
   subst ef ea
   have aEb:=aDz (Y.wN N).ρ Y.P f a' .deferred
   exact⟨Frame.enter Y.P f a' .deferred,{ fr with defers:=ds }::cs,_,_,fun u v e'=>aDn s1 hn e' ⟨rfl,rfl⟩,rfl,fun _ q=>q,⟨iU,iM,by rw[aEb];rfl,dD.enter (G N hN) hf ha (.inr rfl),aXo N hN,last2.push _⟩⟩
  ·rename_i l' f' t1' a1' b1' l f t1 a1 b1
   obtain⟨⟨el,zJ⟩,ef,⟨et,ht1⟩,ea,eb,p,hC⟩:=hA
   replace el:l=Y.ρ l':=el
   replace et:t1=t1'.map (rV Y.ρ):=et
   subst el ef et ea eb
   have aEb:=aNi (Y.wN N).ρ l' f t1' a1 b1 .deferred
   exact⟨Frame.round l' f t1' a1 b1 .deferred,{ fr with defers:=ds }::cs,_,_,fun u v e'=>aDn s1 hn e' ⟨rfl,rfl⟩,rfl,fun _ q=>q,⟨iU,iM,by rw[aEb];rfl,dD.aN7 (G N hN) zJ ht1 hC (.inr rfl),aXo N hN,last2.push _⟩⟩
  ·exact⟨{ fr with defers:=ds },cs,_,_,fun u v e'=>aDn s1 hn e' ⟨rfl,rfl⟩,rfl,fun _ q=>q,⟨iU,iM,rfl,aFi N hN,aEk (Y:=Y) (n:=Y.N) h.low hN,last2⟩⟩
  ·cases hA
 ·intro N hN v' w1 fQ hv e iM iU
  rw[s2,callDeferred,kJ]
  rotate_left
  ·exact Bool.eq_false_iff.1 (yM hn')
  simp only[Sem.runT_eq,e]
  have hq:=tZ { fr with defers:=ds } [{ v:=v',recovered:=false }]
  have hra:=aF0 (Y.wN N).ρ { fr with defers:=ds } v'
  exact⟨({ fr with defers:=ds }:Frame).raise [{ v:=v',recovered:=false }],cs,_,_,fun u v e'=>aJe s1 hn e',rfl,fun _ q=>q,⟨iU,iM,by rw[<-hra];rfl,(aFi N hN).raise hv,aEk (Y:=Y) (n:=Y.N) h.low hN,last2.of hq.1 hq.2⟩⟩
end
end
section
section
variable{Y:Sy}{F:FuncId->Prop}{C B:List WK}{main:Bool}{g:WC}{w w':WA}{fr fr1:WK}{cs:List WK}
theorem aUx(ρ:WN)(fr:WK)(l:List PanicEntry):(bC ρ fr).raise (l.map (rP ρ))=bC ρ (fr.raise l):=by have e:(bC ρ fr).mode=rM ρ fr.mode:=rfl;unfold Frame.raise;rw[e];cases h:fr.mode<;>simp[bC,rM]
theorem dD.bCv(h:dD Y F fr){l:List PanicEntry}(hl:∀e∈l,Sc Y.S Y.Q e.v/\e.goexit=false):dD Y F (fr.raise l):=by have hm:=h.mode;unfold Frame.raise;have m71:=0;exact zH2
theorem aJh(h:dD Y F fr):fr.catches Y.P=false:=by
 unfold Frame.catches;split
 .rename_i d a r b k _ ht;exact absurd rfl ((h.qE (.call d a r b) ez).1 d a r b)
 .rfl
theorem aO1(h:dD Y F fr)(ρ:WN):(bC ρ fr).catches Y.P=false:=by
 unfold Frame.catches;split
 .rename_i d a r b k _ ht;have oY:fr.todo.map (rI ρ)=.call d a r b::k:=ht
  cases hf:fr.todo with
  |nil=>rw[hf]at oY;cases oY
  |cons i l=>
   rw[hf]at oY
   have:=h.qE i (by rw[hf];simp)
   cases i<;>simp[rI]at oY<;>first|exact oY.elim|exact absurd rfl (this.1 _ _ _ _)
 .rfl
theorem nH.pop(G:∀N,Y.N<=N->Pc (Y.wN N) F)(h:nH Y F C g w fr cs w')(hm:fr.mode≠.run)(hd:fr.defers=[]){c:WK}{l:List WK}(fO:cs=c::l):X3 Y F C B main g w fr cs w':=by
 subst fO;have hd':(bC Y.ρ fr).defers=[]:=by simp[bC,hd]
 have e1:∀u,stepG Y.P true (gr fr ((c::l)++B)) u=unwind Y.P true fr ((c::l)++B) none u:=λu=>iH hm;have e2:stepG Y.P main (gr (bC Y.ρ fr) ((c::l).map (bC Y.ρ)++C)) w=unwind Y.P main (bC Y.ρ fr) ((c::l).map (bC Y.ρ)++C) none w:=iH (aKj hm);have lc:=h.low c oe;have hmo:=h.top.mode;have hmr:(bC Y.ρ fr).mode=rM Y.ρ fr.mode:=rfl
 cases hq:fr.mode with
 |run=>exact absurd hq hm
 |panicking ch=>
  rw[hq]at hmo hmr
  have hk:=tZ c ch
  have hra:=aUx Y.ρ c ch
  refine⟨Y.N,kG _,w'.tape,w'.drawn,kG _,.inr ⟨c.raise ch,l,w',gr (bC Y.ρ (c.raise ch)) (l.map (bC Y.ρ)++C),w,#[],rfl,λt' _=>⟨#[],?_⟩,?_,⟨h.tight,h.wr,rfl,lc.bCv hmo,λx hx=>h.low x o6,h.last.pop.of hk.1 hk.2⟩,fY.refl,oe⟩⟩
  .dsimp only
   rw[e1]
   simp[unwind,hd,hq,aJh h.top,gr]
  .rw[h.eq,e2,<-hra]
   simp[unwind,hd',hmr,rM,aO1 h.top,gr]
 |returning=>
  rw[hq]at hmr
  have hfn:(bC Y.ρ fr).fn=fr.fn:=rfl
  have htm:(bC Y.ρ fr).tmps=fr.tmps.map (rV Y.ρ):=rfl
  have s1:∀u,stepG Y.P true (gr fr ((c::l)++B)) u=match Y.P.funcs[fr.fn]? with
    |none=>doReturn Y.P true fr ((c::l)++B) none (fr.tmps.getD 0 undef) u
    |some fn=>GStep.after (seen Y.P fr.fn ((results fn fr.tmps).events Y.P u #[])) (match (results fn fr.tmps).run Y.P u with|.ok v u=>doReturn Y.P true fr ((c::l)++B) none v u|.halt (.stuck s) u=>.ended (.stuck s (fr.pos Y.P)) u #[]|.halt _ u=>.ended (.stuck "return: the result variables cannot be read" (fr.pos Y.P)) u #[]):=λu=>by
   rw[e1,unwind.eq_def,hd,hq]
   simp only[Sem.runT_eq]
   cases Y.P.funcs[fr.fn]? with
   |none=>rfl
   |some fn=>
    dsimp only
    cases(results fn fr.tmps).run Y.P u with
    |ok v u=>rfl
    |halt x u=>cases x<;>rfl
  have s2:stepG Y.P main (gr (bC Y.ρ fr) ((c::l).map (bC Y.ρ)++C)) w=match Y.P.funcs[fr.fn]? with
    |none=>doReturn Y.P main (bC Y.ρ fr) ((c::l).map (bC Y.ρ)++C) none ((bC Y.ρ fr).tmps.getD 0 undef) w
    |some fn=>GStep.after (seen Y.P fr.fn ((results fn (bC Y.ρ fr).tmps).events Y.P w #[])) (match (results fn (bC Y.ρ fr).tmps).run Y.P w with|.ok v u=>doReturn Y.P main (bC Y.ρ fr) ((c::l).map (bC Y.ρ)++C) none v u|.halt (.stuck s) u=>.ended (.stuck s ((bC Y.ρ fr).pos Y.P)) u #[]|.halt _ u=>.ended (.stuck "return: the result variables cannot be read" ((bC Y.ρ fr).pos Y.P)) u #[]):=by
   rw[e2,unwind.eq_def,hd',hmr]
   simp only[Sem.runT_eq,rM,hfn]
   cases Y.P.funcs[fr.fn]? with
   |none=>rfl
   |some fn=>
    dsimp only
    cases(results fn (bC Y.ρ fr).tmps).run Y.P w with
    |ok v u=>rfl
    |halt x u=>cases x<;>rfl
  cases hp:Y.P.funcs[fr.fn]? with
  |none=>
   rw[hp]at s1 s2
   obtain⟨ev,hv⟩:=aAz (Y:=Y) ⟨htm,h.top.tmps⟩ 0
   obtain⟨fr1,q1,q2,q3,q4⟩:=aI1 (Z:=Y) (main:=main) (C:=C) h.top.kind hv h.low h.last
   refine⟨Y.N,kG _,w'.tape,w'.drawn,kG _,.inr ⟨fr1,l,w',gr (bC Y.ρ fr1) (l.map (bC Y.ρ)++C),w,#[],rfl,λt' _=>⟨#[],(s1 _).trans (q1 _)⟩,?_,⟨h.tight,h.wr,rfl,q3,λx hx=>h.low x o6,q4⟩,fY.refl,oe⟩⟩
   rw[h.eq,s2]
   dsimp only
   rw[ev]
   exact q2 w
  |some fn=>
   rw[hp]at s1 s2
   refine h.sem (A:=λZ=>VR Z) (m:=results fn (bC Y.ρ fr).tmps) (m':=results fn fr.tmps) (k:=λr=>match r with|.ok v u=>doReturn Y.P true fr ((c::l)++B) none v u|.halt (.stuck s) u=>.ended (.stuck s (fr.pos Y.P)) u #[]|.halt _ u=>.ended (.stuck "return: the result variables cannot be read" (fr.pos Y.P)) u #[]) (kc:=λr=>match r with|.ok v u=>doReturn Y.P main (bC Y.ρ fr) ((c::l).map (bC Y.ρ)++C) none v u|.halt (.stuck s) u=>.ended (.stuck s ((bC Y.ρ fr).pos Y.P)) u #[]|.halt _ u=>.ended (.stuck "return: the result variables cannot be read" ((bC Y.ρ fr).pos Y.P)) u #[])
    (λN hN=>(G N hN).toPg.results fn ⟨htm,(h.top.wN (Y:=Y) (n:=Y.N) hN).tmps⟩) (λu=>⟨_,s1 u⟩) s2 (λe he=>he) (λx u _=>?_) ?_ (λ_ _ _ _ _ _ _ _=>.inl λ_=>⟨_,_,_,rfl⟩)
   .cases x<;>exact⟨_,_,_,rfl⟩
   .rintro N hN v v' w1 fQ ⟨rfl,hv⟩ iM iU
    exact .inr (nH.ret (Z:=Y.wN N) h.top.kind hv (aEk (Y:=Y) (n:=Y.N) h.low hN) h.last iM iU)
theorem nH.unwind(G:∀N,Y.N<=N->Pc (Y.wN N) F)(h:nH Y F C g w fr cs w')(hm:fr.mode≠.run)(ho:¬Out fr cs):X3 Y F C B main g w fr cs w':=by
 cases hd:fr.defers with
 |nil=>
  cases fO:cs with
  |nil=>exact absurd ⟨fO,hd,hm⟩ ho
  |cons c l=>exact fO▸h.pop G hm hd fO
 |cons d ds=>
  by_cases hc:∃b,d.target=.collected b
  .obtain⟨b,hb⟩:=hc
   obtain⟨t,a⟩:=d
   simp only at hb
   subst hb
   exact h.take hm hd
  .exact h.deferred G hm hd λb e=>hc ⟨b,e⟩
theorem nH.step(G:∀N,Y.N<=N->Pc (Y.wN N) F)(h:nH Y F C g w fr cs w')(ho:¬Out fr cs):X3 Y F C B main g w fr cs w':=by
 by_cases hm:fr.mode=.run
 .have xF:(bC Y.ρ fr).mode=.run:=by simp[bC,hm,rM]
  have hr':(bC Y.ρ fr).roundOf=fr.roundOf.map Y.ρ:=rfl
  cases ht:fr.todo with
  |nil=>
   have oY:(bC Y.ρ fr).todo=[]:=by simp[bC,ht]
   refine h.leave G (jump:=none) (.inl rfl) (λu=>?_) ?_
   .simp only[gr,stepG,hm,stepG.exec,ht,leaves.eq_def,Sem.runT_eq]
    cases hr:fr.roundOf<;>rfl
   .simp only[gr,stepG,xF,stepG.exec,oY,leaves.eq_def,Sem.runT_eq]
    cases hr:(bC Y.ρ fr).roundOf<;>rfl
  |cons i k=>
   have go:∀{j:Option Code},(j=none\/j=some .ret\/(∃id,j=some (.exit id))\/∃l,j=some (.goto l))->(∀u,stepG Y.P true (gr fr (cs++B)) u=leaves Y.P true fr (cs++B) j u)->stepG Y.P main (gr (bC Y.ρ fr) (cs.map (bC Y.ρ)++C)) w=leaves Y.P main (bC Y.ρ fr) (cs.map (bC Y.ρ)++C) j w->X3 Y F C B main g w fr cs w':=λhj h1 h2=>h.leave G hj h1 h2
   have ok:=h.top.todo i ez
   cases i
   case code c=>
    cases c
    case ret=>
     have oY:(bC Y.ρ fr).todo=.code .ret::k.map (rI Y.ρ):=Eh
     refine go (j:=some .ret) (.inr (.inl rfl)) (λu=>?_) ?_
     .simp only[gr,stepG,hm,stepG.exec,ht,leaves.eq_def,Sem.runT_eq]
      cases hr:fr.roundOf<;>rfl
     .simp only[gr,stepG,xF,stepG.exec,oY,leaves.eq_def,Sem.runT_eq]
      cases hr:(bC Y.ρ fr).roundOf<;>rfl
    case exit id=>
     have oY:(bC Y.ρ fr).todo=.code (.exit id)::k.map (rI Y.ρ):=Eh
     cases he:exitTo id k with
     |none=>
      have he':exitTo id (k.map (rI Y.ρ))=none:=by rw[Z1,he];rfl
      refine go (j:=some (.exit id)) (.inr (.inr (.inl ⟨id,rfl⟩))) (λu=>?_) ?_
      .simp only[gr,stepG,hm,stepG.exec,ht,leaves.eq_def,he,Sem.runT_eq]
       cases hr:fr.roundOf<;>rfl
      .simp only[gr,stepG,xF,stepG.exec,oY,leaves.eq_def,he',Sem.runT_eq]
       cases hr:(bC Y.ρ fr).roundOf<;>rfl
     |some k'=>exact h.ctl hm ht oe oe oe (λ_ e=>by cases e;rw[he];simp) oe
    case goto l=>
     have oY:(bC Y.ρ fr).todo=.code (.goto l)::k.map (rI Y.ρ):=Eh
     cases he:gotoIn l k with
     |none=>
      have he':gotoIn l (k.map (rI Y.ρ))=none:=by rw[Z8,he];rfl
      refine go (j:=some (.goto l)) (.inr (.inr (.inr ⟨l,rfl⟩))) (λu=>?_) ?_
      .simp only[gr,stepG,hm,stepG.exec,ht,leaves.eq_def,he,Sem.runT_eq]
       cases hr:fr.roundOf<;>rfl
      .simp only[gr,stepG,xF,stepG.exec,oY,leaves.eq_def,he',Sem.runT_eq]
       cases hr:(bC Y.ρ fr).roundOf<;>rfl
     |some k'=>exact h.ctl hm ht oe oe oe oe (λ_ e=>by cases e;rw[he];simp)
    case region id cZ d=>
     cases d
     .exact h.region hm ht
     .exact h.draw hm ht
    case rangeFunc f ps a b=>exact h.rangeFunc G hm ht
    all_goals exact h.ctl hm ht oe oe oe oe oe
   case inBlock b=>exact h.item hm ht (.inl ⟨_,rfl⟩)
   case inScope b=>exact h.item hm ht (.inr (.inl ⟨_,rfl⟩))
   case inLoop b=>exact h.item hm ht (.inr (.inr (.inl ⟨_,rfl⟩)))
   case inRegion cZ l=>
    cases l with
    |nil=>exact h.item hm ht (.inr (.inr (.inr ⟨_,rfl⟩)))
    |cons j l=>exact h.oper G hm ht
   case inRangeFunc l=>exact aF1 ht hm
   case endRangeFunc l=>exact h.endLoop G hm ht
   case beginRound=>exact h.beginRound G hm ht
   all_goals exact ok.elim
 .exact h.unwind G hm ho
end
end
section
variable{fr fr1:WK}
abbrev LS:=WK×List WK×WA
section
variable(P:WJ)(B:List WK)(E:WK->WA->Prop)
def LGo(s s1:LS):Prop:=s.2.2.drawn<=s1.2.2.drawn/\∃t,∀t',Ag s.2.2.drawn s1.2.2.drawn t t'->∃es,stepG P true (gr s.1 (s.2.1++B)) (on s.2.2 t')=.go (gr s1.1 (s1.2.1++B)) (on s1.2.2 t') es
def aRn(s:LS):Prop:=∃t D,∀t',Ag s.2.2.drawn D t t'->∃o u es,stepG P true (gr s.1 (s.2.1++B)) (on s.2.2 t')=.ended o u es
def pG(s:LS):Prop:=∀X:LS->Prop,(∀s,(Out s.1 s.2.1->E s.1 s.2.2)->(¬Out s.1 s.2.1->¬aRn P B s/\∀s1,LGo P B s s1->X s1)->X s)->X s
end
section
variable{P:WJ}{B:List WK}{E:WK->WA->Prop}
theorem pG.fold{s:LS}(h1:Out s.1 s.2.1->E s.1 s.2.2)(h2:¬Out s.1 s.2.1->¬aRn P B s/\∀s1,LGo P B s s1->pG P B E s1):pG P B E s:=λX hX=>hX s h1 λho=>⟨(h2 ho).1,λs1 h=>(h2 ho).2 s1 h X hX⟩
theorem pG.open{s:LS}(h:pG P B E s):(Out s.1 s.2.1->E s.1 s.2.2)/\(¬Out s.1 s.2.1->¬aRn P B s/\∀s1,LGo P B s s1->pG P B E s1):=by have:=h (λs=>pG P B E s/\((Out s.1 s.2.1->E s.1 s.2.2)/\(¬Out s.1 s.2.1->¬aRn P B s/\∀s1,LGo P B s s1->pG P B E s1))) λs h1 h2=>⟨pG.fold h1 λho=>⟨(h2 ho).1,λs1 h=>((h2 ho).2 s1 h).1⟩,h1,λho=>⟨(h2 ho).1,λs1 h=>((h2 ho).2 s1 h).1⟩⟩;exact this.2
def LLt(P:WJ)(B:List WK)(b a:LS):Prop:=¬Out a.1 a.2.1/\LGo P B a b
theorem pG.acc{s:LS}(h:pG P B E s):Acc (LLt P B) s:=h (Acc (LLt P B)) λs _ h2=>Acc.intro s λb hb=>(h2 hb.1).2 b hb.2
theorem least{p:Nat->Prop}:∀n,p n->∃m,p m/\∀i,i<m->¬p i:=by
 intro n
 induction n using Nat.strongRecOn with
 |ind n ih=>
  intro hn
  by_cases h:∃i,i<n/\p i
  .obtain⟨i,hi,hp⟩:=h
   exact ih i hi hp
  .exact⟨n,hn,λi hi hp=>h ⟨i,hi,hp⟩⟩
def dX(P:WJ):WK:={ fn:=P.funcs.size,tmps:=#[],todo:=[.call { target:=.nil,args:=#[] } false "fmt's door" #[]],defers:=[],mode:=.returning,kind:=.normal }
theorem zW(hi:P.inits.idxOf? P.funcs.size=none){c:WK}{u:WA}(hf:c.fn=P.funcs.size)(hd:c.defers=[])(hm:c.mode=.returning)(hk:c.kind=.normal):∃o v,step P (lone c [] u)=.ended o v:=by refine⟨_,_,step_lone_ended (o:=.done (c.tmps.getD 0 undef)) (w':=u) ?_⟩;simp[stepG,unwind,hd,hm,hf,doReturn,hk,hi]
theorem aSf(hi:P.inits.idxOf? P.funcs.size=none)(ho:Out fr [])(w:WA):(∃o u,step P (lone fr [dX P] w)=.ended o u)\/∃c u,step P (lone fr [dX P] w)=.next (lone c [] u)/\∃o v,step P (lone c [] u)=.ended o v:=by
 obtain⟨_,hd,hm⟩:=ho;have hn:P.funcs[P.funcs.size]?=none:=oe;have fin:∀v u,∃c,(doReturn P true fr [dX P] none v u).bare=.go { frame:=c,callers:=[],status:=.running,dying:=none } u/\c.fn=P.funcs.size/\c.defers=[]/\c.mode=.returning/\c.kind=.normal:=by intro v u;cases hk:fr.kind<;>exact⟨_,by simp[doReturn,hk];rfl,rfl,rfl,rfl,rfl⟩
 cases hq:fr.mode with
 |run=>exact absurd hq hm
 |panicking ch=>
  by_cases hc:fr.catches P=true
  .exact .inl ⟨_,_,step_lone_ended (w':=w) (by simp[stepG,unwind,hd,hq,hc];rfl)⟩
  .refine .inr ⟨(dX P).raise ch,w,step_lone_go (by simp[stepG,unwind,hd,hq,hc]),?_⟩
   have xF:((dX P).raise ch).mode=.panicking ch:=rfl
   have hc':((dX P).raise ch).catches P=true:=by
    show(match P.funcs[P.funcs.size]?,(dX P).todo with|none,.call _ _ resume _::_=>resume.startsWith "fmt's door"|_,_=>false)=true
    rw[hn]
    show "fmt's door".startsWith "fmt's door"=true
    decide+kernel
   have hd':((dX P).raise ch).defers=[]:=rfl
   exact⟨_,_,step_lone_ended (w':=w) (by simp[stepG,unwind,hd',xF,hc'];rfl)⟩
 |returning=>
  cases hp:P.funcs[fr.fn]? with
  |none=>
   obtain⟨c,h1,h2,h3,h4,h5⟩:=fin (fr.tmps.getD 0 undef) w
   exact .inr ⟨c,w,step_lone_go (by simp[stepG,unwind,hd,hq,hp];simpa using h1),zW hi h2 h3 h4 h5⟩
  |some fn=>
   cases hr:(results fn fr.tmps).run P w with
   |ok v u=>
    obtain⟨c,h1,h2,h3,h4,h5⟩:=fin v u
    exact .inr ⟨c,u,step_lone_go (by simp[stepG,unwind,hd,hq,hp,hr];simpa using h1),zW hi h2 h3 h4 h5⟩
   |halt x u=>cases x<;>exact .inl ⟨_,_,step_lone_ended (w':=u) (by simp[stepG,unwind,hd,hq,hp,hr];rfl)⟩
def iZ(P:WJ)(B:List WK)(E:WK->WA->Prop)(s:LS):Prop:=∃s1,¬Out s.1 s.2.1/\LGo P B s s1/\¬pG P B E s1
theorem aPx{s:LS}(h:¬pG P B E s)(hn:¬iZ P B E s):(Out s.1 s.2.1/\¬E s.1 s.2.2)\/(¬Out s.1 s.2.1/\aRn P B s):=by
 by_cases ho:Out s.1 s.2.1
 .refine .inl ⟨ho,λhe=>h (pG.fold (λ_=>he) λhh=>absurd ho hh)⟩
 .refine .inr ⟨ho,Classical.byContradiction λhe=>h (pG.fold (λhh=>absurd hh ho) λ_=>⟨he,λs1 h1=>Classical.byContradiction λhw=>hn ⟨s1,ho,h1,hw⟩⟩)⟩
def Nx(P:WJ)(B:List WK)(E:WK->WA->Prop)(nx:LS->LS):Prop:=∀s,(iZ P B E s->¬Out s.1 s.2.1/\LGo P B s (nx s)/\¬pG P B E (nx s))/\(¬iZ P B E s->nx s=s)
theorem bHe:∃nx,Nx P B E nx:=by
 have h:∀s:LS,∃s',(iZ P B E s->¬Out s.1 s.2.1/\LGo P B s s'/\¬pG P B E s')/\(¬iZ P B E s->s'=s):=λs=>by
  by_cases hw:iZ P B E s
  .obtain⟨s1,h1⟩:=hw;exact⟨s1,λ_=>h1,λhn=>absurd ⟨s1,h1⟩ hn⟩
  .exact⟨s,λh=>absurd h hw,λ_=>rfl⟩
 obtain⟨f,hf⟩:=Classical.axiomOfChoice h;exact⟨f,hf⟩
def dA(nx:LS->LS)(s:LS):Nat->LS
 |0=>s
 |i+1=>nx (dA nx s i)
section
variable{nx:LS->LS}
theorem aUa(X:Nx P B E nx)(s:LS):s.2.2.drawn<=(nx s).2.2.drawn:=by
 by_cases h:iZ P B E s
 .exact((X s).1 h).2.1.1
 .rw[(X s).2 h];exact kG _
theorem aIh(X:Nx P B E nx){s:LS}(h:¬pG P B E s):∀i,¬pG P B E (dA nx s i)
 |0=>h
 |i+1=>by
  show ¬pG P B E (nx (dA nx s i));by_cases hw:iZ P B E (dA nx s i)
  .exact((X _).1 hw).2.2
  .rw[(X _).2 hw];exact aIh X h i
theorem I8(X:Nx P B E nx)(s:LS){i j:Nat}(h:i<=j):(dA nx s i).2.2.drawn<=(dA nx s j).2.2.drawn:=by
 induction h with
 |refl=>exact kG _
 |step _ ih=>exact kH ih (aUa X _)
theorem aUc(X:Nx P B E nx)(s:LS)(t0:Nat->Question->Nat):∃T:Nat->Question->Nat,(∀i,iZ P B E (dA nx s i)->∃es,stepG P true (gr (dA nx s i).1 ((dA nx s i).2.1++B)) (on (dA nx s i).2.2 T)=.go (gr (dA nx s (i+1)).1 ((dA nx s (i+1)).2.1++B)) (on (dA nx s (i+1)).2.2 T) es)/\
  ∀n,¬iZ P B E (dA nx s n)->∀d,(dA nx s n).2.2.drawn<=d->T d=t0 d:=by
 have hτ:∀i,∃t,iZ P B E (dA nx s i)->∀t',Ag (dA nx s i).2.2.drawn (dA nx s (i+1)).2.2.drawn t t'->∃es,stepG P true (gr (dA nx s i).1 ((dA nx s i).2.1++B)) (on (dA nx s i).2.2 t')=.go (gr (dA nx s (i+1)).1 ((dA nx s (i+1)).2.1++B)) (on (dA nx s (i+1)).2.2 t') es:=by
  intro i;by_cases h:iZ P B E (dA nx s i)
  .obtain⟨_,⟨_,t,ht⟩,_⟩:=(X _).1 h;exact⟨t,λ_=>ht⟩
  .exact⟨t0,λhh=>absurd hh h⟩
 obtain⟨τ,hτ⟩:=Classical.axiomOfChoice hτ;have bM8:∀i j d,(dA nx s i).2.2.drawn<=d->d<(dA nx s (i+1)).2.2.drawn->(dA nx s j).2.2.drawn<=d->d<(dA nx s (j+1)).2.2.drawn->i=j:=by
  intro i j d h1 h2 h3 h4;rcases Nat.lt_trichotomy i j with h|h|h
  .have:=I8 X s (show i+1<=j by omega);omega
  .exact h
  .have:=I8 X s (show j+1<=i by omega);omega
 refine⟨λd q=>open Classical in if h:∃i,(dA nx s i).2.2.drawn<=d/\d<(dA nx s (i+1)).2.2.drawn then τ h.choose d q else t0 d q,λi hi=>hτ i hi _ λd h1 h2=>?_,λn hn d hd=>?_⟩
 .funext q;have h:∃i,(dA nx s i).2.2.drawn<=d/\d<(dA nx s (i+1)).2.2.drawn:=⟨i,h1,h2⟩;rw[dif_pos h,bM8 _ _ d h.choose_spec.1 h.choose_spec.2 h1 h2]
 .funext q;refine dif_neg ?_;rintro⟨i,h1,h2⟩;rcases jB i n with h|h
  .have:=I8 X s (show i+1<=n by omega);omega
  .have stay:∀k,dA nx s (n+k)=dA nx s n:=by
    intro k
    induction k with
    |zero=>rfl
    |succ k ih=>
     show nx (dA nx s (n+k))=_
     rw[ih,(X _).2 hn]
   have e1:=stay (i-n);have e2:=stay (i+1-n);rw[show n+(i-n)=i by omega]at e1;rw[show n+(i+1-n)=i+1 by omega]at e2;rw[e2]at h2;omega
theorem aPu{cs qQ:List WK}{w w1:WA}{es:Array Event}(h:stepG P true (gr fr cs) w=.go (gr fr1 qQ) w1 es):step P (lone fr cs w)=.next (lone fr1 qQ w1):=step_lone_go (by rw[show stepG P true { frame:=fr,callers:=cs,status:=.running,dying:=none } w=.go (gr fr1 qQ) w1 es from h];rfl)
theorem aSl{cs:List WK}{w:WA}(h:∃o u es,stepG P true (gr fr cs) w=.ended o u es):∃o u,step P (lone fr cs w)=.ended o u:=by obtain⟨o,u,es,h⟩:=h;exact⟨o,u,step_lone_ended (by rw[show stepG P true { frame:=fr,callers:=cs,status:=.running,dying:=none } w=.ended o u es from h];rfl)⟩
theorem aHc{cs qQ:List WK}{w w1:WA}(h:lone fr cs w=lone fr1 qQ w1):fr=fr1/\cs=qQ/\w=w1:=by unfold lone at h;injection h with h1 h2 h3;simp at h2;exact⟨h2.1,h2.2,h1⟩
theorem aZ8(hi:P.inits.idxOf? P.funcs.size=none)(hE:∀f w t,E f w->E f (on w t)){s:LS}(H:∀t,∃n fr w1,runN P n (lone s.1 (s.2.1++[dX P]) (on s.2.2 t))=.next (lone fr [dX P] w1)/\Out fr []/\E fr w1):pG P [dX P] E s:=by
 refine Classical.byContradiction λaSw=>?_;obtain⟨nx,X⟩:=bHe (P:=P) (B:=[dX P]) (E:=E);have bad:=aIh X aSw;have aK4:∃t0:Nat->Question->Nat,∀n,¬iZ P [dX P] E (dA nx s n)->(∀i,i<n->iZ P [dX P] E (dA nx s i))->(Out (dA nx s n).1 (dA nx s n).2.1/\¬E (dA nx s n).1 (dA nx s n).2.2)\/(¬Out (dA nx s n).1 (dA nx s n).2.1/\∀t',(∀d,(dA nx s n).2.2.drawn<=d->t' d=t0 d)->∃o u es,stepG P true (gr (dA nx s n).1 ((dA nx s n).2.1++[dX P])) (on (dA nx s n).2.2 t')=.ended o u es):=by
  by_cases hn:∃n,¬iZ P [dX P] E (dA nx s n)
  .obtain⟨n0,hn0⟩:=hn;obtain⟨n,h1,h2⟩:=least (p:=λn=>¬iZ P [dX P] E (dA nx s n)) n0 hn0;have one:∀n',¬iZ P [dX P] E (dA nx s n')->(∀i,i<n'->iZ P [dX P] E (dA nx s i))->n'=n:=by
    intro n' q1 q2;rcases Nat.lt_trichotomy n' n with h|h|h
    .exact absurd q1 (h2 n' h)
    .exact h
    .exact absurd (q2 n h) h1
   rcases aPx (bad n) h1 with q|⟨q1,t0,D,q2⟩
   .exact⟨s.2.2.tape,λn' a b=>by rw[one n' a b];exact .inl q⟩
   .exact⟨t0,λn' a b=>by rw[one n' a b];exact .inr ⟨q1,λt' ht=>q2 t' λd hd _=>ht d hd⟩⟩
  .exact⟨s.2.2.tape,λn h=>absurd ⟨n,h⟩ hn⟩
 obtain⟨t0,aK4⟩:=aK4;obtain⟨T,hT1,hT2⟩:=aUc X s t0;obtain⟨m,fr,w1,dY,ho,hE1⟩:=H T;have bA0:∀n,(∀i,i<n->iZ P [dX P] E (dA nx s i))->runN P n (lone s.1 (s.2.1++[dX P]) (on s.2.2 T))=.next (lone (dA nx s n).1 ((dA nx s n).2.1++[dX P]) (on (dA nx s n).2.2 T)):=by
  intro n
  induction n with
  |zero=>exact λ_=>rfl
  |succ n ih=>
   intro h
   rw[runN_add,ih λi hi=>h i od]
   obtain⟨es,q⟩:=hT1 n (h n od)
   simp[runN,aPu q]
 have atEnd:∀n,(∀i,i<n->iZ P [dX P] E (dA nx s i))->m=n->Out (dA nx s n).1 (dA nx s n).2.1/\E (dA nx s n).1 (dA nx s n).2.2:=by
  rintro n h rfl;have:=(bA0 m h).symm.trans dY;injection this with this;obtain⟨e1,e2,e3⟩:=aHc this;have e4:(dA nx s m).2.1=[]:=by simpa using e2
  rw[e4,e1];refine⟨ho,?_⟩;have:=hE _ _ (dA nx s m).2.2.tape (e3▸hE1);exact this
 by_cases hn:∃n,n<=m/\¬iZ P [dX P] E (dA nx s n)
 .obtain⟨n0,hn0,hw0⟩:=hn;obtain⟨n,h1,h2⟩:=least (p:=λn=>¬iZ P [dX P] E (dA nx s n)) n0 hw0;have hle:n<=m:=by
   rcases jB n0 n with h|h
   .exact absurd hw0 (h2 n0 h)
   .omega
  have h3:∀i,i<n->iZ P [dX P] E (dA nx s i):=λi hi=>Classical.byContradiction (h2 i hi);have hr:=bA0 n h3;have lI:runN P (n+(m-n)) (lone s.1 (s.2.1++[dX P]) (on s.2.2 T))=.next (lone fr [dX P] w1):=by rw[show n+(m-n)=m by omega];exact dY
  rw[runN_add,hr]at lI;simp only at lI;rcases aK4 n h1 h3 with⟨q1,q2⟩|⟨q1,q2⟩
  .exact zJo
  .have bGb:=0;exact zJo
 .have h3:∀i,i<=m->iZ P [dX P] E (dA nx s i):=λi hi=>Classical.byContradiction λh=>hn ⟨i,hi,h⟩;exact((X _).1 (h3 m (kG _))).1 (atEnd m (λi hi=>h3 i od) rfl).1
end
end
end
section
def Sy.at(Y:Sy)(ρ:WN)(n:Nat):Sy:={ Y with ρ:=ρ,N:=n }
section
variable{ρ ρ':WN}{S:Nat->Prop}{Q:Qs}{C:FuncId->Code->Code->Option Code->Prop}
theorem aNh(h:∀b,S b\/Q.o b->ρ b=ρ' b){a:WT}(ha:S a.block\/Q.o a.block):rA ρ a=rA ρ' a:=by simp[rA,h _ ha]
theorem aZw(h:∀b,S b\/Q.o b->ρ b=ρ' b){f:Fn}(hf:∀l,f=.yield l->S l):rF ρ f=rF ρ' f:=by cases f<;>simp only[rF];rw[h _ (.inl (hf _ rfl))]
theorem xZ(h:∀b,S b\/Q.o b->ρ b=ρ' b):∀{v:WB},Sc S Q v->rV ρ v=rV ρ' v
 |.pointer a,hv=>by
  simp only[Sc]at hv
  cases a with
  |none=>simp[rV]
  |some a=>simp[rV,aNh h (hv a rfl)]
 |.slice a _ _,hv=>by
  simp only[Sc]at hv
  cases a with
  |none=>simp[rV]
  |some a=>simp[rV,aNh h (hv a rfl)]
 |.map r,hv=>by
  simp only[Sc]at hv
  cases r with
  |none=>simp[rV]
  |some a=>simp[rV,h _ (.inl (hv a rfl))]
 |.chan r,hv=>by
  simp only[Sc]at hv
  cases r with
  |none=>simp[rV]
  |some a=>simp[rV,h _ (.inl (hv a rfl))]
 |.func fn first cap,hv=>by
  simp only[Sc]at hv
  simp only[rV]
  congr 1
  .exact aZw h hv.1.2
  .exact AP λv hm=>xZ h (hv.2.1 v hm)
  .exact AP λv hm=>xZ h (hv.2.2 v hm)
 |.iface _ v,hv=>by
  simp only[Sc]at hv
  simp only[rV]
  rw[xZ h hv]
 |.agg cs,hv=>by
  simp only[Sc]at hv
  simp only[rV]
  congr 1
  exact AP λv hm=>xZ h (hv v hm)
 |.tuple cs,hv=>by
  simp only[Sc]at hv
  simp only[rV]
  congr 1
  exact AP λv hm=>xZ h (hv v hm)
 |.bool _,_|.int _ _,_|.float _ _,_|.complex _ _ _,_|.string _,_|.nilFunc,_|.nilIface,_=>by simp[rV]
theorem aAl(h:∀b,S b\/Q.o b->ρ b=ρ' b){c:Array WB}(hc:∀v∈c,Sc S Q v):c.map (rV ρ)=c.map (rV ρ'):=AP λv hv=>xZ h (hc v hv)
theorem aZv(h:∀b,S b\/Q.o b->ρ b=ρ' b){d:Deferred}(hd:ScD S Q d):rD ρ d=rD ρ' d:=by
 obtain⟨t,a⟩:=d;obtain⟨h1,h2⟩:=hd;simp only[rD];congr 1
 .cases t<;>simp only[ScT]at h1<;>simp only[rTN]
  .rw[aZw h h1.1.2,aAl h h1.2]
  .rw[h _ (.inl h1)]
 .exact aAl h h2
theorem bI3(h:∀b,S b\/Q.o b->ρ b=ρ' b){o:Obj}(ho:ScO S Q C o):rO ρ o=rO ρ' o:=by
 cases o<;>simp only[ScO]at ho<;>simp only[rO]<;>try exact ho.elim
 .rw[aAl h ho]
 .rw[aNh h ho]
 .rw[aNh h ho]
 .congr 1;exact AP λe he=>by simp only[rE];rw[xZ h (ho e he).1,xZ h (ho e he).2]
 .rename_i l;simp only[rL];rw[aAl h ho.1.1,h _ (.inl ho.1.2)]
 .rename_i cs
  cases cs with
  |none=>rfl
  |some l=>
   simp only[AH]
   congr 2
   exact List.map_congr_left λd hd=>aZv h (ho l rfl d hd)
end
section
variable{Y:Sy}{ρ ρ':WN}{F:FuncId->Prop}
theorem aUw(h:∀b,Y.SO b->ρ b=ρ' b){fr:WK}(hf:dD Y F fr):bC ρ fr=bC ρ' fr:=by
 have e1:fr.tmps.map (rV ρ)=fr.tmps.map (rV ρ'):=aAl h hf.tmps;have e2:fr.todo.map (rI ρ)=fr.todo.map (rI ρ'):=List.map_congr_left λi hi=>by
  have:=hf.todo i hi;cases i<;>simp only[rI]<;>simp only[qM]at this
  .rw[h _ (.inl this)]
  .rw[h _ (.inl this)]
 have e3:fr.defers.map (rD ρ)=fr.defers.map (rD ρ'):=List.map_congr_left λd hd=>aZv h (hf.defers d hd);have e4:rM ρ fr.mode=rM ρ' fr.mode:=by have:=hf.mode;cases hm:fr.mode<;>rw[hm]at this<;>simp only[rM];congr 1;exact List.map_congr_left λe he=>by simp only[rP];rw[xZ h (this e he).1]
 have e5:fr.roundOf.map ρ=fr.roundOf.map ρ':=by
  cases hr:fr.roundOf with
  |none=>rfl
  |some l=>simp[h _ (.inl (hf.round l hr))]
 simp only[bC,e1,e2,e3,e4,e5]
end
structure Oth(Y:Sy)(ρ:WN)(n:Nat)(w w2:WA):Prop where
 size:w.1.size<=w2.1.size
 own:∀c,Y.G<=c->c<n->w2.1[ρ c]?=w.1[ρ c]?
 ro:∀b,b<Y.G->w2.1[b]?=w.1[b]?
 os:w2.os=w.os
def rC(ρ:WN)(n s:Nat)(b:Nat):Nat:=if b<n then ρ b else s+(b-n)
def zP(Y:Sy)(F:FuncId->Prop)(E:WK->WA->Prop)(C:List WK)(s:LS)(ρ:WN)(g:WC)(w:WA):Prop:=
 nH (Y.at ρ s.2.2.1.size) F C g w s.1 s.2.1 s.2.2/\pG Y.P [dX Y.P] E s
section
variable{Y:Sy}{F:FuncId->Prop}{E:WK->WA->Prop}{C:List WK}{s:LS}{ρ:WN}{g:WC}{w w2:WA}
theorem zP.step(G:∀ρ N,(∀b,b<Y.G->ρ b=b)->(∀b c,ρ b=ρ c->b=c)->Y.G<=N->Pc (Y.at ρ N) F)(h:zP Y F E C s ρ g w)(ho:¬Out s.1 s.2.1)(main:Bool):
  ∃g1 w1 es s1,stepG Y.P main g w=.go g1 w1 es/\LLt Y.P [dX Y.P] s1 s/\zP Y F E C s1 ρ g1 w1/\s.2.2.1.size<=s1.2.2.1.size/\fY (Y.at ρ s1.2.2.1.size) w w1/\∀e∈es,(Y.at ρ s1.2.2.1.size).Ok e:=by
 obtain⟨h,hw⟩:=h;obtain⟨_,xG⟩:=hw.open;obtain⟨eH,hnx⟩:=xG ho;obtain⟨N,hN,t,D,hD,hx⟩:=h.step (B:=[dX Y.P]) (main:=main) (λN hN=>G ρ N h.wr.idG h.wr.inj (kH h.wr.gn (kH h.wr.nN hN))) ho;rcases hx with hx|⟨fr1,qQ,fQ,g1,w1,es,q1,q2,q3,q4,q5,q6⟩
 .exact absurd ⟨t,D,λt' ht=>hx t' ht⟩ eH
 .have dH:LGo Y.P [dX Y.P] s (fr1,qQ,fQ):=⟨by simp only[q1];exact hD,t,λt' ht=>q2 t' (by simp only[q1]at ht;exact ht)⟩;have ht:fQ.1.size=N:=q4.tight;refine⟨g1,w1,es,(fr1,qQ,fQ),q3,⟨ho,dH⟩,⟨?_,hnx _ dH⟩,?_,?_,?_⟩
  .simp only[ht];exact q4
  .simp only[ht];exact hN
  .simp only[ht];exact q5
  .simp only[ht];exact q6
theorem zP.others(h:zP Y F E C s ρ g w)(o:Oth Y ρ s.2.2.1.size w w2):zP Y F E C s (rC ρ s.2.2.1.size w2.1.size) g w2:=by
 obtain⟨h,hw⟩:=h;refine⟨?_,hw⟩;obtain⟨fr,cs,w'⟩:=s;simp only at h o⊢;have wr:=h.wr;have hN:(Y.at ρ w'.1.size).N=w'.1.size:=rfl;have gn0:Y.G<=w'.1.size:=wr.gn;have re:∀b,(Y.at ρ w'.1.size).SO b->ρ b=rC ρ w'.1.size w2.1.size b:=λb hb=>by have hlt:b<w'.1.size:=hb.elim (λh=>h.1) λh=>kC (wr.oG b h) gn0;unfold rC;exact(kK hlt).symm
 have up:∀b,w'.1.size<=b->rC ρ w'.1.size w2.1.size b=w2.1.size+(b-w'.1.size):=λb hb=>by unfold rC;rw[kJ od]
 have lo:∀b,b<w'.1.size->rC ρ w'.1.size w2.1.size b=ρ b:=λb hb=>by unfold rC;rw[kK hb]
 have hlt:∀b,b<w'.1.size->ρ b<w.1.size:=wr.lt;have hsz:=o.size;have gn:Y.G<=w'.1.size:=wr.gn;have S':∀b,(Y.at ρ w'.1.size).S b->(Y.at (rC ρ w'.1.size w2.1.size) w'.1.size).S b:=λ_ hb=>hb;have fr':∀f,dD (Y.at ρ w'.1.size) F f->dD (Y.at (rC ρ w'.1.size w2.1.size) w'.1.size) F f:=λf hf=>dD.re (Y:=Y.at ρ w'.1.size) (ρ:=rC ρ w'.1.size w2.1.size) (N:=w'.1.size) S' hf;refine⟨rfl,⟨λb hb=>?_,λb c hbc=>?_,gn,kG _,λb hb=>?_,λi=>?_,λb hb=>?_,λb hb=>?_,λb ob hob=>?_,?_,wr.oG⟩,?_,fr' _ h.top,λc hc=>fr' _ (h.low c hc),h.last⟩
 .show rC ρ w'.1.size w2.1.size b=b;rw[lo b (kC hb gn)];exact wr.idG b hb
 .show b=c;have hbc:rC ρ w'.1.size w2.1.size b=rC ρ w'.1.size w2.1.size c:=hbc;rcases jB b w'.1.size with h1|h1<;>rcases jB c w'.1.size with h2|h2
  .rw[lo b h1,lo c h2]at hbc;exact wr.inj _ _ hbc
  .rw[lo b h1,up c h2]at hbc;have:=hlt b h1;omega
  .rw[up b h1,lo c h2]at hbc;have:=hlt c h2;omega
  .rw[up b h1,up c h2]at hbc;omega
 .show rC ρ w'.1.size w2.1.size b<_;rw[lo b hb];have:=hlt b hb;omega
 .show rC ρ w'.1.size w2.1.size _=_;rw[up _ od];omega
 .rcases wr.ro b hb with⟨k0,c,e,hi,e2,e3,hK⟩|⟨k0,k1,c,e,c0,e0,k2,k3,k4⟩;rotate_left
  .exact .inr ⟨k0,k1,c,e,c0,e0,k2,(o.ro b hb).trans k3,k4⟩
  refine .inl ⟨k0,c,e,hi,e2,e3,λhk=>?_⟩;obtain⟨k1,k2,f,k3,k4⟩:=hK hk;have hsc:∀v∈c,Sc (Y.at ρ w'.1.size).S Y.Q v:=wr.scC e2;refine⟨k1,λv hv=>⟨?_,(k2 v hv).2⟩,f,(o.ro b hb).trans k3,k4⟩
  .show rV (rC ρ w'.1.size w2.1.size) v=v;rw[<-xZ (ρ:=ρ) re (hsc v hv)];exact(k2 v hv).1
 .show w2.1[rC ρ w'.1.size w2.1.size b]?=w'.1[b]?.map (rO (rC ρ w'.1.size w2.1.size));rcases jB b w'.1.size with h1|h1
  .rw[lo b h1,o.own b hb h1];have:=wr.own b hb;show w.1[ρ b]?=_;have this:w.1[ρ b]?=w'.1[b]?.map (rO ρ):=this;rw[this]
   cases ho:w'.1[b]? with
   |none=>rfl
   |some ob=>
    simp only[AH]
    rw[bI3 (C:=Y.C) re (wr.scG hb ho)]
  .rw[up b h1,Array.getElem?_eq_none od,Array.getElem?_eq_none od];rfl
 .exact(wr.sc b ob hob).imp id λx=>ScO.mono (Q:=Y.Q) (C:=Y.C) S' x
 .exact o.os.trans wr.os
 .rw[h.eq];have e1:bC ρ fr=bC (rC ρ w'.1.size w2.1.size) fr:=aUw re h.top;have e2:cs.map (bC ρ)=cs.map (bC (rC ρ w'.1.size w2.1.size)):=List.map_congr_left λc hc=>aUw re (h.low c hc);show gr (bC ρ fr) (cs.map (bC ρ)++C)=gr (bC (rC ρ w'.1.size w2.1.size) fr) (cs.map (bC (rC ρ w'.1.size w2.1.size))++C);rw[e1,e2]
end
end
section
theorem H9{ρ:WN}{S:Nat->Prop}{Q:Qs}(h:∀b,S b\/Q.o b->ρ b=b):∀{v:WB},Sc S Q v->rV ρ v=v
 |.pointer a,hv=>by
  simp only[Sc]at hv
  cases a with
  |none=>simp[rV]
  |some a=>obtain⟨b,o,p⟩:=a;simp[rV,rA,h _ (hv _ rfl)]
 |.slice a _ _,hv=>by
  simp only[Sc]at hv
  cases a with
  |none=>simp[rV]
  |some a=>obtain⟨b,o,p⟩:=a;simp[rV,rA,h _ (hv _ rfl)]
 |.map r,hv=>by
  simp only[Sc]at hv
  cases r with
  |none=>simp[rV]
  |some a=>simp[rV,h _ (.inl (hv a rfl))]
 |.chan r,hv=>by
  simp only[Sc]at hv
  cases r with
  |none=>simp[rV]
  |some a=>simp[rV,h _ (.inl (hv a rfl))]
 |.func fn first cap,hv=>by
  simp only[Sc]at hv
  have h1:first.map (rV ρ)=first:=by
   conv=>rhs;rw[<-Array.map_id first]
   exact AP λv hm=>H9 h (hv.2.1 v hm)
  have h2:cap.map (rV ρ)=cap:=by
   conv=>rhs;rw[<-Array.map_id cap]
   exact AP λv hm=>H9 h (hv.2.2 v hm)
  simp only[rV]
  rw[h1,h2]
  cases fn<;>simp only[rF]
  rw[h _ (.inl (hv.1.2 _ rfl))]
 |.iface _ v,hv=>by
  simp only[Sc]at hv
  simp only[rV]
  rw[H9 h hv]
 |.agg cs,hv=>by
  simp only[Sc]at hv
  have h1:cs.map (rV ρ)=cs:=by
   conv=>rhs;rw[<-Array.map_id cs]
   exact AP λv hm=>H9 h (hv v hm)
  simp only[rV]
  rw[h1]
 |.tuple cs,hv=>by
  simp only[Sc]at hv
  have h1:cs.map (rV ρ)=cs:=by
   conv=>rhs;rw[<-Array.map_id cs]
   exact AP λv hm=>H9 h (hv v hm)
  simp only[rV]
  rw[h1]
 |.bool _,_|.int _ _,_|.float _ _,_|.complex _ _ _,_|.string _,_|.nilFunc,_|.nilIface,_=>by simp[rV]
structure aWf(Y:Sy)(w0:WA):Prop where
 size:w0.1.size=Y.G
 row:∀b,b<Y.G->¬Y.Q.o b->∃c e hi,w0.1[b]?=some (.cells c e (0,hi))/\c.size<hi/\(Y.K b->c.size=Y.rs b/\∀v∈c,C9 v)/\∀v∈c,Sc (λx=>x<Y.G/\Y.K x) Y.Q v
 pend:∀b,Y.Q.o b->b<Y.G/\¬Y.K b/\∃c e,w0.1[b]?=some (.pending c e)/\c.size≠0
structure aRm(Y:Sy)(w0 w:WA):Prop where
 k:∀b,b<Y.G->Y.K b->∃c e hi f,w0.1[b]?=some (.cells c e (0,hi))/\w.1[b]?=some (.cells c e f)/\f.2<=hi
 o:∀b,Y.Q.o b->∃c e c0 e0,w0.1[b]?=some (.pending c e)/\w.1[b]?=some (.cells c0 e0 (0,0))/\c.size=c0.size
section
variable{Y:Sy}{F:FuncId->Prop}{E:WK->WA->Prop}{C:List WK}{w w0:WA}
theorem zP.start(G:∀ρ N,(∀b,b<Y.G->ρ b=b)->(∀b c,ρ b=ρ c->b=c)->Y.G<=N->Pc (Y.at ρ N) F)(hz:aWf Y w0)(hh:aRm Y w0 w)(hs:Y.G<=w.1.size)(ho:w.os=w0.os){f:FuncId}(hf:F f){args:Array WB}(ha:∀v∈args,Sc Z0 Q0 v)(hw:pG Y.P [dX Y.P] E (Frame.enter Y.P f args .normal,[],w0)):
  zP Y F E C (Frame.enter Y.P f args .normal,[],w0) (rC id Y.G w.1.size) (gr (Frame.enter Y.P f args .normal) C) w:=by
 have lo:∀b,b<Y.G->rC id Y.G w.1.size b=b:=λb hb=>by unfold rC;exact kK hb
 have up:∀b,Y.G<=b->rC id Y.G w.1.size b=w.1.size+(b-Y.G):=λb hb=>by unfold rC;exact kJ od
 have hS:∀x,(x<Y.G/\Y.K x)->(Y.at (rC id Y.G w.1.size) w0.1.size).S x:=λx hx=>⟨by show x<w0.1.size;rw[hz.size];exact hx.1,λ_=>hx.2⟩;have aT1:∀b c,rC id Y.G w.1.size b=rC id Y.G w.1.size c->b=c:=λb c hbc=>by
  rcases jB b Y.G with h1|h1<;>rcases jB c Y.G with h2|h2
  .rwa [lo b h1,lo c h2]at hbc
  .rw[lo b h1,up c h2]at hbc;omega
  .rw[up b h1,lo c h2]at hbc;omega
  .rw[up b h1,up c h2]at hbc;omega
 have hG:=G (rC id Y.G w.1.size) w0.1.size lo aT1 (by rw[hz.size];exact kG _);refine⟨⟨rfl,⟨lo,aT1,by show Y.G<=_;rw[hz.size];exact kG _,kG _,λb hb=>?_,λi=>?_,λb hb=>?_,λb hb=>?_,λb ob hob=>?_,ho,λb hb=>(hz.pend b hb).1⟩,?_,dD.enter hG hf (λv hv=>(ha v hv).any) (.inl rfl),oe,?_⟩,hw⟩
 .have hb:b<Y.G:=by have hb:b<w0.1.size:=hb;rwa [hz.size]at hb
  show rC id Y.G w.1.size b<_;rw[lo b hb];omega
 .show rC id Y.G w.1.size (w0.1.size+i)=_;rw[hz.size,up _ od];omega
 .have hb:b<Y.G:=hb;rcases Classical.em (Y.Q.o b)with hq|hq
  .obtain⟨_,p1,c,e,p2,p3⟩:=hz.pend b hq;obtain⟨c',e',c0,e0,q1,q2,q3⟩:=hh.o b hq;rw[p2]at q1;cases q1;exact .inr ⟨hq,p1,c,e,c0,e0,p2,q2,q3,by rw[<-q3];exact p3⟩
  obtain⟨c,e,hi,h1,h2,h3,h4⟩:=hz.row b hb hq;refine .inl ⟨hq,c,e,hi,h1,h2,λhk=>⟨(h3 hk).1,λv hv=>⟨H9 (λx hx=>lo x (hx.elim (·.1) λh=>(hz.pend x h).1)) (h4 v hv),(h3 hk).2 v hv⟩,?_⟩⟩;obtain⟨c',e',dN,f,k1,k2,k3⟩:=hh.k b hb hk;have k1:w0.1[b]?=some (.cells c' e' (0,dN)):=k1;rw[h1]at k1;cases k1;exact⟨f,k2,k3⟩
 .have hb:Y.G<=b:=hb;show w.1[rC id Y.G w.1.size b]?=w0.1[b]?.map _;rw[up b hb,Array.getElem?_eq_none od,Array.getElem?_eq_none (by rw[hz.size];omega)];rfl
 .have hlt:b<Y.G:=by have:=(kZ hob).1;have this:b<w0.1.size:=this;rwa [hz.size]at this
  refine Classical.or_iff_not_imp_left.2 λhq=>?_;obtain⟨c,e,hi,h1,_,_,h4⟩:=hz.row b hlt hq;have hob:w0.1[b]?=some ob:=hob;rw[h1]at hob;cases hob;exact λv hv=>(h4 v hv).mono hS
 .show gr _ _=gr (bC _ _) _;rw[aDz];have:args.map (rV (Y.at (rC id Y.G w.1.size) w0.1.size).ρ)=args:=by
   conv=>rhs;rw[<-Array.map_id args]
   exact AP λv hv=>aAk (ha v hv)
  rw[this];rfl
 .intro c hc;simp at hc;subst hc;exact⟨rfl,rfl⟩
theorem aHi{P:WJ}{fr c:WK}{l:List WK}{fn:Func}{k:Nat}(hm:fr.mode=.returning)(hd:fr.defers=[])(hk:fr.kind=.normal)(hf:P.funcs[fr.fn]?=some fn)(hr:fn.results=#[.tmp k])(main:Bool)(w:WA):stepG P main (gr fr (c::l)) w=.go (gr (c.finish (fr.tmps.getD k undef)) l) w #[]:=by
 have e:∀es,(results fn fr.tmps).runT P w es=(.ok (fr.tmps.getD k undef) w,es):=λes=>by rw[results,hr,Array.mapM_eq_mapM_toList];rfl
 rw[iH (by rw[hm];simp),unwind.eq_def,hd,hm];simp only[hf,e];simp[doReturn,hk,GStep.after,gr,seen]
end
end
section
section
variable{α:Type}(r:α->α->Prop)
def aMc(n:Nat)(f' f:Nat->α):Prop:=∃i,i<n/\r (f' i) (f i)/\∀j,j≠i->f' j=f j
variable{r}
theorem H5(wf:∀x,Acc r x):∀(n:Nat)(f:Nat->α),Acc (aMc r n) f
 |0,f=>Acc.intro f λf' ⟨i,hi,_⟩=>absurd hi od
 |n+1,f=>by
  have key:∀x,Acc r x->∀g:Nat->α,Acc (aMc r n) g->g n=x->Acc (aMc r (n+1)) g:=by
   intro x hx
   induction hx with
   |intro x _ ihx=>
    intro g hg
    induction hg with
    |intro g oH ihg=>
     intro e
     refine Acc.intro g λg' hg2=>?_
     obtain⟨i,hi,hr,hs⟩:=hg2
     rcases jB i n with h|h
     .exact ihg g' ⟨i,h,hr,hs⟩ ((hs n od).trans e)
     .obtain rfl:i=n:=by omega
      exact ihx (g' i) (e▸hr) g' (H5 wf _ g') rfl
  exact key (f n) (wf _) f (H5 wf n f) rfl
end
def WL(P:WJ):Type:={ s:LS//Acc (LLt P [dX P]) s }
def WLt{P:WJ}(a b:WL P):Prop:=LLt P [dX P] a.1 b.1
theorem WLt.acc{P:WJ}(x:WL P):Acc (WLt (P:=P)) x:=by
 obtain⟨s,hs⟩:=x
 induction hs with
 |intro s h ih=>exact Acc.intro _ λy hy=>ih y.1 hy
def MLt{P:WJ}(n:Nat):(Nat×(Nat->WL P)×Nat)->(Nat×(Nat->WL P)×Nat)->Prop:=λa b=>a.1<b.1\/a.1=b.1/\(aMc WLt n a.2.1 b.2.1\/a.2.1=b.2.1/\a.2.2<b.2.2)
theorem MLt.wf{P:WJ}(n:Nat):WellFounded (MLt (P:=P) n):=by
 refine⟨λ⟨a,f,b⟩=>?_⟩
 induction a using Nat.strongRecOn generalizing f b with
 |ind a iha=>
  have:=H5 (WLt.acc (P:=P)) n f
  induction this generalizing b with
  |intro f _ ihf=>
   induction b using Nat.strongRecOn with
   |ind b ihb=>
    refine Acc.intro _ λ⟨a',f',b'⟩ h=>?_
    rcases h with h|⟨rfl,h|⟨rfl,h⟩⟩
    .exact iha a' h f' b'
    .exact ihf f' h b'
    .exact ihb b' h
end
def rR(i:TypeInfo):Prop:=∀v,i.zero=some v->Sc Z0 Q0 v
theorem aC5{v:WB}(h:Sc Z0 Q0 v):∀x∈v.cells,Sc Z0 Q0 x:=tP h
theorem aX8{X σ:Type}{f:X->σ->Option (ForInStep σ)}(I:σ->Prop)(hf:∀x s r,I s->f x s=some r->I (match r with|.done a=>a|.yield a=>a)):∀(l:List X)(s s1:σ),I s->forIn l s f=some s1->I s1:=by
 intro l
 induction l with
 |nil=>intro s s1 hi h;simp at h;exact h▸hi
 |cons x l ih=>
  intro s s1 hi h
  rw[List.forIn_cons]at h
  cases hx:f x s with
  |none=>rw[hx]at h;cases h
  |some r=>
   rw[hx]at h
   have:=hf x s r hi hx
   cases r with
   |done a=>simp at h;exact h▸this
   |yield a=>exact ih a s1 this (by simpa using h)
theorem S4{info:WI->Option TypeInfo}(hz:∀t i,info t=some i->rR i){fs:Array Field}{i:TypeInfo}(h:Made.reckonStruct info fs=some i):i.methods=#[]/\rR i:=by
 unfold Made.reckonStruct at h;simp only[Option.bind_eq_bind,Option.bind_eq_some_iff]at h;obtain⟨s,h1,h2⟩:=h;rw[<-Array.forIn_toList]at h1;have key:=aX8 (λs=>∀c,s.2.2.2.2.2.2.2.1=some c->∀v∈c,Sc Z0 Q0 v) ?_ _ _ _ ?_ h1
 .split at h2<;>(simp only[Option.pure_def,AI]at h2;subst h2;refine⟨rfl,λv hv=>?_⟩)<;>
  .simp only[Option.map_eq_some_iff]at hv;obtain⟨c,hc,rfl⟩:=hv;simp only[Sc];exact key c hc
 .intro x s r hI h;have bFz:∀{i:TypeInfo}{c:Array WB},info x.type=some i->(s.2.2.2.2.2.2.2.1.bind λa=>i.zero.bind λb=>some (a++b.cells))=some c->∀v∈c,Sc Z0 Q0 v:=by
   intro i c hi hc;simp only[Option.bind_eq_some_iff,AI]at hc;obtain⟨a,ha,b,hb,rfl⟩:=hc;intro v hv;rcases Array.mem_append.1 hv with hv|hv
   .exact hI a ha v hv
   .exact aC5 (hz _ _ hi b hb) v hv
  cases hi:info x.type with
  |none=>rw[hi]at h;cases h
  |some i=>
   rw[hi]at h
   simp only[Option.bind_some]at h
   repeat' split at h
   all_goals(try(simp only[Option.bind_none,Option.bind_some,Option.bind_eq_some_iff,Option.pure_def,AI,reduceCtorEq]at h))
   all_goals first
    |(subst h;intro c hc;first|cases hc|exact bFz hi hc)
    |(obtain⟨_,_,h⟩:=h;subst h;intro c hc;first|(cases hc;done)|exact bFz hi hc)
 .intro c hc;cases hc;simp
theorem aNp{d:TypeDesc}{str:String}{z:WB}{c:Bool}{n:Nat}(hz:Sc Z0 Q0 z):(Made.word d str z c n).methods=#[]/\rR (Made.word d str z c n):=⟨rfl,λv hv=>by cases hv;exact hz⟩
theorem aQh{info:WI->Option TypeInfo}(hz:∀t i,info t=some i->rR i){d:TypeDesc}{i:TypeInfo}(h:Made.reckon info d=some i):i.methods=#[]/\rR i:=by
 unfold Made.reckon at h;cases d;case pointer e=>
  simp only[Option.bind_eq_bind,Option.bind_eq_some_iff]at h;obtain⟨x,hx,h⟩:=h;repeat' split at h
  all_goals(try(cases h;done))
  all_goals
   simp only[Option.bind_eq_some_iff,Option.pure_def,AI]at h
   obtain⟨_,_,rfl⟩:=h
   exact aNp jd
 case slice e=>exact zCv
 case map k e=>exact zLj
 case chan dir e=>exact zCv
 case func ps rs v=>exact zJt
 case array n e=>
  simp only[Option.bind_eq_bind,Option.bind_eq_some_iff,Option.pure_def,AI]at h;obtain⟨x,hx,_,_,rfl⟩:=h;refine⟨rfl,λv hv=>?_⟩;simp only at hv;split at hv
  .cases hv
  .split at hv
   .cases hv;simp[Sc]
   .simp only[Option.map_eq_some_iff]at hv;obtain⟨z,hzz,rfl⟩:=hv;simp only[Sc];intro u hu;simp only[Array.mem_flatten,Array.mem_replicate]at hu;obtain⟨l,⟨_,rfl⟩,hu⟩:=hu;exact aC5 (hz _ _ hx z hzz) u hu
 case struct fs=>exact S4 hz h
 all_goals cases h
theorem aCi(T:Tables)(hT:∀i∈T.types,rR i):∀(n:Nat)(t:WI)(i:TypeInfo),Made.infoAt T n t=some i->(i∈T.types\/i.methods=#[])/\rR i
 |0,_,_,h=>by cases h
 |n+1,t,i,h=>by
  simp only[Made.infoAt]at h;split at h
  .have:=AS h;exact⟨.inl this,hT i this⟩
  .simp only[Option.bind_eq_some_iff]at h;obtain⟨d,_,h⟩:=h;have:=aQh (λt i hi=>(aCi T hT n t i hi).2) h;exact⟨.inr this.1,this.2⟩
theorem aMv(T:Tables)(hT:∀i∈T.types,rR i){t:WI}{i:TypeInfo}(h:T.info? t=some i):(i∈T.types\/i.methods=#[])/\rR i:=by
 unfold Tables.info? at h;split at h
 .have:=AS h;exact⟨.inl this,hT i this⟩
 .exact aCi T hT _ t i h
section
def vQ:Nat->WB->Bool
 |_,.bool _|_,.int _ _|_,.float _ _|_,.complex _ _ _|_,.string _|_,.nilFunc|_,.nilIface=>true
 |_,.pointer a=>a.isNone
 |_,.slice a _ _=>a.isNone
 |_,.map a=>a.isNone
 |_,.chan a=>a.isNone
 |n+1,.iface _ v=>vQ n v
 |n+1,.agg c=>c.all (vQ n)
 |n+1,.tuple c=>c.all (vQ n)
 |_,_=>false
theorem q9:∀{n:Nat}{v:WB},vQ n v=true->Sc Z0 Q0 v
 |n,.pointer a,h=>by cases a<;>simp[vQ]at h;simp[Sc]
 |n,.slice a _ _,h=>by cases a<;>simp[vQ]at h;simp[Sc]
 |n,.map a,h=>by cases a<;>simp[vQ]at h;simp[Sc]
 |n,.chan a,h=>by cases a<;>simp[vQ]at h;simp[Sc]
 |n,.func _ _ _,h=>by cases n<;>simp[vQ]at h
 |0,.iface _ v,h=>by simp[vQ]at h
 |n+1,.iface _ v,h=>by simp only[vQ]at h;simp only[Sc];exact q9 h
 |0,.agg c,h=>by simp[vQ]at h
 |n+1,.agg c,h=>by
  simp only[vQ,Array.all_eq_true']at h
  simp only[Sc]
  exact λv hv=>q9 (h v hv)
 |0,.tuple c,h=>by simp[vQ]at h
 |n+1,.tuple c,h=>by
  simp only[vQ,Array.all_eq_true']at h
  simp only[Sc]
  exact λv hv=>q9 (h v hv)
 |n,.bool _,_|n,.int _ _,_|n,.float _ _,_|n,.complex _ _ _,_|n,.string _,_|n,.nilFunc,_|n,.nilIface,_=>by simp[Sc]
section
variable(P:WJ)(kB fB:Nat->Bool)(mB:String->Bool)
def aYf:Operand->Bool
 |.tmp _=>true
 |.const v=>vQ 8 v
 |.global g=>kB g
 |.func f=>fB f
def bEd(c:Call):Bool:=
 match c.callee with
 |.value _=>true
 |.invoke _ n=>mB n
 |.builtin b=>aMh P b c.argTypes c.args.size
def opB(o:Op):Bool:=
 o.operands.all (aYf kB fB)&&
 match o with
 |.move _|.assign _|.pick .. |.alloc _|.box .. |.build .. |.buildSlice .. |.load .. |.store .. |.nilCheck _|.binOp .. |.unOp .. |.makeInterface .. |.makeMap .. |.makeSlice .. |.slice .. |.fieldAddr .. |.indexAddr .. |.index .. |.lookup .. |.mapUpdate .. |.insert .. |.typeAssert .. |.extract .. |.panic _=>true
 |.makeFunc (.func f) _ _=>fB f
 |.convert s d _=>aDv P s d
 |.range t _=>(match P.underlying t with|some .string=>true|_=>false)
 |.next _ b=>b
 |.call c=>bEd P mB c
 |.defer c=>(match c.callee with|.value _=>true|_=>false)
 |_=>false
def mW:Bool->Code->Bool
 |r,.region _ cZ _=>cZ.all λo=>opB P kB fB mB o.op&&(r||inRound o.op)
 |r,.seq a b=>mW r a&&mW r b
 |r,.cond c a b=>aYf kB fB c&&mW r a&&mW r b
 |r,.block _ b=>mW r b
 |r,.loop b=>mW r b
 |r,.scope b=>mW r b
 |_,.rangeFunc f _ a b=>aYf kB fB f&&mW false a&&mW false b
 |_,_=>true
def aU4(n:String):Bool:=P.types.all λi=>i.methods.all λm=>!(m.name==n)||(match m.func with|some (f,_)=>fB f|none=>true)
def aIw:Bool:=P.types.all λi=>match i.zero with|some v=>vQ 8 v|none=>true
end
section
variable{Y:Sy}{F:FuncId->Prop}{kB fB:Nat->Bool}{mB:String->Bool}
structure aWh(Y:Sy)(F:FuncId->Prop)(kB fB:Nat->Bool)(mB:String->Bool):Prop where
 k:∀g,kB g=true->(g<Y.G/\Y.K g)\/Y.Q.o g
 f:∀f,fB f=true->F f
 q:∀f,fB f=true->Y.Q.f (.func f)
 m:∀n,mB n=true->X2 Y.P F n
theorem aEs(M:aWh Y F kB fB mB){x:Operand}(h:aYf kB fB x=true):sP Y x:=by
 cases x with
 |tmp t=>trivial
 |const v=>exact q9 h
 |global g=>
  exact M.k g h
 |func f=>exact M.q f h
theorem bCp(M:aWh Y F kB fB mB){o:Op}(h:opB Y.P kB fB mB o=true):aJ5 Y F o:=by
 unfold opB at h;rw[AK,Array.all_eq_true']at h;refine⟨λx hx=>aEs M (h.1 x hx),?_⟩;have h2:=h.2;cases o<;>first|trivial|(exact absurd h2 Bool.noConfusion)|exact h2|skip
 case makeFunc fn a b=>cases fn<;>first|exact absurd h2 Bool.noConfusion|exact⟨M.q _ h2,λl=>Fn.noConfusion⟩
 case range t x=>
  simp only at h2⊢;split at h2
  .assumption
  .cases h2
 case call c=>
  obtain⟨callee,args,ts⟩:=c;cases callee
  .trivial
  .exact M.m _ h2
  .exact h2
 case defer c=>obtain⟨callee,args,ts⟩:=c;cases callee<;>first|exact⟨_,rfl⟩|exact absurd h2 Bool.noConfusion
theorem lO(M:aWh Y F kB fB mB):∀{r:Bool}{c:Code},mW Y.P kB fB mB r c=true->aY Y F r c
 |r,.region _ cZ _,h=>λo ho=>by
  simp only[mW,Array.all_eq_true',AK,Bool.or_eq_true]at h
  exact⟨bCp M (h o ho).1,(h o ho).2⟩
 |r,.seq a b,h=>by simp only[mW,AK]at h;exact⟨lO M h.1,lO M h.2⟩
 |r,.cond c a b,h=>by simp only[mW,AK]at h;exact⟨aEs M h.1.1,lO M h.1.2,lO M h.2⟩
 |r,.block _ b,h=>by simp only[mW]at h;exact lO (c:=b) M h
 |r,.loop b,h=>by simp only[mW]at h;exact lO (c:=b) M h
 |r,.scope b,h=>by simp only[mW]at h;exact lO (c:=b) M h
 |_,.rangeFunc f _ a b,h=>by simp only[mW,AK]at h;exact⟨aEs M h.1.1,lO M h.1.2,lO M h.2⟩
 |_,.skip,_=>trivial
 |_,.exit _,_=>trivial
 |_,.goto _,_=>trivial
 |_,.label _,_=>trivial
 |_,.ret,_=>trivial
 |_,.refuse _,_=>trivial
theorem aIx{P:WJ}(h:aIw P=true):∀i∈P.types,rR i:=by intro i hi v hv;simp only[aIw,Array.all_eq_true']at h;have:=h i hi;rw[hv]at this;exact q9 this
theorem aWc{P:WJ}(h:aIw P=true):Zs P:=λ_ _ v hi hv=>(aMv P.toTables (aIx h) hi).2 v hv
theorem aU5{P:WJ}{n:String}(hz:aIw P=true)(hf:∀f,fB f=true->F f)(h:aU4 P fB n=true):X2 P F n:=by
 intro t i m f b hi hm hn hf';rcases(aMv P.toTables (aIx hz) hi).1 with hi|hi
 .simp only[aU4,Array.all_eq_true',Bool.or_eq_true,Bool.not_eq_true']at h;rcases h i hi m hm with q|q
  .rw[hn]at q;simp at q
  .rw[hf']at q;exact hf f q
 .rw[hi]at hm;simp at hm
end
end
def fB(f:Nat):Bool:=f==6||(decide (11<=f)&&decide (f<=17))||(decide (36<=f)&&decide (f<=66))||(decide (72<=f)&&decide (f<=232))||f==246||f==247||f==256||f==259||f==262||f==264||f==266||f==267
def FS(f:FuncId):Prop:=fB f=true
def QS(fn:Fn):Prop:=(∃f,fn=.func f/\FS f)\/∃l,fn=.yield l
def kS(b:Nat):Prop:=b=1\/b=2\/b=3\/b=4\/b=7
def oS(b:Nat):Prop:=b=0\/b=5\/b=6
theorem aMx{b:Nat}(h:kS b):b<=7:=by unfold kS at h;omega
theorem bHg{b:Nat}(h:oS b):b<7:=by unfold oS at h;omega
theorem bHf{b:Nat}(h:oS b):¬kS b:=by unfold oS at h;unfold kS;omega
theorem aZn{b:Nat}(h:b<=7):kS b\/oS b:=by unfold kS oS;omega
def kB(b:Nat):Bool:=decide (b<=7)
theorem bFt:Late prog:=by
 refine⟨oh,λg=>?_⟩;have h:(Tryz.prog.funcs.all λf=>(f.body.map readies).all (·.isEmpty))=true:=oh;unfold Program.stepOf;rw[Array.findIdx?_eq_none_iff];intro f hf;have:=Array.all_eq_true'.1 h f hf
 cases hb:f.body.map readies with
 |none=>rfl
 |some l=>
  rw[hb]at this
  simp only[Option.all_some,List.isEmpty_iff]at this
  subst this
  rfl
def mB(n:String):Bool:=["AssignableTo","As","Unwrap","Kind","Elem","Implements"].contains n
theorem bAa:aIw prog=true:=oh
theorem bHa:["AssignableTo","As","Unwrap","Kind","Elem","Implements"].all (aU4 prog fB)=true:=oh
def aG3(P:WJ)(f:Nat):Bool:=!fB f||match (P.funcs[f]?).bind (·.body)with|some c=>mW P kB fB mB true c|none=>true
theorem bE6:(List.range 100).all (aG3 prog)=true:=oh
theorem bE7:((List.range 100).map (·+100)).all (aG3 prog)=true:=oh
theorem bE8:((List.range 100).map (·+200)).all (aG3 prog)=true:=oh
section
variable{f:Nat}{fn:Func}
def aKl:List Nat:=[162,206,195,96,218,264,216,267,266,217,246,186,256,247,185,184]
theorem aYd:(List.range Tryz.prog.funcs.size).all (λf=>!fB f||((Tryz.prog.funcs[f]?).bind (·.body)).isSome||aKl.contains f)=true:=oh
theorem bLy:(List.range Tryz.prog.funcs.size).all (λf=>!fB f||((Tryz.prog.funcs[f]?).map λfn=>!(fn.name== "runtime.NumGoroutine")).getD true)=true:=oh
theorem yS(h:Tryz.prog.funcs[f]?=some fn):f<Tryz.prog.funcs.size:=(kZ h).1
theorem aPw(hf:fB f=true)(h:Tryz.prog.funcs[f]?=some fn)(hb:fn.body=none):f∈aKl:=by have:=List.all_eq_true.1 aYd f (List.mem_range.2 (yS h));rw[hf,h]at this;simpa[hb]using this
theorem bCm(hf:fB f=true)(h:Tryz.prog.funcs[f]?=some fn):(fn.name== "runtime.NumGoroutine")=false:=by have:=List.all_eq_true.1 bLy f (List.mem_range.2 (yS h));rw[hf,h]at this;exact zCk
theorem aWr{c:Code}(hf:fB f=true)(h:Tryz.prog.funcs[f]?=some fn)(hb:fn.body=some c):mW prog kB fB mB true c=true:=by
 have hlt:=yS h;have hs:Tryz.prog.funcs.size<=300:=of_decide_eq_true oh;have hB:(aG3 prog) f=true:=by
  rcases jB f 100 with h1|h1
  .exact List.all_eq_true.1 bE6 f (List.mem_range.2 h1)
  .rcases jB f 200 with h2|h2
   .exact List.all_eq_true.1 bE7 f (List.mem_map.2 ⟨f-100,List.mem_range.2 od,od⟩)
   .exact List.all_eq_true.1 bE8 f (List.mem_map.2 ⟨f-200,List.mem_range.2 od,od⟩)
 unfold aG3 at hB;rw[hf,h]at hB;simpa[hb]using hB
section
variable{Y:Sy}
theorem bJ3(E:dB Y)(hn:∀g,Y.P.globals.findIdx? (·.name== "internal/bytealg.MaxLen")=some g->Y.SO g/\Y.ρ g=g)(hf:fB f=true)(h:Tryz.prog.funcs[f]?=some fn)(hb:fn.body=none):
  Extern.findNext fn=none/\((∃e,Extern.find fn=some e/\ExR Y e)\/(Extern.find fn=none/\(fn.name.endsWith ".init"&& !fn.name.startsWith "("&& !fn.name.startsWith "gosem.")=false)):=by
 have hm:=aPw hf h hb;simp only[aKl,List.mem_cons,List.not_mem_nil,or_false]at hm;rcases hm with rfl|rfl|rfl|rfl|rfl|rfl|rfl|rfl|rfl|rfl|rfl|rfl|rfl|rfl|rfl|rfl
 .obtain rfl:=kY (func162.symm.trans h);exact⟨oh,.inl ⟨Extern.BytealgIndex.index,oh,aX4 hn⟩⟩
 .obtain rfl:=kY (func206.symm.trans h);exact⟨oh,.inl ⟨Extern.BytealgIndexByte.indexByte,oh,aGj⟩⟩
 .obtain rfl:=kY (func195.symm.trans h);exact⟨oh,.inl ⟨Extern.BytealgMakeNoZero.makeNoZero f195.params f195.resultTypes,oh,E.makeNoZero _ _⟩⟩
 .obtain rfl:=kY (func96.symm.trans h);exact⟨oh,.inl ⟨Extern.AbiNoEscape.same,oh,bB6⟩⟩
 .obtain rfl:=kY (func218.symm.trans h);exact⟨oh,.inl ⟨Extern.ReflectliteValue.set,oh,E.bM9⟩⟩
 .obtain rfl:=kY (func264.symm.trans h);exact⟨oh,.inl ⟨Extern.ReflectliteType.relation "AssignableTo" Extern.ReflectliteType.assignableTo,oh,E.relation _ _ λt v=>bHy t v⟩⟩
 .obtain rfl:=kY (func216.symm.trans h);exact⟨oh,.inl ⟨Extern.ReflectliteType.typeOf,oh,E.typeOf⟩⟩
 .obtain rfl:=kY (func267.symm.trans h);exact⟨oh,.inl ⟨Extern.ReflectliteType.relation "Implements" Extern.ReflectliteType.implements_,oh,E.relation _ _ λt v=>bHz t v⟩⟩
 .obtain rfl:=kY (func266.symm.trans h);exact⟨oh,.inl ⟨Extern.ReflectliteType.method Extern.ReflectliteType.elem,oh,E.aVh _ λt=>E.bD7 t⟩⟩
 .obtain rfl:=kY (func217.symm.trans h);exact⟨oh,.inl ⟨Extern.ReflectliteValue.method (Extern.ReflectliteValue.valueError "reflectlite.Value.Elem" 0) Extern.ReflectliteValue.elem,oh,(E.U9 (jW _ _) λt a a' x y ha=>E.bIg t x y ha).1⟩⟩
 .obtain rfl:=kY (func246.symm.trans h);exact⟨oh,.inr ⟨oh,oh⟩⟩
 .obtain rfl:=kY (func186.symm.trans h);exact⟨oh,.inl ⟨Extern.ReflectliteValue.method (Extern.ReflectliteValue.valueError "reflectlite.Value.IsNil" 0) Extern.ReflectliteValue.isNil,oh,(E.U9 (jW _ _) λt a a' x y ha=>aYr t x y ha).1⟩⟩
 .obtain rfl:=kY (func256.symm.trans h);exact⟨oh,.inl ⟨Extern.ReflectliteValue.method (pure (.int .u8 0)) λ_ _ _ k=>pure (.int .u8 (Int.ofNat k)),oh,(E.U9 (z:=pure (.int .u8 0)) (RR.AG VR.int) (f:=λ_ _ _ k=>pure (.int .u8 (Int.ofNat k))) λt a a' x y ha=>RR.AG VR.int).1⟩⟩
 .obtain rfl:=kY (func247.symm.trans h);exact⟨oh,.inl ⟨Extern.ReflectliteType.abiMethod λt=>do pure (.int .u8 (<-Extern.Rtype.kind t)),oh,E.abiMethod _ λt=>aYs t⟩⟩
 .obtain rfl:=kY (func185.symm.trans h);exact⟨oh,.inl ⟨Extern.ReflectliteValue.methodAny (Extern.ReflectliteValue.valueError "reflectlite.Value.Type" 0) λt _ _ _=>Extern.ReflectliteType.toType t,oh,(E.U9 (jW _ _) λt a a' x y ha=>E.toType t).2⟩⟩
 .obtain rfl:=kY (func184.symm.trans h);exact⟨oh,.inl ⟨λargs=>Extern.ReflectliteValue.unpack (args.getD 0 (tU #[])),oh,λargs dV ha=>E.unpack (aAz ha 0)⟩⟩
end
theorem aY.tr{Y Z:Sy}{F:FuncId->Prop}(h1:∀o,aJ5 Y F o->aJ5 Z F o)(h2:∀x,sP Y x->sP Z x):∀(r:Bool)(c:Code),aY Y F r c->aY Z F r c
 |_,.region _ _ _,h=>λo ho=>⟨h1 _ (h o ho).1,(h o ho).2⟩
 |r,.seq a b,h=>⟨aY.tr h1 h2 r a h.1,aY.tr h1 h2 r b h.2⟩
 |r,.cond _ a b,h=>⟨h2 _ h.1,aY.tr h1 h2 r a h.2.1,aY.tr h1 h2 r b h.2.2⟩
 |r,.block _ b,h=>aY.tr h1 h2 r b h
 |r,.loop b,h=>aY.tr h1 h2 r b h
 |r,.scope b,h=>aY.tr h1 h2 r b h
 |_,.rangeFunc _ _ a b,h=>⟨h2 _ h.1,aY.tr h1 h2 false a h.2.1,aY.tr h1 h2 false b h.2.2⟩
 |_,.skip,_=>trivial
 |_,.exit _,_=>trivial
 |_,.goto _,_=>trivial
 |_,.label _,_=>trivial
 |_,.ret,_=>trivial
 |_,.refuse _,_=>trivial
def Y0(P:WJ)(G:Nat)(X:Nat->Prop)(rs:WN):Sy:={ P:=P,G,N:=0,ρ:=id,K:=kS,rs,Q:=⟨QS,λb=>oS b\/X b⟩,C:=λ_ _ _ _=>True }
def YS(P:WJ)(G:Nat)(X:Nat->Prop)(rs:WN):Sy:={ (Y0 P) G X rs with C:=λf a b p=>FS f/\aY ((Y0 P) G X rs) FS false a/\aY ((Y0 P) G X rs) FS false b/\∀c,p=some c->∀r,aY ((Y0 P) G X rs) FS r c }
theorem pcS{G:Nat}{X:Nat->Prop}{rs:WN}(hG:7<G)(ρ:WN)(N:Nat)(hid:∀b,b<G->ρ b=b)(aT1:∀b c,ρ b=ρ c->b=c)(hN:G<=N):Pc (((YS prog) G X rs).at ρ N) FS:=by
 have hs:Tryz.prog.globals.size=7:=oh;have tq:∀r c,aY (((YS prog) G X rs).at ρ N) FS r c->aY ((Y0 prog) G X rs) FS r c:=aY.tr (λo h=>h) (λx h=>h);have fro:∀r c,aY ((Y0 prog) G X rs) FS r c->aY (((YS prog) G X rs).at ρ N) FS r c:=aY.tr (λo h=>h) (λx h=>h);have hK:∀b,kS b->(((YS prog) G X rs).at ρ N).S b:=λb hb=>⟨Nat.lt_of_le_of_lt (aMx hb) (kC hG hN),λ_=>hb⟩;have hE:dB (((YS prog) G X rs).at ρ N):=by
  refine⟨aWc bAa,hK _ (by rw[show(((YS prog) G X rs).at ρ N).P.globals.size=7 from hs];simp[kS]),hid _ (by show Tryz.prog.globals.size<G;rw[hs];exact hG),aT1,λb=>?_⟩;show ρ b<Tryz.prog.globals.size↔b<Tryz.prog.globals.size;rw[hs];constructor
  .intro h;have:=aT1 _ _ (hid (ρ b) od);omega
  .intro h;rw[hid b od];exact h
 have hM:aWh (((YS prog) G X rs).at ρ N) FS kB fB mB:=by
  refine⟨λg h=>?_,λf h=>h,λf h=>.inl ⟨f,rfl,h⟩,λn h=>?_⟩
  .have h:g<=7:=of_decide_eq_true h;exact(aZn h).imp (λh2=>⟨Nat.lt_of_le_of_lt h hG,h2⟩) .inl
  .have:=List.all_eq_true.1 bHa n (by simpa[mB]using h);exact aU5 bAa (λf h=>h) this
 exact {
     en:=hE,late:=bFt,qf:=λfn h=>h,qy:=λl=>.inr ⟨l,rfl⟩
     ext:=λf fn hf h hb=>bJ3 hE (λg hg=>by
      have hlt:=(Array.findIdx?_eq_some_iff_findIdx_eq.1 hg).1
      have hlt:g<Tryz.prog.globals.size:=hlt
      rw[hs]at hlt
      exact⟨(aZn od).imp (hK g) .inl,hid g od⟩) hf h hb
     num:=λf fn hf h=>bCm hf h
     body:=λf fn c hf h hb=>lO hM (aWr hf h hb)
     aRy:=λf a b p h1 h2 h3 h4=>⟨h1,tq _ _ h2,tq _ _ h3,λc hc r=>tq _ _ (h4 c hc r)⟩
     cOf:=λf a b p h=>⟨h.1,fro _ _ h.2.1,fro _ _ h.2.2.1,λc hc r=>fro _ _ (h.2.2.2 c hc r)⟩ }
end
