import Derived.Test.YtnbomhedoelklaaGreatDoorZW0
import Derived.Conc.LeavingOf
import Derived.Conc.Own2
namespace Go.Proofs.YtnbomhedoelklaaGreatDoor
set_option maxRecDepth 99999
set_option maxHeartbeats 0
open Go.Conc
section
section
variable{P:WJ}{main:Bool}{R1 R2:WA->WA->Prop}{D1 D2:WA->WA->Array Event->Prop}{S1 S2:WC->WA->Prop}{E0:Array Event}
theorem aUl(hS:∀g w,S2 g w->∃g' w',stepG P main g w=.go g' w' E0){m:Nat}{g g':WC}{w w':WA}{es:Array Event}(h:Goes P main R2 D2 S2 m g w)(hr:R2 w w)(fM:stepG P main g w=.go g' w' es)(eH:es≠E0):D2 w w' es/\∃m',m=m'+1/\Goes P main R2 D2 S2 m' g' w':=by
 rcases Goes.cases h with hs|⟨n,rfl,hs⟩
 .obtain⟨a,b,e⟩:=hS _ _ (hs w hr);rw[fM]at e;cases e;exact absurd rfl eH
 .obtain⟨a,b,c,e,hd,hn⟩:=hs w hr;rw[fM]at e;cases e;exact⟨hd,n,rfl,hn⟩
theorem aCd(aXi:∀a b,R1 a b->R2 a b)(refl:∀w,R2 w w)(tr:∀a b c,R2 a b->R2 b c->R2 a c)(hS:∀g w,S2 g w->∃g' w',stepG P main g w=.go g' w' E0)(eH:(#[]:Array Event)≠E0)(hD:∀w w' es,D1 w w' es->es=#[])
  (hT:∀g w,S1 g w->∀m,Goes P main R2 D2 S2 m g w->S2 g w):∀(n m:Nat)(g:WC)(w:WA),Goes P main R1 D1 S1 n g w->Goes P main R2 D2 S2 m g w->Goes P main R1 D1 S2 n g w
 |0,m,g,w,h,k=>λw₁ r=>hT _ _ (h w₁ r) m (Goes.rely tr k (aXi _ _ r))
 |n+1,m,g,w,h,k=>by
  rcases h with h|⟨hr,h⟩
  .exact .inl λw₁ r=>hT _ _ (h w₁ r) m (Goes.rely tr k (aXi _ _ r))
  .refine .inr ⟨hr,λw₁ r=>?_⟩;obtain⟨g',w',es,e,hd,hn⟩:=goes_elim (h w₁ r);have k1:=Goes.rely tr k (aXi _ _ r);have he:=hD _ _ _ hd;subst he;obtain⟨_,m',_,k2⟩:=aUl hS k1 (refl _) e eH;rw[e];exact⟨hd,aCd aXi refl tr hS eH hD hT n m' g' w' hn k2⟩
end
end
theorem R9{H:Type}{enc:WI×WB->H}{a:Assume}{C:Checked}{os:Os}{f:FuncId}{fn:Func}{s:ChangeSpec}{aS6:List PathCond}{apart fresh aMs again:Bool}{X:WA->Array WB->Prop}
  (hX:∀(w w':WA) (args:Array WB),w.1=w'.1->X w args->X w' args)
  (own:ownKnob C.prog.godebug=none)(started:os.Started)(hfn:C.prog.funcs[f]?=some fn)
  (witness:∃(w:WA) (tape:Tape) (i:Input),w.os=os/\(w.forCall tape i).Shaped C.prog/\i.vars=[]/\Input.okWide C.prog (w.forCall tape i) .any w.1.size f i/\
   ((s.pre enc C.prog fn aS6 apart (w.forCall tape i).memory i.args/\X (w.forCall tape i).memory i.args)/\sizedMet enc C.prog fn (OpenSpec.ofChange s) apart (w.forCall tape i).memory i.args)/\a.holds C.prog (lone (Frame.enter C.prog f i.args .normal) [] (w.forCall tape i)))
  (runs:∀(W:WA) (base:Nat) (args:Array WB) (ds gs:List (DataW H)) (before:List MemPlace),
   (∀(j:Nat) t v,fn.params[j]?=some t->args[j]?=some v->Value.okWide C.prog W .any base t v)->
   DataW.Whole enc C.prog fn.params.toList s.vars apart W args.toList ds gs before->
   aS6.all (PathCond.test C.prog ⟨fn.params.toList,ds,s.plain.varTypes C.prog,gs⟩)=true->
   (DataW.weightsEach C.prog (fn.params.toList++s.plain.varTypes C.prog) (ds++gs)).all (·<=reachBytes)=true->X W args->W.ShapedOpen C.prog->
   ∃N last o w' t',runNT C.prog (N+1) (solo (G (Frame.enter C.prog f args .normal) []) W) #[]=(.ended o w',t')/\runN C.prog N (solo (G (Frame.enter C.prog f args .normal) []) W)=.next last/\
    step C.prog last=.ended o w'/\Go.Conc.Good C.prog (λv w'=>s.post enc C.prog fn apart fresh aMs again W args v w') last o w' t'):
  ReturnsInLeavingWide a C os f .any (λw args=>(s.pre enc C.prog fn aS6 apart w args/\X w args)/\sizedMet enc C.prog fn (OpenSpec.ofChange s) apart w args) (s.post enc C.prog fn apart fresh aMs again):=by refine returnsInLeavingWide_of_good own started witness ?_;intro w tape i _ hsh _ jM aK5 _;obtain⟨_,_,_,fn',bJh,_,_,_,_,aK6⟩:=jM;have e:fn'=fn:=kY (bJh.symm.trans hfn);subst e;obtain⟨⟨⟨ds,gs,before,hw,hc⟩,hx⟩,hz⟩:=aK5;have hw':=DataW.Whole.of_heap (w':=w.forCall tape i) ou hw;obtain⟨N,last,o,w',t',h1,h2,h3,v,h4,hp,h5⟩:=runs (w.forCall tape i) w.1.size i.args ds gs before aK6 hw' hc (hz.weights hw) (hX _ _ _ ou hx) hsh;exact⟨N,last,o,w',t',h1,h2,h3,v,h4,ChangeSpec.post_blind hp,h5⟩
