import Derived.Test.YtnbomhedoelklaaGreatDoorZDkSession
namespace Go.Proofs.YtnbomhedoelklaaGreatDoor
open Go.Proofs.Tryz
set_option maxRecDepth 99999
set_option maxHeartbeats 0
def xM(text out:WG):Prop:=∃os st,jI iY.start (nE text) os st/\(∀o∈os,o.size<=500)/\out=⟨(nV os).toArray⟩
def sG(f:Func):Tmp:=match f.results[0]? with|some (ResultVar.tmp k)=>k|_=>0
theorem aLl:f6.results=#[.tmp (sG f6)]:=oh
theorem bIb:Tryz.prog.inits.idxOf? Tryz.prog.funcs.size=none:=oh
theorem bM4:fB 6=true:=oh
theorem bA5:FS 6:=bM4
def ES(text:WG)(fr:WK)(_:WA):Prop:=fr.mode=.returning/\fr.defers=[]/\fr.kind=.normal/\fr.fn=6/\∃out,xM text out/\fr.tmps.getD (sG f6) undef=sT out
def yC(P:WJ)(text:WG):WK:=Frame.enter P 6 #[sT text] .normal
theorem aW5{text:WG}(h:text.size<=3000){w0:WA}(hw:∀t,cU w0.1.size (on w0 t)):pG prog [dX prog] (ES text) ((yC prog) text,[],w0):=by
 refine aZ8 bIb (λf w t h=>h) λt=>?_;obtain⟨e,w1,fr,⟨os,st,q1,q2,rfl,_⟩,hs,hf,hl⟩:=aIi text h (on w0 t) (hw t) [dX prog];obtain⟨n,hn⟩:=hs;obtain⟨h1,h2,h3,fn,h4,h5⟩:=hl;rw[hf]at h4;obtain rfl:=kY (func6.symm.trans h4);rw[results,aLl,Array.mapM_eq_mapM_toList]at h5;have h6:fr.tmps.getD (sG f6) undef=sT ⟨(nV os).toArray⟩:=by have:(Result.ok (fr.tmps.getD (sG f6) undef) w1:Result WB)=.ok (sT ⟨(nV os).toArray⟩) w1:=h5;exact(Result.ok.inj this).1
 exact⟨n,fr,w1,hn,⟨rfl,h2,by rw[h1];simp⟩,h1,h2,h3,hf,_,⟨os,st,q1,q2,rfl⟩,h6⟩
