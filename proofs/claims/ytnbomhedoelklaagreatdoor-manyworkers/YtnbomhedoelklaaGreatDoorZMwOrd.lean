import Derived.Test.YtnbomhedoelklaaGreatDoorZMwW1
namespace Go.Proofs.YtnbomhedoelklaaGreatDoor
open Go.Proofs.Tryz
set_option maxRecDepth 99999
set_option maxHeartbeats 0
open Go.Conc Go.ConcN
def Y6(f:Func):Code:=match (uI f)with|.seq _ (.block _ c)=>c|_=>.skip
def aAe(f:Func):Array WQ:=match (Y6 f)with|.seq (.region _ o _) _=>o|_=>#[]
def gS(f:Func):Array WQ:=match (Y6 f)with|.seq _ (.region _ o _)=>o|_=>#[]
def k4(f:Func):List Item:=[.inBlock 1,.inLoop (qC f),.inBlock 0]
def Sq:Array Bool->List Nat->Prop
 |l,[]=>l=#[true,true,true,true,true,true,true,true]
 |l,i::r=>i∈Region.ready .any (gS f8) l/\Sq (l.setIfInBounds i true) r
theorem aRr{α:Type}(l:Array α)(h:l.size=8):∃a b c d e f g i,l=#[a,b,c,d,e,f,g,i]:=by
 obtain⟨l⟩:=l
 match l,h with
 |[a,b,c,d,e,f,g,i],_=>exact⟨a,b,c,d,e,f,g,i,rfl⟩
def cb(b:Bool):Nat:=if b then 1 else 0
def cn:List Bool->Nat
 |[]=>0
 |b::l=>cb b+cn l
theorem aV1:∀a b c d e f g i:Bool,(Region.ready .any (gS f8) #[a,b,c,d,e,f,g,i]).isEmpty=(a&&b&&c&&d&&e&&f&&g&&i):=by decide+kernel
theorem bCx:∀a b c d e f g i:Bool,(Region.ready .any (gS f8) #[a,b,c,d,e,f,g,i]).all (λj=>(j==0&& !a)||(j==1&& !b)||(j==2&&b&& !c)||(j==3&& !d)||(j==4&&d&& !e)||(j==5&&e&& !f)||(j==6&&a&&b&&c&&d&&e&&f&& !g)||(j==7&&a&&b&&c&&d&&e&&f&&g&& !i))=true:=by decide+kernel
theorem aV0{l:Array Bool}{j:Nat}(h:j∈Region.ready .any (gS f8) l):l.getD j true=false:=(mem_ready.1 h).1
theorem aJj:∀(l:List Bool)(j:Nat),(l[j]?).getD true=false->cn (l.set j true)=cn l+1
 |[],j,h=>by simp at h
 |b::l,0,h=>by simp at h;subst h;simp[cn,cb];omega
 |b::l,j+1,h=>by have:=aJj l j (by simpa using h);simp only[List.set_cons_succ,cn];omega
theorem bDb:∀(fuel t:Nat)(l:Array Bool),l.size=8->cn l.toList+fuel=8->Sq l (Region.linearise.go .any (gS f8) fuel t l []):=by
 intro fuel
 induction fuel with
 |zero=>
  intro t l h8 hc
  obtain⟨a,b,c,d,e,f,g,i,rfl⟩:=aRr l h8
  show#[a,b,c,d,e,f,g,i]=#[true,true,true,true,true,true,true,true]
  revert hc
  revert a b c d e f g i
  simp only[cn,cb]
  decide
 |succ fuel ih=>
  intro t l h8 hc
  simp only[Region.linearise.go]
  change Sq l (match (Region.ready .any (gS f8) l)[t%(Region.ready .any (gS f8) l).length]? with
   |some i=>Region.linearise.go .any (gS f8) fuel (t/(Region.ready .any (gS f8) l).length) (l.setIfInBounds i true) [i]
   |none=>[].reverse)
  cases hi:(Region.ready .any (gS f8) l)[t%(Region.ready .any (gS f8) l).length]? with
  |none=>
   exfalso
   have aGq:Region.ready .any (gS f8) l=[]:=by
    cases hr:Region.ready .any (gS f8) l with
    |nil=>rfl
    |cons x xs=>
     rw[hr]at hi
     have hlt:t%(x::xs).length<(x::xs).length:=Nat.mod_lt _ oe
     simp at hi
     simp at hlt
     omega
   obtain⟨a,b,c,d,e,f,g,i,rfl⟩:=aRr l h8
   have h1:=aV1 a b c d e f g i
   rw[aGq]at h1
   simp only[List.isEmpty_nil]at h1
   have h1:=h1.symm
   simp only[AK]at h1
   obtain⟨⟨⟨⟨⟨⟨⟨rfl,rfl⟩,rfl⟩,rfl⟩,rfl⟩,rfl⟩,rfl⟩,rfl⟩:=h1
   simp[cn,cb]at hc
  |some i=>
   simp only[]
   rw[linearise_go_acc,List.reverse_singleton,List.singleton_append]
   have hm:=List.mem_of_getElem? hi
   refine⟨hm,ih _ _ (by simpa using h8) ?_⟩
   have:=aJj l.toList i (by have:=aV0 hm;simpa[Array.getD_eq_getD_getElem?]using this)
   simp only[Array.toList_setIfInBounds]
   omega
theorem aQ2:(gS f8).size=8:=oh
theorem aQ3:Region.departs (gS f8)=false:=oh
theorem aNm(m:Bool)(t:Nat):Sq #[false,false,false,false,false,false,false,false] (Region.schedule m (gS f8) t):=by simp only[Region.schedule,aQ3,Bool.not_false,Bool.or_true,if_true,Region.linearise,aQ2];exact bDb 8 t _ rfl (by simp[cn,cb])
