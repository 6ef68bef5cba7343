/- Of every text: the program's desk answers it, line by line, as the document's answer does (DeskAnswers answers true, and its argument reads as before). Conditions: package errors' own variable errorType, the library's tables of powers of ten, of bits and of UTF-8, two errors of package strconv and the document's answer's variable Fine are laid by the program's text (the card ties them). -/
import Derived.Test.YtknimkfdnanejaaGreatDoorZDaFacts
import Derived.Test.YtknimkfdnanejaaGreatDoorZDoorLaidN
import Derived.Test.YtknimkfdnanejaaGreatDoorCards
import Derived.Test.YtknimkfdnanejaaGreatDoorTie
namespace Go.Proofs.YtknimkfdnanejaaGreatDoor
open Go.Proofs.Tryz
set_option maxRecDepth 100000
set_option maxHeartbeats 16000000
open Go Go.ChangeShapes Go.WideShapes Go.ChangeAt Go.RowKit Go.Joins
theorem aFw{H:Type}{enc:TypeId×Value->H}{P:Program}{w:World}{base:Nat}{aJ6:Nat->Bool}{held:Bool}{t0:TypeId}{args:Array Value}{ds:List (DataW H)}{ps:List MemPlace}(h:DataW.TrodAll enc P w base aJ6 held [t0] args.toList ds ps):
  ∃v0 d0 p0,args=#[v0]/\ds=[d0]/\ps=p0/\DataW.Trod enc P w base aJ6 held t0 v0 d0 p0:=by obtain⟨v0,a0,d0,e0,p0,q0,bN3,rfl,rfl,h0,r0⟩:=trodAll_cons h;obtain⟨rfl,rfl,rfl⟩:=trodAll_nil r0;exact⟨v0,d0,p0,by cases args;simp_all,rfl,oh,h0⟩
theorem aQa{H:Type}{enc:TypeId×Value->H}{w:World}{aJ6:Nat->Bool}{held:Bool}{r:Reach}{b0:Nat}{v:Value}{d:DataW H}{p:List MemPlace}(hv:Value.okWide prog w r b0 9 v)(h:DataW.Trod enc prog w 0 aJ6 held 9 v d p):∃s:ByteArray,v=.string s/\d=.lit (.string s.data.toList):=by
 obtain⟨s,rfl,e,_⟩:=Go.ChangeMaps.open_string underlying9 hv h
 exact⟨s,rfl,e⟩
theorem Tryz.laidOut:laidOutB prog=true:=aNo
theorem U8(os:Os)(started:os.Started)(H:Type)(enc:TypeId×Value->H):
  ReturnsInHanded {} Tryz.checked os 3 .any (fun w args=>(Rows.deskAnswersSpec.pre enc prog Tryz.f3 [] false w args/\laidMetH prog fM w)/\sizedMet enc prog Tryz.f3 (OpenSpec.ofChange Rows.deskAnswersSpec) false w args)
   (Rows.deskAnswersSpec.post enc prog Tryz.f3 false true false false):=by
 refine returnsInHanded_of_change_and (C:=Tryz.checked) (X:=fun w _=>laidMetH prog fM w) (fun _ _ _ hh h=>h.of_heap hh) own started (by kernel_rfl) func3
  (ChangeSpec.witness_at (enc:=enc) (C:=Tryz.checked) (os:=os) (X:=fun w _=>laidMetH prog fM w) false (aHb (World.holding prog os ⟨#[],#[],[]⟩)) #[.string ⟨#[]⟩] 8 rfl (by kernel_rfl) (by kernel_rfl) (by kernel_rfl) (by kernel_rfl) (by kernel_rfl) (aTx os _)) ?_
 intro W base args ds gs before bAh hW _ lO hL _
 have bC0:∀(j:Nat) t v,Tryz.f3.params[j]?=some t->args[j]?=some v->Value.okWide prog W .any base t v:=bAh
 have hW':=hW
 obtain⟨p,q,hA0,hV0,rfl,hfz,hnd⟩:=hW
 have hA:DataW.TrodAll enc prog W 0 (fun _=>true) true Tryz.f3.params.toList args.toList ds p:=hA0
 have hV:DataW.TrodVars enc prog W (fun _=>true) [] gs q:=hV0
 rw[Tryz.params3]at hA bC0
 obtain⟨v0,d0,p0,rfl,rfl,rfl,h0⟩:=aFw hA
 obtain⟨rfl,rfl⟩:gs=[]/\q=[]:=by
  cases gs with
  |nil=>exact⟨rfl,hV⟩
  |cons g r=>exact absurd hV (by intro h;cases h)
 have bJp:∀x∈p,x.block<W.heap.size:=fun x hx=>hW'.lt x (by simp[hx])
 have k0:=h0
 obtain⟨s0,rfl,e0⟩:=aQa (bC0 0 9 v0 rfl rfl) h0
 have z0:s0.size<=reachBytes:=by
  have:=List.all_eq_true.1 lO s0.data.toList.length (DataW.weights_mem_each (j:=0) (by rw[Tryz.params3];rfl) rfl _ (by rw[e0];simp[DataW.weights]))
  rw[Array.length_toList]at this
  exact of_decide_eq_true this
 clear hA0 bAh h0 hA bC0
 refine(aGa s0 (kG z0 (by decide)) W (aBj hL) (aE0 hL)).mono fun e W' ⟨he,bel⟩=>?_
 subst he
 exact⟨_,rfl,_,_,_,[],_,[],hW',trodAll_mk1 (shut_bool underlying4 _),trodAll_mk1 (Below.trod Tryz.laidOut (by kernel_rfl) (of_decide_eq_true (by kernel_rfl)) k0 bel bJp),rfl,bel.frame _,fun h=>by cases h⟩
theorem aDx:Rows.DeskAnswersSaid:=
 OpenClaim.holds_of_wide 3 Tryz.f3 rfl rfl rfl rfl rfl rfl rfl ⟨rfl,rfl,rfl,rfl,rfl⟩ rfl rfl rfl rfl rfl aNp func3 aXf
  (of_decide_eq_true og) (by unfold Func.isWrapper;rw[kI (of_decide_eq_false og)];exact⟨rfl,rfl⟩)
  (fun os started H enc _=>U8 os started H enc)
theorem aBh:Tryz.prog.funcNamed Rows.deskAnswersRow.func=some 3:=aNp
theorem danswers_holds:Rows.DeskAnswersCardSaid:=
 Claim7.holds_tied_plain_at .later [] [.data,.data,.data,.data,.handle,.sentinel,.sentinel,.data,.pinned] true Rows.deskAnswersCard.stood.harness true
  aDx (fun _ h=>by cases h) og (fun _ h=>by cases h) deskAnswers_row_tie rfl ⟨rfl,rfl⟩ og rfl
  (fun f fn hf hfn=>by
   obtain rfl:f=3:=kW (aBh.symm.trans hf)|>.symm
   obtain rfl:fn=Tryz.f3:=(kW (func3.symm.trans hfn)).symm
   exact⟨og,fun j t ht=>by
    rw[Tryz.params3]at ht
    have h3:t=9:=by
     rcases j with _|j
     ·exact by simpa using ht.symm
     ·simp at ht
    rcases h3 with rfl
    exact(show Tryz.prog.wantsStandIn 9=false by kernel_rfl)⟩)
  og
#print axioms danswers_holds
