/- Of every two texts: what a session answers to the lines of the first one is the beginning of what it answers to the lines of the first one and the second one behind it (DeskPieces answers true, and its arguments read as before). Conditions: package errors' own variable errorType, the library's tables of powers of ten and of bits, and two errors of package strconv are laid by the program's text (the card ties them). -/
import Derived.Test.YthccoinonjoleaaGreatDoorZDkFacts
import Derived.Test.YthccoinonjoleaaGreatDoorZDoorLaidK
import Derived.Test.YthccoinonjoleaaGreatDoorZDkPieces
import Derived.Test.YthccoinonjoleaaGreatDoorCards
import Derived.Test.YthccoinonjoleaaGreatDoorTie
import Derived.Carry
import Derived.ChangeMaps5
import Derived.SevenTiedAt
namespace Go.Proofs.YthccoinonjoleaaGreatDoor
set_option maxRecDepth 100000
set_option maxHeartbeats 16000000
section
open Go Go.ChangeShapes Go.WideShapes Go.ChangeAt Go.RowKit Go.Joins
theorem trodAll_many {H:Type} {enc:TypeId × Value→H} {P:Program} {w:World} {base:Nat} {spare:Nat→Bool} {held:Bool} {t0 t1:TypeId} {args:Array Value} {ds:List (DataW H)} {ps:List MemPlace} (h:DataW.TrodAll enc P w base spare held [t0,t1] args.toList ds ps) :
  ∃ v0 v1 d0 d1 p0 p1,args=#[v0,v1]∧ds = [d0,d1]∧ps=p0 ++ p1∧DataW.Trod enc P w base spare held t0 v0 d0 p0∧DataW.Trod enc P w base spare held t1 v1 d1 p1:=by
 obtain ⟨v0,a0,d0,e0,p0,q0,hargs,rfl,rfl,h0,r0⟩:=trodAll_cons h
 obtain ⟨v1,a1,d1,e1,p1,q1,rfl,rfl,rfl,h1,r1⟩:=trodAll_cons r0
 obtain ⟨rfl,rfl,rfl⟩:=trodAll_nil r1
 exact ⟨v0,v1,d0,d1,p0,p1,by cases args;simp_all,rfl,by simp,h0,h1⟩
theorem open_text {H:Type} {enc:TypeId × Value→H} {w:World} {spare:Nat→Bool} {held:Bool} {r:Reach} {b0:Nat} {v:Value} {d:DataW H} {p:List MemPlace} (hv:Value.okWide Tryz.prog w r b0 9 v) (h:DataW.Trod enc Tryz.prog w 0 spare held 9 v d p):∃ s:ByteArray,v=.string s∧d=.lit (.string s.data.toList):=by
 obtain ⟨s,rfl,e,_⟩:=Go.ChangeMaps.open_string Tryz.underlying9 hv h
 exact ⟨s,rfl,e⟩
theorem Tryz.laidOut:laidOutB Tryz.prog=true:=dpFact1
theorem dpieces_lifted (os:Os) (started:os.Started) (H:Type) (enc:TypeId × Value→H) :
  ReturnsInHanded {} Tryz.checked os 3 .any (fun w args=>(Rows.deskPiecesSpec.pre enc Tryz.prog Tryz.f3 [] false w args∧laidMetH Tryz.prog laidList w)∧sizedMet enc Tryz.prog Tryz.f3 (OpenSpec.ofChange Rows.deskPiecesSpec) false w args)
   (Rows.deskPiecesSpec.post enc Tryz.prog Tryz.f3 false true false false):=by
 refine returnsInHanded_of_change_and (C:=Tryz.checked) (X:=fun w _=>laidMetH Tryz.prog laidList w) (fun _ _ _ hh h=>h.of_heap hh) own started (by kernel_rfl) Tryz.func3
  (ChangeSpec.witness_at (enc:=enc) (C:=Tryz.checked) (os:=os) (X:=fun w _=>laidMetH Tryz.prog laidList w) false (laidHeap (World.holding Tryz.prog os ⟨#[],#[],[]⟩)) #[.string ⟨#[]⟩,.string ⟨#[]⟩] 8 rfl (by kernel_rfl) (by kernel_rfl) (by kernel_rfl) (by kernel_rfl) (by kernel_rfl) (laid_met os _)) ?_
 intro W base args ds gs before hval0 hW _ hz0 hL _
 have hval:∀ (j:Nat) t v,Tryz.f3.params[j]? = some t→args[j]? = some v→Value.okWide Tryz.prog W .any base t v:=hval0
 have hW':=hW
 obtain ⟨p,q,hA0,hV0,rfl,hfz,hnd⟩:=hW
 have hA:DataW.TrodAll enc Tryz.prog W 0 (fun _=>true) true Tryz.f3.params.toList args.toList ds p:=hA0
 have hV:DataW.TrodVars enc Tryz.prog W (fun _=>true) [] gs q:=hV0
 rw [Tryz.params3] at hA hval
 obtain ⟨v0,v1,d0,d1,p0,p1,rfl,rfl,rfl,h0,h1⟩:=trodAll_many hA
 obtain ⟨rfl,rfl⟩:gs = []∧q = []:=by
  cases gs with
  | nil=>exact ⟨rfl,hV⟩
  | cons g r=>exact absurd hV (by intro h;cases h)
 have hlt0:∀ x∈p0,x.block<W.heap.size:=fun x hx=>hW'.lt x (by simp [hx])
 have hlt1:∀ x∈p1,x.block<W.heap.size:=fun x hx=>hW'.lt x (by simp [hx])
 have k0:=h0
 have k1:=h1
 obtain ⟨s0,rfl,e0⟩:=open_text (hval 0 9 v0 rfl rfl) h0
 obtain ⟨s1,rfl,e1⟩:=open_text (hval 1 9 v1 rfl rfl) h1
 have z0:s0.size≤reachBytes:=by
  have:=List.all_eq_true.1 hz0 s0.data.toList.length (DataW.weights_mem_each (j:=0) (by rw [Tryz.params3];rfl) rfl _ (by rw [e0];simp [DataW.weights]))
  rw [Array.length_toList] at this
  exact of_decide_eq_true this
 have z1:s1.size≤reachBytes:=by
  have:=List.all_eq_true.1 hz0 s1.data.toList.length (DataW.weights_mem_each (j:=1) (by rw [Tryz.params3];rfl) rfl _ (by rw [e1];simp [DataW.weights]))
  rw [Array.length_toList] at this
  exact of_decide_eq_true this
 clear hA0 hval0 h0 h1 hA hval
 refine (pieces_any s0 s1 (Nat.le_trans z0 (by decide)) (Nat.le_trans z1 (by decide)) W (deskW_of_laid hL)).mono fun e W' ⟨he,bel⟩=>?_
 subst he
 exact ⟨_,rfl,_,_,_,[],_,[],hW',trodAll_mk1 (shut_bool Tryz.underlying4 _),trodAll_mk2 (Below.trod Tryz.laidOut (by kernel_rfl) (of_decide_eq_true (by kernel_rfl)) k0 bel hlt0) (Below.trod Tryz.laidOut (by kernel_rfl) (of_decide_eq_true (by kernel_rfl)) k1 bel hlt1),rfl,bel.frame _,fun h=>by cases h⟩
theorem dpieces_row:Rows.DeskPiecesSaid :=
 OpenClaim.holds_of_wide 3 Tryz.f3 rfl rfl rfl rfl rfl rfl rfl ⟨rfl,rfl,rfl,rfl,rfl⟩ rfl rfl rfl rfl rfl dpFactF Tryz.func3 dpFacts
  (of_decide_eq_true (by kernel_rfl)) (by unfold Func.isWrapper;rw [if_neg (of_decide_eq_false (by kernel_rfl))];exact ⟨rfl,rfl⟩)
  (fun os started H enc _=>dpieces_lifted os started H enc)
theorem dpieces_func:Tryz.prog.funcNamed Rows.deskPiecesRow.func=some 3:=dpFactF
theorem dpieces_holds:Rows.DeskPiecesCardSaid :=
 Claim7.holds_tied_plain_at .later [] [.data,.data,.data,.handle,.sentinel,.sentinel] true Rows.deskPiecesCard.stood.harness true
  dpieces_row (fun _ h=>by cases h) (by kernel_rfl) (fun _ h=>by cases h) deskPieces_row_tie rfl ⟨rfl,rfl⟩ (by kernel_rfl) rfl
  (fun f fn hf hfn=>by
   obtain rfl:f=3:=Option.some.inj (dpieces_func.symm.trans hf) |>.symm
   obtain rfl:fn=Tryz.f3:=(Option.some.inj (Tryz.func3.symm.trans hfn)).symm
   exact ⟨by kernel_rfl,fun j t ht=>by
    rw [Tryz.params3] at ht
    have h3:t=9:=by
     rcases j with _ | _ | j
     ·exact by simpa using ht.symm
     ·exact by simpa using ht.symm
     ·simp at ht
    rcases h3 with rfl
    exact (show Tryz.prog.wantsStandIn 9=false by kernel_rfl)⟩)
  (by kernel_rfl)
#print axioms dpieces_holds
end
end Go.Proofs.YthccoinonjoleaaGreatDoor
