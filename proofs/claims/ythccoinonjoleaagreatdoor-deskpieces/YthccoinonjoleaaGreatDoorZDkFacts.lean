import Derived.Test.YthccoinonjoleaaGreatDoorProg
import Derived.Test.YthccoinonjoleaaGreatDoorRows
import Derived.JoinedOf
import Derived.KernelRfl
namespace Go.Proofs.YthccoinonjoleaaGreatDoor
set_option maxRecDepth 100000
set_option maxHeartbeats 16000000
section
open Go
theorem dpFact1:laidOutB Tryz.pinned.checked.prog=true:=by kernel_rfl
theorem dpFact2:mapsRowed Tryz.pinned.checked.prog=true:=by kernel_rfl
theorem dpFact3:namedTie Tryz.pinned.checked.prog Rows.deskPiecesRow.named Rows.deskPiecesSpec.vars=true:=by kernel_rfl
theorem dpFact4:(Rows.deskPiecesRow.inPlace == Tryz.pinned.checked.prog.inPlace 3)=true:=by kernel_rfl
theorem dpFact5:(Rows.deskPiecesRow.unfollowed == Tryz.pinned.checked.prog.unfollowed 3)=true:=by kernel_rfl
theorem dpFact6:(Rows.deskPiecesRow.recurses == Tryz.pinned.checked.prog.recurses 3)=true:=by kernel_rfl
theorem dpFact7:(Rows.deskPiecesRow.named == Tryz.pinned.checked.prog.varsNamed 3)=true:=by kernel_rfl
theorem dpFact9:Tryz.pinned.checked.prog.stopsHeard=true:=by kernel_rfl
theorem dpFact10:Tryz.pinned.checked.prog.mayEnter=true:=by kernel_rfl
theorem dpFact11:(Rows.deskPiecesRow.lifted == Tryz.pinned.checked.prog.liftsFinal)=true:=by kernel_rfl
theorem dpFactF:Tryz.pinned.checked.prog.funcNamed Rows.deskPiecesRow.func=some 3:=by kernel_rfl
theorem dpFacts:joinedFacts Tryz.pinned.checked.prog 3 Tryz.f3 Rows.deskPiecesSpec Rows.deskPiecesRow=true:=by
 unfold joinedFacts
 simp only [Bool.and_eq_true]
 repeat' apply And.intro
 all_goals first
  | with_reducible exact dpFact1
  | with_reducible exact dpFact2
  | with_reducible exact dpFact3
  | with_reducible exact dpFact4
  | with_reducible exact dpFact5
  | with_reducible exact dpFact6
  | with_reducible exact dpFact7
  | with_reducible exact dpFact9
  | with_reducible exact dpFact10
  | with_reducible exact dpFact11
  | (as_aux_lemma=>kernel_rfl)
end
end Go.Proofs.YthccoinonjoleaaGreatDoor
