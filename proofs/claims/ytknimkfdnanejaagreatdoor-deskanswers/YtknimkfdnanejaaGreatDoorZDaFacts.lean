import Derived.Test.YtknimkfdnanejaaGreatDoorProg
import Derived.Test.YtknimkfdnanejaaGreatDoorRows
import Derived.Test.YtknimkfdnanejaaGreatDoorZA
import Derived.JoinedOf
namespace Go.Proofs.YtknimkfdnanejaaGreatDoor
open Go.Proofs.Tryz
set_option maxRecDepth 100000
set_option maxHeartbeats 16000000
open Go
theorem aNo:laidOutB Tryz.pinned.checked.prog=true:=by kernel_rfl
theorem aX8:mapsRowed Tryz.pinned.checked.prog=true:=by kernel_rfl
theorem aX9:namedTie Tryz.pinned.checked.prog Rows.deskAnswersRow.named Rows.deskAnswersSpec.vars=true:=by kernel_rfl
theorem aXa:(Rows.deskAnswersRow.inPlace==Tryz.pinned.checked.prog.inPlace 3)=true:=by kernel_rfl
theorem aXb:(Rows.deskAnswersRow.unfollowed==Tryz.pinned.checked.prog.unfollowed 3)=true:=by kernel_rfl
theorem aXc:(Rows.deskAnswersRow.recurses==Tryz.pinned.checked.prog.recurses 3)=true:=by kernel_rfl
theorem aXd:(Rows.deskAnswersRow.named==Tryz.pinned.checked.prog.varsNamed 3)=true:=by kernel_rfl
theorem aXe:Tryz.pinned.checked.prog.stopsHeard=true:=by kernel_rfl
theorem aSv:Tryz.pinned.checked.prog.mayEnter=true:=by kernel_rfl
theorem aSw:(Rows.deskAnswersRow.lifted==Tryz.pinned.checked.prog.liftsFinal)=true:=by kernel_rfl
theorem aNp:Tryz.pinned.checked.prog.funcNamed Rows.deskAnswersRow.func=some 3:=by kernel_rfl
theorem aXf:joinedFacts Tryz.pinned.checked.prog 3 Tryz.f3 Rows.deskAnswersSpec Rows.deskAnswersRow=true:=by
 unfold joinedFacts;simp only[Bool.and_eq_true];repeat' apply And.intro
 all_goals first
  |with_reducible exact aNo
  |with_reducible exact aX8
  |with_reducible exact aX9
  |with_reducible exact aXa
  |with_reducible exact aXb
  |with_reducible exact aXc
  |with_reducible exact aXd
  |with_reducible exact aXe
  |with_reducible exact aSv
  |with_reducible exact aSw
  |(as_aux_lemma=>kernel_rfl)
