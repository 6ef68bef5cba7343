import Derived.Test.YtnbomhedoelklaaGreatDoorProg
import Derived.Test.YtnbomhedoelklaaGreatDoorRows
import Derived.Test.YtnbomhedoelklaaGreatDoorZW1
import Derived.JoinedOf
namespace Go.Proofs.YtnbomhedoelklaaGreatDoor
open Go.Proofs.Tryz
set_option maxRecDepth 99999
set_option maxHeartbeats 0
theorem aN3:laidOutB Tryz.pinned.checked.prog=true:=oh
theorem aY2:mapsRowed Tryz.pinned.checked.prog=true:=oh
theorem aY3:namedTie Tryz.pinned.checked.prog Rows.manyWorkersRow.named Rows.manyWorkersSpec.vars=true:=oh
theorem aY4:(Rows.manyWorkersRow.inPlace==Tryz.pinned.checked.prog.inPlace 3)=true:=oh
theorem aY5:(Rows.manyWorkersRow.unfollowed==Tryz.pinned.checked.prog.unfollowed 3)=true:=oh
theorem aY6:(Rows.manyWorkersRow.recurses==Tryz.pinned.checked.prog.recurses 3)=true:=oh
theorem aY7:(Rows.manyWorkersRow.named==Tryz.pinned.checked.prog.varsNamed 3)=true:=oh
theorem aY8:Tryz.pinned.checked.prog.stopsHeard=true:=oh
theorem aU7:Tryz.pinned.checked.prog.mayEnter=true:=oh
theorem aU8:(Rows.manyWorkersRow.lifted==Tryz.pinned.checked.prog.liftsFinal)=true:=oh
theorem aN4:Tryz.pinned.checked.prog.funcNamed Rows.manyWorkersRow.func=some 3:=oh
theorem aY9:joinedFacts Tryz.pinned.checked.prog 3 f3 Rows.manyWorkersSpec Rows.manyWorkersRow=true:=by
 unfold joinedFacts;simp only[AK];repeat' apply And.intro
 all_goals first
  |with_reducible exact aN3
  |with_reducible exact aY2
  |with_reducible exact aY3
  |with_reducible exact aY4
  |with_reducible exact aY5
  |with_reducible exact aY6
  |with_reducible exact aY7
  |with_reducible exact aY8
  |with_reducible exact aU7
  |with_reducible exact aU8
  |(as_aux_lemma=>kernel_rfl)
