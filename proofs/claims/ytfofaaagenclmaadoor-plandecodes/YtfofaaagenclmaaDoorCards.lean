/-
  DERIVED. GIVEN WITH THE SEED: THE CARDS: each row of YtfofaaagenclmaaDoorRows.lean that lists a variable, with what it lists TIED to the program's text (the seventh form; the later family's looks); each row that meets fmt, with fmt's text TOLD by the authors' own Lean function (tested against real Go, not proved from fmt's source: count such statements apart). THE CARD IS WHAT COUNTS. Prove the row's statement (the work); the ties are given (YtfofaaagenclmaaDoorTie.lean); close each card by the builder's one call (the guide's Derived/Test/ToyasCard.lean, 'card_holds'). Laid BY PROGRAM, IN A SANDBOX (cutbox-door.mjs). By AI agents, Wed Nov 11 2026. No macro, syntax, notation, axiom, sorry.
-/
import Derived.Test.YtfofaaagenclmaaDoorRows
import GoSem.ClaimSeven
namespace Go.Proofs.YtfofaaagenclmaaDoor
namespace Rows

/-- THE TIED CARD OF 'metronomelaw.TicksLocal'. -/
def ticksLocalCard : Claim7 := { stood := { row := ticksLocalRow, standIns := [], harness := (true, "e087bdd7f5109d6549af5d4bc1c73cce11786f492a97480caf3717fa65772b66"), looks := true }, kinds := [], alts := [], laidByText := true, laidKinds := [.handle], laidTests := true, laidLooks := .later }
def TicksLocalCardSaid : Prop := Claim7.holds Tryd.pinned (.plain (OpenSpec.ofChange ticksLocalSpec)) ticksLocalCard

/-- THE TIED CARD OF 'metronomelaw.TicksReal'. -/
def ticksRealCard : Claim7 := { stood := { row := ticksRealRow, standIns := [], harness := (true, "e087bdd7f5109d6549af5d4bc1c73cce11786f492a97480caf3717fa65772b66"), looks := true }, kinds := [], alts := [], laidByText := true, laidKinds := [.handle], laidTests := true, laidLooks := .later }
def TicksRealCardSaid : Prop := Claim7.holds Tryd.pinned (.plain (OpenSpec.ofChange ticksRealSpec)) ticksRealCard

/-- THE TIED CARD OF 'metronomelaw.TicksSpans'. -/
def ticksSpansCard : Claim7 := { stood := { row := ticksSpansRow, standIns := [], harness := (true, "e087bdd7f5109d6549af5d4bc1c73cce11786f492a97480caf3717fa65772b66"), looks := true }, kinds := [], alts := [], laidByText := true, laidKinds := [.handle], laidTests := true, laidLooks := .later }
def TicksSpansCardSaid : Prop := Claim7.holds Tryd.pinned (.plain (OpenSpec.ofChange ticksSpansSpec)) ticksSpansCard

/-- THE TIED CARD OF 'metronomelaw.PlanChecks'. -/
def planChecksCard : Claim7 := { stood := { row := planChecksRow, standIns := [], harness := (true, "e087bdd7f5109d6549af5d4bc1c73cce11786f492a97480caf3717fa65772b66"), looks := true }, kinds := [], alts := [], laidByText := true, laidKinds := [.handle, .data], laidTests := true, laidLooks := .later }
def PlanChecksCardSaid : Prop := Claim7.holds Tryd.pinned (.plain (OpenSpec.ofChange planChecksSpec)) planChecksCard

/-- THE TIED CARD OF 'metronomelaw.PlanEncodes'. -/
def planEncodesCard : Claim7 := { stood := { row := planEncodesRow, standIns := [], harness := (true, "e087bdd7f5109d6549af5d4bc1c73cce11786f492a97480caf3717fa65772b66"), looks := true }, kinds := [], alts := [], laidByText := true, laidKinds := [.handle, .data], laidTests := true, laidLooks := .later }
def PlanEncodesCardSaid : Prop := Claim7.holds Tryd.pinned (.plain (OpenSpec.ofChange planEncodesSpec)) planEncodesCard

/-- THE TIED CARD OF 'metronomelaw.PlanDecodes'. -/
def planDecodesCard : Claim7 := { stood := { row := planDecodesRow, standIns := [], harness := (true, "e087bdd7f5109d6549af5d4bc1c73cce11786f492a97480caf3717fa65772b66"), looks := true }, kinds := [], alts := [], laidByText := true, laidKinds := [.handle, .data], laidTests := true, laidLooks := .later }
def PlanDecodesCardSaid : Prop := Claim7.holds Tryd.pinned (.plain (OpenSpec.ofChange planDecodesSpec)) planDecodesCard

/-- THE TIED CARD OF 'metronomelaw.FrameEncodes'. -/
def frameEncodesCard : Claim7 := { stood := { row := frameEncodesRow, standIns := [], harness := (true, "e087bdd7f5109d6549af5d4bc1c73cce11786f492a97480caf3717fa65772b66"), looks := true }, kinds := [], alts := [], laidByText := true, laidKinds := [.handle], laidTests := true, laidLooks := .later }
def FrameEncodesCardSaid : Prop := Claim7.holds Tryd.pinned (.plain (OpenSpec.ofChange frameEncodesSpec)) frameEncodesCard

/-- THE TIED CARD OF 'metronomelaw.FrameDecodes'. -/
def frameDecodesCard : Claim7 := { stood := { row := frameDecodesRow, standIns := [], harness := (true, "e087bdd7f5109d6549af5d4bc1c73cce11786f492a97480caf3717fa65772b66"), looks := true }, kinds := [], alts := [], laidByText := true, laidKinds := [.handle], laidTests := true, laidLooks := .later }
def FrameDecodesCardSaid : Prop := Claim7.holds Tryd.pinned (.plain (OpenSpec.ofChange frameDecodesSpec)) frameDecodesCard

/-- THE SECOND FORM's CARD OF 'metronomelaw.TicksLocal'. -/
def ticksLocalUptoCard : Claim7 := { stood := { row := ticksLocalUptoRow, standIns := [], harness := (true, "e087bdd7f5109d6549af5d4bc1c73cce11786f492a97480caf3717fa65772b66"), looks := true }, kinds := [], alts := [], laidByText := true, laidKinds := [.handle], laidTests := true, laidLooks := .later }
def TicksLocalUptoCardSaid : Prop := Claim7.holds Tryd.pinned (.plain (OpenSpec.upto ticksLocalSpec)) ticksLocalUptoCard

/-- THE SECOND FORM's CARD OF 'metronomelaw.TicksReal'. -/
def ticksRealUptoCard : Claim7 := { stood := { row := ticksRealUptoRow, standIns := [], harness := (true, "e087bdd7f5109d6549af5d4bc1c73cce11786f492a97480caf3717fa65772b66"), looks := true }, kinds := [], alts := [], laidByText := true, laidKinds := [.handle], laidTests := true, laidLooks := .later }
def TicksRealUptoCardSaid : Prop := Claim7.holds Tryd.pinned (.plain (OpenSpec.upto ticksRealSpec)) ticksRealUptoCard

/-- THE SECOND FORM's CARD OF 'metronomelaw.TicksSpans'. -/
def ticksSpansUptoCard : Claim7 := { stood := { row := ticksSpansUptoRow, standIns := [], harness := (true, "e087bdd7f5109d6549af5d4bc1c73cce11786f492a97480caf3717fa65772b66"), looks := true }, kinds := [], alts := [], laidByText := true, laidKinds := [.handle], laidTests := true, laidLooks := .later }
def TicksSpansUptoCardSaid : Prop := Claim7.holds Tryd.pinned (.plain (OpenSpec.upto ticksSpansSpec)) ticksSpansUptoCard

/-- THE SECOND FORM's CARD OF 'metronomelaw.PlanChecks'. -/
def planChecksUptoCard : Claim7 := { stood := { row := planChecksUptoRow, standIns := [], harness := (true, "e087bdd7f5109d6549af5d4bc1c73cce11786f492a97480caf3717fa65772b66"), looks := true }, kinds := [], alts := [], laidByText := true, laidKinds := [.handle, .data], laidTests := true, laidLooks := .later }
def PlanChecksUptoCardSaid : Prop := Claim7.holds Tryd.pinned (.plain (OpenSpec.upto planChecksSpec)) planChecksUptoCard

/-- THE SECOND FORM's CARD OF 'metronomelaw.PlanEncodes'. -/
def planEncodesUptoCard : Claim7 := { stood := { row := planEncodesUptoRow, standIns := [], harness := (true, "e087bdd7f5109d6549af5d4bc1c73cce11786f492a97480caf3717fa65772b66"), looks := true }, kinds := [], alts := [], laidByText := true, laidKinds := [.handle, .data], laidTests := true, laidLooks := .later }
def PlanEncodesUptoCardSaid : Prop := Claim7.holds Tryd.pinned (.plain (OpenSpec.upto planEncodesSpec)) planEncodesUptoCard

/-- THE SECOND FORM's CARD OF 'metronomelaw.PlanDecodes'. -/
def planDecodesUptoCard : Claim7 := { stood := { row := planDecodesUptoRow, standIns := [], harness := (true, "e087bdd7f5109d6549af5d4bc1c73cce11786f492a97480caf3717fa65772b66"), looks := true }, kinds := [], alts := [], laidByText := true, laidKinds := [.handle, .data], laidTests := true, laidLooks := .later }
def PlanDecodesUptoCardSaid : Prop := Claim7.holds Tryd.pinned (.plain (OpenSpec.upto planDecodesSpec)) planDecodesUptoCard

/-- THE SECOND FORM's CARD OF 'metronomelaw.FrameEncodes'. -/
def frameEncodesUptoCard : Claim7 := { stood := { row := frameEncodesUptoRow, standIns := [], harness := (true, "e087bdd7f5109d6549af5d4bc1c73cce11786f492a97480caf3717fa65772b66"), looks := true }, kinds := [], alts := [], laidByText := true, laidKinds := [.handle], laidTests := true, laidLooks := .later }
def FrameEncodesUptoCardSaid : Prop := Claim7.holds Tryd.pinned (.plain (OpenSpec.upto frameEncodesSpec)) frameEncodesUptoCard

/-- THE SECOND FORM's CARD OF 'metronomelaw.FrameDecodes'. -/
def frameDecodesUptoCard : Claim7 := { stood := { row := frameDecodesUptoRow, standIns := [], harness := (true, "e087bdd7f5109d6549af5d4bc1c73cce11786f492a97480caf3717fa65772b66"), looks := true }, kinds := [], alts := [], laidByText := true, laidKinds := [.handle], laidTests := true, laidLooks := .later }
def FrameDecodesUptoCardSaid : Prop := Claim7.holds Tryd.pinned (.plain (OpenSpec.upto frameDecodesSpec)) frameDecodesUptoCard
end Rows
end Go.Proofs.YtfofaaagenclmaaDoor
