/-
  DERIVED. GIVEN WITH THE SEED: THE CARDS: each row of YthinkdcekdgdcaaDoorRows.lean that lists a variable, with what it lists TIED to the program's text (the seventh form; the later family's looks); each row that meets fmt, with fmt's text TOLD by the authors' own Lean function (tested against real Go, not proved from fmt's source: count such statements apart). THE CARD IS WHAT COUNTS. Prove the row's statement (the work); the ties are given (YthinkdcekdgdcaaDoorTie.lean); close each card by the builder's one call (the guide's Derived/Test/ToyasCard.lean, 'card_holds'). Laid BY PROGRAM, IN A SANDBOX (cutbox-door.mjs). By AI agents, Wed Nov 11 2026. No macro, syntax, notation, axiom, sorry.
-/
import Derived.Test.YthinkdcekdgdcaaDoorRows
import GoSem.ClaimSeven
namespace Go.Proofs.YthinkdcekdgdcaaDoor
namespace Rows

/-- THE TIED CARD OF 'metronomelaw.TicksLocal'. -/
def ticksLocalCard : Claim7 := { stood := { row := ticksLocalRow, standIns := [], harness := (true, "ef63882425b3848c2ea72d586f4b817fa5cc6c7c2b146b75e682702991a1ed6e"), looks := true }, kinds := [], alts := [], laidByText := true, laidKinds := [.handle], laidTests := true, laidLooks := .later }
def TicksLocalCardSaid : Prop := Claim7.holds Tryd.pinned (.plain (OpenSpec.ofChange ticksLocalSpec)) ticksLocalCard

/-- THE TIED CARD OF 'metronomelaw.TicksReal'. -/
def ticksRealCard : Claim7 := { stood := { row := ticksRealRow, standIns := [], harness := (true, "ef63882425b3848c2ea72d586f4b817fa5cc6c7c2b146b75e682702991a1ed6e"), looks := true }, kinds := [], alts := [], laidByText := true, laidKinds := [.handle], laidTests := true, laidLooks := .later }
def TicksRealCardSaid : Prop := Claim7.holds Tryd.pinned (.plain (OpenSpec.ofChange ticksRealSpec)) ticksRealCard

/-- THE TIED CARD OF 'metronomelaw.TicksSpans'. -/
def ticksSpansCard : Claim7 := { stood := { row := ticksSpansRow, standIns := [], harness := (true, "ef63882425b3848c2ea72d586f4b817fa5cc6c7c2b146b75e682702991a1ed6e"), looks := true }, kinds := [], alts := [], laidByText := true, laidKinds := [.handle], laidTests := true, laidLooks := .later }
def TicksSpansCardSaid : Prop := Claim7.holds Tryd.pinned (.plain (OpenSpec.ofChange ticksSpansSpec)) ticksSpansCard

/-- THE SECOND FORM's CARD OF 'metronomelaw.TicksLocal'. -/
def ticksLocalUptoCard : Claim7 := { stood := { row := ticksLocalUptoRow, standIns := [], harness := (true, "ef63882425b3848c2ea72d586f4b817fa5cc6c7c2b146b75e682702991a1ed6e"), looks := true }, kinds := [], alts := [], laidByText := true, laidKinds := [.handle], laidTests := true, laidLooks := .later }
def TicksLocalUptoCardSaid : Prop := Claim7.holds Tryd.pinned (.plain (OpenSpec.upto ticksLocalSpec)) ticksLocalUptoCard

/-- THE SECOND FORM's CARD OF 'metronomelaw.TicksReal'. -/
def ticksRealUptoCard : Claim7 := { stood := { row := ticksRealUptoRow, standIns := [], harness := (true, "ef63882425b3848c2ea72d586f4b817fa5cc6c7c2b146b75e682702991a1ed6e"), looks := true }, kinds := [], alts := [], laidByText := true, laidKinds := [.handle], laidTests := true, laidLooks := .later }
def TicksRealUptoCardSaid : Prop := Claim7.holds Tryd.pinned (.plain (OpenSpec.upto ticksRealSpec)) ticksRealUptoCard

/-- THE SECOND FORM's CARD OF 'metronomelaw.TicksSpans'. -/
def ticksSpansUptoCard : Claim7 := { stood := { row := ticksSpansUptoRow, standIns := [], harness := (true, "ef63882425b3848c2ea72d586f4b817fa5cc6c7c2b146b75e682702991a1ed6e"), looks := true }, kinds := [], alts := [], laidByText := true, laidKinds := [.handle], laidTests := true, laidLooks := .later }
def TicksSpansUptoCardSaid : Prop := Claim7.holds Tryd.pinned (.plain (OpenSpec.upto ticksSpansSpec)) ticksSpansUptoCard
end Rows
end Go.Proofs.YthinkdcekdgdcaaDoor
