/-
  DERIVED. GIVEN WITH THE SEED: THE CARDS: each row of YtlpojkehbhkdiaaDoorRows.lean that lists a variable, with what it lists TIED to the program's text (the seventh form; the later family's looks); each row that meets fmt, with fmt's text TOLD by the authors' own Lean function (tested against real Go, not proved from fmt's source: count such statements apart). THE CARD IS WHAT COUNTS. Prove the row's statement (the work); the ties are given (YtlpojkehbhkdiaaDoorTie.lean); close each card by the builder's one call (the guide's Derived/Test/ToyasCard.lean, 'card_holds'). Laid BY PROGRAM, IN A SANDBOX (cutbox-door.mjs). By AI agents, Wed Nov 11 2026. No macro, syntax, notation, axiom, sorry.
-/
import Derived.Test.YtlpojkehbhkdiaaDoorRows
import GoSem.ClaimSeven
namespace Go.Proofs.YtlpojkehbhkdiaaDoor
namespace Rows

/-- THE TIED CARD OF 'metronomelaw.PlanChecks'. -/
def planChecksCard : Claim7 := { stood := { row := planChecksRow, standIns := [], harness := (true, "d8d19dc91f30288d5f843b21a47592a541668d98f424d557ad215267cdc1ff8a"), looks := true }, kinds := [], alts := [], laidByText := true, laidKinds := [.handle, .data], laidTests := true, laidLooks := .later }
def PlanChecksCardSaid : Prop := Claim7.holds Tryd.pinned (.plain (OpenSpec.ofChange planChecksSpec)) planChecksCard

/-- THE TIED CARD OF 'metronomelaw.PlanEncodes'. -/
def planEncodesCard : Claim7 := { stood := { row := planEncodesRow, standIns := [], harness := (true, "d8d19dc91f30288d5f843b21a47592a541668d98f424d557ad215267cdc1ff8a"), looks := true }, kinds := [], alts := [], laidByText := true, laidKinds := [.handle, .data], laidTests := true, laidLooks := .later }
def PlanEncodesCardSaid : Prop := Claim7.holds Tryd.pinned (.plain (OpenSpec.ofChange planEncodesSpec)) planEncodesCard

/-- THE TIED CARD OF 'metronomelaw.PlanDecodes'. -/
def planDecodesCard : Claim7 := { stood := { row := planDecodesRow, standIns := [], harness := (true, "d8d19dc91f30288d5f843b21a47592a541668d98f424d557ad215267cdc1ff8a"), looks := true }, kinds := [], alts := [], laidByText := true, laidKinds := [.handle, .data], laidTests := true, laidLooks := .later }
def PlanDecodesCardSaid : Prop := Claim7.holds Tryd.pinned (.plain (OpenSpec.ofChange planDecodesSpec)) planDecodesCard

/-- THE SECOND FORM's CARD OF 'metronomelaw.PlanChecks'. -/
def planChecksUptoCard : Claim7 := { stood := { row := planChecksUptoRow, standIns := [], harness := (true, "d8d19dc91f30288d5f843b21a47592a541668d98f424d557ad215267cdc1ff8a"), looks := true }, kinds := [], alts := [], laidByText := true, laidKinds := [.handle, .data], laidTests := true, laidLooks := .later }
def PlanChecksUptoCardSaid : Prop := Claim7.holds Tryd.pinned (.plain (OpenSpec.upto planChecksSpec)) planChecksUptoCard

/-- THE SECOND FORM's CARD OF 'metronomelaw.PlanEncodes'. -/
def planEncodesUptoCard : Claim7 := { stood := { row := planEncodesUptoRow, standIns := [], harness := (true, "d8d19dc91f30288d5f843b21a47592a541668d98f424d557ad215267cdc1ff8a"), looks := true }, kinds := [], alts := [], laidByText := true, laidKinds := [.handle, .data], laidTests := true, laidLooks := .later }
def PlanEncodesUptoCardSaid : Prop := Claim7.holds Tryd.pinned (.plain (OpenSpec.upto planEncodesSpec)) planEncodesUptoCard

/-- THE SECOND FORM's CARD OF 'metronomelaw.PlanDecodes'. -/
def planDecodesUptoCard : Claim7 := { stood := { row := planDecodesUptoRow, standIns := [], harness := (true, "d8d19dc91f30288d5f843b21a47592a541668d98f424d557ad215267cdc1ff8a"), looks := true }, kinds := [], alts := [], laidByText := true, laidKinds := [.handle, .data], laidTests := true, laidLooks := .later }
def PlanDecodesUptoCardSaid : Prop := Claim7.holds Tryd.pinned (.plain (OpenSpec.upto planDecodesSpec)) planDecodesUptoCard
end Rows
end Go.Proofs.YtlpojkehbhkdiaaDoor
