/-
  DERIVED. GIVEN WITH THE SEED: THE CARDS: each row of YtooadfgibdjdeaaGreatDoorRows.lean that lists a variable, with what it lists TIED to the program's text (the seventh form; the later family's looks); each row that meets fmt, with fmt's text TOLD by the authors' own Lean function (tested against real Go, not proved from fmt's source: count such statements apart). THE CARD IS WHAT COUNTS. Prove the row's statement (the work); the ties are given (YtooadfgibdjdeaaGreatDoorTie.lean); close each card by the builder's one call (the guide's Derived/Test/ToyasCard.lean, 'card_holds'). Laid BY PROGRAM, IN A SANDBOX (cutbox-door.mjs). By AI agents, Wed Nov 11 2026. No macro, syntax, notation, axiom, sorry.
-/
import Derived.Test.YtooadfgibdjdeaaGreatDoorRows
import GoSem.ClaimSeven
namespace Go.Proofs.YtooadfgibdjdeaaGreatDoor
namespace Rows

/-- THE TIED CARD OF 'metronomelaw.ClusterPlays'. -/
def clusterPlaysCard : Claim7 := { stood := { row := clusterPlaysRow, standIns := [], harness := (true, "268456f945b69ebc6d96e7761478b9ab8baf1384756f77bb20d160f063dc24bc"), looks := true }, kinds := [], alts := [], laidByText := true, laidKinds := [.handle, .data], laidTests := true, laidLooks := .later }
def ClusterPlaysCardSaid : Prop := Claim7.holds Tryz.pinned (.plain (OpenSpec.ofChange clusterPlaysSpec)) clusterPlaysCard

/-- THE SECOND FORM's CARD OF 'metronomelaw.ClusterPlays'. -/
def clusterPlaysUptoCard : Claim7 := { stood := { row := clusterPlaysUptoRow, standIns := [], harness := (true, "268456f945b69ebc6d96e7761478b9ab8baf1384756f77bb20d160f063dc24bc"), looks := true }, kinds := [], alts := [], laidByText := true, laidKinds := [.handle, .data], laidTests := true, laidLooks := .later }
def ClusterPlaysUptoCardSaid : Prop := Claim7.holds Tryz.pinned (.plain (OpenSpec.upto clusterPlaysSpec)) clusterPlaysUptoCard
end Rows
end Go.Proofs.YtooadfgibdjdeaaGreatDoor
