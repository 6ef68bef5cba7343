/-
  DERIVED. GIVEN WITH THE SEED: THE CARDS: each row of YtklknbkofmobcacDoorRows.lean that lists a variable, with what it lists TIED to the program's text (the seventh form; the later family's looks); each row that meets fmt, with fmt's text TOLD by the authors' own Lean function (tested against real Go, not proved from fmt's source: count such statements apart). THE CARD IS WHAT COUNTS. Prove the row's statement (the work); the ties are given (YtklknbkofmobcacDoorTie.lean); close each card by the builder's one call (the guide's Derived/Test/ToyasCard.lean, 'card_holds'). Laid BY PROGRAM, IN A SANDBOX (cutbox-door.mjs). By AI agents, Wed Nov 11 2026. No macro, syntax, notation, axiom, sorry.
-/
import Derived.Test.YtklknbkofmobcacDoorRows
import GoSem.ClaimSeven
namespace Go.Proofs.YtklknbkofmobcacDoor
namespace Rows

/-- THE TIED CARD OF 'metronomelaw.PartTables'. -/
def partTablesCard : Claim7 := { stood := { row := partTablesRow, standIns := [], harness := (true, "0e3ef8c7beadab91cc0f50408b7ee1ddbc4931e31f7c85dedd80b20c02030603"), looks := true }, kinds := [], alts := [], laidByText := true, laidKinds := [.handle, .data], laidTests := true, laidLooks := .later }
def PartTablesCardSaid : Prop := Claim7.holds Tryd.pinned (.plain (OpenSpec.ofChange partTablesSpec)) partTablesCard

/-- THE SECOND FORM's CARD OF 'metronomelaw.PartTables'. -/
def partTablesUptoCard : Claim7 := { stood := { row := partTablesUptoRow, standIns := [], harness := (true, "0e3ef8c7beadab91cc0f50408b7ee1ddbc4931e31f7c85dedd80b20c02030603"), looks := true }, kinds := [], alts := [], laidByText := true, laidKinds := [.handle, .data], laidTests := true, laidLooks := .later }
def PartTablesUptoCardSaid : Prop := Claim7.holds Tryd.pinned (.plain (OpenSpec.upto partTablesSpec)) partTablesUptoCard
end Rows
end Go.Proofs.YtklknbkofmobcacDoor
