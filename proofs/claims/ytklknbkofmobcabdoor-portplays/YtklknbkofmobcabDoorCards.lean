/-
  DERIVED. GIVEN WITH THE SEED: THE CARDS: each row of YtklknbkofmobcabDoorRows.lean that lists a variable, with what it lists TIED to the program's text (the seventh form; the later family's looks); each row that meets fmt, with fmt's text TOLD by the authors' own Lean function (tested against real Go, not proved from fmt's source: count such statements apart). THE CARD IS WHAT COUNTS. Prove the row's statement (the work); the ties are given (YtklknbkofmobcabDoorTie.lean); close each card by the builder's one call (the guide's Derived/Test/ToyasCard.lean, 'card_holds'). Laid BY PROGRAM, IN A SANDBOX (cutbox-door.mjs). By AI agents, Wed Nov 11 2026. No macro, syntax, notation, axiom, sorry.
-/
import Derived.Test.YtklknbkofmobcabDoorRows
import GoSem.ClaimSeven
namespace Go.Proofs.YtklknbkofmobcabDoor
namespace Rows

/-- THE TIED CARD OF 'metronomelaw.AgreeMidpoint'. -/
def agreeMidpointCard : Claim7 := { stood := { row := agreeMidpointRow, standIns := [], harness := (true, "b57c294aa48d14dce2dbe7735a44f489ce20a3badf9662fd0ffeb0ebb41c994a"), looks := true }, kinds := [], alts := [], laidByText := true, laidKinds := [.handle], laidTests := true, laidLooks := .later }
def AgreeMidpointCardSaid : Prop := Claim7.holds Tryd.pinned (.plain (OpenSpec.ofChange agreeMidpointSpec)) agreeMidpointCard

/-- THE TIED CARD OF 'metronomelaw.AgreeRound'. -/
def agreeRoundCard : Claim7 := { stood := { row := agreeRoundRow, standIns := [], harness := (true, "b57c294aa48d14dce2dbe7735a44f489ce20a3badf9662fd0ffeb0ebb41c994a"), looks := true }, kinds := [], alts := [], laidByText := true, laidKinds := [.handle, .data], laidTests := true, laidLooks := .later }
def AgreeRoundCardSaid : Prop := Claim7.holds Tryd.pinned (.plain (OpenSpec.ofChange agreeRoundSpec)) agreeRoundCard

/-- THE TIED CARD OF 'metronomekeep.AgreeHalves'. -/
def agreeHalvesCard : Claim7 := { stood := { row := agreeHalvesRow, standIns := [], harness := (true, "b57c294aa48d14dce2dbe7735a44f489ce20a3badf9662fd0ffeb0ebb41c994a"), looks := true }, kinds := [], alts := [], laidByText := true, laidKinds := [.handle], laidTests := true, laidLooks := .later }
def AgreeHalvesCardSaid : Prop := Claim7.holds Tryd.pinned (.plain (OpenSpec.ofChange agreeHalvesSpec)) agreeHalvesCard

/-- THE TIED CARD OF 'metronomelaw.GuardOpens'. -/
def guardOpensCard : Claim7 := { stood := { row := guardOpensRow, standIns := [], harness := (true, "b57c294aa48d14dce2dbe7735a44f489ce20a3badf9662fd0ffeb0ebb41c994a"), looks := true }, kinds := [], alts := [], laidByText := true, laidKinds := [.handle], laidTests := true, laidLooks := .later }
def GuardOpensCardSaid : Prop := Claim7.holds Tryd.pinned (.plain (OpenSpec.ofChange guardOpensSpec)) guardOpensCard

/-- THE TIED CARD OF 'metronomelaw.MemberPlays'. -/
def memberPlaysCard : Claim7 := { stood := { row := memberPlaysRow, standIns := [], harness := (true, "b57c294aa48d14dce2dbe7735a44f489ce20a3badf9662fd0ffeb0ebb41c994a"), looks := true }, kinds := [], alts := [], laidByText := true, laidKinds := [.handle], laidTests := true, laidLooks := .later }
def MemberPlaysCardSaid : Prop := Claim7.holds Tryd.pinned (.plain (OpenSpec.ofChange memberPlaysSpec)) memberPlaysCard

/-- THE TIED CARD OF 'metronomelaw.VlinkSends'. -/
def vlinkSendsCard : Claim7 := { stood := { row := vlinkSendsRow, standIns := [], harness := (true, "b57c294aa48d14dce2dbe7735a44f489ce20a3badf9662fd0ffeb0ebb41c994a"), looks := true }, kinds := [], alts := [], laidByText := true, laidKinds := [.handle], laidTests := true, laidLooks := .later }
def VlinkSendsCardSaid : Prop := Claim7.holds Tryd.pinned (.plain (OpenSpec.ofChange vlinkSendsSpec)) vlinkSendsCard

/-- THE TIED CARD OF 'metronomelaw.PortPlays'. -/
def portPlaysCard : Claim7 := { stood := { row := portPlaysRow, standIns := [], harness := (true, "b57c294aa48d14dce2dbe7735a44f489ce20a3badf9662fd0ffeb0ebb41c994a"), looks := true }, kinds := [], alts := [], laidByText := true, laidKinds := [.handle], laidTests := true, laidLooks := .later }
def PortPlaysCardSaid : Prop := Claim7.holds Tryd.pinned (.plain (OpenSpec.ofChange portPlaysSpec)) portPlaysCard

/-- THE SECOND FORM's CARD OF 'metronomelaw.AgreeMidpoint'. -/
def agreeMidpointUptoCard : Claim7 := { stood := { row := agreeMidpointUptoRow, standIns := [], harness := (true, "b57c294aa48d14dce2dbe7735a44f489ce20a3badf9662fd0ffeb0ebb41c994a"), looks := true }, kinds := [], alts := [], laidByText := true, laidKinds := [.handle], laidTests := true, laidLooks := .later }
def AgreeMidpointUptoCardSaid : Prop := Claim7.holds Tryd.pinned (.plain (OpenSpec.upto agreeMidpointSpec)) agreeMidpointUptoCard

/-- THE SECOND FORM's CARD OF 'metronomelaw.AgreeRound'. -/
def agreeRoundUptoCard : Claim7 := { stood := { row := agreeRoundUptoRow, standIns := [], harness := (true, "b57c294aa48d14dce2dbe7735a44f489ce20a3badf9662fd0ffeb0ebb41c994a"), looks := true }, kinds := [], alts := [], laidByText := true, laidKinds := [.handle, .data], laidTests := true, laidLooks := .later }
def AgreeRoundUptoCardSaid : Prop := Claim7.holds Tryd.pinned (.plain (OpenSpec.upto agreeRoundSpec)) agreeRoundUptoCard

/-- THE SECOND FORM's CARD OF 'metronomekeep.AgreeHalves'. -/
def agreeHalvesUptoCard : Claim7 := { stood := { row := agreeHalvesUptoRow, standIns := [], harness := (true, "b57c294aa48d14dce2dbe7735a44f489ce20a3badf9662fd0ffeb0ebb41c994a"), looks := true }, kinds := [], alts := [], laidByText := true, laidKinds := [.handle], laidTests := true, laidLooks := .later }
def AgreeHalvesUptoCardSaid : Prop := Claim7.holds Tryd.pinned (.plain (OpenSpec.upto agreeHalvesSpec)) agreeHalvesUptoCard

/-- THE SECOND FORM's CARD OF 'metronomelaw.GuardOpens'. -/
def guardOpensUptoCard : Claim7 := { stood := { row := guardOpensUptoRow, standIns := [], harness := (true, "b57c294aa48d14dce2dbe7735a44f489ce20a3badf9662fd0ffeb0ebb41c994a"), looks := true }, kinds := [], alts := [], laidByText := true, laidKinds := [.handle], laidTests := true, laidLooks := .later }
def GuardOpensUptoCardSaid : Prop := Claim7.holds Tryd.pinned (.plain (OpenSpec.upto guardOpensSpec)) guardOpensUptoCard

/-- THE SECOND FORM's CARD OF 'metronomelaw.MemberPlays'. -/
def memberPlaysUptoCard : Claim7 := { stood := { row := memberPlaysUptoRow, standIns := [], harness := (true, "b57c294aa48d14dce2dbe7735a44f489ce20a3badf9662fd0ffeb0ebb41c994a"), looks := true }, kinds := [], alts := [], laidByText := true, laidKinds := [.handle], laidTests := true, laidLooks := .later }
def MemberPlaysUptoCardSaid : Prop := Claim7.holds Tryd.pinned (.plain (OpenSpec.upto memberPlaysSpec)) memberPlaysUptoCard

/-- THE SECOND FORM's CARD OF 'metronomelaw.VlinkSends'. -/
def vlinkSendsUptoCard : Claim7 := { stood := { row := vlinkSendsUptoRow, standIns := [], harness := (true, "b57c294aa48d14dce2dbe7735a44f489ce20a3badf9662fd0ffeb0ebb41c994a"), looks := true }, kinds := [], alts := [], laidByText := true, laidKinds := [.handle], laidTests := true, laidLooks := .later }
def VlinkSendsUptoCardSaid : Prop := Claim7.holds Tryd.pinned (.plain (OpenSpec.upto vlinkSendsSpec)) vlinkSendsUptoCard

/-- THE SECOND FORM's CARD OF 'metronomelaw.PortPlays'. -/
def portPlaysUptoCard : Claim7 := { stood := { row := portPlaysUptoRow, standIns := [], harness := (true, "b57c294aa48d14dce2dbe7735a44f489ce20a3badf9662fd0ffeb0ebb41c994a"), looks := true }, kinds := [], alts := [], laidByText := true, laidKinds := [.handle], laidTests := true, laidLooks := .later }
def PortPlaysUptoCardSaid : Prop := Claim7.holds Tryd.pinned (.plain (OpenSpec.upto portPlaysSpec)) portPlaysUptoCard
end Rows
end Go.Proofs.YtklknbkofmobcabDoor
