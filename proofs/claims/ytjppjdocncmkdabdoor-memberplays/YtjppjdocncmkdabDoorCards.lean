/-
  DERIVED. GIVEN WITH THE SEED: THE CARDS: each row of YtjppjdocncmkdabDoorRows.lean that lists a variable, with what it lists TIED to the program's text (the seventh form; the later family's looks); each row that meets fmt, with fmt's text TOLD by the authors' own Lean function (tested against real Go, not proved from fmt's source: count such statements apart). THE CARD IS WHAT COUNTS. Prove the row's statement (the work); the ties are given (YtjppjdocncmkdabDoorTie.lean); close each card by the builder's one call (the guide's Derived/Test/ToyasCard.lean, 'card_holds'). Laid BY PROGRAM, IN A SANDBOX (cutbox-door.mjs). By AI agents, Wed Nov 11 2026. No macro, syntax, notation, axiom, sorry.
-/
import Derived.Test.YtjppjdocncmkdabDoorRows
import GoSem.ClaimSeven
namespace Go.Proofs.YtjppjdocncmkdabDoor
namespace Rows

/-- THE TIED CARD OF 'metronomelaw.AgreeMidpoint'. -/
def agreeMidpointCard : Claim7 := { stood := { row := agreeMidpointRow, standIns := [], harness := (true, "4ec22b4f76893368a059141a8aeff605543e0aedffcd565bdf2f93210b88ea88"), looks := true }, kinds := [], alts := [], laidByText := true, laidKinds := [.handle], laidTests := true, laidLooks := .later }
def AgreeMidpointCardSaid : Prop := Claim7.holds Tryd.pinned (.plain (OpenSpec.ofChange agreeMidpointSpec)) agreeMidpointCard

/-- THE TIED CARD OF 'metronomelaw.AgreeRound'. -/
def agreeRoundCard : Claim7 := { stood := { row := agreeRoundRow, standIns := [], harness := (true, "4ec22b4f76893368a059141a8aeff605543e0aedffcd565bdf2f93210b88ea88"), looks := true }, kinds := [], alts := [], laidByText := true, laidKinds := [.handle, .data], laidTests := true, laidLooks := .later }
def AgreeRoundCardSaid : Prop := Claim7.holds Tryd.pinned (.plain (OpenSpec.ofChange agreeRoundSpec)) agreeRoundCard

/-- THE TIED CARD OF 'metronomekeep.AgreeHalves'. -/
def agreeHalvesCard : Claim7 := { stood := { row := agreeHalvesRow, standIns := [], harness := (true, "4ec22b4f76893368a059141a8aeff605543e0aedffcd565bdf2f93210b88ea88"), looks := true }, kinds := [], alts := [], laidByText := true, laidKinds := [.handle], laidTests := true, laidLooks := .later }
def AgreeHalvesCardSaid : Prop := Claim7.holds Tryd.pinned (.plain (OpenSpec.ofChange agreeHalvesSpec)) agreeHalvesCard

/-- THE TIED CARD OF 'metronomelaw.GuardOpens'. -/
def guardOpensCard : Claim7 := { stood := { row := guardOpensRow, standIns := [], harness := (true, "4ec22b4f76893368a059141a8aeff605543e0aedffcd565bdf2f93210b88ea88"), looks := true }, kinds := [], alts := [], laidByText := true, laidKinds := [.handle], laidTests := true, laidLooks := .later }
def GuardOpensCardSaid : Prop := Claim7.holds Tryd.pinned (.plain (OpenSpec.ofChange guardOpensSpec)) guardOpensCard

/-- THE TIED CARD OF 'metronomelaw.MemberPlays'. -/
def memberPlaysCard : Claim7 := { stood := { row := memberPlaysRow, standIns := [], harness := (true, "4ec22b4f76893368a059141a8aeff605543e0aedffcd565bdf2f93210b88ea88"), looks := true }, kinds := [], alts := [], laidByText := true, laidKinds := [.handle], laidTests := true, laidLooks := .later }
def MemberPlaysCardSaid : Prop := Claim7.holds Tryd.pinned (.plain (OpenSpec.ofChange memberPlaysSpec)) memberPlaysCard

/-- THE SECOND FORM's CARD OF 'metronomelaw.AgreeMidpoint'. -/
def agreeMidpointUptoCard : Claim7 := { stood := { row := agreeMidpointUptoRow, standIns := [], harness := (true, "4ec22b4f76893368a059141a8aeff605543e0aedffcd565bdf2f93210b88ea88"), looks := true }, kinds := [], alts := [], laidByText := true, laidKinds := [.handle], laidTests := true, laidLooks := .later }
def AgreeMidpointUptoCardSaid : Prop := Claim7.holds Tryd.pinned (.plain (OpenSpec.upto agreeMidpointSpec)) agreeMidpointUptoCard

/-- THE SECOND FORM's CARD OF 'metronomelaw.AgreeRound'. -/
def agreeRoundUptoCard : Claim7 := { stood := { row := agreeRoundUptoRow, standIns := [], harness := (true, "4ec22b4f76893368a059141a8aeff605543e0aedffcd565bdf2f93210b88ea88"), looks := true }, kinds := [], alts := [], laidByText := true, laidKinds := [.handle, .data], laidTests := true, laidLooks := .later }
def AgreeRoundUptoCardSaid : Prop := Claim7.holds Tryd.pinned (.plain (OpenSpec.upto agreeRoundSpec)) agreeRoundUptoCard

/-- THE SECOND FORM's CARD OF 'metronomekeep.AgreeHalves'. -/
def agreeHalvesUptoCard : Claim7 := { stood := { row := agreeHalvesUptoRow, standIns := [], harness := (true, "4ec22b4f76893368a059141a8aeff605543e0aedffcd565bdf2f93210b88ea88"), looks := true }, kinds := [], alts := [], laidByText := true, laidKinds := [.handle], laidTests := true, laidLooks := .later }
def AgreeHalvesUptoCardSaid : Prop := Claim7.holds Tryd.pinned (.plain (OpenSpec.upto agreeHalvesSpec)) agreeHalvesUptoCard

/-- THE SECOND FORM's CARD OF 'metronomelaw.GuardOpens'. -/
def guardOpensUptoCard : Claim7 := { stood := { row := guardOpensUptoRow, standIns := [], harness := (true, "4ec22b4f76893368a059141a8aeff605543e0aedffcd565bdf2f93210b88ea88"), looks := true }, kinds := [], alts := [], laidByText := true, laidKinds := [.handle], laidTests := true, laidLooks := .later }
def GuardOpensUptoCardSaid : Prop := Claim7.holds Tryd.pinned (.plain (OpenSpec.upto guardOpensSpec)) guardOpensUptoCard

/-- THE SECOND FORM's CARD OF 'metronomelaw.MemberPlays'. -/
def memberPlaysUptoCard : Claim7 := { stood := { row := memberPlaysUptoRow, standIns := [], harness := (true, "4ec22b4f76893368a059141a8aeff605543e0aedffcd565bdf2f93210b88ea88"), looks := true }, kinds := [], alts := [], laidByText := true, laidKinds := [.handle], laidTests := true, laidLooks := .later }
def MemberPlaysUptoCardSaid : Prop := Claim7.holds Tryd.pinned (.plain (OpenSpec.upto memberPlaysSpec)) memberPlaysUptoCard
end Rows
end Go.Proofs.YtjppjdocncmkdabDoor
