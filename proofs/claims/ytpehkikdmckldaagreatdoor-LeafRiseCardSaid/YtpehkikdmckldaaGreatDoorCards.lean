/-
  DERIVED. GIVEN WITH THE SEED: THE CARDS: each row of YtpehkikdmckldaaGreatDoorRows.lean that lists a variable, with what it lists TIED to the program's text (the seventh form; the later family's looks); each row that meets fmt, with fmt's text TOLD by the authors' own Lean function (tested against real Go, not proved from fmt's source: count such statements apart). THE CARD IS WHAT COUNTS. Prove the row's statement (the work); the ties are given (YtpehkikdmckldaaGreatDoorTie.lean); close each card by the builder's one call (the guide's Derived/Test/ToyasCard.lean, 'card_holds'). Laid BY PROGRAM, IN A SANDBOX (cutbox-door.mjs). By AI agents, Wed Nov 11 2026. No macro, syntax, notation, axiom, sorry.
-/
import Derived.Test.YtpehkikdmckldaaGreatDoorRows
import GoSem.ClaimSeven
namespace Go.Proofs.YtpehkikdmckldaaGreatDoor
namespace Rows

/-- THE TIED CARD OF 'withylaw10.LeafTells'. -/
def leafTellsCard : Claim7 := { stood := { row := leafTellsRow, standIns := [], harness := (true, "d8f4f9d548234250e1191af179cc8c9eeb8432c4ec600606c0efcd497795c7dc"), looks := true }, kinds := [], alts := [], laidByText := true, laidKinds := [.data, .data, .data, .handle, .data], laidTests := true, laidLooks := .later }
def LeafTellsCardSaid : Prop := Claim7.holds Tryz.pinned (.plain (OpenSpec.ofChange leafTellsSpec)) leafTellsCard

/-- THE TIED CARD OF 'withylaw10.LeafBack'. -/
def leafBackCard : Claim7 := { stood := { row := leafBackRow, standIns := [], harness := (true, "d8f4f9d548234250e1191af179cc8c9eeb8432c4ec600606c0efcd497795c7dc"), looks := true }, kinds := [], alts := [], laidByText := true, laidKinds := [.data, .data, .data, .handle, .data], laidTests := true, laidLooks := .later }
def LeafBackCardSaid : Prop := Claim7.holds Tryz.pinned (.plain (OpenSpec.ofChange leafBackSpec)) leafBackCard

/-- THE TIED CARD OF 'withylaw10.LeafOne'. -/
def leafOneCard : Claim7 := { stood := { row := leafOneRow, standIns := [], harness := (true, "d8f4f9d548234250e1191af179cc8c9eeb8432c4ec600606c0efcd497795c7dc"), looks := true }, kinds := [], alts := [], laidByText := true, laidKinds := [.data, .data, .data, .handle, .data], laidTests := true, laidLooks := .later }
def LeafOneCardSaid : Prop := Claim7.holds Tryz.pinned (.plain (OpenSpec.ofChange leafOneSpec)) leafOneCard

/-- THE TIED CARD OF 'withylaw10.LeafRise'. -/
def leafRiseCard : Claim7 := { stood := { row := leafRiseRow, standIns := [], harness := (true, "d8f4f9d548234250e1191af179cc8c9eeb8432c4ec600606c0efcd497795c7dc"), looks := true }, kinds := [], alts := [], laidByText := true, laidKinds := [.data, .data, .data, .handle, .data], laidTests := true, laidLooks := .later }
def LeafRiseCardSaid : Prop := Claim7.holds Tryz.pinned (.plain (OpenSpec.ofChange leafRiseSpec)) leafRiseCard

/-- THE TIED CARD OF 'withylaw10.LeafStrip'. -/
def leafStripCard : Claim7 := { stood := { row := leafStripRow, standIns := [], harness := (true, "d8f4f9d548234250e1191af179cc8c9eeb8432c4ec600606c0efcd497795c7dc"), looks := true }, kinds := [], alts := [], laidByText := true, laidKinds := [.data, .data, .data, .handle, .data], laidTests := true, laidLooks := .later }
def LeafStripCardSaid : Prop := Claim7.holds Tryz.pinned (.plain (OpenSpec.ofChange leafStripSpec)) leafStripCard

/-- THE TIED CARD OF 'withylaw10.LeafEach'. -/
def leafEachCard : Claim7 := { stood := { row := leafEachRow, standIns := [], harness := (true, "d8f4f9d548234250e1191af179cc8c9eeb8432c4ec600606c0efcd497795c7dc"), looks := true }, kinds := [], alts := [], laidByText := true, laidKinds := [.data, .data, .data, .handle, .data], laidTests := true, laidLooks := .later }
def LeafEachCardSaid : Prop := Claim7.holds Tryz.pinned (.plain (OpenSpec.ofChange leafEachSpec)) leafEachCard

/-- THE SECOND FORM's CARD OF 'withylaw10.LeafTells'. -/
def leafTellsUptoCard : Claim7 := { stood := { row := leafTellsUptoRow, standIns := [], harness := (true, "d8f4f9d548234250e1191af179cc8c9eeb8432c4ec600606c0efcd497795c7dc"), looks := true }, kinds := [], alts := [], laidByText := true, laidKinds := [.data, .data, .data, .handle, .data], laidTests := true, laidLooks := .later }
def LeafTellsUptoCardSaid : Prop := Claim7.holds Tryz.pinned (.plain (OpenSpec.upto leafTellsSpec)) leafTellsUptoCard

/-- THE SECOND FORM's CARD OF 'withylaw10.LeafBack'. -/
def leafBackUptoCard : Claim7 := { stood := { row := leafBackUptoRow, standIns := [], harness := (true, "d8f4f9d548234250e1191af179cc8c9eeb8432c4ec600606c0efcd497795c7dc"), looks := true }, kinds := [], alts := [], laidByText := true, laidKinds := [.data, .data, .data, .handle, .data], laidTests := true, laidLooks := .later }
def LeafBackUptoCardSaid : Prop := Claim7.holds Tryz.pinned (.plain (OpenSpec.upto leafBackSpec)) leafBackUptoCard

/-- THE SECOND FORM's CARD OF 'withylaw10.LeafOne'. -/
def leafOneUptoCard : Claim7 := { stood := { row := leafOneUptoRow, standIns := [], harness := (true, "d8f4f9d548234250e1191af179cc8c9eeb8432c4ec600606c0efcd497795c7dc"), looks := true }, kinds := [], alts := [], laidByText := true, laidKinds := [.data, .data, .data, .handle, .data], laidTests := true, laidLooks := .later }
def LeafOneUptoCardSaid : Prop := Claim7.holds Tryz.pinned (.plain (OpenSpec.upto leafOneSpec)) leafOneUptoCard

/-- THE SECOND FORM's CARD OF 'withylaw10.LeafRise'. -/
def leafRiseUptoCard : Claim7 := { stood := { row := leafRiseUptoRow, standIns := [], harness := (true, "d8f4f9d548234250e1191af179cc8c9eeb8432c4ec600606c0efcd497795c7dc"), looks := true }, kinds := [], alts := [], laidByText := true, laidKinds := [.data, .data, .data, .handle, .data], laidTests := true, laidLooks := .later }
def LeafRiseUptoCardSaid : Prop := Claim7.holds Tryz.pinned (.plain (OpenSpec.upto leafRiseSpec)) leafRiseUptoCard

/-- THE SECOND FORM's CARD OF 'withylaw10.LeafStrip'. -/
def leafStripUptoCard : Claim7 := { stood := { row := leafStripUptoRow, standIns := [], harness := (true, "d8f4f9d548234250e1191af179cc8c9eeb8432c4ec600606c0efcd497795c7dc"), looks := true }, kinds := [], alts := [], laidByText := true, laidKinds := [.data, .data, .data, .handle, .data], laidTests := true, laidLooks := .later }
def LeafStripUptoCardSaid : Prop := Claim7.holds Tryz.pinned (.plain (OpenSpec.upto leafStripSpec)) leafStripUptoCard

/-- THE SECOND FORM's CARD OF 'withylaw10.LeafEach'. -/
def leafEachUptoCard : Claim7 := { stood := { row := leafEachUptoRow, standIns := [], harness := (true, "d8f4f9d548234250e1191af179cc8c9eeb8432c4ec600606c0efcd497795c7dc"), looks := true }, kinds := [], alts := [], laidByText := true, laidKinds := [.data, .data, .data, .handle, .data], laidTests := true, laidLooks := .later }
def LeafEachUptoCardSaid : Prop := Claim7.holds Tryz.pinned (.plain (OpenSpec.upto leafEachSpec)) leafEachUptoCard
end Rows
end Go.Proofs.YtpehkikdmckldaaGreatDoor
