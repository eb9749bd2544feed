/-
  DERIVED. GIVEN WITH THE SEED: THE CARDS: each row of YtpeghilfldpgfaaGreatDoorRows.lean that lists a variable, with what it lists TIED to the program's text (the seventh form; the later family's looks); each row that meets fmt, with fmt's text TOLD by the authors' own Lean function (tested against real Go, not proved from fmt's source: count such statements apart). THE CARD IS WHAT COUNTS. Prove the row's statement (the work); the ties are given (YtpeghilfldpgfaaGreatDoorTie.lean); close each card by the builder's one call (the guide's Derived/Test/ToyasCard.lean, 'card_holds'). Laid BY PROGRAM, IN A SANDBOX (cutbox-door.mjs). By AI agents, Wed Nov 11 2026. No macro, syntax, notation, axiom, sorry.
-/
import Derived.Test.YtpeghilfldpgfaaGreatDoorRows
import GoSem.ClaimSeven
namespace Go.Proofs.YtpeghilfldpgfaaGreatDoor
namespace Rows

/-- THE TIED CARD OF 'withylaw14.PageTells'. -/
def pageTellsCard : Claim7 := { stood := { row := pageTellsRow, standIns := [], harness := (true, "ce10d8b67131cbfb0275352eabcf619518cc00b7d72d01189a5dd0418af235ea"), looks := true }, kinds := [], alts := [], laidByText := true, laidKinds := [.data, .data, .data, .handle, .data], laidTests := true, laidLooks := .later }
def PageTellsCardSaid : Prop := Claim7.holds Tryz.pinned (.plain (OpenSpec.ofChange pageTellsSpec)) pageTellsCard

/-- THE TIED CARD OF 'withylaw14.PageOne'. -/
def pageOneCard : Claim7 := { stood := { row := pageOneRow, standIns := [], harness := (true, "ce10d8b67131cbfb0275352eabcf619518cc00b7d72d01189a5dd0418af235ea"), looks := true }, kinds := [], alts := [], laidByText := true, laidKinds := [.data, .data, .data, .handle, .data], laidTests := true, laidLooks := .later }
def PageOneCardSaid : Prop := Claim7.holds Tryz.pinned (.plain (OpenSpec.ofChange pageOneSpec)) pageOneCard

/-- THE TIED CARD OF 'withylaw14.PageMoves'. -/
def pageMovesCard : Claim7 := { stood := { row := pageMovesRow, standIns := [], harness := (true, "ce10d8b67131cbfb0275352eabcf619518cc00b7d72d01189a5dd0418af235ea"), looks := true }, kinds := [], alts := [], laidByText := true, laidKinds := [.data, .data, .data, .handle, .data], laidTests := true, laidLooks := .later }
def PageMovesCardSaid : Prop := Claim7.holds Tryz.pinned (.plain (OpenSpec.ofChange pageMovesSpec)) pageMovesCard

/-- THE TIED CARD OF 'withylaw14.PageEach'. -/
def pageEachCard : Claim7 := { stood := { row := pageEachRow, standIns := [], harness := (true, "ce10d8b67131cbfb0275352eabcf619518cc00b7d72d01189a5dd0418af235ea"), looks := true }, kinds := [], alts := [], laidByText := true, laidKinds := [.data, .data, .data, .handle, .data], laidTests := true, laidLooks := .later }
def PageEachCardSaid : Prop := Claim7.holds Tryz.pinned (.plain (OpenSpec.ofChange pageEachSpec)) pageEachCard

/-- THE TIED CARD OF 'withylaw14.PageBurst'. -/
def pageBurstCard : Claim7 := { stood := { row := pageBurstRow, standIns := [], harness := (true, "ce10d8b67131cbfb0275352eabcf619518cc00b7d72d01189a5dd0418af235ea"), looks := true }, kinds := [], alts := [], laidByText := true, laidKinds := [.data, .data, .data, .handle, .data], laidTests := true, laidLooks := .later }
def PageBurstCardSaid : Prop := Claim7.holds Tryz.pinned (.plain (OpenSpec.ofChange pageBurstSpec)) pageBurstCard

/-- THE TIED CARD OF 'withylaw14.PageNone'. -/
def pageNoneCard : Claim7 := { stood := { row := pageNoneRow, standIns := [], harness := (true, "ce10d8b67131cbfb0275352eabcf619518cc00b7d72d01189a5dd0418af235ea"), looks := true }, kinds := [], alts := [], laidByText := true, laidKinds := [.data, .data, .data, .handle, .data], laidTests := true, laidLooks := .later }
def PageNoneCardSaid : Prop := Claim7.holds Tryz.pinned (.plain (OpenSpec.ofChange pageNoneSpec)) pageNoneCard

/-- THE SECOND FORM's CARD OF 'withylaw14.PageTells'. -/
def pageTellsUptoCard : Claim7 := { stood := { row := pageTellsUptoRow, standIns := [], harness := (true, "ce10d8b67131cbfb0275352eabcf619518cc00b7d72d01189a5dd0418af235ea"), looks := true }, kinds := [], alts := [], laidByText := true, laidKinds := [.data, .data, .data, .handle, .data], laidTests := true, laidLooks := .later }
def PageTellsUptoCardSaid : Prop := Claim7.holds Tryz.pinned (.plain (OpenSpec.upto pageTellsSpec)) pageTellsUptoCard

/-- THE SECOND FORM's CARD OF 'withylaw14.PageOne'. -/
def pageOneUptoCard : Claim7 := { stood := { row := pageOneUptoRow, standIns := [], harness := (true, "ce10d8b67131cbfb0275352eabcf619518cc00b7d72d01189a5dd0418af235ea"), looks := true }, kinds := [], alts := [], laidByText := true, laidKinds := [.data, .data, .data, .handle, .data], laidTests := true, laidLooks := .later }
def PageOneUptoCardSaid : Prop := Claim7.holds Tryz.pinned (.plain (OpenSpec.upto pageOneSpec)) pageOneUptoCard

/-- THE SECOND FORM's CARD OF 'withylaw14.PageMoves'. -/
def pageMovesUptoCard : Claim7 := { stood := { row := pageMovesUptoRow, standIns := [], harness := (true, "ce10d8b67131cbfb0275352eabcf619518cc00b7d72d01189a5dd0418af235ea"), looks := true }, kinds := [], alts := [], laidByText := true, laidKinds := [.data, .data, .data, .handle, .data], laidTests := true, laidLooks := .later }
def PageMovesUptoCardSaid : Prop := Claim7.holds Tryz.pinned (.plain (OpenSpec.upto pageMovesSpec)) pageMovesUptoCard

/-- THE SECOND FORM's CARD OF 'withylaw14.PageEach'. -/
def pageEachUptoCard : Claim7 := { stood := { row := pageEachUptoRow, standIns := [], harness := (true, "ce10d8b67131cbfb0275352eabcf619518cc00b7d72d01189a5dd0418af235ea"), looks := true }, kinds := [], alts := [], laidByText := true, laidKinds := [.data, .data, .data, .handle, .data], laidTests := true, laidLooks := .later }
def PageEachUptoCardSaid : Prop := Claim7.holds Tryz.pinned (.plain (OpenSpec.upto pageEachSpec)) pageEachUptoCard

/-- THE SECOND FORM's CARD OF 'withylaw14.PageBurst'. -/
def pageBurstUptoCard : Claim7 := { stood := { row := pageBurstUptoRow, standIns := [], harness := (true, "ce10d8b67131cbfb0275352eabcf619518cc00b7d72d01189a5dd0418af235ea"), looks := true }, kinds := [], alts := [], laidByText := true, laidKinds := [.data, .data, .data, .handle, .data], laidTests := true, laidLooks := .later }
def PageBurstUptoCardSaid : Prop := Claim7.holds Tryz.pinned (.plain (OpenSpec.upto pageBurstSpec)) pageBurstUptoCard

/-- THE SECOND FORM's CARD OF 'withylaw14.PageNone'. -/
def pageNoneUptoCard : Claim7 := { stood := { row := pageNoneUptoRow, standIns := [], harness := (true, "ce10d8b67131cbfb0275352eabcf619518cc00b7d72d01189a5dd0418af235ea"), looks := true }, kinds := [], alts := [], laidByText := true, laidKinds := [.data, .data, .data, .handle, .data], laidTests := true, laidLooks := .later }
def PageNoneUptoCardSaid : Prop := Claim7.holds Tryz.pinned (.plain (OpenSpec.upto pageNoneSpec)) pageNoneUptoCard
end Rows
end Go.Proofs.YtpeghilfldpgfaaGreatDoor
