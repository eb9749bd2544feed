/-
  DERIVED. GIVEN WITH THE SEED: THE CARDS: each row of YtembccehokodeaaGreatDoorRows.lean that lists a variable, with what it lists TIED to the program's text (the seventh form; the later family's looks); each row that meets fmt, with fmt's text TOLD by the authors' own Lean function (tested against real Go, not proved from fmt's source: count such statements apart). THE CARD IS WHAT COUNTS. Prove the row's statement (the work); the ties are given (YtembccehokodeaaGreatDoorTie.lean); close each card by the builder's one call (the guide's Derived/Test/ToyasCard.lean, 'card_holds'). Laid BY PROGRAM, IN A SANDBOX (cutbox-door.mjs). By AI agents, Wed Nov 11 2026. No macro, syntax, notation, axiom, sorry.
-/
import Derived.Test.YtembccehokodeaaGreatDoorRows
import GoSem.ClaimSeven
namespace Go.Proofs.YtembccehokodeaaGreatDoor
namespace Rows

/-- THE TIED CARD OF 'withylaw11.InnerTells'. -/
def innerTellsCard : Claim7 := { stood := { row := innerTellsRow, standIns := [], harness := (true, "52e789415144e024cfe7e7c31d70a0916b76c721cb6033cb3bf85ef371781f7b"), looks := true }, kinds := [], alts := [], laidByText := true, laidKinds := [.data], laidTests := true, laidLooks := .later }
def InnerTellsCardSaid : Prop := Claim7.holds Tryz.pinned (.plain (OpenSpec.ofChange innerTellsSpec)) innerTellsCard

/-- THE TIED CARD OF 'withylaw11.InnerBack'. -/
def innerBackCard : Claim7 := { stood := { row := innerBackRow, standIns := [], harness := (true, "52e789415144e024cfe7e7c31d70a0916b76c721cb6033cb3bf85ef371781f7b"), looks := true }, kinds := [], alts := [], laidByText := true, laidKinds := [.data], laidTests := true, laidLooks := .later }
def InnerBackCardSaid : Prop := Claim7.holds Tryz.pinned (.plain (OpenSpec.ofChange innerBackSpec)) innerBackCard

/-- THE TIED CARD OF 'withylaw11.InnerRoutes'. -/
def innerRoutesCard : Claim7 := { stood := { row := innerRoutesRow, standIns := [], harness := (true, "52e789415144e024cfe7e7c31d70a0916b76c721cb6033cb3bf85ef371781f7b"), looks := true }, kinds := [], alts := [], laidByText := true, laidKinds := [.data], laidTests := true, laidLooks := .later }
def InnerRoutesCardSaid : Prop := Claim7.holds Tryz.pinned (.plain (OpenSpec.ofChange innerRoutesSpec)) innerRoutesCard

/-- THE TIED CARD OF 'withylaw11.InnerTwo'. -/
def innerTwoCard : Claim7 := { stood := { row := innerTwoRow, standIns := [], harness := (true, "52e789415144e024cfe7e7c31d70a0916b76c721cb6033cb3bf85ef371781f7b"), looks := true }, kinds := [], alts := [], laidByText := true, laidKinds := [.data], laidTests := true, laidLooks := .later }
def InnerTwoCardSaid : Prop := Claim7.holds Tryz.pinned (.plain (OpenSpec.ofChange innerTwoSpec)) innerTwoCard

/-- THE TIED CARD OF 'withylaw11.InnerStrip'. -/
def innerStripCard : Claim7 := { stood := { row := innerStripRow, standIns := [], harness := (true, "52e789415144e024cfe7e7c31d70a0916b76c721cb6033cb3bf85ef371781f7b"), looks := true }, kinds := [], alts := [], laidByText := true, laidKinds := [.data], laidTests := true, laidLooks := .later }
def InnerStripCardSaid : Prop := Claim7.holds Tryz.pinned (.plain (OpenSpec.ofChange innerStripSpec)) innerStripCard

/-- THE TIED CARD OF 'withylaw11.InnerEach'. -/
def innerEachCard : Claim7 := { stood := { row := innerEachRow, standIns := [], harness := (true, "52e789415144e024cfe7e7c31d70a0916b76c721cb6033cb3bf85ef371781f7b"), looks := true }, kinds := [], alts := [], laidByText := true, laidKinds := [.data], laidTests := true, laidLooks := .later }
def InnerEachCardSaid : Prop := Claim7.holds Tryz.pinned (.plain (OpenSpec.ofChange innerEachSpec)) innerEachCard

/-- THE SECOND FORM's CARD OF 'withylaw11.InnerTells'. -/
def innerTellsUptoCard : Claim7 := { stood := { row := innerTellsUptoRow, standIns := [], harness := (true, "52e789415144e024cfe7e7c31d70a0916b76c721cb6033cb3bf85ef371781f7b"), looks := true }, kinds := [], alts := [], laidByText := true, laidKinds := [.data], laidTests := true, laidLooks := .later }
def InnerTellsUptoCardSaid : Prop := Claim7.holds Tryz.pinned (.plain (OpenSpec.upto innerTellsSpec)) innerTellsUptoCard

/-- THE SECOND FORM's CARD OF 'withylaw11.InnerBack'. -/
def innerBackUptoCard : Claim7 := { stood := { row := innerBackUptoRow, standIns := [], harness := (true, "52e789415144e024cfe7e7c31d70a0916b76c721cb6033cb3bf85ef371781f7b"), looks := true }, kinds := [], alts := [], laidByText := true, laidKinds := [.data], laidTests := true, laidLooks := .later }
def InnerBackUptoCardSaid : Prop := Claim7.holds Tryz.pinned (.plain (OpenSpec.upto innerBackSpec)) innerBackUptoCard

/-- THE SECOND FORM's CARD OF 'withylaw11.InnerRoutes'. -/
def innerRoutesUptoCard : Claim7 := { stood := { row := innerRoutesUptoRow, standIns := [], harness := (true, "52e789415144e024cfe7e7c31d70a0916b76c721cb6033cb3bf85ef371781f7b"), looks := true }, kinds := [], alts := [], laidByText := true, laidKinds := [.data], laidTests := true, laidLooks := .later }
def InnerRoutesUptoCardSaid : Prop := Claim7.holds Tryz.pinned (.plain (OpenSpec.upto innerRoutesSpec)) innerRoutesUptoCard

/-- THE SECOND FORM's CARD OF 'withylaw11.InnerTwo'. -/
def innerTwoUptoCard : Claim7 := { stood := { row := innerTwoUptoRow, standIns := [], harness := (true, "52e789415144e024cfe7e7c31d70a0916b76c721cb6033cb3bf85ef371781f7b"), looks := true }, kinds := [], alts := [], laidByText := true, laidKinds := [.data], laidTests := true, laidLooks := .later }
def InnerTwoUptoCardSaid : Prop := Claim7.holds Tryz.pinned (.plain (OpenSpec.upto innerTwoSpec)) innerTwoUptoCard

/-- THE SECOND FORM's CARD OF 'withylaw11.InnerStrip'. -/
def innerStripUptoCard : Claim7 := { stood := { row := innerStripUptoRow, standIns := [], harness := (true, "52e789415144e024cfe7e7c31d70a0916b76c721cb6033cb3bf85ef371781f7b"), looks := true }, kinds := [], alts := [], laidByText := true, laidKinds := [.data], laidTests := true, laidLooks := .later }
def InnerStripUptoCardSaid : Prop := Claim7.holds Tryz.pinned (.plain (OpenSpec.upto innerStripSpec)) innerStripUptoCard

/-- THE SECOND FORM's CARD OF 'withylaw11.InnerEach'. -/
def innerEachUptoCard : Claim7 := { stood := { row := innerEachUptoRow, standIns := [], harness := (true, "52e789415144e024cfe7e7c31d70a0916b76c721cb6033cb3bf85ef371781f7b"), looks := true }, kinds := [], alts := [], laidByText := true, laidKinds := [.data], laidTests := true, laidLooks := .later }
def InnerEachUptoCardSaid : Prop := Claim7.holds Tryz.pinned (.plain (OpenSpec.upto innerEachSpec)) innerEachUptoCard
end Rows
end Go.Proofs.YtembccehokodeaaGreatDoor
