/-
  DERIVED. GIVEN WITH THE SEED: THE CARDS: each row of YtklmmkcbogcbaaaDoorRows.lean that lists a variable, with what it lists TIED to the program's text (the seventh form; the later family's looks); each row that meets fmt, with fmt's text TOLD by the authors' own Lean function (tested against real Go, not proved from fmt's source: count such statements apart). THE CARD IS WHAT COUNTS. Prove the row's statement (the work); the ties are given (YtklmmkcbogcbaaaDoorTie.lean); close each card by the builder's one call (the guide's Derived/Test/ToyasCard.lean, 'card_holds'). Laid BY PROGRAM, IN A SANDBOX (cutbox-door.mjs). By AI agents, Wed Nov 11 2026. No macro, syntax, notation, axiom, sorry.
-/
import Derived.Test.YtklmmkcbogcbaaaDoorRows
import GoSem.ClaimSeven
namespace Go.Proofs.YtklmmkcbogcbaaaDoor
namespace Rows

/-- THE TIED CARD OF 'withylaw07.HeadTells'. -/
def headTellsCard : Claim7 := { stood := { row := headTellsRow, standIns := [], harness := (true, "4592af2def965632633db57c41bea7f40c7f11caae67cf8bcc87473102df4e89"), looks := true }, kinds := [], alts := [], laidByText := true, laidKinds := [.data], laidTests := true, laidLooks := .later }
def HeadTellsCardSaid : Prop := Claim7.holds Tryd.pinned (.plain (OpenSpec.ofChange headTellsSpec)) headTellsCard

/-- THE TIED CARD OF 'withylaw07.HeadBack'. -/
def headBackCard : Claim7 := { stood := { row := headBackRow, standIns := [], harness := (true, "4592af2def965632633db57c41bea7f40c7f11caae67cf8bcc87473102df4e89"), looks := true }, kinds := [], alts := [], laidByText := true, laidKinds := [.data], laidTests := true, laidLooks := .later }
def HeadBackCardSaid : Prop := Claim7.holds Tryd.pinned (.plain (OpenSpec.ofChange headBackSpec)) headBackCard

/-- THE TIED CARD OF 'withylaw07.HeadBurst'. -/
def headBurstCard : Claim7 := { stood := { row := headBurstRow, standIns := [], harness := (true, "4592af2def965632633db57c41bea7f40c7f11caae67cf8bcc87473102df4e89"), looks := true }, kinds := [], alts := [], laidByText := true, laidKinds := [.data], laidTests := true, laidLooks := .later }
def HeadBurstCardSaid : Prop := Claim7.holds Tryd.pinned (.plain (OpenSpec.ofChange headBurstSpec)) headBurstCard

/-- THE TIED CARD OF 'withylaw07.HeadFields'. -/
def headFieldsCard : Claim7 := { stood := { row := headFieldsRow, standIns := [], harness := (true, "4592af2def965632633db57c41bea7f40c7f11caae67cf8bcc87473102df4e89"), looks := true }, kinds := [], alts := [], laidByText := true, laidKinds := [.data], laidTests := true, laidLooks := .later }
def HeadFieldsCardSaid : Prop := Claim7.holds Tryd.pinned (.plain (OpenSpec.ofChange headFieldsSpec)) headFieldsCard

/-- THE TIED CARD OF 'withylaw07.HeadSides'. -/
def headSidesCard : Claim7 := { stood := { row := headSidesRow, standIns := [], harness := (true, "4592af2def965632633db57c41bea7f40c7f11caae67cf8bcc87473102df4e89"), looks := true }, kinds := [], alts := [], laidByText := true, laidKinds := [.data], laidTests := true, laidLooks := .later }
def HeadSidesCardSaid : Prop := Claim7.holds Tryd.pinned (.plain (OpenSpec.ofChange headSidesSpec)) headSidesCard

/-- THE TIED CARD OF 'withylaw07.HeadSpare'. -/
def headSpareCard : Claim7 := { stood := { row := headSpareRow, standIns := [], harness := (true, "4592af2def965632633db57c41bea7f40c7f11caae67cf8bcc87473102df4e89"), looks := true }, kinds := [], alts := [], laidByText := true, laidKinds := [.data], laidTests := true, laidLooks := .later }
def HeadSpareCardSaid : Prop := Claim7.holds Tryd.pinned (.plain (OpenSpec.ofChange headSpareSpec)) headSpareCard

/-- THE SECOND FORM's CARD OF 'withylaw07.HeadTells'. -/
def headTellsUptoCard : Claim7 := { stood := { row := headTellsUptoRow, standIns := [], harness := (true, "4592af2def965632633db57c41bea7f40c7f11caae67cf8bcc87473102df4e89"), looks := true }, kinds := [], alts := [], laidByText := true, laidKinds := [.data], laidTests := true, laidLooks := .later }
def HeadTellsUptoCardSaid : Prop := Claim7.holds Tryd.pinned (.plain (OpenSpec.upto headTellsSpec)) headTellsUptoCard

/-- THE SECOND FORM's CARD OF 'withylaw07.HeadBack'. -/
def headBackUptoCard : Claim7 := { stood := { row := headBackUptoRow, standIns := [], harness := (true, "4592af2def965632633db57c41bea7f40c7f11caae67cf8bcc87473102df4e89"), looks := true }, kinds := [], alts := [], laidByText := true, laidKinds := [.data], laidTests := true, laidLooks := .later }
def HeadBackUptoCardSaid : Prop := Claim7.holds Tryd.pinned (.plain (OpenSpec.upto headBackSpec)) headBackUptoCard

/-- THE SECOND FORM's CARD OF 'withylaw07.HeadBurst'. -/
def headBurstUptoCard : Claim7 := { stood := { row := headBurstUptoRow, standIns := [], harness := (true, "4592af2def965632633db57c41bea7f40c7f11caae67cf8bcc87473102df4e89"), looks := true }, kinds := [], alts := [], laidByText := true, laidKinds := [.data], laidTests := true, laidLooks := .later }
def HeadBurstUptoCardSaid : Prop := Claim7.holds Tryd.pinned (.plain (OpenSpec.upto headBurstSpec)) headBurstUptoCard

/-- THE SECOND FORM's CARD OF 'withylaw07.HeadFields'. -/
def headFieldsUptoCard : Claim7 := { stood := { row := headFieldsUptoRow, standIns := [], harness := (true, "4592af2def965632633db57c41bea7f40c7f11caae67cf8bcc87473102df4e89"), looks := true }, kinds := [], alts := [], laidByText := true, laidKinds := [.data], laidTests := true, laidLooks := .later }
def HeadFieldsUptoCardSaid : Prop := Claim7.holds Tryd.pinned (.plain (OpenSpec.upto headFieldsSpec)) headFieldsUptoCard

/-- THE SECOND FORM's CARD OF 'withylaw07.HeadSides'. -/
def headSidesUptoCard : Claim7 := { stood := { row := headSidesUptoRow, standIns := [], harness := (true, "4592af2def965632633db57c41bea7f40c7f11caae67cf8bcc87473102df4e89"), looks := true }, kinds := [], alts := [], laidByText := true, laidKinds := [.data], laidTests := true, laidLooks := .later }
def HeadSidesUptoCardSaid : Prop := Claim7.holds Tryd.pinned (.plain (OpenSpec.upto headSidesSpec)) headSidesUptoCard

/-- THE SECOND FORM's CARD OF 'withylaw07.HeadSpare'. -/
def headSpareUptoCard : Claim7 := { stood := { row := headSpareUptoRow, standIns := [], harness := (true, "4592af2def965632633db57c41bea7f40c7f11caae67cf8bcc87473102df4e89"), looks := true }, kinds := [], alts := [], laidByText := true, laidKinds := [.data], laidTests := true, laidLooks := .later }
def HeadSpareUptoCardSaid : Prop := Claim7.holds Tryd.pinned (.plain (OpenSpec.upto headSpareSpec)) headSpareUptoCard
end Rows
end Go.Proofs.YtklmmkcbogcbaaaDoor
