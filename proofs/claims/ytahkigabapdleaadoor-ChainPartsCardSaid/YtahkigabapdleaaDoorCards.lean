/-
  DERIVED. GIVEN WITH THE SEED: THE CARDS: each row of YtahkigabapdleaaDoorRows.lean that lists a variable, with what it lists TIED to the program's text (the seventh form; the later family's looks); each row that meets fmt, with fmt's text TOLD by the authors' own Lean function (tested against real Go, not proved from fmt's source: count such statements apart). THE CARD IS WHAT COUNTS. Prove the row's statement (the work); the ties are given (YtahkigabapdleaaDoorTie.lean); close each card by the builder's one call (the guide's Derived/Test/ToyasCard.lean, 'card_holds'). Laid BY PROGRAM, IN A SANDBOX (cutbox-door.mjs). By AI agents, Wed Nov 11 2026. No macro, syntax, notation, axiom, sorry.
-/
import Derived.Test.YtahkigabapdleaaDoorRows
import GoSem.ClaimSeven
namespace Go.Proofs.YtahkigabapdleaaDoor
namespace Rows

/-- THE TIED CARD OF 'withylaw12.ChainTells'. -/
def chainTellsCard : Claim7 := { stood := { row := chainTellsRow, standIns := [], harness := (true, "354b20a3237f1cb7cf3eeaef72affcd0cad9e647b476e9ff32d715421af5db9d"), looks := true }, kinds := [], alts := [], laidByText := true, laidKinds := [.data], laidTests := true, laidLooks := .later }
def ChainTellsCardSaid : Prop := Claim7.holds Tryd.pinned (.plain (OpenSpec.ofChange chainTellsSpec)) chainTellsCard

/-- THE TIED CARD OF 'withylaw12.ChainBack'. -/
def chainBackCard : Claim7 := { stood := { row := chainBackRow, standIns := [], harness := (true, "354b20a3237f1cb7cf3eeaef72affcd0cad9e647b476e9ff32d715421af5db9d"), looks := true }, kinds := [], alts := [], laidByText := true, laidKinds := [.data], laidTests := true, laidLooks := .later }
def ChainBackCardSaid : Prop := Claim7.holds Tryd.pinned (.plain (OpenSpec.ofChange chainBackSpec)) chainBackCard

/-- THE TIED CARD OF 'withylaw12.ChainParts'. -/
def chainPartsCard : Claim7 := { stood := { row := chainPartsRow, standIns := [], harness := (true, "354b20a3237f1cb7cf3eeaef72affcd0cad9e647b476e9ff32d715421af5db9d"), looks := true }, kinds := [], alts := [], laidByText := true, laidKinds := [.data], laidTests := true, laidLooks := .later }
def ChainPartsCardSaid : Prop := Claim7.holds Tryd.pinned (.plain (OpenSpec.ofChange chainPartsSpec)) chainPartsCard

/-- THE TIED CARD OF 'withylaw12.ChainPages'. -/
def chainPagesCard : Claim7 := { stood := { row := chainPagesRow, standIns := [], harness := (true, "354b20a3237f1cb7cf3eeaef72affcd0cad9e647b476e9ff32d715421af5db9d"), looks := true }, kinds := [], alts := [], laidByText := true, laidKinds := [.data], laidTests := true, laidLooks := .later }
def ChainPagesCardSaid : Prop := Claim7.holds Tryd.pinned (.plain (OpenSpec.ofChange chainPagesSpec)) chainPagesCard

/-- THE TIED CARD OF 'withylaw12.ChainEach'. -/
def chainEachCard : Claim7 := { stood := { row := chainEachRow, standIns := [], harness := (true, "354b20a3237f1cb7cf3eeaef72affcd0cad9e647b476e9ff32d715421af5db9d"), looks := true }, kinds := [], alts := [], laidByText := true, laidKinds := [.data], laidTests := true, laidLooks := .later }
def ChainEachCardSaid : Prop := Claim7.holds Tryd.pinned (.plain (OpenSpec.ofChange chainEachSpec)) chainEachCard

/-- THE TIED CARD OF 'withylaw12.ChainLast'. -/
def chainLastCard : Claim7 := { stood := { row := chainLastRow, standIns := [], harness := (true, "354b20a3237f1cb7cf3eeaef72affcd0cad9e647b476e9ff32d715421af5db9d"), looks := true }, kinds := [], alts := [], laidByText := true, laidKinds := [.data], laidTests := true, laidLooks := .later }
def ChainLastCardSaid : Prop := Claim7.holds Tryd.pinned (.plain (OpenSpec.ofChange chainLastSpec)) chainLastCard

/-- THE SECOND FORM's CARD OF 'withylaw12.ChainTells'. -/
def chainTellsUptoCard : Claim7 := { stood := { row := chainTellsUptoRow, standIns := [], harness := (true, "354b20a3237f1cb7cf3eeaef72affcd0cad9e647b476e9ff32d715421af5db9d"), looks := true }, kinds := [], alts := [], laidByText := true, laidKinds := [.data], laidTests := true, laidLooks := .later }
def ChainTellsUptoCardSaid : Prop := Claim7.holds Tryd.pinned (.plain (OpenSpec.upto chainTellsSpec)) chainTellsUptoCard

/-- THE SECOND FORM's CARD OF 'withylaw12.ChainBack'. -/
def chainBackUptoCard : Claim7 := { stood := { row := chainBackUptoRow, standIns := [], harness := (true, "354b20a3237f1cb7cf3eeaef72affcd0cad9e647b476e9ff32d715421af5db9d"), looks := true }, kinds := [], alts := [], laidByText := true, laidKinds := [.data], laidTests := true, laidLooks := .later }
def ChainBackUptoCardSaid : Prop := Claim7.holds Tryd.pinned (.plain (OpenSpec.upto chainBackSpec)) chainBackUptoCard

/-- THE SECOND FORM's CARD OF 'withylaw12.ChainParts'. -/
def chainPartsUptoCard : Claim7 := { stood := { row := chainPartsUptoRow, standIns := [], harness := (true, "354b20a3237f1cb7cf3eeaef72affcd0cad9e647b476e9ff32d715421af5db9d"), looks := true }, kinds := [], alts := [], laidByText := true, laidKinds := [.data], laidTests := true, laidLooks := .later }
def ChainPartsUptoCardSaid : Prop := Claim7.holds Tryd.pinned (.plain (OpenSpec.upto chainPartsSpec)) chainPartsUptoCard

/-- THE SECOND FORM's CARD OF 'withylaw12.ChainPages'. -/
def chainPagesUptoCard : Claim7 := { stood := { row := chainPagesUptoRow, standIns := [], harness := (true, "354b20a3237f1cb7cf3eeaef72affcd0cad9e647b476e9ff32d715421af5db9d"), looks := true }, kinds := [], alts := [], laidByText := true, laidKinds := [.data], laidTests := true, laidLooks := .later }
def ChainPagesUptoCardSaid : Prop := Claim7.holds Tryd.pinned (.plain (OpenSpec.upto chainPagesSpec)) chainPagesUptoCard

/-- THE SECOND FORM's CARD OF 'withylaw12.ChainEach'. -/
def chainEachUptoCard : Claim7 := { stood := { row := chainEachUptoRow, standIns := [], harness := (true, "354b20a3237f1cb7cf3eeaef72affcd0cad9e647b476e9ff32d715421af5db9d"), looks := true }, kinds := [], alts := [], laidByText := true, laidKinds := [.data], laidTests := true, laidLooks := .later }
def ChainEachUptoCardSaid : Prop := Claim7.holds Tryd.pinned (.plain (OpenSpec.upto chainEachSpec)) chainEachUptoCard

/-- THE SECOND FORM's CARD OF 'withylaw12.ChainLast'. -/
def chainLastUptoCard : Claim7 := { stood := { row := chainLastUptoRow, standIns := [], harness := (true, "354b20a3237f1cb7cf3eeaef72affcd0cad9e647b476e9ff32d715421af5db9d"), looks := true }, kinds := [], alts := [], laidByText := true, laidKinds := [.data], laidTests := true, laidLooks := .later }
def ChainLastUptoCardSaid : Prop := Claim7.holds Tryd.pinned (.plain (OpenSpec.upto chainLastSpec)) chainLastUptoCard
end Rows
end Go.Proofs.YtahkigabapdleaaDoor
