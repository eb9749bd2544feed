/-
  DERIVED. GIVEN WITH THE SEED: THE CARDS: each row of YtnjmkljnjngpkaaDoorRows.lean that lists a variable, with what it lists TIED to the program's text (the seventh form; the later family's looks); each row that meets fmt, with fmt's text TOLD by the authors' own Lean function (tested against real Go, not proved from fmt's source: count such statements apart). THE CARD IS WHAT COUNTS. Prove the row's statement (the work); the ties are given (YtnjmkljnjngpkaaDoorTie.lean); close each card by the builder's one call (the guide's Derived/Test/ToyasCard.lean, 'card_holds'). Laid BY PROGRAM, IN A SANDBOX (cutbox-door.mjs). By AI agents, Wed Nov 11 2026. No macro, syntax, notation, axiom, sorry.
-/
import Derived.Test.YtnjmkljnjngpkaaDoorRows
import GoSem.ClaimSeven
namespace Go.Proofs.YtnjmkljnjngpkaaDoor
namespace Rows

/-- THE TIED CARD OF 'withylaw13.MetaTells'. -/
def metaTellsCard : Claim7 := { stood := { row := metaTellsRow, standIns := [], harness := (true, "8f731d89186ec3b604044c912f85711804b13a86214980a0fd4f78dbce0215c7"), looks := true }, kinds := [], alts := [], laidByText := true, laidKinds := [.data], laidTests := true, laidLooks := .later }
def MetaTellsCardSaid : Prop := Claim7.holds Tryd.pinned (.plain (OpenSpec.ofChange metaTellsSpec)) metaTellsCard

/-- THE TIED CARD OF 'withylaw13.MetaBack'. -/
def metaBackCard : Claim7 := { stood := { row := metaBackRow, standIns := [], harness := (true, "8f731d89186ec3b604044c912f85711804b13a86214980a0fd4f78dbce0215c7"), looks := true }, kinds := [], alts := [], laidByText := true, laidKinds := [.data], laidTests := true, laidLooks := .later }
def MetaBackCardSaid : Prop := Claim7.holds Tryd.pinned (.plain (OpenSpec.ofChange metaBackSpec)) metaBackCard

/-- THE TIED CARD OF 'withylaw13.MetaTorn'. -/
def metaTornCard : Claim7 := { stood := { row := metaTornRow, standIns := [], harness := (true, "8f731d89186ec3b604044c912f85711804b13a86214980a0fd4f78dbce0215c7"), looks := true }, kinds := [], alts := [], laidByText := true, laidKinds := [.data], laidTests := true, laidLooks := .later }
def MetaTornCardSaid : Prop := Claim7.holds Tryd.pinned (.plain (OpenSpec.ofChange metaTornSpec)) metaTornCard

/-- THE TIED CARD OF 'withylaw13.MetaFields'. -/
def metaFieldsCard : Claim7 := { stood := { row := metaFieldsRow, standIns := [], harness := (true, "8f731d89186ec3b604044c912f85711804b13a86214980a0fd4f78dbce0215c7"), looks := true }, kinds := [], alts := [], laidByText := true, laidKinds := [.data], laidTests := true, laidLooks := .later }
def MetaFieldsCardSaid : Prop := Claim7.holds Tryd.pinned (.plain (OpenSpec.ofChange metaFieldsSpec)) metaFieldsCard

/-- THE TIED CARD OF 'withylaw13.MetaTears'. -/
def metaTearsCard : Claim7 := { stood := { row := metaTearsRow, standIns := [], harness := (true, "8f731d89186ec3b604044c912f85711804b13a86214980a0fd4f78dbce0215c7"), looks := true }, kinds := [], alts := [], laidByText := true, laidKinds := [.data], laidTests := true, laidLooks := .later }
def MetaTearsCardSaid : Prop := Claim7.holds Tryd.pinned (.plain (OpenSpec.ofChange metaTearsSpec)) metaTearsCard

/-- THE TIED CARD OF 'withylaw13.MetaEach'. -/
def metaEachCard : Claim7 := { stood := { row := metaEachRow, standIns := [], harness := (true, "8f731d89186ec3b604044c912f85711804b13a86214980a0fd4f78dbce0215c7"), looks := true }, kinds := [], alts := [], laidByText := true, laidKinds := [.data], laidTests := true, laidLooks := .later }
def MetaEachCardSaid : Prop := Claim7.holds Tryd.pinned (.plain (OpenSpec.ofChange metaEachSpec)) metaEachCard

/-- THE SECOND FORM's CARD OF 'withylaw13.MetaTells'. -/
def metaTellsUptoCard : Claim7 := { stood := { row := metaTellsUptoRow, standIns := [], harness := (true, "8f731d89186ec3b604044c912f85711804b13a86214980a0fd4f78dbce0215c7"), looks := true }, kinds := [], alts := [], laidByText := true, laidKinds := [.data], laidTests := true, laidLooks := .later }
def MetaTellsUptoCardSaid : Prop := Claim7.holds Tryd.pinned (.plain (OpenSpec.upto metaTellsSpec)) metaTellsUptoCard

/-- THE SECOND FORM's CARD OF 'withylaw13.MetaBack'. -/
def metaBackUptoCard : Claim7 := { stood := { row := metaBackUptoRow, standIns := [], harness := (true, "8f731d89186ec3b604044c912f85711804b13a86214980a0fd4f78dbce0215c7"), looks := true }, kinds := [], alts := [], laidByText := true, laidKinds := [.data], laidTests := true, laidLooks := .later }
def MetaBackUptoCardSaid : Prop := Claim7.holds Tryd.pinned (.plain (OpenSpec.upto metaBackSpec)) metaBackUptoCard

/-- THE SECOND FORM's CARD OF 'withylaw13.MetaTorn'. -/
def metaTornUptoCard : Claim7 := { stood := { row := metaTornUptoRow, standIns := [], harness := (true, "8f731d89186ec3b604044c912f85711804b13a86214980a0fd4f78dbce0215c7"), looks := true }, kinds := [], alts := [], laidByText := true, laidKinds := [.data], laidTests := true, laidLooks := .later }
def MetaTornUptoCardSaid : Prop := Claim7.holds Tryd.pinned (.plain (OpenSpec.upto metaTornSpec)) metaTornUptoCard

/-- THE SECOND FORM's CARD OF 'withylaw13.MetaFields'. -/
def metaFieldsUptoCard : Claim7 := { stood := { row := metaFieldsUptoRow, standIns := [], harness := (true, "8f731d89186ec3b604044c912f85711804b13a86214980a0fd4f78dbce0215c7"), looks := true }, kinds := [], alts := [], laidByText := true, laidKinds := [.data], laidTests := true, laidLooks := .later }
def MetaFieldsUptoCardSaid : Prop := Claim7.holds Tryd.pinned (.plain (OpenSpec.upto metaFieldsSpec)) metaFieldsUptoCard

/-- THE SECOND FORM's CARD OF 'withylaw13.MetaTears'. -/
def metaTearsUptoCard : Claim7 := { stood := { row := metaTearsUptoRow, standIns := [], harness := (true, "8f731d89186ec3b604044c912f85711804b13a86214980a0fd4f78dbce0215c7"), looks := true }, kinds := [], alts := [], laidByText := true, laidKinds := [.data], laidTests := true, laidLooks := .later }
def MetaTearsUptoCardSaid : Prop := Claim7.holds Tryd.pinned (.plain (OpenSpec.upto metaTearsSpec)) metaTearsUptoCard

/-- THE SECOND FORM's CARD OF 'withylaw13.MetaEach'. -/
def metaEachUptoCard : Claim7 := { stood := { row := metaEachUptoRow, standIns := [], harness := (true, "8f731d89186ec3b604044c912f85711804b13a86214980a0fd4f78dbce0215c7"), looks := true }, kinds := [], alts := [], laidByText := true, laidKinds := [.data], laidTests := true, laidLooks := .later }
def MetaEachUptoCardSaid : Prop := Claim7.holds Tryd.pinned (.plain (OpenSpec.upto metaEachSpec)) metaEachUptoCard
end Rows
end Go.Proofs.YtnjmkljnjngpkaaDoor
