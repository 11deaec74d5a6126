/-
  DERIVED. GIVEN WITH THE SEED: THE CARDS: each row of YtilaalfehnngcaaDoorRows.lean that lists a variable, with what it lists TIED to the program's text (the seventh form; the later family's looks); each row that meets fmt, with fmt's text TOLD by the authors' own Lean function (tested against real Go, not proved from fmt's source: count such statements apart). THE CARD IS WHAT COUNTS. Prove the row's statement (the work); the ties are given (YtilaalfehnngcaaDoorTie.lean); close each card by the builder's one call (the guide's Derived/Test/ToyasCard.lean, 'card_holds'). Laid BY PROGRAM, IN A SANDBOX (cutbox-door.mjs). By AI agents, Wed Nov 11 2026. No macro, syntax, notation, axiom, sorry.
-/
import Derived.Test.YtilaalfehnngcaaDoorRows
import GoSem.ClaimSeven
namespace Go.Proofs.YtilaalfehnngcaaDoor
namespace Rows

/-- THE TIED CARD OF 'inlaylaw04.FieldsHops'. -/
def fieldsHopsCard : Claim7 := { stood := { row := fieldsHopsRow, standIns := [], harness := (true, "5d7e21378607dea01574157b9e073412dd0531401366822dee4db84ed51a732f"), looks := false }, kinds := [], alts := [], laidByText := true, laidKinds := [.listed, .data], laidTests := true, laidLooks := .later }
def FieldsHopsCardSaid : Prop := Claim7.holds Tryd.pinned (.plain (OpenSpec.ofChange fieldsHopsSpec)) fieldsHopsCard

/-- THE TIED CARD OF 'inlaylaw04.FieldsClean'. -/
def fieldsCleanCard : Claim7 := { stood := { row := fieldsCleanRow, standIns := [], harness := (true, "5d7e21378607dea01574157b9e073412dd0531401366822dee4db84ed51a732f"), looks := false }, kinds := [], alts := [], laidByText := true, laidKinds := [.listed, .data], laidTests := true, laidLooks := .later }
def FieldsCleanCardSaid : Prop := Claim7.holds Tryd.pinned (.plain (OpenSpec.ofChange fieldsCleanSpec)) fieldsCleanCard

/-- THE TIED CARD OF 'inlaylaw04.FieldsKnown'. -/
def fieldsKnownCard : Claim7 := { stood := { row := fieldsKnownRow, standIns := [], harness := (true, "5d7e21378607dea01574157b9e073412dd0531401366822dee4db84ed51a732f"), looks := false }, kinds := [], alts := [], laidByText := true, laidKinds := [.listed, .data], laidTests := true, laidLooks := .later }
def FieldsKnownCardSaid : Prop := Claim7.holds Tryd.pinned (.plain (OpenSpec.ofChange fieldsKnownSpec)) fieldsKnownCard

/-- THE SECOND FORM's CARD OF 'inlaylaw04.FieldsHops'. -/
def fieldsHopsUptoCard : Claim7 := { stood := { row := fieldsHopsUptoRow, standIns := [], harness := (true, "5d7e21378607dea01574157b9e073412dd0531401366822dee4db84ed51a732f"), looks := false }, kinds := [], alts := [], laidByText := true, laidKinds := [.listed, .data], laidTests := true, laidLooks := .later }
def FieldsHopsUptoCardSaid : Prop := Claim7.holds Tryd.pinned (.plain (OpenSpec.upto fieldsHopsSpec)) fieldsHopsUptoCard

/-- THE SECOND FORM's CARD OF 'inlaylaw04.FieldsClean'. -/
def fieldsCleanUptoCard : Claim7 := { stood := { row := fieldsCleanUptoRow, standIns := [], harness := (true, "5d7e21378607dea01574157b9e073412dd0531401366822dee4db84ed51a732f"), looks := false }, kinds := [], alts := [], laidByText := true, laidKinds := [.listed, .data], laidTests := true, laidLooks := .later }
def FieldsCleanUptoCardSaid : Prop := Claim7.holds Tryd.pinned (.plain (OpenSpec.upto fieldsCleanSpec)) fieldsCleanUptoCard

/-- THE SECOND FORM's CARD OF 'inlaylaw04.FieldsKnown'. -/
def fieldsKnownUptoCard : Claim7 := { stood := { row := fieldsKnownUptoRow, standIns := [], harness := (true, "5d7e21378607dea01574157b9e073412dd0531401366822dee4db84ed51a732f"), looks := false }, kinds := [], alts := [], laidByText := true, laidKinds := [.listed, .data], laidTests := true, laidLooks := .later }
def FieldsKnownUptoCardSaid : Prop := Claim7.holds Tryd.pinned (.plain (OpenSpec.upto fieldsKnownSpec)) fieldsKnownUptoCard
end Rows
end Go.Proofs.YtilaalfehnngcaaDoor
