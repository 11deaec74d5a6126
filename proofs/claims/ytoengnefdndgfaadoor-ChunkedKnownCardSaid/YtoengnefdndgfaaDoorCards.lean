/-
  DERIVED. GIVEN WITH THE SEED: THE CARDS: each row of YtoengnefdndgfaaDoorRows.lean that lists a variable, with what it lists TIED to the program's text (the seventh form; the later family's looks); each row that meets fmt, with fmt's text TOLD by the authors' own Lean function (tested against real Go, not proved from fmt's source: count such statements apart). THE CARD IS WHAT COUNTS. Prove the row's statement (the work); the ties are given (YtoengnefdndgfaaDoorTie.lean); close each card by the builder's one call (the guide's Derived/Test/ToyasCard.lean, 'card_holds'). Laid BY PROGRAM, IN A SANDBOX (cutbox-door.mjs). By AI agents, Wed Nov 11 2026. No macro, syntax, notation, axiom, sorry.
-/
import Derived.Test.YtoengnefdndgfaaDoorRows
import GoSem.ClaimSeven
namespace Go.Proofs.YtoengnefdndgfaaDoor
namespace Rows

/-- THE TIED CARD OF 'inlaylaw07.ChunkedDecodes'. -/
def chunkedDecodesCard : Claim7 := { stood := { row := chunkedDecodesRow, standIns := [], harness := (true, "ddd07de89614ef63fac2dbb4db19a393e3224c12d7c2883332215c646fc43833"), looks := true }, kinds := [], alts := [], laidByText := true, laidKinds := [.data, .data, .data, .sentinel, .sentinel], laidTests := true, laidLooks := .later }
def ChunkedDecodesCardSaid : Prop := Claim7.holds Tryd.pinned (.plain (OpenSpec.ofChange chunkedDecodesSpec)) chunkedDecodesCard

/-- THE TIED CARD OF 'inlaylaw07.ChunkedEncodes'. -/
def chunkedEncodesCard : Claim7 := { stood := { row := chunkedEncodesRow, standIns := [], harness := (true, "ddd07de89614ef63fac2dbb4db19a393e3224c12d7c2883332215c646fc43833"), looks := true }, kinds := [], alts := [], laidByText := true, laidKinds := [.data, .data, .data, .sentinel, .sentinel], laidTests := true, laidLooks := .later }
def ChunkedEncodesCardSaid : Prop := Claim7.holds Tryd.pinned (.plain (OpenSpec.ofChange chunkedEncodesSpec)) chunkedEncodesCard

/-- THE TIED CARD OF 'inlaylaw07.ChunkedLong'. -/
def chunkedLongCard : Claim7 := { stood := { row := chunkedLongRow, standIns := [], harness := (true, "ddd07de89614ef63fac2dbb4db19a393e3224c12d7c2883332215c646fc43833"), looks := true }, kinds := [], alts := [], laidByText := true, laidKinds := [.data, .data, .data, .sentinel, .sentinel], laidTests := true, laidLooks := .later }
def ChunkedLongCardSaid : Prop := Claim7.holds Tryd.pinned (.plain (OpenSpec.ofChange chunkedLongSpec)) chunkedLongCard

/-- THE TIED CARD OF 'inlaylaw07.ChunkedKnown'. -/
def chunkedKnownCard : Claim7 := { stood := { row := chunkedKnownRow, standIns := [], harness := (true, "ddd07de89614ef63fac2dbb4db19a393e3224c12d7c2883332215c646fc43833"), looks := true }, kinds := [], alts := [], laidByText := true, laidKinds := [.data, .data, .data, .sentinel, .sentinel], laidTests := true, laidLooks := .later }
def ChunkedKnownCardSaid : Prop := Claim7.holds Tryd.pinned (.plain (OpenSpec.ofChange chunkedKnownSpec)) chunkedKnownCard

/-- THE TIED CARD OF 'inlaylaw07.ChunkedBack'. -/
def chunkedBackCard : Claim7 := { stood := { row := chunkedBackRow, standIns := [], harness := (true, "ddd07de89614ef63fac2dbb4db19a393e3224c12d7c2883332215c646fc43833"), looks := true }, kinds := [], alts := [], laidByText := true, laidKinds := [.data, .data, .data, .sentinel, .sentinel], laidTests := true, laidLooks := .later }
def ChunkedBackCardSaid : Prop := Claim7.holds Tryd.pinned (.plain (OpenSpec.ofChange chunkedBackSpec)) chunkedBackCard

/-- THE TIED CARD OF 'inlaylaw07.ChunkedCut'. -/
def chunkedCutCard : Claim7 := { stood := { row := chunkedCutRow, standIns := [], harness := (true, "ddd07de89614ef63fac2dbb4db19a393e3224c12d7c2883332215c646fc43833"), looks := true }, kinds := [], alts := [], laidByText := true, laidKinds := [.data, .data, .data, .sentinel, .sentinel], laidTests := true, laidLooks := .later }
def ChunkedCutCardSaid : Prop := Claim7.holds Tryd.pinned (.plain (OpenSpec.ofChange chunkedCutSpec)) chunkedCutCard

/-- THE SECOND FORM's CARD OF 'inlaylaw07.ChunkedDecodes'. -/
def chunkedDecodesUptoCard : Claim7 := { stood := { row := chunkedDecodesUptoRow, standIns := [], harness := (true, "ddd07de89614ef63fac2dbb4db19a393e3224c12d7c2883332215c646fc43833"), looks := true }, kinds := [], alts := [], laidByText := true, laidKinds := [.data, .data, .data, .sentinel, .sentinel], laidTests := true, laidLooks := .later }
def ChunkedDecodesUptoCardSaid : Prop := Claim7.holds Tryd.pinned (.plain (OpenSpec.upto chunkedDecodesSpec)) chunkedDecodesUptoCard

/-- THE SECOND FORM's CARD OF 'inlaylaw07.ChunkedEncodes'. -/
def chunkedEncodesUptoCard : Claim7 := { stood := { row := chunkedEncodesUptoRow, standIns := [], harness := (true, "ddd07de89614ef63fac2dbb4db19a393e3224c12d7c2883332215c646fc43833"), looks := true }, kinds := [], alts := [], laidByText := true, laidKinds := [.data, .data, .data, .sentinel, .sentinel], laidTests := true, laidLooks := .later }
def ChunkedEncodesUptoCardSaid : Prop := Claim7.holds Tryd.pinned (.plain (OpenSpec.upto chunkedEncodesSpec)) chunkedEncodesUptoCard

/-- THE SECOND FORM's CARD OF 'inlaylaw07.ChunkedLong'. -/
def chunkedLongUptoCard : Claim7 := { stood := { row := chunkedLongUptoRow, standIns := [], harness := (true, "ddd07de89614ef63fac2dbb4db19a393e3224c12d7c2883332215c646fc43833"), looks := true }, kinds := [], alts := [], laidByText := true, laidKinds := [.data, .data, .data, .sentinel, .sentinel], laidTests := true, laidLooks := .later }
def ChunkedLongUptoCardSaid : Prop := Claim7.holds Tryd.pinned (.plain (OpenSpec.upto chunkedLongSpec)) chunkedLongUptoCard

/-- THE SECOND FORM's CARD OF 'inlaylaw07.ChunkedKnown'. -/
def chunkedKnownUptoCard : Claim7 := { stood := { row := chunkedKnownUptoRow, standIns := [], harness := (true, "ddd07de89614ef63fac2dbb4db19a393e3224c12d7c2883332215c646fc43833"), looks := true }, kinds := [], alts := [], laidByText := true, laidKinds := [.data, .data, .data, .sentinel, .sentinel], laidTests := true, laidLooks := .later }
def ChunkedKnownUptoCardSaid : Prop := Claim7.holds Tryd.pinned (.plain (OpenSpec.upto chunkedKnownSpec)) chunkedKnownUptoCard

/-- THE SECOND FORM's CARD OF 'inlaylaw07.ChunkedBack'. -/
def chunkedBackUptoCard : Claim7 := { stood := { row := chunkedBackUptoRow, standIns := [], harness := (true, "ddd07de89614ef63fac2dbb4db19a393e3224c12d7c2883332215c646fc43833"), looks := true }, kinds := [], alts := [], laidByText := true, laidKinds := [.data, .data, .data, .sentinel, .sentinel], laidTests := true, laidLooks := .later }
def ChunkedBackUptoCardSaid : Prop := Claim7.holds Tryd.pinned (.plain (OpenSpec.upto chunkedBackSpec)) chunkedBackUptoCard

/-- THE SECOND FORM's CARD OF 'inlaylaw07.ChunkedCut'. -/
def chunkedCutUptoCard : Claim7 := { stood := { row := chunkedCutUptoRow, standIns := [], harness := (true, "ddd07de89614ef63fac2dbb4db19a393e3224c12d7c2883332215c646fc43833"), looks := true }, kinds := [], alts := [], laidByText := true, laidKinds := [.data, .data, .data, .sentinel, .sentinel], laidTests := true, laidLooks := .later }
def ChunkedCutUptoCardSaid : Prop := Claim7.holds Tryd.pinned (.plain (OpenSpec.upto chunkedCutSpec)) chunkedCutUptoCard
end Rows
end Go.Proofs.YtoengnefdndgfaaDoor
