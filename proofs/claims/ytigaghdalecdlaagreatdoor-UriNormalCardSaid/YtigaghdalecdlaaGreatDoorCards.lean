/-
  DERIVED. GIVEN WITH THE SEED: THE CARDS: each row of YtigaghdalecdlaaGreatDoorRows.lean that lists a variable, with what it lists TIED to the program's text (the seventh form; the later family's looks); each row that meets fmt, with fmt's text TOLD by the authors' own Lean function (tested against real Go, not proved from fmt's source: count such statements apart). THE CARD IS WHAT COUNTS. Prove the row's statement (the work); the ties are given (YtigaghdalecdlaaGreatDoorTie.lean); close each card by the builder's one call (the guide's Derived/Test/ToyasCard.lean, 'card_holds'). Laid BY PROGRAM, IN A SANDBOX (cutbox-door.mjs). By AI agents, Wed Nov 11 2026. No macro, syntax, notation, axiom, sorry.
-/
import Derived.Test.YtigaghdalecdlaaGreatDoorRows
import GoSem.ClaimSeven
namespace Go.Proofs.YtigaghdalecdlaaGreatDoor
namespace Rows

/-- THE TIED CARD OF 'inlaylaw09.UriPuts'. -/
def uriPutsCard : Claim7 := { stood := { row := uriPutsRow, standIns := [], harness := (true, "191c7037faa0b99e1b72db481cccb031f79db558850bb0295b2c82f142598a97"), looks := true }, kinds := [], alts := [], laidByText := true, laidKinds := [.data, .data, .data, .data, .sentinel, .sentinel, .pinned], laidTests := true, laidLooks := .later }
def UriPutsCardSaid : Prop := Claim7.holds Tryz.pinned (.plain (OpenSpec.ofChange uriPutsSpec)) uriPutsCard

/-- THE TIED CARD OF 'inlaylaw09.UriNormal'. -/
def uriNormalCard : Claim7 := { stood := { row := uriNormalRow, standIns := [], harness := (true, "191c7037faa0b99e1b72db481cccb031f79db558850bb0295b2c82f142598a97"), looks := true }, kinds := [], alts := [], laidByText := true, laidKinds := [.data, .data, .data, .data, .sentinel, .sentinel, .pinned, .pinned], laidTests := true, laidLooks := .later }
def UriNormalCardSaid : Prop := Claim7.holds Tryz.pinned (.plain (OpenSpec.ofChange uriNormalSpec)) uriNormalCard

/-- THE SECOND FORM's CARD OF 'inlaylaw09.UriPuts'. -/
def uriPutsUptoCard : Claim7 := { stood := { row := uriPutsUptoRow, standIns := [], harness := (true, "191c7037faa0b99e1b72db481cccb031f79db558850bb0295b2c82f142598a97"), looks := true }, kinds := [], alts := [], laidByText := true, laidKinds := [.data, .data, .data, .data, .sentinel, .sentinel, .pinned], laidTests := true, laidLooks := .later }
def UriPutsUptoCardSaid : Prop := Claim7.holds Tryz.pinned (.plain (OpenSpec.upto uriPutsSpec)) uriPutsUptoCard

/-- THE SECOND FORM's CARD OF 'inlaylaw09.UriNormal'. -/
def uriNormalUptoCard : Claim7 := { stood := { row := uriNormalUptoRow, standIns := [], harness := (true, "191c7037faa0b99e1b72db481cccb031f79db558850bb0295b2c82f142598a97"), looks := true }, kinds := [], alts := [], laidByText := true, laidKinds := [.data, .data, .data, .data, .sentinel, .sentinel, .pinned, .pinned], laidTests := true, laidLooks := .later }
def UriNormalUptoCardSaid : Prop := Claim7.holds Tryz.pinned (.plain (OpenSpec.upto uriNormalSpec)) uriNormalUptoCard
end Rows
end Go.Proofs.YtigaghdalecdlaaGreatDoor
