/-
  DERIVED. GIVEN WITH THE SEED: THE CARDS: each row of YtigaghdalecdlaaDoorRows.lean that lists a variable, with what it lists TIED to the program's text (the seventh form; the later family's looks); each row that meets fmt, with fmt's text TOLD by the authors' own Lean function (tested against real Go, not proved from fmt's source: count such statements apart). THE CARD IS WHAT COUNTS. Prove the row's statement (the work); the ties are given (YtigaghdalecdlaaDoorTie.lean); close each card by the builder's one call (the guide's Derived/Test/ToyasCard.lean, 'card_holds'). Laid BY PROGRAM, IN A SANDBOX (cutbox-door.mjs). By AI agents, Wed Nov 11 2026. No macro, syntax, notation, axiom, sorry.
-/
import Derived.Test.YtigaghdalecdlaaDoorRows
import GoSem.ClaimSeven
namespace Go.Proofs.YtigaghdalecdlaaDoor
namespace Rows

/-- THE TIED CARD OF 'inlaylaw09.UriParses'. -/
def uriParsesCard : Claim7 := { stood := { row := uriParsesRow, standIns := [], harness := (true, "560cbf65a899395644b44992320696a278fa3ee61477008c12e71fddd9c25e45"), looks := true }, kinds := [], alts := [], laidByText := true, laidKinds := [.data, .data, .data, .data, .sentinel, .sentinel, .pinned], laidTests := true, laidLooks := .later }
def UriParsesCardSaid : Prop := Claim7.holds Tryd.pinned (.plain (OpenSpec.ofChange uriParsesSpec)) uriParsesCard

/-- THE TIED CARD OF 'inlaylaw09.UriDots'. -/
def uriDotsCard : Claim7 := { stood := { row := uriDotsRow, standIns := [], harness := (true, "560cbf65a899395644b44992320696a278fa3ee61477008c12e71fddd9c25e45"), looks := true }, kinds := [], alts := [], laidByText := true, laidKinds := [.data, .data, .data, .data, .sentinel, .sentinel, .pinned], laidTests := true, laidLooks := .later }
def UriDotsCardSaid : Prop := Claim7.holds Tryd.pinned (.plain (OpenSpec.ofChange uriDotsSpec)) uriDotsCard

/-- THE TIED CARD OF 'inlaylaw09.UriKnown'. -/
def uriKnownCard : Claim7 := { stood := { row := uriKnownRow, standIns := [], harness := (true, "560cbf65a899395644b44992320696a278fa3ee61477008c12e71fddd9c25e45"), looks := true }, kinds := [], alts := [], laidByText := true, laidKinds := [.data, .data, .data, .data, .sentinel, .sentinel, .pinned], laidTests := true, laidLooks := .later }
def UriKnownCardSaid : Prop := Claim7.holds Tryd.pinned (.plain (OpenSpec.ofChange uriKnownSpec)) uriKnownCard

/-- THE TIED CARD OF 'inlaylaw09.UriBack'. -/
def uriBackCard : Claim7 := { stood := { row := uriBackRow, standIns := [], harness := (true, "560cbf65a899395644b44992320696a278fa3ee61477008c12e71fddd9c25e45"), looks := true }, kinds := [], alts := [], laidByText := true, laidKinds := [.data, .data, .data, .data, .sentinel, .sentinel, .pinned], laidTests := true, laidLooks := .later }
def UriBackCardSaid : Prop := Claim7.holds Tryd.pinned (.plain (OpenSpec.ofChange uriBackSpec)) uriBackCard

/-- THE SECOND FORM's CARD OF 'inlaylaw09.UriParses'. -/
def uriParsesUptoCard : Claim7 := { stood := { row := uriParsesUptoRow, standIns := [], harness := (true, "560cbf65a899395644b44992320696a278fa3ee61477008c12e71fddd9c25e45"), looks := true }, kinds := [], alts := [], laidByText := true, laidKinds := [.data, .data, .data, .data, .sentinel, .sentinel, .pinned], laidTests := true, laidLooks := .later }
def UriParsesUptoCardSaid : Prop := Claim7.holds Tryd.pinned (.plain (OpenSpec.upto uriParsesSpec)) uriParsesUptoCard

/-- THE SECOND FORM's CARD OF 'inlaylaw09.UriDots'. -/
def uriDotsUptoCard : Claim7 := { stood := { row := uriDotsUptoRow, standIns := [], harness := (true, "560cbf65a899395644b44992320696a278fa3ee61477008c12e71fddd9c25e45"), looks := true }, kinds := [], alts := [], laidByText := true, laidKinds := [.data, .data, .data, .data, .sentinel, .sentinel, .pinned], laidTests := true, laidLooks := .later }
def UriDotsUptoCardSaid : Prop := Claim7.holds Tryd.pinned (.plain (OpenSpec.upto uriDotsSpec)) uriDotsUptoCard

/-- THE SECOND FORM's CARD OF 'inlaylaw09.UriKnown'. -/
def uriKnownUptoCard : Claim7 := { stood := { row := uriKnownUptoRow, standIns := [], harness := (true, "560cbf65a899395644b44992320696a278fa3ee61477008c12e71fddd9c25e45"), looks := true }, kinds := [], alts := [], laidByText := true, laidKinds := [.data, .data, .data, .data, .sentinel, .sentinel, .pinned], laidTests := true, laidLooks := .later }
def UriKnownUptoCardSaid : Prop := Claim7.holds Tryd.pinned (.plain (OpenSpec.upto uriKnownSpec)) uriKnownUptoCard

/-- THE SECOND FORM's CARD OF 'inlaylaw09.UriBack'. -/
def uriBackUptoCard : Claim7 := { stood := { row := uriBackUptoRow, standIns := [], harness := (true, "560cbf65a899395644b44992320696a278fa3ee61477008c12e71fddd9c25e45"), looks := true }, kinds := [], alts := [], laidByText := true, laidKinds := [.data, .data, .data, .data, .sentinel, .sentinel, .pinned], laidTests := true, laidLooks := .later }
def UriBackUptoCardSaid : Prop := Claim7.holds Tryd.pinned (.plain (OpenSpec.upto uriBackSpec)) uriBackUptoCard
end Rows
end Go.Proofs.YtigaghdalecdlaaDoor
