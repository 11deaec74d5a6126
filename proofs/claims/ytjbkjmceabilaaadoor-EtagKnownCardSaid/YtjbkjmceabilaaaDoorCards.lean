/-
  DERIVED. GIVEN WITH THE SEED: THE CARDS: each row of YtjbkjmceabilaaaDoorRows.lean that lists a variable, with what it lists TIED to the program's text (the seventh form; the later family's looks); each row that meets fmt, with fmt's text TOLD by the authors' own Lean function (tested against real Go, not proved from fmt's source: count such statements apart). THE CARD IS WHAT COUNTS. Prove the row's statement (the work); the ties are given (YtjbkjmceabilaaaDoorTie.lean); close each card by the builder's one call (the guide's Derived/Test/ToyasCard.lean, 'card_holds'). Laid BY PROGRAM, IN A SANDBOX (cutbox-door.mjs). By AI agents, Wed Nov 11 2026. No macro, syntax, notation, axiom, sorry.
-/
import Derived.Test.YtjbkjmceabilaaaDoorRows
import GoSem.ClaimSeven
namespace Go.Proofs.YtjbkjmceabilaaaDoor
namespace Rows

/-- THE TIED CARD OF 'inlaylaw14.EtagAsks'. -/
def etagAsksCard : Claim7 := { stood := { row := etagAsksRow, standIns := [], harness := (true, "3d3de750cf2c31434247aa8cd94302f1d3451563c3b60e252147babef5aab99a"), looks := false }, kinds := [], alts := [], laidByText := true, laidKinds := [.listed, .data], laidTests := true, laidLooks := .later }
def EtagAsksCardSaid : Prop := Claim7.holds Tryd.pinned (.plain (OpenSpec.ofChange etagAsksSpec)) etagAsksCard

/-- THE TIED CARD OF 'inlaylaw14.EtagKnown'. -/
def etagKnownCard : Claim7 := { stood := { row := etagKnownRow, standIns := [], harness := (true, "3d3de750cf2c31434247aa8cd94302f1d3451563c3b60e252147babef5aab99a"), looks := false }, kinds := [], alts := [], laidByText := true, laidKinds := [.data, .data, .data, .listed, .data], laidTests := true, laidLooks := .later }
def EtagKnownCardSaid : Prop := Claim7.holds Tryd.pinned (.plain (OpenSpec.ofChange etagKnownSpec)) etagKnownCard

/-- THE SECOND FORM's CARD OF 'inlaylaw14.EtagAsks'. -/
def etagAsksUptoCard : Claim7 := { stood := { row := etagAsksUptoRow, standIns := [], harness := (true, "3d3de750cf2c31434247aa8cd94302f1d3451563c3b60e252147babef5aab99a"), looks := false }, kinds := [], alts := [], laidByText := true, laidKinds := [.listed, .data], laidTests := true, laidLooks := .later }
def EtagAsksUptoCardSaid : Prop := Claim7.holds Tryd.pinned (.plain (OpenSpec.upto etagAsksSpec)) etagAsksUptoCard

/-- THE SECOND FORM's CARD OF 'inlaylaw14.EtagKnown'. -/
def etagKnownUptoCard : Claim7 := { stood := { row := etagKnownUptoRow, standIns := [], harness := (true, "3d3de750cf2c31434247aa8cd94302f1d3451563c3b60e252147babef5aab99a"), looks := false }, kinds := [], alts := [], laidByText := true, laidKinds := [.data, .data, .data, .listed, .data], laidTests := true, laidLooks := .later }
def EtagKnownUptoCardSaid : Prop := Claim7.holds Tryd.pinned (.plain (OpenSpec.upto etagKnownSpec)) etagKnownUptoCard
end Rows
end Go.Proofs.YtjbkjmceabilaaaDoor
