/-
  DERIVED. GIVEN WITH THE SEED: THE CARDS: each row of YtdaiielhohdgiaaDoorRows.lean that lists a variable, with what it lists TIED to the program's text (the seventh form; the later family's looks); each row that meets fmt, with fmt's text TOLD by the authors' own Lean function (tested against real Go, not proved from fmt's source: count such statements apart). THE CARD IS WHAT COUNTS. Prove the row's statement (the work); the ties are given (YtdaiielhohdgiaaDoorTie.lean); close each card by the builder's one call (the guide's Derived/Test/ToyasCard.lean, 'card_holds'). Laid BY PROGRAM, IN A SANDBOX (cutbox-door.mjs). By AI agents, Wed Nov 11 2026. No macro, syntax, notation, axiom, sorry.
-/
import Derived.Test.YtdaiielhohdgiaaDoorRows
import GoSem.ClaimSeven
namespace Go.Proofs.YtdaiielhohdgiaaDoor
namespace Rows

/-- THE TIED CARD OF 'inlaylaw20.RefreshAgain'. -/
def refreshAgainCard : Claim7 := { stood := { row := refreshAgainRow, standIns := [], harness := (true, "a00214ff4a7098e228ad4fc3479f1e37bc972874db550ea8a60aa49703a4beae"), looks := false }, kinds := [], alts := [], laidByText := true, laidKinds := [.data, .data, .data, .listed, .data], laidTests := true, laidLooks := .later }
def RefreshAgainCardSaid : Prop := Claim7.holds Tryd.pinned (.plain (OpenSpec.ofChange refreshAgainSpec)) refreshAgainCard

/-- THE TIED CARD OF 'inlaylaw20.RefreshKnown'. -/
def refreshKnownCard : Claim7 := { stood := { row := refreshKnownRow, standIns := [], harness := (true, "a00214ff4a7098e228ad4fc3479f1e37bc972874db550ea8a60aa49703a4beae"), looks := false }, kinds := [], alts := [], laidByText := true, laidKinds := [.data, .data, .data, .listed, .data], laidTests := true, laidLooks := .later }
def RefreshKnownCardSaid : Prop := Claim7.holds Tryd.pinned (.plain (OpenSpec.ofChange refreshKnownSpec)) refreshKnownCard

/-- THE SECOND FORM's CARD OF 'inlaylaw20.RefreshAgain'. -/
def refreshAgainUptoCard : Claim7 := { stood := { row := refreshAgainUptoRow, standIns := [], harness := (true, "a00214ff4a7098e228ad4fc3479f1e37bc972874db550ea8a60aa49703a4beae"), looks := false }, kinds := [], alts := [], laidByText := true, laidKinds := [.data, .data, .data, .listed, .data], laidTests := true, laidLooks := .later }
def RefreshAgainUptoCardSaid : Prop := Claim7.holds Tryd.pinned (.plain (OpenSpec.upto refreshAgainSpec)) refreshAgainUptoCard

/-- THE SECOND FORM's CARD OF 'inlaylaw20.RefreshKnown'. -/
def refreshKnownUptoCard : Claim7 := { stood := { row := refreshKnownUptoRow, standIns := [], harness := (true, "a00214ff4a7098e228ad4fc3479f1e37bc972874db550ea8a60aa49703a4beae"), looks := false }, kinds := [], alts := [], laidByText := true, laidKinds := [.data, .data, .data, .listed, .data], laidTests := true, laidLooks := .later }
def RefreshKnownUptoCardSaid : Prop := Claim7.holds Tryd.pinned (.plain (OpenSpec.upto refreshKnownSpec)) refreshKnownUptoCard
end Rows
end Go.Proofs.YtdaiielhohdgiaaDoor
