/-
  DERIVED. GIVEN WITH THE SEED: THE CARDS: each row of YtfobjaccpnondaaGreatDoorRows.lean that lists a variable, with what it lists TIED to the program's text (the seventh form; the later family's looks); each row that meets fmt, with fmt's text TOLD by the authors' own Lean function (tested against real Go, not proved from fmt's source: count such statements apart). THE CARD IS WHAT COUNTS. Prove the row's statement (the work); the ties are given (YtfobjaccpnondaaGreatDoorTie.lean); close each card by the builder's one call (the guide's Derived/Test/ToyasCard.lean, 'card_holds'). Laid BY PROGRAM, IN A SANDBOX (cutbox-door.mjs). By AI agents, Wed Nov 11 2026. No macro, syntax, notation, axiom, sorry.
-/
import Derived.Test.YtfobjaccpnondaaGreatDoorRows
import GoSem.ClaimSeven
namespace Go.Proofs.YtfobjaccpnondaaGreatDoor
namespace Rows

/-- THE TIED CARD OF 'inlaylaw16.StorableMay'. -/
def storableMayCard : Claim7 := { stood := { row := storableMayRow, standIns := [], harness := (true, "2e1d5162d6b6233f1a5076e012c5be3e9332da13f636223915bcdd6562e9fd44"), looks := false }, kinds := [], alts := [], laidByText := true, laidKinds := [.listed, .data], laidTests := true, laidLooks := .later }
def StorableMayCardSaid : Prop := Claim7.holds Tryz.pinned (.plain (OpenSpec.ofChange storableMaySpec)) storableMayCard

/-- THE TIED CARD OF 'inlaylaw16.StorableOnly'. -/
def storableOnlyCard : Claim7 := { stood := { row := storableOnlyRow, standIns := [], harness := (true, "2e1d5162d6b6233f1a5076e012c5be3e9332da13f636223915bcdd6562e9fd44"), looks := false }, kinds := [], alts := [], laidByText := true, laidKinds := [.listed, .data], laidTests := true, laidLooks := .later }
def StorableOnlyCardSaid : Prop := Claim7.holds Tryz.pinned (.plain (OpenSpec.ofChange storableOnlySpec)) storableOnlyCard

/-- THE TIED CARD OF 'inlaylaw16.StorableKnown'. -/
def storableKnownCard : Claim7 := { stood := { row := storableKnownRow, standIns := [], harness := (true, "2e1d5162d6b6233f1a5076e012c5be3e9332da13f636223915bcdd6562e9fd44"), looks := false }, kinds := [], alts := [], laidByText := true, laidKinds := [.data, .data, .data, .listed, .data], laidTests := true, laidLooks := .later }
def StorableKnownCardSaid : Prop := Claim7.holds Tryz.pinned (.plain (OpenSpec.ofChange storableKnownSpec)) storableKnownCard

/-- THE SECOND FORM's CARD OF 'inlaylaw16.StorableMay'. -/
def storableMayUptoCard : Claim7 := { stood := { row := storableMayUptoRow, standIns := [], harness := (true, "2e1d5162d6b6233f1a5076e012c5be3e9332da13f636223915bcdd6562e9fd44"), looks := false }, kinds := [], alts := [], laidByText := true, laidKinds := [.listed, .data], laidTests := true, laidLooks := .later }
def StorableMayUptoCardSaid : Prop := Claim7.holds Tryz.pinned (.plain (OpenSpec.upto storableMaySpec)) storableMayUptoCard

/-- THE SECOND FORM's CARD OF 'inlaylaw16.StorableOnly'. -/
def storableOnlyUptoCard : Claim7 := { stood := { row := storableOnlyUptoRow, standIns := [], harness := (true, "2e1d5162d6b6233f1a5076e012c5be3e9332da13f636223915bcdd6562e9fd44"), looks := false }, kinds := [], alts := [], laidByText := true, laidKinds := [.listed, .data], laidTests := true, laidLooks := .later }
def StorableOnlyUptoCardSaid : Prop := Claim7.holds Tryz.pinned (.plain (OpenSpec.upto storableOnlySpec)) storableOnlyUptoCard

/-- THE SECOND FORM's CARD OF 'inlaylaw16.StorableKnown'. -/
def storableKnownUptoCard : Claim7 := { stood := { row := storableKnownUptoRow, standIns := [], harness := (true, "2e1d5162d6b6233f1a5076e012c5be3e9332da13f636223915bcdd6562e9fd44"), looks := false }, kinds := [], alts := [], laidByText := true, laidKinds := [.data, .data, .data, .listed, .data], laidTests := true, laidLooks := .later }
def StorableKnownUptoCardSaid : Prop := Claim7.holds Tryz.pinned (.plain (OpenSpec.upto storableKnownSpec)) storableKnownUptoCard
end Rows
end Go.Proofs.YtfobjaccpnondaaGreatDoor
