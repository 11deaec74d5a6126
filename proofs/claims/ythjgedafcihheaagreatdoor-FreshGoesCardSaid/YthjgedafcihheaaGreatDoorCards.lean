/-
  DERIVED. GIVEN WITH THE SEED: THE CARDS: each row of YthjgedafcihheaaGreatDoorRows.lean that lists a variable, with what it lists TIED to the program's text (the seventh form; the later family's looks); each row that meets fmt, with fmt's text TOLD by the authors' own Lean function (tested against real Go, not proved from fmt's source: count such statements apart). THE CARD IS WHAT COUNTS. Prove the row's statement (the work); the ties are given (YthjgedafcihheaaGreatDoorTie.lean); close each card by the builder's one call (the guide's Derived/Test/ToyasCard.lean, 'card_holds'). Laid BY PROGRAM, IN A SANDBOX (cutbox-door.mjs). By AI agents, Wed Nov 11 2026. No macro, syntax, notation, axiom, sorry.
-/
import Derived.Test.YthjgedafcihheaaGreatDoorRows
import GoSem.ClaimSeven
namespace Go.Proofs.YthjgedafcihheaaGreatDoor
namespace Rows

/-- THE TIED CARD OF 'inlaylaw13.FreshLife'. -/
def freshLifeCard : Claim7 := { stood := { row := freshLifeRow, standIns := [], harness := (true, "af6f10f9444d131c78ff57b6df5f36ae6133b505e8e94e320053a33e65cbbb01"), looks := false }, kinds := [], alts := [], laidByText := true, laidKinds := [.listed, .data], laidTests := true, laidLooks := .later }
def FreshLifeCardSaid : Prop := Claim7.holds Tryz.pinned (.plain (OpenSpec.ofChange freshLifeSpec)) freshLifeCard

/-- THE TIED CARD OF 'inlaylaw13.FreshAge'. -/
def freshAgeCard : Claim7 := { stood := { row := freshAgeRow, standIns := [], harness := (true, "af6f10f9444d131c78ff57b6df5f36ae6133b505e8e94e320053a33e65cbbb01"), looks := false }, kinds := [], alts := [], laidByText := true, laidKinds := [.listed, .data], laidTests := true, laidLooks := .later }
def FreshAgeCardSaid : Prop := Claim7.holds Tryz.pinned (.plain (OpenSpec.ofChange freshAgeSpec)) freshAgeCard

/-- THE TIED CARD OF 'inlaylaw13.FreshKnown'. -/
def freshKnownCard : Claim7 := { stood := { row := freshKnownRow, standIns := [], harness := (true, "af6f10f9444d131c78ff57b6df5f36ae6133b505e8e94e320053a33e65cbbb01"), looks := false }, kinds := [], alts := [], laidByText := true, laidKinds := [.listed, .data], laidTests := true, laidLooks := .later }
def FreshKnownCardSaid : Prop := Claim7.holds Tryz.pinned (.plain (OpenSpec.ofChange freshKnownSpec)) freshKnownCard

/-- THE TIED CARD OF 'inlaylaw13.FreshGoes'. -/
def freshGoesCard : Claim7 := { stood := { row := freshGoesRow, standIns := [], harness := (true, "af6f10f9444d131c78ff57b6df5f36ae6133b505e8e94e320053a33e65cbbb01"), looks := false }, kinds := [], alts := [], laidByText := true, laidKinds := [.listed, .data], laidTests := true, laidLooks := .later }
def FreshGoesCardSaid : Prop := Claim7.holds Tryz.pinned (.plain (OpenSpec.ofChange freshGoesSpec)) freshGoesCard

/-- THE TIED CARD OF 'inlaylaw13.FreshAhead'. -/
def freshAheadCard : Claim7 := { stood := { row := freshAheadRow, standIns := [], harness := (true, "af6f10f9444d131c78ff57b6df5f36ae6133b505e8e94e320053a33e65cbbb01"), looks := false }, kinds := [], alts := [], laidByText := true, laidKinds := [.data, .data, .data, .listed, .data], laidTests := true, laidLooks := .later }
def FreshAheadCardSaid : Prop := Claim7.holds Tryz.pinned (.plain (OpenSpec.ofChange freshAheadSpec)) freshAheadCard

/-- THE SECOND FORM's CARD OF 'inlaylaw13.FreshLife'. -/
def freshLifeUptoCard : Claim7 := { stood := { row := freshLifeUptoRow, standIns := [], harness := (true, "af6f10f9444d131c78ff57b6df5f36ae6133b505e8e94e320053a33e65cbbb01"), looks := false }, kinds := [], alts := [], laidByText := true, laidKinds := [.listed, .data], laidTests := true, laidLooks := .later }
def FreshLifeUptoCardSaid : Prop := Claim7.holds Tryz.pinned (.plain (OpenSpec.upto freshLifeSpec)) freshLifeUptoCard

/-- THE SECOND FORM's CARD OF 'inlaylaw13.FreshAge'. -/
def freshAgeUptoCard : Claim7 := { stood := { row := freshAgeUptoRow, standIns := [], harness := (true, "af6f10f9444d131c78ff57b6df5f36ae6133b505e8e94e320053a33e65cbbb01"), looks := false }, kinds := [], alts := [], laidByText := true, laidKinds := [.listed, .data], laidTests := true, laidLooks := .later }
def FreshAgeUptoCardSaid : Prop := Claim7.holds Tryz.pinned (.plain (OpenSpec.upto freshAgeSpec)) freshAgeUptoCard

/-- THE SECOND FORM's CARD OF 'inlaylaw13.FreshKnown'. -/
def freshKnownUptoCard : Claim7 := { stood := { row := freshKnownUptoRow, standIns := [], harness := (true, "af6f10f9444d131c78ff57b6df5f36ae6133b505e8e94e320053a33e65cbbb01"), looks := false }, kinds := [], alts := [], laidByText := true, laidKinds := [.listed, .data], laidTests := true, laidLooks := .later }
def FreshKnownUptoCardSaid : Prop := Claim7.holds Tryz.pinned (.plain (OpenSpec.upto freshKnownSpec)) freshKnownUptoCard

/-- THE SECOND FORM's CARD OF 'inlaylaw13.FreshGoes'. -/
def freshGoesUptoCard : Claim7 := { stood := { row := freshGoesUptoRow, standIns := [], harness := (true, "af6f10f9444d131c78ff57b6df5f36ae6133b505e8e94e320053a33e65cbbb01"), looks := false }, kinds := [], alts := [], laidByText := true, laidKinds := [.listed, .data], laidTests := true, laidLooks := .later }
def FreshGoesUptoCardSaid : Prop := Claim7.holds Tryz.pinned (.plain (OpenSpec.upto freshGoesSpec)) freshGoesUptoCard

/-- THE SECOND FORM's CARD OF 'inlaylaw13.FreshAhead'. -/
def freshAheadUptoCard : Claim7 := { stood := { row := freshAheadUptoRow, standIns := [], harness := (true, "af6f10f9444d131c78ff57b6df5f36ae6133b505e8e94e320053a33e65cbbb01"), looks := false }, kinds := [], alts := [], laidByText := true, laidKinds := [.data, .data, .data, .listed, .data], laidTests := true, laidLooks := .later }
def FreshAheadUptoCardSaid : Prop := Claim7.holds Tryz.pinned (.plain (OpenSpec.upto freshAheadSpec)) freshAheadUptoCard
end Rows
end Go.Proofs.YthjgedafcihheaaGreatDoor
