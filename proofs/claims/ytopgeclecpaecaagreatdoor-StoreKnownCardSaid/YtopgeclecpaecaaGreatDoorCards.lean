/-
  DERIVED. GIVEN WITH THE SEED: THE CARDS: each row of YtopgeclecpaecaaGreatDoorRows.lean that lists a variable, with what it lists TIED to the program's text (the seventh form; the later family's looks); each row that meets fmt, with fmt's text TOLD by the authors' own Lean function (tested against real Go, not proved from fmt's source: count such statements apart). THE CARD IS WHAT COUNTS. Prove the row's statement (the work); the ties are given (YtopgeclecpaecaaGreatDoorTie.lean); close each card by the builder's one call (the guide's Derived/Test/ToyasCard.lean, 'card_holds'). Laid BY PROGRAM, IN A SANDBOX (cutbox-door.mjs). By AI agents, Wed Nov 11 2026. No macro, syntax, notation, axiom, sorry.
-/
import Derived.Test.YtopgeclecpaecaaGreatDoorRows
import GoSem.ClaimSeven
namespace Go.Proofs.YtopgeclecpaecaaGreatDoor
namespace Rows

/-- THE TIED CARD OF 'inlaylaw19.StoreKnown'. -/
def storeKnownCard : Claim7 := { stood := { row := storeKnownRow, standIns := [], harness := (true, "a2e0eb961a630bf05f990529e3a7730dc77ecb56c9aab4aad262321a1ed70a0d"), looks := true }, kinds := [], alts := [], laidByText := true, laidKinds := [.data, .data, .data, .sentinel, .sentinel], laidTests := true, laidLooks := .later }
def StoreKnownCardSaid : Prop := Claim7.holds Tryz.pinned (.plain (OpenSpec.ofChange storeKnownSpec)) storeKnownCard

/-- THE TIED CARD OF 'inlaylaw19.StoreHonest'. -/
def storeHonestCard : Claim7 := { stood := { row := storeHonestRow, standIns := [], harness := (true, "a2e0eb961a630bf05f990529e3a7730dc77ecb56c9aab4aad262321a1ed70a0d"), looks := true }, kinds := [], alts := [], laidByText := true, laidKinds := [.data, .data, .data, .sentinel, .sentinel], laidTests := true, laidLooks := .later }
def StoreHonestCardSaid : Prop := Claim7.holds Tryz.pinned (.plain (OpenSpec.ofChange storeHonestSpec)) storeHonestCard

/-- THE TIED CARD OF 'inlaylaw19.StoreApart'. -/
def storeApartCard : Claim7 := { stood := { row := storeApartRow, standIns := [], harness := (true, "a2e0eb961a630bf05f990529e3a7730dc77ecb56c9aab4aad262321a1ed70a0d"), looks := true }, kinds := [], alts := [], laidByText := true, laidKinds := [.data, .data, .data, .sentinel, .sentinel], laidTests := true, laidLooks := .later }
def StoreApartCardSaid : Prop := Claim7.holds Tryz.pinned (.plain (OpenSpec.ofChange storeApartSpec)) storeApartCard

/-- THE TIED CARD OF 'inlaylaw19.StoreBound'. -/
def storeBoundCard : Claim7 := { stood := { row := storeBoundRow, standIns := [], harness := (true, "a2e0eb961a630bf05f990529e3a7730dc77ecb56c9aab4aad262321a1ed70a0d"), looks := true }, kinds := [], alts := [], laidByText := true, laidKinds := [.data, .data, .data, .sentinel, .sentinel], laidTests := true, laidLooks := .later }
def StoreBoundCardSaid : Prop := Claim7.holds Tryz.pinned (.plain (OpenSpec.ofChange storeBoundSpec)) storeBoundCard

/-- THE SECOND FORM's CARD OF 'inlaylaw19.StoreKnown'. -/
def storeKnownUptoCard : Claim7 := { stood := { row := storeKnownUptoRow, standIns := [], harness := (true, "a2e0eb961a630bf05f990529e3a7730dc77ecb56c9aab4aad262321a1ed70a0d"), looks := true }, kinds := [], alts := [], laidByText := true, laidKinds := [.data, .data, .data, .sentinel, .sentinel], laidTests := true, laidLooks := .later }
def StoreKnownUptoCardSaid : Prop := Claim7.holds Tryz.pinned (.plain (OpenSpec.upto storeKnownSpec)) storeKnownUptoCard

/-- THE SECOND FORM's CARD OF 'inlaylaw19.StoreHonest'. -/
def storeHonestUptoCard : Claim7 := { stood := { row := storeHonestUptoRow, standIns := [], harness := (true, "a2e0eb961a630bf05f990529e3a7730dc77ecb56c9aab4aad262321a1ed70a0d"), looks := true }, kinds := [], alts := [], laidByText := true, laidKinds := [.data, .data, .data, .sentinel, .sentinel], laidTests := true, laidLooks := .later }
def StoreHonestUptoCardSaid : Prop := Claim7.holds Tryz.pinned (.plain (OpenSpec.upto storeHonestSpec)) storeHonestUptoCard

/-- THE SECOND FORM's CARD OF 'inlaylaw19.StoreApart'. -/
def storeApartUptoCard : Claim7 := { stood := { row := storeApartUptoRow, standIns := [], harness := (true, "a2e0eb961a630bf05f990529e3a7730dc77ecb56c9aab4aad262321a1ed70a0d"), looks := true }, kinds := [], alts := [], laidByText := true, laidKinds := [.data, .data, .data, .sentinel, .sentinel], laidTests := true, laidLooks := .later }
def StoreApartUptoCardSaid : Prop := Claim7.holds Tryz.pinned (.plain (OpenSpec.upto storeApartSpec)) storeApartUptoCard

/-- THE SECOND FORM's CARD OF 'inlaylaw19.StoreBound'. -/
def storeBoundUptoCard : Claim7 := { stood := { row := storeBoundUptoRow, standIns := [], harness := (true, "a2e0eb961a630bf05f990529e3a7730dc77ecb56c9aab4aad262321a1ed70a0d"), looks := true }, kinds := [], alts := [], laidByText := true, laidKinds := [.data, .data, .data, .sentinel, .sentinel], laidTests := true, laidLooks := .later }
def StoreBoundUptoCardSaid : Prop := Claim7.holds Tryz.pinned (.plain (OpenSpec.upto storeBoundSpec)) storeBoundUptoCard
end Rows
end Go.Proofs.YtopgeclecpaecaaGreatDoor
