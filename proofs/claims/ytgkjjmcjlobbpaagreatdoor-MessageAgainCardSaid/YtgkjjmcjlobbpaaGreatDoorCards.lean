/-
  DERIVED. GIVEN WITH THE SEED: THE CARDS: each row of YtgkjjmcjlobbpaaGreatDoorRows.lean that lists a variable, with what it lists TIED to the program's text (the seventh form; the later family's looks); each row that meets fmt, with fmt's text TOLD by the authors' own Lean function (tested against real Go, not proved from fmt's source: count such statements apart). THE CARD IS WHAT COUNTS. Prove the row's statement (the work); the ties are given (YtgkjjmcjlobbpaaGreatDoorTie.lean); close each card by the builder's one call (the guide's Derived/Test/ToyasCard.lean, 'card_holds'). Laid BY PROGRAM, IN A SANDBOX (cutbox-door.mjs). By AI agents, Wed Nov 11 2026. No macro, syntax, notation, axiom, sorry.
-/
import Derived.Test.YtgkjjmcjlobbpaaGreatDoorRows
import GoSem.ClaimSeven
namespace Go.Proofs.YtgkjjmcjlobbpaaGreatDoor
namespace Rows

/-- THE TIED CARD OF 'inlaylaw08.MessageReads'. -/
def messageReadsCard : Claim7 := { stood := { row := messageReadsRow, standIns := [], harness := (true, "f2c5bcb791fad1137d8d8609aa004a4ca230c759e5e5444067bb764f5e2d5b66"), looks := true }, kinds := [], alts := [], laidByText := true, laidKinds := [.data, .data, .data, .data, .sentinel, .sentinel, .pinned], laidTests := true, laidLooks := .later }
def MessageReadsCardSaid : Prop := Claim7.holds Tryz.pinned (.plain (OpenSpec.ofChange messageReadsSpec)) messageReadsCard

/-- THE TIED CARD OF 'inlaylaw08.MessageAsks'. -/
def messageAsksCard : Claim7 := { stood := { row := messageAsksRow, standIns := [], harness := (true, "f2c5bcb791fad1137d8d8609aa004a4ca230c759e5e5444067bb764f5e2d5b66"), looks := true }, kinds := [], alts := [], laidByText := true, laidKinds := [.data, .data, .data, .data, .sentinel, .sentinel, .pinned], laidTests := true, laidLooks := .later }
def MessageAsksCardSaid : Prop := Claim7.holds Tryz.pinned (.plain (OpenSpec.ofChange messageAsksSpec)) messageAsksCard

/-- THE TIED CARD OF 'inlaylaw08.MessageTells'. -/
def messageTellsCard : Claim7 := { stood := { row := messageTellsRow, standIns := [], harness := (true, "f2c5bcb791fad1137d8d8609aa004a4ca230c759e5e5444067bb764f5e2d5b66"), looks := true }, kinds := [], alts := [], laidByText := true, laidKinds := [.data, .data, .data, .data, .sentinel, .sentinel, .pinned], laidTests := true, laidLooks := .later }
def MessageTellsCardSaid : Prop := Claim7.holds Tryz.pinned (.plain (OpenSpec.ofChange messageTellsSpec)) messageTellsCard

/-- THE TIED CARD OF 'inlaylaw08.MessageLong'. -/
def messageLongCard : Claim7 := { stood := { row := messageLongRow, standIns := [], harness := (true, "f2c5bcb791fad1137d8d8609aa004a4ca230c759e5e5444067bb764f5e2d5b66"), looks := true }, kinds := [], alts := [], laidByText := true, laidKinds := [.data, .data, .data, .data, .sentinel, .sentinel, .pinned], laidTests := true, laidLooks := .later }
def MessageLongCardSaid : Prop := Claim7.holds Tryz.pinned (.plain (OpenSpec.ofChange messageLongSpec)) messageLongCard

/-- THE TIED CARD OF 'inlaylaw08.MessageBack'. -/
def messageBackCard : Claim7 := { stood := { row := messageBackRow, standIns := [], harness := (true, "f2c5bcb791fad1137d8d8609aa004a4ca230c759e5e5444067bb764f5e2d5b66"), looks := true }, kinds := [], alts := [], laidByText := true, laidKinds := [.data, .data, .data, .data, .sentinel, .sentinel, .pinned], laidTests := true, laidLooks := .later }
def MessageBackCardSaid : Prop := Claim7.holds Tryz.pinned (.plain (OpenSpec.ofChange messageBackSpec)) messageBackCard

/-- THE TIED CARD OF 'inlaylaw08.MessageAgain'. -/
def messageAgainCard : Claim7 := { stood := { row := messageAgainRow, standIns := [], harness := (true, "f2c5bcb791fad1137d8d8609aa004a4ca230c759e5e5444067bb764f5e2d5b66"), looks := true }, kinds := [], alts := [], laidByText := true, laidKinds := [.data, .data, .data, .data, .sentinel, .sentinel, .pinned], laidTests := true, laidLooks := .later }
def MessageAgainCardSaid : Prop := Claim7.holds Tryz.pinned (.plain (OpenSpec.ofChange messageAgainSpec)) messageAgainCard

/-- THE TIED CARD OF 'inlaylaw08.MessageKnown'. -/
def messageKnownCard : Claim7 := { stood := { row := messageKnownRow, standIns := [], harness := (true, "f2c5bcb791fad1137d8d8609aa004a4ca230c759e5e5444067bb764f5e2d5b66"), looks := true }, kinds := [], alts := [], laidByText := true, laidKinds := [.data, .data, .data, .data, .sentinel, .sentinel, .pinned], laidTests := true, laidLooks := .later }
def MessageKnownCardSaid : Prop := Claim7.holds Tryz.pinned (.plain (OpenSpec.ofChange messageKnownSpec)) messageKnownCard

/-- THE SECOND FORM's CARD OF 'inlaylaw08.MessageReads'. -/
def messageReadsUptoCard : Claim7 := { stood := { row := messageReadsUptoRow, standIns := [], harness := (true, "f2c5bcb791fad1137d8d8609aa004a4ca230c759e5e5444067bb764f5e2d5b66"), looks := true }, kinds := [], alts := [], laidByText := true, laidKinds := [.data, .data, .data, .data, .sentinel, .sentinel, .pinned], laidTests := true, laidLooks := .later }
def MessageReadsUptoCardSaid : Prop := Claim7.holds Tryz.pinned (.plain (OpenSpec.upto messageReadsSpec)) messageReadsUptoCard

/-- THE SECOND FORM's CARD OF 'inlaylaw08.MessageAsks'. -/
def messageAsksUptoCard : Claim7 := { stood := { row := messageAsksUptoRow, standIns := [], harness := (true, "f2c5bcb791fad1137d8d8609aa004a4ca230c759e5e5444067bb764f5e2d5b66"), looks := true }, kinds := [], alts := [], laidByText := true, laidKinds := [.data, .data, .data, .data, .sentinel, .sentinel, .pinned], laidTests := true, laidLooks := .later }
def MessageAsksUptoCardSaid : Prop := Claim7.holds Tryz.pinned (.plain (OpenSpec.upto messageAsksSpec)) messageAsksUptoCard

/-- THE SECOND FORM's CARD OF 'inlaylaw08.MessageTells'. -/
def messageTellsUptoCard : Claim7 := { stood := { row := messageTellsUptoRow, standIns := [], harness := (true, "f2c5bcb791fad1137d8d8609aa004a4ca230c759e5e5444067bb764f5e2d5b66"), looks := true }, kinds := [], alts := [], laidByText := true, laidKinds := [.data, .data, .data, .data, .sentinel, .sentinel, .pinned], laidTests := true, laidLooks := .later }
def MessageTellsUptoCardSaid : Prop := Claim7.holds Tryz.pinned (.plain (OpenSpec.upto messageTellsSpec)) messageTellsUptoCard

/-- THE SECOND FORM's CARD OF 'inlaylaw08.MessageLong'. -/
def messageLongUptoCard : Claim7 := { stood := { row := messageLongUptoRow, standIns := [], harness := (true, "f2c5bcb791fad1137d8d8609aa004a4ca230c759e5e5444067bb764f5e2d5b66"), looks := true }, kinds := [], alts := [], laidByText := true, laidKinds := [.data, .data, .data, .data, .sentinel, .sentinel, .pinned], laidTests := true, laidLooks := .later }
def MessageLongUptoCardSaid : Prop := Claim7.holds Tryz.pinned (.plain (OpenSpec.upto messageLongSpec)) messageLongUptoCard

/-- THE SECOND FORM's CARD OF 'inlaylaw08.MessageBack'. -/
def messageBackUptoCard : Claim7 := { stood := { row := messageBackUptoRow, standIns := [], harness := (true, "f2c5bcb791fad1137d8d8609aa004a4ca230c759e5e5444067bb764f5e2d5b66"), looks := true }, kinds := [], alts := [], laidByText := true, laidKinds := [.data, .data, .data, .data, .sentinel, .sentinel, .pinned], laidTests := true, laidLooks := .later }
def MessageBackUptoCardSaid : Prop := Claim7.holds Tryz.pinned (.plain (OpenSpec.upto messageBackSpec)) messageBackUptoCard

/-- THE SECOND FORM's CARD OF 'inlaylaw08.MessageAgain'. -/
def messageAgainUptoCard : Claim7 := { stood := { row := messageAgainUptoRow, standIns := [], harness := (true, "f2c5bcb791fad1137d8d8609aa004a4ca230c759e5e5444067bb764f5e2d5b66"), looks := true }, kinds := [], alts := [], laidByText := true, laidKinds := [.data, .data, .data, .data, .sentinel, .sentinel, .pinned], laidTests := true, laidLooks := .later }
def MessageAgainUptoCardSaid : Prop := Claim7.holds Tryz.pinned (.plain (OpenSpec.upto messageAgainSpec)) messageAgainUptoCard

/-- THE SECOND FORM's CARD OF 'inlaylaw08.MessageKnown'. -/
def messageKnownUptoCard : Claim7 := { stood := { row := messageKnownUptoRow, standIns := [], harness := (true, "f2c5bcb791fad1137d8d8609aa004a4ca230c759e5e5444067bb764f5e2d5b66"), looks := true }, kinds := [], alts := [], laidByText := true, laidKinds := [.data, .data, .data, .data, .sentinel, .sentinel, .pinned], laidTests := true, laidLooks := .later }
def MessageKnownUptoCardSaid : Prop := Claim7.holds Tryz.pinned (.plain (OpenSpec.upto messageKnownSpec)) messageKnownUptoCard
end Rows
end Go.Proofs.YtgkjjmcjlobbpaaGreatDoor
