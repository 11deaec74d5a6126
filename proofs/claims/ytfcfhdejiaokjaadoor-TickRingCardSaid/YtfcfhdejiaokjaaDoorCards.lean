/-
  DERIVED. GIVEN WITH THE SEED: THE CARDS: each row of YtfcfhdejiaokjaaDoorRows.lean that lists a variable, with what it lists TIED to the program's text (the seventh form; the later family's looks); each row that meets fmt, with fmt's text TOLD by the authors' own Lean function (tested against real Go, not proved from fmt's source: count such statements apart). THE CARD IS WHAT COUNTS. Prove the row's statement (the work); the ties are given (YtfcfhdejiaokjaaDoorTie.lean); close each card by the builder's one call (the guide's Derived/Test/ToyasCard.lean, 'card_holds'). Laid BY PROGRAM, IN A SANDBOX (cutbox-door.mjs). By AI agents, Wed Nov 11 2026. No macro, syntax, notation, axiom, sorry.
-/
import Derived.Test.YtfcfhdejiaokjaaDoorRows
import GoSem.ClaimSeven
namespace Go.Proofs.YtfcfhdejiaokjaaDoor
namespace Rows

/-- THE TIED CARD OF 'inlaylaw02.TickSums'. -/
def tickSumsCard : Claim7 := { stood := { row := tickSumsRow, standIns := [], harness := (true, "29c92557248a789722b7fd73c26f63b2c895507d4bf33bd966476047a6732c5a"), looks := false }, kinds := [], alts := [], laidByText := true, laidKinds := [.data, .data, .data], laidTests := true, laidLooks := .later }
def TickSumsCardSaid : Prop := Claim7.holds Tryd.pinned (.plain (OpenSpec.ofChange tickSumsSpec)) tickSumsCard

/-- THE TIED CARD OF 'inlaylaw02.TickSince'. -/
def tickSinceCard : Claim7 := { stood := { row := tickSinceRow, standIns := [], harness := (true, "29c92557248a789722b7fd73c26f63b2c895507d4bf33bd966476047a6732c5a"), looks := false }, kinds := [], alts := [], laidByText := true, laidKinds := [.data, .data, .data], laidTests := true, laidLooks := .later }
def TickSinceCardSaid : Prop := Claim7.holds Tryd.pinned (.plain (OpenSpec.ofChange tickSinceSpec)) tickSinceCard

/-- THE TIED CARD OF 'inlaylaw02.TickTexts'. -/
def tickTextsCard : Claim7 := { stood := { row := tickTextsRow, standIns := [], harness := (true, "29c92557248a789722b7fd73c26f63b2c895507d4bf33bd966476047a6732c5a"), looks := false }, kinds := [], alts := [], laidByText := true, laidKinds := [.data, .data, .data], laidTests := true, laidLooks := .later }
def TickTextsCardSaid : Prop := Claim7.holds Tryd.pinned (.plain (OpenSpec.ofChange tickTextsSpec)) tickTextsCard

/-- THE TIED CARD OF 'inlaylaw02.TickBack'. -/
def tickBackCard : Claim7 := { stood := { row := tickBackRow, standIns := [], harness := (true, "29c92557248a789722b7fd73c26f63b2c895507d4bf33bd966476047a6732c5a"), looks := false }, kinds := [], alts := [], laidByText := true, laidKinds := [.data, .data, .data], laidTests := true, laidLooks := .later }
def TickBackCardSaid : Prop := Claim7.holds Tryd.pinned (.plain (OpenSpec.ofChange tickBackSpec)) tickBackCard

/-- THE TIED CARD OF 'inlaylaw02.TickRing'. -/
def tickRingCard : Claim7 := { stood := { row := tickRingRow, standIns := [], harness := (true, "29c92557248a789722b7fd73c26f63b2c895507d4bf33bd966476047a6732c5a"), looks := false }, kinds := [], alts := [], laidByText := true, laidKinds := [.data, .data, .data], laidTests := true, laidLooks := .later }
def TickRingCardSaid : Prop := Claim7.holds Tryd.pinned (.plain (OpenSpec.ofChange tickRingSpec)) tickRingCard

/-- THE TIED CARD OF 'inlaylaw02.TickWays'. -/
def tickWaysCard : Claim7 := { stood := { row := tickWaysRow, standIns := [], harness := (true, "29c92557248a789722b7fd73c26f63b2c895507d4bf33bd966476047a6732c5a"), looks := false }, kinds := [], alts := [], laidByText := true, laidKinds := [.data, .data, .data], laidTests := true, laidLooks := .later }
def TickWaysCardSaid : Prop := Claim7.holds Tryd.pinned (.plain (OpenSpec.ofChange tickWaysSpec)) tickWaysCard

/-- THE TIED CARD OF 'inlaylaw02.TickKnown'. -/
def tickKnownCard : Claim7 := { stood := { row := tickKnownRow, standIns := [], harness := (true, "29c92557248a789722b7fd73c26f63b2c895507d4bf33bd966476047a6732c5a"), looks := false }, kinds := [], alts := [], laidByText := true, laidKinds := [.data, .data, .data], laidTests := true, laidLooks := .later }
def TickKnownCardSaid : Prop := Claim7.holds Tryd.pinned (.plain (OpenSpec.ofChange tickKnownSpec)) tickKnownCard

/-- THE SECOND FORM's CARD OF 'inlaylaw02.TickSums'. -/
def tickSumsUptoCard : Claim7 := { stood := { row := tickSumsUptoRow, standIns := [], harness := (true, "29c92557248a789722b7fd73c26f63b2c895507d4bf33bd966476047a6732c5a"), looks := false }, kinds := [], alts := [], laidByText := true, laidKinds := [.data, .data, .data], laidTests := true, laidLooks := .later }
def TickSumsUptoCardSaid : Prop := Claim7.holds Tryd.pinned (.plain (OpenSpec.upto tickSumsSpec)) tickSumsUptoCard

/-- THE SECOND FORM's CARD OF 'inlaylaw02.TickSince'. -/
def tickSinceUptoCard : Claim7 := { stood := { row := tickSinceUptoRow, standIns := [], harness := (true, "29c92557248a789722b7fd73c26f63b2c895507d4bf33bd966476047a6732c5a"), looks := false }, kinds := [], alts := [], laidByText := true, laidKinds := [.data, .data, .data], laidTests := true, laidLooks := .later }
def TickSinceUptoCardSaid : Prop := Claim7.holds Tryd.pinned (.plain (OpenSpec.upto tickSinceSpec)) tickSinceUptoCard

/-- THE SECOND FORM's CARD OF 'inlaylaw02.TickTexts'. -/
def tickTextsUptoCard : Claim7 := { stood := { row := tickTextsUptoRow, standIns := [], harness := (true, "29c92557248a789722b7fd73c26f63b2c895507d4bf33bd966476047a6732c5a"), looks := false }, kinds := [], alts := [], laidByText := true, laidKinds := [.data, .data, .data], laidTests := true, laidLooks := .later }
def TickTextsUptoCardSaid : Prop := Claim7.holds Tryd.pinned (.plain (OpenSpec.upto tickTextsSpec)) tickTextsUptoCard

/-- THE SECOND FORM's CARD OF 'inlaylaw02.TickBack'. -/
def tickBackUptoCard : Claim7 := { stood := { row := tickBackUptoRow, standIns := [], harness := (true, "29c92557248a789722b7fd73c26f63b2c895507d4bf33bd966476047a6732c5a"), looks := false }, kinds := [], alts := [], laidByText := true, laidKinds := [.data, .data, .data], laidTests := true, laidLooks := .later }
def TickBackUptoCardSaid : Prop := Claim7.holds Tryd.pinned (.plain (OpenSpec.upto tickBackSpec)) tickBackUptoCard

/-- THE SECOND FORM's CARD OF 'inlaylaw02.TickRing'. -/
def tickRingUptoCard : Claim7 := { stood := { row := tickRingUptoRow, standIns := [], harness := (true, "29c92557248a789722b7fd73c26f63b2c895507d4bf33bd966476047a6732c5a"), looks := false }, kinds := [], alts := [], laidByText := true, laidKinds := [.data, .data, .data], laidTests := true, laidLooks := .later }
def TickRingUptoCardSaid : Prop := Claim7.holds Tryd.pinned (.plain (OpenSpec.upto tickRingSpec)) tickRingUptoCard

/-- THE SECOND FORM's CARD OF 'inlaylaw02.TickWays'. -/
def tickWaysUptoCard : Claim7 := { stood := { row := tickWaysUptoRow, standIns := [], harness := (true, "29c92557248a789722b7fd73c26f63b2c895507d4bf33bd966476047a6732c5a"), looks := false }, kinds := [], alts := [], laidByText := true, laidKinds := [.data, .data, .data], laidTests := true, laidLooks := .later }
def TickWaysUptoCardSaid : Prop := Claim7.holds Tryd.pinned (.plain (OpenSpec.upto tickWaysSpec)) tickWaysUptoCard

/-- THE SECOND FORM's CARD OF 'inlaylaw02.TickKnown'. -/
def tickKnownUptoCard : Claim7 := { stood := { row := tickKnownUptoRow, standIns := [], harness := (true, "29c92557248a789722b7fd73c26f63b2c895507d4bf33bd966476047a6732c5a"), looks := false }, kinds := [], alts := [], laidByText := true, laidKinds := [.data, .data, .data], laidTests := true, laidLooks := .later }
def TickKnownUptoCardSaid : Prop := Claim7.holds Tryd.pinned (.plain (OpenSpec.upto tickKnownSpec)) tickKnownUptoCard
end Rows
end Go.Proofs.YtfcfhdejiaokjaaDoor
