/-
  DERIVED. GIVEN WITH THE SEED: THE CARDS: each row of YtnhkebbmgiokbaaDoorRows.lean that lists a variable, with what it lists TIED to the program's text (the seventh form; the later family's looks); each row that meets fmt, with fmt's text TOLD by the authors' own Lean function (tested against real Go, not proved from fmt's source: count such statements apart). THE CARD IS WHAT COUNTS. Prove the row's statement (the work); the ties are given (YtnhkebbmgiokbaaDoorTie.lean); close each card by the builder's one call (the guide's Derived/Test/ToyasCard.lean, 'card_holds'). Laid BY PROGRAM, IN A SANDBOX (cutbox-door.mjs). By AI agents, Wed Nov 11 2026. No macro, syntax, notation, axiom, sorry.
-/
import Derived.Test.YtnhkebbmgiokbaaDoorRows
import GoSem.ClaimSeven
namespace Go.Proofs.YtnhkebbmgiokbaaDoor
namespace Rows

/-- THE TIED CARD OF 'inlaylaw06.FramingAsks'. -/
def framingAsksCard : Claim7 := { stood := { row := framingAsksRow, standIns := [], harness := (true, "baf17a9ef667dbf77a81b6c9e1e516b3a1f12f346d5eecde8c6ddc848a68c850"), looks := true }, kinds := [], alts := [], laidByText := true, laidKinds := [.data, .data, .data, .sentinel, .sentinel], laidTests := true, laidLooks := .later }
def FramingAsksCardSaid : Prop := Claim7.holds Tryd.pinned (.plain (OpenSpec.ofChange framingAsksSpec)) framingAsksCard

/-- THE TIED CARD OF 'inlaylaw06.FramingTells'. -/
def framingTellsCard : Claim7 := { stood := { row := framingTellsRow, standIns := [], harness := (true, "baf17a9ef667dbf77a81b6c9e1e516b3a1f12f346d5eecde8c6ddc848a68c850"), looks := true }, kinds := [], alts := [], laidByText := true, laidKinds := [.data, .data, .data, .sentinel, .sentinel], laidTests := true, laidLooks := .later }
def FramingTellsCardSaid : Prop := Claim7.holds Tryd.pinned (.plain (OpenSpec.ofChange framingTellsSpec)) framingTellsCard

/-- THE TIED CARD OF 'inlaylaw06.FramingOnly'. -/
def framingOnlyCard : Claim7 := { stood := { row := framingOnlyRow, standIns := [], harness := (true, "baf17a9ef667dbf77a81b6c9e1e516b3a1f12f346d5eecde8c6ddc848a68c850"), looks := true }, kinds := [], alts := [], laidByText := true, laidKinds := [.data, .data, .data, .sentinel, .sentinel], laidTests := true, laidLooks := .later }
def FramingOnlyCardSaid : Prop := Claim7.holds Tryd.pinned (.plain (OpenSpec.ofChange framingOnlySpec)) framingOnlyCard

/-- THE TIED CARD OF 'inlaylaw06.FramingKnown'. -/
def framingKnownCard : Claim7 := { stood := { row := framingKnownRow, standIns := [], harness := (true, "baf17a9ef667dbf77a81b6c9e1e516b3a1f12f346d5eecde8c6ddc848a68c850"), looks := true }, kinds := [], alts := [], laidByText := true, laidKinds := [.data, .data, .data, .sentinel, .sentinel], laidTests := true, laidLooks := .later }
def FramingKnownCardSaid : Prop := Claim7.holds Tryd.pinned (.plain (OpenSpec.ofChange framingKnownSpec)) framingKnownCard

/-- THE SECOND FORM's CARD OF 'inlaylaw06.FramingAsks'. -/
def framingAsksUptoCard : Claim7 := { stood := { row := framingAsksUptoRow, standIns := [], harness := (true, "baf17a9ef667dbf77a81b6c9e1e516b3a1f12f346d5eecde8c6ddc848a68c850"), looks := true }, kinds := [], alts := [], laidByText := true, laidKinds := [.data, .data, .data, .sentinel, .sentinel], laidTests := true, laidLooks := .later }
def FramingAsksUptoCardSaid : Prop := Claim7.holds Tryd.pinned (.plain (OpenSpec.upto framingAsksSpec)) framingAsksUptoCard

/-- THE SECOND FORM's CARD OF 'inlaylaw06.FramingTells'. -/
def framingTellsUptoCard : Claim7 := { stood := { row := framingTellsUptoRow, standIns := [], harness := (true, "baf17a9ef667dbf77a81b6c9e1e516b3a1f12f346d5eecde8c6ddc848a68c850"), looks := true }, kinds := [], alts := [], laidByText := true, laidKinds := [.data, .data, .data, .sentinel, .sentinel], laidTests := true, laidLooks := .later }
def FramingTellsUptoCardSaid : Prop := Claim7.holds Tryd.pinned (.plain (OpenSpec.upto framingTellsSpec)) framingTellsUptoCard

/-- THE SECOND FORM's CARD OF 'inlaylaw06.FramingOnly'. -/
def framingOnlyUptoCard : Claim7 := { stood := { row := framingOnlyUptoRow, standIns := [], harness := (true, "baf17a9ef667dbf77a81b6c9e1e516b3a1f12f346d5eecde8c6ddc848a68c850"), looks := true }, kinds := [], alts := [], laidByText := true, laidKinds := [.data, .data, .data, .sentinel, .sentinel], laidTests := true, laidLooks := .later }
def FramingOnlyUptoCardSaid : Prop := Claim7.holds Tryd.pinned (.plain (OpenSpec.upto framingOnlySpec)) framingOnlyUptoCard

/-- THE SECOND FORM's CARD OF 'inlaylaw06.FramingKnown'. -/
def framingKnownUptoCard : Claim7 := { stood := { row := framingKnownUptoRow, standIns := [], harness := (true, "baf17a9ef667dbf77a81b6c9e1e516b3a1f12f346d5eecde8c6ddc848a68c850"), looks := true }, kinds := [], alts := [], laidByText := true, laidKinds := [.data, .data, .data, .sentinel, .sentinel], laidTests := true, laidLooks := .later }
def FramingKnownUptoCardSaid : Prop := Claim7.holds Tryd.pinned (.plain (OpenSpec.upto framingKnownSpec)) framingKnownUptoCard
end Rows
end Go.Proofs.YtnhkebbmgiokbaaDoor
