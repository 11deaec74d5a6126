/-
  DERIVED. GIVEN WITH THE SEED: THE CARDS: each row of YtekaiafhnnpkgaaGreatDoorRows.lean that lists a variable, with what it lists TIED to the program's text (the seventh form; the later family's looks); each row that meets fmt, with fmt's text TOLD by the authors' own Lean function (tested against real Go, not proved from fmt's source: count such statements apart). THE CARD IS WHAT COUNTS. Prove the row's statement (the work); the ties are given (YtekaiafhnnpkgaaGreatDoorTie.lean); close each card by the builder's one call (the guide's Derived/Test/ToyasCard.lean, 'card_holds'). Laid BY PROGRAM, IN A SANDBOX (cutbox-door.mjs). By AI agents, Wed Nov 11 2026. No macro, syntax, notation, axiom, sorry.
-/
import Derived.Test.YtekaiafhnnpkgaaGreatDoorRows
import GoSem.ClaimSeven
namespace Go.Proofs.YtekaiafhnnpkgaaGreatDoor
namespace Rows

/-- THE TIED CARD OF 'inlaylaw10.ResolveRefs'. -/
def resolveRefsCard : Claim7 := { stood := { row := resolveRefsRow, standIns := [], harness := (true, "b52197cd4667fede5c9a22a6d68879dc5b6db014ee27795e2d3d40bca9750cc5"), looks := true }, kinds := [], alts := [], laidByText := true, laidKinds := [.data, .data, .data, .data, .sentinel, .sentinel, .pinned, .pinned], laidTests := true, laidLooks := .later }
def ResolveRefsCardSaid : Prop := Claim7.holds Tryz.pinned (.plain (OpenSpec.ofChange resolveRefsSpec)) resolveRefsCard

/-- THE TIED CARD OF 'inlaylaw10.ResolveWhole'. -/
def resolveWholeCard : Claim7 := { stood := { row := resolveWholeRow, standIns := [], harness := (true, "b52197cd4667fede5c9a22a6d68879dc5b6db014ee27795e2d3d40bca9750cc5"), looks := true }, kinds := [], alts := [], laidByText := true, laidKinds := [.data, .data, .data, .data, .sentinel, .sentinel, .pinned, .pinned], laidTests := true, laidLooks := .later }
def ResolveWholeCardSaid : Prop := Claim7.holds Tryz.pinned (.plain (OpenSpec.ofChange resolveWholeSpec)) resolveWholeCard

/-- THE TIED CARD OF 'inlaylaw10.ResolveKnown'. -/
def resolveKnownCard : Claim7 := { stood := { row := resolveKnownRow, standIns := [], harness := (true, "b52197cd4667fede5c9a22a6d68879dc5b6db014ee27795e2d3d40bca9750cc5"), looks := true }, kinds := [], alts := [], laidByText := true, laidKinds := [.data, .data, .data, .data, .sentinel, .sentinel, .pinned, .pinned], laidTests := true, laidLooks := .later }
def ResolveKnownCardSaid : Prop := Claim7.holds Tryz.pinned (.plain (OpenSpec.ofChange resolveKnownSpec)) resolveKnownCard

/-- THE SECOND FORM's CARD OF 'inlaylaw10.ResolveRefs'. -/
def resolveRefsUptoCard : Claim7 := { stood := { row := resolveRefsUptoRow, standIns := [], harness := (true, "b52197cd4667fede5c9a22a6d68879dc5b6db014ee27795e2d3d40bca9750cc5"), looks := true }, kinds := [], alts := [], laidByText := true, laidKinds := [.data, .data, .data, .data, .sentinel, .sentinel, .pinned, .pinned], laidTests := true, laidLooks := .later }
def ResolveRefsUptoCardSaid : Prop := Claim7.holds Tryz.pinned (.plain (OpenSpec.upto resolveRefsSpec)) resolveRefsUptoCard

/-- THE SECOND FORM's CARD OF 'inlaylaw10.ResolveWhole'. -/
def resolveWholeUptoCard : Claim7 := { stood := { row := resolveWholeUptoRow, standIns := [], harness := (true, "b52197cd4667fede5c9a22a6d68879dc5b6db014ee27795e2d3d40bca9750cc5"), looks := true }, kinds := [], alts := [], laidByText := true, laidKinds := [.data, .data, .data, .data, .sentinel, .sentinel, .pinned, .pinned], laidTests := true, laidLooks := .later }
def ResolveWholeUptoCardSaid : Prop := Claim7.holds Tryz.pinned (.plain (OpenSpec.upto resolveWholeSpec)) resolveWholeUptoCard

/-- THE SECOND FORM's CARD OF 'inlaylaw10.ResolveKnown'. -/
def resolveKnownUptoCard : Claim7 := { stood := { row := resolveKnownUptoRow, standIns := [], harness := (true, "b52197cd4667fede5c9a22a6d68879dc5b6db014ee27795e2d3d40bca9750cc5"), looks := true }, kinds := [], alts := [], laidByText := true, laidKinds := [.data, .data, .data, .data, .sentinel, .sentinel, .pinned, .pinned], laidTests := true, laidLooks := .later }
def ResolveKnownUptoCardSaid : Prop := Claim7.holds Tryz.pinned (.plain (OpenSpec.upto resolveKnownSpec)) resolveKnownUptoCard
end Rows
end Go.Proofs.YtekaiafhnnpkgaaGreatDoor
