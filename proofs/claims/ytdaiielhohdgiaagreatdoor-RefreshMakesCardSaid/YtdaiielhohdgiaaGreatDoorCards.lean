/-
  DERIVED. GIVEN WITH THE SEED: THE CARDS: each row of YtdaiielhohdgiaaGreatDoorRows.lean that lists a variable, with what it lists TIED to the program's text (the seventh form; the later family's looks); each row that meets fmt, with fmt's text TOLD by the authors' own Lean function (tested against real Go, not proved from fmt's source: count such statements apart). THE CARD IS WHAT COUNTS. Prove the row's statement (the work); the ties are given (YtdaiielhohdgiaaGreatDoorTie.lean); close each card by the builder's one call (the guide's Derived/Test/ToyasCard.lean, 'card_holds'). Laid BY PROGRAM, IN A SANDBOX (cutbox-door.mjs). By AI agents, Wed Nov 11 2026. No macro, syntax, notation, axiom, sorry.
-/
import Derived.Test.YtdaiielhohdgiaaGreatDoorRows
import GoSem.ClaimSeven
namespace Go.Proofs.YtdaiielhohdgiaaGreatDoor
namespace Rows

/-- THE TIED CARD OF 'inlaylaw20.RefreshAsks'. -/
def refreshAsksCard : Claim7 := { stood := { row := refreshAsksRow, standIns := [], harness := (true, "5de1f9384ff53dfecae80d25d962547eaa122740d0151a0a9825d23b0bbce535"), looks := false }, kinds := [], alts := [], laidByText := true, laidKinds := [.data, .data, .data, .listed, .data], laidTests := true, laidLooks := .later }
def RefreshAsksCardSaid : Prop := Claim7.holds Tryz.pinned (.plain (OpenSpec.ofChange refreshAsksSpec)) refreshAsksCard

/-- THE TIED CARD OF 'inlaylaw20.RefreshMakes'. -/
def refreshMakesCard : Claim7 := { stood := { row := refreshMakesRow, standIns := [], harness := (true, "5de1f9384ff53dfecae80d25d962547eaa122740d0151a0a9825d23b0bbce535"), looks := false }, kinds := [], alts := [], laidByText := true, laidKinds := [.data, .data, .data, .listed, .data], laidTests := true, laidLooks := .later }
def RefreshMakesCardSaid : Prop := Claim7.holds Tryz.pinned (.plain (OpenSpec.ofChange refreshMakesSpec)) refreshMakesCard

/-- THE SECOND FORM's CARD OF 'inlaylaw20.RefreshAsks'. -/
def refreshAsksUptoCard : Claim7 := { stood := { row := refreshAsksUptoRow, standIns := [], harness := (true, "5de1f9384ff53dfecae80d25d962547eaa122740d0151a0a9825d23b0bbce535"), looks := false }, kinds := [], alts := [], laidByText := true, laidKinds := [.data, .data, .data, .listed, .data], laidTests := true, laidLooks := .later }
def RefreshAsksUptoCardSaid : Prop := Claim7.holds Tryz.pinned (.plain (OpenSpec.upto refreshAsksSpec)) refreshAsksUptoCard

/-- THE SECOND FORM's CARD OF 'inlaylaw20.RefreshMakes'. -/
def refreshMakesUptoCard : Claim7 := { stood := { row := refreshMakesUptoRow, standIns := [], harness := (true, "5de1f9384ff53dfecae80d25d962547eaa122740d0151a0a9825d23b0bbce535"), looks := false }, kinds := [], alts := [], laidByText := true, laidKinds := [.data, .data, .data, .listed, .data], laidTests := true, laidLooks := .later }
def RefreshMakesUptoCardSaid : Prop := Claim7.holds Tryz.pinned (.plain (OpenSpec.upto refreshMakesSpec)) refreshMakesUptoCard
end Rows
end Go.Proofs.YtdaiielhohdgiaaGreatDoor
