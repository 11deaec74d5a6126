/-
  DERIVED. GIVEN WITH THE SEED: THE CARDS: each row of YtjcllpfncohncaaDoorRows.lean that lists a variable, with what it lists TIED to the program's text (the seventh form; the later family's looks); each row that meets fmt, with fmt's text TOLD by the authors' own Lean function (tested against real Go, not proved from fmt's source: count such statements apart). THE CARD IS WHAT COUNTS. Prove the row's statement (the work); the ties are given (YtjcllpfncohncaaDoorTie.lean); close each card by the builder's one call (the guide's Derived/Test/ToyasCard.lean, 'card_holds'). Laid BY PROGRAM, IN A SANDBOX (cutbox-door.mjs). By AI agents, Wed Nov 11 2026. No macro, syntax, notation, axiom, sorry.
-/
import Derived.Test.YtjcllpfncohncaaDoorRows
import GoSem.ClaimSeven
namespace Go.Proofs.YtjcllpfncohncaaDoor
namespace Rows

/-- THE TIED CARD OF 'inlaylaw03.DateReads'. -/
def dateReadsCard : Claim7 := { stood := { row := dateReadsRow, standIns := [], harness := (true, "1d1ac993cb074f40e912ff480b53b39f79a0d44183a6aa2462d6db53af256984"), looks := false }, kinds := [], alts := [], laidByText := true, laidKinds := [.data, .data, .data, .listed, .data], laidTests := true, laidLooks := .later }
def DateReadsCardSaid : Prop := Claim7.holds Tryd.pinned (.plain (OpenSpec.ofChange dateReadsSpec)) dateReadsCard

/-- THE TIED CARD OF 'inlaylaw03.DatePuts'. -/
def datePutsCard : Claim7 := { stood := { row := datePutsRow, standIns := [], harness := (true, "1d1ac993cb074f40e912ff480b53b39f79a0d44183a6aa2462d6db53af256984"), looks := false }, kinds := [], alts := [], laidByText := true, laidKinds := [.data, .data, .data, .listed, .data], laidTests := true, laidLooks := .later }
def DatePutsCardSaid : Prop := Claim7.holds Tryd.pinned (.plain (OpenSpec.ofChange datePutsSpec)) datePutsCard

/-- THE TIED CARD OF 'inlaylaw03.DateForms'. -/
def dateFormsCard : Claim7 := { stood := { row := dateFormsRow, standIns := [], harness := (true, "1d1ac993cb074f40e912ff480b53b39f79a0d44183a6aa2462d6db53af256984"), looks := false }, kinds := [], alts := [], laidByText := true, laidKinds := [.data, .data, .data, .listed, .data], laidTests := true, laidLooks := .later }
def DateFormsCardSaid : Prop := Claim7.holds Tryd.pinned (.plain (OpenSpec.ofChange dateFormsSpec)) dateFormsCard

/-- THE TIED CARD OF 'inlaylaw03.DateKnown'. -/
def dateKnownCard : Claim7 := { stood := { row := dateKnownRow, standIns := [], harness := (true, "1d1ac993cb074f40e912ff480b53b39f79a0d44183a6aa2462d6db53af256984"), looks := false }, kinds := [], alts := [], laidByText := true, laidKinds := [.data, .data, .data, .listed, .data], laidTests := true, laidLooks := .later }
def DateKnownCardSaid : Prop := Claim7.holds Tryd.pinned (.plain (OpenSpec.ofChange dateKnownSpec)) dateKnownCard

/-- THE TIED CARD OF 'inlaylaw03.DateBack'. -/
def dateBackCard : Claim7 := { stood := { row := dateBackRow, standIns := [], harness := (true, "1d1ac993cb074f40e912ff480b53b39f79a0d44183a6aa2462d6db53af256984"), looks := false }, kinds := [], alts := [], laidByText := true, laidKinds := [.data, .data, .data, .listed, .data], laidTests := true, laidLooks := .later }
def DateBackCardSaid : Prop := Claim7.holds Tryd.pinned (.plain (OpenSpec.ofChange dateBackSpec)) dateBackCard

/-- THE TIED CARD OF 'inlaylaw03.DateOne'. -/
def dateOneCard : Claim7 := { stood := { row := dateOneRow, standIns := [], harness := (true, "1d1ac993cb074f40e912ff480b53b39f79a0d44183a6aa2462d6db53af256984"), looks := false }, kinds := [], alts := [], laidByText := true, laidKinds := [.data, .data, .data, .listed, .data], laidTests := true, laidLooks := .later }
def DateOneCardSaid : Prop := Claim7.holds Tryd.pinned (.plain (OpenSpec.ofChange dateOneSpec)) dateOneCard

/-- THE TIED CARD OF 'inlaylaw03.DateStep'. -/
def dateStepCard : Claim7 := { stood := { row := dateStepRow, standIns := [], harness := (true, "1d1ac993cb074f40e912ff480b53b39f79a0d44183a6aa2462d6db53af256984"), looks := false }, kinds := [], alts := [], laidByText := true, laidKinds := [.data, .data, .data, .listed, .data], laidTests := true, laidLooks := .later }
def DateStepCardSaid : Prop := Claim7.holds Tryd.pinned (.plain (OpenSpec.ofChange dateStepSpec)) dateStepCard

/-- THE SECOND FORM's CARD OF 'inlaylaw03.DateReads'. -/
def dateReadsUptoCard : Claim7 := { stood := { row := dateReadsUptoRow, standIns := [], harness := (true, "1d1ac993cb074f40e912ff480b53b39f79a0d44183a6aa2462d6db53af256984"), looks := false }, kinds := [], alts := [], laidByText := true, laidKinds := [.data, .data, .data, .listed, .data], laidTests := true, laidLooks := .later }
def DateReadsUptoCardSaid : Prop := Claim7.holds Tryd.pinned (.plain (OpenSpec.upto dateReadsSpec)) dateReadsUptoCard

/-- THE SECOND FORM's CARD OF 'inlaylaw03.DatePuts'. -/
def datePutsUptoCard : Claim7 := { stood := { row := datePutsUptoRow, standIns := [], harness := (true, "1d1ac993cb074f40e912ff480b53b39f79a0d44183a6aa2462d6db53af256984"), looks := false }, kinds := [], alts := [], laidByText := true, laidKinds := [.data, .data, .data, .listed, .data], laidTests := true, laidLooks := .later }
def DatePutsUptoCardSaid : Prop := Claim7.holds Tryd.pinned (.plain (OpenSpec.upto datePutsSpec)) datePutsUptoCard

/-- THE SECOND FORM's CARD OF 'inlaylaw03.DateForms'. -/
def dateFormsUptoCard : Claim7 := { stood := { row := dateFormsUptoRow, standIns := [], harness := (true, "1d1ac993cb074f40e912ff480b53b39f79a0d44183a6aa2462d6db53af256984"), looks := false }, kinds := [], alts := [], laidByText := true, laidKinds := [.data, .data, .data, .listed, .data], laidTests := true, laidLooks := .later }
def DateFormsUptoCardSaid : Prop := Claim7.holds Tryd.pinned (.plain (OpenSpec.upto dateFormsSpec)) dateFormsUptoCard

/-- THE SECOND FORM's CARD OF 'inlaylaw03.DateKnown'. -/
def dateKnownUptoCard : Claim7 := { stood := { row := dateKnownUptoRow, standIns := [], harness := (true, "1d1ac993cb074f40e912ff480b53b39f79a0d44183a6aa2462d6db53af256984"), looks := false }, kinds := [], alts := [], laidByText := true, laidKinds := [.data, .data, .data, .listed, .data], laidTests := true, laidLooks := .later }
def DateKnownUptoCardSaid : Prop := Claim7.holds Tryd.pinned (.plain (OpenSpec.upto dateKnownSpec)) dateKnownUptoCard

/-- THE SECOND FORM's CARD OF 'inlaylaw03.DateBack'. -/
def dateBackUptoCard : Claim7 := { stood := { row := dateBackUptoRow, standIns := [], harness := (true, "1d1ac993cb074f40e912ff480b53b39f79a0d44183a6aa2462d6db53af256984"), looks := false }, kinds := [], alts := [], laidByText := true, laidKinds := [.data, .data, .data, .listed, .data], laidTests := true, laidLooks := .later }
def DateBackUptoCardSaid : Prop := Claim7.holds Tryd.pinned (.plain (OpenSpec.upto dateBackSpec)) dateBackUptoCard

/-- THE SECOND FORM's CARD OF 'inlaylaw03.DateOne'. -/
def dateOneUptoCard : Claim7 := { stood := { row := dateOneUptoRow, standIns := [], harness := (true, "1d1ac993cb074f40e912ff480b53b39f79a0d44183a6aa2462d6db53af256984"), looks := false }, kinds := [], alts := [], laidByText := true, laidKinds := [.data, .data, .data, .listed, .data], laidTests := true, laidLooks := .later }
def DateOneUptoCardSaid : Prop := Claim7.holds Tryd.pinned (.plain (OpenSpec.upto dateOneSpec)) dateOneUptoCard

/-- THE SECOND FORM's CARD OF 'inlaylaw03.DateStep'. -/
def dateStepUptoCard : Claim7 := { stood := { row := dateStepUptoRow, standIns := [], harness := (true, "1d1ac993cb074f40e912ff480b53b39f79a0d44183a6aa2462d6db53af256984"), looks := false }, kinds := [], alts := [], laidByText := true, laidKinds := [.data, .data, .data, .listed, .data], laidTests := true, laidLooks := .later }
def DateStepUptoCardSaid : Prop := Claim7.holds Tryd.pinned (.plain (OpenSpec.upto dateStepSpec)) dateStepUptoCard
end Rows
end Go.Proofs.YtjcllpfncohncaaDoor
