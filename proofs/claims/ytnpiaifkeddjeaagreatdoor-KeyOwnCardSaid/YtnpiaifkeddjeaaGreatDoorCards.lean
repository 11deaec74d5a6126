/-
  DERIVED. GIVEN WITH THE SEED: THE CARDS: each row of YtnpiaifkeddjeaaGreatDoorRows.lean that lists a variable, with what it lists TIED to the program's text (the seventh form; the later family's looks); each row that meets fmt, with fmt's text TOLD by the authors' own Lean function (tested against real Go, not proved from fmt's source: count such statements apart). THE CARD IS WHAT COUNTS. Prove the row's statement (the work); the ties are given (YtnpiaifkeddjeaaGreatDoorTie.lean); close each card by the builder's one call (the guide's Derived/Test/ToyasCard.lean, 'card_holds'). Laid BY PROGRAM, IN A SANDBOX (cutbox-door.mjs). By AI agents, Wed Nov 11 2026. No macro, syntax, notation, axiom, sorry.
-/
import Derived.Test.YtnpiaifkeddjeaaGreatDoorRows
import GoSem.ClaimSeven
namespace Go.Proofs.YtnpiaifkeddjeaaGreatDoor
namespace Rows

/-- THE TIED CARD OF 'inlaylaw17.KeyOf'. -/
def keyOfCard : Claim7 := { stood := { row := keyOfRow, standIns := [], harness := (true, "d15e8a34e62852b43d5d0e06b0963b81449bc539a05362f322d1e38f709de649"), looks := true }, kinds := [], alts := [], laidByText := true, laidKinds := [.data, .data, .data, .data, .sentinel, .sentinel, .pinned, .pinned], laidTests := true, laidLooks := .later }
def KeyOfCardSaid : Prop := Claim7.holds Tryz.pinned (.plain (OpenSpec.ofChange keyOfSpec)) keyOfCard

/-- THE TIED CARD OF 'inlaylaw17.KeyGone'. -/
def keyGoneCard : Claim7 := { stood := { row := keyGoneRow, standIns := [], harness := (true, "d15e8a34e62852b43d5d0e06b0963b81449bc539a05362f322d1e38f709de649"), looks := true }, kinds := [], alts := [], laidByText := true, laidKinds := [.data, .data, .data, .data, .sentinel, .sentinel, .pinned, .pinned], laidTests := true, laidLooks := .later }
def KeyGoneCardSaid : Prop := Claim7.holds Tryz.pinned (.plain (OpenSpec.ofChange keyGoneSpec)) keyGoneCard

/-- THE TIED CARD OF 'inlaylaw17.KeyKnown'. -/
def keyKnownCard : Claim7 := { stood := { row := keyKnownRow, standIns := [], harness := (true, "d15e8a34e62852b43d5d0e06b0963b81449bc539a05362f322d1e38f709de649"), looks := true }, kinds := [], alts := [], laidByText := true, laidKinds := [.data, .data, .data, .data, .sentinel, .sentinel, .pinned, .pinned], laidTests := true, laidLooks := .later }
def KeyKnownCardSaid : Prop := Claim7.holds Tryz.pinned (.plain (OpenSpec.ofChange keyKnownSpec)) keyKnownCard

/-- THE TIED CARD OF 'inlaylaw17.KeyNormal'. -/
def keyNormalCard : Claim7 := { stood := { row := keyNormalRow, standIns := [], harness := (true, "d15e8a34e62852b43d5d0e06b0963b81449bc539a05362f322d1e38f709de649"), looks := true }, kinds := [], alts := [], laidByText := true, laidKinds := [.data, .data, .data, .data, .sentinel, .sentinel, .pinned, .pinned], laidTests := true, laidLooks := .later }
def KeyNormalCardSaid : Prop := Claim7.holds Tryz.pinned (.plain (OpenSpec.ofChange keyNormalSpec)) keyNormalCard

/-- THE TIED CARD OF 'inlaylaw17.KeyOwn'. -/
def keyOwnCard : Claim7 := { stood := { row := keyOwnRow, standIns := [], harness := (true, "d15e8a34e62852b43d5d0e06b0963b81449bc539a05362f322d1e38f709de649"), looks := true }, kinds := [], alts := [], laidByText := true, laidKinds := [.data, .data, .data, .data, .sentinel, .sentinel, .pinned, .pinned], laidTests := true, laidLooks := .later }
def KeyOwnCardSaid : Prop := Claim7.holds Tryz.pinned (.plain (OpenSpec.ofChange keyOwnSpec)) keyOwnCard

/-- THE SECOND FORM's CARD OF 'inlaylaw17.KeyOf'. -/
def keyOfUptoCard : Claim7 := { stood := { row := keyOfUptoRow, standIns := [], harness := (true, "d15e8a34e62852b43d5d0e06b0963b81449bc539a05362f322d1e38f709de649"), looks := true }, kinds := [], alts := [], laidByText := true, laidKinds := [.data, .data, .data, .data, .sentinel, .sentinel, .pinned, .pinned], laidTests := true, laidLooks := .later }
def KeyOfUptoCardSaid : Prop := Claim7.holds Tryz.pinned (.plain (OpenSpec.upto keyOfSpec)) keyOfUptoCard

/-- THE SECOND FORM's CARD OF 'inlaylaw17.KeyGone'. -/
def keyGoneUptoCard : Claim7 := { stood := { row := keyGoneUptoRow, standIns := [], harness := (true, "d15e8a34e62852b43d5d0e06b0963b81449bc539a05362f322d1e38f709de649"), looks := true }, kinds := [], alts := [], laidByText := true, laidKinds := [.data, .data, .data, .data, .sentinel, .sentinel, .pinned, .pinned], laidTests := true, laidLooks := .later }
def KeyGoneUptoCardSaid : Prop := Claim7.holds Tryz.pinned (.plain (OpenSpec.upto keyGoneSpec)) keyGoneUptoCard

/-- THE SECOND FORM's CARD OF 'inlaylaw17.KeyKnown'. -/
def keyKnownUptoCard : Claim7 := { stood := { row := keyKnownUptoRow, standIns := [], harness := (true, "d15e8a34e62852b43d5d0e06b0963b81449bc539a05362f322d1e38f709de649"), looks := true }, kinds := [], alts := [], laidByText := true, laidKinds := [.data, .data, .data, .data, .sentinel, .sentinel, .pinned, .pinned], laidTests := true, laidLooks := .later }
def KeyKnownUptoCardSaid : Prop := Claim7.holds Tryz.pinned (.plain (OpenSpec.upto keyKnownSpec)) keyKnownUptoCard

/-- THE SECOND FORM's CARD OF 'inlaylaw17.KeyNormal'. -/
def keyNormalUptoCard : Claim7 := { stood := { row := keyNormalUptoRow, standIns := [], harness := (true, "d15e8a34e62852b43d5d0e06b0963b81449bc539a05362f322d1e38f709de649"), looks := true }, kinds := [], alts := [], laidByText := true, laidKinds := [.data, .data, .data, .data, .sentinel, .sentinel, .pinned, .pinned], laidTests := true, laidLooks := .later }
def KeyNormalUptoCardSaid : Prop := Claim7.holds Tryz.pinned (.plain (OpenSpec.upto keyNormalSpec)) keyNormalUptoCard

/-- THE SECOND FORM's CARD OF 'inlaylaw17.KeyOwn'. -/
def keyOwnUptoCard : Claim7 := { stood := { row := keyOwnUptoRow, standIns := [], harness := (true, "d15e8a34e62852b43d5d0e06b0963b81449bc539a05362f322d1e38f709de649"), looks := true }, kinds := [], alts := [], laidByText := true, laidKinds := [.data, .data, .data, .data, .sentinel, .sentinel, .pinned, .pinned], laidTests := true, laidLooks := .later }
def KeyOwnUptoCardSaid : Prop := Claim7.holds Tryz.pinned (.plain (OpenSpec.upto keyOwnSpec)) keyOwnUptoCard
end Rows
end Go.Proofs.YtnpiaifkeddjeaaGreatDoor
