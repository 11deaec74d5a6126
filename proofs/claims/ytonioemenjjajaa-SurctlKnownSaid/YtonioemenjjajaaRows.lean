/-
  No cell of these rows narrows 'for every input' (looked for: loops, veiled, ifaces, maps, wideKeys, modest, calm, conditions, laid).
  DERIVED. THE GIVEN ROWS OF THIS SEAT. 5 by the template 'for every input the law returns true; each argument reads behind the call as it read before'; 0 by the template 'total and deterministic' (their statements: YtonioemenjjajaaTotals.lean).
  GIVEN WITH THE SEED: the statements are not yours to turn. If you find one false, say at which input.
  Laid BY PROGRAM, IN A SANDBOX (cutbox-rows.mjs): the forced cells as the released guide's own fill.sh prints them over the translation 5e1aed281a295a3f… (all of the seat's roots in one cut). By AI agents, Wed Nov 11 2026. No macro, syntax, notation, axiom, sorry.
-/
import Derived.Test.YtonioemenjjajaaChecked
import GoSem.Claim
import GoSem.ClaimJoined
import GoSem.ClaimMapViews
import Derived.JoinedTies
import Derived.KernelRfl
namespace Go.Proofs.Ytonioemenjjajaa
/- THE CELL 'sum', in the pinned program and in every row, IS THE sha256 OF THE DUMP (.gsa) THAT YtonioemenjjajaaProg.lean LOADS. Nothing in Lean hashes anything: it is a label: what it is worth is what the hold of that sum in a sandbox is worth. -/
noncomputable def Try.pinned : Pinned := { name := "ytonioemenjjajaa", sum := "5e1aed281a295a3f84fba131f459ed020f2be9d8a14a62d22f2991d85a8c503f", checked := Try.checked }
namespace Rows
def none {H : Type} : Left H := { results := [], args := [] }

/-- 'inlaylaw12.SurctlLists': WHATEVER THE INPUT: true; the input reads as it did. -/
def surctlListsSpec : ChangeSpec := { name := "surctlLists", fn := fun _ => fun
  | [d] => { results := [.lit (.bool true)], args := [d] }
  | _ => none }
def surctlListsRow : OpenClaim := { program := "ytonioemenjjajaa", sum := "5e1aed281a295a3f84fba131f459ed020f2be9d8a14a62d22f2991d85a8c503f", func := "inlay/inlaylaw12.SurctlLists", spec := "surctlLists", inPlace := ["internal/bytealg.IndexByteString", "internal/bytealg.IndexString"], unfollowed := true, recurses := true, named := ["internal/bytealg.MaxLen"], apart := false }
def SurctlListsSaid : Prop := surctlListsRow.holds Try.pinned (OpenSpec.ofChange surctlListsSpec)

/-- ITS FALSE NEIGHBOUR: 'it returns false'. Refute it at one input. -/
def surctlListsWrong : ChangeSpec := { name := "surctlLists", fn := fun _ => fun
  | [d] => { results := [.lit (.bool false)], args := [d] }
  | _ => none }
def SurctlListsWrongFalsely : Prop := surctlListsRow.holds Try.pinned (OpenSpec.ofChange surctlListsWrong)

/-- 'inlaylaw12.SurctlMine': WHATEVER THE INPUT: true; the input reads as it did. -/
def surctlMineSpec : ChangeSpec := { name := "surctlMine", fn := fun _ => fun
  | [d1, d2] => { results := [.lit (.bool true)], args := [d1, d2] }
  | _ => none }
def surctlMineRow : OpenClaim := { program := "ytonioemenjjajaa", sum := "5e1aed281a295a3f84fba131f459ed020f2be9d8a14a62d22f2991d85a8c503f", func := "inlay/inlaylaw12.SurctlMine", spec := "surctlMine", inPlace := ["internal/bytealg.IndexByteString", "internal/bytealg.IndexString"], unfollowed := true, recurses := true, named := ["internal/bytealg.MaxLen"], apart := false }
def SurctlMineSaid : Prop := surctlMineRow.holds Try.pinned (OpenSpec.ofChange surctlMineSpec)

/-- ITS FALSE NEIGHBOUR: 'it returns false'. Refute it at one input. -/
def surctlMineWrong : ChangeSpec := { name := "surctlMine", fn := fun _ => fun
  | [d1, d2] => { results := [.lit (.bool false)], args := [d1, d2] }
  | _ => none }
def SurctlMineWrongFalsely : Prop := surctlMineRow.holds Try.pinned (OpenSpec.ofChange surctlMineWrong)

/-- 'inlaylaw12.SurctlTells': WHATEVER THE INPUT: true; the input reads as it did. -/
def surctlTellsSpec : ChangeSpec := { name := "surctlTells", fn := fun _ => fun
  | [d1, d2] => { results := [.lit (.bool true)], args := [d1, d2] }
  | _ => none }
def surctlTellsRow : OpenClaim := { program := "ytonioemenjjajaa", sum := "5e1aed281a295a3f84fba131f459ed020f2be9d8a14a62d22f2991d85a8c503f", func := "inlay/inlaylaw12.SurctlTells", spec := "surctlTells", inPlace := ["internal/bytealg.IndexByteString", "internal/bytealg.IndexString"], unfollowed := true, recurses := true, named := ["internal/bytealg.MaxLen"], apart := false }
def SurctlTellsSaid : Prop := surctlTellsRow.holds Try.pinned (OpenSpec.ofChange surctlTellsSpec)

/-- ITS FALSE NEIGHBOUR: 'it returns false'. Refute it at one input. -/
def surctlTellsWrong : ChangeSpec := { name := "surctlTells", fn := fun _ => fun
  | [d1, d2] => { results := [.lit (.bool false)], args := [d1, d2] }
  | _ => none }
def SurctlTellsWrongFalsely : Prop := surctlTellsRow.holds Try.pinned (OpenSpec.ofChange surctlTellsWrong)

/-- 'inlaylaw12.SurctlOthers': WHATEVER THE INPUT: true; the input reads as it did. -/
def surctlOthersSpec : ChangeSpec := { name := "surctlOthers", fn := fun _ => fun
  | [d1, d2, d3] => { results := [.lit (.bool true)], args := [d1, d2, d3] }
  | _ => none }
def surctlOthersRow : OpenClaim := { program := "ytonioemenjjajaa", sum := "5e1aed281a295a3f84fba131f459ed020f2be9d8a14a62d22f2991d85a8c503f", func := "inlay/inlaylaw12.SurctlOthers", spec := "surctlOthers", inPlace := ["internal/bytealg.IndexByteString", "internal/bytealg.IndexString"], unfollowed := true, recurses := true, named := ["internal/bytealg.MaxLen"], apart := false }
def SurctlOthersSaid : Prop := surctlOthersRow.holds Try.pinned (OpenSpec.ofChange surctlOthersSpec)

/-- ITS FALSE NEIGHBOUR: 'it returns false'. Refute it at one input. -/
def surctlOthersWrong : ChangeSpec := { name := "surctlOthers", fn := fun _ => fun
  | [d1, d2, d3] => { results := [.lit (.bool false)], args := [d1, d2, d3] }
  | _ => none }
def SurctlOthersWrongFalsely : Prop := surctlOthersRow.holds Try.pinned (OpenSpec.ofChange surctlOthersWrong)

/-- 'inlaylaw12.SurctlKnown': WHATEVER THE INPUT: true; the input reads as it did. -/
def surctlKnownSpec : ChangeSpec := { name := "surctlKnown", fn := fun _ => fun
  | [] => { results := [.lit (.bool true)], args := [] }
  | _ => none }
def surctlKnownRow : OpenClaim := { program := "ytonioemenjjajaa", sum := "5e1aed281a295a3f84fba131f459ed020f2be9d8a14a62d22f2991d85a8c503f", func := "inlay/inlaylaw12.SurctlKnown", spec := "surctlKnown", inPlace := ["internal/bytealg.IndexByteString", "internal/bytealg.IndexString"], unfollowed := true, recurses := true, named := ["internal/bytealg.MaxLen"], apart := false }
def SurctlKnownSaid : Prop := surctlKnownRow.holds Try.pinned (OpenSpec.ofChange surctlKnownSpec)

/-- ITS FALSE NEIGHBOUR: 'it returns false'. Refute it at one input. -/
def surctlKnownWrong : ChangeSpec := { name := "surctlKnown", fn := fun _ => fun
  | [] => { results := [.lit (.bool false)], args := [] }
  | _ => none }
def SurctlKnownWrongFalsely : Prop := surctlKnownRow.holds Try.pinned (OpenSpec.ofChange surctlKnownWrong)

/- THE SECOND FORM. 'bulk': how many values and letters a reading holds, each counted each time it is reached (what is shared counts as often as it is met; a slice's spare places count too). A statement '..UptoSaid' is the law's where the arguments, and the package variables that the reading takes, are together of bulk at most 1048576: NARROWER than '..Said'. Prove '..Said' where nothing that the law and all that it calls make is longer than what came in: it says more and counts as full. Else prove '..UptoSaid'. A law counts once. -/
mutual
def uptoBulk {H : Type} : DataW H → Nat
  | .lit (.string bytes) => bytes.length + 1
  | .lit _ => 1
  | .nil => 1
  | .ptr d => uptoBulk d + 1
  | .slice elems spare => uptoBulkAll elems + uptoBulkAll spare + 1
  | .agg parts => uptoBulkAll parts + 1
  | .iface _ d => uptoBulk d + 1
  | .map entries => uptoBulkEntries entries + 1
  | .held _ => 1
def uptoBulkAll {H : Type} : List (DataW H) → Nat
  | [] => 0
  | d :: r => uptoBulk d + uptoBulkAll r
def uptoBulkEntries {H : Type} : List (Lit × DataW H) → Nat
  | [] => 0
  | x :: r => uptoBulkEntry x + uptoBulkEntries r
def uptoBulkEntry {H : Type} : Lit × DataW H → Nat
  | (.string bytes, d) => bytes.length + uptoBulk d + 1
  | (_, d) => uptoBulk d + 1
 end
def uptoSmall : (H : Type) → List (DataW H) → Bool := fun _ ds => decide (uptoBulkAll ds ≤ 1048576)
def OpenSpec.upto (s : _root_.Go.ChangeSpec) : _root_.Go.OpenSpec := { _root_.Go.OpenSpec.ofChange s with cond := some uptoSmall }

/-- 'inlaylaw12.SurctlLists', WHERE WHAT IT READS IS OF BULK AT MOST 1048576: true; the input reads as it did. -/
def surctlListsUptoRow : OpenClaim := { program := "ytonioemenjjajaa", sum := "5e1aed281a295a3f84fba131f459ed020f2be9d8a14a62d22f2991d85a8c503f", func := "inlay/inlaylaw12.SurctlLists", spec := "surctlLists", inPlace := ["internal/bytealg.IndexByteString", "internal/bytealg.IndexString"], unfollowed := true, recurses := true, named := ["internal/bytealg.MaxLen"], apart := false, narrowed := true }
def SurctlListsUptoSaid : Prop := surctlListsUptoRow.holds Try.pinned (OpenSpec.upto surctlListsSpec)

/-- 'inlaylaw12.SurctlMine', WHERE WHAT IT READS IS OF BULK AT MOST 1048576: true; the input reads as it did. -/
def surctlMineUptoRow : OpenClaim := { program := "ytonioemenjjajaa", sum := "5e1aed281a295a3f84fba131f459ed020f2be9d8a14a62d22f2991d85a8c503f", func := "inlay/inlaylaw12.SurctlMine", spec := "surctlMine", inPlace := ["internal/bytealg.IndexByteString", "internal/bytealg.IndexString"], unfollowed := true, recurses := true, named := ["internal/bytealg.MaxLen"], apart := false, narrowed := true }
def SurctlMineUptoSaid : Prop := surctlMineUptoRow.holds Try.pinned (OpenSpec.upto surctlMineSpec)

/-- 'inlaylaw12.SurctlTells', WHERE WHAT IT READS IS OF BULK AT MOST 1048576: true; the input reads as it did. -/
def surctlTellsUptoRow : OpenClaim := { program := "ytonioemenjjajaa", sum := "5e1aed281a295a3f84fba131f459ed020f2be9d8a14a62d22f2991d85a8c503f", func := "inlay/inlaylaw12.SurctlTells", spec := "surctlTells", inPlace := ["internal/bytealg.IndexByteString", "internal/bytealg.IndexString"], unfollowed := true, recurses := true, named := ["internal/bytealg.MaxLen"], apart := false, narrowed := true }
def SurctlTellsUptoSaid : Prop := surctlTellsUptoRow.holds Try.pinned (OpenSpec.upto surctlTellsSpec)

/-- 'inlaylaw12.SurctlOthers', WHERE WHAT IT READS IS OF BULK AT MOST 1048576: true; the input reads as it did. -/
def surctlOthersUptoRow : OpenClaim := { program := "ytonioemenjjajaa", sum := "5e1aed281a295a3f84fba131f459ed020f2be9d8a14a62d22f2991d85a8c503f", func := "inlay/inlaylaw12.SurctlOthers", spec := "surctlOthers", inPlace := ["internal/bytealg.IndexByteString", "internal/bytealg.IndexString"], unfollowed := true, recurses := true, named := ["internal/bytealg.MaxLen"], apart := false, narrowed := true }
def SurctlOthersUptoSaid : Prop := surctlOthersUptoRow.holds Try.pinned (OpenSpec.upto surctlOthersSpec)

/-- 'inlaylaw12.SurctlKnown', WHERE WHAT IT READS IS OF BULK AT MOST 1048576: true; the input reads as it did. -/
def surctlKnownUptoRow : OpenClaim := { program := "ytonioemenjjajaa", sum := "5e1aed281a295a3f84fba131f459ed020f2be9d8a14a62d22f2991d85a8c503f", func := "inlay/inlaylaw12.SurctlKnown", spec := "surctlKnown", inPlace := ["internal/bytealg.IndexByteString", "internal/bytealg.IndexString"], unfollowed := true, recurses := true, named := ["internal/bytealg.MaxLen"], apart := false, narrowed := true }
def SurctlKnownUptoSaid : Prop := surctlKnownUptoRow.holds Try.pinned (OpenSpec.upto surctlKnownSpec)

end Rows
end Go.Proofs.Ytonioemenjjajaa
