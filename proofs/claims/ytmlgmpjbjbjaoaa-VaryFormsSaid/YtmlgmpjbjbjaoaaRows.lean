/-
  No cell of these rows narrows 'for every input' (looked for: loops, veiled, ifaces, maps, wideKeys, modest, calm, conditions, laid).
  DERIVED. THE GIVEN ROWS OF THIS SEAT. 5 by the template 'for every input the law returns true; each argument reads behind the call as it read before'; 0 by the template 'total and deterministic' (their statements: YtmlgmpjbjbjaoaaTotals.lean).
  GIVEN WITH THE SEED: the statements are not yours to turn. If you find one false, say at which input.
  Laid BY PROGRAM, IN A SANDBOX (cutbox-rows.mjs): the forced cells as the released guide's own fill.sh prints them over the translation c6ce5ce7746fb5e8… (all of the seat's roots in one cut). By AI agents, Wed Nov 11 2026. No macro, syntax, notation, axiom, sorry.
-/
import Derived.Test.YtmlgmpjbjbjaoaaChecked
import GoSem.Claim
import GoSem.ClaimJoined
import GoSem.ClaimMapViews
import Derived.JoinedTies
import Derived.KernelRfl
namespace Go.Proofs.Ytmlgmpjbjbjaoaa
/- THE CELL 'sum', in the pinned program and in every row, IS THE sha256 OF THE DUMP (.gsa) THAT YtmlgmpjbjbjaoaaProg.lean LOADS. Nothing in Lean hashes anything: it is a label: what it is worth is what the hold of that sum in a sandbox is worth. -/
noncomputable def Try.pinned : Pinned := { name := "ytmlgmpjbjbjaoaa", sum := "c6ce5ce7746fb5e840dc2dd752a5a7cb7ea5a2d62bfb78a9b1a03e86c373344f", checked := Try.checked }
namespace Rows
def none {H : Type} : Left H := { results := [], args := [] }

/-- 'inlaylaw15.VaryNames': WHATEVER THE INPUT: true; the input reads as it did. -/
def varyNamesSpec : ChangeSpec := { name := "varyNames", fn := fun _ => fun
  | [d] => { results := [.lit (.bool true)], args := [d] }
  | _ => none }
def varyNamesRow : OpenClaim := { program := "ytmlgmpjbjbjaoaa", sum := "c6ce5ce7746fb5e840dc2dd752a5a7cb7ea5a2d62bfb78a9b1a03e86c373344f", func := "inlay/inlaylaw15.VaryNames", spec := "varyNames", inPlace := ["internal/abi.NoEscape", "internal/bytealg.MakeNoZero"], unfollowed := true, recurses := true, apart := false }
def VaryNamesSaid : Prop := varyNamesRow.holds Try.pinned (OpenSpec.ofChange varyNamesSpec)

/-- ITS FALSE NEIGHBOUR: 'it returns false'. Refute it at one input. -/
def varyNamesWrong : ChangeSpec := { name := "varyNames", fn := fun _ => fun
  | [d] => { results := [.lit (.bool false)], args := [d] }
  | _ => none }
def VaryNamesWrongFalsely : Prop := varyNamesRow.holds Try.pinned (OpenSpec.ofChange varyNamesWrong)

/-- 'inlaylaw15.VarySelects': WHATEVER THE INPUT: true; the input reads as it did. -/
def varySelectsSpec : ChangeSpec := { name := "varySelects", fn := fun _ => fun
  | [d1, d2, d3] => { results := [.lit (.bool true)], args := [d1, d2, d3] }
  | _ => none }
def varySelectsRow : OpenClaim := { program := "ytmlgmpjbjbjaoaa", sum := "c6ce5ce7746fb5e840dc2dd752a5a7cb7ea5a2d62bfb78a9b1a03e86c373344f", func := "inlay/inlaylaw15.VarySelects", spec := "varySelects", inPlace := ["internal/abi.NoEscape", "internal/bytealg.MakeNoZero"], unfollowed := true, recurses := true, apart := false }
def VarySelectsSaid : Prop := varySelectsRow.holds Try.pinned (OpenSpec.ofChange varySelectsSpec)

/-- ITS FALSE NEIGHBOUR: 'it returns false'. Refute it at one input. -/
def varySelectsWrong : ChangeSpec := { name := "varySelects", fn := fun _ => fun
  | [d1, d2, d3] => { results := [.lit (.bool false)], args := [d1, d2, d3] }
  | _ => none }
def VarySelectsWrongFalsely : Prop := varySelectsRow.holds Try.pinned (OpenSpec.ofChange varySelectsWrong)

/-- 'inlaylaw15.VaryKnown': WHATEVER THE INPUT: true; the input reads as it did. -/
def varyKnownSpec : ChangeSpec := { name := "varyKnown", fn := fun _ => fun
  | [] => { results := [.lit (.bool true)], args := [] }
  | _ => none }
def varyKnownRow : OpenClaim := { program := "ytmlgmpjbjbjaoaa", sum := "c6ce5ce7746fb5e840dc2dd752a5a7cb7ea5a2d62bfb78a9b1a03e86c373344f", func := "inlay/inlaylaw15.VaryKnown", spec := "varyKnown", inPlace := ["internal/abi.NoEscape", "internal/bytealg.MakeNoZero"], unfollowed := true, recurses := true, apart := false }
def VaryKnownSaid : Prop := varyKnownRow.holds Try.pinned (OpenSpec.ofChange varyKnownSpec)

/-- ITS FALSE NEIGHBOUR: 'it returns false'. Refute it at one input. -/
def varyKnownWrong : ChangeSpec := { name := "varyKnown", fn := fun _ => fun
  | [] => { results := [.lit (.bool false)], args := [] }
  | _ => none }
def VaryKnownWrongFalsely : Prop := varyKnownRow.holds Try.pinned (OpenSpec.ofChange varyKnownWrong)

/-- 'inlaylaw15.VaryChooses': WHATEVER THE INPUT: true; the input reads as it did. -/
def varyChoosesSpec : ChangeSpec := { name := "varyChooses", fn := fun _ => fun
  | [d1, d2, d3] => { results := [.lit (.bool true)], args := [d1, d2, d3] }
  | _ => none }
def varyChoosesRow : OpenClaim := { program := "ytmlgmpjbjbjaoaa", sum := "c6ce5ce7746fb5e840dc2dd752a5a7cb7ea5a2d62bfb78a9b1a03e86c373344f", func := "inlay/inlaylaw15.VaryChooses", spec := "varyChooses", inPlace := ["internal/abi.NoEscape", "internal/bytealg.MakeNoZero"], unfollowed := true, recurses := true, apart := false }
def VaryChoosesSaid : Prop := varyChoosesRow.holds Try.pinned (OpenSpec.ofChange varyChoosesSpec)

/-- ITS FALSE NEIGHBOUR: 'it returns false'. Refute it at one input. -/
def varyChoosesWrong : ChangeSpec := { name := "varyChooses", fn := fun _ => fun
  | [d1, d2, d3] => { results := [.lit (.bool false)], args := [d1, d2, d3] }
  | _ => none }
def VaryChoosesWrongFalsely : Prop := varyChoosesRow.holds Try.pinned (OpenSpec.ofChange varyChoosesWrong)

/-- 'inlaylaw15.VaryForms': WHATEVER THE INPUT: true; the input reads as it did. -/
def varyFormsSpec : ChangeSpec := { name := "varyForms", fn := fun _ => fun
  | [d1, d2] => { results := [.lit (.bool true)], args := [d1, d2] }
  | _ => none }
def varyFormsRow : OpenClaim := { program := "ytmlgmpjbjbjaoaa", sum := "c6ce5ce7746fb5e840dc2dd752a5a7cb7ea5a2d62bfb78a9b1a03e86c373344f", func := "inlay/inlaylaw15.VaryForms", spec := "varyForms", inPlace := ["internal/abi.NoEscape", "internal/bytealg.MakeNoZero"], unfollowed := true, recurses := true, apart := false }
def VaryFormsSaid : Prop := varyFormsRow.holds Try.pinned (OpenSpec.ofChange varyFormsSpec)

/-- ITS FALSE NEIGHBOUR: 'it returns false'. Refute it at one input. -/
def varyFormsWrong : ChangeSpec := { name := "varyForms", fn := fun _ => fun
  | [d1, d2] => { results := [.lit (.bool false)], args := [d1, d2] }
  | _ => none }
def VaryFormsWrongFalsely : Prop := varyFormsRow.holds Try.pinned (OpenSpec.ofChange varyFormsWrong)

/- THE SECOND FORM. 'bulk': how many values and letters a reading holds, each counted each time it is reached (what is shared counts as often as it is met; a slice's spare places count too). A statement '..UptoSaid' is the law's where the arguments, and the package variables that the reading takes, are together of bulk at most 1048576: NARROWER than '..Said'. Prove '..Said' where nothing that the law and all that it calls make is longer than what came in: it says more and counts as full. Else prove '..UptoSaid'. A law counts once. -/
mutual
def uptoBulk {H : Type} : DataW H → Nat
  | .lit (.string bytes) => bytes.length + 1
  | .lit _ => 1
  | .nil => 1
  | .ptr d => uptoBulk d + 1
  | .slice elems spare => uptoBulkAll elems + uptoBulkAll spare + 1
  | .agg parts => uptoBulkAll parts + 1
  | .iface _ d => uptoBulk d + 1
  | .map entries => uptoBulkEntries entries + 1
  | .held _ => 1
def uptoBulkAll {H : Type} : List (DataW H) → Nat
  | [] => 0
  | d :: r => uptoBulk d + uptoBulkAll r
def uptoBulkEntries {H : Type} : List (Lit × DataW H) → Nat
  | [] => 0
  | x :: r => uptoBulkEntry x + uptoBulkEntries r
def uptoBulkEntry {H : Type} : Lit × DataW H → Nat
  | (.string bytes, d) => bytes.length + uptoBulk d + 1
  | (_, d) => uptoBulk d + 1
 end
def uptoSmall : (H : Type) → List (DataW H) → Bool := fun _ ds => decide (uptoBulkAll ds ≤ 1048576)
def OpenSpec.upto (s : _root_.Go.ChangeSpec) : _root_.Go.OpenSpec := { _root_.Go.OpenSpec.ofChange s with cond := some uptoSmall }

/-- 'inlaylaw15.VaryNames', WHERE WHAT IT READS IS OF BULK AT MOST 1048576: true; the input reads as it did. -/
def varyNamesUptoRow : OpenClaim := { program := "ytmlgmpjbjbjaoaa", sum := "c6ce5ce7746fb5e840dc2dd752a5a7cb7ea5a2d62bfb78a9b1a03e86c373344f", func := "inlay/inlaylaw15.VaryNames", spec := "varyNames", inPlace := ["internal/abi.NoEscape", "internal/bytealg.MakeNoZero"], unfollowed := true, recurses := true, apart := false, narrowed := true }
def VaryNamesUptoSaid : Prop := varyNamesUptoRow.holds Try.pinned (OpenSpec.upto varyNamesSpec)

/-- 'inlaylaw15.VarySelects', WHERE WHAT IT READS IS OF BULK AT MOST 1048576: true; the input reads as it did. -/
def varySelectsUptoRow : OpenClaim := { program := "ytmlgmpjbjbjaoaa", sum := "c6ce5ce7746fb5e840dc2dd752a5a7cb7ea5a2d62bfb78a9b1a03e86c373344f", func := "inlay/inlaylaw15.VarySelects", spec := "varySelects", inPlace := ["internal/abi.NoEscape", "internal/bytealg.MakeNoZero"], unfollowed := true, recurses := true, apart := false, narrowed := true }
def VarySelectsUptoSaid : Prop := varySelectsUptoRow.holds Try.pinned (OpenSpec.upto varySelectsSpec)

/-- 'inlaylaw15.VaryKnown', WHERE WHAT IT READS IS OF BULK AT MOST 1048576: true; the input reads as it did. -/
def varyKnownUptoRow : OpenClaim := { program := "ytmlgmpjbjbjaoaa", sum := "c6ce5ce7746fb5e840dc2dd752a5a7cb7ea5a2d62bfb78a9b1a03e86c373344f", func := "inlay/inlaylaw15.VaryKnown", spec := "varyKnown", inPlace := ["internal/abi.NoEscape", "internal/bytealg.MakeNoZero"], unfollowed := true, recurses := true, apart := false, narrowed := true }
def VaryKnownUptoSaid : Prop := varyKnownUptoRow.holds Try.pinned (OpenSpec.upto varyKnownSpec)

/-- 'inlaylaw15.VaryChooses', WHERE WHAT IT READS IS OF BULK AT MOST 1048576: true; the input reads as it did. -/
def varyChoosesUptoRow : OpenClaim := { program := "ytmlgmpjbjbjaoaa", sum := "c6ce5ce7746fb5e840dc2dd752a5a7cb7ea5a2d62bfb78a9b1a03e86c373344f", func := "inlay/inlaylaw15.VaryChooses", spec := "varyChooses", inPlace := ["internal/abi.NoEscape", "internal/bytealg.MakeNoZero"], unfollowed := true, recurses := true, apart := false, narrowed := true }
def VaryChoosesUptoSaid : Prop := varyChoosesUptoRow.holds Try.pinned (OpenSpec.upto varyChoosesSpec)

/-- 'inlaylaw15.VaryForms', WHERE WHAT IT READS IS OF BULK AT MOST 1048576: true; the input reads as it did. -/
def varyFormsUptoRow : OpenClaim := { program := "ytmlgmpjbjbjaoaa", sum := "c6ce5ce7746fb5e840dc2dd752a5a7cb7ea5a2d62bfb78a9b1a03e86c373344f", func := "inlay/inlaylaw15.VaryForms", spec := "varyForms", inPlace := ["internal/abi.NoEscape", "internal/bytealg.MakeNoZero"], unfollowed := true, recurses := true, apart := false, narrowed := true }
def VaryFormsUptoSaid : Prop := varyFormsUptoRow.holds Try.pinned (OpenSpec.upto varyFormsSpec)

end Rows
end Go.Proofs.Ytmlgmpjbjbjaoaa
