/-
  No cell of these rows narrows 'for every input' (looked for: loops, veiled, ifaces, maps, wideKeys, modest, calm, conditions, laid).
  DERIVED. THE GIVEN ROWS OF THIS SEAT. 5 by the template 'for every input the law returns true; each argument reads behind the call as it read before'; 0 by the template 'total and deterministic' (their statements: YtfjikkaejhihkaaTotals.lean).
  GIVEN WITH THE SEED: the statements are not yours to turn. If you find one false, say at which input.
  Laid BY PROGRAM, IN A SANDBOX (cutbox-rows.mjs): the forced cells as the released guide's own fill.sh prints them over the translation 9e43fa972441b806… (all of the seat's roots in one cut). By AI agents, Wed Nov 11 2026. No macro, syntax, notation, axiom, sorry.
-/
import Derived.Test.YtfjikkaejhihkaaChecked
import GoSem.Claim
import GoSem.ClaimJoined
import GoSem.ClaimMapViews
import Derived.JoinedTies
import Derived.KernelRfl
namespace Go.Proofs.Ytfjikkaejhihkaa
/- THE CELL 'sum', in the pinned program and in every row, IS THE sha256 OF THE DUMP (.gsa) THAT YtfjikkaejhihkaaProg.lean LOADS. Nothing in Lean hashes anything: it is a label: what it is worth is what the hold of that sum in a sandbox is worth. -/
noncomputable def Try.pinned : Pinned := { name := "ytfjikkaejhihkaa", sum := "9e43fa972441b806f7897019edd0fc990032e2966dd23efcd566197cdd39a904", checked := Try.checked }
namespace Rows
def none {H : Type} : Left H := { results := [], args := [] }

/-- 'inlaylaw11.DirectiveLists': WHATEVER THE INPUT: true; the input reads as it did. -/
def directiveListsSpec : ChangeSpec := { name := "directiveLists", fn := fun _ => fun
  | [d] => { results := [.lit (.bool true)], args := [d] }
  | _ => none }
def directiveListsRow : OpenClaim := { program := "ytfjikkaejhihkaa", sum := "9e43fa972441b806f7897019edd0fc990032e2966dd23efcd566197cdd39a904", func := "inlay/inlaylaw11.DirectiveLists", spec := "directiveLists", inPlace := ["internal/bytealg.IndexByteString", "internal/bytealg.IndexString"], unfollowed := true, recurses := true, named := ["internal/bytealg.MaxLen"], apart := false }
def DirectiveListsSaid : Prop := directiveListsRow.holds Try.pinned (OpenSpec.ofChange directiveListsSpec)

/-- ITS FALSE NEIGHBOUR: 'it returns false'. Refute it at one input. -/
def directiveListsWrong : ChangeSpec := { name := "directiveLists", fn := fun _ => fun
  | [d] => { results := [.lit (.bool false)], args := [d] }
  | _ => none }
def DirectiveListsWrongFalsely : Prop := directiveListsRow.holds Try.pinned (OpenSpec.ofChange directiveListsWrong)

/-- 'inlaylaw11.DirectiveFinds': WHATEVER THE INPUT: true; the input reads as it did. -/
def directiveFindsSpec : ChangeSpec := { name := "directiveFinds", fn := fun _ => fun
  | [d1, d2] => { results := [.lit (.bool true)], args := [d1, d2] }
  | _ => none }
def directiveFindsRow : OpenClaim := { program := "ytfjikkaejhihkaa", sum := "9e43fa972441b806f7897019edd0fc990032e2966dd23efcd566197cdd39a904", func := "inlay/inlaylaw11.DirectiveFinds", spec := "directiveFinds", inPlace := ["internal/bytealg.IndexByteString", "internal/bytealg.IndexString"], unfollowed := true, recurses := true, named := ["internal/bytealg.MaxLen"], apart := false }
def DirectiveFindsSaid : Prop := directiveFindsRow.holds Try.pinned (OpenSpec.ofChange directiveFindsSpec)

/-- ITS FALSE NEIGHBOUR: 'it returns false'. Refute it at one input. -/
def directiveFindsWrong : ChangeSpec := { name := "directiveFinds", fn := fun _ => fun
  | [d1, d2] => { results := [.lit (.bool false)], args := [d1, d2] }
  | _ => none }
def DirectiveFindsWrongFalsely : Prop := directiveFindsRow.holds Try.pinned (OpenSpec.ofChange directiveFindsWrong)

/-- 'inlaylaw11.DirectiveKnown': WHATEVER THE INPUT: true; the input reads as it did. -/
def directiveKnownSpec : ChangeSpec := { name := "directiveKnown", fn := fun _ => fun
  | [] => { results := [.lit (.bool true)], args := [] }
  | _ => none }
def directiveKnownRow : OpenClaim := { program := "ytfjikkaejhihkaa", sum := "9e43fa972441b806f7897019edd0fc990032e2966dd23efcd566197cdd39a904", func := "inlay/inlaylaw11.DirectiveKnown", spec := "directiveKnown", inPlace := ["internal/bytealg.IndexByteString", "internal/bytealg.IndexString", "internal/abi.NoEscape", "internal/bytealg.MakeNoZero"], unfollowed := true, recurses := true, named := ["internal/bytealg.MaxLen"], apart := false }
def DirectiveKnownSaid : Prop := directiveKnownRow.holds Try.pinned (OpenSpec.ofChange directiveKnownSpec)

/-- ITS FALSE NEIGHBOUR: 'it returns false'. Refute it at one input. -/
def directiveKnownWrong : ChangeSpec := { name := "directiveKnown", fn := fun _ => fun
  | [] => { results := [.lit (.bool false)], args := [] }
  | _ => none }
def DirectiveKnownWrongFalsely : Prop := directiveKnownRow.holds Try.pinned (OpenSpec.ofChange directiveKnownWrong)

/-- 'inlaylaw11.DirectiveJoins': WHATEVER THE INPUT: true; the input reads as it did. -/
def directiveJoinsSpec : ChangeSpec := { name := "directiveJoins", fn := fun _ => fun
  | [d1, d2] => { results := [.lit (.bool true)], args := [d1, d2] }
  | _ => none }
def directiveJoinsRow : OpenClaim := { program := "ytfjikkaejhihkaa", sum := "9e43fa972441b806f7897019edd0fc990032e2966dd23efcd566197cdd39a904", func := "inlay/inlaylaw11.DirectiveJoins", spec := "directiveJoins", inPlace := ["internal/bytealg.IndexByteString", "internal/bytealg.IndexString"], unfollowed := true, recurses := true, named := ["internal/bytealg.MaxLen"], apart := false }
def DirectiveJoinsSaid : Prop := directiveJoinsRow.holds Try.pinned (OpenSpec.ofChange directiveJoinsSpec)

/-- ITS FALSE NEIGHBOUR: 'it returns false'. Refute it at one input. -/
def directiveJoinsWrong : ChangeSpec := { name := "directiveJoins", fn := fun _ => fun
  | [d1, d2] => { results := [.lit (.bool false)], args := [d1, d2] }
  | _ => none }
def DirectiveJoinsWrongFalsely : Prop := directiveJoinsRow.holds Try.pinned (OpenSpec.ofChange directiveJoinsWrong)

/-- 'inlaylaw11.DirectiveBack': WHATEVER THE INPUT: true; the input reads as it did. -/
def directiveBackSpec : ChangeSpec := { name := "directiveBack", fn := fun _ => fun
  | [d1, d2, d3] => { results := [.lit (.bool true)], args := [d1, d2, d3] }
  | _ => none }
def directiveBackRow : OpenClaim := { program := "ytfjikkaejhihkaa", sum := "9e43fa972441b806f7897019edd0fc990032e2966dd23efcd566197cdd39a904", func := "inlay/inlaylaw11.DirectiveBack", spec := "directiveBack", inPlace := ["internal/bytealg.IndexByteString", "internal/bytealg.IndexString", "internal/abi.NoEscape", "internal/bytealg.MakeNoZero"], unfollowed := true, recurses := true, named := ["internal/bytealg.MaxLen"], apart := false }
def DirectiveBackSaid : Prop := directiveBackRow.holds Try.pinned (OpenSpec.ofChange directiveBackSpec)

/-- ITS FALSE NEIGHBOUR: 'it returns false'. Refute it at one input. -/
def directiveBackWrong : ChangeSpec := { name := "directiveBack", fn := fun _ => fun
  | [d1, d2, d3] => { results := [.lit (.bool false)], args := [d1, d2, d3] }
  | _ => none }
def DirectiveBackWrongFalsely : Prop := directiveBackRow.holds Try.pinned (OpenSpec.ofChange directiveBackWrong)

/- THE SECOND FORM. 'bulk': how many values and letters a reading holds, each counted each time it is reached (what is shared counts as often as it is met; a slice's spare places count too). A statement '..UptoSaid' is the law's where the arguments, and the package variables that the reading takes, are together of bulk at most 1048576: NARROWER than '..Said'. Prove '..Said' where nothing that the law and all that it calls make is longer than what came in: it says more and counts as full. Else prove '..UptoSaid'. A law counts once. -/
mutual
def uptoBulk {H : Type} : DataW H → Nat
  | .lit (.string bytes) => bytes.length + 1
  | .lit _ => 1
  | .nil => 1
  | .ptr d => uptoBulk d + 1
  | .slice elems spare => uptoBulkAll elems + uptoBulkAll spare + 1
  | .agg parts => uptoBulkAll parts + 1
  | .iface _ d => uptoBulk d + 1
  | .map entries => uptoBulkEntries entries + 1
  | .held _ => 1
def uptoBulkAll {H : Type} : List (DataW H) → Nat
  | [] => 0
  | d :: r => uptoBulk d + uptoBulkAll r
def uptoBulkEntries {H : Type} : List (Lit × DataW H) → Nat
  | [] => 0
  | x :: r => uptoBulkEntry x + uptoBulkEntries r
def uptoBulkEntry {H : Type} : Lit × DataW H → Nat
  | (.string bytes, d) => bytes.length + uptoBulk d + 1
  | (_, d) => uptoBulk d + 1
 end
def uptoSmall : (H : Type) → List (DataW H) → Bool := fun _ ds => decide (uptoBulkAll ds ≤ 1048576)
def OpenSpec.upto (s : _root_.Go.ChangeSpec) : _root_.Go.OpenSpec := { _root_.Go.OpenSpec.ofChange s with cond := some uptoSmall }

/-- 'inlaylaw11.DirectiveLists', WHERE WHAT IT READS IS OF BULK AT MOST 1048576: true; the input reads as it did. -/
def directiveListsUptoRow : OpenClaim := { program := "ytfjikkaejhihkaa", sum := "9e43fa972441b806f7897019edd0fc990032e2966dd23efcd566197cdd39a904", func := "inlay/inlaylaw11.DirectiveLists", spec := "directiveLists", inPlace := ["internal/bytealg.IndexByteString", "internal/bytealg.IndexString"], unfollowed := true, recurses := true, named := ["internal/bytealg.MaxLen"], apart := false, narrowed := true }
def DirectiveListsUptoSaid : Prop := directiveListsUptoRow.holds Try.pinned (OpenSpec.upto directiveListsSpec)

/-- 'inlaylaw11.DirectiveFinds', WHERE WHAT IT READS IS OF BULK AT MOST 1048576: true; the input reads as it did. -/
def directiveFindsUptoRow : OpenClaim := { program := "ytfjikkaejhihkaa", sum := "9e43fa972441b806f7897019edd0fc990032e2966dd23efcd566197cdd39a904", func := "inlay/inlaylaw11.DirectiveFinds", spec := "directiveFinds", inPlace := ["internal/bytealg.IndexByteString", "internal/bytealg.IndexString"], unfollowed := true, recurses := true, named := ["internal/bytealg.MaxLen"], apart := false, narrowed := true }
def DirectiveFindsUptoSaid : Prop := directiveFindsUptoRow.holds Try.pinned (OpenSpec.upto directiveFindsSpec)

/-- 'inlaylaw11.DirectiveKnown', WHERE WHAT IT READS IS OF BULK AT MOST 1048576: true; the input reads as it did. -/
def directiveKnownUptoRow : OpenClaim := { program := "ytfjikkaejhihkaa", sum := "9e43fa972441b806f7897019edd0fc990032e2966dd23efcd566197cdd39a904", func := "inlay/inlaylaw11.DirectiveKnown", spec := "directiveKnown", inPlace := ["internal/bytealg.IndexByteString", "internal/bytealg.IndexString", "internal/abi.NoEscape", "internal/bytealg.MakeNoZero"], unfollowed := true, recurses := true, named := ["internal/bytealg.MaxLen"], apart := false, narrowed := true }
def DirectiveKnownUptoSaid : Prop := directiveKnownUptoRow.holds Try.pinned (OpenSpec.upto directiveKnownSpec)

/-- 'inlaylaw11.DirectiveJoins', WHERE WHAT IT READS IS OF BULK AT MOST 1048576: true; the input reads as it did. -/
def directiveJoinsUptoRow : OpenClaim := { program := "ytfjikkaejhihkaa", sum := "9e43fa972441b806f7897019edd0fc990032e2966dd23efcd566197cdd39a904", func := "inlay/inlaylaw11.DirectiveJoins", spec := "directiveJoins", inPlace := ["internal/bytealg.IndexByteString", "internal/bytealg.IndexString"], unfollowed := true, recurses := true, named := ["internal/bytealg.MaxLen"], apart := false, narrowed := true }
def DirectiveJoinsUptoSaid : Prop := directiveJoinsUptoRow.holds Try.pinned (OpenSpec.upto directiveJoinsSpec)

/-- 'inlaylaw11.DirectiveBack', WHERE WHAT IT READS IS OF BULK AT MOST 1048576: true; the input reads as it did. -/
def directiveBackUptoRow : OpenClaim := { program := "ytfjikkaejhihkaa", sum := "9e43fa972441b806f7897019edd0fc990032e2966dd23efcd566197cdd39a904", func := "inlay/inlaylaw11.DirectiveBack", spec := "directiveBack", inPlace := ["internal/bytealg.IndexByteString", "internal/bytealg.IndexString", "internal/abi.NoEscape", "internal/bytealg.MakeNoZero"], unfollowed := true, recurses := true, named := ["internal/bytealg.MaxLen"], apart := false, narrowed := true }
def DirectiveBackUptoSaid : Prop := directiveBackUptoRow.holds Try.pinned (OpenSpec.upto directiveBackSpec)

end Rows
end Go.Proofs.Ytfjikkaejhihkaa
