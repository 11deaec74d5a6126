/-
  No cell of these rows narrows 'for every input' (looked for: loops, veiled, ifaces, maps, wideKeys, modest, calm, conditions, laid).
  DERIVED. THE GIVEN ROWS OF THIS SEAT. 4 by the template 'for every input the law returns true; each argument reads behind the call as it read before'; 0 by the template 'total and deterministic' (their statements: YtfjdfdobeiblhaaTotals.lean).
  GIVEN WITH THE SEED: the statements are not yours to turn. If you find one false, say at which input.
  Laid BY PROGRAM, IN A SANDBOX (cutbox-rows.mjs): the forced cells as the released guide's own fill.sh prints them over the translation 84add341262f6ccf… (all of the seat's roots in one cut). By AI agents, Wed Nov 11 2026. No macro, syntax, notation, axiom, sorry.
-/
import Derived.Test.YtfjdfdobeiblhaaChecked
import GoSem.Claim
import GoSem.ClaimJoined
import GoSem.ClaimMapViews
import Derived.JoinedTies
import Derived.KernelRfl
namespace Go.Proofs.Ytfjdfdobeiblhaa
/- THE CELL 'sum', in the pinned program and in every row, IS THE sha256 OF THE DUMP (.gsa) THAT YtfjdfdobeiblhaaProg.lean LOADS. Nothing in Lean hashes anything: it is a label: what it is worth is what the hold of that sum in a sandbox is worth. -/
noncomputable def Try.pinned : Pinned := { name := "ytfjdfdobeiblhaa", sum := "84add341262f6ccf9f7b52592f2d1c20c93ad0b303ae3841db45e361e26ea74e", checked := Try.checked }
namespace Rows
def none {H : Type} : Left H := { results := [], args := [] }

/-- 'inlaylaw18.BudgetPlays': WHATEVER THE INPUT: true; the input reads as it did. -/
def budgetPlaysSpec : ChangeSpec := { name := "budgetPlays", fn := fun _ => fun
  | [d1, d2, d3] => { results := [.lit (.bool true)], args := [d1, d2, d3] }
  | _ => none }
def budgetPlaysRow : OpenClaim := { program := "ytfjdfdobeiblhaa", sum := "84add341262f6ccf9f7b52592f2d1c20c93ad0b303ae3841db45e361e26ea74e", func := "inlay/inlaylaw18.BudgetPlays", spec := "budgetPlays", inPlace := ["internal/abi.NoEscape", "internal/bytealg.MakeNoZero"], apart := false }
def BudgetPlaysSaid : Prop := budgetPlaysRow.holds Try.pinned (OpenSpec.ofChange budgetPlaysSpec)

/-- ITS FALSE NEIGHBOUR: 'it returns false'. Refute it at one input. -/
def budgetPlaysWrong : ChangeSpec := { name := "budgetPlays", fn := fun _ => fun
  | [d1, d2, d3] => { results := [.lit (.bool false)], args := [d1, d2, d3] }
  | _ => none }
def BudgetPlaysWrongFalsely : Prop := budgetPlaysRow.holds Try.pinned (OpenSpec.ofChange budgetPlaysWrong)

/-- 'inlaylaw18.BudgetBounds': WHATEVER THE INPUT: true; the input reads as it did. -/
def budgetBoundsSpec : ChangeSpec := { name := "budgetBounds", fn := fun _ => fun
  | [d1, d2, d3] => { results := [.lit (.bool true)], args := [d1, d2, d3] }
  | _ => none }
def budgetBoundsRow : OpenClaim := { program := "ytfjdfdobeiblhaa", sum := "84add341262f6ccf9f7b52592f2d1c20c93ad0b303ae3841db45e361e26ea74e", func := "inlay/inlaylaw18.BudgetBounds", spec := "budgetBounds", inPlace := ["internal/abi.NoEscape", "internal/bytealg.MakeNoZero"], apart := false }
def BudgetBoundsSaid : Prop := budgetBoundsRow.holds Try.pinned (OpenSpec.ofChange budgetBoundsSpec)

/-- ITS FALSE NEIGHBOUR: 'it returns false'. Refute it at one input. -/
def budgetBoundsWrong : ChangeSpec := { name := "budgetBounds", fn := fun _ => fun
  | [d1, d2, d3] => { results := [.lit (.bool false)], args := [d1, d2, d3] }
  | _ => none }
def BudgetBoundsWrongFalsely : Prop := budgetBoundsRow.holds Try.pinned (OpenSpec.ofChange budgetBoundsWrong)

/-- 'inlaylaw18.BudgetMore': WHATEVER THE INPUT: true; the input reads as it did. -/
def budgetMoreSpec : ChangeSpec := { name := "budgetMore", fn := fun _ => fun
  | [d1, d2, d3] => { results := [.lit (.bool true)], args := [d1, d2, d3] }
  | _ => none }
def budgetMoreRow : OpenClaim := { program := "ytfjdfdobeiblhaa", sum := "84add341262f6ccf9f7b52592f2d1c20c93ad0b303ae3841db45e361e26ea74e", func := "inlay/inlaylaw18.BudgetMore", spec := "budgetMore", inPlace := ["internal/abi.NoEscape", "internal/bytealg.MakeNoZero"], apart := false }
def BudgetMoreSaid : Prop := budgetMoreRow.holds Try.pinned (OpenSpec.ofChange budgetMoreSpec)

/-- ITS FALSE NEIGHBOUR: 'it returns false'. Refute it at one input. -/
def budgetMoreWrong : ChangeSpec := { name := "budgetMore", fn := fun _ => fun
  | [d1, d2, d3] => { results := [.lit (.bool false)], args := [d1, d2, d3] }
  | _ => none }
def BudgetMoreWrongFalsely : Prop := budgetMoreRow.holds Try.pinned (OpenSpec.ofChange budgetMoreWrong)

/-- 'inlaylaw18.BudgetKnown': WHATEVER THE INPUT: true; the input reads as it did. -/
def budgetKnownSpec : ChangeSpec := { name := "budgetKnown", fn := fun _ => fun
  | [] => { results := [.lit (.bool true)], args := [] }
  | _ => none }
def budgetKnownRow : OpenClaim := { program := "ytfjdfdobeiblhaa", sum := "84add341262f6ccf9f7b52592f2d1c20c93ad0b303ae3841db45e361e26ea74e", func := "inlay/inlaylaw18.BudgetKnown", spec := "budgetKnown", inPlace := ["internal/abi.NoEscape", "internal/bytealg.MakeNoZero"], apart := false }
def BudgetKnownSaid : Prop := budgetKnownRow.holds Try.pinned (OpenSpec.ofChange budgetKnownSpec)

/-- ITS FALSE NEIGHBOUR: 'it returns false'. Refute it at one input. -/
def budgetKnownWrong : ChangeSpec := { name := "budgetKnown", fn := fun _ => fun
  | [] => { results := [.lit (.bool false)], args := [] }
  | _ => none }
def BudgetKnownWrongFalsely : Prop := budgetKnownRow.holds Try.pinned (OpenSpec.ofChange budgetKnownWrong)

/- THE SECOND FORM. 'bulk': how many values and letters a reading holds, each counted each time it is reached (what is shared counts as often as it is met; a slice's spare places count too). A statement '..UptoSaid' is the law's where the arguments, and the package variables that the reading takes, are together of bulk at most 1048576: NARROWER than '..Said'. Prove '..Said' where nothing that the law and all that it calls make is longer than what came in: it says more and counts as full. Else prove '..UptoSaid'. A law counts once. -/
mutual
def uptoBulk {H : Type} : DataW H → Nat
  | .lit (.string bytes) => bytes.length + 1
  | .lit _ => 1
  | .nil => 1
  | .ptr d => uptoBulk d + 1
  | .slice elems spare => uptoBulkAll elems + uptoBulkAll spare + 1
  | .agg parts => uptoBulkAll parts + 1
  | .iface _ d => uptoBulk d + 1
  | .map entries => uptoBulkEntries entries + 1
  | .held _ => 1
def uptoBulkAll {H : Type} : List (DataW H) → Nat
  | [] => 0
  | d :: r => uptoBulk d + uptoBulkAll r
def uptoBulkEntries {H : Type} : List (Lit × DataW H) → Nat
  | [] => 0
  | x :: r => uptoBulkEntry x + uptoBulkEntries r
def uptoBulkEntry {H : Type} : Lit × DataW H → Nat
  | (.string bytes, d) => bytes.length + uptoBulk d + 1
  | (_, d) => uptoBulk d + 1
 end
def uptoSmall : (H : Type) → List (DataW H) → Bool := fun _ ds => decide (uptoBulkAll ds ≤ 1048576)
def OpenSpec.upto (s : _root_.Go.ChangeSpec) : _root_.Go.OpenSpec := { _root_.Go.OpenSpec.ofChange s with cond := some uptoSmall }

/-- 'inlaylaw18.BudgetPlays', WHERE WHAT IT READS IS OF BULK AT MOST 1048576: true; the input reads as it did. -/
def budgetPlaysUptoRow : OpenClaim := { program := "ytfjdfdobeiblhaa", sum := "84add341262f6ccf9f7b52592f2d1c20c93ad0b303ae3841db45e361e26ea74e", func := "inlay/inlaylaw18.BudgetPlays", spec := "budgetPlays", inPlace := ["internal/abi.NoEscape", "internal/bytealg.MakeNoZero"], apart := false, narrowed := true }
def BudgetPlaysUptoSaid : Prop := budgetPlaysUptoRow.holds Try.pinned (OpenSpec.upto budgetPlaysSpec)

/-- 'inlaylaw18.BudgetBounds', WHERE WHAT IT READS IS OF BULK AT MOST 1048576: true; the input reads as it did. -/
def budgetBoundsUptoRow : OpenClaim := { program := "ytfjdfdobeiblhaa", sum := "84add341262f6ccf9f7b52592f2d1c20c93ad0b303ae3841db45e361e26ea74e", func := "inlay/inlaylaw18.BudgetBounds", spec := "budgetBounds", inPlace := ["internal/abi.NoEscape", "internal/bytealg.MakeNoZero"], apart := false, narrowed := true }
def BudgetBoundsUptoSaid : Prop := budgetBoundsUptoRow.holds Try.pinned (OpenSpec.upto budgetBoundsSpec)

/-- 'inlaylaw18.BudgetMore', WHERE WHAT IT READS IS OF BULK AT MOST 1048576: true; the input reads as it did. -/
def budgetMoreUptoRow : OpenClaim := { program := "ytfjdfdobeiblhaa", sum := "84add341262f6ccf9f7b52592f2d1c20c93ad0b303ae3841db45e361e26ea74e", func := "inlay/inlaylaw18.BudgetMore", spec := "budgetMore", inPlace := ["internal/abi.NoEscape", "internal/bytealg.MakeNoZero"], apart := false, narrowed := true }
def BudgetMoreUptoSaid : Prop := budgetMoreUptoRow.holds Try.pinned (OpenSpec.upto budgetMoreSpec)

/-- 'inlaylaw18.BudgetKnown', WHERE WHAT IT READS IS OF BULK AT MOST 1048576: true; the input reads as it did. -/
def budgetKnownUptoRow : OpenClaim := { program := "ytfjdfdobeiblhaa", sum := "84add341262f6ccf9f7b52592f2d1c20c93ad0b303ae3841db45e361e26ea74e", func := "inlay/inlaylaw18.BudgetKnown", spec := "budgetKnown", inPlace := ["internal/abi.NoEscape", "internal/bytealg.MakeNoZero"], apart := false, narrowed := true }
def BudgetKnownUptoSaid : Prop := budgetKnownUptoRow.holds Try.pinned (OpenSpec.upto budgetKnownSpec)

end Rows
end Go.Proofs.Ytfjdfdobeiblhaa
