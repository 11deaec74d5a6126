/-
  No cell of these rows narrows 'for every input' (looked for: loops, veiled, ifaces, maps, wideKeys, modest, calm, conditions, laid).
  DERIVED. THE GIVEN ROWS OF THIS SEAT. 2 by the template 'for every input the law returns true; each argument reads behind the call as it read before'; 0 by the template 'total and deterministic' (their statements: YtjbkjmceabilaaaTotals.lean).
  GIVEN WITH THE SEED: the statements are not yours to turn. If you find one false, say at which input.
  Laid BY PROGRAM, IN A SANDBOX (cutbox-rows.mjs): the forced cells as the released guide's own fill.sh prints them over the translation dd0e3873e4d0a139… (all of the seat's roots in one cut). By AI agents, Wed Nov 11 2026. No macro, syntax, notation, axiom, sorry.
-/
import Derived.Test.YtjbkjmceabilaaaChecked
import GoSem.Claim
import GoSem.ClaimJoined
import GoSem.ClaimMapViews
import Derived.JoinedTies
import Derived.KernelRfl
namespace Go.Proofs.Ytjbkjmceabilaaa
/- THE CELL 'sum', in the pinned program and in every row, IS THE sha256 OF THE DUMP (.gsa) THAT YtjbkjmceabilaaaProg.lean LOADS. Nothing in Lean hashes anything: it is a label: what it is worth is what the hold of that sum in a sandbox is worth. -/
noncomputable def Try.pinned : Pinned := { name := "ytjbkjmceabilaaa", sum := "dd0e3873e4d0a13951f29e4e0b25e44db28db36916213c2206e0ad7b5757f4f0", checked := Try.checked }
namespace Rows
def none {H : Type} : Left H := { results := [], args := [] }

/-- 'inlaylaw14.EtagReads': WHATEVER THE INPUT: true; the input reads as it did. -/
def etagReadsSpec : ChangeSpec := { name := "etagReads", fn := fun _ => fun
  | [d1, d2] => { results := [.lit (.bool true)], args := [d1, d2] }
  | _ => none }
def etagReadsRow : OpenClaim := { program := "ytjbkjmceabilaaa", sum := "dd0e3873e4d0a13951f29e4e0b25e44db28db36916213c2206e0ad7b5757f4f0", func := "inlay/inlaylaw14.EtagReads", spec := "etagReads", unfollowed := true, recurses := true, apart := false }
def EtagReadsSaid : Prop := etagReadsRow.holds Try.pinned (OpenSpec.ofChange etagReadsSpec)

/-- ITS FALSE NEIGHBOUR: 'it returns false'. Refute it at one input. -/
def etagReadsWrong : ChangeSpec := { name := "etagReads", fn := fun _ => fun
  | [d1, d2] => { results := [.lit (.bool false)], args := [d1, d2] }
  | _ => none }
def EtagReadsWrongFalsely : Prop := etagReadsRow.holds Try.pinned (OpenSpec.ofChange etagReadsWrong)

/-- 'inlaylaw14.EtagSame': WHATEVER THE INPUT: true; the input reads as it did. -/
def etagSameSpec : ChangeSpec := { name := "etagSame", fn := fun _ => fun
  | [d1, d2, d3] => { results := [.lit (.bool true)], args := [d1, d2, d3] }
  | _ => none }
def etagSameRow : OpenClaim := { program := "ytjbkjmceabilaaa", sum := "dd0e3873e4d0a13951f29e4e0b25e44db28db36916213c2206e0ad7b5757f4f0", func := "inlay/inlaylaw14.EtagSame", spec := "etagSame", apart := false }
def EtagSameSaid : Prop := etagSameRow.holds Try.pinned (OpenSpec.ofChange etagSameSpec)

/-- ITS FALSE NEIGHBOUR: 'it returns false'. Refute it at one input. -/
def etagSameWrong : ChangeSpec := { name := "etagSame", fn := fun _ => fun
  | [d1, d2, d3] => { results := [.lit (.bool false)], args := [d1, d2, d3] }
  | _ => none }
def EtagSameWrongFalsely : Prop := etagSameRow.holds Try.pinned (OpenSpec.ofChange etagSameWrong)

/- THE SECOND FORM. 'bulk': how many values and letters a reading holds, each counted each time it is reached (what is shared counts as often as it is met; a slice's spare places count too). A statement '..UptoSaid' is the law's where the arguments, and the package variables that the reading takes, are together of bulk at most 1048576: NARROWER than '..Said'. Prove '..Said' where nothing that the law and all that it calls make is longer than what came in: it says more and counts as full. Else prove '..UptoSaid'. A law counts once. -/
mutual
def uptoBulk {H : Type} : DataW H → Nat
  | .lit (.string bytes) => bytes.length + 1
  | .lit _ => 1
  | .nil => 1
  | .ptr d => uptoBulk d + 1
  | .slice elems spare => uptoBulkAll elems + uptoBulkAll spare + 1
  | .agg parts => uptoBulkAll parts + 1
  | .iface _ d => uptoBulk d + 1
  | .map entries => uptoBulkEntries entries + 1
  | .held _ => 1
def uptoBulkAll {H : Type} : List (DataW H) → Nat
  | [] => 0
  | d :: r => uptoBulk d + uptoBulkAll r
def uptoBulkEntries {H : Type} : List (Lit × DataW H) → Nat
  | [] => 0
  | x :: r => uptoBulkEntry x + uptoBulkEntries r
def uptoBulkEntry {H : Type} : Lit × DataW H → Nat
  | (.string bytes, d) => bytes.length + uptoBulk d + 1
  | (_, d) => uptoBulk d + 1
 end
def uptoSmall : (H : Type) → List (DataW H) → Bool := fun _ ds => decide (uptoBulkAll ds ≤ 1048576)
def OpenSpec.upto (s : _root_.Go.ChangeSpec) : _root_.Go.OpenSpec := { _root_.Go.OpenSpec.ofChange s with cond := some uptoSmall }

/-- 'inlaylaw14.EtagReads', WHERE WHAT IT READS IS OF BULK AT MOST 1048576: true; the input reads as it did. -/
def etagReadsUptoRow : OpenClaim := { program := "ytjbkjmceabilaaa", sum := "dd0e3873e4d0a13951f29e4e0b25e44db28db36916213c2206e0ad7b5757f4f0", func := "inlay/inlaylaw14.EtagReads", spec := "etagReads", unfollowed := true, recurses := true, apart := false, narrowed := true }
def EtagReadsUptoSaid : Prop := etagReadsUptoRow.holds Try.pinned (OpenSpec.upto etagReadsSpec)

/-- 'inlaylaw14.EtagSame', WHERE WHAT IT READS IS OF BULK AT MOST 1048576: true; the input reads as it did. -/
def etagSameUptoRow : OpenClaim := { program := "ytjbkjmceabilaaa", sum := "dd0e3873e4d0a13951f29e4e0b25e44db28db36916213c2206e0ad7b5757f4f0", func := "inlay/inlaylaw14.EtagSame", spec := "etagSame", apart := false, narrowed := true }
def EtagSameUptoSaid : Prop := etagSameUptoRow.holds Try.pinned (OpenSpec.upto etagSameSpec)

end Rows
end Go.Proofs.Ytjbkjmceabilaaa
