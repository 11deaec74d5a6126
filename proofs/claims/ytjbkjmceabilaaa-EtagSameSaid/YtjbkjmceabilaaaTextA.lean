/- The text layer's functions on single bytes and whole texts, and the document's own: what each of them answers. -/
import Derived.Test.YtjbkjmceabilaaaBytes
import Derived.Deep.QuietTactic
import Derived.BigQuiet
import Derived.Outline
import Derived.Deep.CutBlock
import Derived.Deep.DeepCutAuto
namespace Go.Proofs.Ytjbkjmceabilaaa
open Go.RowKit





end Go.Proofs.Ytjbkjmceabilaaa
