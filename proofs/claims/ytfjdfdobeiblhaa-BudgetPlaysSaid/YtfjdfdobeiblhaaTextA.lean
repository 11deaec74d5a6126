/- The text layer's functions on single bytes and whole texts, and the document's own: what each of them answers. -/
import Derived.Test.YtfjdfdobeiblhaaBytes
import Derived.Deep.QuietTactic
import Derived.BigQuiet
import Derived.Outline
import Derived.Deep.CutBlock
import Derived.Deep.DeepCutAuto
namespace Go.Proofs.Ytfjdfdobeiblhaa
open Go.RowKit





end Go.Proofs.Ytfjdfdobeiblhaa
