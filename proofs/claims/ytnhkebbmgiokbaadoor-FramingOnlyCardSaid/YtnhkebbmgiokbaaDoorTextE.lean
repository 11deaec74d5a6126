/- Texts in quotes: the document's own two functions, and the closure that tells what each byte is to the quotes. -/
import Derived.Test.YtnhkebbmgiokbaaDoorTextD
import Derived.Test.YtnhkebbmgiokbaaDoorText2
import Derived.OneCell
import Derived.Lib.SmallJoins
namespace Go.Proofs.YtnhkebbmgiokbaaDoor
open Go.RowKit


end Go.Proofs.YtnhkebbmgiokbaaDoor
