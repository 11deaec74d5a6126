/- Texts in quotes: the document's own two functions, and the closure that tells what each byte is to the quotes. -/
import Derived.Test.YtjbkjmceabilaaaTextD
import Derived.Test.YtjbkjmceabilaaaText2
import Derived.OneCell
import Derived.Lib.SmallJoins
namespace Go.Proofs.Ytjbkjmceabilaaa
open Go.RowKit


end Go.Proofs.Ytjbkjmceabilaaa
