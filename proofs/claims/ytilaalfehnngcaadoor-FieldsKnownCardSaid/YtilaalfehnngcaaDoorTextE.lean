/- Texts in quotes: the document's own two functions, and the closure that tells what each byte is to the quotes. -/
import Derived.Test.YtilaalfehnngcaaDoorTextD
import Derived.Test.YtilaalfehnngcaaDoorText2
import Derived.OneCell
import Derived.Lib.SmallJoins
namespace Go.Proofs.YtilaalfehnngcaaDoor
open Go.RowKit


end Go.Proofs.YtilaalfehnngcaaDoor
