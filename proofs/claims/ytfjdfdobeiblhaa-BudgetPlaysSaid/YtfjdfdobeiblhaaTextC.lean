/- Blanks at both ends by the document; what may stand in a quoted text; texts in quotes. -/
import Derived.Test.YtfjdfdobeiblhaaTextB
namespace Go.Proofs.Ytfjdfdobeiblhaa
open Go.RowKit



end Go.Proofs.Ytfjdfdobeiblhaa
