/- Which lists of fields may be: the fields layer's Check, and the document's own. -/
import Derived.Test.YtnhkebbmgiokbaaDoorFieldsB
namespace Go.Proofs.YtnhkebbmgiokbaaDoor
open Go.RowKit

/-- no field of a list is too long to be read -/
def smallF (l : List Fld) : Prop := ∀ j (hj : j < l.length), l[j].1.length ≤ 4294967296 ∧ l[j].2.length ≤ 4294967296




end Go.Proofs.YtnhkebbmgiokbaaDoor
