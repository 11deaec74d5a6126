/- Texts put in quotes: the text layer's function and the document's own. -/
import Derived.Test.YtjbkjmceabilaaaTextC
namespace Go.Proofs.Ytjbkjmceabilaaa
open Go.RowKit

theorem ret_pair {a b : ByteArray} {x y : Int} (h : a = b) (k : x = y) : Ending.returned (.tuple #[.string a, .int .i64 x]) = .returned (.tuple #[.string b, .int .i64 y]) := by rw [h, k]

end Go.Proofs.Ytjbkjmceabilaaa
