/- What the statements of layer 1 ask beside the functions: their own small helpers. -/
import Derived.Test.YtjbkjmceabilaaaTextF
namespace Go.Proofs.Ytjbkjmceabilaaa
open Go.RowKit


def unqT (l : List UInt8) : List UInt8 := if unqE l == 4 && (unqS l).isEmpty then [45] else unqS l


theorem k_quoteS : bs (quoteS [97, 34, 98, 92]) = ⟨#[34, 97, 92, 34, 98, 92, 92, 34]⟩ := by decide
theorem k_quoteE : quoteE [97, 34, 98, 92] = 0 := by decide
theorem k_token : token [97, 45, 66, 126, 57] = true := by decide
theorem k_unq : bs (unqT [34, 97, 92, 34, 98, 34]) = ⟨#[97, 34, 98]⟩ := by decide
theorem k_lower : bs (lower [65, 66, 122, 45, 49]) = ⟨#[97, 98, 122, 45, 49]⟩ := by decide

end Go.Proofs.Ytjbkjmceabilaaa
