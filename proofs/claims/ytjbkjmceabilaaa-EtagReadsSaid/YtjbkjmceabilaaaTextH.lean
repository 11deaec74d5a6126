/- The walks of the statements TextWords, TextQuotes and TextBack. -/
import Derived.Test.YtjbkjmceabilaaaTextG
namespace Go.Proofs.Ytjbkjmceabilaaa
open Go.RowKit

/-- below the first world's blocks nothing has turned -/
def Bel (w0 w : World) : Prop := Below w0.heap.size w0 w
theorem Bel.refl (w : World) : Bel w w := Below.refl _ _
theorem carry {P : Program} {f : FuncId} {args : Array Value} {w0 w : World} {v : Value} (hb : Bel w0 w) (h : Calls P f args w fun e w' => e = .returned v ∧ Below w.heap.size w w') :
    Calls P f args w fun e w' => e = .returned v ∧ Bel w0 w' :=
  h.mono fun _ _ ⟨he, h2⟩ => ⟨he, Below.trans hb (h2.mono hb.size)⟩



end Go.Proofs.Ytjbkjmceabilaaa
