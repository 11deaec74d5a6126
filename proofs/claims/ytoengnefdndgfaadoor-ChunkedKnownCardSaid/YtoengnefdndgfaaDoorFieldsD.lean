/- Copies of fields; a set of names, and the closures that ask it; the fields that stay. -/
import Derived.Test.YtoengnefdndgfaaDoorFieldsB
import Derived.Test.YtoengnefdndgfaaDoorGrow2
import Derived.Maps.OwnSet
import Derived.Maps.OwnOps
import Derived.WalkKit
namespace Go.Proofs.YtoengnefdndgfaaDoor
open Go.RowKit

/-- block b is a field's two cells -/
def oneF2 (w : World) (b : Nat) (x y : Value) : Prop := w.heap[b]? = some (.cells #[x, y] 64 (0, 0))
theorem oneF2.cells {w : World} {b : Nat} {x y : Value} (h : oneF2 w b x y) : w.cell? ⟨b, 0, none⟩ = some x ∧ w.cell? ⟨b, 1, none⟩ = some y ∧ w.frozen? ⟨b, 0, none⟩ = false ∧ w.frozen? ⟨b, 1, none⟩ = false := by
  unfold oneF2 at h
  simp [World.cell?, World.frozen?, h]
theorem oneF2.bel {w w' : World} {b : Nat} {x y : Value} (h : oneF2 w b x y) (hb : Below w.heap.size w w') : oneF2 w' b x y :=
  (hb.block b (Array.getElem?_eq_some_iff.1 h).1).trans h
theorem oneF2.new (w : World) (x y : Value) : oneF2 (w.alloc (.cells #[x, y] 64)) w.heap.size x y := heap_alloc_new w _

end Go.Proofs.YtoengnefdndgfaaDoor
