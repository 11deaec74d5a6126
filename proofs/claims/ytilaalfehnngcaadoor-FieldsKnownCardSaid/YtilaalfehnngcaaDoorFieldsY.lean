/- The walks of the statements FieldsPuts, FieldsParses and FieldsBack. -/
import Derived.Test.YtilaalfehnngcaaDoorFieldsM
import Derived.Test.YtilaalfehnngcaaDoorFieldsQ
import Derived.Test.YtilaalfehnngcaaDoorFieldsP
namespace Go.Proofs.YtilaalfehnngcaaDoor
open Go.RowKit

theorem carryW {P : Program} {f : FuncId} {args : Array Value} {w0 w : World} {v : Value} (hb : Below w0.heap.size w0 w) (h : Calls P f args w fun e w' => e = .returned v ∧ Below w.heap.size w w') :
    Calls P f args w fun e w' => e = .returned v ∧ Below w0.heap.size w0 w' :=
  h.mono fun _ _ ⟨he, h2⟩ => ⟨he, hb.trans (h2.mono hb.size)⟩
/-- a call that may be made in every later world -/
def Later (w0 : World) (f : FuncId) (args : Array Value) (v : Value) : Prop := ∀ w, Below w0.heap.size w0 w → Calls Tryd.prog f args w fun e w' => e = .returned v ∧ Below w0.heap.size w0 w'
/-- .., that leaves the later world's blocks as they are -/
def LaterB (w0 : World) (f : FuncId) (args : Array Value) (v : Value) : Prop := ∀ w, Below w0.heap.size w0 w → Calls Tryd.prog f args w fun e w' => e = .returned v ∧ Below w.heap.size w w'
theorem worksL {w0 : World} (hm : MaxL w0) : Later w0 7 #[] (.bool true) := fun w hb => carryW hb (works_any w (hm.bel hb (Nat.le_refl _)))

/-- what comes in is no longer than can be -/
def sizedF (l : List Fld) : Prop := ∀ j (hj : j < l.length), l[j].1.length ≤ 9223372036854775807 ∧ l[j].2.length ≤ 9223372036854775807



end Go.Proofs.YtilaalfehnngcaaDoor
