/- The fields that stay, and the place of the first one, by whatever closure tells; Del, Values. -/
import Derived.Test.YtoengnefdndgfaaDoorFieldsE
import Derived.Test.YtoengnefdndgfaaDoorFieldsC
import Derived.Shelf.GgClosure.Gives
namespace Go.Proofs.YtoengnefdndgfaaDoor
open Go.RowKit Go.Shelf

/-- a function value that tells p of fields, in every later world -/
def PredF (w : World) (g : Nat) (lb : Array Value) (p : Fld → Bool) : Prop :=
  ∀ (W : World) (f : Fld), Below w.heap.size w W → f.1.length ≤ 4294967296 → Calls Tryd.prog g (#[fv f] ++ lb) W fun e w' => e = .returned (.bool (p f)) ∧ Below W.heap.size W w'
/-- a new slice of fields is handed back -/
def RetF (w : World) (l : List Fld) (e : Ending) (w' : World) : Prop := ∃ v', e = .returned v' ∧ ownF w' w.heap.size v' l ∧ Below w.heap.size w w'
/-- a new slice of texts is handed back -/
def RetS (w : World) (l : List (List UInt8)) (e : Ending) (w' : World) : Prop := ∃ v', e = .returned v' ∧ ownS w' w.heap.size v' l ∧ Below w.heap.size w w'

theorem filter_step {l : List Fld} {p : Fld → Bool} {k : Nat} (h : k < l.length) : (l.take (k + 1)).filter p = if p l[k] then (l.take k).filter p ++ [l[k]] else (l.take k).filter p := by
  rw [List.take_succ_eq_append_getElem h, List.filter_append]
  cases hp : p l[k] <;> simp [hp]
theorem filter_len {l : List Fld} {p : Fld → Bool} (k : Nat) : ((l.take k).filter p).length ≤ l.length := Nat.le_trans (List.length_filter_le _ _) (List.length_take_le' _ _)


/-- the place of the first field of which p holds -/
def placeOf (l : List Fld) (p : Fld → Bool) : Int := match l.findIdx? p with | some k => (k : Int) | none => -1

end Go.Proofs.YtoengnefdndgfaaDoor
