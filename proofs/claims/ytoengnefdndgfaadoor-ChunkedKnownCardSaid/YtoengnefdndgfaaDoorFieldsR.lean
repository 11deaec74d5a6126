/- What the document's own functions tell of names: has, Values, Del, Set; lists held against each other. -/
import Derived.Test.YtoengnefdndgfaaDoorFieldsG
import Derived.Test.YtoengnefdndgfaaDoorFieldsP
namespace Go.Proofs.YtoengnefdndgfaaDoor
open Go.RowKit

theorem beq_bs (a b : List UInt8) : ((bs a).toList == (bs b).toList) = (a == b) := by rw [Lib.toList_data, Lib.toList_data, bs_data, bs_data]


theorem vals_step {l : List Fld} {n : List UInt8} {k : Nat} (h : k < l.length) : valsL (l.take (k + 1)) n = if (lower l[k].1 == lower n) then valsL (l.take k) n ++ [l[k].2] else valsL (l.take k) n := by
  rw [List.take_succ_eq_append_getElem h]
  unfold valsL
  rw [List.filter_append, List.map_append]
  cases hs : (lower l[k].1 == lower n) <;> simp [sameN, hs]


theorem del_step {l : List Fld} {L : List (List UInt8)} {k : Nat} (h : k < l.length) : delL (l.take (k + 1)) L = if hasN L l[k].1 then delL (l.take k) L else delL (l.take k) L ++ [l[k]] := by
  rw [List.take_succ_eq_append_getElem h]
  unfold delL
  rw [List.filter_append]
  cases hs : hasN L l[k].1 <;> simp [hs]

end Go.Proofs.YtoengnefdndgfaaDoor
