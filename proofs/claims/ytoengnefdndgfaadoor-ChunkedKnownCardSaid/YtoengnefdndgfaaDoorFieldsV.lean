/- Lists held against each other; the values of a name as one text; the document's Set. -/
import Derived.Test.YtoengnefdndgfaaDoorFieldsR
import Derived.Laws.StructEq
namespace Go.Proofs.YtoengnefdndgfaaDoor
open Go.RowKit

theorem below_dn {B : Nat} {w0 w : World} (h : Below B w0 w) (n : Nat) : Below B w0 (w.drewN n) := ⟨h.os, h.tape, h.output, h.size, h.block⟩
theorem take_grow {α : Type} {L1 L2 : List α} {k : Nat} (h1 : k < L1.length) (h2 : k < L2.length) (h : L1.take k = L2.take k) (he : L1[k] = L2[k]) : L1.take (k + 1) = L2.take (k + 1) := by
  rw [List.take_succ_eq_append_getElem h1, List.take_succ_eq_append_getElem h2, h, he]


/-- two fields held against each other -/
theorem run_neqF (x y : Fld) (w : World) : (binOp .neq 64 (.agg #[.string (bs x.1), .string (bs x.2)]) (.agg #[.string (bs y.1), .string (bs y.2)])).run Tryd.prog w = .ok (.bool (!(x == y))) w := by
  have e : (x == y) = ((x.1 == y.1) && (x.2 == y.2)) := rfl
  have u9 := Tryd.underlying9
  have a9 := Tryd.isAgg9
  have z9 := Tryd.sizeOf9
  have hS : Tryd.prog.underlying 64 = some (.struct (Tryd.prog.fieldsOf 64)) := by kernel_rfl
  have hp : Tryd.prog.stoodInHeld 64 = false := by kernel_rfl
  rw [e, run_neq_struct, show (10000 : Nat) = 9999 + 1 from rfl, run_equalIn_agg w 9999 64 _ _ hS hp]
  simp only [Program.fieldsOf, Tryd.underlying64]
  go_simp
  by_cases h1 : x.1 = y.1 <;> by_cases h2 : x.2 = y.2 <;> simp [h1, h2, Lib.toList_data]

end Go.Proofs.YtoengnefdndgfaaDoor
