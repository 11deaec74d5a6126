/- Which fields may be: the fields layer's functions and the document's own. -/
import Derived.Test.YtnhkebbmgiokbaaDoorFieldsA
import Derived.Test.YtnhkebbmgiokbaaDoorFields1
import Derived.Deep.QuietTactic
import Derived.BigQuiet
namespace Go.Proofs.YtnhkebbmgiokbaaDoor
open Go.RowKit

theorem ret_i64 {a b : Int} (h : a = b) : Ending.returned (.int .i64 a) = .returned (.int .i64 b) := by rw [h]
theorem lower_l (n : List UInt8) (w : World) (h : n.length ≤ maxLen) : Calls Tryd.prog 41 #[.string (bs n)] w fun e w' => e = .returned (.string (bs (lower n))) ∧ Below w.heap.size w w' := by
  have := lower_any (bs n) w (by rw [bs_size]; exact h)
  rwa [bs_data] at this
theorem rlower_l (n : List UInt8) (w : World) (h : n.length ≤ 140737488351232) : Calls Tryd.prog 38 #[.string (bs n)] w fun e w' => e = .returned (.string (bs (lower n))) ∧ Below w.heap.size w w' := by
  have := rlower_any (bs n) w (by rw [bs_size]; exact h)
  rwa [bs_data] at this
theorem clone_l (n : List UInt8) (w : World) (h : n.length ≤ 281474976710656) : Calls Tryd.prog 54 #[.string (bs n)] w fun e w' => e = .returned (.string (bs n)) ∧ Below w.heap.size w w' :=
  clone_any (bs n) w (by rw [bs_size]; exact h)
theorem bs_append (x y : List UInt8) : bs x ++ bs y = bs (x ++ y) := by
  apply ByteArray.ext
  rw [ByteArray.data_append]
  simp [bs]
theorem add_l (x y : List UInt8) (w : World) (h : x.length + y.length ≤ 9223372036854775807) : (Op.stringOp .add (bs x) (bs y)).run Tryd.prog w = .ok (.string (bs (x ++ y))) w := by
  rw [← bs_append]
  simp [Op.stringOp]
  omega




end Go.Proofs.YtnhkebbmgiokbaaDoor
