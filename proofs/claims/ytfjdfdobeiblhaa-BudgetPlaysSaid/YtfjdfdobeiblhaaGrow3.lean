/- Guards in a region that draws its order. No program is read here. -/
import Derived.Test.YtfjdfdobeiblhaaGrow2
namespace Go.Proofs.Ytfjdfdobeiblhaa
open Go.RowKit
theorem wantedS {ops : Array Oper} {o : Oper} {tmps : Array Value} {j d : Nat} {e : Bool} (hg : (ops[j]?).bind (·.dst) = some d) (ho : o.guard = some (j, e)) (ht : tmps[d]? = some (.bool e)) : Region.wanted o (yielded ops tmps) = true := by
  unfold Region.wanted yielded
  rw [ho]
  simp [hg, ht]
theorem unwantedS {ops : Array Oper} {o : Oper} {tmps : Array Value} {j d : Nat} {e : Bool} (hg : (ops[j]?).bind (·.dst) = some d) (ho : o.guard = some (j, e)) (ht : tmps[d]? = some (.bool (!e))) : Region.wanted o (yielded ops tmps) = false := by
  unfold Region.wanted yielded
  rw [ho]
  simp [hg, ht]
end Go.Proofs.Ytfjdfdobeiblhaa
