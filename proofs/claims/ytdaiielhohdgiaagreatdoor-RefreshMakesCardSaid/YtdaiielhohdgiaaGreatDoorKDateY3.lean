/- The document's May, at every date. -/
import Derived.Test.YtdaiielhohdgiaaGreatDoorKDateD
import Derived.Test.YtdaiielhohdgiaaGreatDoorKDateY2
namespace Go.Proofs.YtdaiielhohdgiaaGreatDoor
open Go.RowKit
theorem rmay_any (y m d h i s : Int) (w : World) :
    Calls Tryz.prog 50 #[.agg #[.int .i64 y, .int .i64 m, .int .i64 d, .int .i64 h, .int .i64 i, .int .i64 s]] w fun e w' => e = .returned (.bool (mayD y m d h i s)) ∧ Below w.heap.size w w' := by
  unfold mayD
  by_cases c1 : 1970 ≤ y
  case neg => rw [decide_eq_false (fun H => c1 H.1)]; exact rmay_no1 y m d h i s w c1
  by_cases c2 : y ≤ 9999
  case neg => rw [decide_eq_false (fun H => c2 H.2.1)]; exact rmay_no2 y m d h i s w c1 c2
  by_cases c3 : 1 ≤ m
  case neg => rw [decide_eq_false (fun H => c3 H.2.2.1)]; exact rmay_no3 y m d h i s w c1 c2 c3
  by_cases c4 : m ≤ 12
  case neg => rw [decide_eq_false (fun H => c4 H.2.2.2.1)]; exact rmay_no4 y m d h i s w c1 c2 c3 c4
  by_cases c5 : 1 ≤ d
  case neg => rw [decide_eq_false (fun H => c5 H.2.2.2.2.1)]; exact rmay_no5 y m d h i s w c1 c2 c3 c4 c5
  by_cases c6 : d ≤ domI y (m - 1)
  case neg => rw [decide_eq_false (fun H => c6 H.2.2.2.2.2.1)]; exact rmay_no6 y m d h i s w c1 c2 c3 c4 c5 c6
  by_cases c7 : 0 ≤ h
  case neg => rw [decide_eq_false (fun H => c7 H.2.2.2.2.2.2.1)]; exact rmay_no7 y m d h i s w c1 c2 c3 c4 c5 c6 c7
  by_cases c8 : h ≤ 23
  case neg => rw [decide_eq_false (fun H => c8 H.2.2.2.2.2.2.2.1)]; exact rmay_no8 y m d h i s w c1 c2 c3 c4 c5 c6 c7 c8
  by_cases c9 : 0 ≤ i
  case neg => rw [decide_eq_false (fun H => c9 H.2.2.2.2.2.2.2.2.1)]; exact rmay_no9 y m d h i s w c1 c2 c3 c4 c5 c6 c7 c8 c9
  by_cases c10 : i ≤ 59
  case neg => rw [decide_eq_false (fun H => c10 H.2.2.2.2.2.2.2.2.2.1)]; exact rmay_no10 y m d h i s w c1 c2 c3 c4 c5 c6 c7 c8 c9 c10
  by_cases c11 : 0 ≤ s
  case neg => rw [decide_eq_false (fun H => c11 H.2.2.2.2.2.2.2.2.2.2.1)]; exact rmay_no11 y m d h i s w c1 c2 c3 c4 c5 c6 c7 c8 c9 c10 c11
  by_cases c12 : s ≤ 59
  case neg => rw [decide_eq_false (fun H => c12 H.2.2.2.2.2.2.2.2.2.2.2)]; exact rmay_no12 y m d h i s w c1 c2 c3 c4 c5 c6 c7 c8 c9 c10 c11 c12
  rw [decide_eq_true ⟨c1, c2, c3, c4, c5, c6, c7, c8, c9, c10, c11, c12⟩]
  exact rmay_yes y m d h i s w c1 c2 c3 c4 c5 c6 c7 c8 c9 c10 c11 c12
end Go.Proofs.YtdaiielhohdgiaaGreatDoor
