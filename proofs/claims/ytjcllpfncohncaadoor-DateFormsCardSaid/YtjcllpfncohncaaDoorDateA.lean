/- The date layer's functions on numbers. -/
import Derived.Test.YtjcllpfncohncaaDoorDate0
import Derived.Test.YtjcllpfncohncaaDoorProg
import Derived.WalkKit
import Derived.WalkLawsBesides
import Derived.Lib.Hide
import Derived.Outline
import Derived.Deep.RegionHeld3
import Derived.Deep.QuietTactic
import Derived.BigQuiet
import Derived.IntWalk
namespace Go.Proofs.YtjcllpfncohncaaDoor
open Go.RowKit

theorem ret_num {a b : Int} (h : a = b) : Ending.returned (.int .i64 a) = .returned (.int .i64 b) := by rw [h]

theorem leaps_any (y : Int) (w : World) (h0 : 1970 ≤ y) (h1 : y ≤ 20000) :
    Calls Tryd.prog 55 #[.int .i64 y] w fun e w' => e = .returned (.int .i64 (leapsI y)) ∧ w = w' := by
  go_enter Tryd.func55, Tryd.ntmps55
  go_wp2_with fail
  go_ret
  exact ⟨ret_num (by unfold leapsI; omega), rfl⟩
theorem ahead_any (y : Int) (w : World) (h0 : 1970 ≤ y) (h1 : y ≤ 20000) :
    Calls Tryd.prog 50 #[.int .i64 y] w fun e w' => e = .returned (.int .i64 (aheadI y)) ∧ w = w' := by
  have g0 : 0 ≤ leapsI y := by unfold leapsI; omega
  have g1 : leapsI y ≤ 20000 := by unfold leapsI; omega
  have g2 := leaps_1970
  go_enter Tryd.func50, Tryd.ntmps50
  go_wp2_with (go_at_call 55; refine (leaps_any _ _ (by omega) (by omega)).mono ?_; rintro e w' ⟨rfl, rfl⟩)
  go_ret
  exact ⟨ret_num (by unfold aheadI; omega), rfl⟩
theorem dom_any (y m : Int) (w : World) (h0 : 1970 ≤ y) (h1 : y ≤ 19999) :
    Calls Tryd.prog 47 #[.int .i64 y, .int .i64 m] w fun e w' => e = .returned (.int .i64 (domI y m)) ∧ w = w' := by
  have g0 : 0 ≤ leapsI y := by unfold leapsI; omega
  have g1 : leapsI y ≤ 20000 := by unfold leapsI; omega
  have g2 : 0 ≤ leapsI (y + 1) := by unfold leapsI; omega
  have g3 : leapsI (y + 1) ≤ 20000 := by unfold leapsI; omega
  go_enter Tryd.func47, Tryd.ntmps47
  go_wp2_with (go_at_call 55; refine (leaps_any _ _ (by omega) (by omega)).mono ?_; rintro e w' ⟨rfl, rfl⟩)
  all_goals go_ret
  all_goals refine ⟨ret_num ?_, rfl⟩
  all_goals simp_all [domI, lpI]
  all_goals omega
theorem wd_any (n : Int) (w : World) (h0 : 0 ≤ n) (h1 : n ≤ 9000000) :
    Calls Tryd.prog 48 #[.int .i64 n] w fun e w' => e = .returned (.int .i64 (wdI n)) ∧ w = w' := by
  go_enter Tryd.func48, Tryd.ntmps48
  go_wp2_with fail
  go_ret
  exact ⟨rfl, rfl⟩
end Go.Proofs.YtjcllpfncohncaaDoor
