/- The year of now. -/
import Derived.Test.YtfobjaccpnondaaGreatDoorKDateC
namespace Go.Proofs.YtfobjaccpnondaaGreatDoor
open Go.RowKit

/-- the valid tick nearest to t -/
def clampI (t : Int) : Int := min (max t 0) 253402300799
theorem clamp_bd (t : Int) : 0 ≤ clampI t ∧ clampI t ≤ 253402300799 := by unfold clampI; omega
theorem field_year (a0 a1 a2 a3 a4 a5 a6 : Int) (w : World) : (Instr.field 64 (.agg #[.int .i64 a0, .int .i64 a1, .int .i64 a2, .int .i64 a3, .int .i64 a4, .int .i64 a5, .int .i64 a6]) 3).run Tryz.prog w = .ok (.int .i64 a3) w := by kernel_rfl
set_option maxRecDepth 100000 in
set_option maxHeartbeats 1000000 in
theorem yearOf_any (t y m d h i s : Int) (w : World) (H : IsT (clampI t) y m d h i s) :
    Calls Tryz.prog 146 #[.int .i64 t] w fun e w' => e = .returned (.int .i64 y) ∧ Below w.heap.size w w' := by
  have hf := field_year
  rcases Int.lt_or_le t 0 with g | g
  · rw [show clampI t = 0 from by unfold clampI; omega] at H
    go_enter Tryz.func146, Tryz.ntmps146
    go_wp2_with fail
    all_goals first | (exfalso; omega) | skip
    refine (readingOf_any _ _ _ _ _ _ _ _ H).mono ?_
    rintro e w' ⟨rfl, hb⟩
    go_wp2_with fail
    go_ret
    exact ⟨rfl, hb⟩
  · rcases Int.lt_or_le 253402300799 t with k | k
    · rw [show clampI t = 253402300799 from by unfold clampI; omega] at H
      go_enter Tryz.func146, Tryz.ntmps146
      go_wp2_with fail
      all_goals first | (exfalso; omega) | skip
      refine (readingOf_any _ _ _ _ _ _ _ _ H).mono ?_
      rintro e w' ⟨rfl, hb⟩
      go_wp2_with fail
      go_ret
      exact ⟨rfl, hb⟩
    · rw [show clampI t = t from by unfold clampI; omega] at H
      go_enter Tryz.func146, Tryz.ntmps146
      go_wp2_with fail
      all_goals first | (exfalso; omega) | skip
      refine (readingOf_any _ _ _ _ _ _ _ _ H).mono ?_
      rintro e w' ⟨rfl, hb⟩
      go_wp2_with fail
      go_ret
      exact ⟨rfl, hb⟩
end Go.Proofs.YtfobjaccpnondaaGreatDoor
