/- The document's calendar: Leap, Days, Count, Of. -/
import Derived.Test.YtfobjaccpnondaaGreatDoorKDateQ
namespace Go.Proofs.YtfobjaccpnondaaGreatDoor
open Go.RowKit

theorem step_div (y : Int) (k : Int) (hk : k = 4 ∨ k = 100 ∨ k = 400) : y / k - (y - 1) / k = if y % k = 0 then 1 else 0 := by
  rcases hk with rfl | rfl | rfl <;> split <;> omega
theorem lp_if (y : Int) : lpI y = (if y % 4 = 0 then 1 else 0) - (if y % 100 = 0 then 1 else 0) + (if y % 400 = 0 then 1 else 0) := by
  have a := step_div y 4 (by simp)
  have b := step_div y 100 (by simp)
  have c := step_div y 400 (by simp)
  unfold lpI leapsI
  rw [show y + 1 - 1 = y from by omega, ← a, ← b, ← c]
  omega
theorem lp_key (y : Int) : (lpI y == 1) = (y % 400 == 0 || (y % 4 == 0 && !(y % 100 == 0))) := by
  rw [lp_if]
  by_cases a : y % 400 = 0
  · have b : y % 4 = 0 := by omega
    have c : y % 100 = 0 := by omega
    simp [a, b, c]
  · by_cases b : y % 4 = 0
    · by_cases c : y % 100 = 0
      · simp [a, b, c]
      · simp [a, b, c]
    · have c : ¬ y % 100 = 0 := by omega
      simp [a, b, c]
theorem rleap_any (y : Int) (w : World) (h0 : 0 ≤ y) (h1 : y ≤ 20000) :
    Calls Tryz.prog 152 #[.int .i64 y] w fun e w' => e = .returned (.bool (lpI y == 1)) ∧ w = w' := by
  have key := lp_key y
  rw [key]
  cases a : (y % 400 == 0) <;> cases b : (y % 4 == 0) <;> cases c : (y % 100 == 0)
  all_goals
    have c2 : (y % 100 != 0) = !(y % 100 == 0) := rfl
    rw [c] at c2
    simp only [Bool.not_true, Bool.not_false] at c2
    go_enter Tryz.func152, Tryz.ntmps152
    go_wp2_with fail
    go_ret
    exact ⟨rfl, rfl⟩

def domRow : Array Value := #[.int .i64 31, .int .i64 28, .int .i64 31, .int .i64 30, .int .i64 31, .int .i64 30, .int .i64 31, .int .i64 31, .int .i64 30, .int .i64 31, .int .i64 30, .int .i64 31]
set_option maxHeartbeats 2000000 in
theorem rdays_any (y m : Int) (w : World) (y0 : 0 ≤ y) (y1 : y ≤ 19999) (m0 : 0 ≤ m) (m1 : m ≤ 11) :
    Calls Tryz.prog 108 #[.int .i64 y, .int .i64 (m + 1)] w fun e w' => e = .returned (.int .i64 (domI y m)) ∧ Below w.heap.size w w' := by
  have l := lp_bd y
  rcases month_cases m0 m1 with rfl | rfl | rfl | rfl | rfl | rfl | rfl | rfl | rfl | rfl | rfl | rfl
  case inr.inl =>
    rcases (show lpI y = 0 ∨ lpI y = 1 by omega) with h | h
    · have hb : (lpI y == 1) = false := by rw [h]; rfl
      have HD : Hid (domI y 1 = 28) := by show _ = _; unfold domI; rw [if_pos rfl, h]; rfl
      clear h
      go_enter Tryz.func108, Tryz.ntmps108
      go_wp2_with (go_at_call 152; refine (rleap_any _ _ y0 (by omega)).mono ?_; rintro e w' ⟨rfl, rfl⟩)
      go_ret
      exact ⟨ret_numD HD.out.symm, (Below.refl _ _).alloc (Nat.le_refl _) _⟩
    · have hb : (lpI y == 1) = true := by rw [h]; rfl
      have HD : Hid (domI y 1 = 29) := by show _ = _; unfold domI; rw [if_pos rfl, h]; rfl
      clear h
      go_enter Tryz.func108, Tryz.ntmps108
      go_wp2_with (go_at_call 152; refine (rleap_any _ _ y0 (by omega)).mono ?_; rintro e w' ⟨rfl, rfl⟩)
      go_ret
      exact ⟨ret_numD HD.out.symm, (Below.refl _ _).alloc (Nat.le_refl _) _⟩
  all_goals
    go_enter Tryz.func108, Tryz.ntmps108
    go_wp2_with (go_at_call 152; refine (rleap_any _ _ y0 (by omega)).mono ?_; rintro e w' ⟨rfl, rfl⟩)
    go_ret
    exact ⟨ret_numD (by unfold domI; rfl), (Below.refl _ _).alloc (Nat.le_refl _) _⟩

end Go.Proofs.YtfobjaccpnondaaGreatDoor
