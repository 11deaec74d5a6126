/- The date of a tick: readingOf, yearOf. -/
import Derived.Test.YtdaiielhohdgiaaDoorKDateA
import Derived.Deep.LoopGhost
namespace Go.Proofs.YtdaiielhohdgiaaDoor
open Go.RowKit

/-- two blocks: the result's, and the reading in the making -/
def twoRows (w : World) (wd d m y h i s : Int) : World := (w.alloc (.cells (rdRow 0 0 0 0 0 0 0) 68)).alloc (.cells (rdRow wd d m y h i s) 68)

set_option maxHeartbeats 4000000 in
theorem readingOf_any (t y m d h i s : Int) (w : World) (H : IsT t y m d h i s) :
    Calls Tryd.prog 31 #[.int .i64 t] w fun e w' => e = .returned (.agg #[.int .i64 (wdI (t / 86400)), .int .i64 d, .int .i64 m, .int .i64 y, .int .i64 h, .int .i64 i, .int .i64 s]) ∧ Below w.heap.size w w' := by
  obtain ⟨t0, t1⟩ := H.bd
  obtain ⟨n0, n1⟩ := H.1.bd
  obtain ⟨q0, q1⟩ := H.1.in_year
  obtain ⟨r0, r1⟩ := H.1.in_month
  obtain ⟨hD, eh, ei, es⟩ := H
  obtain ⟨y0, y1, m0, m1, d0, d1, hd⟩ := hD
  obtain ⟨k, hk⟩ : ∃ k, t % 86400 = k := ⟨_, rfl⟩
  obtain ⟨n, hn⟩ : ∃ n, t / 86400 = n := ⟨_, rfl⟩
  have k0 : 0 ≤ k := by omega
  have k1 : k < 86400 := by omega
  have es' : s = k % 60 := by omega
  rw [hk] at eh ei
  rw [hn] at n0 n1 q0 q1 r0 r1 hd ⊢
  clear es
  subst eh ei es'
  have HN := Lib.hid hd
  clear hd
  have g := ahead_lo y y0
  have hg : y ≤ 1970 + n / 365 := by omega
  go_enter Tryd.func31, Tryd.ntmps31
  go_wp2_with (go_at_call 51; refine (wd_any _ _ (by omega) (by omega)).mono ?_; rintro e w' ⟨rfl, rfl⟩)
  clear hk hn
  go_loopg [] ((1970 + n / 365 - y).toNat) (fun c wr => wr = twoRows w (wdI n) 0 0 (y + (c : Int)) (k / 3600) (k / 60 % 60) (k % 60) ∧ (c : Int) ≤ 1970 + n / 365 - y)
  case atStart => exact ⟨by rw [show y + (((1970 + n / 365 - y).toNat : Nat) : Int) = 1970 + n / 365 from by omega]; rfl, by omega⟩
  case round =>
    obtain ⟨hw, hc⟩ := hrel
    subst hw
    unfold twoRows rdRow
    rcases Nat.eq_zero_or_pos gk with hz | hz
    · subst hz
      go_wp2_with (go_at_call 52; refine (ahead_any _ _ (by omega) (by omega)).mono ?_; rintro e w' ⟨rfl, rfl⟩)
      go_loopg [3] (m.toNat) (fun c v wr => ∃ j : Int, 0 ≤ j ∧ j + (c : Int) = m ∧ v = .int .i64 (n - aheadI y - cumI y j) ∧ wr = twoRows w (wdI n) 0 j y (k / 3600) (k / 60 % 60) (k % 60))
      case atStart => exact ⟨0, by omega, by omega, by rw [cum_zero, Int.sub_zero], rfl⟩
      case round =>
        obtain ⟨j, j0, j1, rfl, hw⟩ := hrel
        subst hw
        unfold twoRows rdRow
        have cb := cum_bd y j0 (by omega)
        have db := dom_bd y j
        have lb := lp_bd y
        rcases Nat.eq_zero_or_pos gk with hz | hz
        · subst hz
          obtain rfl : j = m := by omega
          have hlt : n - aheadI y - cumI y j < domI y j := by
            have := cum_succ y j0 m1
            omega
          go_wp2_with (go_at_call 53; refine (dom_any _ _ _ (by omega) (by omega)).mono ?_; rintro e w' ⟨rfl, rfl⟩)
          have e : n - aheadI y - cumI y j + 1 = d := by have := HN.out; omega
          rw [← e]
          refine bodyPost_ret (v := .agg #[.int .i64 (wdI n), .int .i64 (n - aheadI y - cumI y j + 1), .int .i64 j, .int .i64 y, .int .i64 (k / 3600), .int .i64 (k / 60 % 60), .int .i64 (k % 60)]) (by simp [results, Tryd.results31, go_sem]) rfl ⟨rfl, ?_⟩
          exact (((Below.refl _ _).alloc (Nat.le_refl _) _).alloc (by simp) _)
        · have hge : domI y j ≤ n - aheadI y - cumI y j := by
            have h1 := cum_succ y j0 (by omega)
            have h2 := cum_mono y j0 (show j < m by omega) (by omega)
            omega
          have HC := Lib.hid (cum_succ y j0 (by omega))
          go_wp2_with (go_at_call 53; refine (dom_any _ _ _ (by omega) (by omega)).mono ?_; rintro e w' ⟨rfl, rfl⟩)
          go_roundg (gk - 1)
          case rel => exact ⟨j + 1, by omega, by omega, by rw [HC.out, Int.sub_sub], rfl⟩
          case measure => omega
    · have hgt : n < aheadI (y + (gk : Int)) := by
        have : aheadI (y + 1) ≤ aheadI (y + (gk : Int)) := by
          by_cases e : gk = 1
          · subst e; exact Int.le_refl _
          · have h1 := ahead_mono (show y < y + (gk : Int) by omega)
            exact h1
        omega
      go_wp2_with (go_at_call 52; refine (ahead_any _ _ (by omega) (by omega)).mono ?_; rintro e w' ⟨rfl, rfl⟩)
      go_roundg (gk - 1)
      case rel => exact ⟨by rw [show y + ((gk - 1 : Nat) : Int) = y + (gk : Int) - 1 from by omega]; rfl, by omega⟩
      case measure => omega

end Go.Proofs.YtdaiielhohdgiaaDoor

/- The year of now. -/
namespace Go.Proofs.YtdaiielhohdgiaaDoor
open Go.RowKit

/-- the valid tick nearest to t -/
def clampI (t : Int) : Int := min (max t 0) 253402300799
theorem clamp_bd (t : Int) : 0 ≤ clampI t ∧ clampI t ≤ 253402300799 := by unfold clampI; omega
theorem field_year (a0 a1 a2 a3 a4 a5 a6 : Int) (w : World) : (Instr.field 68 (.agg #[.int .i64 a0, .int .i64 a1, .int .i64 a2, .int .i64 a3, .int .i64 a4, .int .i64 a5, .int .i64 a6]) 3).run Tryd.prog w = .ok (.int .i64 a3) w := by kernel_rfl
set_option maxRecDepth 100000 in
set_option maxHeartbeats 1000000 in
theorem yearOf_any (t y m d h i s : Int) (w : World) (H : IsT (clampI t) y m d h i s) :
    Calls Tryd.prog 45 #[.int .i64 t] w fun e w' => e = .returned (.int .i64 y) ∧ Below w.heap.size w w' := by
  have hf := field_year
  rcases Int.lt_or_le t 0 with g | g
  · rw [show clampI t = 0 from by unfold clampI; omega] at H
    go_enter Tryd.func45, Tryd.ntmps45
    go_wp2_with fail
    all_goals first | (exfalso; omega) | skip
    refine (readingOf_any _ _ _ _ _ _ _ _ H).mono ?_
    rintro e w' ⟨rfl, hb⟩
    go_wp2_with fail
    go_ret
    exact ⟨rfl, hb⟩
  · rcases Int.lt_or_le 253402300799 t with k | k
    · rw [show clampI t = 253402300799 from by unfold clampI; omega] at H
      go_enter Tryd.func45, Tryd.ntmps45
      go_wp2_with fail
      all_goals first | (exfalso; omega) | skip
      refine (readingOf_any _ _ _ _ _ _ _ _ H).mono ?_
      rintro e w' ⟨rfl, hb⟩
      go_wp2_with fail
      go_ret
      exact ⟨rfl, hb⟩
    · rw [show clampI t = t from by unfold clampI; omega] at H
      go_enter Tryd.func45, Tryd.ntmps45
      go_wp2_with fail
      all_goals first | (exfalso; omega) | skip
      refine (readingOf_any _ _ _ _ _ _ _ _ H).mono ?_
      rintro e w' ⟨rfl, hb⟩
      go_wp2_with fail
      go_ret
      exact ⟨rfl, hb⟩
end Go.Proofs.YtdaiielhohdgiaaDoor
