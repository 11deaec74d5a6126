/- The date layer's functions on numbers. -/
import Derived.Test.YtdaiielhohdgiaaDoorKPlain
import Derived.Test.YtdaiielhohdgiaaDoorProg
import Derived.WalkKit
import Derived.WalkLawsBesides
import Derived.Lib.Hide
import Derived.Outline
import Derived.Deep.RegionHeld3
import Derived.Deep.QuietTactic
import Derived.BigQuiet
import Derived.IntWalk
namespace Go.Proofs.YtdaiielhohdgiaaDoor
open Go.RowKit

theorem ret_numD {a b : Int} (h : a = b) : Ending.returned (.int .i64 a) = .returned (.int .i64 b) := by rw [h]

theorem leaps_any (y : Int) (w : World) (h0 : 1970 ≤ y) (h1 : y ≤ 20000) :
    Calls Tryd.prog 68 #[.int .i64 y] w fun e w' => e = .returned (.int .i64 (leapsI y)) ∧ w = w' := by
  go_enter Tryd.func68, Tryd.ntmps68
  go_wp2_with fail
  go_ret
  exact ⟨ret_numD (by unfold leapsI; omega), rfl⟩
theorem ahead_any (y : Int) (w : World) (h0 : 1970 ≤ y) (h1 : y ≤ 20000) :
    Calls Tryd.prog 52 #[.int .i64 y] w fun e w' => e = .returned (.int .i64 (aheadI y)) ∧ w = w' := by
  have g0 : 0 ≤ leapsI y := by unfold leapsI; omega
  have g1 : leapsI y ≤ 20000 := by unfold leapsI; omega
  have g2 := leaps_1970
  go_enter Tryd.func52, Tryd.ntmps52
  go_wp2_with (go_at_call 68; refine (leaps_any _ _ (by omega) (by omega)).mono ?_; rintro e w' ⟨rfl, rfl⟩)
  go_ret
  exact ⟨ret_numD (by unfold aheadI; omega), rfl⟩
theorem dom_any (y m : Int) (w : World) (h0 : 1970 ≤ y) (h1 : y ≤ 19999) :
    Calls Tryd.prog 53 #[.int .i64 y, .int .i64 m] w fun e w' => e = .returned (.int .i64 (domI y m)) ∧ w = w' := by
  have g0 : 0 ≤ leapsI y := by unfold leapsI; omega
  have g1 : leapsI y ≤ 20000 := by unfold leapsI; omega
  have g2 : 0 ≤ leapsI (y + 1) := by unfold leapsI; omega
  have g3 : leapsI (y + 1) ≤ 20000 := by unfold leapsI; omega
  go_enter Tryd.func53, Tryd.ntmps53
  go_wp2_with (go_at_call 68; refine (leaps_any _ _ (by omega) (by omega)).mono ?_; rintro e w' ⟨rfl, rfl⟩)
  all_goals go_ret
  all_goals refine ⟨ret_numD ?_, rfl⟩
  all_goals simp_all [domI, lpI]
  all_goals omega
theorem wd_any (n : Int) (w : World) (h0 : 0 ≤ n) (h1 : n ≤ 9000000) :
    Calls Tryd.prog 51 #[.int .i64 n] w fun e w' => e = .returned (.int .i64 (wdI n)) ∧ w = w' := by
  go_enter Tryd.func51, Tryd.ntmps51
  go_wp2_with fail
  go_ret
  exact ⟨rfl, rfl⟩
end Go.Proofs.YtdaiielhohdgiaaDoor

/- The date layer's functions on dates: days, tick, valid. -/
namespace Go.Proofs.YtdaiielhohdgiaaDoor
open Go.RowKit

/-- a reading, as a row of cells -/
def rdRow (wd d m y h i s : Int) : Array Value := #[.int .i64 wd, .int .i64 d, .int .i64 m, .int .i64 y, .int .i64 h, .int .i64 i, .int .i64 s]

theorem below_drewN {B : Nat} {a w : World} (h : Below B a w) (n : Nat) : Below B a (w.drewN n) := ⟨h.os, h.tape, h.output, h.size, h.block⟩

set_option maxHeartbeats 1000000 in
theorem days_any (wd d m y h i s : Int) (w : World) (y0 : 1970 ≤ y) (y1 : y ≤ 9999) (m0 : 0 ≤ m) (m1 : m ≤ 11) (d0 : 0 ≤ d) (d1 : d ≤ 99) :
    Calls Tryd.prog 64 #[.agg #[.int .i64 wd, .int .i64 d, .int .i64 m, .int .i64 y, .int .i64 h, .int .i64 i, .int .i64 s]] w fun e w' => e = .returned (.int .i64 (aheadI y + cumI y m + d - 1)) ∧ Below w.heap.size w w' := by
  have a0 := ahead_lo y y0
  have a1 := ahead_hi y y0
  go_enter Tryd.func64, Tryd.ntmps64
  go_wp2_with fail
  go_quiet ((go_at_call 52; exact Calls.quiet_of_same ((ahead_any y _ y0 (by omega)).mono fun _ _ h => ⟨h.1, h.2.symm⟩)))
  go_wp2_with fail
  go_loop [3, 14] (fun n k => ∃ j : Int, 0 ≤ j ∧ j ≤ m ∧ k = .int .i64 j ∧ n = .int .i64 (aheadI y + cumI y j + d - 1)) (fun _ k => (m - intOf k).toNat)
  case atStart => exact ⟨0, by omega, m0, rfl, by rw [cum_zero, Int.add_zero]⟩
  case round =>
    obtain ⟨j, j0, j1, rfl, rfl⟩ := hrel
    have c := cum_bd y j0 (by omega)
    have l := lp_bd y
    have b := dom_bd y j
    by_cases hlt : j < m
    · have HC := Lib.hid (cum_succ y j0 (by omega))
      go_wp2_with (go_at_call 53; refine (dom_any _ _ _ (by omega) (by omega)).mono ?_; rintro e w' ⟨rfl, rfl⟩)
      go_round
      case rel => exact ⟨j + 1, by omega, by omega, rfl, by rw [HC.out]; congr 1; omega⟩
      case measure => simp [intOf]; omega
    · obtain rfl : j = m := by omega
      go_wp2_with fail
      go_ret
      exact ⟨rfl, below_drewN ((Below.refl _ _).alloc (Nat.le_refl _) _) _⟩

/-- of a world in the middle of a region: the reading's row stands at block b, and what lay below b is as it was -/
def RdAt (b : Nat) (row : Array Value) (w0 w : World) : Prop := w.heap[b]? = some (.cells row 68 (0, 0)) ∧ Below b w0 w
theorem RdAt.step {b : Nat} {row : Array Value} {w0 w w' : World} (h : RdAt b row w0 w) (hb : Below w.heap.size w w') : RdAt b row w0 w' := by
  have hlt : b < w.heap.size := (Array.getElem?_eq_some_iff.1 h.1).1
  exact ⟨(hb.block b hlt).trans h.1, h.2.trans (hb.mono (by omega))⟩
theorem RdAt.drew {b : Nat} {row : Array Value} {w0 w : World} (h : RdAt b row w0 w) : RdAt b row w0 w.drew := ⟨h.1, h.2.drew⟩
theorem RdAt.boxed (w : World) (row : Array Value) : RdAt w.heap.size row w (w.alloc (.cells row 68)) := by
  refine ⟨?_, (Below.refl _ _).alloc (Nat.le_refl _) _⟩
  show (w.heap.push _)[w.heap.size]? = _
  simp
theorem RdAt.cell {b : Nat} {row : Array Value} {w0 w : World} (h : RdAt b row w0 w) {k : Nat} {v : Value} (hv : row[k]? = some v) : w.cell? ⟨b, k, none⟩ = some v := by
  unfold World.cell?
  simp [h.1, hv]
theorem RdAt.all {b : Nat} {wd d m y h i s : Int} {w0 w : World} (H : RdAt b (rdRow wd d m y h i s) w0 w) :
    w.cell? ⟨b, 0, none⟩ = some (.int .i64 wd) ∧ w.cell? ⟨b, 1, none⟩ = some (.int .i64 d) ∧ w.cell? ⟨b, 2, none⟩ = some (.int .i64 m) ∧ w.cell? ⟨b, 3, none⟩ = some (.int .i64 y) ∧
    w.cell? ⟨b, 4, none⟩ = some (.int .i64 h) ∧ w.cell? ⟨b, 5, none⟩ = some (.int .i64 i) ∧ w.cell? ⟨b, 6, none⟩ = some (.int .i64 s) ∧ Hid (RdAt b (rdRow wd d m y h i s) w0 w) :=
  ⟨H.cell rfl, H.cell rfl, H.cell rfl, H.cell rfl, H.cell rfl, H.cell rfl, H.cell rfl, H⟩
theorem RdAt.un {b : Nat} {wd d m y h i s : Int} {w0 w : World} (H : w.cell? ⟨b, 0, none⟩ = some (.int .i64 wd) ∧ w.cell? ⟨b, 1, none⟩ = some (.int .i64 d) ∧ w.cell? ⟨b, 2, none⟩ = some (.int .i64 m) ∧ w.cell? ⟨b, 3, none⟩ = some (.int .i64 y) ∧
    w.cell? ⟨b, 4, none⟩ = some (.int .i64 h) ∧ w.cell? ⟨b, 5, none⟩ = some (.int .i64 i) ∧ w.cell? ⟨b, 6, none⟩ = some (.int .i64 s) ∧ Hid (RdAt b (rdRow wd d m y h i s) w0 w)) : RdAt b (rdRow wd d m y h i s) w0 w := H.2.2.2.2.2.2.2

set_option maxHeartbeats 1000000 in
theorem tick_any (wd d m y h i s : Int) (w : World) (y0 : 1970 ≤ y) (y1 : y ≤ 9999) (m0 : 0 ≤ m) (m1 : m ≤ 11) (d0 : 0 ≤ d) (d1 : d ≤ 99) (h0 : 0 ≤ h) (h1 : h ≤ 99) (i0 : 0 ≤ i) (i1 : i ≤ 99) (s0 : 0 ≤ s) (s1 : s ≤ 99) :
    Calls Tryd.prog 48 #[.agg #[.int .i64 wd, .int .i64 d, .int .i64 m, .int .i64 y, .int .i64 h, .int .i64 i, .int .i64 s]] w fun e w' => e = .returned (.int .i64 ((aheadI y + cumI y m + d - 1) * 86400 + (h * 3600 + i * 60 + s))) ∧ Below w.heap.size w w' := by
  have a0 := ahead_lo y y0
  have a1 := ahead_hi y y0
  have c := cum_bd y m0 (by omega)
  have l := lp_bd y
  go_enter Tryd.func48, Tryd.ntmps48
  go_wp2_with fail
  have HB := (RdAt.boxed w (rdRow wd d m y h i s)).drew.all
  go_region_held3 (fun w' => w'.cell? ⟨w.heap.size, 0, none⟩ = some (.int .i64 wd) ∧ w'.cell? ⟨w.heap.size, 1, none⟩ = some (.int .i64 d) ∧ w'.cell? ⟨w.heap.size, 2, none⟩ = some (.int .i64 m) ∧ w'.cell? ⟨w.heap.size, 3, none⟩ = some (.int .i64 y) ∧
    w'.cell? ⟨w.heap.size, 4, none⟩ = some (.int .i64 h) ∧ w'.cell? ⟨w.heap.size, 5, none⟩ = some (.int .i64 i) ∧ w'.cell? ⟨w.heap.size, 6, none⟩ = some (.int .i64 s) ∧ Hid (RdAt w.heap.size (rdRow wd d m y h i s) w w'))
    (first | exact HB | assumption)
    (first | (go_at_call 64; refine (days_any _ _ _ _ _ _ _ _ y0 y1 m0 m1 d0 d1).mono ?_; rintro e w' ⟨rfl, hb⟩; have HB2 := (RdAt.step (RdAt.un (b := w.heap.size) (w0 := w) (wd := wd) (d := d) (m := m) (y := y) (h := h) (i := i) (s := s) (by assumption)) hb).all))
  go_wp2_with fail
  go_ret
  have e1 := IntWalk.i64_in (h * 3600) (by omega)
  have e2 := IntWalk.i64_in (i * 60) (by omega)
  have e3 := IntWalk.i64_in (h * 3600 + i * 60) (by omega)
  have e4 := IntWalk.i64_in (h * 3600 + i * 60 + s) (by omega)
  have e5 := IntWalk.i64_in ((aheadI y + cumI y m + d - 1) * 86400) (by omega)
  have e6 := IntWalk.i64_in ((aheadI y + cumI y m + d - 1) * 86400 + (h * 3600 + i * 60 + s)) (by omega)
  exact ⟨ret_numD (by rw [e1, e2, e3, e4, e5, e6]), (RdAt.un HB2).2⟩

/-- a reading that may be a date -/
def validB (wd d m y h i s : Int) : Bool := decide (1970 ≤ y ∧ y ≤ 9999 ∧ 1 ≤ d ∧ d ≤ domI y m ∧ h ≤ 23 ∧ i ≤ 59 ∧ s ≤ 59 ∧ wd = wdI (aheadI y + cumI y m + d - 1))

set_option maxHeartbeats 2000000 in
theorem valid_no1 (wd d m y h i s : Int) (w : World) (c1 : ¬ 1970 ≤ y) :
    Calls Tryd.prog 47 #[.agg #[.int .i64 wd, .int .i64 d, .int .i64 m, .int .i64 y, .int .i64 h, .int .i64 i, .int .i64 s]] w fun e w' => e = .returned (.bool false) ∧ Below w.heap.size w w' := by
  have c1' : decide (1970 ≤ y) = false := decide_eq_false c1
  clear c1
  go_enter Tryd.func47, Tryd.ntmps47
  go_wp2_with fail
  go_quiet (fail)
  go_wp2_with fail
  go_ret
  exact ⟨rfl, below_drewN ((Below.refl _ _).alloc (Nat.le_refl _) _) _⟩
set_option maxHeartbeats 2000000 in
theorem valid_no2 (wd d m y h i s : Int) (w : World) (c1 : 1970 ≤ y) (c2 : ¬ y ≤ 9999) :
    Calls Tryd.prog 47 #[.agg #[.int .i64 wd, .int .i64 d, .int .i64 m, .int .i64 y, .int .i64 h, .int .i64 i, .int .i64 s]] w fun e w' => e = .returned (.bool false) ∧ Below w.heap.size w w' := by
  have c2' : decide (y ≤ 9999) = false := decide_eq_false c2
  clear c2
  go_enter Tryd.func47, Tryd.ntmps47
  go_wp2_with fail
  go_quiet (fail)
  go_wp2_with fail
  go_ret
  exact ⟨rfl, below_drewN ((Below.refl _ _).alloc (Nat.le_refl _) _) _⟩
set_option maxHeartbeats 2000000 in
theorem valid_no3 (wd d m y h i s : Int) (w : World) (c1 : 1970 ≤ y) (c2 : y ≤ 9999) (c3 : ¬ 1 ≤ d) :
    Calls Tryd.prog 47 #[.agg #[.int .i64 wd, .int .i64 d, .int .i64 m, .int .i64 y, .int .i64 h, .int .i64 i, .int .i64 s]] w fun e w' => e = .returned (.bool false) ∧ Below w.heap.size w w' := by
  have c3' : decide (1 ≤ d) = false := decide_eq_false c3
  clear c3
  go_enter Tryd.func47, Tryd.ntmps47
  go_wp2_with fail
  go_quiet (fail)
  go_wp2_with fail
  go_ret
  exact ⟨rfl, below_drewN ((Below.refl _ _).alloc (Nat.le_refl _) _) _⟩
set_option maxHeartbeats 2000000 in
theorem valid_no4 (wd d m y h i s : Int) (w : World) (c1 : 1970 ≤ y) (c2 : y ≤ 9999) (c3 : 1 ≤ d) (c4 : ¬ d ≤ domI y m) :
    Calls Tryd.prog 47 #[.agg #[.int .i64 wd, .int .i64 d, .int .i64 m, .int .i64 y, .int .i64 h, .int .i64 i, .int .i64 s]] w fun e w' => e = .returned (.bool false) ∧ Below w.heap.size w w' := by
  have c4' : decide (d ≤ domI y m) = false := decide_eq_false c4
  clear c4
  go_enter Tryd.func47, Tryd.ntmps47
  go_wp2_with fail
  go_quiet ((go_at_call 53; exact Calls.quiet_of_same ((dom_any y _ _ (by omega) (by omega)).mono fun _ _ h => ⟨h.1, h.2.symm⟩)))
  go_wp2_with fail
  go_ret
  exact ⟨rfl, below_drewN ((Below.refl _ _).alloc (Nat.le_refl _) _) _⟩
set_option maxHeartbeats 2000000 in
theorem valid_no5 (wd d m y h i s : Int) (w : World) (c1 : 1970 ≤ y) (c2 : y ≤ 9999) (c3 : 1 ≤ d) (c4 : d ≤ domI y m) (c5 : ¬ h ≤ 23) :
    Calls Tryd.prog 47 #[.agg #[.int .i64 wd, .int .i64 d, .int .i64 m, .int .i64 y, .int .i64 h, .int .i64 i, .int .i64 s]] w fun e w' => e = .returned (.bool false) ∧ Below w.heap.size w w' := by
  have c5' : decide (h ≤ 23) = false := decide_eq_false c5
  clear c5
  go_enter Tryd.func47, Tryd.ntmps47
  go_wp2_with fail
  go_quiet ((go_at_call 53; exact Calls.quiet_of_same ((dom_any y _ _ (by omega) (by omega)).mono fun _ _ h => ⟨h.1, h.2.symm⟩)))
  go_wp2_with fail
  go_ret
  exact ⟨rfl, below_drewN ((Below.refl _ _).alloc (Nat.le_refl _) _) _⟩
set_option maxHeartbeats 2000000 in
theorem valid_no6 (wd d m y h i s : Int) (w : World) (c1 : 1970 ≤ y) (c2 : y ≤ 9999) (c3 : 1 ≤ d) (c4 : d ≤ domI y m) (c5 : h ≤ 23) (c6 : ¬ i ≤ 59) :
    Calls Tryd.prog 47 #[.agg #[.int .i64 wd, .int .i64 d, .int .i64 m, .int .i64 y, .int .i64 h, .int .i64 i, .int .i64 s]] w fun e w' => e = .returned (.bool false) ∧ Below w.heap.size w w' := by
  have c6' : decide (i ≤ 59) = false := decide_eq_false c6
  clear c6
  go_enter Tryd.func47, Tryd.ntmps47
  go_wp2_with fail
  go_quiet ((go_at_call 53; exact Calls.quiet_of_same ((dom_any y _ _ (by omega) (by omega)).mono fun _ _ h => ⟨h.1, h.2.symm⟩)))
  go_wp2_with fail
  go_ret
  exact ⟨rfl, below_drewN ((Below.refl _ _).alloc (Nat.le_refl _) _) _⟩
set_option maxHeartbeats 2000000 in
theorem valid_no7 (wd d m y h i s : Int) (w : World) (c1 : 1970 ≤ y) (c2 : y ≤ 9999) (c3 : 1 ≤ d) (c4 : d ≤ domI y m) (c5 : h ≤ 23) (c6 : i ≤ 59) (c7 : ¬ s ≤ 59) :
    Calls Tryd.prog 47 #[.agg #[.int .i64 wd, .int .i64 d, .int .i64 m, .int .i64 y, .int .i64 h, .int .i64 i, .int .i64 s]] w fun e w' => e = .returned (.bool false) ∧ Below w.heap.size w w' := by
  have c7' : decide (s ≤ 59) = false := decide_eq_false c7
  clear c7
  go_enter Tryd.func47, Tryd.ntmps47
  go_wp2_with fail
  go_quiet ((go_at_call 53; exact Calls.quiet_of_same ((dom_any y _ _ (by omega) (by omega)).mono fun _ _ h => ⟨h.1, h.2.symm⟩)))
  go_wp2_with fail
  go_ret
  exact ⟨rfl, below_drewN ((Below.refl _ _).alloc (Nat.le_refl _) _) _⟩
set_option maxHeartbeats 2000000 in
theorem valid_yes (wd d m y h i s : Int) (w : World) (c1 : 1970 ≤ y) (c2 : y ≤ 9999) (c3 : 1 ≤ d) (c4 : d ≤ domI y m) (c5 : h ≤ 23) (c6 : i ≤ 59) (c7 : s ≤ 59) (m0 : 0 ≤ m) (m1 : m ≤ 11) :
    Calls Tryd.prog 47 #[.agg #[.int .i64 wd, .int .i64 d, .int .i64 m, .int .i64 y, .int .i64 h, .int .i64 i, .int .i64 s]] w fun e w' => e = .returned (.bool (wd == wdI (aheadI y + cumI y m + d - 1))) ∧ Below w.heap.size w w' := by
  have a0 := ahead_lo y c1
  have a1 := ahead_hi y c1
  have cb := cum_bd y m0 (by omega)
  have l := lp_bd y
  have db := dom_bd y m
  go_enter Tryd.func47, Tryd.ntmps47
  go_wp2_with fail
  have HB := (RdAt.boxed w (rdRow wd d m y h i s)).drew.all
  go_region_held3 (fun w' => w'.cell? ⟨w.heap.size, 0, none⟩ = some (.int .i64 wd) ∧ w'.cell? ⟨w.heap.size, 1, none⟩ = some (.int .i64 d) ∧ w'.cell? ⟨w.heap.size, 2, none⟩ = some (.int .i64 m) ∧ w'.cell? ⟨w.heap.size, 3, none⟩ = some (.int .i64 y) ∧
    w'.cell? ⟨w.heap.size, 4, none⟩ = some (.int .i64 h) ∧ w'.cell? ⟨w.heap.size, 5, none⟩ = some (.int .i64 i) ∧ w'.cell? ⟨w.heap.size, 6, none⟩ = some (.int .i64 s) ∧ Hid (RdAt w.heap.size (rdRow wd d m y h i s) w w'))
    (first | exact HB | assumption)
    (first
      | (go_at_call 53; refine (dom_any y m _ (by omega) (by omega)).mono ?_; rintro e w' ⟨rfl, rfl⟩)
      | (go_at_call 51; refine (wd_any _ _ (by omega) (by omega)).mono ?_; rintro e w' ⟨rfl, rfl⟩)
      | (go_at_call 64; refine (days_any _ _ _ _ _ _ _ _ c1 c2 m0 m1 (by omega) (by omega)).mono ?_; rintro e w' ⟨rfl, hb⟩; have HB2 := (RdAt.step (RdAt.un (b := w.heap.size) (w0 := w) (wd := wd) (d := d) (m := m) (y := y) (h := h) (i := i) (s := s) (by assumption)) hb).all))
  go_wp2_with fail
  go_ret
  exact ⟨rfl, (RdAt.un (by assumption)).2⟩

theorem valid_any (wd d m y h i s : Int) (w : World) (m0 : 0 ≤ m) (m1 : m ≤ 11) :
    Calls Tryd.prog 47 #[.agg #[.int .i64 wd, .int .i64 d, .int .i64 m, .int .i64 y, .int .i64 h, .int .i64 i, .int .i64 s]] w fun e w' => e = .returned (.bool (validB wd d m y h i s)) ∧ Below w.heap.size w w' := by
  unfold validB
  by_cases c1 : 1970 ≤ y
  case neg => rw [decide_eq_false (by omega)]; exact valid_no1 wd d m y h i s w c1
  by_cases c2 : y ≤ 9999
  case neg => rw [decide_eq_false (by omega)]; exact valid_no2 wd d m y h i s w c1 c2
  by_cases c3 : 1 ≤ d
  case neg => rw [decide_eq_false (by omega)]; exact valid_no3 wd d m y h i s w c1 c2 c3
  by_cases c4 : d ≤ domI y m
  case neg => rw [decide_eq_false (by omega)]; exact valid_no4 wd d m y h i s w c1 c2 c3 c4
  by_cases c5 : h ≤ 23
  case neg => rw [decide_eq_false (by omega)]; exact valid_no5 wd d m y h i s w c1 c2 c3 c4 c5
  by_cases c6 : i ≤ 59
  case neg => rw [decide_eq_false (by omega)]; exact valid_no6 wd d m y h i s w c1 c2 c3 c4 c5 c6
  by_cases c7 : s ≤ 59
  case neg => rw [decide_eq_false (by omega)]; exact valid_no7 wd d m y h i s w c1 c2 c3 c4 c5 c6 c7
  have e : decide (1970 ≤ y ∧ y ≤ 9999 ∧ 1 ≤ d ∧ d ≤ domI y m ∧ h ≤ 23 ∧ i ≤ 59 ∧ s ≤ 59 ∧ wd = wdI (aheadI y + cumI y m + d - 1)) = (wd == wdI (aheadI y + cumI y m + d - 1)) := by
    rw [Bool.eq_iff_iff]; simp [c1, c2, c3, c4, c5, c6, c7]
  rw [e]
  exact valid_yes wd d m y h i s w c1 c2 c3 c4 c5 c6 c7 m0 m1
end Go.Proofs.YtdaiielhohdgiaaDoor
