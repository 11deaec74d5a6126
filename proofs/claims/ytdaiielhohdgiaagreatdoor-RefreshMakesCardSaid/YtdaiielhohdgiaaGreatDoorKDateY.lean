/- The document's May: where it says no early. -/
import Derived.Test.YtdaiielhohdgiaaGreatDoorKDateM
namespace Go.Proofs.YtdaiielhohdgiaaGreatDoor
open Go.RowKit

theorem rdays2_any (y m : Int) (w : World) (y0 : 0 ≤ y) (y1 : y ≤ 19999) (m0 : 1 ≤ m) (m1 : m ≤ 12) :
    Calls Tryz.prog 82 #[.int .i64 y, .int .i64 m] w fun e w' => e = .returned (.int .i64 (domI y (m - 1))) ∧ Below w.heap.size w w' := by
  have := rdays_any y (m - 1) w y0 y1 (by omega) (by omega)
  rwa [Int.sub_add_cancel] at this
set_option maxRecDepth 100000 in
set_option maxHeartbeats 8000000 in
theorem rmay_no1 (y m d h i s : Int) (w : World) (n1 : ¬ 1970 ≤ y) :
    Calls Tryz.prog 50 #[.agg #[.int .i64 y, .int .i64 m, .int .i64 d, .int .i64 h, .int .i64 i, .int .i64 s]] w fun e w' => e = .returned (.bool false) ∧ Below w.heap.size w w' := by
  have n1' : decide (1970 ≤ y) = false := decide_eq_false n1
  clear n1
  go_enter Tryz.func50, Tryz.ntmps50
  go_wp2_with fail
  go_quiet (fail)
  go_wp2_with fail
  go_ret
  exact ⟨rfl, below_drewN ((Below.refl _ _).alloc (Nat.le_refl _) _) _⟩

set_option maxRecDepth 100000 in
set_option maxHeartbeats 8000000 in
theorem rmay_no2 (y m d h i s : Int) (w : World) (c1 : 1970 ≤ y) (n2 : ¬ y ≤ 9999) :
    Calls Tryz.prog 50 #[.agg #[.int .i64 y, .int .i64 m, .int .i64 d, .int .i64 h, .int .i64 i, .int .i64 s]] w fun e w' => e = .returned (.bool false) ∧ Below w.heap.size w w' := by
  have n2' : decide (y ≤ 9999) = false := decide_eq_false n2
  clear n2
  go_enter Tryz.func50, Tryz.ntmps50
  go_wp2_with fail
  go_quiet (fail)
  go_wp2_with fail
  go_ret
  exact ⟨rfl, below_drewN ((Below.refl _ _).alloc (Nat.le_refl _) _) _⟩

set_option maxRecDepth 100000 in
set_option maxHeartbeats 8000000 in
theorem rmay_no3 (y m d h i s : Int) (w : World) (c1 : 1970 ≤ y) (c2 : y ≤ 9999) (n3 : ¬ 1 ≤ m) :
    Calls Tryz.prog 50 #[.agg #[.int .i64 y, .int .i64 m, .int .i64 d, .int .i64 h, .int .i64 i, .int .i64 s]] w fun e w' => e = .returned (.bool false) ∧ Below w.heap.size w w' := by
  have n3' : decide (1 ≤ m) = false := decide_eq_false n3
  clear n3
  go_enter Tryz.func50, Tryz.ntmps50
  go_wp2_with fail
  go_quiet (fail)
  go_wp2_with fail
  go_ret
  exact ⟨rfl, below_drewN ((Below.refl _ _).alloc (Nat.le_refl _) _) _⟩

set_option maxRecDepth 100000 in
set_option maxHeartbeats 8000000 in
theorem rmay_no4 (y m d h i s : Int) (w : World) (c1 : 1970 ≤ y) (c2 : y ≤ 9999) (c3 : 1 ≤ m) (n4 : ¬ m ≤ 12) :
    Calls Tryz.prog 50 #[.agg #[.int .i64 y, .int .i64 m, .int .i64 d, .int .i64 h, .int .i64 i, .int .i64 s]] w fun e w' => e = .returned (.bool false) ∧ Below w.heap.size w w' := by
  have n4' : decide (m ≤ 12) = false := decide_eq_false n4
  clear n4
  go_enter Tryz.func50, Tryz.ntmps50
  go_wp2_with fail
  go_quiet (fail)
  go_wp2_with fail
  go_ret
  exact ⟨rfl, below_drewN ((Below.refl _ _).alloc (Nat.le_refl _) _) _⟩

set_option maxRecDepth 100000 in
set_option maxHeartbeats 8000000 in
theorem rmay_no5 (y m d h i s : Int) (w : World) (c1 : 1970 ≤ y) (c2 : y ≤ 9999) (c3 : 1 ≤ m) (c4 : m ≤ 12) (n5 : ¬ 1 ≤ d) :
    Calls Tryz.prog 50 #[.agg #[.int .i64 y, .int .i64 m, .int .i64 d, .int .i64 h, .int .i64 i, .int .i64 s]] w fun e w' => e = .returned (.bool false) ∧ Below w.heap.size w w' := by
  have n5' : decide (1 ≤ d) = false := decide_eq_false n5
  clear n5
  go_enter Tryz.func50, Tryz.ntmps50
  go_wp2_with fail
  go_quiet (fail)
  go_wp2_with fail
  go_ret
  exact ⟨rfl, below_drewN ((Below.refl _ _).alloc (Nat.le_refl _) _) _⟩

set_option maxRecDepth 100000 in
set_option maxHeartbeats 8000000 in
theorem rmay_no6 (y m d h i s : Int) (w : World) (c1 : 1970 ≤ y) (c2 : y ≤ 9999) (c3 : 1 ≤ m) (c4 : m ≤ 12) (c5 : 1 ≤ d) (n6 : ¬ d ≤ domI y (m - 1)) :
    Calls Tryz.prog 50 #[.agg #[.int .i64 y, .int .i64 m, .int .i64 d, .int .i64 h, .int .i64 i, .int .i64 s]] w fun e w' => e = .returned (.bool false) ∧ Below w.heap.size w w' := by
  have n6' : decide (d ≤ domI y (m - 1)) = false := decide_eq_false n6
  clear n6
  go_enter Tryz.func50, Tryz.ntmps50
  go_wp2_with fail
  have HP : Hid ((w.alloc (.cells (dtRow y m d h i s) 84)).drew.heap[w.heap.size]? = some (.cells (dtRow y m d h i s) 84 (0, 0))) := alloc_self _ _ _
  have HD0 : Hid (Below w.heap.size w (w.alloc (.cells (dtRow y m d h i s) 84)).drew) := ((Below.refl _ _).alloc (Nat.le_refl _) _).drew
  refine wp_region_growL [(0, false), (1, false), (2, false), (3, false), (4, false), (5, false), (6, false), (7, false), (8, false), (9, false), (10, false), (11, false), (12, false), (13, false), (14, false), (15, false), (16, false), (17, false), (18, false), (19, false), (20, false), (21, false), (22, false), (23, false), (24, false), (25, false), (26, false), (27, false), (28, false), (29, false), (30, true), (31, false), (32, false), (33, false), (34, false), (35, false), (36, false), (37, false), (38, false), (39, false), (40, false), (41, false), (42, false), (43, false), (44, false), (45, false), (46, false), (47, false), (48, false), (49, false), (50, false), (51, false), (52, false), (53, false), (54, false), (55, false), (56, false), (57, false), (58, false), (59, false), (60, false), (61, false), (62, false), (63, false)] (by kernel_rfl) (by kernel_rfl) rfl (by kernel_rfl) (by kernel_rfl) (fun ops hops => ?_)
  simp only [inOrder, List.getD_cons_zero, List.getD_cons_succ]
  have g3 : (ops[3]?).bind (·.dst) = some 6 := by rw [hops.out]; rfl
  have g8 : (ops[8]?).bind (·.dst) = some 11 := by rw [hops.out]; rfl
  have g13 : (ops[13]?).bind (·.dst) = some 16 := by rw [hops.out]; rfl
  have g18 : (ops[18]?).bind (·.dst) = some 21 := by rw [hops.out]; rfl
  have g23 : (ops[23]?).bind (·.dst) = some 26 := by rw [hops.out]; rfl
  have g33 : (ops[33]?).bind (·.dst) = some 36 := by rw [hops.out]; rfl
  have g38 : (ops[38]?).bind (·.dst) = some 41 := by rw [hops.out]; rfl
  have g43 : (ops[43]?).bind (·.dst) = some 46 := by rw [hops.out]; rfl
  have g48 : (ops[48]?).bind (·.dst) = some 51 := by rw [hops.out]; rfl
  have g53 : (ops[53]?).bind (·.dst) = some 56 := by rw [hops.out]; rfl
  have g58 : (ops[58]?).bind (·.dst) = some 61 := by rw [hops.out]; rfl
  clear hops
  refine growL_take (by rfl) ?_
  apply Exists.intro
  refine ⟨fun w' hE => ?_, ?_⟩
  · obtain ⟨k0, k1, k2, k3, k4, k5⟩ := dt_at HP.out hE
    go_simp
    try with_reducible rfl
  simp only [Act.put, List.setIfInBounds_toArray, List.set_cons_zero, List.set_cons_succ]
  refine growL_take (by rfl) ?_
  apply Exists.intro
  refine ⟨fun w' hE => ?_, ?_⟩
  · obtain ⟨k0, k1, k2, k3, k4, k5⟩ := dt_at HP.out hE
    go_simp
    try with_reducible rfl
  simp only [Act.put, List.setIfInBounds_toArray, List.set_cons_zero, List.set_cons_succ]
  refine growL_take (by rfl) ?_
  apply Exists.intro
  refine ⟨fun w' hE => ?_, ?_⟩
  · obtain ⟨k0, k1, k2, k3, k4, k5⟩ := dt_at HP.out hE
    go_simp
    try with_reducible rfl
  simp only [Act.put, List.setIfInBounds_toArray, List.set_cons_zero, List.set_cons_succ]
  refine growL_take (by rfl) ?_
  apply Exists.intro
  refine ⟨fun w' hE => ?_, ?_⟩
  · obtain ⟨k0, k1, k2, k3, k4, k5⟩ := dt_at HP.out hE
    go_simp
    try with_reducible rfl
  simp only [Act.put, List.setIfInBounds_toArray, List.set_cons_zero, List.set_cons_succ]
  refine growL_take (wanted_of g3 rfl rfl) ?_
  apply Exists.intro
  refine ⟨fun w' hE => ?_, ?_⟩
  · obtain ⟨k0, k1, k2, k3, k4, k5⟩ := dt_at HP.out hE
    go_simp
    try with_reducible rfl
  simp only [Act.put, List.setIfInBounds_toArray, List.set_cons_zero, List.set_cons_succ]
  refine growL_take (wanted_of g3 rfl rfl) ?_
  apply Exists.intro
  refine ⟨fun w' hE => ?_, ?_⟩
  · obtain ⟨k0, k1, k2, k3, k4, k5⟩ := dt_at HP.out hE
    go_simp
    try with_reducible rfl
  simp only [Act.put, List.setIfInBounds_toArray, List.set_cons_zero, List.set_cons_succ]
  refine growL_take (wanted_of g3 rfl rfl) ?_
  apply Exists.intro
  refine ⟨fun w' hE => ?_, ?_⟩
  · obtain ⟨k0, k1, k2, k3, k4, k5⟩ := dt_at HP.out hE
    go_simp
    try with_reducible rfl
  simp only [Act.put, List.setIfInBounds_toArray, List.set_cons_zero, List.set_cons_succ]
  refine growL_take (by rfl) ?_
  apply Exists.intro
  refine ⟨fun w' hE => ?_, ?_⟩
  · obtain ⟨k0, k1, k2, k3, k4, k5⟩ := dt_at HP.out hE
    go_simp
    try with_reducible rfl
  simp only [Act.put, List.setIfInBounds_toArray, List.set_cons_zero, List.set_cons_succ]
  refine growL_take (by rfl) ?_
  apply Exists.intro
  refine ⟨fun w' hE => ?_, ?_⟩
  · obtain ⟨k0, k1, k2, k3, k4, k5⟩ := dt_at HP.out hE
    go_simp
    try with_reducible rfl
  simp only [Act.put, List.setIfInBounds_toArray, List.set_cons_zero, List.set_cons_succ]
  refine growL_take (wanted_of g8 rfl rfl) ?_
  apply Exists.intro
  refine ⟨fun w' hE => ?_, ?_⟩
  · obtain ⟨k0, k1, k2, k3, k4, k5⟩ := dt_at HP.out hE
    go_simp
    try with_reducible rfl
  simp only [Act.put, List.setIfInBounds_toArray, List.set_cons_zero, List.set_cons_succ]
  refine growL_take (wanted_of g8 rfl rfl) ?_
  apply Exists.intro
  refine ⟨fun w' hE => ?_, ?_⟩
  · obtain ⟨k0, k1, k2, k3, k4, k5⟩ := dt_at HP.out hE
    go_simp
    try with_reducible rfl
  simp only [Act.put, List.setIfInBounds_toArray, List.set_cons_zero, List.set_cons_succ]
  refine growL_take (wanted_of g8 rfl rfl) ?_
  apply Exists.intro
  refine ⟨fun w' hE => ?_, ?_⟩
  · obtain ⟨k0, k1, k2, k3, k4, k5⟩ := dt_at HP.out hE
    go_simp
    try with_reducible rfl
  simp only [Act.put, List.setIfInBounds_toArray, List.set_cons_zero, List.set_cons_succ]
  refine growL_take (by rfl) ?_
  apply Exists.intro
  refine ⟨fun w' hE => ?_, ?_⟩
  · obtain ⟨k0, k1, k2, k3, k4, k5⟩ := dt_at HP.out hE
    go_simp
    try with_reducible rfl
  simp only [Act.put, List.setIfInBounds_toArray, List.set_cons_zero, List.set_cons_succ]
  refine growL_take (by rfl) ?_
  apply Exists.intro
  refine ⟨fun w' hE => ?_, ?_⟩
  · obtain ⟨k0, k1, k2, k3, k4, k5⟩ := dt_at HP.out hE
    go_simp
    try with_reducible rfl
  simp only [Act.put, List.setIfInBounds_toArray, List.set_cons_zero, List.set_cons_succ]
  refine growL_take (wanted_of g13 rfl rfl) ?_
  apply Exists.intro
  refine ⟨fun w' hE => ?_, ?_⟩
  · obtain ⟨k0, k1, k2, k3, k4, k5⟩ := dt_at HP.out hE
    go_simp
    try with_reducible rfl
  simp only [Act.put, List.setIfInBounds_toArray, List.set_cons_zero, List.set_cons_succ]
  refine growL_take (wanted_of g13 rfl rfl) ?_
  apply Exists.intro
  refine ⟨fun w' hE => ?_, ?_⟩
  · obtain ⟨k0, k1, k2, k3, k4, k5⟩ := dt_at HP.out hE
    go_simp
    try with_reducible rfl
  simp only [Act.put, List.setIfInBounds_toArray, List.set_cons_zero, List.set_cons_succ]
  refine growL_take (wanted_of g13 rfl rfl) ?_
  apply Exists.intro
  refine ⟨fun w' hE => ?_, ?_⟩
  · obtain ⟨k0, k1, k2, k3, k4, k5⟩ := dt_at HP.out hE
    go_simp
    try with_reducible rfl
  simp only [Act.put, List.setIfInBounds_toArray, List.set_cons_zero, List.set_cons_succ]
  refine growL_take (by rfl) ?_
  apply Exists.intro
  refine ⟨fun w' hE => ?_, ?_⟩
  · obtain ⟨k0, k1, k2, k3, k4, k5⟩ := dt_at HP.out hE
    go_simp
    try with_reducible rfl
  simp only [Act.put, List.setIfInBounds_toArray, List.set_cons_zero, List.set_cons_succ]
  refine growL_take (by rfl) ?_
  apply Exists.intro
  refine ⟨fun w' hE => ?_, ?_⟩
  · obtain ⟨k0, k1, k2, k3, k4, k5⟩ := dt_at HP.out hE
    go_simp
    try with_reducible rfl
  simp only [Act.put, List.setIfInBounds_toArray, List.set_cons_zero, List.set_cons_succ]
  refine growL_take (wanted_of g18 rfl rfl) ?_
  apply Exists.intro
  refine ⟨fun w' hE => ?_, ?_⟩
  · obtain ⟨k0, k1, k2, k3, k4, k5⟩ := dt_at HP.out hE
    go_simp
    try with_reducible rfl
  simp only [Act.put, List.setIfInBounds_toArray, List.set_cons_zero, List.set_cons_succ]
  refine growL_take (wanted_of g18 rfl rfl) ?_
  apply Exists.intro
  refine ⟨fun w' hE => ?_, ?_⟩
  · obtain ⟨k0, k1, k2, k3, k4, k5⟩ := dt_at HP.out hE
    go_simp
    try with_reducible rfl
  simp only [Act.put, List.setIfInBounds_toArray, List.set_cons_zero, List.set_cons_succ]
  refine growL_take (wanted_of g18 rfl rfl) ?_
  apply Exists.intro
  refine ⟨fun w' hE => ?_, ?_⟩
  · obtain ⟨k0, k1, k2, k3, k4, k5⟩ := dt_at HP.out hE
    go_simp
    try with_reducible rfl
  simp only [Act.put, List.setIfInBounds_toArray, List.set_cons_zero, List.set_cons_succ]
  refine growL_take (by rfl) ?_
  apply Exists.intro
  refine ⟨fun w' hE => ?_, ?_⟩
  · obtain ⟨k0, k1, k2, k3, k4, k5⟩ := dt_at HP.out hE
    go_simp
    try with_reducible rfl
  simp only [Act.put, List.setIfInBounds_toArray, List.set_cons_zero, List.set_cons_succ]
  refine growL_take (by rfl) ?_
  apply Exists.intro
  refine ⟨fun w' hE => ?_, ?_⟩
  · obtain ⟨k0, k1, k2, k3, k4, k5⟩ := dt_at HP.out hE
    go_simp
    try with_reducible rfl
  simp only [Act.put, List.setIfInBounds_toArray, List.set_cons_zero, List.set_cons_succ]
  refine growL_take (wanted_of g23 rfl rfl) ?_
  apply Exists.intro
  refine ⟨fun w' hE => ?_, ?_⟩
  · obtain ⟨k0, k1, k2, k3, k4, k5⟩ := dt_at HP.out hE
    go_simp
    try with_reducible rfl
  simp only [Act.put, List.setIfInBounds_toArray, List.set_cons_zero, List.set_cons_succ]
  refine growL_take (wanted_of g23 rfl rfl) ?_
  apply Exists.intro
  refine ⟨fun w' hE => ?_, ?_⟩
  · obtain ⟨k0, k1, k2, k3, k4, k5⟩ := dt_at HP.out hE
    go_simp
    try with_reducible rfl
  simp only [Act.put, List.setIfInBounds_toArray, List.set_cons_zero, List.set_cons_succ]
  refine growL_take (wanted_of g23 rfl rfl) ?_
  apply Exists.intro
  refine ⟨fun w' hE => ?_, ?_⟩
  · obtain ⟨k0, k1, k2, k3, k4, k5⟩ := dt_at HP.out hE
    go_simp
    try with_reducible rfl
  simp only [Act.put, List.setIfInBounds_toArray, List.set_cons_zero, List.set_cons_succ]
  refine growL_take (wanted_of g23 rfl rfl) ?_
  apply Exists.intro
  refine ⟨fun w' hE => ?_, ?_⟩
  · obtain ⟨k0, k1, k2, k3, k4, k5⟩ := dt_at HP.out hE
    go_simp
    try with_reducible rfl
  simp only [Act.put, List.setIfInBounds_toArray, List.set_cons_zero, List.set_cons_succ]
  refine growL_take (wanted_of g23 rfl rfl) ?_
  apply Exists.intro
  refine ⟨fun w' hE => ?_, ?_⟩
  · obtain ⟨k0, k1, k2, k3, k4, k5⟩ := dt_at HP.out hE
    go_simp
    try with_reducible rfl
  simp only [Act.put, List.setIfInBounds_toArray, List.set_cons_zero, List.set_cons_succ]
  refine growL_take (wanted_of g23 rfl rfl) ?_
  apply Exists.intro
  refine ⟨fun w' hE => ?_, ?_⟩
  · obtain ⟨k0, k1, k2, k3, k4, k5⟩ := dt_at HP.out hE
    go_simp
    try with_reducible rfl
  simp only [Act.put, List.setIfInBounds_toArray, List.set_cons_zero, List.set_cons_succ]
  refine growL_call (wanted_of g23 rfl rfl) (fun K hK => ?_)
  go_simp
  refine (rdays2_any y m _ (by omega) (by omega) (by omega) (by omega)).mono ?_
  rintro e w1 ⟨rfl, hb1⟩
  refine hK.out _ _ hb1 ?_
  clear hK K
  have HQ := Lib.hid (grown_block HP.out hb1)
  have HD1 := Lib.hid (HD0.out.trans (hb1.mono HD0.out.size))
  clear hb1
  refine growL_take (wanted_of g23 rfl rfl) ?_
  apply Exists.intro
  refine ⟨fun w' hE => ?_, ?_⟩
  · obtain ⟨k0, k1, k2, k3, k4, k5⟩ := dt_at HQ.out hE
    go_simp
    try with_reducible rfl
  simp only [Act.put, List.setIfInBounds_toArray, List.set_cons_zero, List.set_cons_succ]
  refine growL_take (by rfl) ?_
  apply Exists.intro
  refine ⟨fun w' hE => ?_, ?_⟩
  · obtain ⟨k0, k1, k2, k3, k4, k5⟩ := dt_at HQ.out hE
    go_simp
    try with_reducible rfl
  simp only [Act.put, List.setIfInBounds_toArray, List.set_cons_zero, List.set_cons_succ]
  refine growL_take (by rfl) ?_
  apply Exists.intro
  refine ⟨fun w' hE => ?_, ?_⟩
  · obtain ⟨k0, k1, k2, k3, k4, k5⟩ := dt_at HQ.out hE
    go_simp
    try with_reducible rfl
  simp only [Act.put, List.setIfInBounds_toArray, List.set_cons_zero, List.set_cons_succ]
  refine growL_skip (unwanted_of g33 rfl rfl) ?_
  simp only [Act.put, List.setIfInBounds_toArray, List.set_cons_zero, List.set_cons_succ]
  refine growL_skip (unwanted_of g33 rfl rfl) ?_
  simp only [Act.put, List.setIfInBounds_toArray, List.set_cons_zero, List.set_cons_succ]
  refine growL_skip (unwanted_of g33 rfl rfl) ?_
  simp only [Act.put, List.setIfInBounds_toArray, List.set_cons_zero, List.set_cons_succ]
  refine growL_take (by rfl) ?_
  apply Exists.intro
  refine ⟨fun w' hE => ?_, ?_⟩
  · obtain ⟨k0, k1, k2, k3, k4, k5⟩ := dt_at HQ.out hE
    go_simp
    try with_reducible rfl
  simp only [Act.put, List.setIfInBounds_toArray, List.set_cons_zero, List.set_cons_succ]
  refine growL_take (by rfl) ?_
  apply Exists.intro
  refine ⟨fun w' hE => ?_, ?_⟩
  · obtain ⟨k0, k1, k2, k3, k4, k5⟩ := dt_at HQ.out hE
    go_simp
    try with_reducible rfl
  simp only [Act.put, List.setIfInBounds_toArray, List.set_cons_zero, List.set_cons_succ]
  refine growL_skip (unwanted_of g38 rfl rfl) ?_
  simp only [Act.put, List.setIfInBounds_toArray, List.set_cons_zero, List.set_cons_succ]
  refine growL_skip (unwanted_of g38 rfl rfl) ?_
  simp only [Act.put, List.setIfInBounds_toArray, List.set_cons_zero, List.set_cons_succ]
  refine growL_skip (unwanted_of g38 rfl rfl) ?_
  simp only [Act.put, List.setIfInBounds_toArray, List.set_cons_zero, List.set_cons_succ]
  refine growL_take (by rfl) ?_
  apply Exists.intro
  refine ⟨fun w' hE => ?_, ?_⟩
  · obtain ⟨k0, k1, k2, k3, k4, k5⟩ := dt_at HQ.out hE
    go_simp
    try with_reducible rfl
  simp only [Act.put, List.setIfInBounds_toArray, List.set_cons_zero, List.set_cons_succ]
  refine growL_take (by rfl) ?_
  apply Exists.intro
  refine ⟨fun w' hE => ?_, ?_⟩
  · obtain ⟨k0, k1, k2, k3, k4, k5⟩ := dt_at HQ.out hE
    go_simp
    try with_reducible rfl
  simp only [Act.put, List.setIfInBounds_toArray, List.set_cons_zero, List.set_cons_succ]
  refine growL_skip (unwanted_of g43 rfl rfl) ?_
  simp only [Act.put, List.setIfInBounds_toArray, List.set_cons_zero, List.set_cons_succ]
  refine growL_skip (unwanted_of g43 rfl rfl) ?_
  simp only [Act.put, List.setIfInBounds_toArray, List.set_cons_zero, List.set_cons_succ]
  refine growL_skip (unwanted_of g43 rfl rfl) ?_
  simp only [Act.put, List.setIfInBounds_toArray, List.set_cons_zero, List.set_cons_succ]
  refine growL_take (by rfl) ?_
  apply Exists.intro
  refine ⟨fun w' hE => ?_, ?_⟩
  · obtain ⟨k0, k1, k2, k3, k4, k5⟩ := dt_at HQ.out hE
    go_simp
    try with_reducible rfl
  simp only [Act.put, List.setIfInBounds_toArray, List.set_cons_zero, List.set_cons_succ]
  refine growL_take (by rfl) ?_
  apply Exists.intro
  refine ⟨fun w' hE => ?_, ?_⟩
  · obtain ⟨k0, k1, k2, k3, k4, k5⟩ := dt_at HQ.out hE
    go_simp
    try with_reducible rfl
  simp only [Act.put, List.setIfInBounds_toArray, List.set_cons_zero, List.set_cons_succ]
  refine growL_skip (unwanted_of g48 rfl rfl) ?_
  simp only [Act.put, List.setIfInBounds_toArray, List.set_cons_zero, List.set_cons_succ]
  refine growL_skip (unwanted_of g48 rfl rfl) ?_
  simp only [Act.put, List.setIfInBounds_toArray, List.set_cons_zero, List.set_cons_succ]
  refine growL_skip (unwanted_of g48 rfl rfl) ?_
  simp only [Act.put, List.setIfInBounds_toArray, List.set_cons_zero, List.set_cons_succ]
  refine growL_take (by rfl) ?_
  apply Exists.intro
  refine ⟨fun w' hE => ?_, ?_⟩
  · obtain ⟨k0, k1, k2, k3, k4, k5⟩ := dt_at HQ.out hE
    go_simp
    try with_reducible rfl
  simp only [Act.put, List.setIfInBounds_toArray, List.set_cons_zero, List.set_cons_succ]
  refine growL_take (by rfl) ?_
  apply Exists.intro
  refine ⟨fun w' hE => ?_, ?_⟩
  · obtain ⟨k0, k1, k2, k3, k4, k5⟩ := dt_at HQ.out hE
    go_simp
    try with_reducible rfl
  simp only [Act.put, List.setIfInBounds_toArray, List.set_cons_zero, List.set_cons_succ]
  refine growL_skip (unwanted_of g53 rfl rfl) ?_
  simp only [Act.put, List.setIfInBounds_toArray, List.set_cons_zero, List.set_cons_succ]
  refine growL_skip (unwanted_of g53 rfl rfl) ?_
  simp only [Act.put, List.setIfInBounds_toArray, List.set_cons_zero, List.set_cons_succ]
  refine growL_skip (unwanted_of g53 rfl rfl) ?_
  simp only [Act.put, List.setIfInBounds_toArray, List.set_cons_zero, List.set_cons_succ]
  refine growL_take (by rfl) ?_
  apply Exists.intro
  refine ⟨fun w' hE => ?_, ?_⟩
  · obtain ⟨k0, k1, k2, k3, k4, k5⟩ := dt_at HQ.out hE
    go_simp
    try with_reducible rfl
  simp only [Act.put, List.setIfInBounds_toArray, List.set_cons_zero, List.set_cons_succ]
  refine growL_take (by rfl) ?_
  apply Exists.intro
  refine ⟨fun w' hE => ?_, ?_⟩
  · obtain ⟨k0, k1, k2, k3, k4, k5⟩ := dt_at HQ.out hE
    go_simp
    try with_reducible rfl
  simp only [Act.put, List.setIfInBounds_toArray, List.set_cons_zero, List.set_cons_succ]
  refine growL_skip (unwanted_of g58 rfl rfl) ?_
  simp only [Act.put, List.setIfInBounds_toArray, List.set_cons_zero, List.set_cons_succ]
  refine growL_skip (unwanted_of g58 rfl rfl) ?_
  simp only [Act.put, List.setIfInBounds_toArray, List.set_cons_zero, List.set_cons_succ]
  refine growL_skip (unwanted_of g58 rfl rfl) ?_
  simp only [Act.put, List.setIfInBounds_toArray, List.set_cons_zero, List.set_cons_succ]
  refine growL_take (by rfl) ?_
  apply Exists.intro
  refine ⟨fun w' hE => ?_, ?_⟩
  · obtain ⟨k0, k1, k2, k3, k4, k5⟩ := dt_at HQ.out hE
    go_simp
    try with_reducible rfl
  simp only [Act.put, List.setIfInBounds_toArray, List.set_cons_zero, List.set_cons_succ]
  refine growL_take (by rfl) ?_
  apply Exists.intro
  refine ⟨fun w' hE => ?_, ?_⟩
  · obtain ⟨k0, k1, k2, k3, k4, k5⟩ := dt_at HQ.out hE
    go_simp
    try with_reducible rfl
  simp only [Act.put, List.setIfInBounds_toArray, List.set_cons_zero, List.set_cons_succ]
  refine growL_done (NoPanic.normal ?_)
  simp only [Exit.then]
  go_wp2_with fail
  go_ret
  exact ⟨rfl, HD1.out⟩

end Go.Proofs.YtdaiielhohdgiaaGreatDoor
