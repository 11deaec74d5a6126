/- The document's May: the rest. -/
import Derived.Test.YtdaiielhohdgiaaGreatDoorKDateY
namespace Go.Proofs.YtdaiielhohdgiaaGreatDoor
open Go.RowKit

set_option maxRecDepth 100000 in
set_option maxHeartbeats 8000000 in
theorem rmay_no7 (y m d h i s : Int) (w : World) (c1 : 1970 ≤ y) (c2 : y ≤ 9999) (c3 : 1 ≤ m) (c4 : m ≤ 12) (c5 : 1 ≤ d) (c6 : d ≤ domI y (m - 1)) (n7 : ¬ 0 ≤ h) :
    Calls Tryz.prog 50 #[.agg #[.int .i64 y, .int .i64 m, .int .i64 d, .int .i64 h, .int .i64 i, .int .i64 s]] w fun e w' => e = .returned (.bool false) ∧ Below w.heap.size w w' := by
  have n7' : decide (0 ≤ h) = false := decide_eq_false n7
  clear n7
  go_enter Tryz.func50, Tryz.ntmps50
  go_wp2_with fail
  have HP : Hid ((w.alloc (.cells (dtRow y m d h i s) 84)).drew.heap[w.heap.size]? = some (.cells (dtRow y m d h i s) 84 (0, 0))) := alloc_self _ _ _
  have HD0 : Hid (Below w.heap.size w (w.alloc (.cells (dtRow y m d h i s) 84)).drew) := ((Below.refl _ _).alloc (Nat.le_refl _) _).drew
  refine wp_region_growL [(0, false), (1, false), (2, false), (3, false), (4, false), (5, false), (6, false), (7, false), (8, false), (9, false), (10, false), (11, false), (12, false), (13, false), (14, false), (15, false), (16, false), (17, false), (18, false), (19, false), (20, false), (21, false), (22, false), (23, false), (24, false), (25, false), (26, false), (27, false), (28, false), (29, false), (30, true), (31, false), (32, false), (33, false), (34, false), (35, false), (36, false), (37, false), (38, false), (39, false), (40, false), (41, false), (42, false), (43, false), (44, false), (45, false), (46, false), (47, false), (48, false), (49, false), (50, false), (51, false), (52, false), (53, false), (54, false), (55, false), (56, false), (57, false), (58, false), (59, false), (60, false), (61, false), (62, false), (63, false)] (by kernel_rfl) (by kernel_rfl) rfl (by kernel_rfl) (by kernel_rfl) (fun ops hops => ?_)
  simp only [inOrder, List.getD_cons_zero, List.getD_cons_succ]
  have g3 : (ops[3]?).bind (·.dst) = some 6 := by rw [hops.out]; rfl
  have g8 : (ops[8]?).bind (·.dst) = some 11 := by rw [hops.out]; rfl
  have g13 : (ops[13]?).bind (·.dst) = some 16 := by rw [hops.out]; rfl
  have g18 : (ops[18]?).bind (·.dst) = some 21 := by rw [hops.out]; rfl
  have g23 : (ops[23]?).bind (·.dst) = some 26 := by rw [hops.out]; rfl
  have g33 : (ops[33]?).bind (·.dst) = some 36 := by rw [hops.out]; rfl
  have g38 : (ops[38]?).bind (·.dst) = some 41 := by rw [hops.out]; rfl
  have g43 : (ops[43]?).bind (·.dst) = some 46 := by rw [hops.out]; rfl
  have g48 : (ops[48]?).bind (·.dst) = some 51 := by rw [hops.out]; rfl
  have g53 : (ops[53]?).bind (·.dst) = some 56 := by rw [hops.out]; rfl
  have g58 : (ops[58]?).bind (·.dst) = some 61 := by rw [hops.out]; rfl
  clear hops
  refine growL_take (by rfl) ?_
  apply Exists.intro
  refine ⟨fun w' hE => ?_, ?_⟩
  · obtain ⟨k0, k1, k2, k3, k4, k5⟩ := dt_at HP.out hE
    go_simp
    try with_reducible rfl
  simp only [Act.put, List.setIfInBounds_toArray, List.set_cons_zero, List.set_cons_succ]
  refine growL_take (by rfl) ?_
  apply Exists.intro
  refine ⟨fun w' hE => ?_, ?_⟩
  · obtain ⟨k0, k1, k2, k3, k4, k5⟩ := dt_at HP.out hE
    go_simp
    try with_reducible rfl
  simp only [Act.put, List.setIfInBounds_toArray, List.set_cons_zero, List.set_cons_succ]
  refine growL_take (by rfl) ?_
  apply Exists.intro
  refine ⟨fun w' hE => ?_, ?_⟩
  · obtain ⟨k0, k1, k2, k3, k4, k5⟩ := dt_at HP.out hE
    go_simp
    try with_reducible rfl
  simp only [Act.put, List.setIfInBounds_toArray, List.set_cons_zero, List.set_cons_succ]
  refine growL_take (by rfl) ?_
  apply Exists.intro
  refine ⟨fun w' hE => ?_, ?_⟩
  · obtain ⟨k0, k1, k2, k3, k4, k5⟩ := dt_at HP.out hE
    go_simp
    try with_reducible rfl
  simp only [Act.put, List.setIfInBounds_toArray, List.set_cons_zero, List.set_cons_succ]
  refine growL_take (wanted_of g3 rfl rfl) ?_
  apply Exists.intro
  refine ⟨fun w' hE => ?_, ?_⟩
  · obtain ⟨k0, k1, k2, k3, k4, k5⟩ := dt_at HP.out hE
    go_simp
    try with_reducible rfl
  simp only [Act.put, List.setIfInBounds_toArray, List.set_cons_zero, List.set_cons_succ]
  refine growL_take (wanted_of g3 rfl rfl) ?_
  apply Exists.intro
  refine ⟨fun w' hE => ?_, ?_⟩
  · obtain ⟨k0, k1, k2, k3, k4, k5⟩ := dt_at HP.out hE
    go_simp
    try with_reducible rfl
  simp only [Act.put, List.setIfInBounds_toArray, List.set_cons_zero, List.set_cons_succ]
  refine growL_take (wanted_of g3 rfl rfl) ?_
  apply Exists.intro
  refine ⟨fun w' hE => ?_, ?_⟩
  · obtain ⟨k0, k1, k2, k3, k4, k5⟩ := dt_at HP.out hE
    go_simp
    try with_reducible rfl
  simp only [Act.put, List.setIfInBounds_toArray, List.set_cons_zero, List.set_cons_succ]
  refine growL_take (by rfl) ?_
  apply Exists.intro
  refine ⟨fun w' hE => ?_, ?_⟩
  · obtain ⟨k0, k1, k2, k3, k4, k5⟩ := dt_at HP.out hE
    go_simp
    try with_reducible rfl
  simp only [Act.put, List.setIfInBounds_toArray, List.set_cons_zero, List.set_cons_succ]
  refine growL_take (by rfl) ?_
  apply Exists.intro
  refine ⟨fun w' hE => ?_, ?_⟩
  · obtain ⟨k0, k1, k2, k3, k4, k5⟩ := dt_at HP.out hE
    go_simp
    try with_reducible rfl
  simp only [Act.put, List.setIfInBounds_toArray, List.set_cons_zero, List.set_cons_succ]
  refine growL_take (wanted_of g8 rfl rfl) ?_
  apply Exists.intro
  refine ⟨fun w' hE => ?_, ?_⟩
  · obtain ⟨k0, k1, k2, k3, k4, k5⟩ := dt_at HP.out hE
    go_simp
    try with_reducible rfl
  simp only [Act.put, List.setIfInBounds_toArray, List.set_cons_zero, List.set_cons_succ]
  refine growL_take (wanted_of g8 rfl rfl) ?_
  apply Exists.intro
  refine ⟨fun w' hE => ?_, ?_⟩
  · obtain ⟨k0, k1, k2, k3, k4, k5⟩ := dt_at HP.out hE
    go_simp
    try with_reducible rfl
  simp only [Act.put, List.setIfInBounds_toArray, List.set_cons_zero, List.set_cons_succ]
  refine growL_take (wanted_of g8 rfl rfl) ?_
  apply Exists.intro
  refine ⟨fun w' hE => ?_, ?_⟩
  · obtain ⟨k0, k1, k2, k3, k4, k5⟩ := dt_at HP.out hE
    go_simp
    try with_reducible rfl
  simp only [Act.put, List.setIfInBounds_toArray, List.set_cons_zero, List.set_cons_succ]
  refine growL_take (by rfl) ?_
  apply Exists.intro
  refine ⟨fun w' hE => ?_, ?_⟩
  · obtain ⟨k0, k1, k2, k3, k4, k5⟩ := dt_at HP.out hE
    go_simp
    try with_reducible rfl
  simp only [Act.put, List.setIfInBounds_toArray, List.set_cons_zero, List.set_cons_succ]
  refine growL_take (by rfl) ?_
  apply Exists.intro
  refine ⟨fun w' hE => ?_, ?_⟩
  · obtain ⟨k0, k1, k2, k3, k4, k5⟩ := dt_at HP.out hE
    go_simp
    try with_reducible rfl
  simp only [Act.put, List.setIfInBounds_toArray, List.set_cons_zero, List.set_cons_succ]
  refine growL_take (wanted_of g13 rfl rfl) ?_
  apply Exists.intro
  refine ⟨fun w' hE => ?_, ?_⟩
  · obtain ⟨k0, k1, k2, k3, k4, k5⟩ := dt_at HP.out hE
    go_simp
    try with_reducible rfl
  simp only [Act.put, List.setIfInBounds_toArray, List.set_cons_zero, List.set_cons_succ]
  refine growL_take (wanted_of g13 rfl rfl) ?_
  apply Exists.intro
  refine ⟨fun w' hE => ?_, ?_⟩
  · obtain ⟨k0, k1, k2, k3, k4, k5⟩ := dt_at HP.out hE
    go_simp
    try with_reducible rfl
  simp only [Act.put, List.setIfInBounds_toArray, List.set_cons_zero, List.set_cons_succ]
  refine growL_take (wanted_of g13 rfl rfl) ?_
  apply Exists.intro
  refine ⟨fun w' hE => ?_, ?_⟩
  · obtain ⟨k0, k1, k2, k3, k4, k5⟩ := dt_at HP.out hE
    go_simp
    try with_reducible rfl
  simp only [Act.put, List.setIfInBounds_toArray, List.set_cons_zero, List.set_cons_succ]
  refine growL_take (by rfl) ?_
  apply Exists.intro
  refine ⟨fun w' hE => ?_, ?_⟩
  · obtain ⟨k0, k1, k2, k3, k4, k5⟩ := dt_at HP.out hE
    go_simp
    try with_reducible rfl
  simp only [Act.put, List.setIfInBounds_toArray, List.set_cons_zero, List.set_cons_succ]
  refine growL_take (by rfl) ?_
  apply Exists.intro
  refine ⟨fun w' hE => ?_, ?_⟩
  · obtain ⟨k0, k1, k2, k3, k4, k5⟩ := dt_at HP.out hE
    go_simp
    try with_reducible rfl
  simp only [Act.put, List.setIfInBounds_toArray, List.set_cons_zero, List.set_cons_succ]
  refine growL_take (wanted_of g18 rfl rfl) ?_
  apply Exists.intro
  refine ⟨fun w' hE => ?_, ?_⟩
  · obtain ⟨k0, k1, k2, k3, k4, k5⟩ := dt_at HP.out hE
    go_simp
    try with_reducible rfl
  simp only [Act.put, List.setIfInBounds_toArray, List.set_cons_zero, List.set_cons_succ]
  refine growL_take (wanted_of g18 rfl rfl) ?_
  apply Exists.intro
  refine ⟨fun w' hE => ?_, ?_⟩
  · obtain ⟨k0, k1, k2, k3, k4, k5⟩ := dt_at HP.out hE
    go_simp
    try with_reducible rfl
  simp only [Act.put, List.setIfInBounds_toArray, List.set_cons_zero, List.set_cons_succ]
  refine growL_take (wanted_of g18 rfl rfl) ?_
  apply Exists.intro
  refine ⟨fun w' hE => ?_, ?_⟩
  · obtain ⟨k0, k1, k2, k3, k4, k5⟩ := dt_at HP.out hE
    go_simp
    try with_reducible rfl
  simp only [Act.put, List.setIfInBounds_toArray, List.set_cons_zero, List.set_cons_succ]
  refine growL_take (by rfl) ?_
  apply Exists.intro
  refine ⟨fun w' hE => ?_, ?_⟩
  · obtain ⟨k0, k1, k2, k3, k4, k5⟩ := dt_at HP.out hE
    go_simp
    try with_reducible rfl
  simp only [Act.put, List.setIfInBounds_toArray, List.set_cons_zero, List.set_cons_succ]
  refine growL_take (by rfl) ?_
  apply Exists.intro
  refine ⟨fun w' hE => ?_, ?_⟩
  · obtain ⟨k0, k1, k2, k3, k4, k5⟩ := dt_at HP.out hE
    go_simp
    try with_reducible rfl
  simp only [Act.put, List.setIfInBounds_toArray, List.set_cons_zero, List.set_cons_succ]
  refine growL_take (wanted_of g23 rfl rfl) ?_
  apply Exists.intro
  refine ⟨fun w' hE => ?_, ?_⟩
  · obtain ⟨k0, k1, k2, k3, k4, k5⟩ := dt_at HP.out hE
    go_simp
    try with_reducible rfl
  simp only [Act.put, List.setIfInBounds_toArray, List.set_cons_zero, List.set_cons_succ]
  refine growL_take (wanted_of g23 rfl rfl) ?_
  apply Exists.intro
  refine ⟨fun w' hE => ?_, ?_⟩
  · obtain ⟨k0, k1, k2, k3, k4, k5⟩ := dt_at HP.out hE
    go_simp
    try with_reducible rfl
  simp only [Act.put, List.setIfInBounds_toArray, List.set_cons_zero, List.set_cons_succ]
  refine growL_take (wanted_of g23 rfl rfl) ?_
  apply Exists.intro
  refine ⟨fun w' hE => ?_, ?_⟩
  · obtain ⟨k0, k1, k2, k3, k4, k5⟩ := dt_at HP.out hE
    go_simp
    try with_reducible rfl
  simp only [Act.put, List.setIfInBounds_toArray, List.set_cons_zero, List.set_cons_succ]
  refine growL_take (wanted_of g23 rfl rfl) ?_
  apply Exists.intro
  refine ⟨fun w' hE => ?_, ?_⟩
  · obtain ⟨k0, k1, k2, k3, k4, k5⟩ := dt_at HP.out hE
    go_simp
    try with_reducible rfl
  simp only [Act.put, List.setIfInBounds_toArray, List.set_cons_zero, List.set_cons_succ]
  refine growL_take (wanted_of g23 rfl rfl) ?_
  apply Exists.intro
  refine ⟨fun w' hE => ?_, ?_⟩
  · obtain ⟨k0, k1, k2, k3, k4, k5⟩ := dt_at HP.out hE
    go_simp
    try with_reducible rfl
  simp only [Act.put, List.setIfInBounds_toArray, List.set_cons_zero, List.set_cons_succ]
  refine growL_take (wanted_of g23 rfl rfl) ?_
  apply Exists.intro
  refine ⟨fun w' hE => ?_, ?_⟩
  · obtain ⟨k0, k1, k2, k3, k4, k5⟩ := dt_at HP.out hE
    go_simp
    try with_reducible rfl
  simp only [Act.put, List.setIfInBounds_toArray, List.set_cons_zero, List.set_cons_succ]
  refine growL_call (wanted_of g23 rfl rfl) (fun K hK => ?_)
  go_simp
  refine (rdays2_any y m _ (by omega) (by omega) (by omega) (by omega)).mono ?_
  rintro e w1 ⟨rfl, hb1⟩
  refine hK.out _ _ hb1 ?_
  clear hK K
  have HQ := Lib.hid (grown_block HP.out hb1)
  have HD1 := Lib.hid (HD0.out.trans (hb1.mono HD0.out.size))
  clear hb1
  refine growL_take (wanted_of g23 rfl rfl) ?_
  apply Exists.intro
  refine ⟨fun w' hE => ?_, ?_⟩
  · obtain ⟨k0, k1, k2, k3, k4, k5⟩ := dt_at HQ.out hE
    go_simp
    try with_reducible rfl
  simp only [Act.put, List.setIfInBounds_toArray, List.set_cons_zero, List.set_cons_succ]
  refine growL_take (by rfl) ?_
  apply Exists.intro
  refine ⟨fun w' hE => ?_, ?_⟩
  · obtain ⟨k0, k1, k2, k3, k4, k5⟩ := dt_at HQ.out hE
    go_simp
    try with_reducible rfl
  simp only [Act.put, List.setIfInBounds_toArray, List.set_cons_zero, List.set_cons_succ]
  refine growL_take (by rfl) ?_
  apply Exists.intro
  refine ⟨fun w' hE => ?_, ?_⟩
  · obtain ⟨k0, k1, k2, k3, k4, k5⟩ := dt_at HQ.out hE
    go_simp
    try with_reducible rfl
  simp only [Act.put, List.setIfInBounds_toArray, List.set_cons_zero, List.set_cons_succ]
  refine growL_take (wanted_of g33 rfl rfl) ?_
  apply Exists.intro
  refine ⟨fun w' hE => ?_, ?_⟩
  · obtain ⟨k0, k1, k2, k3, k4, k5⟩ := dt_at HQ.out hE
    go_simp
    try with_reducible rfl
  simp only [Act.put, List.setIfInBounds_toArray, List.set_cons_zero, List.set_cons_succ]
  refine growL_take (wanted_of g33 rfl rfl) ?_
  apply Exists.intro
  refine ⟨fun w' hE => ?_, ?_⟩
  · obtain ⟨k0, k1, k2, k3, k4, k5⟩ := dt_at HQ.out hE
    go_simp
    try with_reducible rfl
  simp only [Act.put, List.setIfInBounds_toArray, List.set_cons_zero, List.set_cons_succ]
  refine growL_take (wanted_of g33 rfl rfl) ?_
  apply Exists.intro
  refine ⟨fun w' hE => ?_, ?_⟩
  · obtain ⟨k0, k1, k2, k3, k4, k5⟩ := dt_at HQ.out hE
    go_simp
    try with_reducible rfl
  simp only [Act.put, List.setIfInBounds_toArray, List.set_cons_zero, List.set_cons_succ]
  refine growL_take (by rfl) ?_
  apply Exists.intro
  refine ⟨fun w' hE => ?_, ?_⟩
  · obtain ⟨k0, k1, k2, k3, k4, k5⟩ := dt_at HQ.out hE
    go_simp
    try with_reducible rfl
  simp only [Act.put, List.setIfInBounds_toArray, List.set_cons_zero, List.set_cons_succ]
  refine growL_take (by rfl) ?_
  apply Exists.intro
  refine ⟨fun w' hE => ?_, ?_⟩
  · obtain ⟨k0, k1, k2, k3, k4, k5⟩ := dt_at HQ.out hE
    go_simp
    try with_reducible rfl
  simp only [Act.put, List.setIfInBounds_toArray, List.set_cons_zero, List.set_cons_succ]
  refine growL_skip (unwanted_of g38 rfl rfl) ?_
  simp only [Act.put, List.setIfInBounds_toArray, List.set_cons_zero, List.set_cons_succ]
  refine growL_skip (unwanted_of g38 rfl rfl) ?_
  simp only [Act.put, List.setIfInBounds_toArray, List.set_cons_zero, List.set_cons_succ]
  refine growL_skip (unwanted_of g38 rfl rfl) ?_
  simp only [Act.put, List.setIfInBounds_toArray, List.set_cons_zero, List.set_cons_succ]
  refine growL_take (by rfl) ?_
  apply Exists.intro
  refine ⟨fun w' hE => ?_, ?_⟩
  · obtain ⟨k0, k1, k2, k3, k4, k5⟩ := dt_at HQ.out hE
    go_simp
    try with_reducible rfl
  simp only [Act.put, List.setIfInBounds_toArray, List.set_cons_zero, List.set_cons_succ]
  refine growL_take (by rfl) ?_
  apply Exists.intro
  refine ⟨fun w' hE => ?_, ?_⟩
  · obtain ⟨k0, k1, k2, k3, k4, k5⟩ := dt_at HQ.out hE
    go_simp
    try with_reducible rfl
  simp only [Act.put, List.setIfInBounds_toArray, List.set_cons_zero, List.set_cons_succ]
  refine growL_skip (unwanted_of g43 rfl rfl) ?_
  simp only [Act.put, List.setIfInBounds_toArray, List.set_cons_zero, List.set_cons_succ]
  refine growL_skip (unwanted_of g43 rfl rfl) ?_
  simp only [Act.put, List.setIfInBounds_toArray, List.set_cons_zero, List.set_cons_succ]
  refine growL_skip (unwanted_of g43 rfl rfl) ?_
  simp only [Act.put, List.setIfInBounds_toArray, List.set_cons_zero, List.set_cons_succ]
  refine growL_take (by rfl) ?_
  apply Exists.intro
  refine ⟨fun w' hE => ?_, ?_⟩
  · obtain ⟨k0, k1, k2, k3, k4, k5⟩ := dt_at HQ.out hE
    go_simp
    try with_reducible rfl
  simp only [Act.put, List.setIfInBounds_toArray, List.set_cons_zero, List.set_cons_succ]
  refine growL_take (by rfl) ?_
  apply Exists.intro
  refine ⟨fun w' hE => ?_, ?_⟩
  · obtain ⟨k0, k1, k2, k3, k4, k5⟩ := dt_at HQ.out hE
    go_simp
    try with_reducible rfl
  simp only [Act.put, List.setIfInBounds_toArray, List.set_cons_zero, List.set_cons_succ]
  refine growL_skip (unwanted_of g48 rfl rfl) ?_
  simp only [Act.put, List.setIfInBounds_toArray, List.set_cons_zero, List.set_cons_succ]
  refine growL_skip (unwanted_of g48 rfl rfl) ?_
  simp only [Act.put, List.setIfInBounds_toArray, List.set_cons_zero, List.set_cons_succ]
  refine growL_skip (unwanted_of g48 rfl rfl) ?_
  simp only [Act.put, List.setIfInBounds_toArray, List.set_cons_zero, List.set_cons_succ]
  refine growL_take (by rfl) ?_
  apply Exists.intro
  refine ⟨fun w' hE => ?_, ?_⟩
  · obtain ⟨k0, k1, k2, k3, k4, k5⟩ := dt_at HQ.out hE
    go_simp
    try with_reducible rfl
  simp only [Act.put, List.setIfInBounds_toArray, List.set_cons_zero, List.set_cons_succ]
  refine growL_take (by rfl) ?_
  apply Exists.intro
  refine ⟨fun w' hE => ?_, ?_⟩
  · obtain ⟨k0, k1, k2, k3, k4, k5⟩ := dt_at HQ.out hE
    go_simp
    try with_reducible rfl
  simp only [Act.put, List.setIfInBounds_toArray, List.set_cons_zero, List.set_cons_succ]
  refine growL_skip (unwanted_of g53 rfl rfl) ?_
  simp only [Act.put, List.setIfInBounds_toArray, List.set_cons_zero, List.set_cons_succ]
  refine growL_skip (unwanted_of g53 rfl rfl) ?_
  simp only [Act.put, List.setIfInBounds_toArray, List.set_cons_zero, List.set_cons_succ]
  refine growL_skip (unwanted_of g53 rfl rfl) ?_
  simp only [Act.put, List.setIfInBounds_toArray, List.set_cons_zero, List.set_cons_succ]
  refine growL_take (by rfl) ?_
  apply Exists.intro
  refine ⟨fun w' hE => ?_, ?_⟩
  · obtain ⟨k0, k1, k2, k3, k4, k5⟩ := dt_at HQ.out hE
    go_simp
    try with_reducible rfl
  simp only [Act.put, List.setIfInBounds_toArray, List.set_cons_zero, List.set_cons_succ]
  refine growL_take (by rfl) ?_
  apply Exists.intro
  refine ⟨fun w' hE => ?_, ?_⟩
  · obtain ⟨k0, k1, k2, k3, k4, k5⟩ := dt_at HQ.out hE
    go_simp
    try with_reducible rfl
  simp only [Act.put, List.setIfInBounds_toArray, List.set_cons_zero, List.set_cons_succ]
  refine growL_skip (unwanted_of g58 rfl rfl) ?_
  simp only [Act.put, List.setIfInBounds_toArray, List.set_cons_zero, List.set_cons_succ]
  refine growL_skip (unwanted_of g58 rfl rfl) ?_
  simp only [Act.put, List.setIfInBounds_toArray, List.set_cons_zero, List.set_cons_succ]
  refine growL_skip (unwanted_of g58 rfl rfl) ?_
  simp only [Act.put, List.setIfInBounds_toArray, List.set_cons_zero, List.set_cons_succ]
  refine growL_take (by rfl) ?_
  apply Exists.intro
  refine ⟨fun w' hE => ?_, ?_⟩
  · obtain ⟨k0, k1, k2, k3, k4, k5⟩ := dt_at HQ.out hE
    go_simp
    try with_reducible rfl
  simp only [Act.put, List.setIfInBounds_toArray, List.set_cons_zero, List.set_cons_succ]
  refine growL_take (by rfl) ?_
  apply Exists.intro
  refine ⟨fun w' hE => ?_, ?_⟩
  · obtain ⟨k0, k1, k2, k3, k4, k5⟩ := dt_at HQ.out hE
    go_simp
    try with_reducible rfl
  simp only [Act.put, List.setIfInBounds_toArray, List.set_cons_zero, List.set_cons_succ]
  refine growL_done (NoPanic.normal ?_)
  simp only [Exit.then]
  go_wp2_with fail
  go_ret
  exact ⟨rfl, HD1.out⟩

set_option maxRecDepth 100000 in
set_option maxHeartbeats 8000000 in
theorem rmay_no8 (y m d h i s : Int) (w : World) (c1 : 1970 ≤ y) (c2 : y ≤ 9999) (c3 : 1 ≤ m) (c4 : m ≤ 12) (c5 : 1 ≤ d) (c6 : d ≤ domI y (m - 1)) (c7 : 0 ≤ h) (n8 : ¬ h ≤ 23) :
    Calls Tryz.prog 50 #[.agg #[.int .i64 y, .int .i64 m, .int .i64 d, .int .i64 h, .int .i64 i, .int .i64 s]] w fun e w' => e = .returned (.bool false) ∧ Below w.heap.size w w' := by
  have n8' : decide (h ≤ 23) = false := decide_eq_false n8
  clear n8
  go_enter Tryz.func50, Tryz.ntmps50
  go_wp2_with fail
  have HP : Hid ((w.alloc (.cells (dtRow y m d h i s) 84)).drew.heap[w.heap.size]? = some (.cells (dtRow y m d h i s) 84 (0, 0))) := alloc_self _ _ _
  have HD0 : Hid (Below w.heap.size w (w.alloc (.cells (dtRow y m d h i s) 84)).drew) := ((Below.refl _ _).alloc (Nat.le_refl _) _).drew
  refine wp_region_growL [(0, false), (1, false), (2, false), (3, false), (4, false), (5, false), (6, false), (7, false), (8, false), (9, false), (10, false), (11, false), (12, false), (13, false), (14, false), (15, false), (16, false), (17, false), (18, false), (19, false), (20, false), (21, false), (22, false), (23, false), (24, false), (25, false), (26, false), (27, false), (28, false), (29, false), (30, true), (31, false), (32, false), (33, false), (34, false), (35, false), (36, false), (37, false), (38, false), (39, false), (40, false), (41, false), (42, false), (43, false), (44, false), (45, false), (46, false), (47, false), (48, false), (49, false), (50, false), (51, false), (52, false), (53, false), (54, false), (55, false), (56, false), (57, false), (58, false), (59, false), (60, false), (61, false), (62, false), (63, false)] (by kernel_rfl) (by kernel_rfl) rfl (by kernel_rfl) (by kernel_rfl) (fun ops hops => ?_)
  simp only [inOrder, List.getD_cons_zero, List.getD_cons_succ]
  have g3 : (ops[3]?).bind (·.dst) = some 6 := by rw [hops.out]; rfl
  have g8 : (ops[8]?).bind (·.dst) = some 11 := by rw [hops.out]; rfl
  have g13 : (ops[13]?).bind (·.dst) = some 16 := by rw [hops.out]; rfl
  have g18 : (ops[18]?).bind (·.dst) = some 21 := by rw [hops.out]; rfl
  have g23 : (ops[23]?).bind (·.dst) = some 26 := by rw [hops.out]; rfl
  have g33 : (ops[33]?).bind (·.dst) = some 36 := by rw [hops.out]; rfl
  have g38 : (ops[38]?).bind (·.dst) = some 41 := by rw [hops.out]; rfl
  have g43 : (ops[43]?).bind (·.dst) = some 46 := by rw [hops.out]; rfl
  have g48 : (ops[48]?).bind (·.dst) = some 51 := by rw [hops.out]; rfl
  have g53 : (ops[53]?).bind (·.dst) = some 56 := by rw [hops.out]; rfl
  have g58 : (ops[58]?).bind (·.dst) = some 61 := by rw [hops.out]; rfl
  clear hops
  refine growL_take (by rfl) ?_
  apply Exists.intro
  refine ⟨fun w' hE => ?_, ?_⟩
  · obtain ⟨k0, k1, k2, k3, k4, k5⟩ := dt_at HP.out hE
    go_simp
    try with_reducible rfl
  simp only [Act.put, List.setIfInBounds_toArray, List.set_cons_zero, List.set_cons_succ]
  refine growL_take (by rfl) ?_
  apply Exists.intro
  refine ⟨fun w' hE => ?_, ?_⟩
  · obtain ⟨k0, k1, k2, k3, k4, k5⟩ := dt_at HP.out hE
    go_simp
    try with_reducible rfl
  simp only [Act.put, List.setIfInBounds_toArray, List.set_cons_zero, List.set_cons_succ]
  refine growL_take (by rfl) ?_
  apply Exists.intro
  refine ⟨fun w' hE => ?_, ?_⟩
  · obtain ⟨k0, k1, k2, k3, k4, k5⟩ := dt_at HP.out hE
    go_simp
    try with_reducible rfl
  simp only [Act.put, List.setIfInBounds_toArray, List.set_cons_zero, List.set_cons_succ]
  refine growL_take (by rfl) ?_
  apply Exists.intro
  refine ⟨fun w' hE => ?_, ?_⟩
  · obtain ⟨k0, k1, k2, k3, k4, k5⟩ := dt_at HP.out hE
    go_simp
    try with_reducible rfl
  simp only [Act.put, List.setIfInBounds_toArray, List.set_cons_zero, List.set_cons_succ]
  refine growL_take (wanted_of g3 rfl rfl) ?_
  apply Exists.intro
  refine ⟨fun w' hE => ?_, ?_⟩
  · obtain ⟨k0, k1, k2, k3, k4, k5⟩ := dt_at HP.out hE
    go_simp
    try with_reducible rfl
  simp only [Act.put, List.setIfInBounds_toArray, List.set_cons_zero, List.set_cons_succ]
  refine growL_take (wanted_of g3 rfl rfl) ?_
  apply Exists.intro
  refine ⟨fun w' hE => ?_, ?_⟩
  · obtain ⟨k0, k1, k2, k3, k4, k5⟩ := dt_at HP.out hE
    go_simp
    try with_reducible rfl
  simp only [Act.put, List.setIfInBounds_toArray, List.set_cons_zero, List.set_cons_succ]
  refine growL_take (wanted_of g3 rfl rfl) ?_
  apply Exists.intro
  refine ⟨fun w' hE => ?_, ?_⟩
  · obtain ⟨k0, k1, k2, k3, k4, k5⟩ := dt_at HP.out hE
    go_simp
    try with_reducible rfl
  simp only [Act.put, List.setIfInBounds_toArray, List.set_cons_zero, List.set_cons_succ]
  refine growL_take (by rfl) ?_
  apply Exists.intro
  refine ⟨fun w' hE => ?_, ?_⟩
  · obtain ⟨k0, k1, k2, k3, k4, k5⟩ := dt_at HP.out hE
    go_simp
    try with_reducible rfl
  simp only [Act.put, List.setIfInBounds_toArray, List.set_cons_zero, List.set_cons_succ]
  refine growL_take (by rfl) ?_
  apply Exists.intro
  refine ⟨fun w' hE => ?_, ?_⟩
  · obtain ⟨k0, k1, k2, k3, k4, k5⟩ := dt_at HP.out hE
    go_simp
    try with_reducible rfl
  simp only [Act.put, List.setIfInBounds_toArray, List.set_cons_zero, List.set_cons_succ]
  refine growL_take (wanted_of g8 rfl rfl) ?_
  apply Exists.intro
  refine ⟨fun w' hE => ?_, ?_⟩
  · obtain ⟨k0, k1, k2, k3, k4, k5⟩ := dt_at HP.out hE
    go_simp
    try with_reducible rfl
  simp only [Act.put, List.setIfInBounds_toArray, List.set_cons_zero, List.set_cons_succ]
  refine growL_take (wanted_of g8 rfl rfl) ?_
  apply Exists.intro
  refine ⟨fun w' hE => ?_, ?_⟩
  · obtain ⟨k0, k1, k2, k3, k4, k5⟩ := dt_at HP.out hE
    go_simp
    try with_reducible rfl
  simp only [Act.put, List.setIfInBounds_toArray, List.set_cons_zero, List.set_cons_succ]
  refine growL_take (wanted_of g8 rfl rfl) ?_
  apply Exists.intro
  refine ⟨fun w' hE => ?_, ?_⟩
  · obtain ⟨k0, k1, k2, k3, k4, k5⟩ := dt_at HP.out hE
    go_simp
    try with_reducible rfl
  simp only [Act.put, List.setIfInBounds_toArray, List.set_cons_zero, List.set_cons_succ]
  refine growL_take (by rfl) ?_
  apply Exists.intro
  refine ⟨fun w' hE => ?_, ?_⟩
  · obtain ⟨k0, k1, k2, k3, k4, k5⟩ := dt_at HP.out hE
    go_simp
    try with_reducible rfl
  simp only [Act.put, List.setIfInBounds_toArray, List.set_cons_zero, List.set_cons_succ]
  refine growL_take (by rfl) ?_
  apply Exists.intro
  refine ⟨fun w' hE => ?_, ?_⟩
  · obtain ⟨k0, k1, k2, k3, k4, k5⟩ := dt_at HP.out hE
    go_simp
    try with_reducible rfl
  simp only [Act.put, List.setIfInBounds_toArray, List.set_cons_zero, List.set_cons_succ]
  refine growL_take (wanted_of g13 rfl rfl) ?_
  apply Exists.intro
  refine ⟨fun w' hE => ?_, ?_⟩
  · obtain ⟨k0, k1, k2, k3, k4, k5⟩ := dt_at HP.out hE
    go_simp
    try with_reducible rfl
  simp only [Act.put, List.setIfInBounds_toArray, List.set_cons_zero, List.set_cons_succ]
  refine growL_take (wanted_of g13 rfl rfl) ?_
  apply Exists.intro
  refine ⟨fun w' hE => ?_, ?_⟩
  · obtain ⟨k0, k1, k2, k3, k4, k5⟩ := dt_at HP.out hE
    go_simp
    try with_reducible rfl
  simp only [Act.put, List.setIfInBounds_toArray, List.set_cons_zero, List.set_cons_succ]
  refine growL_take (wanted_of g13 rfl rfl) ?_
  apply Exists.intro
  refine ⟨fun w' hE => ?_, ?_⟩
  · obtain ⟨k0, k1, k2, k3, k4, k5⟩ := dt_at HP.out hE
    go_simp
    try with_reducible rfl
  simp only [Act.put, List.setIfInBounds_toArray, List.set_cons_zero, List.set_cons_succ]
  refine growL_take (by rfl) ?_
  apply Exists.intro
  refine ⟨fun w' hE => ?_, ?_⟩
  · obtain ⟨k0, k1, k2, k3, k4, k5⟩ := dt_at HP.out hE
    go_simp
    try with_reducible rfl
  simp only [Act.put, List.setIfInBounds_toArray, List.set_cons_zero, List.set_cons_succ]
  refine growL_take (by rfl) ?_
  apply Exists.intro
  refine ⟨fun w' hE => ?_, ?_⟩
  · obtain ⟨k0, k1, k2, k3, k4, k5⟩ := dt_at HP.out hE
    go_simp
    try with_reducible rfl
  simp only [Act.put, List.setIfInBounds_toArray, List.set_cons_zero, List.set_cons_succ]
  refine growL_take (wanted_of g18 rfl rfl) ?_
  apply Exists.intro
  refine ⟨fun w' hE => ?_, ?_⟩
  · obtain ⟨k0, k1, k2, k3, k4, k5⟩ := dt_at HP.out hE
    go_simp
    try with_reducible rfl
  simp only [Act.put, List.setIfInBounds_toArray, List.set_cons_zero, List.set_cons_succ]
  refine growL_take (wanted_of g18 rfl rfl) ?_
  apply Exists.intro
  refine ⟨fun w' hE => ?_, ?_⟩
  · obtain ⟨k0, k1, k2, k3, k4, k5⟩ := dt_at HP.out hE
    go_simp
    try with_reducible rfl
  simp only [Act.put, List.setIfInBounds_toArray, List.set_cons_zero, List.set_cons_succ]
  refine growL_take (wanted_of g18 rfl rfl) ?_
  apply Exists.intro
  refine ⟨fun w' hE => ?_, ?_⟩
  · obtain ⟨k0, k1, k2, k3, k4, k5⟩ := dt_at HP.out hE
    go_simp
    try with_reducible rfl
  simp only [Act.put, List.setIfInBounds_toArray, List.set_cons_zero, List.set_cons_succ]
  refine growL_take (by rfl) ?_
  apply Exists.intro
  refine ⟨fun w' hE => ?_, ?_⟩
  · obtain ⟨k0, k1, k2, k3, k4, k5⟩ := dt_at HP.out hE
    go_simp
    try with_reducible rfl
  simp only [Act.put, List.setIfInBounds_toArray, List.set_cons_zero, List.set_cons_succ]
  refine growL_take (by rfl) ?_
  apply Exists.intro
  refine ⟨fun w' hE => ?_, ?_⟩
  · obtain ⟨k0, k1, k2, k3, k4, k5⟩ := dt_at HP.out hE
    go_simp
    try with_reducible rfl
  simp only [Act.put, List.setIfInBounds_toArray, List.set_cons_zero, List.set_cons_succ]
  refine growL_take (wanted_of g23 rfl rfl) ?_
  apply Exists.intro
  refine ⟨fun w' hE => ?_, ?_⟩
  · obtain ⟨k0, k1, k2, k3, k4, k5⟩ := dt_at HP.out hE
    go_simp
    try with_reducible rfl
  simp only [Act.put, List.setIfInBounds_toArray, List.set_cons_zero, List.set_cons_succ]
  refine growL_take (wanted_of g23 rfl rfl) ?_
  apply Exists.intro
  refine ⟨fun w' hE => ?_, ?_⟩
  · obtain ⟨k0, k1, k2, k3, k4, k5⟩ := dt_at HP.out hE
    go_simp
    try with_reducible rfl
  simp only [Act.put, List.setIfInBounds_toArray, List.set_cons_zero, List.set_cons_succ]
  refine growL_take (wanted_of g23 rfl rfl) ?_
  apply Exists.intro
  refine ⟨fun w' hE => ?_, ?_⟩
  · obtain ⟨k0, k1, k2, k3, k4, k5⟩ := dt_at HP.out hE
    go_simp
    try with_reducible rfl
  simp only [Act.put, List.setIfInBounds_toArray, List.set_cons_zero, List.set_cons_succ]
  refine growL_take (wanted_of g23 rfl rfl) ?_
  apply Exists.intro
  refine ⟨fun w' hE => ?_, ?_⟩
  · obtain ⟨k0, k1, k2, k3, k4, k5⟩ := dt_at HP.out hE
    go_simp
    try with_reducible rfl
  simp only [Act.put, List.setIfInBounds_toArray, List.set_cons_zero, List.set_cons_succ]
  refine growL_take (wanted_of g23 rfl rfl) ?_
  apply Exists.intro
  refine ⟨fun w' hE => ?_, ?_⟩
  · obtain ⟨k0, k1, k2, k3, k4, k5⟩ := dt_at HP.out hE
    go_simp
    try with_reducible rfl
  simp only [Act.put, List.setIfInBounds_toArray, List.set_cons_zero, List.set_cons_succ]
  refine growL_take (wanted_of g23 rfl rfl) ?_
  apply Exists.intro
  refine ⟨fun w' hE => ?_, ?_⟩
  · obtain ⟨k0, k1, k2, k3, k4, k5⟩ := dt_at HP.out hE
    go_simp
    try with_reducible rfl
  simp only [Act.put, List.setIfInBounds_toArray, List.set_cons_zero, List.set_cons_succ]
  refine growL_call (wanted_of g23 rfl rfl) (fun K hK => ?_)
  go_simp
  refine (rdays2_any y m _ (by omega) (by omega) (by omega) (by omega)).mono ?_
  rintro e w1 ⟨rfl, hb1⟩
  refine hK.out _ _ hb1 ?_
  clear hK K
  have HQ := Lib.hid (grown_block HP.out hb1)
  have HD1 := Lib.hid (HD0.out.trans (hb1.mono HD0.out.size))
  clear hb1
  refine growL_take (wanted_of g23 rfl rfl) ?_
  apply Exists.intro
  refine ⟨fun w' hE => ?_, ?_⟩
  · obtain ⟨k0, k1, k2, k3, k4, k5⟩ := dt_at HQ.out hE
    go_simp
    try with_reducible rfl
  simp only [Act.put, List.setIfInBounds_toArray, List.set_cons_zero, List.set_cons_succ]
  refine growL_take (by rfl) ?_
  apply Exists.intro
  refine ⟨fun w' hE => ?_, ?_⟩
  · obtain ⟨k0, k1, k2, k3, k4, k5⟩ := dt_at HQ.out hE
    go_simp
    try with_reducible rfl
  simp only [Act.put, List.setIfInBounds_toArray, List.set_cons_zero, List.set_cons_succ]
  refine growL_take (by rfl) ?_
  apply Exists.intro
  refine ⟨fun w' hE => ?_, ?_⟩
  · obtain ⟨k0, k1, k2, k3, k4, k5⟩ := dt_at HQ.out hE
    go_simp
    try with_reducible rfl
  simp only [Act.put, List.setIfInBounds_toArray, List.set_cons_zero, List.set_cons_succ]
  refine growL_take (wanted_of g33 rfl rfl) ?_
  apply Exists.intro
  refine ⟨fun w' hE => ?_, ?_⟩
  · obtain ⟨k0, k1, k2, k3, k4, k5⟩ := dt_at HQ.out hE
    go_simp
    try with_reducible rfl
  simp only [Act.put, List.setIfInBounds_toArray, List.set_cons_zero, List.set_cons_succ]
  refine growL_take (wanted_of g33 rfl rfl) ?_
  apply Exists.intro
  refine ⟨fun w' hE => ?_, ?_⟩
  · obtain ⟨k0, k1, k2, k3, k4, k5⟩ := dt_at HQ.out hE
    go_simp
    try with_reducible rfl
  simp only [Act.put, List.setIfInBounds_toArray, List.set_cons_zero, List.set_cons_succ]
  refine growL_take (wanted_of g33 rfl rfl) ?_
  apply Exists.intro
  refine ⟨fun w' hE => ?_, ?_⟩
  · obtain ⟨k0, k1, k2, k3, k4, k5⟩ := dt_at HQ.out hE
    go_simp
    try with_reducible rfl
  simp only [Act.put, List.setIfInBounds_toArray, List.set_cons_zero, List.set_cons_succ]
  refine growL_take (by rfl) ?_
  apply Exists.intro
  refine ⟨fun w' hE => ?_, ?_⟩
  · obtain ⟨k0, k1, k2, k3, k4, k5⟩ := dt_at HQ.out hE
    go_simp
    try with_reducible rfl
  simp only [Act.put, List.setIfInBounds_toArray, List.set_cons_zero, List.set_cons_succ]
  refine growL_take (by rfl) ?_
  apply Exists.intro
  refine ⟨fun w' hE => ?_, ?_⟩
  · obtain ⟨k0, k1, k2, k3, k4, k5⟩ := dt_at HQ.out hE
    go_simp
    try with_reducible rfl
  simp only [Act.put, List.setIfInBounds_toArray, List.set_cons_zero, List.set_cons_succ]
  refine growL_take (wanted_of g38 rfl rfl) ?_
  apply Exists.intro
  refine ⟨fun w' hE => ?_, ?_⟩
  · obtain ⟨k0, k1, k2, k3, k4, k5⟩ := dt_at HQ.out hE
    go_simp
    try with_reducible rfl
  simp only [Act.put, List.setIfInBounds_toArray, List.set_cons_zero, List.set_cons_succ]
  refine growL_take (wanted_of g38 rfl rfl) ?_
  apply Exists.intro
  refine ⟨fun w' hE => ?_, ?_⟩
  · obtain ⟨k0, k1, k2, k3, k4, k5⟩ := dt_at HQ.out hE
    go_simp
    try with_reducible rfl
  simp only [Act.put, List.setIfInBounds_toArray, List.set_cons_zero, List.set_cons_succ]
  refine growL_take (wanted_of g38 rfl rfl) ?_
  apply Exists.intro
  refine ⟨fun w' hE => ?_, ?_⟩
  · obtain ⟨k0, k1, k2, k3, k4, k5⟩ := dt_at HQ.out hE
    go_simp
    try with_reducible rfl
  simp only [Act.put, List.setIfInBounds_toArray, List.set_cons_zero, List.set_cons_succ]
  refine growL_take (by rfl) ?_
  apply Exists.intro
  refine ⟨fun w' hE => ?_, ?_⟩
  · obtain ⟨k0, k1, k2, k3, k4, k5⟩ := dt_at HQ.out hE
    go_simp
    try with_reducible rfl
  simp only [Act.put, List.setIfInBounds_toArray, List.set_cons_zero, List.set_cons_succ]
  refine growL_take (by rfl) ?_
  apply Exists.intro
  refine ⟨fun w' hE => ?_, ?_⟩
  · obtain ⟨k0, k1, k2, k3, k4, k5⟩ := dt_at HQ.out hE
    go_simp
    try with_reducible rfl
  simp only [Act.put, List.setIfInBounds_toArray, List.set_cons_zero, List.set_cons_succ]
  refine growL_skip (unwanted_of g43 rfl rfl) ?_
  simp only [Act.put, List.setIfInBounds_toArray, List.set_cons_zero, List.set_cons_succ]
  refine growL_skip (unwanted_of g43 rfl rfl) ?_
  simp only [Act.put, List.setIfInBounds_toArray, List.set_cons_zero, List.set_cons_succ]
  refine growL_skip (unwanted_of g43 rfl rfl) ?_
  simp only [Act.put, List.setIfInBounds_toArray, List.set_cons_zero, List.set_cons_succ]
  refine growL_take (by rfl) ?_
  apply Exists.intro
  refine ⟨fun w' hE => ?_, ?_⟩
  · obtain ⟨k0, k1, k2, k3, k4, k5⟩ := dt_at HQ.out hE
    go_simp
    try with_reducible rfl
  simp only [Act.put, List.setIfInBounds_toArray, List.set_cons_zero, List.set_cons_succ]
  refine growL_take (by rfl) ?_
  apply Exists.intro
  refine ⟨fun w' hE => ?_, ?_⟩
  · obtain ⟨k0, k1, k2, k3, k4, k5⟩ := dt_at HQ.out hE
    go_simp
    try with_reducible rfl
  simp only [Act.put, List.setIfInBounds_toArray, List.set_cons_zero, List.set_cons_succ]
  refine growL_skip (unwanted_of g48 rfl rfl) ?_
  simp only [Act.put, List.setIfInBounds_toArray, List.set_cons_zero, List.set_cons_succ]
  refine growL_skip (unwanted_of g48 rfl rfl) ?_
  simp only [Act.put, List.setIfInBounds_toArray, List.set_cons_zero, List.set_cons_succ]
  refine growL_skip (unwanted_of g48 rfl rfl) ?_
  simp only [Act.put, List.setIfInBounds_toArray, List.set_cons_zero, List.set_cons_succ]
  refine growL_take (by rfl) ?_
  apply Exists.intro
  refine ⟨fun w' hE => ?_, ?_⟩
  · obtain ⟨k0, k1, k2, k3, k4, k5⟩ := dt_at HQ.out hE
    go_simp
    try with_reducible rfl
  simp only [Act.put, List.setIfInBounds_toArray, List.set_cons_zero, List.set_cons_succ]
  refine growL_take (by rfl) ?_
  apply Exists.intro
  refine ⟨fun w' hE => ?_, ?_⟩
  · obtain ⟨k0, k1, k2, k3, k4, k5⟩ := dt_at HQ.out hE
    go_simp
    try with_reducible rfl
  simp only [Act.put, List.setIfInBounds_toArray, List.set_cons_zero, List.set_cons_succ]
  refine growL_skip (unwanted_of g53 rfl rfl) ?_
  simp only [Act.put, List.setIfInBounds_toArray, List.set_cons_zero, List.set_cons_succ]
  refine growL_skip (unwanted_of g53 rfl rfl) ?_
  simp only [Act.put, List.setIfInBounds_toArray, List.set_cons_zero, List.set_cons_succ]
  refine growL_skip (unwanted_of g53 rfl rfl) ?_
  simp only [Act.put, List.setIfInBounds_toArray, List.set_cons_zero, List.set_cons_succ]
  refine growL_take (by rfl) ?_
  apply Exists.intro
  refine ⟨fun w' hE => ?_, ?_⟩
  · obtain ⟨k0, k1, k2, k3, k4, k5⟩ := dt_at HQ.out hE
    go_simp
    try with_reducible rfl
  simp only [Act.put, List.setIfInBounds_toArray, List.set_cons_zero, List.set_cons_succ]
  refine growL_take (by rfl) ?_
  apply Exists.intro
  refine ⟨fun w' hE => ?_, ?_⟩
  · obtain ⟨k0, k1, k2, k3, k4, k5⟩ := dt_at HQ.out hE
    go_simp
    try with_reducible rfl
  simp only [Act.put, List.setIfInBounds_toArray, List.set_cons_zero, List.set_cons_succ]
  refine growL_skip (unwanted_of g58 rfl rfl) ?_
  simp only [Act.put, List.setIfInBounds_toArray, List.set_cons_zero, List.set_cons_succ]
  refine growL_skip (unwanted_of g58 rfl rfl) ?_
  simp only [Act.put, List.setIfInBounds_toArray, List.set_cons_zero, List.set_cons_succ]
  refine growL_skip (unwanted_of g58 rfl rfl) ?_
  simp only [Act.put, List.setIfInBounds_toArray, List.set_cons_zero, List.set_cons_succ]
  refine growL_take (by rfl) ?_
  apply Exists.intro
  refine ⟨fun w' hE => ?_, ?_⟩
  · obtain ⟨k0, k1, k2, k3, k4, k5⟩ := dt_at HQ.out hE
    go_simp
    try with_reducible rfl
  simp only [Act.put, List.setIfInBounds_toArray, List.set_cons_zero, List.set_cons_succ]
  refine growL_take (by rfl) ?_
  apply Exists.intro
  refine ⟨fun w' hE => ?_, ?_⟩
  · obtain ⟨k0, k1, k2, k3, k4, k5⟩ := dt_at HQ.out hE
    go_simp
    try with_reducible rfl
  simp only [Act.put, List.setIfInBounds_toArray, List.set_cons_zero, List.set_cons_succ]
  refine growL_done (NoPanic.normal ?_)
  simp only [Exit.then]
  go_wp2_with fail
  go_ret
  exact ⟨rfl, HD1.out⟩

set_option maxRecDepth 100000 in
set_option maxHeartbeats 8000000 in
theorem rmay_no9 (y m d h i s : Int) (w : World) (c1 : 1970 ≤ y) (c2 : y ≤ 9999) (c3 : 1 ≤ m) (c4 : m ≤ 12) (c5 : 1 ≤ d) (c6 : d ≤ domI y (m - 1)) (c7 : 0 ≤ h) (c8 : h ≤ 23) (n9 : ¬ 0 ≤ i) :
    Calls Tryz.prog 50 #[.agg #[.int .i64 y, .int .i64 m, .int .i64 d, .int .i64 h, .int .i64 i, .int .i64 s]] w fun e w' => e = .returned (.bool false) ∧ Below w.heap.size w w' := by
  have n9' : decide (0 ≤ i) = false := decide_eq_false n9
  clear n9
  go_enter Tryz.func50, Tryz.ntmps50
  go_wp2_with fail
  have HP : Hid ((w.alloc (.cells (dtRow y m d h i s) 84)).drew.heap[w.heap.size]? = some (.cells (dtRow y m d h i s) 84 (0, 0))) := alloc_self _ _ _
  have HD0 : Hid (Below w.heap.size w (w.alloc (.cells (dtRow y m d h i s) 84)).drew) := ((Below.refl _ _).alloc (Nat.le_refl _) _).drew
  refine wp_region_growL [(0, false), (1, false), (2, false), (3, false), (4, false), (5, false), (6, false), (7, false), (8, false), (9, false), (10, false), (11, false), (12, false), (13, false), (14, false), (15, false), (16, false), (17, false), (18, false), (19, false), (20, false), (21, false), (22, false), (23, false), (24, false), (25, false), (26, false), (27, false), (28, false), (29, false), (30, true), (31, false), (32, false), (33, false), (34, false), (35, false), (36, false), (37, false), (38, false), (39, false), (40, false), (41, false), (42, false), (43, false), (44, false), (45, false), (46, false), (47, false), (48, false), (49, false), (50, false), (51, false), (52, false), (53, false), (54, false), (55, false), (56, false), (57, false), (58, false), (59, false), (60, false), (61, false), (62, false), (63, false)] (by kernel_rfl) (by kernel_rfl) rfl (by kernel_rfl) (by kernel_rfl) (fun ops hops => ?_)
  simp only [inOrder, List.getD_cons_zero, List.getD_cons_succ]
  have g3 : (ops[3]?).bind (·.dst) = some 6 := by rw [hops.out]; rfl
  have g8 : (ops[8]?).bind (·.dst) = some 11 := by rw [hops.out]; rfl
  have g13 : (ops[13]?).bind (·.dst) = some 16 := by rw [hops.out]; rfl
  have g18 : (ops[18]?).bind (·.dst) = some 21 := by rw [hops.out]; rfl
  have g23 : (ops[23]?).bind (·.dst) = some 26 := by rw [hops.out]; rfl
  have g33 : (ops[33]?).bind (·.dst) = some 36 := by rw [hops.out]; rfl
  have g38 : (ops[38]?).bind (·.dst) = some 41 := by rw [hops.out]; rfl
  have g43 : (ops[43]?).bind (·.dst) = some 46 := by rw [hops.out]; rfl
  have g48 : (ops[48]?).bind (·.dst) = some 51 := by rw [hops.out]; rfl
  have g53 : (ops[53]?).bind (·.dst) = some 56 := by rw [hops.out]; rfl
  have g58 : (ops[58]?).bind (·.dst) = some 61 := by rw [hops.out]; rfl
  clear hops
  refine growL_take (by rfl) ?_
  apply Exists.intro
  refine ⟨fun w' hE => ?_, ?_⟩
  · obtain ⟨k0, k1, k2, k3, k4, k5⟩ := dt_at HP.out hE
    go_simp
    try with_reducible rfl
  simp only [Act.put, List.setIfInBounds_toArray, List.set_cons_zero, List.set_cons_succ]
  refine growL_take (by rfl) ?_
  apply Exists.intro
  refine ⟨fun w' hE => ?_, ?_⟩
  · obtain ⟨k0, k1, k2, k3, k4, k5⟩ := dt_at HP.out hE
    go_simp
    try with_reducible rfl
  simp only [Act.put, List.setIfInBounds_toArray, List.set_cons_zero, List.set_cons_succ]
  refine growL_take (by rfl) ?_
  apply Exists.intro
  refine ⟨fun w' hE => ?_, ?_⟩
  · obtain ⟨k0, k1, k2, k3, k4, k5⟩ := dt_at HP.out hE
    go_simp
    try with_reducible rfl
  simp only [Act.put, List.setIfInBounds_toArray, List.set_cons_zero, List.set_cons_succ]
  refine growL_take (by rfl) ?_
  apply Exists.intro
  refine ⟨fun w' hE => ?_, ?_⟩
  · obtain ⟨k0, k1, k2, k3, k4, k5⟩ := dt_at HP.out hE
    go_simp
    try with_reducible rfl
  simp only [Act.put, List.setIfInBounds_toArray, List.set_cons_zero, List.set_cons_succ]
  refine growL_take (wanted_of g3 rfl rfl) ?_
  apply Exists.intro
  refine ⟨fun w' hE => ?_, ?_⟩
  · obtain ⟨k0, k1, k2, k3, k4, k5⟩ := dt_at HP.out hE
    go_simp
    try with_reducible rfl
  simp only [Act.put, List.setIfInBounds_toArray, List.set_cons_zero, List.set_cons_succ]
  refine growL_take (wanted_of g3 rfl rfl) ?_
  apply Exists.intro
  refine ⟨fun w' hE => ?_, ?_⟩
  · obtain ⟨k0, k1, k2, k3, k4, k5⟩ := dt_at HP.out hE
    go_simp
    try with_reducible rfl
  simp only [Act.put, List.setIfInBounds_toArray, List.set_cons_zero, List.set_cons_succ]
  refine growL_take (wanted_of g3 rfl rfl) ?_
  apply Exists.intro
  refine ⟨fun w' hE => ?_, ?_⟩
  · obtain ⟨k0, k1, k2, k3, k4, k5⟩ := dt_at HP.out hE
    go_simp
    try with_reducible rfl
  simp only [Act.put, List.setIfInBounds_toArray, List.set_cons_zero, List.set_cons_succ]
  refine growL_take (by rfl) ?_
  apply Exists.intro
  refine ⟨fun w' hE => ?_, ?_⟩
  · obtain ⟨k0, k1, k2, k3, k4, k5⟩ := dt_at HP.out hE
    go_simp
    try with_reducible rfl
  simp only [Act.put, List.setIfInBounds_toArray, List.set_cons_zero, List.set_cons_succ]
  refine growL_take (by rfl) ?_
  apply Exists.intro
  refine ⟨fun w' hE => ?_, ?_⟩
  · obtain ⟨k0, k1, k2, k3, k4, k5⟩ := dt_at HP.out hE
    go_simp
    try with_reducible rfl
  simp only [Act.put, List.setIfInBounds_toArray, List.set_cons_zero, List.set_cons_succ]
  refine growL_take (wanted_of g8 rfl rfl) ?_
  apply Exists.intro
  refine ⟨fun w' hE => ?_, ?_⟩
  · obtain ⟨k0, k1, k2, k3, k4, k5⟩ := dt_at HP.out hE
    go_simp
    try with_reducible rfl
  simp only [Act.put, List.setIfInBounds_toArray, List.set_cons_zero, List.set_cons_succ]
  refine growL_take (wanted_of g8 rfl rfl) ?_
  apply Exists.intro
  refine ⟨fun w' hE => ?_, ?_⟩
  · obtain ⟨k0, k1, k2, k3, k4, k5⟩ := dt_at HP.out hE
    go_simp
    try with_reducible rfl
  simp only [Act.put, List.setIfInBounds_toArray, List.set_cons_zero, List.set_cons_succ]
  refine growL_take (wanted_of g8 rfl rfl) ?_
  apply Exists.intro
  refine ⟨fun w' hE => ?_, ?_⟩
  · obtain ⟨k0, k1, k2, k3, k4, k5⟩ := dt_at HP.out hE
    go_simp
    try with_reducible rfl
  simp only [Act.put, List.setIfInBounds_toArray, List.set_cons_zero, List.set_cons_succ]
  refine growL_take (by rfl) ?_
  apply Exists.intro
  refine ⟨fun w' hE => ?_, ?_⟩
  · obtain ⟨k0, k1, k2, k3, k4, k5⟩ := dt_at HP.out hE
    go_simp
    try with_reducible rfl
  simp only [Act.put, List.setIfInBounds_toArray, List.set_cons_zero, List.set_cons_succ]
  refine growL_take (by rfl) ?_
  apply Exists.intro
  refine ⟨fun w' hE => ?_, ?_⟩
  · obtain ⟨k0, k1, k2, k3, k4, k5⟩ := dt_at HP.out hE
    go_simp
    try with_reducible rfl
  simp only [Act.put, List.setIfInBounds_toArray, List.set_cons_zero, List.set_cons_succ]
  refine growL_take (wanted_of g13 rfl rfl) ?_
  apply Exists.intro
  refine ⟨fun w' hE => ?_, ?_⟩
  · obtain ⟨k0, k1, k2, k3, k4, k5⟩ := dt_at HP.out hE
    go_simp
    try with_reducible rfl
  simp only [Act.put, List.setIfInBounds_toArray, List.set_cons_zero, List.set_cons_succ]
  refine growL_take (wanted_of g13 rfl rfl) ?_
  apply Exists.intro
  refine ⟨fun w' hE => ?_, ?_⟩
  · obtain ⟨k0, k1, k2, k3, k4, k5⟩ := dt_at HP.out hE
    go_simp
    try with_reducible rfl
  simp only [Act.put, List.setIfInBounds_toArray, List.set_cons_zero, List.set_cons_succ]
  refine growL_take (wanted_of g13 rfl rfl) ?_
  apply Exists.intro
  refine ⟨fun w' hE => ?_, ?_⟩
  · obtain ⟨k0, k1, k2, k3, k4, k5⟩ := dt_at HP.out hE
    go_simp
    try with_reducible rfl
  simp only [Act.put, List.setIfInBounds_toArray, List.set_cons_zero, List.set_cons_succ]
  refine growL_take (by rfl) ?_
  apply Exists.intro
  refine ⟨fun w' hE => ?_, ?_⟩
  · obtain ⟨k0, k1, k2, k3, k4, k5⟩ := dt_at HP.out hE
    go_simp
    try with_reducible rfl
  simp only [Act.put, List.setIfInBounds_toArray, List.set_cons_zero, List.set_cons_succ]
  refine growL_take (by rfl) ?_
  apply Exists.intro
  refine ⟨fun w' hE => ?_, ?_⟩
  · obtain ⟨k0, k1, k2, k3, k4, k5⟩ := dt_at HP.out hE
    go_simp
    try with_reducible rfl
  simp only [Act.put, List.setIfInBounds_toArray, List.set_cons_zero, List.set_cons_succ]
  refine growL_take (wanted_of g18 rfl rfl) ?_
  apply Exists.intro
  refine ⟨fun w' hE => ?_, ?_⟩
  · obtain ⟨k0, k1, k2, k3, k4, k5⟩ := dt_at HP.out hE
    go_simp
    try with_reducible rfl
  simp only [Act.put, List.setIfInBounds_toArray, List.set_cons_zero, List.set_cons_succ]
  refine growL_take (wanted_of g18 rfl rfl) ?_
  apply Exists.intro
  refine ⟨fun w' hE => ?_, ?_⟩
  · obtain ⟨k0, k1, k2, k3, k4, k5⟩ := dt_at HP.out hE
    go_simp
    try with_reducible rfl
  simp only [Act.put, List.setIfInBounds_toArray, List.set_cons_zero, List.set_cons_succ]
  refine growL_take (wanted_of g18 rfl rfl) ?_
  apply Exists.intro
  refine ⟨fun w' hE => ?_, ?_⟩
  · obtain ⟨k0, k1, k2, k3, k4, k5⟩ := dt_at HP.out hE
    go_simp
    try with_reducible rfl
  simp only [Act.put, List.setIfInBounds_toArray, List.set_cons_zero, List.set_cons_succ]
  refine growL_take (by rfl) ?_
  apply Exists.intro
  refine ⟨fun w' hE => ?_, ?_⟩
  · obtain ⟨k0, k1, k2, k3, k4, k5⟩ := dt_at HP.out hE
    go_simp
    try with_reducible rfl
  simp only [Act.put, List.setIfInBounds_toArray, List.set_cons_zero, List.set_cons_succ]
  refine growL_take (by rfl) ?_
  apply Exists.intro
  refine ⟨fun w' hE => ?_, ?_⟩
  · obtain ⟨k0, k1, k2, k3, k4, k5⟩ := dt_at HP.out hE
    go_simp
    try with_reducible rfl
  simp only [Act.put, List.setIfInBounds_toArray, List.set_cons_zero, List.set_cons_succ]
  refine growL_take (wanted_of g23 rfl rfl) ?_
  apply Exists.intro
  refine ⟨fun w' hE => ?_, ?_⟩
  · obtain ⟨k0, k1, k2, k3, k4, k5⟩ := dt_at HP.out hE
    go_simp
    try with_reducible rfl
  simp only [Act.put, List.setIfInBounds_toArray, List.set_cons_zero, List.set_cons_succ]
  refine growL_take (wanted_of g23 rfl rfl) ?_
  apply Exists.intro
  refine ⟨fun w' hE => ?_, ?_⟩
  · obtain ⟨k0, k1, k2, k3, k4, k5⟩ := dt_at HP.out hE
    go_simp
    try with_reducible rfl
  simp only [Act.put, List.setIfInBounds_toArray, List.set_cons_zero, List.set_cons_succ]
  refine growL_take (wanted_of g23 rfl rfl) ?_
  apply Exists.intro
  refine ⟨fun w' hE => ?_, ?_⟩
  · obtain ⟨k0, k1, k2, k3, k4, k5⟩ := dt_at HP.out hE
    go_simp
    try with_reducible rfl
  simp only [Act.put, List.setIfInBounds_toArray, List.set_cons_zero, List.set_cons_succ]
  refine growL_take (wanted_of g23 rfl rfl) ?_
  apply Exists.intro
  refine ⟨fun w' hE => ?_, ?_⟩
  · obtain ⟨k0, k1, k2, k3, k4, k5⟩ := dt_at HP.out hE
    go_simp
    try with_reducible rfl
  simp only [Act.put, List.setIfInBounds_toArray, List.set_cons_zero, List.set_cons_succ]
  refine growL_take (wanted_of g23 rfl rfl) ?_
  apply Exists.intro
  refine ⟨fun w' hE => ?_, ?_⟩
  · obtain ⟨k0, k1, k2, k3, k4, k5⟩ := dt_at HP.out hE
    go_simp
    try with_reducible rfl
  simp only [Act.put, List.setIfInBounds_toArray, List.set_cons_zero, List.set_cons_succ]
  refine growL_take (wanted_of g23 rfl rfl) ?_
  apply Exists.intro
  refine ⟨fun w' hE => ?_, ?_⟩
  · obtain ⟨k0, k1, k2, k3, k4, k5⟩ := dt_at HP.out hE
    go_simp
    try with_reducible rfl
  simp only [Act.put, List.setIfInBounds_toArray, List.set_cons_zero, List.set_cons_succ]
  refine growL_call (wanted_of g23 rfl rfl) (fun K hK => ?_)
  go_simp
  refine (rdays2_any y m _ (by omega) (by omega) (by omega) (by omega)).mono ?_
  rintro e w1 ⟨rfl, hb1⟩
  refine hK.out _ _ hb1 ?_
  clear hK K
  have HQ := Lib.hid (grown_block HP.out hb1)
  have HD1 := Lib.hid (HD0.out.trans (hb1.mono HD0.out.size))
  clear hb1
  refine growL_take (wanted_of g23 rfl rfl) ?_
  apply Exists.intro
  refine ⟨fun w' hE => ?_, ?_⟩
  · obtain ⟨k0, k1, k2, k3, k4, k5⟩ := dt_at HQ.out hE
    go_simp
    try with_reducible rfl
  simp only [Act.put, List.setIfInBounds_toArray, List.set_cons_zero, List.set_cons_succ]
  refine growL_take (by rfl) ?_
  apply Exists.intro
  refine ⟨fun w' hE => ?_, ?_⟩
  · obtain ⟨k0, k1, k2, k3, k4, k5⟩ := dt_at HQ.out hE
    go_simp
    try with_reducible rfl
  simp only [Act.put, List.setIfInBounds_toArray, List.set_cons_zero, List.set_cons_succ]
  refine growL_take (by rfl) ?_
  apply Exists.intro
  refine ⟨fun w' hE => ?_, ?_⟩
  · obtain ⟨k0, k1, k2, k3, k4, k5⟩ := dt_at HQ.out hE
    go_simp
    try with_reducible rfl
  simp only [Act.put, List.setIfInBounds_toArray, List.set_cons_zero, List.set_cons_succ]
  refine growL_take (wanted_of g33 rfl rfl) ?_
  apply Exists.intro
  refine ⟨fun w' hE => ?_, ?_⟩
  · obtain ⟨k0, k1, k2, k3, k4, k5⟩ := dt_at HQ.out hE
    go_simp
    try with_reducible rfl
  simp only [Act.put, List.setIfInBounds_toArray, List.set_cons_zero, List.set_cons_succ]
  refine growL_take (wanted_of g33 rfl rfl) ?_
  apply Exists.intro
  refine ⟨fun w' hE => ?_, ?_⟩
  · obtain ⟨k0, k1, k2, k3, k4, k5⟩ := dt_at HQ.out hE
    go_simp
    try with_reducible rfl
  simp only [Act.put, List.setIfInBounds_toArray, List.set_cons_zero, List.set_cons_succ]
  refine growL_take (wanted_of g33 rfl rfl) ?_
  apply Exists.intro
  refine ⟨fun w' hE => ?_, ?_⟩
  · obtain ⟨k0, k1, k2, k3, k4, k5⟩ := dt_at HQ.out hE
    go_simp
    try with_reducible rfl
  simp only [Act.put, List.setIfInBounds_toArray, List.set_cons_zero, List.set_cons_succ]
  refine growL_take (by rfl) ?_
  apply Exists.intro
  refine ⟨fun w' hE => ?_, ?_⟩
  · obtain ⟨k0, k1, k2, k3, k4, k5⟩ := dt_at HQ.out hE
    go_simp
    try with_reducible rfl
  simp only [Act.put, List.setIfInBounds_toArray, List.set_cons_zero, List.set_cons_succ]
  refine growL_take (by rfl) ?_
  apply Exists.intro
  refine ⟨fun w' hE => ?_, ?_⟩
  · obtain ⟨k0, k1, k2, k3, k4, k5⟩ := dt_at HQ.out hE
    go_simp
    try with_reducible rfl
  simp only [Act.put, List.setIfInBounds_toArray, List.set_cons_zero, List.set_cons_succ]
  refine growL_take (wanted_of g38 rfl rfl) ?_
  apply Exists.intro
  refine ⟨fun w' hE => ?_, ?_⟩
  · obtain ⟨k0, k1, k2, k3, k4, k5⟩ := dt_at HQ.out hE
    go_simp
    try with_reducible rfl
  simp only [Act.put, List.setIfInBounds_toArray, List.set_cons_zero, List.set_cons_succ]
  refine growL_take (wanted_of g38 rfl rfl) ?_
  apply Exists.intro
  refine ⟨fun w' hE => ?_, ?_⟩
  · obtain ⟨k0, k1, k2, k3, k4, k5⟩ := dt_at HQ.out hE
    go_simp
    try with_reducible rfl
  simp only [Act.put, List.setIfInBounds_toArray, List.set_cons_zero, List.set_cons_succ]
  refine growL_take (wanted_of g38 rfl rfl) ?_
  apply Exists.intro
  refine ⟨fun w' hE => ?_, ?_⟩
  · obtain ⟨k0, k1, k2, k3, k4, k5⟩ := dt_at HQ.out hE
    go_simp
    try with_reducible rfl
  simp only [Act.put, List.setIfInBounds_toArray, List.set_cons_zero, List.set_cons_succ]
  refine growL_take (by rfl) ?_
  apply Exists.intro
  refine ⟨fun w' hE => ?_, ?_⟩
  · obtain ⟨k0, k1, k2, k3, k4, k5⟩ := dt_at HQ.out hE
    go_simp
    try with_reducible rfl
  simp only [Act.put, List.setIfInBounds_toArray, List.set_cons_zero, List.set_cons_succ]
  refine growL_take (by rfl) ?_
  apply Exists.intro
  refine ⟨fun w' hE => ?_, ?_⟩
  · obtain ⟨k0, k1, k2, k3, k4, k5⟩ := dt_at HQ.out hE
    go_simp
    try with_reducible rfl
  simp only [Act.put, List.setIfInBounds_toArray, List.set_cons_zero, List.set_cons_succ]
  refine growL_take (wanted_of g43 rfl rfl) ?_
  apply Exists.intro
  refine ⟨fun w' hE => ?_, ?_⟩
  · obtain ⟨k0, k1, k2, k3, k4, k5⟩ := dt_at HQ.out hE
    go_simp
    try with_reducible rfl
  simp only [Act.put, List.setIfInBounds_toArray, List.set_cons_zero, List.set_cons_succ]
  refine growL_take (wanted_of g43 rfl rfl) ?_
  apply Exists.intro
  refine ⟨fun w' hE => ?_, ?_⟩
  · obtain ⟨k0, k1, k2, k3, k4, k5⟩ := dt_at HQ.out hE
    go_simp
    try with_reducible rfl
  simp only [Act.put, List.setIfInBounds_toArray, List.set_cons_zero, List.set_cons_succ]
  refine growL_take (wanted_of g43 rfl rfl) ?_
  apply Exists.intro
  refine ⟨fun w' hE => ?_, ?_⟩
  · obtain ⟨k0, k1, k2, k3, k4, k5⟩ := dt_at HQ.out hE
    go_simp
    try with_reducible rfl
  simp only [Act.put, List.setIfInBounds_toArray, List.set_cons_zero, List.set_cons_succ]
  refine growL_take (by rfl) ?_
  apply Exists.intro
  refine ⟨fun w' hE => ?_, ?_⟩
  · obtain ⟨k0, k1, k2, k3, k4, k5⟩ := dt_at HQ.out hE
    go_simp
    try with_reducible rfl
  simp only [Act.put, List.setIfInBounds_toArray, List.set_cons_zero, List.set_cons_succ]
  refine growL_take (by rfl) ?_
  apply Exists.intro
  refine ⟨fun w' hE => ?_, ?_⟩
  · obtain ⟨k0, k1, k2, k3, k4, k5⟩ := dt_at HQ.out hE
    go_simp
    try with_reducible rfl
  simp only [Act.put, List.setIfInBounds_toArray, List.set_cons_zero, List.set_cons_succ]
  refine growL_skip (unwanted_of g48 rfl rfl) ?_
  simp only [Act.put, List.setIfInBounds_toArray, List.set_cons_zero, List.set_cons_succ]
  refine growL_skip (unwanted_of g48 rfl rfl) ?_
  simp only [Act.put, List.setIfInBounds_toArray, List.set_cons_zero, List.set_cons_succ]
  refine growL_skip (unwanted_of g48 rfl rfl) ?_
  simp only [Act.put, List.setIfInBounds_toArray, List.set_cons_zero, List.set_cons_succ]
  refine growL_take (by rfl) ?_
  apply Exists.intro
  refine ⟨fun w' hE => ?_, ?_⟩
  · obtain ⟨k0, k1, k2, k3, k4, k5⟩ := dt_at HQ.out hE
    go_simp
    try with_reducible rfl
  simp only [Act.put, List.setIfInBounds_toArray, List.set_cons_zero, List.set_cons_succ]
  refine growL_take (by rfl) ?_
  apply Exists.intro
  refine ⟨fun w' hE => ?_, ?_⟩
  · obtain ⟨k0, k1, k2, k3, k4, k5⟩ := dt_at HQ.out hE
    go_simp
    try with_reducible rfl
  simp only [Act.put, List.setIfInBounds_toArray, List.set_cons_zero, List.set_cons_succ]
  refine growL_skip (unwanted_of g53 rfl rfl) ?_
  simp only [Act.put, List.setIfInBounds_toArray, List.set_cons_zero, List.set_cons_succ]
  refine growL_skip (unwanted_of g53 rfl rfl) ?_
  simp only [Act.put, List.setIfInBounds_toArray, List.set_cons_zero, List.set_cons_succ]
  refine growL_skip (unwanted_of g53 rfl rfl) ?_
  simp only [Act.put, List.setIfInBounds_toArray, List.set_cons_zero, List.set_cons_succ]
  refine growL_take (by rfl) ?_
  apply Exists.intro
  refine ⟨fun w' hE => ?_, ?_⟩
  · obtain ⟨k0, k1, k2, k3, k4, k5⟩ := dt_at HQ.out hE
    go_simp
    try with_reducible rfl
  simp only [Act.put, List.setIfInBounds_toArray, List.set_cons_zero, List.set_cons_succ]
  refine growL_take (by rfl) ?_
  apply Exists.intro
  refine ⟨fun w' hE => ?_, ?_⟩
  · obtain ⟨k0, k1, k2, k3, k4, k5⟩ := dt_at HQ.out hE
    go_simp
    try with_reducible rfl
  simp only [Act.put, List.setIfInBounds_toArray, List.set_cons_zero, List.set_cons_succ]
  refine growL_skip (unwanted_of g58 rfl rfl) ?_
  simp only [Act.put, List.setIfInBounds_toArray, List.set_cons_zero, List.set_cons_succ]
  refine growL_skip (unwanted_of g58 rfl rfl) ?_
  simp only [Act.put, List.setIfInBounds_toArray, List.set_cons_zero, List.set_cons_succ]
  refine growL_skip (unwanted_of g58 rfl rfl) ?_
  simp only [Act.put, List.setIfInBounds_toArray, List.set_cons_zero, List.set_cons_succ]
  refine growL_take (by rfl) ?_
  apply Exists.intro
  refine ⟨fun w' hE => ?_, ?_⟩
  · obtain ⟨k0, k1, k2, k3, k4, k5⟩ := dt_at HQ.out hE
    go_simp
    try with_reducible rfl
  simp only [Act.put, List.setIfInBounds_toArray, List.set_cons_zero, List.set_cons_succ]
  refine growL_take (by rfl) ?_
  apply Exists.intro
  refine ⟨fun w' hE => ?_, ?_⟩
  · obtain ⟨k0, k1, k2, k3, k4, k5⟩ := dt_at HQ.out hE
    go_simp
    try with_reducible rfl
  simp only [Act.put, List.setIfInBounds_toArray, List.set_cons_zero, List.set_cons_succ]
  refine growL_done (NoPanic.normal ?_)
  simp only [Exit.then]
  go_wp2_with fail
  go_ret
  exact ⟨rfl, HD1.out⟩

set_option maxRecDepth 100000 in
set_option maxHeartbeats 8000000 in
theorem rmay_no10 (y m d h i s : Int) (w : World) (c1 : 1970 ≤ y) (c2 : y ≤ 9999) (c3 : 1 ≤ m) (c4 : m ≤ 12) (c5 : 1 ≤ d) (c6 : d ≤ domI y (m - 1)) (c7 : 0 ≤ h) (c8 : h ≤ 23) (c9 : 0 ≤ i) (n10 : ¬ i ≤ 59) :
    Calls Tryz.prog 50 #[.agg #[.int .i64 y, .int .i64 m, .int .i64 d, .int .i64 h, .int .i64 i, .int .i64 s]] w fun e w' => e = .returned (.bool false) ∧ Below w.heap.size w w' := by
  have n10' : decide (i ≤ 59) = false := decide_eq_false n10
  clear n10
  go_enter Tryz.func50, Tryz.ntmps50
  go_wp2_with fail
  have HP : Hid ((w.alloc (.cells (dtRow y m d h i s) 84)).drew.heap[w.heap.size]? = some (.cells (dtRow y m d h i s) 84 (0, 0))) := alloc_self _ _ _
  have HD0 : Hid (Below w.heap.size w (w.alloc (.cells (dtRow y m d h i s) 84)).drew) := ((Below.refl _ _).alloc (Nat.le_refl _) _).drew
  refine wp_region_growL [(0, false), (1, false), (2, false), (3, false), (4, false), (5, false), (6, false), (7, false), (8, false), (9, false), (10, false), (11, false), (12, false), (13, false), (14, false), (15, false), (16, false), (17, false), (18, false), (19, false), (20, false), (21, false), (22, false), (23, false), (24, false), (25, false), (26, false), (27, false), (28, false), (29, false), (30, true), (31, false), (32, false), (33, false), (34, false), (35, false), (36, false), (37, false), (38, false), (39, false), (40, false), (41, false), (42, false), (43, false), (44, false), (45, false), (46, false), (47, false), (48, false), (49, false), (50, false), (51, false), (52, false), (53, false), (54, false), (55, false), (56, false), (57, false), (58, false), (59, false), (60, false), (61, false), (62, false), (63, false)] (by kernel_rfl) (by kernel_rfl) rfl (by kernel_rfl) (by kernel_rfl) (fun ops hops => ?_)
  simp only [inOrder, List.getD_cons_zero, List.getD_cons_succ]
  have g3 : (ops[3]?).bind (·.dst) = some 6 := by rw [hops.out]; rfl
  have g8 : (ops[8]?).bind (·.dst) = some 11 := by rw [hops.out]; rfl
  have g13 : (ops[13]?).bind (·.dst) = some 16 := by rw [hops.out]; rfl
  have g18 : (ops[18]?).bind (·.dst) = some 21 := by rw [hops.out]; rfl
  have g23 : (ops[23]?).bind (·.dst) = some 26 := by rw [hops.out]; rfl
  have g33 : (ops[33]?).bind (·.dst) = some 36 := by rw [hops.out]; rfl
  have g38 : (ops[38]?).bind (·.dst) = some 41 := by rw [hops.out]; rfl
  have g43 : (ops[43]?).bind (·.dst) = some 46 := by rw [hops.out]; rfl
  have g48 : (ops[48]?).bind (·.dst) = some 51 := by rw [hops.out]; rfl
  have g53 : (ops[53]?).bind (·.dst) = some 56 := by rw [hops.out]; rfl
  have g58 : (ops[58]?).bind (·.dst) = some 61 := by rw [hops.out]; rfl
  clear hops
  refine growL_take (by rfl) ?_
  apply Exists.intro
  refine ⟨fun w' hE => ?_, ?_⟩
  · obtain ⟨k0, k1, k2, k3, k4, k5⟩ := dt_at HP.out hE
    go_simp
    try with_reducible rfl
  simp only [Act.put, List.setIfInBounds_toArray, List.set_cons_zero, List.set_cons_succ]
  refine growL_take (by rfl) ?_
  apply Exists.intro
  refine ⟨fun w' hE => ?_, ?_⟩
  · obtain ⟨k0, k1, k2, k3, k4, k5⟩ := dt_at HP.out hE
    go_simp
    try with_reducible rfl
  simp only [Act.put, List.setIfInBounds_toArray, List.set_cons_zero, List.set_cons_succ]
  refine growL_take (by rfl) ?_
  apply Exists.intro
  refine ⟨fun w' hE => ?_, ?_⟩
  · obtain ⟨k0, k1, k2, k3, k4, k5⟩ := dt_at HP.out hE
    go_simp
    try with_reducible rfl
  simp only [Act.put, List.setIfInBounds_toArray, List.set_cons_zero, List.set_cons_succ]
  refine growL_take (by rfl) ?_
  apply Exists.intro
  refine ⟨fun w' hE => ?_, ?_⟩
  · obtain ⟨k0, k1, k2, k3, k4, k5⟩ := dt_at HP.out hE
    go_simp
    try with_reducible rfl
  simp only [Act.put, List.setIfInBounds_toArray, List.set_cons_zero, List.set_cons_succ]
  refine growL_take (wanted_of g3 rfl rfl) ?_
  apply Exists.intro
  refine ⟨fun w' hE => ?_, ?_⟩
  · obtain ⟨k0, k1, k2, k3, k4, k5⟩ := dt_at HP.out hE
    go_simp
    try with_reducible rfl
  simp only [Act.put, List.setIfInBounds_toArray, List.set_cons_zero, List.set_cons_succ]
  refine growL_take (wanted_of g3 rfl rfl) ?_
  apply Exists.intro
  refine ⟨fun w' hE => ?_, ?_⟩
  · obtain ⟨k0, k1, k2, k3, k4, k5⟩ := dt_at HP.out hE
    go_simp
    try with_reducible rfl
  simp only [Act.put, List.setIfInBounds_toArray, List.set_cons_zero, List.set_cons_succ]
  refine growL_take (wanted_of g3 rfl rfl) ?_
  apply Exists.intro
  refine ⟨fun w' hE => ?_, ?_⟩
  · obtain ⟨k0, k1, k2, k3, k4, k5⟩ := dt_at HP.out hE
    go_simp
    try with_reducible rfl
  simp only [Act.put, List.setIfInBounds_toArray, List.set_cons_zero, List.set_cons_succ]
  refine growL_take (by rfl) ?_
  apply Exists.intro
  refine ⟨fun w' hE => ?_, ?_⟩
  · obtain ⟨k0, k1, k2, k3, k4, k5⟩ := dt_at HP.out hE
    go_simp
    try with_reducible rfl
  simp only [Act.put, List.setIfInBounds_toArray, List.set_cons_zero, List.set_cons_succ]
  refine growL_take (by rfl) ?_
  apply Exists.intro
  refine ⟨fun w' hE => ?_, ?_⟩
  · obtain ⟨k0, k1, k2, k3, k4, k5⟩ := dt_at HP.out hE
    go_simp
    try with_reducible rfl
  simp only [Act.put, List.setIfInBounds_toArray, List.set_cons_zero, List.set_cons_succ]
  refine growL_take (wanted_of g8 rfl rfl) ?_
  apply Exists.intro
  refine ⟨fun w' hE => ?_, ?_⟩
  · obtain ⟨k0, k1, k2, k3, k4, k5⟩ := dt_at HP.out hE
    go_simp
    try with_reducible rfl
  simp only [Act.put, List.setIfInBounds_toArray, List.set_cons_zero, List.set_cons_succ]
  refine growL_take (wanted_of g8 rfl rfl) ?_
  apply Exists.intro
  refine ⟨fun w' hE => ?_, ?_⟩
  · obtain ⟨k0, k1, k2, k3, k4, k5⟩ := dt_at HP.out hE
    go_simp
    try with_reducible rfl
  simp only [Act.put, List.setIfInBounds_toArray, List.set_cons_zero, List.set_cons_succ]
  refine growL_take (wanted_of g8 rfl rfl) ?_
  apply Exists.intro
  refine ⟨fun w' hE => ?_, ?_⟩
  · obtain ⟨k0, k1, k2, k3, k4, k5⟩ := dt_at HP.out hE
    go_simp
    try with_reducible rfl
  simp only [Act.put, List.setIfInBounds_toArray, List.set_cons_zero, List.set_cons_succ]
  refine growL_take (by rfl) ?_
  apply Exists.intro
  refine ⟨fun w' hE => ?_, ?_⟩
  · obtain ⟨k0, k1, k2, k3, k4, k5⟩ := dt_at HP.out hE
    go_simp
    try with_reducible rfl
  simp only [Act.put, List.setIfInBounds_toArray, List.set_cons_zero, List.set_cons_succ]
  refine growL_take (by rfl) ?_
  apply Exists.intro
  refine ⟨fun w' hE => ?_, ?_⟩
  · obtain ⟨k0, k1, k2, k3, k4, k5⟩ := dt_at HP.out hE
    go_simp
    try with_reducible rfl
  simp only [Act.put, List.setIfInBounds_toArray, List.set_cons_zero, List.set_cons_succ]
  refine growL_take (wanted_of g13 rfl rfl) ?_
  apply Exists.intro
  refine ⟨fun w' hE => ?_, ?_⟩
  · obtain ⟨k0, k1, k2, k3, k4, k5⟩ := dt_at HP.out hE
    go_simp
    try with_reducible rfl
  simp only [Act.put, List.setIfInBounds_toArray, List.set_cons_zero, List.set_cons_succ]
  refine growL_take (wanted_of g13 rfl rfl) ?_
  apply Exists.intro
  refine ⟨fun w' hE => ?_, ?_⟩
  · obtain ⟨k0, k1, k2, k3, k4, k5⟩ := dt_at HP.out hE
    go_simp
    try with_reducible rfl
  simp only [Act.put, List.setIfInBounds_toArray, List.set_cons_zero, List.set_cons_succ]
  refine growL_take (wanted_of g13 rfl rfl) ?_
  apply Exists.intro
  refine ⟨fun w' hE => ?_, ?_⟩
  · obtain ⟨k0, k1, k2, k3, k4, k5⟩ := dt_at HP.out hE
    go_simp
    try with_reducible rfl
  simp only [Act.put, List.setIfInBounds_toArray, List.set_cons_zero, List.set_cons_succ]
  refine growL_take (by rfl) ?_
  apply Exists.intro
  refine ⟨fun w' hE => ?_, ?_⟩
  · obtain ⟨k0, k1, k2, k3, k4, k5⟩ := dt_at HP.out hE
    go_simp
    try with_reducible rfl
  simp only [Act.put, List.setIfInBounds_toArray, List.set_cons_zero, List.set_cons_succ]
  refine growL_take (by rfl) ?_
  apply Exists.intro
  refine ⟨fun w' hE => ?_, ?_⟩
  · obtain ⟨k0, k1, k2, k3, k4, k5⟩ := dt_at HP.out hE
    go_simp
    try with_reducible rfl
  simp only [Act.put, List.setIfInBounds_toArray, List.set_cons_zero, List.set_cons_succ]
  refine growL_take (wanted_of g18 rfl rfl) ?_
  apply Exists.intro
  refine ⟨fun w' hE => ?_, ?_⟩
  · obtain ⟨k0, k1, k2, k3, k4, k5⟩ := dt_at HP.out hE
    go_simp
    try with_reducible rfl
  simp only [Act.put, List.setIfInBounds_toArray, List.set_cons_zero, List.set_cons_succ]
  refine growL_take (wanted_of g18 rfl rfl) ?_
  apply Exists.intro
  refine ⟨fun w' hE => ?_, ?_⟩
  · obtain ⟨k0, k1, k2, k3, k4, k5⟩ := dt_at HP.out hE
    go_simp
    try with_reducible rfl
  simp only [Act.put, List.setIfInBounds_toArray, List.set_cons_zero, List.set_cons_succ]
  refine growL_take (wanted_of g18 rfl rfl) ?_
  apply Exists.intro
  refine ⟨fun w' hE => ?_, ?_⟩
  · obtain ⟨k0, k1, k2, k3, k4, k5⟩ := dt_at HP.out hE
    go_simp
    try with_reducible rfl
  simp only [Act.put, List.setIfInBounds_toArray, List.set_cons_zero, List.set_cons_succ]
  refine growL_take (by rfl) ?_
  apply Exists.intro
  refine ⟨fun w' hE => ?_, ?_⟩
  · obtain ⟨k0, k1, k2, k3, k4, k5⟩ := dt_at HP.out hE
    go_simp
    try with_reducible rfl
  simp only [Act.put, List.setIfInBounds_toArray, List.set_cons_zero, List.set_cons_succ]
  refine growL_take (by rfl) ?_
  apply Exists.intro
  refine ⟨fun w' hE => ?_, ?_⟩
  · obtain ⟨k0, k1, k2, k3, k4, k5⟩ := dt_at HP.out hE
    go_simp
    try with_reducible rfl
  simp only [Act.put, List.setIfInBounds_toArray, List.set_cons_zero, List.set_cons_succ]
  refine growL_take (wanted_of g23 rfl rfl) ?_
  apply Exists.intro
  refine ⟨fun w' hE => ?_, ?_⟩
  · obtain ⟨k0, k1, k2, k3, k4, k5⟩ := dt_at HP.out hE
    go_simp
    try with_reducible rfl
  simp only [Act.put, List.setIfInBounds_toArray, List.set_cons_zero, List.set_cons_succ]
  refine growL_take (wanted_of g23 rfl rfl) ?_
  apply Exists.intro
  refine ⟨fun w' hE => ?_, ?_⟩
  · obtain ⟨k0, k1, k2, k3, k4, k5⟩ := dt_at HP.out hE
    go_simp
    try with_reducible rfl
  simp only [Act.put, List.setIfInBounds_toArray, List.set_cons_zero, List.set_cons_succ]
  refine growL_take (wanted_of g23 rfl rfl) ?_
  apply Exists.intro
  refine ⟨fun w' hE => ?_, ?_⟩
  · obtain ⟨k0, k1, k2, k3, k4, k5⟩ := dt_at HP.out hE
    go_simp
    try with_reducible rfl
  simp only [Act.put, List.setIfInBounds_toArray, List.set_cons_zero, List.set_cons_succ]
  refine growL_take (wanted_of g23 rfl rfl) ?_
  apply Exists.intro
  refine ⟨fun w' hE => ?_, ?_⟩
  · obtain ⟨k0, k1, k2, k3, k4, k5⟩ := dt_at HP.out hE
    go_simp
    try with_reducible rfl
  simp only [Act.put, List.setIfInBounds_toArray, List.set_cons_zero, List.set_cons_succ]
  refine growL_take (wanted_of g23 rfl rfl) ?_
  apply Exists.intro
  refine ⟨fun w' hE => ?_, ?_⟩
  · obtain ⟨k0, k1, k2, k3, k4, k5⟩ := dt_at HP.out hE
    go_simp
    try with_reducible rfl
  simp only [Act.put, List.setIfInBounds_toArray, List.set_cons_zero, List.set_cons_succ]
  refine growL_take (wanted_of g23 rfl rfl) ?_
  apply Exists.intro
  refine ⟨fun w' hE => ?_, ?_⟩
  · obtain ⟨k0, k1, k2, k3, k4, k5⟩ := dt_at HP.out hE
    go_simp
    try with_reducible rfl
  simp only [Act.put, List.setIfInBounds_toArray, List.set_cons_zero, List.set_cons_succ]
  refine growL_call (wanted_of g23 rfl rfl) (fun K hK => ?_)
  go_simp
  refine (rdays2_any y m _ (by omega) (by omega) (by omega) (by omega)).mono ?_
  rintro e w1 ⟨rfl, hb1⟩
  refine hK.out _ _ hb1 ?_
  clear hK K
  have HQ := Lib.hid (grown_block HP.out hb1)
  have HD1 := Lib.hid (HD0.out.trans (hb1.mono HD0.out.size))
  clear hb1
  refine growL_take (wanted_of g23 rfl rfl) ?_
  apply Exists.intro
  refine ⟨fun w' hE => ?_, ?_⟩
  · obtain ⟨k0, k1, k2, k3, k4, k5⟩ := dt_at HQ.out hE
    go_simp
    try with_reducible rfl
  simp only [Act.put, List.setIfInBounds_toArray, List.set_cons_zero, List.set_cons_succ]
  refine growL_take (by rfl) ?_
  apply Exists.intro
  refine ⟨fun w' hE => ?_, ?_⟩
  · obtain ⟨k0, k1, k2, k3, k4, k5⟩ := dt_at HQ.out hE
    go_simp
    try with_reducible rfl
  simp only [Act.put, List.setIfInBounds_toArray, List.set_cons_zero, List.set_cons_succ]
  refine growL_take (by rfl) ?_
  apply Exists.intro
  refine ⟨fun w' hE => ?_, ?_⟩
  · obtain ⟨k0, k1, k2, k3, k4, k5⟩ := dt_at HQ.out hE
    go_simp
    try with_reducible rfl
  simp only [Act.put, List.setIfInBounds_toArray, List.set_cons_zero, List.set_cons_succ]
  refine growL_take (wanted_of g33 rfl rfl) ?_
  apply Exists.intro
  refine ⟨fun w' hE => ?_, ?_⟩
  · obtain ⟨k0, k1, k2, k3, k4, k5⟩ := dt_at HQ.out hE
    go_simp
    try with_reducible rfl
  simp only [Act.put, List.setIfInBounds_toArray, List.set_cons_zero, List.set_cons_succ]
  refine growL_take (wanted_of g33 rfl rfl) ?_
  apply Exists.intro
  refine ⟨fun w' hE => ?_, ?_⟩
  · obtain ⟨k0, k1, k2, k3, k4, k5⟩ := dt_at HQ.out hE
    go_simp
    try with_reducible rfl
  simp only [Act.put, List.setIfInBounds_toArray, List.set_cons_zero, List.set_cons_succ]
  refine growL_take (wanted_of g33 rfl rfl) ?_
  apply Exists.intro
  refine ⟨fun w' hE => ?_, ?_⟩
  · obtain ⟨k0, k1, k2, k3, k4, k5⟩ := dt_at HQ.out hE
    go_simp
    try with_reducible rfl
  simp only [Act.put, List.setIfInBounds_toArray, List.set_cons_zero, List.set_cons_succ]
  refine growL_take (by rfl) ?_
  apply Exists.intro
  refine ⟨fun w' hE => ?_, ?_⟩
  · obtain ⟨k0, k1, k2, k3, k4, k5⟩ := dt_at HQ.out hE
    go_simp
    try with_reducible rfl
  simp only [Act.put, List.setIfInBounds_toArray, List.set_cons_zero, List.set_cons_succ]
  refine growL_take (by rfl) ?_
  apply Exists.intro
  refine ⟨fun w' hE => ?_, ?_⟩
  · obtain ⟨k0, k1, k2, k3, k4, k5⟩ := dt_at HQ.out hE
    go_simp
    try with_reducible rfl
  simp only [Act.put, List.setIfInBounds_toArray, List.set_cons_zero, List.set_cons_succ]
  refine growL_take (wanted_of g38 rfl rfl) ?_
  apply Exists.intro
  refine ⟨fun w' hE => ?_, ?_⟩
  · obtain ⟨k0, k1, k2, k3, k4, k5⟩ := dt_at HQ.out hE
    go_simp
    try with_reducible rfl
  simp only [Act.put, List.setIfInBounds_toArray, List.set_cons_zero, List.set_cons_succ]
  refine growL_take (wanted_of g38 rfl rfl) ?_
  apply Exists.intro
  refine ⟨fun w' hE => ?_, ?_⟩
  · obtain ⟨k0, k1, k2, k3, k4, k5⟩ := dt_at HQ.out hE
    go_simp
    try with_reducible rfl
  simp only [Act.put, List.setIfInBounds_toArray, List.set_cons_zero, List.set_cons_succ]
  refine growL_take (wanted_of g38 rfl rfl) ?_
  apply Exists.intro
  refine ⟨fun w' hE => ?_, ?_⟩
  · obtain ⟨k0, k1, k2, k3, k4, k5⟩ := dt_at HQ.out hE
    go_simp
    try with_reducible rfl
  simp only [Act.put, List.setIfInBounds_toArray, List.set_cons_zero, List.set_cons_succ]
  refine growL_take (by rfl) ?_
  apply Exists.intro
  refine ⟨fun w' hE => ?_, ?_⟩
  · obtain ⟨k0, k1, k2, k3, k4, k5⟩ := dt_at HQ.out hE
    go_simp
    try with_reducible rfl
  simp only [Act.put, List.setIfInBounds_toArray, List.set_cons_zero, List.set_cons_succ]
  refine growL_take (by rfl) ?_
  apply Exists.intro
  refine ⟨fun w' hE => ?_, ?_⟩
  · obtain ⟨k0, k1, k2, k3, k4, k5⟩ := dt_at HQ.out hE
    go_simp
    try with_reducible rfl
  simp only [Act.put, List.setIfInBounds_toArray, List.set_cons_zero, List.set_cons_succ]
  refine growL_take (wanted_of g43 rfl rfl) ?_
  apply Exists.intro
  refine ⟨fun w' hE => ?_, ?_⟩
  · obtain ⟨k0, k1, k2, k3, k4, k5⟩ := dt_at HQ.out hE
    go_simp
    try with_reducible rfl
  simp only [Act.put, List.setIfInBounds_toArray, List.set_cons_zero, List.set_cons_succ]
  refine growL_take (wanted_of g43 rfl rfl) ?_
  apply Exists.intro
  refine ⟨fun w' hE => ?_, ?_⟩
  · obtain ⟨k0, k1, k2, k3, k4, k5⟩ := dt_at HQ.out hE
    go_simp
    try with_reducible rfl
  simp only [Act.put, List.setIfInBounds_toArray, List.set_cons_zero, List.set_cons_succ]
  refine growL_take (wanted_of g43 rfl rfl) ?_
  apply Exists.intro
  refine ⟨fun w' hE => ?_, ?_⟩
  · obtain ⟨k0, k1, k2, k3, k4, k5⟩ := dt_at HQ.out hE
    go_simp
    try with_reducible rfl
  simp only [Act.put, List.setIfInBounds_toArray, List.set_cons_zero, List.set_cons_succ]
  refine growL_take (by rfl) ?_
  apply Exists.intro
  refine ⟨fun w' hE => ?_, ?_⟩
  · obtain ⟨k0, k1, k2, k3, k4, k5⟩ := dt_at HQ.out hE
    go_simp
    try with_reducible rfl
  simp only [Act.put, List.setIfInBounds_toArray, List.set_cons_zero, List.set_cons_succ]
  refine growL_take (by rfl) ?_
  apply Exists.intro
  refine ⟨fun w' hE => ?_, ?_⟩
  · obtain ⟨k0, k1, k2, k3, k4, k5⟩ := dt_at HQ.out hE
    go_simp
    try with_reducible rfl
  simp only [Act.put, List.setIfInBounds_toArray, List.set_cons_zero, List.set_cons_succ]
  refine growL_take (wanted_of g48 rfl rfl) ?_
  apply Exists.intro
  refine ⟨fun w' hE => ?_, ?_⟩
  · obtain ⟨k0, k1, k2, k3, k4, k5⟩ := dt_at HQ.out hE
    go_simp
    try with_reducible rfl
  simp only [Act.put, List.setIfInBounds_toArray, List.set_cons_zero, List.set_cons_succ]
  refine growL_take (wanted_of g48 rfl rfl) ?_
  apply Exists.intro
  refine ⟨fun w' hE => ?_, ?_⟩
  · obtain ⟨k0, k1, k2, k3, k4, k5⟩ := dt_at HQ.out hE
    go_simp
    try with_reducible rfl
  simp only [Act.put, List.setIfInBounds_toArray, List.set_cons_zero, List.set_cons_succ]
  refine growL_take (wanted_of g48 rfl rfl) ?_
  apply Exists.intro
  refine ⟨fun w' hE => ?_, ?_⟩
  · obtain ⟨k0, k1, k2, k3, k4, k5⟩ := dt_at HQ.out hE
    go_simp
    try with_reducible rfl
  simp only [Act.put, List.setIfInBounds_toArray, List.set_cons_zero, List.set_cons_succ]
  refine growL_take (by rfl) ?_
  apply Exists.intro
  refine ⟨fun w' hE => ?_, ?_⟩
  · obtain ⟨k0, k1, k2, k3, k4, k5⟩ := dt_at HQ.out hE
    go_simp
    try with_reducible rfl
  simp only [Act.put, List.setIfInBounds_toArray, List.set_cons_zero, List.set_cons_succ]
  refine growL_take (by rfl) ?_
  apply Exists.intro
  refine ⟨fun w' hE => ?_, ?_⟩
  · obtain ⟨k0, k1, k2, k3, k4, k5⟩ := dt_at HQ.out hE
    go_simp
    try with_reducible rfl
  simp only [Act.put, List.setIfInBounds_toArray, List.set_cons_zero, List.set_cons_succ]
  refine growL_skip (unwanted_of g53 rfl rfl) ?_
  simp only [Act.put, List.setIfInBounds_toArray, List.set_cons_zero, List.set_cons_succ]
  refine growL_skip (unwanted_of g53 rfl rfl) ?_
  simp only [Act.put, List.setIfInBounds_toArray, List.set_cons_zero, List.set_cons_succ]
  refine growL_skip (unwanted_of g53 rfl rfl) ?_
  simp only [Act.put, List.setIfInBounds_toArray, List.set_cons_zero, List.set_cons_succ]
  refine growL_take (by rfl) ?_
  apply Exists.intro
  refine ⟨fun w' hE => ?_, ?_⟩
  · obtain ⟨k0, k1, k2, k3, k4, k5⟩ := dt_at HQ.out hE
    go_simp
    try with_reducible rfl
  simp only [Act.put, List.setIfInBounds_toArray, List.set_cons_zero, List.set_cons_succ]
  refine growL_take (by rfl) ?_
  apply Exists.intro
  refine ⟨fun w' hE => ?_, ?_⟩
  · obtain ⟨k0, k1, k2, k3, k4, k5⟩ := dt_at HQ.out hE
    go_simp
    try with_reducible rfl
  simp only [Act.put, List.setIfInBounds_toArray, List.set_cons_zero, List.set_cons_succ]
  refine growL_skip (unwanted_of g58 rfl rfl) ?_
  simp only [Act.put, List.setIfInBounds_toArray, List.set_cons_zero, List.set_cons_succ]
  refine growL_skip (unwanted_of g58 rfl rfl) ?_
  simp only [Act.put, List.setIfInBounds_toArray, List.set_cons_zero, List.set_cons_succ]
  refine growL_skip (unwanted_of g58 rfl rfl) ?_
  simp only [Act.put, List.setIfInBounds_toArray, List.set_cons_zero, List.set_cons_succ]
  refine growL_take (by rfl) ?_
  apply Exists.intro
  refine ⟨fun w' hE => ?_, ?_⟩
  · obtain ⟨k0, k1, k2, k3, k4, k5⟩ := dt_at HQ.out hE
    go_simp
    try with_reducible rfl
  simp only [Act.put, List.setIfInBounds_toArray, List.set_cons_zero, List.set_cons_succ]
  refine growL_take (by rfl) ?_
  apply Exists.intro
  refine ⟨fun w' hE => ?_, ?_⟩
  · obtain ⟨k0, k1, k2, k3, k4, k5⟩ := dt_at HQ.out hE
    go_simp
    try with_reducible rfl
  simp only [Act.put, List.setIfInBounds_toArray, List.set_cons_zero, List.set_cons_succ]
  refine growL_done (NoPanic.normal ?_)
  simp only [Exit.then]
  go_wp2_with fail
  go_ret
  exact ⟨rfl, HD1.out⟩

set_option maxRecDepth 100000 in
set_option maxHeartbeats 8000000 in
theorem rmay_no11 (y m d h i s : Int) (w : World) (c1 : 1970 ≤ y) (c2 : y ≤ 9999) (c3 : 1 ≤ m) (c4 : m ≤ 12) (c5 : 1 ≤ d) (c6 : d ≤ domI y (m - 1)) (c7 : 0 ≤ h) (c8 : h ≤ 23) (c9 : 0 ≤ i) (c10 : i ≤ 59) (n11 : ¬ 0 ≤ s) :
    Calls Tryz.prog 50 #[.agg #[.int .i64 y, .int .i64 m, .int .i64 d, .int .i64 h, .int .i64 i, .int .i64 s]] w fun e w' => e = .returned (.bool false) ∧ Below w.heap.size w w' := by
  have n11' : decide (0 ≤ s) = false := decide_eq_false n11
  clear n11
  go_enter Tryz.func50, Tryz.ntmps50
  go_wp2_with fail
  have HP : Hid ((w.alloc (.cells (dtRow y m d h i s) 84)).drew.heap[w.heap.size]? = some (.cells (dtRow y m d h i s) 84 (0, 0))) := alloc_self _ _ _
  have HD0 : Hid (Below w.heap.size w (w.alloc (.cells (dtRow y m d h i s) 84)).drew) := ((Below.refl _ _).alloc (Nat.le_refl _) _).drew
  refine wp_region_growL [(0, false), (1, false), (2, false), (3, false), (4, false), (5, false), (6, false), (7, false), (8, false), (9, false), (10, false), (11, false), (12, false), (13, false), (14, false), (15, false), (16, false), (17, false), (18, false), (19, false), (20, false), (21, false), (22, false), (23, false), (24, false), (25, false), (26, false), (27, false), (28, false), (29, false), (30, true), (31, false), (32, false), (33, false), (34, false), (35, false), (36, false), (37, false), (38, false), (39, false), (40, false), (41, false), (42, false), (43, false), (44, false), (45, false), (46, false), (47, false), (48, false), (49, false), (50, false), (51, false), (52, false), (53, false), (54, false), (55, false), (56, false), (57, false), (58, false), (59, false), (60, false), (61, false), (62, false), (63, false)] (by kernel_rfl) (by kernel_rfl) rfl (by kernel_rfl) (by kernel_rfl) (fun ops hops => ?_)
  simp only [inOrder, List.getD_cons_zero, List.getD_cons_succ]
  have g3 : (ops[3]?).bind (·.dst) = some 6 := by rw [hops.out]; rfl
  have g8 : (ops[8]?).bind (·.dst) = some 11 := by rw [hops.out]; rfl
  have g13 : (ops[13]?).bind (·.dst) = some 16 := by rw [hops.out]; rfl
  have g18 : (ops[18]?).bind (·.dst) = some 21 := by rw [hops.out]; rfl
  have g23 : (ops[23]?).bind (·.dst) = some 26 := by rw [hops.out]; rfl
  have g33 : (ops[33]?).bind (·.dst) = some 36 := by rw [hops.out]; rfl
  have g38 : (ops[38]?).bind (·.dst) = some 41 := by rw [hops.out]; rfl
  have g43 : (ops[43]?).bind (·.dst) = some 46 := by rw [hops.out]; rfl
  have g48 : (ops[48]?).bind (·.dst) = some 51 := by rw [hops.out]; rfl
  have g53 : (ops[53]?).bind (·.dst) = some 56 := by rw [hops.out]; rfl
  have g58 : (ops[58]?).bind (·.dst) = some 61 := by rw [hops.out]; rfl
  clear hops
  refine growL_take (by rfl) ?_
  apply Exists.intro
  refine ⟨fun w' hE => ?_, ?_⟩
  · obtain ⟨k0, k1, k2, k3, k4, k5⟩ := dt_at HP.out hE
    go_simp
    try with_reducible rfl
  simp only [Act.put, List.setIfInBounds_toArray, List.set_cons_zero, List.set_cons_succ]
  refine growL_take (by rfl) ?_
  apply Exists.intro
  refine ⟨fun w' hE => ?_, ?_⟩
  · obtain ⟨k0, k1, k2, k3, k4, k5⟩ := dt_at HP.out hE
    go_simp
    try with_reducible rfl
  simp only [Act.put, List.setIfInBounds_toArray, List.set_cons_zero, List.set_cons_succ]
  refine growL_take (by rfl) ?_
  apply Exists.intro
  refine ⟨fun w' hE => ?_, ?_⟩
  · obtain ⟨k0, k1, k2, k3, k4, k5⟩ := dt_at HP.out hE
    go_simp
    try with_reducible rfl
  simp only [Act.put, List.setIfInBounds_toArray, List.set_cons_zero, List.set_cons_succ]
  refine growL_take (by rfl) ?_
  apply Exists.intro
  refine ⟨fun w' hE => ?_, ?_⟩
  · obtain ⟨k0, k1, k2, k3, k4, k5⟩ := dt_at HP.out hE
    go_simp
    try with_reducible rfl
  simp only [Act.put, List.setIfInBounds_toArray, List.set_cons_zero, List.set_cons_succ]
  refine growL_take (wanted_of g3 rfl rfl) ?_
  apply Exists.intro
  refine ⟨fun w' hE => ?_, ?_⟩
  · obtain ⟨k0, k1, k2, k3, k4, k5⟩ := dt_at HP.out hE
    go_simp
    try with_reducible rfl
  simp only [Act.put, List.setIfInBounds_toArray, List.set_cons_zero, List.set_cons_succ]
  refine growL_take (wanted_of g3 rfl rfl) ?_
  apply Exists.intro
  refine ⟨fun w' hE => ?_, ?_⟩
  · obtain ⟨k0, k1, k2, k3, k4, k5⟩ := dt_at HP.out hE
    go_simp
    try with_reducible rfl
  simp only [Act.put, List.setIfInBounds_toArray, List.set_cons_zero, List.set_cons_succ]
  refine growL_take (wanted_of g3 rfl rfl) ?_
  apply Exists.intro
  refine ⟨fun w' hE => ?_, ?_⟩
  · obtain ⟨k0, k1, k2, k3, k4, k5⟩ := dt_at HP.out hE
    go_simp
    try with_reducible rfl
  simp only [Act.put, List.setIfInBounds_toArray, List.set_cons_zero, List.set_cons_succ]
  refine growL_take (by rfl) ?_
  apply Exists.intro
  refine ⟨fun w' hE => ?_, ?_⟩
  · obtain ⟨k0, k1, k2, k3, k4, k5⟩ := dt_at HP.out hE
    go_simp
    try with_reducible rfl
  simp only [Act.put, List.setIfInBounds_toArray, List.set_cons_zero, List.set_cons_succ]
  refine growL_take (by rfl) ?_
  apply Exists.intro
  refine ⟨fun w' hE => ?_, ?_⟩
  · obtain ⟨k0, k1, k2, k3, k4, k5⟩ := dt_at HP.out hE
    go_simp
    try with_reducible rfl
  simp only [Act.put, List.setIfInBounds_toArray, List.set_cons_zero, List.set_cons_succ]
  refine growL_take (wanted_of g8 rfl rfl) ?_
  apply Exists.intro
  refine ⟨fun w' hE => ?_, ?_⟩
  · obtain ⟨k0, k1, k2, k3, k4, k5⟩ := dt_at HP.out hE
    go_simp
    try with_reducible rfl
  simp only [Act.put, List.setIfInBounds_toArray, List.set_cons_zero, List.set_cons_succ]
  refine growL_take (wanted_of g8 rfl rfl) ?_
  apply Exists.intro
  refine ⟨fun w' hE => ?_, ?_⟩
  · obtain ⟨k0, k1, k2, k3, k4, k5⟩ := dt_at HP.out hE
    go_simp
    try with_reducible rfl
  simp only [Act.put, List.setIfInBounds_toArray, List.set_cons_zero, List.set_cons_succ]
  refine growL_take (wanted_of g8 rfl rfl) ?_
  apply Exists.intro
  refine ⟨fun w' hE => ?_, ?_⟩
  · obtain ⟨k0, k1, k2, k3, k4, k5⟩ := dt_at HP.out hE
    go_simp
    try with_reducible rfl
  simp only [Act.put, List.setIfInBounds_toArray, List.set_cons_zero, List.set_cons_succ]
  refine growL_take (by rfl) ?_
  apply Exists.intro
  refine ⟨fun w' hE => ?_, ?_⟩
  · obtain ⟨k0, k1, k2, k3, k4, k5⟩ := dt_at HP.out hE
    go_simp
    try with_reducible rfl
  simp only [Act.put, List.setIfInBounds_toArray, List.set_cons_zero, List.set_cons_succ]
  refine growL_take (by rfl) ?_
  apply Exists.intro
  refine ⟨fun w' hE => ?_, ?_⟩
  · obtain ⟨k0, k1, k2, k3, k4, k5⟩ := dt_at HP.out hE
    go_simp
    try with_reducible rfl
  simp only [Act.put, List.setIfInBounds_toArray, List.set_cons_zero, List.set_cons_succ]
  refine growL_take (wanted_of g13 rfl rfl) ?_
  apply Exists.intro
  refine ⟨fun w' hE => ?_, ?_⟩
  · obtain ⟨k0, k1, k2, k3, k4, k5⟩ := dt_at HP.out hE
    go_simp
    try with_reducible rfl
  simp only [Act.put, List.setIfInBounds_toArray, List.set_cons_zero, List.set_cons_succ]
  refine growL_take (wanted_of g13 rfl rfl) ?_
  apply Exists.intro
  refine ⟨fun w' hE => ?_, ?_⟩
  · obtain ⟨k0, k1, k2, k3, k4, k5⟩ := dt_at HP.out hE
    go_simp
    try with_reducible rfl
  simp only [Act.put, List.setIfInBounds_toArray, List.set_cons_zero, List.set_cons_succ]
  refine growL_take (wanted_of g13 rfl rfl) ?_
  apply Exists.intro
  refine ⟨fun w' hE => ?_, ?_⟩
  · obtain ⟨k0, k1, k2, k3, k4, k5⟩ := dt_at HP.out hE
    go_simp
    try with_reducible rfl
  simp only [Act.put, List.setIfInBounds_toArray, List.set_cons_zero, List.set_cons_succ]
  refine growL_take (by rfl) ?_
  apply Exists.intro
  refine ⟨fun w' hE => ?_, ?_⟩
  · obtain ⟨k0, k1, k2, k3, k4, k5⟩ := dt_at HP.out hE
    go_simp
    try with_reducible rfl
  simp only [Act.put, List.setIfInBounds_toArray, List.set_cons_zero, List.set_cons_succ]
  refine growL_take (by rfl) ?_
  apply Exists.intro
  refine ⟨fun w' hE => ?_, ?_⟩
  · obtain ⟨k0, k1, k2, k3, k4, k5⟩ := dt_at HP.out hE
    go_simp
    try with_reducible rfl
  simp only [Act.put, List.setIfInBounds_toArray, List.set_cons_zero, List.set_cons_succ]
  refine growL_take (wanted_of g18 rfl rfl) ?_
  apply Exists.intro
  refine ⟨fun w' hE => ?_, ?_⟩
  · obtain ⟨k0, k1, k2, k3, k4, k5⟩ := dt_at HP.out hE
    go_simp
    try with_reducible rfl
  simp only [Act.put, List.setIfInBounds_toArray, List.set_cons_zero, List.set_cons_succ]
  refine growL_take (wanted_of g18 rfl rfl) ?_
  apply Exists.intro
  refine ⟨fun w' hE => ?_, ?_⟩
  · obtain ⟨k0, k1, k2, k3, k4, k5⟩ := dt_at HP.out hE
    go_simp
    try with_reducible rfl
  simp only [Act.put, List.setIfInBounds_toArray, List.set_cons_zero, List.set_cons_succ]
  refine growL_take (wanted_of g18 rfl rfl) ?_
  apply Exists.intro
  refine ⟨fun w' hE => ?_, ?_⟩
  · obtain ⟨k0, k1, k2, k3, k4, k5⟩ := dt_at HP.out hE
    go_simp
    try with_reducible rfl
  simp only [Act.put, List.setIfInBounds_toArray, List.set_cons_zero, List.set_cons_succ]
  refine growL_take (by rfl) ?_
  apply Exists.intro
  refine ⟨fun w' hE => ?_, ?_⟩
  · obtain ⟨k0, k1, k2, k3, k4, k5⟩ := dt_at HP.out hE
    go_simp
    try with_reducible rfl
  simp only [Act.put, List.setIfInBounds_toArray, List.set_cons_zero, List.set_cons_succ]
  refine growL_take (by rfl) ?_
  apply Exists.intro
  refine ⟨fun w' hE => ?_, ?_⟩
  · obtain ⟨k0, k1, k2, k3, k4, k5⟩ := dt_at HP.out hE
    go_simp
    try with_reducible rfl
  simp only [Act.put, List.setIfInBounds_toArray, List.set_cons_zero, List.set_cons_succ]
  refine growL_take (wanted_of g23 rfl rfl) ?_
  apply Exists.intro
  refine ⟨fun w' hE => ?_, ?_⟩
  · obtain ⟨k0, k1, k2, k3, k4, k5⟩ := dt_at HP.out hE
    go_simp
    try with_reducible rfl
  simp only [Act.put, List.setIfInBounds_toArray, List.set_cons_zero, List.set_cons_succ]
  refine growL_take (wanted_of g23 rfl rfl) ?_
  apply Exists.intro
  refine ⟨fun w' hE => ?_, ?_⟩
  · obtain ⟨k0, k1, k2, k3, k4, k5⟩ := dt_at HP.out hE
    go_simp
    try with_reducible rfl
  simp only [Act.put, List.setIfInBounds_toArray, List.set_cons_zero, List.set_cons_succ]
  refine growL_take (wanted_of g23 rfl rfl) ?_
  apply Exists.intro
  refine ⟨fun w' hE => ?_, ?_⟩
  · obtain ⟨k0, k1, k2, k3, k4, k5⟩ := dt_at HP.out hE
    go_simp
    try with_reducible rfl
  simp only [Act.put, List.setIfInBounds_toArray, List.set_cons_zero, List.set_cons_succ]
  refine growL_take (wanted_of g23 rfl rfl) ?_
  apply Exists.intro
  refine ⟨fun w' hE => ?_, ?_⟩
  · obtain ⟨k0, k1, k2, k3, k4, k5⟩ := dt_at HP.out hE
    go_simp
    try with_reducible rfl
  simp only [Act.put, List.setIfInBounds_toArray, List.set_cons_zero, List.set_cons_succ]
  refine growL_take (wanted_of g23 rfl rfl) ?_
  apply Exists.intro
  refine ⟨fun w' hE => ?_, ?_⟩
  · obtain ⟨k0, k1, k2, k3, k4, k5⟩ := dt_at HP.out hE
    go_simp
    try with_reducible rfl
  simp only [Act.put, List.setIfInBounds_toArray, List.set_cons_zero, List.set_cons_succ]
  refine growL_take (wanted_of g23 rfl rfl) ?_
  apply Exists.intro
  refine ⟨fun w' hE => ?_, ?_⟩
  · obtain ⟨k0, k1, k2, k3, k4, k5⟩ := dt_at HP.out hE
    go_simp
    try with_reducible rfl
  simp only [Act.put, List.setIfInBounds_toArray, List.set_cons_zero, List.set_cons_succ]
  refine growL_call (wanted_of g23 rfl rfl) (fun K hK => ?_)
  go_simp
  refine (rdays2_any y m _ (by omega) (by omega) (by omega) (by omega)).mono ?_
  rintro e w1 ⟨rfl, hb1⟩
  refine hK.out _ _ hb1 ?_
  clear hK K
  have HQ := Lib.hid (grown_block HP.out hb1)
  have HD1 := Lib.hid (HD0.out.trans (hb1.mono HD0.out.size))
  clear hb1
  refine growL_take (wanted_of g23 rfl rfl) ?_
  apply Exists.intro
  refine ⟨fun w' hE => ?_, ?_⟩
  · obtain ⟨k0, k1, k2, k3, k4, k5⟩ := dt_at HQ.out hE
    go_simp
    try with_reducible rfl
  simp only [Act.put, List.setIfInBounds_toArray, List.set_cons_zero, List.set_cons_succ]
  refine growL_take (by rfl) ?_
  apply Exists.intro
  refine ⟨fun w' hE => ?_, ?_⟩
  · obtain ⟨k0, k1, k2, k3, k4, k5⟩ := dt_at HQ.out hE
    go_simp
    try with_reducible rfl
  simp only [Act.put, List.setIfInBounds_toArray, List.set_cons_zero, List.set_cons_succ]
  refine growL_take (by rfl) ?_
  apply Exists.intro
  refine ⟨fun w' hE => ?_, ?_⟩
  · obtain ⟨k0, k1, k2, k3, k4, k5⟩ := dt_at HQ.out hE
    go_simp
    try with_reducible rfl
  simp only [Act.put, List.setIfInBounds_toArray, List.set_cons_zero, List.set_cons_succ]
  refine growL_take (wanted_of g33 rfl rfl) ?_
  apply Exists.intro
  refine ⟨fun w' hE => ?_, ?_⟩
  · obtain ⟨k0, k1, k2, k3, k4, k5⟩ := dt_at HQ.out hE
    go_simp
    try with_reducible rfl
  simp only [Act.put, List.setIfInBounds_toArray, List.set_cons_zero, List.set_cons_succ]
  refine growL_take (wanted_of g33 rfl rfl) ?_
  apply Exists.intro
  refine ⟨fun w' hE => ?_, ?_⟩
  · obtain ⟨k0, k1, k2, k3, k4, k5⟩ := dt_at HQ.out hE
    go_simp
    try with_reducible rfl
  simp only [Act.put, List.setIfInBounds_toArray, List.set_cons_zero, List.set_cons_succ]
  refine growL_take (wanted_of g33 rfl rfl) ?_
  apply Exists.intro
  refine ⟨fun w' hE => ?_, ?_⟩
  · obtain ⟨k0, k1, k2, k3, k4, k5⟩ := dt_at HQ.out hE
    go_simp
    try with_reducible rfl
  simp only [Act.put, List.setIfInBounds_toArray, List.set_cons_zero, List.set_cons_succ]
  refine growL_take (by rfl) ?_
  apply Exists.intro
  refine ⟨fun w' hE => ?_, ?_⟩
  · obtain ⟨k0, k1, k2, k3, k4, k5⟩ := dt_at HQ.out hE
    go_simp
    try with_reducible rfl
  simp only [Act.put, List.setIfInBounds_toArray, List.set_cons_zero, List.set_cons_succ]
  refine growL_take (by rfl) ?_
  apply Exists.intro
  refine ⟨fun w' hE => ?_, ?_⟩
  · obtain ⟨k0, k1, k2, k3, k4, k5⟩ := dt_at HQ.out hE
    go_simp
    try with_reducible rfl
  simp only [Act.put, List.setIfInBounds_toArray, List.set_cons_zero, List.set_cons_succ]
  refine growL_take (wanted_of g38 rfl rfl) ?_
  apply Exists.intro
  refine ⟨fun w' hE => ?_, ?_⟩
  · obtain ⟨k0, k1, k2, k3, k4, k5⟩ := dt_at HQ.out hE
    go_simp
    try with_reducible rfl
  simp only [Act.put, List.setIfInBounds_toArray, List.set_cons_zero, List.set_cons_succ]
  refine growL_take (wanted_of g38 rfl rfl) ?_
  apply Exists.intro
  refine ⟨fun w' hE => ?_, ?_⟩
  · obtain ⟨k0, k1, k2, k3, k4, k5⟩ := dt_at HQ.out hE
    go_simp
    try with_reducible rfl
  simp only [Act.put, List.setIfInBounds_toArray, List.set_cons_zero, List.set_cons_succ]
  refine growL_take (wanted_of g38 rfl rfl) ?_
  apply Exists.intro
  refine ⟨fun w' hE => ?_, ?_⟩
  · obtain ⟨k0, k1, k2, k3, k4, k5⟩ := dt_at HQ.out hE
    go_simp
    try with_reducible rfl
  simp only [Act.put, List.setIfInBounds_toArray, List.set_cons_zero, List.set_cons_succ]
  refine growL_take (by rfl) ?_
  apply Exists.intro
  refine ⟨fun w' hE => ?_, ?_⟩
  · obtain ⟨k0, k1, k2, k3, k4, k5⟩ := dt_at HQ.out hE
    go_simp
    try with_reducible rfl
  simp only [Act.put, List.setIfInBounds_toArray, List.set_cons_zero, List.set_cons_succ]
  refine growL_take (by rfl) ?_
  apply Exists.intro
  refine ⟨fun w' hE => ?_, ?_⟩
  · obtain ⟨k0, k1, k2, k3, k4, k5⟩ := dt_at HQ.out hE
    go_simp
    try with_reducible rfl
  simp only [Act.put, List.setIfInBounds_toArray, List.set_cons_zero, List.set_cons_succ]
  refine growL_take (wanted_of g43 rfl rfl) ?_
  apply Exists.intro
  refine ⟨fun w' hE => ?_, ?_⟩
  · obtain ⟨k0, k1, k2, k3, k4, k5⟩ := dt_at HQ.out hE
    go_simp
    try with_reducible rfl
  simp only [Act.put, List.setIfInBounds_toArray, List.set_cons_zero, List.set_cons_succ]
  refine growL_take (wanted_of g43 rfl rfl) ?_
  apply Exists.intro
  refine ⟨fun w' hE => ?_, ?_⟩
  · obtain ⟨k0, k1, k2, k3, k4, k5⟩ := dt_at HQ.out hE
    go_simp
    try with_reducible rfl
  simp only [Act.put, List.setIfInBounds_toArray, List.set_cons_zero, List.set_cons_succ]
  refine growL_take (wanted_of g43 rfl rfl) ?_
  apply Exists.intro
  refine ⟨fun w' hE => ?_, ?_⟩
  · obtain ⟨k0, k1, k2, k3, k4, k5⟩ := dt_at HQ.out hE
    go_simp
    try with_reducible rfl
  simp only [Act.put, List.setIfInBounds_toArray, List.set_cons_zero, List.set_cons_succ]
  refine growL_take (by rfl) ?_
  apply Exists.intro
  refine ⟨fun w' hE => ?_, ?_⟩
  · obtain ⟨k0, k1, k2, k3, k4, k5⟩ := dt_at HQ.out hE
    go_simp
    try with_reducible rfl
  simp only [Act.put, List.setIfInBounds_toArray, List.set_cons_zero, List.set_cons_succ]
  refine growL_take (by rfl) ?_
  apply Exists.intro
  refine ⟨fun w' hE => ?_, ?_⟩
  · obtain ⟨k0, k1, k2, k3, k4, k5⟩ := dt_at HQ.out hE
    go_simp
    try with_reducible rfl
  simp only [Act.put, List.setIfInBounds_toArray, List.set_cons_zero, List.set_cons_succ]
  refine growL_take (wanted_of g48 rfl rfl) ?_
  apply Exists.intro
  refine ⟨fun w' hE => ?_, ?_⟩
  · obtain ⟨k0, k1, k2, k3, k4, k5⟩ := dt_at HQ.out hE
    go_simp
    try with_reducible rfl
  simp only [Act.put, List.setIfInBounds_toArray, List.set_cons_zero, List.set_cons_succ]
  refine growL_take (wanted_of g48 rfl rfl) ?_
  apply Exists.intro
  refine ⟨fun w' hE => ?_, ?_⟩
  · obtain ⟨k0, k1, k2, k3, k4, k5⟩ := dt_at HQ.out hE
    go_simp
    try with_reducible rfl
  simp only [Act.put, List.setIfInBounds_toArray, List.set_cons_zero, List.set_cons_succ]
  refine growL_take (wanted_of g48 rfl rfl) ?_
  apply Exists.intro
  refine ⟨fun w' hE => ?_, ?_⟩
  · obtain ⟨k0, k1, k2, k3, k4, k5⟩ := dt_at HQ.out hE
    go_simp
    try with_reducible rfl
  simp only [Act.put, List.setIfInBounds_toArray, List.set_cons_zero, List.set_cons_succ]
  refine growL_take (by rfl) ?_
  apply Exists.intro
  refine ⟨fun w' hE => ?_, ?_⟩
  · obtain ⟨k0, k1, k2, k3, k4, k5⟩ := dt_at HQ.out hE
    go_simp
    try with_reducible rfl
  simp only [Act.put, List.setIfInBounds_toArray, List.set_cons_zero, List.set_cons_succ]
  refine growL_take (by rfl) ?_
  apply Exists.intro
  refine ⟨fun w' hE => ?_, ?_⟩
  · obtain ⟨k0, k1, k2, k3, k4, k5⟩ := dt_at HQ.out hE
    go_simp
    try with_reducible rfl
  simp only [Act.put, List.setIfInBounds_toArray, List.set_cons_zero, List.set_cons_succ]
  refine growL_take (wanted_of g53 rfl rfl) ?_
  apply Exists.intro
  refine ⟨fun w' hE => ?_, ?_⟩
  · obtain ⟨k0, k1, k2, k3, k4, k5⟩ := dt_at HQ.out hE
    go_simp
    try with_reducible rfl
  simp only [Act.put, List.setIfInBounds_toArray, List.set_cons_zero, List.set_cons_succ]
  refine growL_take (wanted_of g53 rfl rfl) ?_
  apply Exists.intro
  refine ⟨fun w' hE => ?_, ?_⟩
  · obtain ⟨k0, k1, k2, k3, k4, k5⟩ := dt_at HQ.out hE
    go_simp
    try with_reducible rfl
  simp only [Act.put, List.setIfInBounds_toArray, List.set_cons_zero, List.set_cons_succ]
  refine growL_take (wanted_of g53 rfl rfl) ?_
  apply Exists.intro
  refine ⟨fun w' hE => ?_, ?_⟩
  · obtain ⟨k0, k1, k2, k3, k4, k5⟩ := dt_at HQ.out hE
    go_simp
    try with_reducible rfl
  simp only [Act.put, List.setIfInBounds_toArray, List.set_cons_zero, List.set_cons_succ]
  refine growL_take (by rfl) ?_
  apply Exists.intro
  refine ⟨fun w' hE => ?_, ?_⟩
  · obtain ⟨k0, k1, k2, k3, k4, k5⟩ := dt_at HQ.out hE
    go_simp
    try with_reducible rfl
  simp only [Act.put, List.setIfInBounds_toArray, List.set_cons_zero, List.set_cons_succ]
  refine growL_take (by rfl) ?_
  apply Exists.intro
  refine ⟨fun w' hE => ?_, ?_⟩
  · obtain ⟨k0, k1, k2, k3, k4, k5⟩ := dt_at HQ.out hE
    go_simp
    try with_reducible rfl
  simp only [Act.put, List.setIfInBounds_toArray, List.set_cons_zero, List.set_cons_succ]
  refine growL_skip (unwanted_of g58 rfl rfl) ?_
  simp only [Act.put, List.setIfInBounds_toArray, List.set_cons_zero, List.set_cons_succ]
  refine growL_skip (unwanted_of g58 rfl rfl) ?_
  simp only [Act.put, List.setIfInBounds_toArray, List.set_cons_zero, List.set_cons_succ]
  refine growL_skip (unwanted_of g58 rfl rfl) ?_
  simp only [Act.put, List.setIfInBounds_toArray, List.set_cons_zero, List.set_cons_succ]
  refine growL_take (by rfl) ?_
  apply Exists.intro
  refine ⟨fun w' hE => ?_, ?_⟩
  · obtain ⟨k0, k1, k2, k3, k4, k5⟩ := dt_at HQ.out hE
    go_simp
    try with_reducible rfl
  simp only [Act.put, List.setIfInBounds_toArray, List.set_cons_zero, List.set_cons_succ]
  refine growL_take (by rfl) ?_
  apply Exists.intro
  refine ⟨fun w' hE => ?_, ?_⟩
  · obtain ⟨k0, k1, k2, k3, k4, k5⟩ := dt_at HQ.out hE
    go_simp
    try with_reducible rfl
  simp only [Act.put, List.setIfInBounds_toArray, List.set_cons_zero, List.set_cons_succ]
  refine growL_done (NoPanic.normal ?_)
  simp only [Exit.then]
  go_wp2_with fail
  go_ret
  exact ⟨rfl, HD1.out⟩

set_option maxRecDepth 100000 in
set_option maxHeartbeats 8000000 in
theorem rmay_no12 (y m d h i s : Int) (w : World) (c1 : 1970 ≤ y) (c2 : y ≤ 9999) (c3 : 1 ≤ m) (c4 : m ≤ 12) (c5 : 1 ≤ d) (c6 : d ≤ domI y (m - 1)) (c7 : 0 ≤ h) (c8 : h ≤ 23) (c9 : 0 ≤ i) (c10 : i ≤ 59) (c11 : 0 ≤ s) (n12 : ¬ s ≤ 59) :
    Calls Tryz.prog 50 #[.agg #[.int .i64 y, .int .i64 m, .int .i64 d, .int .i64 h, .int .i64 i, .int .i64 s]] w fun e w' => e = .returned (.bool false) ∧ Below w.heap.size w w' := by
  have n12' : decide (s ≤ 59) = false := decide_eq_false n12
  clear n12
  go_enter Tryz.func50, Tryz.ntmps50
  go_wp2_with fail
  have HP : Hid ((w.alloc (.cells (dtRow y m d h i s) 84)).drew.heap[w.heap.size]? = some (.cells (dtRow y m d h i s) 84 (0, 0))) := alloc_self _ _ _
  have HD0 : Hid (Below w.heap.size w (w.alloc (.cells (dtRow y m d h i s) 84)).drew) := ((Below.refl _ _).alloc (Nat.le_refl _) _).drew
  refine wp_region_growL [(0, false), (1, false), (2, false), (3, false), (4, false), (5, false), (6, false), (7, false), (8, false), (9, false), (10, false), (11, false), (12, false), (13, false), (14, false), (15, false), (16, false), (17, false), (18, false), (19, false), (20, false), (21, false), (22, false), (23, false), (24, false), (25, false), (26, false), (27, false), (28, false), (29, false), (30, true), (31, false), (32, false), (33, false), (34, false), (35, false), (36, false), (37, false), (38, false), (39, false), (40, false), (41, false), (42, false), (43, false), (44, false), (45, false), (46, false), (47, false), (48, false), (49, false), (50, false), (51, false), (52, false), (53, false), (54, false), (55, false), (56, false), (57, false), (58, false), (59, false), (60, false), (61, false), (62, false), (63, false)] (by kernel_rfl) (by kernel_rfl) rfl (by kernel_rfl) (by kernel_rfl) (fun ops hops => ?_)
  simp only [inOrder, List.getD_cons_zero, List.getD_cons_succ]
  have g3 : (ops[3]?).bind (·.dst) = some 6 := by rw [hops.out]; rfl
  have g8 : (ops[8]?).bind (·.dst) = some 11 := by rw [hops.out]; rfl
  have g13 : (ops[13]?).bind (·.dst) = some 16 := by rw [hops.out]; rfl
  have g18 : (ops[18]?).bind (·.dst) = some 21 := by rw [hops.out]; rfl
  have g23 : (ops[23]?).bind (·.dst) = some 26 := by rw [hops.out]; rfl
  have g33 : (ops[33]?).bind (·.dst) = some 36 := by rw [hops.out]; rfl
  have g38 : (ops[38]?).bind (·.dst) = some 41 := by rw [hops.out]; rfl
  have g43 : (ops[43]?).bind (·.dst) = some 46 := by rw [hops.out]; rfl
  have g48 : (ops[48]?).bind (·.dst) = some 51 := by rw [hops.out]; rfl
  have g53 : (ops[53]?).bind (·.dst) = some 56 := by rw [hops.out]; rfl
  have g58 : (ops[58]?).bind (·.dst) = some 61 := by rw [hops.out]; rfl
  clear hops
  refine growL_take (by rfl) ?_
  apply Exists.intro
  refine ⟨fun w' hE => ?_, ?_⟩
  · obtain ⟨k0, k1, k2, k3, k4, k5⟩ := dt_at HP.out hE
    go_simp
    try with_reducible rfl
  simp only [Act.put, List.setIfInBounds_toArray, List.set_cons_zero, List.set_cons_succ]
  refine growL_take (by rfl) ?_
  apply Exists.intro
  refine ⟨fun w' hE => ?_, ?_⟩
  · obtain ⟨k0, k1, k2, k3, k4, k5⟩ := dt_at HP.out hE
    go_simp
    try with_reducible rfl
  simp only [Act.put, List.setIfInBounds_toArray, List.set_cons_zero, List.set_cons_succ]
  refine growL_take (by rfl) ?_
  apply Exists.intro
  refine ⟨fun w' hE => ?_, ?_⟩
  · obtain ⟨k0, k1, k2, k3, k4, k5⟩ := dt_at HP.out hE
    go_simp
    try with_reducible rfl
  simp only [Act.put, List.setIfInBounds_toArray, List.set_cons_zero, List.set_cons_succ]
  refine growL_take (by rfl) ?_
  apply Exists.intro
  refine ⟨fun w' hE => ?_, ?_⟩
  · obtain ⟨k0, k1, k2, k3, k4, k5⟩ := dt_at HP.out hE
    go_simp
    try with_reducible rfl
  simp only [Act.put, List.setIfInBounds_toArray, List.set_cons_zero, List.set_cons_succ]
  refine growL_take (wanted_of g3 rfl rfl) ?_
  apply Exists.intro
  refine ⟨fun w' hE => ?_, ?_⟩
  · obtain ⟨k0, k1, k2, k3, k4, k5⟩ := dt_at HP.out hE
    go_simp
    try with_reducible rfl
  simp only [Act.put, List.setIfInBounds_toArray, List.set_cons_zero, List.set_cons_succ]
  refine growL_take (wanted_of g3 rfl rfl) ?_
  apply Exists.intro
  refine ⟨fun w' hE => ?_, ?_⟩
  · obtain ⟨k0, k1, k2, k3, k4, k5⟩ := dt_at HP.out hE
    go_simp
    try with_reducible rfl
  simp only [Act.put, List.setIfInBounds_toArray, List.set_cons_zero, List.set_cons_succ]
  refine growL_take (wanted_of g3 rfl rfl) ?_
  apply Exists.intro
  refine ⟨fun w' hE => ?_, ?_⟩
  · obtain ⟨k0, k1, k2, k3, k4, k5⟩ := dt_at HP.out hE
    go_simp
    try with_reducible rfl
  simp only [Act.put, List.setIfInBounds_toArray, List.set_cons_zero, List.set_cons_succ]
  refine growL_take (by rfl) ?_
  apply Exists.intro
  refine ⟨fun w' hE => ?_, ?_⟩
  · obtain ⟨k0, k1, k2, k3, k4, k5⟩ := dt_at HP.out hE
    go_simp
    try with_reducible rfl
  simp only [Act.put, List.setIfInBounds_toArray, List.set_cons_zero, List.set_cons_succ]
  refine growL_take (by rfl) ?_
  apply Exists.intro
  refine ⟨fun w' hE => ?_, ?_⟩
  · obtain ⟨k0, k1, k2, k3, k4, k5⟩ := dt_at HP.out hE
    go_simp
    try with_reducible rfl
  simp only [Act.put, List.setIfInBounds_toArray, List.set_cons_zero, List.set_cons_succ]
  refine growL_take (wanted_of g8 rfl rfl) ?_
  apply Exists.intro
  refine ⟨fun w' hE => ?_, ?_⟩
  · obtain ⟨k0, k1, k2, k3, k4, k5⟩ := dt_at HP.out hE
    go_simp
    try with_reducible rfl
  simp only [Act.put, List.setIfInBounds_toArray, List.set_cons_zero, List.set_cons_succ]
  refine growL_take (wanted_of g8 rfl rfl) ?_
  apply Exists.intro
  refine ⟨fun w' hE => ?_, ?_⟩
  · obtain ⟨k0, k1, k2, k3, k4, k5⟩ := dt_at HP.out hE
    go_simp
    try with_reducible rfl
  simp only [Act.put, List.setIfInBounds_toArray, List.set_cons_zero, List.set_cons_succ]
  refine growL_take (wanted_of g8 rfl rfl) ?_
  apply Exists.intro
  refine ⟨fun w' hE => ?_, ?_⟩
  · obtain ⟨k0, k1, k2, k3, k4, k5⟩ := dt_at HP.out hE
    go_simp
    try with_reducible rfl
  simp only [Act.put, List.setIfInBounds_toArray, List.set_cons_zero, List.set_cons_succ]
  refine growL_take (by rfl) ?_
  apply Exists.intro
  refine ⟨fun w' hE => ?_, ?_⟩
  · obtain ⟨k0, k1, k2, k3, k4, k5⟩ := dt_at HP.out hE
    go_simp
    try with_reducible rfl
  simp only [Act.put, List.setIfInBounds_toArray, List.set_cons_zero, List.set_cons_succ]
  refine growL_take (by rfl) ?_
  apply Exists.intro
  refine ⟨fun w' hE => ?_, ?_⟩
  · obtain ⟨k0, k1, k2, k3, k4, k5⟩ := dt_at HP.out hE
    go_simp
    try with_reducible rfl
  simp only [Act.put, List.setIfInBounds_toArray, List.set_cons_zero, List.set_cons_succ]
  refine growL_take (wanted_of g13 rfl rfl) ?_
  apply Exists.intro
  refine ⟨fun w' hE => ?_, ?_⟩
  · obtain ⟨k0, k1, k2, k3, k4, k5⟩ := dt_at HP.out hE
    go_simp
    try with_reducible rfl
  simp only [Act.put, List.setIfInBounds_toArray, List.set_cons_zero, List.set_cons_succ]
  refine growL_take (wanted_of g13 rfl rfl) ?_
  apply Exists.intro
  refine ⟨fun w' hE => ?_, ?_⟩
  · obtain ⟨k0, k1, k2, k3, k4, k5⟩ := dt_at HP.out hE
    go_simp
    try with_reducible rfl
  simp only [Act.put, List.setIfInBounds_toArray, List.set_cons_zero, List.set_cons_succ]
  refine growL_take (wanted_of g13 rfl rfl) ?_
  apply Exists.intro
  refine ⟨fun w' hE => ?_, ?_⟩
  · obtain ⟨k0, k1, k2, k3, k4, k5⟩ := dt_at HP.out hE
    go_simp
    try with_reducible rfl
  simp only [Act.put, List.setIfInBounds_toArray, List.set_cons_zero, List.set_cons_succ]
  refine growL_take (by rfl) ?_
  apply Exists.intro
  refine ⟨fun w' hE => ?_, ?_⟩
  · obtain ⟨k0, k1, k2, k3, k4, k5⟩ := dt_at HP.out hE
    go_simp
    try with_reducible rfl
  simp only [Act.put, List.setIfInBounds_toArray, List.set_cons_zero, List.set_cons_succ]
  refine growL_take (by rfl) ?_
  apply Exists.intro
  refine ⟨fun w' hE => ?_, ?_⟩
  · obtain ⟨k0, k1, k2, k3, k4, k5⟩ := dt_at HP.out hE
    go_simp
    try with_reducible rfl
  simp only [Act.put, List.setIfInBounds_toArray, List.set_cons_zero, List.set_cons_succ]
  refine growL_take (wanted_of g18 rfl rfl) ?_
  apply Exists.intro
  refine ⟨fun w' hE => ?_, ?_⟩
  · obtain ⟨k0, k1, k2, k3, k4, k5⟩ := dt_at HP.out hE
    go_simp
    try with_reducible rfl
  simp only [Act.put, List.setIfInBounds_toArray, List.set_cons_zero, List.set_cons_succ]
  refine growL_take (wanted_of g18 rfl rfl) ?_
  apply Exists.intro
  refine ⟨fun w' hE => ?_, ?_⟩
  · obtain ⟨k0, k1, k2, k3, k4, k5⟩ := dt_at HP.out hE
    go_simp
    try with_reducible rfl
  simp only [Act.put, List.setIfInBounds_toArray, List.set_cons_zero, List.set_cons_succ]
  refine growL_take (wanted_of g18 rfl rfl) ?_
  apply Exists.intro
  refine ⟨fun w' hE => ?_, ?_⟩
  · obtain ⟨k0, k1, k2, k3, k4, k5⟩ := dt_at HP.out hE
    go_simp
    try with_reducible rfl
  simp only [Act.put, List.setIfInBounds_toArray, List.set_cons_zero, List.set_cons_succ]
  refine growL_take (by rfl) ?_
  apply Exists.intro
  refine ⟨fun w' hE => ?_, ?_⟩
  · obtain ⟨k0, k1, k2, k3, k4, k5⟩ := dt_at HP.out hE
    go_simp
    try with_reducible rfl
  simp only [Act.put, List.setIfInBounds_toArray, List.set_cons_zero, List.set_cons_succ]
  refine growL_take (by rfl) ?_
  apply Exists.intro
  refine ⟨fun w' hE => ?_, ?_⟩
  · obtain ⟨k0, k1, k2, k3, k4, k5⟩ := dt_at HP.out hE
    go_simp
    try with_reducible rfl
  simp only [Act.put, List.setIfInBounds_toArray, List.set_cons_zero, List.set_cons_succ]
  refine growL_take (wanted_of g23 rfl rfl) ?_
  apply Exists.intro
  refine ⟨fun w' hE => ?_, ?_⟩
  · obtain ⟨k0, k1, k2, k3, k4, k5⟩ := dt_at HP.out hE
    go_simp
    try with_reducible rfl
  simp only [Act.put, List.setIfInBounds_toArray, List.set_cons_zero, List.set_cons_succ]
  refine growL_take (wanted_of g23 rfl rfl) ?_
  apply Exists.intro
  refine ⟨fun w' hE => ?_, ?_⟩
  · obtain ⟨k0, k1, k2, k3, k4, k5⟩ := dt_at HP.out hE
    go_simp
    try with_reducible rfl
  simp only [Act.put, List.setIfInBounds_toArray, List.set_cons_zero, List.set_cons_succ]
  refine growL_take (wanted_of g23 rfl rfl) ?_
  apply Exists.intro
  refine ⟨fun w' hE => ?_, ?_⟩
  · obtain ⟨k0, k1, k2, k3, k4, k5⟩ := dt_at HP.out hE
    go_simp
    try with_reducible rfl
  simp only [Act.put, List.setIfInBounds_toArray, List.set_cons_zero, List.set_cons_succ]
  refine growL_take (wanted_of g23 rfl rfl) ?_
  apply Exists.intro
  refine ⟨fun w' hE => ?_, ?_⟩
  · obtain ⟨k0, k1, k2, k3, k4, k5⟩ := dt_at HP.out hE
    go_simp
    try with_reducible rfl
  simp only [Act.put, List.setIfInBounds_toArray, List.set_cons_zero, List.set_cons_succ]
  refine growL_take (wanted_of g23 rfl rfl) ?_
  apply Exists.intro
  refine ⟨fun w' hE => ?_, ?_⟩
  · obtain ⟨k0, k1, k2, k3, k4, k5⟩ := dt_at HP.out hE
    go_simp
    try with_reducible rfl
  simp only [Act.put, List.setIfInBounds_toArray, List.set_cons_zero, List.set_cons_succ]
  refine growL_take (wanted_of g23 rfl rfl) ?_
  apply Exists.intro
  refine ⟨fun w' hE => ?_, ?_⟩
  · obtain ⟨k0, k1, k2, k3, k4, k5⟩ := dt_at HP.out hE
    go_simp
    try with_reducible rfl
  simp only [Act.put, List.setIfInBounds_toArray, List.set_cons_zero, List.set_cons_succ]
  refine growL_call (wanted_of g23 rfl rfl) (fun K hK => ?_)
  go_simp
  refine (rdays2_any y m _ (by omega) (by omega) (by omega) (by omega)).mono ?_
  rintro e w1 ⟨rfl, hb1⟩
  refine hK.out _ _ hb1 ?_
  clear hK K
  have HQ := Lib.hid (grown_block HP.out hb1)
  have HD1 := Lib.hid (HD0.out.trans (hb1.mono HD0.out.size))
  clear hb1
  refine growL_take (wanted_of g23 rfl rfl) ?_
  apply Exists.intro
  refine ⟨fun w' hE => ?_, ?_⟩
  · obtain ⟨k0, k1, k2, k3, k4, k5⟩ := dt_at HQ.out hE
    go_simp
    try with_reducible rfl
  simp only [Act.put, List.setIfInBounds_toArray, List.set_cons_zero, List.set_cons_succ]
  refine growL_take (by rfl) ?_
  apply Exists.intro
  refine ⟨fun w' hE => ?_, ?_⟩
  · obtain ⟨k0, k1, k2, k3, k4, k5⟩ := dt_at HQ.out hE
    go_simp
    try with_reducible rfl
  simp only [Act.put, List.setIfInBounds_toArray, List.set_cons_zero, List.set_cons_succ]
  refine growL_take (by rfl) ?_
  apply Exists.intro
  refine ⟨fun w' hE => ?_, ?_⟩
  · obtain ⟨k0, k1, k2, k3, k4, k5⟩ := dt_at HQ.out hE
    go_simp
    try with_reducible rfl
  simp only [Act.put, List.setIfInBounds_toArray, List.set_cons_zero, List.set_cons_succ]
  refine growL_take (wanted_of g33 rfl rfl) ?_
  apply Exists.intro
  refine ⟨fun w' hE => ?_, ?_⟩
  · obtain ⟨k0, k1, k2, k3, k4, k5⟩ := dt_at HQ.out hE
    go_simp
    try with_reducible rfl
  simp only [Act.put, List.setIfInBounds_toArray, List.set_cons_zero, List.set_cons_succ]
  refine growL_take (wanted_of g33 rfl rfl) ?_
  apply Exists.intro
  refine ⟨fun w' hE => ?_, ?_⟩
  · obtain ⟨k0, k1, k2, k3, k4, k5⟩ := dt_at HQ.out hE
    go_simp
    try with_reducible rfl
  simp only [Act.put, List.setIfInBounds_toArray, List.set_cons_zero, List.set_cons_succ]
  refine growL_take (wanted_of g33 rfl rfl) ?_
  apply Exists.intro
  refine ⟨fun w' hE => ?_, ?_⟩
  · obtain ⟨k0, k1, k2, k3, k4, k5⟩ := dt_at HQ.out hE
    go_simp
    try with_reducible rfl
  simp only [Act.put, List.setIfInBounds_toArray, List.set_cons_zero, List.set_cons_succ]
  refine growL_take (by rfl) ?_
  apply Exists.intro
  refine ⟨fun w' hE => ?_, ?_⟩
  · obtain ⟨k0, k1, k2, k3, k4, k5⟩ := dt_at HQ.out hE
    go_simp
    try with_reducible rfl
  simp only [Act.put, List.setIfInBounds_toArray, List.set_cons_zero, List.set_cons_succ]
  refine growL_take (by rfl) ?_
  apply Exists.intro
  refine ⟨fun w' hE => ?_, ?_⟩
  · obtain ⟨k0, k1, k2, k3, k4, k5⟩ := dt_at HQ.out hE
    go_simp
    try with_reducible rfl
  simp only [Act.put, List.setIfInBounds_toArray, List.set_cons_zero, List.set_cons_succ]
  refine growL_take (wanted_of g38 rfl rfl) ?_
  apply Exists.intro
  refine ⟨fun w' hE => ?_, ?_⟩
  · obtain ⟨k0, k1, k2, k3, k4, k5⟩ := dt_at HQ.out hE
    go_simp
    try with_reducible rfl
  simp only [Act.put, List.setIfInBounds_toArray, List.set_cons_zero, List.set_cons_succ]
  refine growL_take (wanted_of g38 rfl rfl) ?_
  apply Exists.intro
  refine ⟨fun w' hE => ?_, ?_⟩
  · obtain ⟨k0, k1, k2, k3, k4, k5⟩ := dt_at HQ.out hE
    go_simp
    try with_reducible rfl
  simp only [Act.put, List.setIfInBounds_toArray, List.set_cons_zero, List.set_cons_succ]
  refine growL_take (wanted_of g38 rfl rfl) ?_
  apply Exists.intro
  refine ⟨fun w' hE => ?_, ?_⟩
  · obtain ⟨k0, k1, k2, k3, k4, k5⟩ := dt_at HQ.out hE
    go_simp
    try with_reducible rfl
  simp only [Act.put, List.setIfInBounds_toArray, List.set_cons_zero, List.set_cons_succ]
  refine growL_take (by rfl) ?_
  apply Exists.intro
  refine ⟨fun w' hE => ?_, ?_⟩
  · obtain ⟨k0, k1, k2, k3, k4, k5⟩ := dt_at HQ.out hE
    go_simp
    try with_reducible rfl
  simp only [Act.put, List.setIfInBounds_toArray, List.set_cons_zero, List.set_cons_succ]
  refine growL_take (by rfl) ?_
  apply Exists.intro
  refine ⟨fun w' hE => ?_, ?_⟩
  · obtain ⟨k0, k1, k2, k3, k4, k5⟩ := dt_at HQ.out hE
    go_simp
    try with_reducible rfl
  simp only [Act.put, List.setIfInBounds_toArray, List.set_cons_zero, List.set_cons_succ]
  refine growL_take (wanted_of g43 rfl rfl) ?_
  apply Exists.intro
  refine ⟨fun w' hE => ?_, ?_⟩
  · obtain ⟨k0, k1, k2, k3, k4, k5⟩ := dt_at HQ.out hE
    go_simp
    try with_reducible rfl
  simp only [Act.put, List.setIfInBounds_toArray, List.set_cons_zero, List.set_cons_succ]
  refine growL_take (wanted_of g43 rfl rfl) ?_
  apply Exists.intro
  refine ⟨fun w' hE => ?_, ?_⟩
  · obtain ⟨k0, k1, k2, k3, k4, k5⟩ := dt_at HQ.out hE
    go_simp
    try with_reducible rfl
  simp only [Act.put, List.setIfInBounds_toArray, List.set_cons_zero, List.set_cons_succ]
  refine growL_take (wanted_of g43 rfl rfl) ?_
  apply Exists.intro
  refine ⟨fun w' hE => ?_, ?_⟩
  · obtain ⟨k0, k1, k2, k3, k4, k5⟩ := dt_at HQ.out hE
    go_simp
    try with_reducible rfl
  simp only [Act.put, List.setIfInBounds_toArray, List.set_cons_zero, List.set_cons_succ]
  refine growL_take (by rfl) ?_
  apply Exists.intro
  refine ⟨fun w' hE => ?_, ?_⟩
  · obtain ⟨k0, k1, k2, k3, k4, k5⟩ := dt_at HQ.out hE
    go_simp
    try with_reducible rfl
  simp only [Act.put, List.setIfInBounds_toArray, List.set_cons_zero, List.set_cons_succ]
  refine growL_take (by rfl) ?_
  apply Exists.intro
  refine ⟨fun w' hE => ?_, ?_⟩
  · obtain ⟨k0, k1, k2, k3, k4, k5⟩ := dt_at HQ.out hE
    go_simp
    try with_reducible rfl
  simp only [Act.put, List.setIfInBounds_toArray, List.set_cons_zero, List.set_cons_succ]
  refine growL_take (wanted_of g48 rfl rfl) ?_
  apply Exists.intro
  refine ⟨fun w' hE => ?_, ?_⟩
  · obtain ⟨k0, k1, k2, k3, k4, k5⟩ := dt_at HQ.out hE
    go_simp
    try with_reducible rfl
  simp only [Act.put, List.setIfInBounds_toArray, List.set_cons_zero, List.set_cons_succ]
  refine growL_take (wanted_of g48 rfl rfl) ?_
  apply Exists.intro
  refine ⟨fun w' hE => ?_, ?_⟩
  · obtain ⟨k0, k1, k2, k3, k4, k5⟩ := dt_at HQ.out hE
    go_simp
    try with_reducible rfl
  simp only [Act.put, List.setIfInBounds_toArray, List.set_cons_zero, List.set_cons_succ]
  refine growL_take (wanted_of g48 rfl rfl) ?_
  apply Exists.intro
  refine ⟨fun w' hE => ?_, ?_⟩
  · obtain ⟨k0, k1, k2, k3, k4, k5⟩ := dt_at HQ.out hE
    go_simp
    try with_reducible rfl
  simp only [Act.put, List.setIfInBounds_toArray, List.set_cons_zero, List.set_cons_succ]
  refine growL_take (by rfl) ?_
  apply Exists.intro
  refine ⟨fun w' hE => ?_, ?_⟩
  · obtain ⟨k0, k1, k2, k3, k4, k5⟩ := dt_at HQ.out hE
    go_simp
    try with_reducible rfl
  simp only [Act.put, List.setIfInBounds_toArray, List.set_cons_zero, List.set_cons_succ]
  refine growL_take (by rfl) ?_
  apply Exists.intro
  refine ⟨fun w' hE => ?_, ?_⟩
  · obtain ⟨k0, k1, k2, k3, k4, k5⟩ := dt_at HQ.out hE
    go_simp
    try with_reducible rfl
  simp only [Act.put, List.setIfInBounds_toArray, List.set_cons_zero, List.set_cons_succ]
  refine growL_take (wanted_of g53 rfl rfl) ?_
  apply Exists.intro
  refine ⟨fun w' hE => ?_, ?_⟩
  · obtain ⟨k0, k1, k2, k3, k4, k5⟩ := dt_at HQ.out hE
    go_simp
    try with_reducible rfl
  simp only [Act.put, List.setIfInBounds_toArray, List.set_cons_zero, List.set_cons_succ]
  refine growL_take (wanted_of g53 rfl rfl) ?_
  apply Exists.intro
  refine ⟨fun w' hE => ?_, ?_⟩
  · obtain ⟨k0, k1, k2, k3, k4, k5⟩ := dt_at HQ.out hE
    go_simp
    try with_reducible rfl
  simp only [Act.put, List.setIfInBounds_toArray, List.set_cons_zero, List.set_cons_succ]
  refine growL_take (wanted_of g53 rfl rfl) ?_
  apply Exists.intro
  refine ⟨fun w' hE => ?_, ?_⟩
  · obtain ⟨k0, k1, k2, k3, k4, k5⟩ := dt_at HQ.out hE
    go_simp
    try with_reducible rfl
  simp only [Act.put, List.setIfInBounds_toArray, List.set_cons_zero, List.set_cons_succ]
  refine growL_take (by rfl) ?_
  apply Exists.intro
  refine ⟨fun w' hE => ?_, ?_⟩
  · obtain ⟨k0, k1, k2, k3, k4, k5⟩ := dt_at HQ.out hE
    go_simp
    try with_reducible rfl
  simp only [Act.put, List.setIfInBounds_toArray, List.set_cons_zero, List.set_cons_succ]
  refine growL_take (by rfl) ?_
  apply Exists.intro
  refine ⟨fun w' hE => ?_, ?_⟩
  · obtain ⟨k0, k1, k2, k3, k4, k5⟩ := dt_at HQ.out hE
    go_simp
    try with_reducible rfl
  simp only [Act.put, List.setIfInBounds_toArray, List.set_cons_zero, List.set_cons_succ]
  refine growL_take (wanted_of g58 rfl rfl) ?_
  apply Exists.intro
  refine ⟨fun w' hE => ?_, ?_⟩
  · obtain ⟨k0, k1, k2, k3, k4, k5⟩ := dt_at HQ.out hE
    go_simp
    try with_reducible rfl
  simp only [Act.put, List.setIfInBounds_toArray, List.set_cons_zero, List.set_cons_succ]
  refine growL_take (wanted_of g58 rfl rfl) ?_
  apply Exists.intro
  refine ⟨fun w' hE => ?_, ?_⟩
  · obtain ⟨k0, k1, k2, k3, k4, k5⟩ := dt_at HQ.out hE
    go_simp
    try with_reducible rfl
  simp only [Act.put, List.setIfInBounds_toArray, List.set_cons_zero, List.set_cons_succ]
  refine growL_take (wanted_of g58 rfl rfl) ?_
  apply Exists.intro
  refine ⟨fun w' hE => ?_, ?_⟩
  · obtain ⟨k0, k1, k2, k3, k4, k5⟩ := dt_at HQ.out hE
    go_simp
    try with_reducible rfl
  simp only [Act.put, List.setIfInBounds_toArray, List.set_cons_zero, List.set_cons_succ]
  refine growL_take (by rfl) ?_
  apply Exists.intro
  refine ⟨fun w' hE => ?_, ?_⟩
  · obtain ⟨k0, k1, k2, k3, k4, k5⟩ := dt_at HQ.out hE
    go_simp
    try with_reducible rfl
  simp only [Act.put, List.setIfInBounds_toArray, List.set_cons_zero, List.set_cons_succ]
  refine growL_take (by rfl) ?_
  apply Exists.intro
  refine ⟨fun w' hE => ?_, ?_⟩
  · obtain ⟨k0, k1, k2, k3, k4, k5⟩ := dt_at HQ.out hE
    go_simp
    try with_reducible rfl
  simp only [Act.put, List.setIfInBounds_toArray, List.set_cons_zero, List.set_cons_succ]
  refine growL_done (NoPanic.normal ?_)
  simp only [Exit.then]
  go_wp2_with fail
  go_ret
  exact ⟨rfl, HD1.out⟩

set_option maxRecDepth 100000 in
set_option maxHeartbeats 8000000 in
theorem rmay_yes (y m d h i s : Int) (w : World) (c1 : 1970 ≤ y) (c2 : y ≤ 9999) (c3 : 1 ≤ m) (c4 : m ≤ 12) (c5 : 1 ≤ d) (c6 : d ≤ domI y (m - 1)) (c7 : 0 ≤ h) (c8 : h ≤ 23) (c9 : 0 ≤ i) (c10 : i ≤ 59) (c11 : 0 ≤ s) (c12 : s ≤ 59) :
    Calls Tryz.prog 50 #[.agg #[.int .i64 y, .int .i64 m, .int .i64 d, .int .i64 h, .int .i64 i, .int .i64 s]] w fun e w' => e = .returned (.bool true) ∧ Below w.heap.size w w' := by
  go_enter Tryz.func50, Tryz.ntmps50
  go_wp2_with fail
  have HP : Hid ((w.alloc (.cells (dtRow y m d h i s) 84)).drew.heap[w.heap.size]? = some (.cells (dtRow y m d h i s) 84 (0, 0))) := alloc_self _ _ _
  have HD0 : Hid (Below w.heap.size w (w.alloc (.cells (dtRow y m d h i s) 84)).drew) := ((Below.refl _ _).alloc (Nat.le_refl _) _).drew
  refine wp_region_growL [(0, false), (1, false), (2, false), (3, false), (4, false), (5, false), (6, false), (7, false), (8, false), (9, false), (10, false), (11, false), (12, false), (13, false), (14, false), (15, false), (16, false), (17, false), (18, false), (19, false), (20, false), (21, false), (22, false), (23, false), (24, false), (25, false), (26, false), (27, false), (28, false), (29, false), (30, true), (31, false), (32, false), (33, false), (34, false), (35, false), (36, false), (37, false), (38, false), (39, false), (40, false), (41, false), (42, false), (43, false), (44, false), (45, false), (46, false), (47, false), (48, false), (49, false), (50, false), (51, false), (52, false), (53, false), (54, false), (55, false), (56, false), (57, false), (58, false), (59, false), (60, false), (61, false), (62, false), (63, false)] (by kernel_rfl) (by kernel_rfl) rfl (by kernel_rfl) (by kernel_rfl) (fun ops hops => ?_)
  simp only [inOrder, List.getD_cons_zero, List.getD_cons_succ]
  have g3 : (ops[3]?).bind (·.dst) = some 6 := by rw [hops.out]; rfl
  have g8 : (ops[8]?).bind (·.dst) = some 11 := by rw [hops.out]; rfl
  have g13 : (ops[13]?).bind (·.dst) = some 16 := by rw [hops.out]; rfl
  have g18 : (ops[18]?).bind (·.dst) = some 21 := by rw [hops.out]; rfl
  have g23 : (ops[23]?).bind (·.dst) = some 26 := by rw [hops.out]; rfl
  have g33 : (ops[33]?).bind (·.dst) = some 36 := by rw [hops.out]; rfl
  have g38 : (ops[38]?).bind (·.dst) = some 41 := by rw [hops.out]; rfl
  have g43 : (ops[43]?).bind (·.dst) = some 46 := by rw [hops.out]; rfl
  have g48 : (ops[48]?).bind (·.dst) = some 51 := by rw [hops.out]; rfl
  have g53 : (ops[53]?).bind (·.dst) = some 56 := by rw [hops.out]; rfl
  have g58 : (ops[58]?).bind (·.dst) = some 61 := by rw [hops.out]; rfl
  clear hops
  refine growL_take (by rfl) ?_
  apply Exists.intro
  refine ⟨fun w' hE => ?_, ?_⟩
  · obtain ⟨k0, k1, k2, k3, k4, k5⟩ := dt_at HP.out hE
    go_simp
    try with_reducible rfl
  simp only [Act.put, List.setIfInBounds_toArray, List.set_cons_zero, List.set_cons_succ]
  refine growL_take (by rfl) ?_
  apply Exists.intro
  refine ⟨fun w' hE => ?_, ?_⟩
  · obtain ⟨k0, k1, k2, k3, k4, k5⟩ := dt_at HP.out hE
    go_simp
    try with_reducible rfl
  simp only [Act.put, List.setIfInBounds_toArray, List.set_cons_zero, List.set_cons_succ]
  refine growL_take (by rfl) ?_
  apply Exists.intro
  refine ⟨fun w' hE => ?_, ?_⟩
  · obtain ⟨k0, k1, k2, k3, k4, k5⟩ := dt_at HP.out hE
    go_simp
    try with_reducible rfl
  simp only [Act.put, List.setIfInBounds_toArray, List.set_cons_zero, List.set_cons_succ]
  refine growL_take (by rfl) ?_
  apply Exists.intro
  refine ⟨fun w' hE => ?_, ?_⟩
  · obtain ⟨k0, k1, k2, k3, k4, k5⟩ := dt_at HP.out hE
    go_simp
    try with_reducible rfl
  simp only [Act.put, List.setIfInBounds_toArray, List.set_cons_zero, List.set_cons_succ]
  refine growL_take (wanted_of g3 rfl rfl) ?_
  apply Exists.intro
  refine ⟨fun w' hE => ?_, ?_⟩
  · obtain ⟨k0, k1, k2, k3, k4, k5⟩ := dt_at HP.out hE
    go_simp
    try with_reducible rfl
  simp only [Act.put, List.setIfInBounds_toArray, List.set_cons_zero, List.set_cons_succ]
  refine growL_take (wanted_of g3 rfl rfl) ?_
  apply Exists.intro
  refine ⟨fun w' hE => ?_, ?_⟩
  · obtain ⟨k0, k1, k2, k3, k4, k5⟩ := dt_at HP.out hE
    go_simp
    try with_reducible rfl
  simp only [Act.put, List.setIfInBounds_toArray, List.set_cons_zero, List.set_cons_succ]
  refine growL_take (wanted_of g3 rfl rfl) ?_
  apply Exists.intro
  refine ⟨fun w' hE => ?_, ?_⟩
  · obtain ⟨k0, k1, k2, k3, k4, k5⟩ := dt_at HP.out hE
    go_simp
    try with_reducible rfl
  simp only [Act.put, List.setIfInBounds_toArray, List.set_cons_zero, List.set_cons_succ]
  refine growL_take (by rfl) ?_
  apply Exists.intro
  refine ⟨fun w' hE => ?_, ?_⟩
  · obtain ⟨k0, k1, k2, k3, k4, k5⟩ := dt_at HP.out hE
    go_simp
    try with_reducible rfl
  simp only [Act.put, List.setIfInBounds_toArray, List.set_cons_zero, List.set_cons_succ]
  refine growL_take (by rfl) ?_
  apply Exists.intro
  refine ⟨fun w' hE => ?_, ?_⟩
  · obtain ⟨k0, k1, k2, k3, k4, k5⟩ := dt_at HP.out hE
    go_simp
    try with_reducible rfl
  simp only [Act.put, List.setIfInBounds_toArray, List.set_cons_zero, List.set_cons_succ]
  refine growL_take (wanted_of g8 rfl rfl) ?_
  apply Exists.intro
  refine ⟨fun w' hE => ?_, ?_⟩
  · obtain ⟨k0, k1, k2, k3, k4, k5⟩ := dt_at HP.out hE
    go_simp
    try with_reducible rfl
  simp only [Act.put, List.setIfInBounds_toArray, List.set_cons_zero, List.set_cons_succ]
  refine growL_take (wanted_of g8 rfl rfl) ?_
  apply Exists.intro
  refine ⟨fun w' hE => ?_, ?_⟩
  · obtain ⟨k0, k1, k2, k3, k4, k5⟩ := dt_at HP.out hE
    go_simp
    try with_reducible rfl
  simp only [Act.put, List.setIfInBounds_toArray, List.set_cons_zero, List.set_cons_succ]
  refine growL_take (wanted_of g8 rfl rfl) ?_
  apply Exists.intro
  refine ⟨fun w' hE => ?_, ?_⟩
  · obtain ⟨k0, k1, k2, k3, k4, k5⟩ := dt_at HP.out hE
    go_simp
    try with_reducible rfl
  simp only [Act.put, List.setIfInBounds_toArray, List.set_cons_zero, List.set_cons_succ]
  refine growL_take (by rfl) ?_
  apply Exists.intro
  refine ⟨fun w' hE => ?_, ?_⟩
  · obtain ⟨k0, k1, k2, k3, k4, k5⟩ := dt_at HP.out hE
    go_simp
    try with_reducible rfl
  simp only [Act.put, List.setIfInBounds_toArray, List.set_cons_zero, List.set_cons_succ]
  refine growL_take (by rfl) ?_
  apply Exists.intro
  refine ⟨fun w' hE => ?_, ?_⟩
  · obtain ⟨k0, k1, k2, k3, k4, k5⟩ := dt_at HP.out hE
    go_simp
    try with_reducible rfl
  simp only [Act.put, List.setIfInBounds_toArray, List.set_cons_zero, List.set_cons_succ]
  refine growL_take (wanted_of g13 rfl rfl) ?_
  apply Exists.intro
  refine ⟨fun w' hE => ?_, ?_⟩
  · obtain ⟨k0, k1, k2, k3, k4, k5⟩ := dt_at HP.out hE
    go_simp
    try with_reducible rfl
  simp only [Act.put, List.setIfInBounds_toArray, List.set_cons_zero, List.set_cons_succ]
  refine growL_take (wanted_of g13 rfl rfl) ?_
  apply Exists.intro
  refine ⟨fun w' hE => ?_, ?_⟩
  · obtain ⟨k0, k1, k2, k3, k4, k5⟩ := dt_at HP.out hE
    go_simp
    try with_reducible rfl
  simp only [Act.put, List.setIfInBounds_toArray, List.set_cons_zero, List.set_cons_succ]
  refine growL_take (wanted_of g13 rfl rfl) ?_
  apply Exists.intro
  refine ⟨fun w' hE => ?_, ?_⟩
  · obtain ⟨k0, k1, k2, k3, k4, k5⟩ := dt_at HP.out hE
    go_simp
    try with_reducible rfl
  simp only [Act.put, List.setIfInBounds_toArray, List.set_cons_zero, List.set_cons_succ]
  refine growL_take (by rfl) ?_
  apply Exists.intro
  refine ⟨fun w' hE => ?_, ?_⟩
  · obtain ⟨k0, k1, k2, k3, k4, k5⟩ := dt_at HP.out hE
    go_simp
    try with_reducible rfl
  simp only [Act.put, List.setIfInBounds_toArray, List.set_cons_zero, List.set_cons_succ]
  refine growL_take (by rfl) ?_
  apply Exists.intro
  refine ⟨fun w' hE => ?_, ?_⟩
  · obtain ⟨k0, k1, k2, k3, k4, k5⟩ := dt_at HP.out hE
    go_simp
    try with_reducible rfl
  simp only [Act.put, List.setIfInBounds_toArray, List.set_cons_zero, List.set_cons_succ]
  refine growL_take (wanted_of g18 rfl rfl) ?_
  apply Exists.intro
  refine ⟨fun w' hE => ?_, ?_⟩
  · obtain ⟨k0, k1, k2, k3, k4, k5⟩ := dt_at HP.out hE
    go_simp
    try with_reducible rfl
  simp only [Act.put, List.setIfInBounds_toArray, List.set_cons_zero, List.set_cons_succ]
  refine growL_take (wanted_of g18 rfl rfl) ?_
  apply Exists.intro
  refine ⟨fun w' hE => ?_, ?_⟩
  · obtain ⟨k0, k1, k2, k3, k4, k5⟩ := dt_at HP.out hE
    go_simp
    try with_reducible rfl
  simp only [Act.put, List.setIfInBounds_toArray, List.set_cons_zero, List.set_cons_succ]
  refine growL_take (wanted_of g18 rfl rfl) ?_
  apply Exists.intro
  refine ⟨fun w' hE => ?_, ?_⟩
  · obtain ⟨k0, k1, k2, k3, k4, k5⟩ := dt_at HP.out hE
    go_simp
    try with_reducible rfl
  simp only [Act.put, List.setIfInBounds_toArray, List.set_cons_zero, List.set_cons_succ]
  refine growL_take (by rfl) ?_
  apply Exists.intro
  refine ⟨fun w' hE => ?_, ?_⟩
  · obtain ⟨k0, k1, k2, k3, k4, k5⟩ := dt_at HP.out hE
    go_simp
    try with_reducible rfl
  simp only [Act.put, List.setIfInBounds_toArray, List.set_cons_zero, List.set_cons_succ]
  refine growL_take (by rfl) ?_
  apply Exists.intro
  refine ⟨fun w' hE => ?_, ?_⟩
  · obtain ⟨k0, k1, k2, k3, k4, k5⟩ := dt_at HP.out hE
    go_simp
    try with_reducible rfl
  simp only [Act.put, List.setIfInBounds_toArray, List.set_cons_zero, List.set_cons_succ]
  refine growL_take (wanted_of g23 rfl rfl) ?_
  apply Exists.intro
  refine ⟨fun w' hE => ?_, ?_⟩
  · obtain ⟨k0, k1, k2, k3, k4, k5⟩ := dt_at HP.out hE
    go_simp
    try with_reducible rfl
  simp only [Act.put, List.setIfInBounds_toArray, List.set_cons_zero, List.set_cons_succ]
  refine growL_take (wanted_of g23 rfl rfl) ?_
  apply Exists.intro
  refine ⟨fun w' hE => ?_, ?_⟩
  · obtain ⟨k0, k1, k2, k3, k4, k5⟩ := dt_at HP.out hE
    go_simp
    try with_reducible rfl
  simp only [Act.put, List.setIfInBounds_toArray, List.set_cons_zero, List.set_cons_succ]
  refine growL_take (wanted_of g23 rfl rfl) ?_
  apply Exists.intro
  refine ⟨fun w' hE => ?_, ?_⟩
  · obtain ⟨k0, k1, k2, k3, k4, k5⟩ := dt_at HP.out hE
    go_simp
    try with_reducible rfl
  simp only [Act.put, List.setIfInBounds_toArray, List.set_cons_zero, List.set_cons_succ]
  refine growL_take (wanted_of g23 rfl rfl) ?_
  apply Exists.intro
  refine ⟨fun w' hE => ?_, ?_⟩
  · obtain ⟨k0, k1, k2, k3, k4, k5⟩ := dt_at HP.out hE
    go_simp
    try with_reducible rfl
  simp only [Act.put, List.setIfInBounds_toArray, List.set_cons_zero, List.set_cons_succ]
  refine growL_take (wanted_of g23 rfl rfl) ?_
  apply Exists.intro
  refine ⟨fun w' hE => ?_, ?_⟩
  · obtain ⟨k0, k1, k2, k3, k4, k5⟩ := dt_at HP.out hE
    go_simp
    try with_reducible rfl
  simp only [Act.put, List.setIfInBounds_toArray, List.set_cons_zero, List.set_cons_succ]
  refine growL_take (wanted_of g23 rfl rfl) ?_
  apply Exists.intro
  refine ⟨fun w' hE => ?_, ?_⟩
  · obtain ⟨k0, k1, k2, k3, k4, k5⟩ := dt_at HP.out hE
    go_simp
    try with_reducible rfl
  simp only [Act.put, List.setIfInBounds_toArray, List.set_cons_zero, List.set_cons_succ]
  refine growL_call (wanted_of g23 rfl rfl) (fun K hK => ?_)
  go_simp
  refine (rdays2_any y m _ (by omega) (by omega) (by omega) (by omega)).mono ?_
  rintro e w1 ⟨rfl, hb1⟩
  refine hK.out _ _ hb1 ?_
  clear hK K
  have HQ := Lib.hid (grown_block HP.out hb1)
  have HD1 := Lib.hid (HD0.out.trans (hb1.mono HD0.out.size))
  clear hb1
  refine growL_take (wanted_of g23 rfl rfl) ?_
  apply Exists.intro
  refine ⟨fun w' hE => ?_, ?_⟩
  · obtain ⟨k0, k1, k2, k3, k4, k5⟩ := dt_at HQ.out hE
    go_simp
    try with_reducible rfl
  simp only [Act.put, List.setIfInBounds_toArray, List.set_cons_zero, List.set_cons_succ]
  refine growL_take (by rfl) ?_
  apply Exists.intro
  refine ⟨fun w' hE => ?_, ?_⟩
  · obtain ⟨k0, k1, k2, k3, k4, k5⟩ := dt_at HQ.out hE
    go_simp
    try with_reducible rfl
  simp only [Act.put, List.setIfInBounds_toArray, List.set_cons_zero, List.set_cons_succ]
  refine growL_take (by rfl) ?_
  apply Exists.intro
  refine ⟨fun w' hE => ?_, ?_⟩
  · obtain ⟨k0, k1, k2, k3, k4, k5⟩ := dt_at HQ.out hE
    go_simp
    try with_reducible rfl
  simp only [Act.put, List.setIfInBounds_toArray, List.set_cons_zero, List.set_cons_succ]
  refine growL_take (wanted_of g33 rfl rfl) ?_
  apply Exists.intro
  refine ⟨fun w' hE => ?_, ?_⟩
  · obtain ⟨k0, k1, k2, k3, k4, k5⟩ := dt_at HQ.out hE
    go_simp
    try with_reducible rfl
  simp only [Act.put, List.setIfInBounds_toArray, List.set_cons_zero, List.set_cons_succ]
  refine growL_take (wanted_of g33 rfl rfl) ?_
  apply Exists.intro
  refine ⟨fun w' hE => ?_, ?_⟩
  · obtain ⟨k0, k1, k2, k3, k4, k5⟩ := dt_at HQ.out hE
    go_simp
    try with_reducible rfl
  simp only [Act.put, List.setIfInBounds_toArray, List.set_cons_zero, List.set_cons_succ]
  refine growL_take (wanted_of g33 rfl rfl) ?_
  apply Exists.intro
  refine ⟨fun w' hE => ?_, ?_⟩
  · obtain ⟨k0, k1, k2, k3, k4, k5⟩ := dt_at HQ.out hE
    go_simp
    try with_reducible rfl
  simp only [Act.put, List.setIfInBounds_toArray, List.set_cons_zero, List.set_cons_succ]
  refine growL_take (by rfl) ?_
  apply Exists.intro
  refine ⟨fun w' hE => ?_, ?_⟩
  · obtain ⟨k0, k1, k2, k3, k4, k5⟩ := dt_at HQ.out hE
    go_simp
    try with_reducible rfl
  simp only [Act.put, List.setIfInBounds_toArray, List.set_cons_zero, List.set_cons_succ]
  refine growL_take (by rfl) ?_
  apply Exists.intro
  refine ⟨fun w' hE => ?_, ?_⟩
  · obtain ⟨k0, k1, k2, k3, k4, k5⟩ := dt_at HQ.out hE
    go_simp
    try with_reducible rfl
  simp only [Act.put, List.setIfInBounds_toArray, List.set_cons_zero, List.set_cons_succ]
  refine growL_take (wanted_of g38 rfl rfl) ?_
  apply Exists.intro
  refine ⟨fun w' hE => ?_, ?_⟩
  · obtain ⟨k0, k1, k2, k3, k4, k5⟩ := dt_at HQ.out hE
    go_simp
    try with_reducible rfl
  simp only [Act.put, List.setIfInBounds_toArray, List.set_cons_zero, List.set_cons_succ]
  refine growL_take (wanted_of g38 rfl rfl) ?_
  apply Exists.intro
  refine ⟨fun w' hE => ?_, ?_⟩
  · obtain ⟨k0, k1, k2, k3, k4, k5⟩ := dt_at HQ.out hE
    go_simp
    try with_reducible rfl
  simp only [Act.put, List.setIfInBounds_toArray, List.set_cons_zero, List.set_cons_succ]
  refine growL_take (wanted_of g38 rfl rfl) ?_
  apply Exists.intro
  refine ⟨fun w' hE => ?_, ?_⟩
  · obtain ⟨k0, k1, k2, k3, k4, k5⟩ := dt_at HQ.out hE
    go_simp
    try with_reducible rfl
  simp only [Act.put, List.setIfInBounds_toArray, List.set_cons_zero, List.set_cons_succ]
  refine growL_take (by rfl) ?_
  apply Exists.intro
  refine ⟨fun w' hE => ?_, ?_⟩
  · obtain ⟨k0, k1, k2, k3, k4, k5⟩ := dt_at HQ.out hE
    go_simp
    try with_reducible rfl
  simp only [Act.put, List.setIfInBounds_toArray, List.set_cons_zero, List.set_cons_succ]
  refine growL_take (by rfl) ?_
  apply Exists.intro
  refine ⟨fun w' hE => ?_, ?_⟩
  · obtain ⟨k0, k1, k2, k3, k4, k5⟩ := dt_at HQ.out hE
    go_simp
    try with_reducible rfl
  simp only [Act.put, List.setIfInBounds_toArray, List.set_cons_zero, List.set_cons_succ]
  refine growL_take (wanted_of g43 rfl rfl) ?_
  apply Exists.intro
  refine ⟨fun w' hE => ?_, ?_⟩
  · obtain ⟨k0, k1, k2, k3, k4, k5⟩ := dt_at HQ.out hE
    go_simp
    try with_reducible rfl
  simp only [Act.put, List.setIfInBounds_toArray, List.set_cons_zero, List.set_cons_succ]
  refine growL_take (wanted_of g43 rfl rfl) ?_
  apply Exists.intro
  refine ⟨fun w' hE => ?_, ?_⟩
  · obtain ⟨k0, k1, k2, k3, k4, k5⟩ := dt_at HQ.out hE
    go_simp
    try with_reducible rfl
  simp only [Act.put, List.setIfInBounds_toArray, List.set_cons_zero, List.set_cons_succ]
  refine growL_take (wanted_of g43 rfl rfl) ?_
  apply Exists.intro
  refine ⟨fun w' hE => ?_, ?_⟩
  · obtain ⟨k0, k1, k2, k3, k4, k5⟩ := dt_at HQ.out hE
    go_simp
    try with_reducible rfl
  simp only [Act.put, List.setIfInBounds_toArray, List.set_cons_zero, List.set_cons_succ]
  refine growL_take (by rfl) ?_
  apply Exists.intro
  refine ⟨fun w' hE => ?_, ?_⟩
  · obtain ⟨k0, k1, k2, k3, k4, k5⟩ := dt_at HQ.out hE
    go_simp
    try with_reducible rfl
  simp only [Act.put, List.setIfInBounds_toArray, List.set_cons_zero, List.set_cons_succ]
  refine growL_take (by rfl) ?_
  apply Exists.intro
  refine ⟨fun w' hE => ?_, ?_⟩
  · obtain ⟨k0, k1, k2, k3, k4, k5⟩ := dt_at HQ.out hE
    go_simp
    try with_reducible rfl
  simp only [Act.put, List.setIfInBounds_toArray, List.set_cons_zero, List.set_cons_succ]
  refine growL_take (wanted_of g48 rfl rfl) ?_
  apply Exists.intro
  refine ⟨fun w' hE => ?_, ?_⟩
  · obtain ⟨k0, k1, k2, k3, k4, k5⟩ := dt_at HQ.out hE
    go_simp
    try with_reducible rfl
  simp only [Act.put, List.setIfInBounds_toArray, List.set_cons_zero, List.set_cons_succ]
  refine growL_take (wanted_of g48 rfl rfl) ?_
  apply Exists.intro
  refine ⟨fun w' hE => ?_, ?_⟩
  · obtain ⟨k0, k1, k2, k3, k4, k5⟩ := dt_at HQ.out hE
    go_simp
    try with_reducible rfl
  simp only [Act.put, List.setIfInBounds_toArray, List.set_cons_zero, List.set_cons_succ]
  refine growL_take (wanted_of g48 rfl rfl) ?_
  apply Exists.intro
  refine ⟨fun w' hE => ?_, ?_⟩
  · obtain ⟨k0, k1, k2, k3, k4, k5⟩ := dt_at HQ.out hE
    go_simp
    try with_reducible rfl
  simp only [Act.put, List.setIfInBounds_toArray, List.set_cons_zero, List.set_cons_succ]
  refine growL_take (by rfl) ?_
  apply Exists.intro
  refine ⟨fun w' hE => ?_, ?_⟩
  · obtain ⟨k0, k1, k2, k3, k4, k5⟩ := dt_at HQ.out hE
    go_simp
    try with_reducible rfl
  simp only [Act.put, List.setIfInBounds_toArray, List.set_cons_zero, List.set_cons_succ]
  refine growL_take (by rfl) ?_
  apply Exists.intro
  refine ⟨fun w' hE => ?_, ?_⟩
  · obtain ⟨k0, k1, k2, k3, k4, k5⟩ := dt_at HQ.out hE
    go_simp
    try with_reducible rfl
  simp only [Act.put, List.setIfInBounds_toArray, List.set_cons_zero, List.set_cons_succ]
  refine growL_take (wanted_of g53 rfl rfl) ?_
  apply Exists.intro
  refine ⟨fun w' hE => ?_, ?_⟩
  · obtain ⟨k0, k1, k2, k3, k4, k5⟩ := dt_at HQ.out hE
    go_simp
    try with_reducible rfl
  simp only [Act.put, List.setIfInBounds_toArray, List.set_cons_zero, List.set_cons_succ]
  refine growL_take (wanted_of g53 rfl rfl) ?_
  apply Exists.intro
  refine ⟨fun w' hE => ?_, ?_⟩
  · obtain ⟨k0, k1, k2, k3, k4, k5⟩ := dt_at HQ.out hE
    go_simp
    try with_reducible rfl
  simp only [Act.put, List.setIfInBounds_toArray, List.set_cons_zero, List.set_cons_succ]
  refine growL_take (wanted_of g53 rfl rfl) ?_
  apply Exists.intro
  refine ⟨fun w' hE => ?_, ?_⟩
  · obtain ⟨k0, k1, k2, k3, k4, k5⟩ := dt_at HQ.out hE
    go_simp
    try with_reducible rfl
  simp only [Act.put, List.setIfInBounds_toArray, List.set_cons_zero, List.set_cons_succ]
  refine growL_take (by rfl) ?_
  apply Exists.intro
  refine ⟨fun w' hE => ?_, ?_⟩
  · obtain ⟨k0, k1, k2, k3, k4, k5⟩ := dt_at HQ.out hE
    go_simp
    try with_reducible rfl
  simp only [Act.put, List.setIfInBounds_toArray, List.set_cons_zero, List.set_cons_succ]
  refine growL_take (by rfl) ?_
  apply Exists.intro
  refine ⟨fun w' hE => ?_, ?_⟩
  · obtain ⟨k0, k1, k2, k3, k4, k5⟩ := dt_at HQ.out hE
    go_simp
    try with_reducible rfl
  simp only [Act.put, List.setIfInBounds_toArray, List.set_cons_zero, List.set_cons_succ]
  refine growL_take (wanted_of g58 rfl rfl) ?_
  apply Exists.intro
  refine ⟨fun w' hE => ?_, ?_⟩
  · obtain ⟨k0, k1, k2, k3, k4, k5⟩ := dt_at HQ.out hE
    go_simp
    try with_reducible rfl
  simp only [Act.put, List.setIfInBounds_toArray, List.set_cons_zero, List.set_cons_succ]
  refine growL_take (wanted_of g58 rfl rfl) ?_
  apply Exists.intro
  refine ⟨fun w' hE => ?_, ?_⟩
  · obtain ⟨k0, k1, k2, k3, k4, k5⟩ := dt_at HQ.out hE
    go_simp
    try with_reducible rfl
  simp only [Act.put, List.setIfInBounds_toArray, List.set_cons_zero, List.set_cons_succ]
  refine growL_take (wanted_of g58 rfl rfl) ?_
  apply Exists.intro
  refine ⟨fun w' hE => ?_, ?_⟩
  · obtain ⟨k0, k1, k2, k3, k4, k5⟩ := dt_at HQ.out hE
    go_simp
    try with_reducible rfl
  simp only [Act.put, List.setIfInBounds_toArray, List.set_cons_zero, List.set_cons_succ]
  refine growL_take (by rfl) ?_
  apply Exists.intro
  refine ⟨fun w' hE => ?_, ?_⟩
  · obtain ⟨k0, k1, k2, k3, k4, k5⟩ := dt_at HQ.out hE
    go_simp
    try with_reducible rfl
  simp only [Act.put, List.setIfInBounds_toArray, List.set_cons_zero, List.set_cons_succ]
  refine growL_take (by rfl) ?_
  apply Exists.intro
  refine ⟨fun w' hE => ?_, ?_⟩
  · obtain ⟨k0, k1, k2, k3, k4, k5⟩ := dt_at HQ.out hE
    go_simp
    try with_reducible rfl
  simp only [Act.put, List.setIfInBounds_toArray, List.set_cons_zero, List.set_cons_succ]
  refine growL_done (NoPanic.normal ?_)
  simp only [Exit.then]
  go_wp2_with fail
  go_ret
  exact ⟨rfl, HD1.out⟩

end Go.Proofs.YtdaiielhohdgiaaGreatDoor
