/- The document's Old and Plain. -/
import Derived.Test.YtdaiielhohdgiaaGreatDoorKDateR
namespace Go.Proofs.YtdaiielhohdgiaaGreatDoor
open Go.RowKit

/-- a date in the second form -/
def oldT (wd m : Nat) (d y h i s : Int) : List UInt8 :=
  lDays.getD wd [] ++ [44, 32] ++ pad2 d ++ [45] ++ sMonths.getD m [] ++ [45] ++ pad2 (y % 100) ++ [32] ++ clkT h i s ++ [32, 71, 77, 84]
/-- a date in the third form; dd: its day -/
def ascT (wd m : Nat) (dd : List UInt8) (y h i s : Int) : List UInt8 :=
  sDays.getD wd [] ++ [32] ++ sMonths.getD m [] ++ [32] ++ dd ++ [32] ++ clkT h i s ++ [32] ++ pad4 y
theorem long_bd (k : Nat) (h : k < 7) : (lDays.getD k []).length ≤ 9 := by
  match k, h with
  | 0, _ | 1, _ | 2, _ | 3, _ | 4, _ | 5, _ | 6, _ => decide
theorem digits2y_any (y : Int) (w : World) (h0 : 1970 ≤ y) (h1 : y ≤ 9999) :
    Calls Tryz.prog 86 #[.int .i64 y, .int .i64 2] w fun e w' => e = .returned (.string (bs [digO ((y % 100).toNat / 10), digO ((y % 100).toNat % 10)])) ∧ Below w.heap.size w w' := by
  have := digits_any y.toNat 2 w (by omega) (by omega)
  rw [show ((y.toNat : Nat) : Int) = y from by omega, show digL y.toNat 2 = [digO ((y % 100).toNat / 10), digO ((y % 100).toNat % 10)] from by
    simp only [digL, List.nil_append]
    rw [show y.toNat / 10 % 10 = (y % 100).toNat / 10 from by omega, show y.toNat % 10 = (y % 100).toNat % 10 from by omega]; rfl] at this
  exact this
theorem digits1_any (n : Int) (w : World) (h0 : 0 ≤ n) (h1 : n < 100) :
    Calls Tryz.prog 86 #[.int .i64 n, .int .i64 1] w fun e w' => e = .returned (.string (bs [digO (n.toNat % 10)])) ∧ Below w.heap.size w w' := by
  have := digits_any n.toNat 1 w (by omega) (by omega)
  rw [show ((n.toNat : Nat) : Int) = n from by omega] at this
  exact this

set_option maxRecDepth 100000 in
set_option maxHeartbeats 4000000 in
theorem rold_any (y : Int) (wd m : Nat) (d h i s : Int) (w : World) (y0 : 1970 ≤ y) (y1 : y ≤ 9999) (hm : m < 12) (d0 : 1 ≤ d) (d1 : d < 100) (h0 : 0 ≤ h) (h1 : h < 100) (i0 : 0 ≤ i) (i1 : i < 100) (s0 : 0 ≤ s) (s1 : s < 100) (hw : wdI (aheadI y + cumI y m + d - 1) = wd) :
    Calls Tryz.prog 54 #[.agg #[.int .i64 y, .int .i64 ((m : Int) + 1), .int .i64 d, .int .i64 h, .int .i64 i, .int .i64 s]] w fun e w' => e = .returned (.string (bs (oldT wd m d y h i s))) ∧ Below w.heap.size w w' := by
  have hw7 : wd < 7 := by have := wd_bd (aheadI y + cumI y m + d - 1); omega
  have a0 := ahead_lo y y0
  have a1 := ahead_hi y y0
  have lp := lp_bd y
  have cb := cum_bd y (m := (m : Int)) (by omega) (by omega)
  have hl := long_bd wd hw7
  obtain ⟨l, ha⟩ : ∃ l, lDays.getD wd [] = l := ⟨_, rfl⟩
  rw [ha] at hl
  obtain ⟨z1, z2, z3, hb⟩ := month_three m hm
  have HA := Lib.hid ha
  have HM := Lib.hid hb
  have HW := Lib.hid hw
  have hm13 : (m : Int) < 12 := by omega
  have q0 : ¬ 9223372036854775807 < l.length + 2 := by omega
  have q1 : ¬ 9223372036854775807 < l.length + 2 + 2 := by omega
  have q2 : ¬ 9223372036854775807 < l.length + 2 + 2 + 1 := by omega
  have q3 : ¬ 9223372036854775807 < l.length + 2 + 2 + 1 + 3 := by omega
  have q4 : ¬ 9223372036854775807 < l.length + 2 + 2 + 1 + 3 + 1 := by omega
  have q5 : ¬ 9223372036854775807 < l.length + 2 + 2 + 1 + 3 + 1 + 2 := by omega
  have q6 : ¬ 9223372036854775807 < l.length + 2 + 2 + 1 + 3 + 1 + 2 + 1 := by omega
  have q7 : ¬ 9223372036854775807 < l.length + 2 + 2 + 1 + 3 + 1 + 2 + 1 + 8 := by omega
  have q8 : ¬ 9223372036854775807 < l.length + 2 + 2 + 1 + 3 + 1 + 2 + 1 + 8 + 4 := by omega
  clear hw ha hb
  go_enter Tryz.func54, Tryz.ntmps54
  go_wp2_with fail
  have HP : Hid ((w.alloc (.cells (dtRow y ((m : Int) + 1) d h i s) 84)).drew.heap[w.heap.size]? = some (.cells (dtRow y ((m : Int) + 1) d h i s) 84 (0, 0))) := alloc_self _ _ _
  have HD0 : Hid (Below w.heap.size w (w.alloc (.cells (dtRow y ((m : Int) + 1) d h i s) 84)).drew) := ((Below.refl _ _).alloc (Nat.le_refl _) _).drew
  refine wp_region_growL [(0, false), (5, false), (6, false), (11, false), (12, false), (13, false), (18, false), (19, false), (23, false), (1, true), (2, true), (3, true), (4, false), (7, true), (8, false), (9, false), (10, true), (14, false), (15, false), (16, false), (17, false), (20, true), (21, false), (22, false), (24, true), (25, false), (26, false), (27, false)] (by kernel_rfl) (by kernel_rfl) rfl (by kernel_rfl) (by kernel_rfl) (fun ops hops => ?_)
  simp only [inOrder, List.getD_cons_zero, List.getD_cons_succ]
  clear hops
  iterate 9
    refine growL_take (by rfl) ?_
    apply Exists.intro
    refine ⟨fun w' hE => ?_, ?_⟩
    · obtain ⟨c0, c1, c2, c3, c4, c5⟩ := dt_at HP.out hE
      go_simp
      try with_reducible rfl
    simp only [Act.put, List.setIfInBounds_toArray, List.set_cons_zero, List.set_cons_succ]
  refine growL_call (by rfl) (fun K hK => ?_)
  go_simp
  refine (rcount_any y m d h i s _ y0 y1 (by omega) (by omega) (by omega) (by omega)).mono ?_
  rintro e w1 ⟨rfl, hb1⟩
  refine hK.out _ _ hb1 ?_
  clear hK K
  have HD1 := Lib.hid (HD0.out.trans (hb1.mono HD0.out.size))
  clear hb1
  refine growL_call (by rfl) (fun K hK => ?_)
  go_simp
  refine (rlong_any _).mono ?_
  rintro e w2 ⟨A1, rfl, hb2, hr2⟩
  refine hK.out _ _ hb2 ?_
  clear hK K
  have HD2 := Lib.hid (HD1.out.trans (hb2.mono HD1.out.size))
  have HR2 := Lib.hid hr2
  clear hb2 hr2
  refine growL_call (by rfl) (fun K hK => ?_)
  go_simp
  refine (rweekday_any _ _ lDays _ _ _ (by omega) (by omega) HW.out HA.out rfl HR2.out).mono ?_
  rintro e w3 ⟨rfl, rfl⟩
  refine hK.out _ _ (Below.refl _ _) ?_
  clear hK K
  iterate 1
    refine growL_take (by rfl) ?_
    apply Exists.intro
    refine ⟨fun w' hE => ?_, ?_⟩
    · skip
      go_simp
      try with_reducible rfl
    simp only [Act.put, List.setIfInBounds_toArray, List.set_cons_zero, List.set_cons_succ]
  refine growL_call (by rfl) (fun K hK => ?_)
  go_simp
  refine (digits2_any d _ (by omega) (by omega)).mono ?_
  rintro e w3 ⟨rfl, hb3⟩
  refine hK.out _ _ hb3 ?_
  clear hK K
  have HD3 := Lib.hid (HD2.out.trans (hb3.mono HD2.out.size))
  clear hb3
  iterate 2
    refine growL_take (by rfl) ?_
    apply Exists.intro
    refine ⟨fun w' hE => ?_, ?_⟩
    · skip
      go_simp
      try with_reducible rfl
    simp only [Act.put, List.setIfInBounds_toArray, List.set_cons_zero, List.set_cons_succ]
  refine growL_call (by rfl) (fun K hK => ?_)
  go_simp
  refine (rmonths_any _).mono ?_
  rintro e w4 ⟨A2, rfl, hb4, hr4⟩
  refine hK.out _ _ hb4 ?_
  clear hK K
  have HD4 := Lib.hid (HD3.out.trans (hb4.mono HD3.out.size))
  have HR4 := Lib.hid hr4
  clear hb4 hr4
  iterate 4
    refine growL_take (by rfl) ?_
    apply Exists.intro
    refine ⟨fun w' hE => ?_, ?_⟩
    · have c0 := strs_getD (k := m) (grown_block HR4.out hE) hm HM.out
      have ew := IntWalk.i64_in (m : Int) (by omega)
      go_simp
      try with_reducible rfl
    simp only [Act.put, List.setIfInBounds_toArray, List.set_cons_zero, List.set_cons_succ]
  refine growL_call (by rfl) (fun K hK => ?_)
  go_simp
  refine (digits2y_any y _ (by omega) (by omega)).mono ?_
  rintro e w5 ⟨rfl, hb5⟩
  refine hK.out _ _ hb5 ?_
  clear hK K
  have HD5 := Lib.hid (HD4.out.trans (hb5.mono HD4.out.size))
  clear hb5
  iterate 2
    refine growL_take (by rfl) ?_
    apply Exists.intro
    refine ⟨fun w' hE => ?_, ?_⟩
    · skip
      go_simp
      try with_reducible rfl
    simp only [Act.put, List.setIfInBounds_toArray, List.set_cons_zero, List.set_cons_succ]
  refine growL_call (by rfl) (fun K hK => ?_)
  go_simp
  refine (rclock_any _ _ _ _ _ _ _ h0 h1 i0 i1 s0 s1).mono ?_
  rintro e w6 ⟨rfl, hb6⟩
  refine hK.out _ _ hb6 ?_
  clear hK K
  have HD6 := Lib.hid (HD5.out.trans (hb6.mono HD5.out.size))
  clear hb6
  unfold clkT
  iterate 3
    refine growL_take (by rfl) ?_
    apply Exists.intro
    refine ⟨fun w' hE => ?_, ?_⟩
    · skip
      go_simp
      try with_reducible rfl
    simp only [Act.put, List.setIfInBounds_toArray, List.set_cons_zero, List.set_cons_succ]
  refine growL_done (NoPanic.normal ?_)
  simp only [Exit.then]
  go_wp2_with fail
  go_ret
  refine ⟨congrArg (fun x => Ending.returned (.string x)) ?_, HD6.out⟩
  show bs l ++ bs [44, 32] ++ bs [digO (d.toNat / 10), digO (d.toNat % 10)] ++ bs [45] ++ bs [z1, z2, z3] ++ bs [45] ++ bs [digO ((y % 100).toNat / 10), digO ((y % 100).toNat % 10)] ++ bs [32] ++
    bs [digO (h.toNat / 10), digO (h.toNat % 10), 58, digO (i.toNat / 10), digO (i.toNat % 10), 58, digO (s.toNat / 10), digO (s.toNat % 10)] ++ bs [32, 71, 77, 84] = _
  simp only [bs_appendD]
  unfold oldT
  rw [HA.out, HM.out]
  rfl
end Go.Proofs.YtdaiielhohdgiaaGreatDoor

/- The document's Plain. -/
namespace Go.Proofs.YtdaiielhohdgiaaGreatDoor
open Go.RowKit

set_option maxRecDepth 100000 in
set_option maxHeartbeats 4000000 in
theorem rplain_no (y : Int) (wd m : Nat) (d h i s : Int) (w : World) (y0 : 1970 ≤ y) (y1 : y ≤ 9999) (hm : m < 12) (d0 : 1 ≤ d) (d1 : d < 100) (h0 : 0 ≤ h) (h1 : h < 100) (i0 : 0 ≤ i) (i1 : i < 100) (s0 : 0 ≤ s) (s1 : s < 100) (hw : wdI (aheadI y + cumI y m + d - 1) = wd) :
    Calls Tryz.prog 55 #[.agg #[.int .i64 y, .int .i64 ((m : Int) + 1), .int .i64 d, .int .i64 h, .int .i64 i, .int .i64 s], .bool false] w fun e w' => e = .returned (.string (bs (ascT wd m [digO (d.toNat / 10), digO (d.toNat % 10)] y h i s))) ∧ Below w.heap.size w w' := by
  have hw7 : wd < 7 := by have := wd_bd (aheadI y + cumI y m + d - 1); omega
  have a0 := ahead_lo y y0
  have a1 := ahead_hi y y0
  have lp := lp_bd y
  have cb := cum_bd y (m := (m : Int)) (by omega) (by omega)
  obtain ⟨x1, x2, x3, ha⟩ := day_three wd hw7
  obtain ⟨z1, z2, z3, hb⟩ := month_three m hm
  have HA := Lib.hid ha
  have HM := Lib.hid hb
  have HW := Lib.hid hw
  have hm13 : (m : Int) < 12 := by omega
  clear hw ha hb
  go_enter Tryz.func55, Tryz.ntmps55
  go_wp2_with fail
  refine (digits2_any d _ (by omega) (by omega)).mono ?_
  rintro e wa ⟨rfl, hba⟩
  have HX : Hid (wa.heap[w.heap.size]? = some (.cells (dtRow y ((m : Int) + 1) d h i s) 84 (0, 0))) := grown_block (alloc_self _ _ _) hba
  have HY := Lib.hid (((Below.refl _ w).alloc (Nat.le_refl _) (.cells (dtRow y ((m : Int) + 1) d h i s) 84)).trans (hba.mono (by simp)))
  clear hba
  go_wp2_with fail
  have HP : Hid (wa.drew.heap[w.heap.size]? = some (.cells (dtRow y ((m : Int) + 1) d h i s) 84 (0, 0))) := HX.out
  have HD0 : Hid (Below w.heap.size w wa.drew) := HY.out.drew
  refine wp_region_growL [(0, false), (6, false), (7, false), (8, false), (13, false), (16, false), (20, false), (21, false), (1, true), (2, true), (3, true), (4, false), (5, true), (9, false), (10, false), (11, false), (12, false), (14, false), (15, false), (17, true), (18, false), (19, false), (22, true), (23, false), (24, false)] (by kernel_rfl) (by kernel_rfl) rfl (by kernel_rfl) (by kernel_rfl) (fun ops hops => ?_)
  simp only [inOrder, List.getD_cons_zero, List.getD_cons_succ]
  clear hops
  iterate 8
    refine growL_take (by rfl) ?_
    apply Exists.intro
    refine ⟨fun w' hE => ?_, ?_⟩
    · obtain ⟨c0, c1, c2, c3, c4, c5⟩ := dt_at HP.out hE
      go_simp
      try with_reducible rfl
    simp only [Act.put, List.setIfInBounds_toArray, List.set_cons_zero, List.set_cons_succ]
  refine growL_call (by rfl) (fun K hK => ?_)
  go_simp
  refine (rcount_any y m d h i s _ y0 y1 (by omega) (by omega) (by omega) (by omega)).mono ?_
  rintro e w1 ⟨rfl, hb1⟩
  refine hK.out _ _ hb1 ?_
  clear hK K
  have HD1 := Lib.hid (HD0.out.trans (hb1.mono HD0.out.size))
  clear hb1
  refine growL_call (by rfl) (fun K hK => ?_)
  go_simp
  refine (rshort_any _).mono ?_
  rintro e w2 ⟨A1, rfl, hb2, hr2⟩
  refine hK.out _ _ hb2 ?_
  clear hK K
  have HD2 := Lib.hid (HD1.out.trans (hb2.mono HD1.out.size))
  have HR2 := Lib.hid hr2
  clear hb2 hr2
  refine growL_call (by rfl) (fun K hK => ?_)
  go_simp
  refine (rweekday_any _ _ sDays _ _ _ (by omega) (by omega) HW.out HA.out rfl HR2.out).mono ?_
  rintro e w3 ⟨rfl, rfl⟩
  refine hK.out _ _ (Below.refl _ _) ?_
  clear hK K
  iterate 1
    refine growL_take (by rfl) ?_
    apply Exists.intro
    refine ⟨fun w' hE => ?_, ?_⟩
    · skip
      go_simp
      try with_reducible rfl
    simp only [Act.put, List.setIfInBounds_toArray, List.set_cons_zero, List.set_cons_succ]
  refine growL_call (by rfl) (fun K hK => ?_)
  go_simp
  refine (rmonths_any _).mono ?_
  rintro e w3 ⟨A2, rfl, hb3, hr3⟩
  refine hK.out _ _ hb3 ?_
  clear hK K
  have HD3 := Lib.hid (HD2.out.trans (hb3.mono HD2.out.size))
  have HR3 := Lib.hid hr3
  clear hb3 hr3
  iterate 6
    refine growL_take (by rfl) ?_
    apply Exists.intro
    refine ⟨fun w' hE => ?_, ?_⟩
    · have c0 := strs_getD (k := m) (grown_block HR3.out hE) hm HM.out
      have ew := IntWalk.i64_in (m : Int) (by omega)
      go_simp
      try with_reducible rfl
    simp only [Act.put, List.setIfInBounds_toArray, List.set_cons_zero, List.set_cons_succ]
  refine growL_call (by rfl) (fun K hK => ?_)
  go_simp
  refine (rclock_any _ _ _ _ _ _ _ h0 h1 i0 i1 s0 s1).mono ?_
  rintro e w4 ⟨rfl, hb4⟩
  refine hK.out _ _ hb4 ?_
  clear hK K
  have HD4 := Lib.hid (HD3.out.trans (hb4.mono HD3.out.size))
  clear hb4
  unfold clkT
  iterate 2
    refine growL_take (by rfl) ?_
    apply Exists.intro
    refine ⟨fun w' hE => ?_, ?_⟩
    · skip
      go_simp
      try with_reducible rfl
    simp only [Act.put, List.setIfInBounds_toArray, List.set_cons_zero, List.set_cons_succ]
  refine growL_call (by rfl) (fun K hK => ?_)
  go_simp
  refine (digits4_any y _ (by omega) (by omega)).mono ?_
  rintro e w5 ⟨rfl, hb5⟩
  refine hK.out _ _ hb5 ?_
  clear hK K
  have HD5 := Lib.hid (HD4.out.trans (hb5.mono HD4.out.size))
  clear hb5
  iterate 2
    refine growL_take (by rfl) ?_
    apply Exists.intro
    refine ⟨fun w' hE => ?_, ?_⟩
    · skip
      go_simp
      try with_reducible rfl
    simp only [Act.put, List.setIfInBounds_toArray, List.set_cons_zero, List.set_cons_succ]
  refine growL_done (NoPanic.normal ?_)
  simp only [Exit.then]
  go_wp2_with fail
  go_ret
  refine ⟨congrArg (fun x => Ending.returned (.string x)) ?_, HD5.out⟩
  show bs [x1, x2, x3] ++ bs [32] ++ bs [z1, z2, z3] ++ bs [32] ++ bs [digO (d.toNat / 10), digO (d.toNat % 10)] ++ bs [32] ++
    bs [digO (h.toNat / 10), digO (h.toNat % 10), 58, digO (i.toNat / 10), digO (i.toNat % 10), 58, digO (s.toNat / 10), digO (s.toNat % 10)] ++ bs [32] ++ bs [digO (y.toNat / 1000), digO (y.toNat / 100 % 10), digO (y.toNat / 10 % 10), digO (y.toNat % 10)] = _
  simp only [bs_appendD]
  unfold ascT
  rw [HA.out, HM.out]
  rfl

set_option maxRecDepth 100000 in
set_option maxHeartbeats 4000000 in
theorem rplain_yes (y : Int) (wd m : Nat) (d h i s : Int) (w : World) (y0 : 1970 ≤ y) (y1 : y ≤ 9999) (hm : m < 12) (d0 : 1 ≤ d) (d1 : d < 100) (h0 : 0 ≤ h) (h1 : h < 100) (i0 : 0 ≤ i) (i1 : i < 100) (s0 : 0 ≤ s) (s1 : s < 100) (hw : wdI (aheadI y + cumI y m + d - 1) = wd) :
    Calls Tryz.prog 55 #[.agg #[.int .i64 y, .int .i64 ((m : Int) + 1), .int .i64 d, .int .i64 h, .int .i64 i, .int .i64 s], .bool true] w fun e w' => e = .returned (.string (bs (ascT wd m [32, digO (d.toNat % 10)] y h i s))) ∧ Below w.heap.size w w' := by
  have hw7 : wd < 7 := by have := wd_bd (aheadI y + cumI y m + d - 1); omega
  have a0 := ahead_lo y y0
  have a1 := ahead_hi y y0
  have lp := lp_bd y
  have cb := cum_bd y (m := (m : Int)) (by omega) (by omega)
  obtain ⟨x1, x2, x3, ha⟩ := day_three wd hw7
  obtain ⟨z1, z2, z3, hb⟩ := month_three m hm
  have HA := Lib.hid ha
  have HM := Lib.hid hb
  have HW := Lib.hid hw
  have hm13 : (m : Int) < 12 := by omega
  clear hw ha hb
  go_enter Tryz.func55, Tryz.ntmps55
  go_wp2_with fail
  refine (digits2_any d _ (by omega) (by omega)).mono ?_
  rintro e wa ⟨rfl, hba⟩
  have HX : Hid (wa.heap[w.heap.size]? = some (.cells (dtRow y ((m : Int) + 1) d h i s) 84 (0, 0))) := grown_block (alloc_self _ _ _) hba
  have HY := Lib.hid (((Below.refl _ w).alloc (Nat.le_refl _) (.cells (dtRow y ((m : Int) + 1) d h i s) 84)).trans (hba.mono (by simp)))
  clear hba
  obtain ⟨c0, c1, c2, c3, c4, c5⟩ := dt_cells HX.out
  go_wp2_with fail
  clear c0 c1 c2 c3 c4 c5
  refine (digits1_any d _ (by omega) (by omega)).mono ?_
  rintro e wb ⟨rfl, hbb⟩
  have HP : Hid (wb.drew.heap[w.heap.size]? = some (.cells (dtRow y ((m : Int) + 1) d h i s) 84 (0, 0))) := (show wb.heap[w.heap.size]? = some (.cells (dtRow y ((m : Int) + 1) d h i s) 84 (0, 0)) from grown_block HX.out hbb)
  have HD0 : Hid (Below w.heap.size w wb.drew) := (HY.out.trans (hbb.mono HY.out.size)).drew
  clear hbb
  go_wp2_with fail
  refine wp_region_growL [(0, false), (6, false), (7, false), (8, false), (13, false), (16, false), (20, false), (21, false), (1, true), (2, true), (3, true), (4, false), (5, true), (9, false), (10, false), (11, false), (12, false), (14, false), (15, false), (17, true), (18, false), (19, false), (22, true), (23, false), (24, false)] (by kernel_rfl) (by kernel_rfl) rfl (by kernel_rfl) (by kernel_rfl) (fun ops hops => ?_)
  simp only [inOrder, List.getD_cons_zero, List.getD_cons_succ]
  clear hops
  iterate 8
    refine growL_take (by rfl) ?_
    apply Exists.intro
    refine ⟨fun w' hE => ?_, ?_⟩
    · obtain ⟨c0, c1, c2, c3, c4, c5⟩ := dt_at HP.out hE
      go_simp
      try with_reducible rfl
    simp only [Act.put, List.setIfInBounds_toArray, List.set_cons_zero, List.set_cons_succ]
  refine growL_call (by rfl) (fun K hK => ?_)
  go_simp
  refine (rcount_any y m d h i s _ y0 y1 (by omega) (by omega) (by omega) (by omega)).mono ?_
  rintro e w1 ⟨rfl, hb1⟩
  refine hK.out _ _ hb1 ?_
  clear hK K
  have HD1 := Lib.hid (HD0.out.trans (hb1.mono HD0.out.size))
  clear hb1
  refine growL_call (by rfl) (fun K hK => ?_)
  go_simp
  refine (rshort_any _).mono ?_
  rintro e w2 ⟨A1, rfl, hb2, hr2⟩
  refine hK.out _ _ hb2 ?_
  clear hK K
  have HD2 := Lib.hid (HD1.out.trans (hb2.mono HD1.out.size))
  have HR2 := Lib.hid hr2
  clear hb2 hr2
  refine growL_call (by rfl) (fun K hK => ?_)
  go_simp
  refine (rweekday_any _ _ sDays _ _ _ (by omega) (by omega) HW.out HA.out rfl HR2.out).mono ?_
  rintro e w3 ⟨rfl, rfl⟩
  refine hK.out _ _ (Below.refl _ _) ?_
  clear hK K
  iterate 1
    refine growL_take (by rfl) ?_
    apply Exists.intro
    refine ⟨fun w' hE => ?_, ?_⟩
    · skip
      go_simp
      try with_reducible rfl
    simp only [Act.put, List.setIfInBounds_toArray, List.set_cons_zero, List.set_cons_succ]
  refine growL_call (by rfl) (fun K hK => ?_)
  go_simp
  refine (rmonths_any _).mono ?_
  rintro e w3 ⟨A2, rfl, hb3, hr3⟩
  refine hK.out _ _ hb3 ?_
  clear hK K
  have HD3 := Lib.hid (HD2.out.trans (hb3.mono HD2.out.size))
  have HR3 := Lib.hid hr3
  clear hb3 hr3
  iterate 6
    refine growL_take (by rfl) ?_
    apply Exists.intro
    refine ⟨fun w' hE => ?_, ?_⟩
    · have c0 := strs_getD (k := m) (grown_block HR3.out hE) hm HM.out
      have ew := IntWalk.i64_in (m : Int) (by omega)
      go_simp
      try with_reducible rfl
    simp only [Act.put, List.setIfInBounds_toArray, List.set_cons_zero, List.set_cons_succ]
  refine growL_call (by rfl) (fun K hK => ?_)
  go_simp
  refine (rclock_any _ _ _ _ _ _ _ h0 h1 i0 i1 s0 s1).mono ?_
  rintro e w4 ⟨rfl, hb4⟩
  refine hK.out _ _ hb4 ?_
  clear hK K
  have HD4 := Lib.hid (HD3.out.trans (hb4.mono HD3.out.size))
  clear hb4
  unfold clkT
  iterate 2
    refine growL_take (by rfl) ?_
    apply Exists.intro
    refine ⟨fun w' hE => ?_, ?_⟩
    · skip
      go_simp
      try with_reducible rfl
    simp only [Act.put, List.setIfInBounds_toArray, List.set_cons_zero, List.set_cons_succ]
  refine growL_call (by rfl) (fun K hK => ?_)
  go_simp
  refine (digits4_any y _ (by omega) (by omega)).mono ?_
  rintro e w5 ⟨rfl, hb5⟩
  refine hK.out _ _ hb5 ?_
  clear hK K
  have HD5 := Lib.hid (HD4.out.trans (hb5.mono HD4.out.size))
  clear hb5
  iterate 2
    refine growL_take (by rfl) ?_
    apply Exists.intro
    refine ⟨fun w' hE => ?_, ?_⟩
    · skip
      go_simp
      try with_reducible rfl
    simp only [Act.put, List.setIfInBounds_toArray, List.set_cons_zero, List.set_cons_succ]
  refine growL_done (NoPanic.normal ?_)
  simp only [Exit.then]
  go_wp2_with fail
  go_ret
  refine ⟨congrArg (fun x => Ending.returned (.string x)) ?_, HD5.out⟩
  show bs [x1, x2, x3] ++ bs [32] ++ bs [z1, z2, z3] ++ bs [32] ++ (bs [32] ++ bs [digO (d.toNat % 10)]) ++ bs [32] ++
    bs [digO (h.toNat / 10), digO (h.toNat % 10), 58, digO (i.toNat / 10), digO (i.toNat % 10), 58, digO (s.toNat / 10), digO (s.toNat % 10)] ++ bs [32] ++ bs [digO (y.toNat / 1000), digO (y.toNat / 100 % 10), digO (y.toNat / 10 % 10), digO (y.toNat % 10)] = _
  simp only [bs_appendD]
  unfold ascT
  rw [HA.out, HM.out]
  rfl

end Go.Proofs.YtdaiielhohdgiaaGreatDoor
