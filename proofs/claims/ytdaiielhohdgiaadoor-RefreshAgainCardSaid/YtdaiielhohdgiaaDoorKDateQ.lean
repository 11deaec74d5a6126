/- The date layer's Put, walked. -/
import Derived.Test.YtdaiielhohdgiaaDoorKDateP
import Derived.Test.YtdaiielhohdgiaaDoorKGrow
namespace Go.Proofs.YtdaiielhohdgiaaDoor
open Go.RowKit

theorem dec_four (n : Nat) (h : 1000 ≤ n) (h1 : n < 10000) : Lib.decDigits n = [digO (n / 1000), digO (n / 100 % 10), digO (n / 10 % 10), digO (n % 10)] := by
  rw [Lib.decDigits, dif_neg (by omega), Lib.decDigits, dif_neg (by omega), dec_two (n / 10 / 10) (by omega) (by omega)]
  rw [show n / 10 / 10 / 10 = n / 1000 from by omega, show n / 10 / 10 % 10 = n / 100 % 10 from by omega]; rfl
/-- a year, by four digits -/
def pad4 (n : Int) : List UInt8 := [digO (n.toNat / 1000), digO (n.toNat / 100 % 10), digO (n.toNat / 10 % 10), digO (n.toNat % 10)]
theorem itoa_four (n : Int) (h0 : 1000 ≤ n) (h1 : n < 10000) : Lib.itoa n = pad4 n := by
  unfold Lib.itoa
  rw [if_neg (by omega), dec_four _ (by omega) (by omega)]; rfl
/-- a date in the first form -/
def fixT (wd m : Nat) (d y h i s : Int) : List UInt8 :=
  sDays.getD wd [] ++ [44, 32] ++ pad2 d ++ [32] ++ sMonths.getD m [] ++ [32] ++ pad4 y ++ [32] ++ pad2 h ++ [58] ++ pad2 i ++ [58] ++ pad2 s ++ [32, 71, 77, 84]
theorem day_three (k : Nat) (h : k < 7) : ∃ a b c, sDays.getD k [] = [a, b, c] := by
  match k, h with
  | 0, _ | 1, _ | 2, _ | 3, _ | 4, _ | 5, _ | 6, _ => exact ⟨_, _, _, rfl⟩
theorem month_three (k : Nat) (h : k < 12) : ∃ a b c, sMonths.getD k [] = [a, b, c] := by
  match k, h with
  | 0, _ | 1, _ | 2, _ | 3, _ | 4, _ | 5, _ | 6, _ | 7, _ | 8, _ | 9, _ | 10, _ | 11, _ => exact ⟨_, _, _, rfl⟩
theorem strs_getD {w : World} {b : Nat} {ns : List (List UInt8)} {k : Nat} {l : List UInt8} (hb : w.heap[b]? = some (.cells (strs ns) 9 (0, 0))) (hk : k < ns.length) (hl : ns.getD k [] = l) : w.cell? ⟨b, k, none⟩ = some (.string (bs l)) := by
  subst hl
  unfold World.cell?
  simp [hb, strs, hk]
theorem alloc_self (w : World) (c : Array Value) (T : TypeId) : (w.alloc (.cells c T)).heap[w.heap.size]? = some (.cells c T (0, 0)) := by
  show (w.heap.push _)[w.heap.size]? = _
  simp
theorem fields_days (w : World) (ht : Tabs w) :
    Calls Tryd.prog 32 #[.string ⟨#[77, 111, 110, 32, 84, 117, 101, 32, 87, 101, 100, 32, 84, 104, 117, 32, 70, 114, 105, 32, 83, 97, 116, 32, 83, 117, 110]⟩] w fun e w' => e = .returned (.slice (some ⟨w.heap.size, 0, none⟩) 7 7) ∧ w' = w.alloc (.cells (strs sDays) 9) :=
  fields_any _ sDays w (by decide) (by decide) (by decide) ht
theorem fields_months (w : World) (ht : Tabs w) :
    Calls Tryd.prog 32 #[.string ⟨#[74, 97, 110, 32, 70, 101, 98, 32, 77, 97, 114, 32, 65, 112, 114, 32, 77, 97, 121, 32, 74, 117, 110, 32, 74, 117, 108, 32, 65, 117, 103, 32, 83, 101, 112, 32, 79, 99, 116, 32, 78, 111, 118, 32, 68, 101, 99]⟩] w fun e w' => e = .returned (.slice (some ⟨w.heap.size, 0, none⟩) 12 12) ∧ w' = w.alloc (.cells (strs sMonths) 9) :=
  fields_any _ sMonths w (by decide) (by decide) (by decide) ht
theorem grown_block {w w' : World} {b : Nat} {o : Obj} (hb : w.heap[b]? = some o) (h : Below w.heap.size w w') : w'.heap[b]? = some o := (h.block b (lt_of_block hb)).trans hb
theorem fieldsDays_gr (w : World) (ht : Tabs w) :
    Calls Tryd.prog 32 #[.string ⟨#[77, 111, 110, 32, 84, 117, 101, 32, 87, 101, 100, 32, 84, 104, 117, 32, 70, 114, 105, 32, 83, 97, 116, 32, 83, 117, 110]⟩] w fun e w' => ∃ A, e = .returned (.slice (some ⟨A, 0, none⟩) 7 7) ∧ Below w.heap.size w w' ∧ w'.heap[A]? = some (.cells (strs sDays) 9 (0, 0)) :=
  (fields_days w ht).mono fun _ w' ⟨h1, h2⟩ => ⟨_, h1, by subst h2; exact (Below.refl _ _).alloc (Nat.le_refl _) _, by subst h2; exact alloc_self _ _ _⟩
theorem fieldsMonths_gr (w : World) (ht : Tabs w) :
    Calls Tryd.prog 32 #[.string ⟨#[74, 97, 110, 32, 70, 101, 98, 32, 77, 97, 114, 32, 65, 112, 114, 32, 77, 97, 121, 32, 74, 117, 110, 32, 74, 117, 108, 32, 65, 117, 103, 32, 83, 101, 112, 32, 79, 99, 116, 32, 78, 111, 118, 32, 68, 101, 99]⟩] w fun e w' => ∃ A, e = .returned (.slice (some ⟨A, 0, none⟩) 12 12) ∧ Below w.heap.size w w' ∧ w'.heap[A]? = some (.cells (strs sMonths) 9 (0, 0)) :=
  (fields_months w ht).mono fun _ w' ⟨h1, h2⟩ => ⟨_, h1, by subst h2; exact (Below.refl _ _).alloc (Nat.le_refl _) _, by subst h2; exact alloc_self _ _ _⟩
theorem itoa_gr (y : Int) (w : World) (ht : TabsP w) (h0 : 1000 ≤ y) (h1 : y < 10000) :
    Calls Tryd.prog 34 #[.int .i64 y] w fun e w' => e = .returned (.string (bs [digO (y.toNat / 1000), digO (y.toNat / 100 % 10), digO (y.toNat / 10 % 10), digO (y.toNat % 10)])) ∧ Below w.heap.size w w' :=
  (itoaT_any y w (by omega) (by omega) ht).mono fun _ w' ⟨h2, h3⟩ => ⟨by rw [h2, itoa_four y h0 h1]; rfl, h3⟩
theorem padded_gr (n : Int) (w : World) (h0 : 0 ≤ n) (h1 : n < 100) :
    Calls Tryd.prog 33 #[.int .i64 n] w fun e w' => e = .returned (.string (bs [digO (n.toNat / 10), digO (n.toNat % 10)])) ∧ w = w' := padded_any n w h0 h1
/-- a reading's row in block b: its cells -/
theorem rd_cells {b : Nat} {wd d m y h i s : Int} {w : World} (H : w.heap[b]? = some (.cells (rdRow wd d m y h i s) 68 (0, 0))) :
    w.cell? ⟨b, 0, none⟩ = some (.int .i64 wd) ∧ w.cell? ⟨b, 1, none⟩ = some (.int .i64 d) ∧ w.cell? ⟨b, 2, none⟩ = some (.int .i64 m) ∧ w.cell? ⟨b, 3, none⟩ = some (.int .i64 y) ∧
    w.cell? ⟨b, 4, none⟩ = some (.int .i64 h) ∧ w.cell? ⟨b, 5, none⟩ = some (.int .i64 i) ∧ w.cell? ⟨b, 6, none⟩ = some (.int .i64 s) :=
  rdIn_cells (b := b) (r := ⟨wd, d, m, y, h, i, s⟩) H

set_option maxRecDepth 100000 in
set_option maxHeartbeats 4000000 in
theorem dput_any (t : Int) (wd m : Nat) (y d h i s : Int) (w : World) (H : IsT t y m d h i s) (hw : wdI (t / 86400) = wd) (ht : TabsP w) :
    Calls Tryd.prog 17 #[.int .i64 t] w fun e w' => e = .returned (.string (bs (fixT wd m d y h i s))) ∧ Below w.heap.size w w' := by
  have hw7 : wd < 7 := by have := wd_bd (t / 86400); omega
  have hm12 : m < 12 := by have := H.1.2.2.2.1; omega
  obtain ⟨t0, t1⟩ := H.bd
  obtain ⟨h0, h1, i0, i1, s0, s1⟩ := H.time
  have y0 := H.1.1
  have y1 := H.1.2.1
  have d0 := H.1.2.2.2.2.1
  have d1 := H.1.2.2.2.2.2.1
  have d2 := (dom_bd y m).2
  obtain ⟨a1, a2, a3, ha⟩ := day_three wd hw7
  obtain ⟨b1, b2, b3, hb⟩ := month_three m hm12
  have HA := Lib.hid ha
  have HM := Lib.hid hb
  have HH := Lib.hid H
  have HT := Lib.hid ht
  have HW := Lib.hid hw
  clear H ht hw ha hb
  go_enter Tryd.func17, Tryd.ntmps17
  go_wp2_with fail
  refine (readingOf_any _ _ _ _ _ _ _ _ HH.out).mono ?_
  rw [HW.out]
  rintro e w1 ⟨rfl, hb1⟩
  have HB1 := Lib.hid hb1
  have hz1 := hb1.size
  have HT1 := Lib.hid (HT.out.below hb1)
  clear hb1
  go_wp2_with fail
  have hw8 : (wd : Int) < 7 := by omega
  have hm13 : (m : Int) < 12 := by omega
  have HP : Hid ((w1.alloc (.cells (rdRow wd d m y h i s) 68)).drew.heap[w1.heap.size]? = some (.cells (rdRow wd d m y h i s) 68 (0, 0))) := alloc_self _ _ _
  have HD : Hid (Below w1.heap.size w1 (w1.alloc (.cells (rdRow wd d m y h i s) 68)).drew) := ((Below.refl _ _).alloc (Nat.le_refl _) _).drew
  have HT2 : Hid (TabsP (w1.alloc (.cells (rdRow wd d m y h i s) 68)).drew) := (HT1.out.alloc _)
  refine wp_region_growL [(1, false), (2, false), (6, false), (7, false), (12, false), (13, false), (18, false), (19, false), (23, false), (24, false), (28, false), (29, false), (33, false), (34, false), (0, true), (3, false), (4, false), (5, false), (8, true), (9, false), (10, false), (11, true), (14, false), (15, false), (16, false), (17, false), (20, true), (21, false), (22, false), (25, true), (26, false), (27, false), (30, true), (31, false), (32, false), (35, true), (36, false), (37, false), (38, false)] (by kernel_rfl) (by kernel_rfl) rfl (by kernel_rfl) (by kernel_rfl) (fun ops hops => ?_)
  simp only [inOrder, List.getD_cons_zero, List.getD_cons_succ]
  clear hops
  iterate 14
    refine growL_take (by rfl) ?_
    apply Exists.intro
    refine ⟨fun w' hE => ?_, ?_⟩
    · obtain ⟨c0, c1, c2, c3, c4, c5, c6⟩ := rd_cells (grown_block HP.out hE)
      go_simp
      try with_reducible rfl
    simp only [Act.put, List.setIfInBounds_toArray, List.set_cons_zero, List.set_cons_succ]
  refine growL_call (by rfl) (fun K hK => ?_)
  go_simp
  refine (fieldsDays_gr _ HT2.out.2).mono ?_
  rintro e w2 ⟨A1, rfl, hb2, hr2⟩
  refine hK.out _ _ hb2 ?_
  clear hK K
  have HR2 := Lib.hid hr2
  have HT3 := Lib.hid (HT2.out.below hb2)
  have HD2 := Lib.hid (HD.out.trans (hb2.mono HD.out.size))
  clear hb2 hr2
  iterate 3
    refine growL_take (by rfl) ?_
    apply Exists.intro
    refine ⟨fun w' hE => ?_, ?_⟩
    · have c0 := strs_getD (k := wd) (grown_block HR2.out hE) hw7 HA.out
      go_simp
      try with_reducible rfl
    simp only [Act.put, List.setIfInBounds_toArray, List.set_cons_zero, List.set_cons_succ]
  refine growL_call (by rfl) (fun K hK => ?_)
  go_simp
  refine (padded_gr _ _ (by omega) (by omega)).mono ?_
  rintro e w3 ⟨rfl, rfl⟩
  refine hK.out _ _ (Below.refl _ _) ?_
  clear hK K
  iterate 2
    refine growL_take (by rfl) ?_
    apply Exists.intro
    refine ⟨fun w' hE => ?_, ?_⟩
    · skip
      go_simp
      try with_reducible rfl
    simp only [Act.put, List.setIfInBounds_toArray, List.set_cons_zero, List.set_cons_succ]
  refine growL_call (by rfl) (fun K hK => ?_)
  go_simp
  refine (fieldsMonths_gr _ HT3.out.2).mono ?_
  rintro e w3 ⟨A2, rfl, hb3, hr3⟩
  refine hK.out _ _ hb3 ?_
  clear hK K
  have HR3 := Lib.hid hr3
  have HT4 := Lib.hid (HT3.out.below hb3)
  have HD3 := Lib.hid (HD2.out.trans (hb3.mono HD2.out.size))
  clear hb3 hr3
  iterate 4
    refine growL_take (by rfl) ?_
    apply Exists.intro
    refine ⟨fun w' hE => ?_, ?_⟩
    · have c0 := strs_getD (k := m) (grown_block HR3.out hE) hm12 HM.out
      go_simp
      try with_reducible rfl
    simp only [Act.put, List.setIfInBounds_toArray, List.set_cons_zero, List.set_cons_succ]
  refine growL_call (by rfl) (fun K hK => ?_)
  go_simp
  refine (itoa_gr _ _ HT4.out (by omega) (by omega)).mono ?_
  rintro e w4 ⟨rfl, hb4⟩
  refine hK.out _ _ hb4 ?_
  clear hK K
  have HD4 := Lib.hid (HD3.out.trans (hb4.mono HD3.out.size))
  clear hb4
  iterate 2
    refine growL_take (by rfl) ?_
    apply Exists.intro
    refine ⟨fun w' hE => ?_, ?_⟩
    · skip
      go_simp
      try with_reducible rfl
    simp only [Act.put, List.setIfInBounds_toArray, List.set_cons_zero, List.set_cons_succ]
  refine growL_call (by rfl) (fun K hK => ?_)
  go_simp
  refine (padded_gr _ _ (by omega) (by omega)).mono ?_
  rintro e w5 ⟨rfl, rfl⟩
  refine hK.out _ _ (Below.refl _ _) ?_
  clear hK K
  iterate 2
    refine growL_take (by rfl) ?_
    apply Exists.intro
    refine ⟨fun w' hE => ?_, ?_⟩
    · skip
      go_simp
      try with_reducible rfl
    simp only [Act.put, List.setIfInBounds_toArray, List.set_cons_zero, List.set_cons_succ]
  refine growL_call (by rfl) (fun K hK => ?_)
  go_simp
  refine (padded_gr _ _ (by omega) (by omega)).mono ?_
  rintro e w5 ⟨rfl, rfl⟩
  refine hK.out _ _ (Below.refl _ _) ?_
  clear hK K
  iterate 2
    refine growL_take (by rfl) ?_
    apply Exists.intro
    refine ⟨fun w' hE => ?_, ?_⟩
    · skip
      go_simp
      try with_reducible rfl
    simp only [Act.put, List.setIfInBounds_toArray, List.set_cons_zero, List.set_cons_succ]
  refine growL_call (by rfl) (fun K hK => ?_)
  go_simp
  refine (padded_gr _ _ (by omega) (by omega)).mono ?_
  rintro e w5 ⟨rfl, rfl⟩
  refine hK.out _ _ (Below.refl _ _) ?_
  clear hK K
  iterate 3
    refine growL_take (by rfl) ?_
    apply Exists.intro
    refine ⟨fun w' hE => ?_, ?_⟩
    · skip
      go_simp
      try with_reducible rfl
    simp only [Act.put, List.setIfInBounds_toArray, List.set_cons_zero, List.set_cons_succ]
  refine growL_done (NoPanic.normal ?_)
  simp only [Exit.then]
  go_wp2_with fail
  go_ret
  refine ⟨congrArg (fun x => Ending.returned (.string x)) ?_, HB1.out.trans (HD4.out.mono hz1)⟩
  show bs [a1, a2, a3] ++ bs [44, 32] ++ bs [digO (d.toNat / 10), digO (d.toNat % 10)] ++ bs [32] ++ bs [b1, b2, b3] ++ bs [32] ++ bs [digO (y.toNat / 1000), digO (y.toNat / 100 % 10), digO (y.toNat / 10 % 10), digO (y.toNat % 10)] ++ bs [32] ++
    bs [digO (h.toNat / 10), digO (h.toNat % 10)] ++ bs [58] ++ bs [digO (i.toNat / 10), digO (i.toNat % 10)] ++ bs [58] ++ bs [digO (s.toNat / 10), digO (s.toNat % 10)] ++ bs [32, 71, 77, 84] = _
  simp only [bs_appendD]
  unfold fixT
  rw [HA.out, HM.out]
  rfl
end Go.Proofs.YtdaiielhohdgiaaDoor
