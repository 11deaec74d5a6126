/- DateStep, walked. -/
import Derived.Test.YtjcllpfncohncaaDoorDateI
namespace Go.Proofs.YtjcllpfncohncaaDoor
open Go.RowKit

def dayT (wd m : Nat) (d y : Int) : List UInt8 := sDays.getD wd [] ++ [44, 32] ++ pad2 d ++ [32] ++ sMonths.getD m [] ++ [32] ++ pad4 y
def timT (h i s : Int) : List UInt8 := [32] ++ pad2 h ++ [58] ++ pad2 i ++ [58] ++ pad2 s ++ [32, 71, 77, 84]
theorem fix_parts (wd m : Nat) (d y h i s : Int) : fixT wd m d y h i s = dayT wd m d y ++ timT h i s := by
  simp only [fixT, dayT, timT, List.append_assoc]
theorem dayT_len {wd m : Nat} (d y : Int) (hw : wd < 7) (hm : m < 12) : (dayT wd m d y).length = 16 := by
  obtain ⟨a, b, c, hd⟩ := day_three _ hw
  obtain ⟨p, q, r, hm⟩ := month_three m hm
  unfold dayT; rw [hd, hm]; rfl
theorem fix_take {y : Int} {m : Nat} {d h i s : Int} (V : VD y m d h i s) : (fixT (wdN y m d) m d y h i s).take 16 = dayT (wdN y m d) m d y := by
  rw [fix_parts, ← dayT_len d y (wdN_lt y m d) V.2.2.1, List.take_left' rfl]
theorem step_same {x y : Int} {X Y : Int} {M N : Nat} {D E h i s h' i' s' : Int} (H : IsT x X M D h i s) (K : IsT y Y N E h' i' s') (e : fixT (wdN X M D) M D X h i s = fixT (wdN Y N E) N E Y h' i' s') : x = y := by
  obtain ⟨V, a, _⟩ := isT_vd H
  obtain ⟨U, b, _⟩ := isT_vd K
  have p := parse_fix 0 V
  rw [e, parse_fix 0 U, a, b] at p
  exact (Option.some.inj p).symm
theorem step_day {x y : Int} {X Y : Int} {M N : Nat} {D E h i s h' i' s' : Int} (H : IsT x X M D h i s) (K : IsT y Y N E h' i' s') :
    ((fixT (wdN X M D) M D X h i s).take 16 = (fixT (wdN Y N E) N E Y h' i' s').take 16) ↔ x / 86400 = y / 86400 := by
  obtain ⟨V, a, _⟩ := isT_vd H
  obtain ⟨U, b, _⟩ := isT_vd K
  constructor
  · intro e
    rw [fix_take V, fix_take U] at e
    have W : VD Y N E h i s := ⟨U.1, U.2.1, U.2.2.1, U.2.2.2.1, U.2.2.2.2.1, V.2.2.2.2.2⟩
    have p := parse_fix 0 V
    rw [fix_parts, e, ← fix_parts, parse_fix 0 W, a] at p
    have q := Option.some.inj p
    have r := (vd_isT W).1
    rw [q] at r
    rw [← r.2.2.2.2.2.2, ← K.1.2.2.2.2.2.2]
  · intro e
    have h1 := H.1
    rw [e] at h1
    obtain ⟨rfl, hm, rfl⟩ := h1.uniq K.1
    obtain rfl : M = N := by omega
    rw [fix_take V, fix_take U]

set_option maxRecDepth 100000 in
set_option maxHeartbeats 4000000 in
theorem dateStep_any (a b : Int) (w : World) (wa : (Lit.int .u64 a).wf = true) (wb : (Lit.int .u64 b).wf = true) (ht : Tabs w) :
    Calls Tryd.prog 9 #[.int .u64 a, .int .u64 b] w fun e w' => e = .returned (.bool true) ∧ Below w.heap.size w w' := by
  obtain ⟨a0, a1⟩ := u64_bd wa
  obtain ⟨b0, b1⟩ := u64_bd wb
  have HT := Lib.hid ht
  clear wa wb ht
  obtain ⟨X, M, D, h, i, s, H⟩ := isT_exN (a % 253402300800) (by omega) (by omega)
  obtain ⟨Y, N, E, h', i', s', K⟩ := isT_exN (b % 253402300800) (by omega) (by omega)
  have hl1 := fixT_len (isT_vd H).1
  have hl2 := fixT_len (isT_vd K).1
  have e1 := step_day H K
  have e2 : a % 253402300800 = b % 253402300800 → fixT (wdN X M D) M D X h i s = fixT (wdN Y N E) N E Y h' i' s' := by
    intro e
    rw [e] at H
    obtain ⟨rfl, hm, rfl, rfl, rfl, rfl⟩ := H.uniq K
    obtain rfl : M = N := by omega
    rfl
  have e3 := step_same H K
  have HU : Hid (∀ w, Tabs w → Calls Tryd.prog 13 #[.int .i64 (a % 253402300800)] w fun e w' => e = .returned (.string (bs (fixT (wdN X M D) M D X h i s))) ∧ Below w.heap.size w w') := fun w ht => put_ok _ _ _ _ _ _ _ w H ht
  have HV : Hid (∀ w, Tabs w → Calls Tryd.prog 13 #[.int .i64 (b % 253402300800)] w fun e w' => e = .returned (.string (bs (fixT (wdN Y N E) N E Y h' i' s'))) ∧ Below w.heap.size w w') := fun w ht => put_ok _ _ _ _ _ _ _ w K ht
  generalize fixT (wdN X M D) M D X h i s = L at *
  generalize fixT (wdN Y N E) N E Y h' i' s' = L' at *
  clear H K
  obtain ⟨x, hx⟩ : ∃ x, a % 253402300800 = x := ⟨_, rfl⟩
  obtain ⟨y, hy⟩ : ∃ y, b % 253402300800 = y := ⟨_, rfl⟩
  rw [hx] at e1 e2 e3 HU
  rw [hy] at e1 e2 e3 HV
  have x0 : 0 ≤ x := by omega
  have x1 : x ≤ 253402300799 := by omega
  have y0 : 0 ≤ y := by omega
  have y1 : y ≤ 253402300799 := by omega
  have q1 : ((bs L).toList == (bs L').toList) = (x == y) := by
    rw [Lib.toList_data, Lib.toList_data, bs_data, bs_data, Bool.eq_iff_iff, beq_iff_eq, beq_iff_eq]
    exact ⟨e3, e2⟩
  have q2 : (((bs L).extract 0 16).toList == ((bs L').extract 0 16).toList) = (x / 86400 == y / 86400) := by
    rw [Lib.toList_data, Lib.toList_data, Lib.extract_data, Lib.extract_data, bs_data, bs_data, Bool.eq_iff_iff, beq_iff_eq, beq_iff_eq]
    exact e1
  clear e1 e2 e3
  cases c1 : (x == y) <;> cases c2 : (x / 86400 == y / 86400)
  all_goals
    rw [c1] at q1
    rw [c2] at q2
    go_enter Tryd.func9, Tryd.ntmps9
    go_wp2_with fail
    refine (HU.out _ HT.out).mono ?_
    rintro e w1 ⟨rfl, hb1⟩
    have HB1 := Lib.hid hb1
    have HT1 := Lib.hid (HT.out.below hb1)
    clear hb1
    go_wp2_with fail
    refine (HV.out _ HT1.out).mono ?_
    rintro e w2 ⟨rfl, hb2⟩
    have HB2 := Lib.hid (HB1.out.trans (hb2.mono HB1.out.size))
    have HT2 := Lib.hid (HT1.out.below hb2)
    clear hb2
    go_wp2_with fail
    refine wp_region_growL [(0, false), (1, false), (2, false), (3, false), (4, false), (5, false), (6, false), (7, false), (8, false), (9, false), (10, false), (11, false), (12, true), (13, false), (14, false)] (by kernel_rfl) (by kernel_rfl) rfl (by kernel_rfl) (by kernel_rfl) (fun ops hops => ?_)
    simp only [inOrder, List.getD_cons_zero, List.getD_cons_succ]
    have g11 : (ops[11]?).bind (·.dst) = some 47 := by rw [hops.out]; rfl
    clear hops
    iterate 12
      refine growL_take (by rfl) ?_
      apply Exists.intro
      refine ⟨fun w' hE => ?_, ?_⟩
      · have ew1 : IntKind.i64.wrap (x.tdiv 86400) = x / 86400 := by rw [Int.tdiv_eq_ediv_of_nonneg x0]; exact IntWalk.i64_in _ (by omega)
        have ew2 : IntKind.i64.wrap (y.tdiv 86400) = y / 86400 := by rw [Int.tdiv_eq_ediv_of_nonneg y0]; exact IntWalk.i64_in _ (by omega)
        go_simp
        try with_reducible rfl
      simp only [Act.put, List.setIfInBounds_toArray, List.set_cons_zero, List.set_cons_succ]
    refine growL_call (wanted_of g11 rfl rfl) (fun K hK => ?_)
    go_simp
    refine (awake_any _ HT2.out.drew).mono ?_
    rintro e w3 ⟨rfl, hb3⟩
    refine hK.out _ _ hb3 ?_
    clear hK K
    have HB3 := Lib.hid (HB2.out.drew.trans (hb3.mono HB2.out.size))
    clear hb3
    iterate 2
      refine growL_take (by rfl) ?_
      apply Exists.intro
      refine ⟨fun w' hE => ?_, ?_⟩
      · skip
        go_simp
        try with_reducible rfl
      simp only [Act.put, List.setIfInBounds_toArray, List.set_cons_zero, List.set_cons_succ]
    refine growL_done (NoPanic.normal ?_)
    simp only [Exit.then]
    go_wp2_with fail
    go_ret
    exact ⟨rfl, HB3.out⟩
end Go.Proofs.YtjcllpfncohncaaDoor
