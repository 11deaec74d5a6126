/- The walk of the statement FieldsHops. -/
import Derived.Test.YtilaalfehnngcaaDoorHopR
import Derived.Test.YtilaalfehnngcaaDoorFieldsY
namespace Go.Proofs.YtilaalfehnngcaaDoor
open Go.RowKit

set_option maxHeartbeats 2000000 in
set_option maxRecDepth 100000 in
theorem fieldsHops_any (v : Value) (l : List Fld) (w : World) (h : FL w v l) (hz : sizedF l) (hl : l.length ≤ 9223372036854775807) (hm : MaxL w) (ht : Spc w) :
    Calls Tryd.prog 3 #[v] w fun e w' => e = .returned (.bool true) ∧ Below w.heap.size w w' := by
  have HW : Hid (Later w 7 #[] (.bool true)) := worksL hm
  have hb0 : Below w.heap.size w w := Below.refl _ _
  have hfw := few_any v l w h hz hl
  cases hf : fewB l
  · rw [hf] at hfw
    have HFW := Lib.hid hfw; clear hfw hf hz hl h hm ht
    go_enter Tryd.func3, Tryd.ntmps3
    go_wp2_with fail
    refine HFW.out.mono ?_; rintro e w1 ⟨rfl, hb1⟩
    have HB1 := Lib.hid (hb0.trans hb1); clear hb1
    go_wp2_with fail
    refine (HW.out _ HB1.out).mono ?_; rintro e w2 ⟨rfl, hb2⟩
    go_wp2_with fail
    go_ret
    exact ⟨rfl, hb2⟩
  · rw [hf] at hfw
    obtain ⟨l80, lsz, hsm⟩ := few_small hf
    have HFW := Lib.hid hfw
    have HFl : Hid (∀ w', Below w.heap.size w w' → FL w' v l) := fun w' hb => h.bel hb
    have HSp : Hid (∀ w', Below w.heap.size w w' → Spc w') := fun w' hb => ht.bel hb
    have HSm : Hid (smallF l) := hsm
    have HSz : Hid (sizeL l ≤ 12000) := lsz
    have hCl : (cleanL l).length ≤ l.length := del_le _ _
    have hHl := hopL_len l
    clear hfw hf hz hl h hm ht
    go_enter Tryd.func3, Tryd.ntmps3
    go_wp2_with fail
    refine HFW.out.mono ?_; rintro e w1 ⟨rfl, hb1⟩
    have HB1 := Lib.hid (hb0.trans hb1); clear hb1
    go_wp2_with fail
    refine (copiedL_any _ _ _ (HFl.out _ HB1.out) (by omega)).mono ?_; rintro e w2 ⟨vo, rfl, ho, hb⟩
    have HO2 := Lib.hid ho.fl; have HB2 := Lib.hid (HB1.out.trans (hb.mono HB1.out.size)); clear ho hb
    go_wp2_with fail
    refine (hop_any _ l _ HO2.out HSm.out (by omega) (by have := HSz.out; omega) (HSp.out _ HB2.out)).mono ?_; rintro e w3 ⟨vh, rfl, ho, hb⟩
    have HH3 := Lib.hid ho.sl; have HO3 := Lib.hid (HO2.out.bel hb); have HB3 := Lib.hid (HB2.out.trans (hb.mono HB2.out.size)); clear ho hb HO2
    go_wp2_with fail
    refine (rhop_any _ l _ (HFl.out _ HB3.out) HSm.out (by omega) (by have := HSz.out; omega)).mono ?_; rintro e w4 ⟨vr, rfl, ho, hb⟩
    have HR4 := Lib.hid ho.sl; have HH4 := Lib.hid (HH3.out.bel hb); have HO4 := Lib.hid (HO3.out.bel hb); have HB4 := Lib.hid (HB3.out.trans (hb.mono HB3.out.size)); clear ho hb HH3 HO3
    go_wp2_with fail
    refine (sameT_any _ _ _ _ _ HH4.out HR4.out (by omega)).mono ?_
    rw [beq_self_eq_true]
    rintro e w5 ⟨rfl, hb⟩
    have HO5 := Lib.hid (HO4.out.bel hb); have HB5 := Lib.hid (HB4.out.trans (hb.mono HB4.out.size)); clear hb HH4 HR4 HO4
    go_wp2_with fail
    refine (clean_any _ l _ HO5.out HSm.out (by omega) (by have := HSz.out; omega) (HSp.out _ HB5.out)).mono ?_; rintro e w6 ⟨vc, rfl, ho, hb⟩
    have HC6 := Lib.hid ho.fl; have HO6 := Lib.hid (HO5.out.bel hb); have HB6 := Lib.hid (HB5.out.trans (hb.mono HB5.out.size)); clear ho hb HO5
    go_wp2_with fail
    refine (rclean_any _ l _ (HFl.out _ HB6.out) HSm.out (by omega) (by have := HSz.out; omega)).mono ?_; rintro e w7 ⟨vd, rfl, ho, hb⟩
    have HD7 := Lib.hid ho.fl; have HC7 := Lib.hid (HC6.out.bel hb); have HO7 := Lib.hid (HO6.out.bel hb); have HB7 := Lib.hid (HB6.out.trans (hb.mono HB6.out.size)); clear ho hb HC6 HO6
    go_wp2_with fail
    refine (sameF_any _ _ _ _ _ HC7.out HD7.out (by omega)).mono ?_
    rw [beq_self_eq_true]
    rintro e w8 ⟨rfl, hb⟩
    have HO8 := Lib.hid (HO7.out.bel hb); have HB8 := Lib.hid (HB7.out.trans (hb.mono HB7.out.size)); clear hb HC7 HD7 HO7
    go_wp2_with fail
    refine (sameF_any _ _ _ _ _ HO8.out (HFl.out _ HB8.out) (by omega)).mono ?_
    rw [beq_self_eq_true]
    rintro e w9 ⟨rfl, hb⟩
    have HB9 := Lib.hid (HB8.out.trans (hb.mono HB8.out.size)); clear hb HO8
    go_wp2_with fail
    refine (HW.out _ HB9.out).mono ?_; rintro e w10 ⟨rfl, hb10⟩
    go_wp2_with fail
    go_ret
    exact ⟨rfl, hb10⟩
end Go.Proofs.YtilaalfehnngcaaDoor
