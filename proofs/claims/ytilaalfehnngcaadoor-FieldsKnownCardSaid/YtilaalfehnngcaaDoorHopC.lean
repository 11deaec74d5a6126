/- The walk of the statement FieldsClean. -/
import Derived.Test.YtilaalfehnngcaaDoorFieldsK
import Derived.Test.YtilaalfehnngcaaDoorFieldsY
namespace Go.Proofs.YtilaalfehnngcaaDoor
open Go.RowKit

theorem has_clean {l : List Fld} {x : List UInt8} (hx : x ∈ hopL l) : hasF (cleanL l) x = false := by unfold hasF; rw [clean_none hx]; rfl

set_option maxHeartbeats 2000000 in
set_option maxRecDepth 100000 in
theorem fieldsClean_any (v : Value) (l : List Fld) (w : World) (h : FL w v l) (hz : sizedF l) (hl : l.length ≤ 9223372036854775807) (hm : MaxL w) (ht : Spc w) :
    Calls Tryd.prog 4 #[v] w fun e w' => e = .returned (.bool true) ∧ Below w.heap.size w w' := by
  have HW : Hid (Later w 7 #[] (.bool true)) := worksL hm
  have hb0 : Below w.heap.size w w := Below.refl _ _
  have hfw := few_any v l w h hz hl
  cases hf : fewB l
  · rw [hf] at hfw
    have HFW := Lib.hid hfw; clear hfw hf hz hl h hm ht
    go_enter Tryd.func4, Tryd.ntmps4
    go_wp2_with fail
    refine HFW.out.mono ?_; rintro e w1 ⟨rfl, hb1⟩
    have HB1 := Lib.hid (hb0.trans hb1); clear hb1
    go_wp2_with fail
    refine (HW.out _ HB1.out).mono ?_; rintro e w2 ⟨rfl, hb2⟩
    go_wp2_with fail
    go_ret
    exact ⟨rfl, hb2⟩
  · rw [hf] at hfw
    obtain ⟨l80, lsz, hsm⟩ := few_small hf
    have HFW := Lib.hid hfw
    have HFl : Hid (∀ w', Below w.heap.size w w' → FL w' v l) := fun w' hb => h.bel hb
    have HSp : Hid (∀ w', Below w.heap.size w w' → Spc w') := fun w' hb => ht.bel hb
    have HSm : Hid (smallF l) := hsm
    have HSz : Hid (sizeL l ≤ 12000) := lsz
    obtain ⟨A, c, rfl⟩ := h.form
    clear hfw hf hz hl h hm ht
    have HCm : Hid (smallF (cleanL l)) := smallF_filter hsm _
    have HCz : Hid (sizeL (cleanL l) ≤ 12000) := Nat.le_trans (sizeL_filter _ _) lsz
    have hCl : (cleanL l).length ≤ l.length := del_le _ _
    have HCN : Hid (∀ x ∈ hopL l, hasF (cleanL l) x = false) := fun x hx => has_clean hx
    have HCC : Hid (cleanL (cleanL l) = cleanL l) := clean_clean l
    have HCH : Hid (hopL (cleanL l) = nine) := hop_clean l
    have HHn := Lib.hid (hopL_lenTo l)
    have hHl := hopL_len l
    have HHop : Hid (∀ w', Below w.heap.size w w' → Calls Tryd.prog 10 #[.slice A l.length c] w' (RetS w' (hopL l))) := fun w' hb => hop_any _ l w' (HFl.out _ hb) HSm.out (by omega) (by have := HSz.out; omega) (HSp.out _ hb)
    have HCle : Hid (∀ w', Below w.heap.size w w' → Calls Tryd.prog 13 #[.slice A l.length c] w' (RetF w' (cleanL l))) := fun w' hb => clean_any _ l w' (HFl.out _ hb) HSm.out (by omega) (by have := HSz.out; omega) (HSp.out _ hb)
    generalize cleanL l = C at *
    generalize hopL l = H at *
    clear hsm lsz
    go_enter Tryd.func4, Tryd.ntmps4
    go_wp2_with fail
    refine HFW.out.mono ?_; rintro e w1 ⟨rfl, hb1⟩
    have HB1 := Lib.hid (hb0.trans hb1); clear hb1
    go_wp2_with fail
    refine (HCle.out _ HB1.out).mono ?_; rintro e w2 ⟨vc, rfl, ho, hb⟩
    have HC2 := Lib.hid ho.fl; have HB2 := Lib.hid (HB1.out.trans (hb.mono HB1.out.size)); clear ho hb
    go_wp2_with fail
    refine (HHop.out _ HB2.out).mono ?_; rintro e w3 ⟨vh, rfl, ho, hb⟩
    have HH3 := Lib.hid ho.sl; have HC3 := Lib.hid (HC2.out.bel hb); have HB3 := Lib.hid (HB2.out.trans (hb.mono HB2.out.size)); clear ho hb HC2
    obtain ⟨Ah, ch, rfl⟩ := HH3.out.form
    obtain ⟨Ac, cc, rfl⟩ := HC3.out.form
    go_wp2_with fail
    go_loopw [5] (fun i wq => ∃ k : Nat, k ≤ H.length ∧ i = .int .i64 k ∧ FL wq (.slice Ac C.length cc) C ∧ SL wq (.slice Ah H.length ch) H ∧ Below w.heap.size w wq) (fun i _ => H.length - (intOf i).toNat)
    case atStart => exact ⟨0, Nat.zero_le _, rfl, HC3.out, HH3.out, HB3.out⟩
    case round =>
      obtain ⟨k, hk, rfl, hc, hh, hb⟩ := hrel
      have HC := Lib.hid hc; have HH := Lib.hid hh; have HB := Lib.hid hb; clear hc hh hb HC3 HH3
      by_cases hlt : k < H.length
      · obtain ⟨b, off, rfl, hbb, hc⟩ := HH.out.get k hlt
        have hx := HHn.out H[k] (List.getElem_mem hlt)
        have hn := HCN.out H[k] (List.getElem_mem hlt)
        generalize H[k] = x at *
        have hcall := get_any _ C x _ HC.out HCm.out (by omega) (by have := HCz.out; omega) (by have := HSz.out; omega)
        rw [hn] at hcall
        have HG := Lib.hid hcall; clear hcall
        go_wp2_with fail
        refine HG.out.mono ?_; rintro e w5 ⟨rfl, hb5⟩
        have HC5 := Lib.hid (HC.out.bel hb5); have HH5 := Lib.hid (HH.out.bel hb5); have HB5 := Lib.hid (HB.out.trans (hb5.mono HB.out.size)); clear hb5
        go_wp2_with fail
        go_roundw
        case rel => exact ⟨k + 1, by omega, by go_num, HC5.out, HH5.out, HB5.out⟩
        case measure => simp [intOf]; omega
      · have hcl := clean_any _ C _ HC.out HCm.out (by omega) (by have := HCz.out; omega) (HSp.out _ HB.out)
        rw [HCC.out] at hcl
        have HCL := Lib.hid hcl; clear hcl
        go_wp2_with fail
        refine HCL.out.mono ?_; rintro e w5 ⟨v5, rfl, ho5, hb5⟩
        have HO5 := Lib.hid ho5.fl; have HC5 := Lib.hid (HC.out.bel hb5); have HB5 := Lib.hid (HB.out.trans (hb5.mono HB.out.size)); clear hb5 ho5
        go_wp2_with fail
        refine (sameF_any _ _ _ _ _ HO5.out HC5.out (by omega)).mono ?_
        rw [beq_self_eq_true]
        rintro e w6 ⟨rfl, hb6⟩
        have HC6 := Lib.hid (HC5.out.bel hb6); have HB6 := Lib.hid (HB5.out.trans (hb6.mono HB5.out.size)); clear hb6
        have hho := hop_any _ C _ HC6.out HCm.out (by omega) (by have := HCz.out; omega) (HSp.out _ HB6.out)
        rw [HCH.out] at hho
        have HHO := Lib.hid hho; clear hho
        go_wp2_with fail
        refine HHO.out.mono ?_; rintro e w7 ⟨v7, rfl, ho7, hb7⟩
        obtain ⟨A7, c7, rfl⟩ : ∃ a c, v7 = .slice a 9 c := ho7.form
        have HB7 := Lib.hid (HB6.out.trans (hb7.mono HB6.out.size)); clear hb7 ho7
        have hle : (C.length : Int) ≤ (l.length : Int) := by omega
        go_wp2_with fail
        refine (HW.out _ HB7.out).mono ?_; rintro e w8 ⟨rfl, hb8⟩
        go_wp2_with fail
        go_ret
        exact ⟨rfl, hb8⟩
end Go.Proofs.YtilaalfehnngcaaDoor
