/- What a reference means: the resolve layer's Ref, and the document's whole. -/
import Derived.Test.YtekaiafhnnpkgaaGreatDoorResB
namespace Go.Proofs.YtekaiafhnnpkgaaGreatDoor
open Go.RowKit

theorem refU_is (b : Ur) (r : List UInt8) : refU b r = if 1024 < r.length then (ur0, 3) else if b.check ≠ 0 then (ur0, 2) else if (targetU b (Lib.cut r [35]).1).2 ≠ 0 then (ur0, (targetU b (Lib.cut r [35]).1).2) else ((targetU b (Lib.cut r [35]).1).1.normal, 0) := rfl
set_option maxHeartbeats 2000000 in
set_option maxRecDepth 100000 in
theorem ref_any (b : Ur) (r : List UInt8) (w : World) (he : EnvU w) (hu : b.okW) :
    Calls Tryz.prog 8 #[.agg #[.string (bs b.sc), .string (bs b.ho), .int .i64 b.po, .string (bs b.pa), .string (bs b.qu), .bool b.hq], .string (bs r)] w (RetU w (refU b r)) := by
  have hal : Below w.heap.size w ((w.alloc (.cells #[.string (bs b.sc), .string (bs b.ho), .int .i64 b.po, .string (bs b.pa), .string (bs b.qu), .bool b.hq] 23)).alloc (.cells #[.string ⟨#[]⟩, .string ⟨#[]⟩, .int .i64 0, .string ⟨#[]⟩, .string ⟨#[]⟩, .bool false] 23)) := ((Below.refl _ _).alloc (Nat.le_refl _) _).alloc (by simp) _
  rw [refU_is]
  have HCK := Lib.hid (fun W (hb : EnvU W) => uriCheck_any b W hb hu)
  have HTG := Lib.hid (fun W (hb : EnvU W) (hc : b.check = 0) (hl : r.length ≤ 1024) => target_any b (Lib.cut r [35]).1 W hb hc (Nat.le_trans (cut_leU r [35]).1 hl))
  have HCU := Lib.hid (fun W (hb : EnvU W) (hl : r.length ≤ 1024) => cutU_any r [35] W hb (by omega))
  have HTC := Lib.hid (@target_check b (Lib.cut r [35]).1)
  generalize b.check = k at *
  obtain ⟨sc, ho, po, pa, qu, hq⟩ := b
  simp only at HCK HTG hal ⊢
  have hbn := (ubk.new w #[.string (bs sc), .string (bs ho), .int .i64 po, .string (bs pa), .string (bs qu), .bool hq] 23).alloc (.cells #[.string ⟨#[]⟩, .string ⟨#[]⟩, .int .i64 0, .string ⟨#[]⟩, .string ⟨#[]⟩, .bool false] 23)
  have hbr := ubk.new (w.alloc (.cells #[.string (bs sc), .string (bs ho), .int .i64 po, .string (bs pa), .string (bs qu), .bool hq] 23)) #[.string ⟨#[]⟩, .string ⟨#[]⟩, .int .i64 0, .string ⟨#[]⟩, .string ⟨#[]⟩, .bool false] 23
  rw [World.size_alloc] at hbr
  have HAL := Lib.hid hal; have HBN := Lib.hid hbn; have HBR := Lib.hid hbr; have HE := Lib.hid he
  clear hal hbn hbr he hu
  by_cases hlong : 1024 < r.length
  · rw [if_pos hlong]
    have hsz : (1024 : Int) < (r.length : Int) := by omega
    have hsd : decide ((1024 : Int) < (r.length : Int)) = true := decide_eq_true hsz
    clear hlong HTG HCU HTC
    show Calls Tryz.prog 8 _ w fun e w' => e = .returned (.tuple #[.agg #[.string ⟨#[]⟩, .string ⟨#[]⟩, .int .i64 0, .string ⟨#[]⟩, .string ⟨#[]⟩, .bool false], .int .i64 3]) ∧ Below w.heap.size w w'
    go_enter Tryz.func8, Tryz.ntmps8
    go_wp2_with fail
    have m0 := HBR.out.cell 0 (.string ⟨#[]⟩) rfl
    have m1 := HBR.out.cell 1 (.string ⟨#[]⟩) rfl
    have m2 := HBR.out.cell 2 (.int .i64 0) rfl
    have m3 := HBR.out.cell 3 (.string ⟨#[]⟩) rfl
    have m4 := HBR.out.cell 4 (.string ⟨#[]⟩) rfl
    have m5 := HBR.out.cell 5 (.bool false) rfl
    refine bodyPost_ret (v := .tuple #[.agg #[.string ⟨#[]⟩, .string ⟨#[]⟩, .int .i64 0, .string ⟨#[]⟩, .string ⟨#[]⟩, .bool false], .int .i64 3]) (by simp [results, Tryz.results8, go_sem, m0, m1, m2, m3, m4, m5]) rfl ⟨?_, HAL.out⟩
    rfl
  · rw [if_neg hlong]
    have hsz : ¬ (1024 : Int) < ((bs r).size : Int) := by rw [bs_size]; omega
    have hle : r.length ≤ 1024 := by omega
    by_cases hk : k ≠ 0
    · rw [if_pos hk]
      have hkn : (k != 0) = true := bne_iff_ne.2 hk
      clear hk HTG HCU HTC hle hlong
      show Calls Tryz.prog 8 _ w fun e w' => e = .returned (.tuple #[.agg #[.string ⟨#[]⟩, .string ⟨#[]⟩, .int .i64 0, .string ⟨#[]⟩, .string ⟨#[]⟩, .bool false], .int .i64 2]) ∧ Below w.heap.size w w'
      go_enter Tryz.func8, Tryz.ntmps8
      go_wp2_with fail
      refine (HCK.out _ (HE.out.bel HAL.out)).mono ?_
      rintro e w1 ⟨rfl, hb1⟩
      have HB1 := Lib.hid (HAL.out.trans (hb1.mono HAL.out.size)); have hn1 := HBN.out.below hb1; have hr1 := HBR.out.below hb1; clear hb1
      have nc0 := hr1.cell 0 (.string ⟨#[]⟩) rfl
      have nc1 := hr1.cell 1 (.string ⟨#[]⟩) rfl
      have nc2 := hr1.cell 2 (.int .i64 0) rfl
      have nc3 := hr1.cell 3 (.string ⟨#[]⟩) rfl
      have nc4 := hr1.cell 4 (.string ⟨#[]⟩) rfl
      have nc5 := hr1.cell 5 (.bool false) rfl
      have nf0 := hr1.free 0
      have nf1 := hr1.free 1
      have nf2 := hr1.free 2
      have nf3 := hr1.free 3
      have nf4 := hr1.free 4
      have nf5 := hr1.free 5
      have hq0 := ((((((hr1.set 0 (.string ⟨#[]⟩)).set 1 (.string ⟨#[]⟩)).set 2 (.int .i64 0)).set 3 (.string ⟨#[]⟩)).set 4 (.string ⟨#[]⟩)).set 5 (.bool false))
      simp only [List.setIfInBounds_toArray, List.set_cons_zero, List.set_cons_succ] at hq0
      have HQ := Lib.hid hq0; clear hq0
      have HBF : Hid (Below w.heap.size w ((((((w1.setCell ⟨w.heap.size + 1, 0, none⟩ (.string ⟨#[]⟩)).setCell ⟨w.heap.size + 1, 1, none⟩ (.string ⟨#[]⟩)).setCell ⟨w.heap.size + 1, 2, none⟩ (.int .i64 0)).setCell ⟨w.heap.size + 1, 3, none⟩ (.string ⟨#[]⟩)).setCell ⟨w.heap.size + 1, 4, none⟩ (.string ⟨#[]⟩)).setCell ⟨w.heap.size + 1, 5, none⟩ (.bool false))) := ((((((HB1.out.setCell (p := ⟨w.heap.size + 1, 0, none⟩) (Nat.le_succ _) (.string ⟨#[]⟩)).setCell (p := ⟨w.heap.size + 1, 1, none⟩) (Nat.le_succ _) (.string ⟨#[]⟩)).setCell (p := ⟨w.heap.size + 1, 2, none⟩) (Nat.le_succ _) (.int .i64 0)).setCell (p := ⟨w.heap.size + 1, 3, none⟩) (Nat.le_succ _) (.string ⟨#[]⟩)).setCell (p := ⟨w.heap.size + 1, 4, none⟩) (Nat.le_succ _) (.string ⟨#[]⟩)).setCell (p := ⟨w.heap.size + 1, 5, none⟩) (Nat.le_succ _) (.bool false))
      clear hr1 hn1
      go_wp2_with fail
      have m0 := HQ.out.cell 0 (.string ⟨#[]⟩) rfl
      have m1 := HQ.out.cell 1 (.string ⟨#[]⟩) rfl
      have m2 := HQ.out.cell 2 (.int .i64 0) rfl
      have m3 := HQ.out.cell 3 (.string ⟨#[]⟩) rfl
      have m4 := HQ.out.cell 4 (.string ⟨#[]⟩) rfl
      have m5 := HQ.out.cell 5 (.bool false) rfl
      refine bodyPost_ret (v := .tuple #[.agg #[.string ⟨#[]⟩, .string ⟨#[]⟩, .int .i64 0, .string ⟨#[]⟩, .string ⟨#[]⟩, .bool false], .int .i64 2]) (by simp [results, Tryz.results8, go_sem, m0, m1, m2, m3, m4, m5]) rfl ⟨?_, HBF.out⟩
      rfl
    · rw [if_neg hk]
      obtain rfl : k = 0 := Classical.not_not.1 hk
      have HTG2 := Lib.hid (fun W hb => HTG.out W hb rfl hle)
      have HCU2 := Lib.hid (fun W hb => HCU.out W hb hle)
      clear hk HTG HCU hle hlong
      generalize Lib.cut r [35] = C at *
      obtain ⟨r0, rq, rf⟩ := C
      simp only at HTG2 HCU2 HTC ⊢
      generalize targetU ⟨sc, ho, po, pa, qu, hq⟩ r0 = X at *
      obtain ⟨X1, qe⟩ := X
      unfold RetU at HTG2
      simp only at HTG2 HTC ⊢
      by_cases hq0 : qe ≠ 0
      · rw [if_pos hq0]
        obtain ⟨qsc, qho, qpo, qpa, qqu, qhq⟩ := X1
        simp only at HTG2 ⊢
        have hkn : (qe != 0) = true := bne_iff_ne.2 hq0
        clear hq0 HTC
        show Calls Tryz.prog 8 _ w fun e w' => e = .returned (.tuple #[.agg #[.string ⟨#[]⟩, .string ⟨#[]⟩, .int .i64 0, .string ⟨#[]⟩, .string ⟨#[]⟩, .bool false], .int .i64 qe]) ∧ Below w.heap.size w w'
        go_enter Tryz.func8, Tryz.ntmps8
        go_wp2_with fail
        refine (HCK.out _ (HE.out.bel HAL.out)).mono ?_
        rintro e w1 ⟨rfl, hb1⟩
        have HB1 := Lib.hid (HAL.out.trans (hb1.mono HAL.out.size)); have hn1 := HBN.out.below hb1; have hr1 := HBR.out.below hb1; clear hb1
        have bc0 := hn1.cell 0 (.string (bs sc)) rfl
        have bc1 := hn1.cell 1 (.string (bs ho)) rfl
        have bc2 := hn1.cell 2 (.int .i64 po) rfl
        have bc3 := hn1.cell 3 (.string (bs pa)) rfl
        have bc4 := hn1.cell 4 (.string (bs qu)) rfl
        have bc5 := hn1.cell 5 (.bool hq) rfl
        have HN1 := Lib.hid hn1; have HR1 := Lib.hid hr1; clear hn1 hr1
        go_wp2_with fail
        refine (HCU2.out _ (HE.out.bel HB1.out)).mono ?_
        rintro e w2 ⟨rfl, hb2⟩
        have HB2 := Lib.hid (HB1.out.trans (hb2.mono HB1.out.size)); have hn2 := HN1.out.below hb2; have HR2 := Lib.hid (HR1.out.below hb2); clear hb2 HB1 HN1 HR1
        clear bc0 bc1 bc2 bc3 bc4 bc5
        have bc0 := hn2.cell 0 (.string (bs sc)) rfl
        have bc1 := hn2.cell 1 (.string (bs ho)) rfl
        have bc2 := hn2.cell 2 (.int .i64 po) rfl
        have bc3 := hn2.cell 3 (.string (bs pa)) rfl
        have bc4 := hn2.cell 4 (.string (bs qu)) rfl
        have bc5 := hn2.cell 5 (.bool hq) rfl
        clear hn2
        go_wp2_with fail
        refine (HTG2.out _ (HE.out.bel HB2.out)).mono ?_
        rintro e w3 ⟨rfl, hb3⟩
        clear bc0 bc1 bc2 bc3 bc4 bc5
        have hB3 := HB2.out.trans (hb3.mono HB2.out.size)
        have hr3 := (HR2.out.below hb3).alloc (.cells #[.string (bs qsc), .string (bs qho), .int .i64 qpo, .string (bs qpa), .string (bs qqu), .bool qhq] 23)
        have hu3 := ubk.new w3 #[.string (bs qsc), .string (bs qho), .int .i64 qpo, .string (bs qpa), .string (bs qqu), .bool qhq] 23
        have hal3 : Below w3.heap.size w3 (w3.alloc (.cells #[.string (bs qsc), .string (bs qho), .int .i64 qpo, .string (bs qpa), .string (bs qqu), .bool qhq] 23)) := (Below.refl _ _).alloc (Nat.le_refl _) _
        have HB3 := Lib.hid (hB3.trans (hal3.mono hB3.size)); clear hb3 hB3 hal3 HB2 HR2
        have nc0 := hr3.cell 0 (.string ⟨#[]⟩) rfl
        have nc1 := hr3.cell 1 (.string ⟨#[]⟩) rfl
        have nc2 := hr3.cell 2 (.int .i64 0) rfl
        have nc3 := hr3.cell 3 (.string ⟨#[]⟩) rfl
        have nc4 := hr3.cell 4 (.string ⟨#[]⟩) rfl
        have nc5 := hr3.cell 5 (.bool false) rfl
        have nf0 := hr3.free 0
        have nf1 := hr3.free 1
        have nf2 := hr3.free 2
        have nf3 := hr3.free 3
        have nf4 := hr3.free 4
        have nf5 := hr3.free 5
        have hq0 := ((((((hr3.set 0 (.string ⟨#[]⟩)).set 1 (.string ⟨#[]⟩)).set 2 (.int .i64 0)).set 3 (.string ⟨#[]⟩)).set 4 (.string ⟨#[]⟩)).set 5 (.bool false))
        simp only [List.setIfInBounds_toArray, List.set_cons_zero, List.set_cons_succ] at hq0
        have HQ := Lib.hid hq0; clear hq0
        have HBF : Hid (Below w.heap.size w (((((((w3.alloc (.cells #[.string (bs qsc), .string (bs qho), .int .i64 qpo, .string (bs qpa), .string (bs qqu), .bool qhq] 23)).setCell ⟨w.heap.size + 1, 0, none⟩ (.string ⟨#[]⟩)).setCell ⟨w.heap.size + 1, 1, none⟩ (.string ⟨#[]⟩)).setCell ⟨w.heap.size + 1, 2, none⟩ (.int .i64 0)).setCell ⟨w.heap.size + 1, 3, none⟩ (.string ⟨#[]⟩)).setCell ⟨w.heap.size + 1, 4, none⟩ (.string ⟨#[]⟩)).setCell ⟨w.heap.size + 1, 5, none⟩ (.bool false))) := ((((((HB3.out.setCell (p := ⟨w.heap.size + 1, 0, none⟩) (Nat.le_succ _) (.string ⟨#[]⟩)).setCell (p := ⟨w.heap.size + 1, 1, none⟩) (Nat.le_succ _) (.string ⟨#[]⟩)).setCell (p := ⟨w.heap.size + 1, 2, none⟩) (Nat.le_succ _) (.int .i64 0)).setCell (p := ⟨w.heap.size + 1, 3, none⟩) (Nat.le_succ _) (.string ⟨#[]⟩)).setCell (p := ⟨w.heap.size + 1, 4, none⟩) (Nat.le_succ _) (.string ⟨#[]⟩)).setCell (p := ⟨w.heap.size + 1, 5, none⟩) (Nat.le_succ _) (.bool false))
        clear hr3 hu3
        go_wp2_with fail
        have m0 := HQ.out.cell 0 (.string ⟨#[]⟩) rfl
        have m1 := HQ.out.cell 1 (.string ⟨#[]⟩) rfl
        have m2 := HQ.out.cell 2 (.int .i64 0) rfl
        have m3 := HQ.out.cell 3 (.string ⟨#[]⟩) rfl
        have m4 := HQ.out.cell 4 (.string ⟨#[]⟩) rfl
        have m5 := HQ.out.cell 5 (.bool false) rfl
        refine bodyPost_ret (v := .tuple #[.agg #[.string ⟨#[]⟩, .string ⟨#[]⟩, .int .i64 0, .string ⟨#[]⟩, .string ⟨#[]⟩, .bool false], .int .i64 qe]) (by simp [results, Tryz.results8, go_sem, m0, m1, m2, m3, m4, m5]) rfl ⟨?_, HBF.out⟩
        rfl
      · rw [if_neg hq0]
        obtain rfl : qe = 0 := Classical.not_not.1 hq0
        have hck := HTC.out rfl
        obtain ⟨⟨l1, l2, l3, l4⟩, l5, l6⟩ := lens_of hck
        have HNM := Lib.hid (fun W (hb : EnvU W) => normal_any X1 W hb ⟨by omega, by omega, by omega⟩)
        clear hck l1 l2 l3 l4 l5 l6 hq0 HTC
        generalize X1.normal = X2 at *
        obtain ⟨nsc, nho, npo, npa, nqu, nhq⟩ := X2
        obtain ⟨qsc, qho, qpo, qpa, qqu, qhq⟩ := X1
        simp only at HTG2 HNM ⊢
        show Calls Tryz.prog 8 _ w fun e w' => e = .returned (.tuple #[.agg #[.string (bs nsc), .string (bs nho), .int .i64 npo, .string (bs npa), .string (bs nqu), .bool nhq], .int .i64 0]) ∧ Below w.heap.size w w'
        go_enter Tryz.func8, Tryz.ntmps8
        go_wp2_with fail
        refine (HCK.out _ (HE.out.bel HAL.out)).mono ?_
        rintro e w1 ⟨rfl, hb1⟩
        have HB1 := Lib.hid (HAL.out.trans (hb1.mono HAL.out.size)); have hn1 := HBN.out.below hb1; have hr1 := HBR.out.below hb1; clear hb1
        have bc0 := hn1.cell 0 (.string (bs sc)) rfl
        have bc1 := hn1.cell 1 (.string (bs ho)) rfl
        have bc2 := hn1.cell 2 (.int .i64 po) rfl
        have bc3 := hn1.cell 3 (.string (bs pa)) rfl
        have bc4 := hn1.cell 4 (.string (bs qu)) rfl
        have bc5 := hn1.cell 5 (.bool hq) rfl
        have HN1 := Lib.hid hn1; have HR1 := Lib.hid hr1; clear hn1 hr1
        go_wp2_with fail
        refine (HCU2.out _ (HE.out.bel HB1.out)).mono ?_
        rintro e w2 ⟨rfl, hb2⟩
        have HB2 := Lib.hid (HB1.out.trans (hb2.mono HB1.out.size)); have hn2 := HN1.out.below hb2; have HR2 := Lib.hid (HR1.out.below hb2); clear hb2 HB1 HN1 HR1
        clear bc0 bc1 bc2 bc3 bc4 bc5
        have bc0 := hn2.cell 0 (.string (bs sc)) rfl
        have bc1 := hn2.cell 1 (.string (bs ho)) rfl
        have bc2 := hn2.cell 2 (.int .i64 po) rfl
        have bc3 := hn2.cell 3 (.string (bs pa)) rfl
        have bc4 := hn2.cell 4 (.string (bs qu)) rfl
        have bc5 := hn2.cell 5 (.bool hq) rfl
        clear hn2
        go_wp2_with fail
        refine (HTG2.out _ (HE.out.bel HB2.out)).mono ?_
        rintro e w3 ⟨rfl, hb3⟩
        clear bc0 bc1 bc2 bc3 bc4 bc5
        have hB3 := HB2.out.trans (hb3.mono HB2.out.size)
        have hr3 := (HR2.out.below hb3).alloc (.cells #[.string (bs qsc), .string (bs qho), .int .i64 qpo, .string (bs qpa), .string (bs qqu), .bool qhq] 23)
        have hu3 := ubk.new w3 #[.string (bs qsc), .string (bs qho), .int .i64 qpo, .string (bs qpa), .string (bs qqu), .bool qhq] 23
        have hal3 : Below w3.heap.size w3 (w3.alloc (.cells #[.string (bs qsc), .string (bs qho), .int .i64 qpo, .string (bs qpa), .string (bs qqu), .bool qhq] 23)) := (Below.refl _ _).alloc (Nat.le_refl _) _
        have HB3 := Lib.hid (hB3.trans (hal3.mono hB3.size)); clear hb3 hB3 hal3 HB2 HR2
        have uc0 := hu3.cell 0 (.string (bs qsc)) rfl
        have uc1 := hu3.cell 1 (.string (bs qho)) rfl
        have uc2 := hu3.cell 2 (.int .i64 qpo) rfl
        have uc3 := hu3.cell 3 (.string (bs qpa)) rfl
        have uc4 := hu3.cell 4 (.string (bs qqu)) rfl
        have uc5 := hu3.cell 5 (.bool qhq) rfl
        have HR3 := Lib.hid hr3; clear hr3 hu3
        go_wp2_with fail
        refine (HNM.out _ (HE.out.bel HB3.out)).mono ?_
        rintro e w4 ⟨rfl, hb4⟩
        clear uc0 uc1 uc2 uc3 uc4 uc5
        have HB4 := Lib.hid (HB3.out.trans (hb4.mono HB3.out.size)); have hr4 := HR3.out.below hb4; clear hb4 HB3 HR3
        have nc0 := hr4.cell 0 (.string ⟨#[]⟩) rfl
        have nc1 := hr4.cell 1 (.string ⟨#[]⟩) rfl
        have nc2 := hr4.cell 2 (.int .i64 0) rfl
        have nc3 := hr4.cell 3 (.string ⟨#[]⟩) rfl
        have nc4 := hr4.cell 4 (.string ⟨#[]⟩) rfl
        have nc5 := hr4.cell 5 (.bool false) rfl
        have nf0 := hr4.free 0
        have nf1 := hr4.free 1
        have nf2 := hr4.free 2
        have nf3 := hr4.free 3
        have nf4 := hr4.free 4
        have nf5 := hr4.free 5
        have hq0 := ((((((hr4.set 0 (.string (bs nsc))).set 1 (.string (bs nho))).set 2 (.int .i64 npo)).set 3 (.string (bs npa))).set 4 (.string (bs nqu))).set 5 (.bool nhq))
        simp only [List.setIfInBounds_toArray, List.set_cons_zero, List.set_cons_succ] at hq0
        have HQ := Lib.hid hq0; clear hq0
        have HBF : Hid (Below w.heap.size w ((((((w4.setCell ⟨w.heap.size + 1, 0, none⟩ (.string (bs nsc))).setCell ⟨w.heap.size + 1, 1, none⟩ (.string (bs nho))).setCell ⟨w.heap.size + 1, 2, none⟩ (.int .i64 npo)).setCell ⟨w.heap.size + 1, 3, none⟩ (.string (bs npa))).setCell ⟨w.heap.size + 1, 4, none⟩ (.string (bs nqu))).setCell ⟨w.heap.size + 1, 5, none⟩ (.bool nhq))) := ((((((HB4.out.setCell (p := ⟨w.heap.size + 1, 0, none⟩) (Nat.le_succ _) (.string (bs nsc))).setCell (p := ⟨w.heap.size + 1, 1, none⟩) (Nat.le_succ _) (.string (bs nho))).setCell (p := ⟨w.heap.size + 1, 2, none⟩) (Nat.le_succ _) (.int .i64 npo)).setCell (p := ⟨w.heap.size + 1, 3, none⟩) (Nat.le_succ _) (.string (bs npa))).setCell (p := ⟨w.heap.size + 1, 4, none⟩) (Nat.le_succ _) (.string (bs nqu))).setCell (p := ⟨w.heap.size + 1, 5, none⟩) (Nat.le_succ _) (.bool nhq))
        clear hr4
        go_wp2_with fail
        have m0 := HQ.out.cell 0 (.string (bs nsc)) rfl
        have m1 := HQ.out.cell 1 (.string (bs nho)) rfl
        have m2 := HQ.out.cell 2 (.int .i64 npo) rfl
        have m3 := HQ.out.cell 3 (.string (bs npa)) rfl
        have m4 := HQ.out.cell 4 (.string (bs nqu)) rfl
        have m5 := HQ.out.cell 5 (.bool nhq) rfl
        refine bodyPost_ret (v := .tuple #[.agg #[.string (bs nsc), .string (bs nho), .int .i64 npo, .string (bs npa), .string (bs nqu), .bool nhq], .int .i64 0]) (by simp [results, Tryz.results8, go_sem, m0, m1, m2, m3, m4, m5]) rfl ⟨?_, HBF.out⟩
        rfl
set_option maxHeartbeats 2000000 in
set_option maxRecDepth 100000 in
theorem uwhole_any (s : List UInt8) (w : World) :
    Calls Tryz.prog 21 #[.string (bs s)] w (RetU w (endU (parseU s))) := by
  have HP := Lib.hid (fun W => uparse_any (bs s) W)
  rw [doc_eq, bs_data] at HP
  have HTC := Lib.hid (@parse_okR s)
  have hE : endU (parseU s) = if (parseU s).2 ≠ 0 then (ur0, (parseU s).2) else ((parseU s).1.normal, 0) := rfl
  rw [hE]
  clear hE
  generalize parseU s = X at *
  obtain ⟨X1, qe⟩ := X
  unfold RetU at HP
  simp only at HP HTC ⊢
  have hal : Below w.heap.size w (w.alloc (.cells #[.string ⟨#[]⟩, .string ⟨#[]⟩, .int .i64 0, .string ⟨#[]⟩, .string ⟨#[]⟩, .bool false] 23)) := (Below.refl _ _).alloc (Nat.le_refl _) _
  have hbr := ubk.new w #[.string ⟨#[]⟩, .string ⟨#[]⟩, .int .i64 0, .string ⟨#[]⟩, .string ⟨#[]⟩, .bool false] 23
  have HAL := Lib.hid hal; have HBR := Lib.hid hbr; clear hal hbr
  by_cases hq0 : qe ≠ 0
  · rw [if_pos hq0]
    obtain ⟨qsc, qho, qpo, qpa, qqu, qhq⟩ := X1
    simp only at HP ⊢
    have hkn : (qe != 0) = true := bne_iff_ne.2 hq0
    clear hq0 HTC
    show Calls Tryz.prog 21 _ w fun e w' => e = .returned (.tuple #[.agg #[.string ⟨#[]⟩, .string ⟨#[]⟩, .int .i64 0, .string ⟨#[]⟩, .string ⟨#[]⟩, .bool false], .int .i64 qe]) ∧ Below w.heap.size w w'
    go_enter Tryz.func21, Tryz.ntmps21
    go_wp2_with fail
    refine (HP.out _).mono ?_
    rintro e w1 ⟨rfl, hb1⟩
    have hB1 := HAL.out.trans (hb1.mono HAL.out.size)
    have hr1 := (HBR.out.below hb1).alloc (.cells #[.string (bs qsc), .string (bs qho), .int .i64 qpo, .string (bs qpa), .string (bs qqu), .bool qhq] 23)
    have hu1 := ubk.new w1 #[.string (bs qsc), .string (bs qho), .int .i64 qpo, .string (bs qpa), .string (bs qqu), .bool qhq] 23
    have hal1 : Below w1.heap.size w1 (w1.alloc (.cells #[.string (bs qsc), .string (bs qho), .int .i64 qpo, .string (bs qpa), .string (bs qqu), .bool qhq] 23)) := (Below.refl _ _).alloc (Nat.le_refl _) _
    have HB1 := Lib.hid (hB1.trans (hal1.mono hB1.size)); clear hb1 hB1 hal1
    have nc0 := hr1.cell 0 (.string ⟨#[]⟩) rfl
    have nc1 := hr1.cell 1 (.string ⟨#[]⟩) rfl
    have nc2 := hr1.cell 2 (.int .i64 0) rfl
    have nc3 := hr1.cell 3 (.string ⟨#[]⟩) rfl
    have nc4 := hr1.cell 4 (.string ⟨#[]⟩) rfl
    have nc5 := hr1.cell 5 (.bool false) rfl
    have nf0 := hr1.free 0
    have nf1 := hr1.free 1
    have nf2 := hr1.free 2
    have nf3 := hr1.free 3
    have nf4 := hr1.free 4
    have nf5 := hr1.free 5
    have hq0 := ((((((hr1.set 0 (.string ⟨#[]⟩)).set 1 (.string ⟨#[]⟩)).set 2 (.int .i64 0)).set 3 (.string ⟨#[]⟩)).set 4 (.string ⟨#[]⟩)).set 5 (.bool false))
    simp only [List.setIfInBounds_toArray, List.set_cons_zero, List.set_cons_succ] at hq0
    have HQ := Lib.hid hq0; clear hq0
    have HBF : Hid (Below w.heap.size w (((((((w1.alloc (.cells #[.string (bs qsc), .string (bs qho), .int .i64 qpo, .string (bs qpa), .string (bs qqu), .bool qhq] 23)).setCell ⟨w.heap.size, 0, none⟩ (.string ⟨#[]⟩)).setCell ⟨w.heap.size, 1, none⟩ (.string ⟨#[]⟩)).setCell ⟨w.heap.size, 2, none⟩ (.int .i64 0)).setCell ⟨w.heap.size, 3, none⟩ (.string ⟨#[]⟩)).setCell ⟨w.heap.size, 4, none⟩ (.string ⟨#[]⟩)).setCell ⟨w.heap.size, 5, none⟩ (.bool false))) := ((((((HB1.out.setCell (p := ⟨w.heap.size, 0, none⟩) (Nat.le_refl _) (.string ⟨#[]⟩)).setCell (p := ⟨w.heap.size, 1, none⟩) (Nat.le_refl _) (.string ⟨#[]⟩)).setCell (p := ⟨w.heap.size, 2, none⟩) (Nat.le_refl _) (.int .i64 0)).setCell (p := ⟨w.heap.size, 3, none⟩) (Nat.le_refl _) (.string ⟨#[]⟩)).setCell (p := ⟨w.heap.size, 4, none⟩) (Nat.le_refl _) (.string ⟨#[]⟩)).setCell (p := ⟨w.heap.size, 5, none⟩) (Nat.le_refl _) (.bool false))
    clear hr1 hu1
    go_wp2_with fail
    have m0 := HQ.out.cell 0 (.string ⟨#[]⟩) rfl
    have m1 := HQ.out.cell 1 (.string ⟨#[]⟩) rfl
    have m2 := HQ.out.cell 2 (.int .i64 0) rfl
    have m3 := HQ.out.cell 3 (.string ⟨#[]⟩) rfl
    have m4 := HQ.out.cell 4 (.string ⟨#[]⟩) rfl
    have m5 := HQ.out.cell 5 (.bool false) rfl
    refine bodyPost_ret (v := .tuple #[.agg #[.string ⟨#[]⟩, .string ⟨#[]⟩, .int .i64 0, .string ⟨#[]⟩, .string ⟨#[]⟩, .bool false], .int .i64 qe]) (by simp [results, Tryz.results21, go_sem, m0, m1, m2, m3, m4, m5]) rfl ⟨?_, HBF.out⟩
    rfl
  · rw [if_neg hq0]
    obtain rfl : qe = 0 := Classical.not_not.1 hq0
    have hck := HTC.out rfl
    obtain ⟨⟨l1, l2, l3, l4⟩, l5, l6⟩ := lens_of hck
    have HNM := Lib.hid (fun W => unormal_any X1 W ⟨by omega, by omega, by omega⟩ (by omega))
    clear hck l1 l2 l3 l4 l5 l6 hq0 HTC
    generalize X1.normal = X2 at *
    obtain ⟨nsc, nho, npo, npa, nqu, nhq⟩ := X2
    obtain ⟨qsc, qho, qpo, qpa, qqu, qhq⟩ := X1
    simp only at HP HNM ⊢
    show Calls Tryz.prog 21 _ w fun e w' => e = .returned (.tuple #[.agg #[.string (bs nsc), .string (bs nho), .int .i64 npo, .string (bs npa), .string (bs nqu), .bool nhq], .int .i64 0]) ∧ Below w.heap.size w w'
    go_enter Tryz.func21, Tryz.ntmps21
    go_wp2_with fail
    refine (HP.out _).mono ?_
    rintro e w1 ⟨rfl, hb1⟩
    have hB1 := HAL.out.trans (hb1.mono HAL.out.size)
    have hr1 := (HBR.out.below hb1).alloc (.cells #[.string (bs qsc), .string (bs qho), .int .i64 qpo, .string (bs qpa), .string (bs qqu), .bool qhq] 23)
    have hu1 := ubk.new w1 #[.string (bs qsc), .string (bs qho), .int .i64 qpo, .string (bs qpa), .string (bs qqu), .bool qhq] 23
    have hal1 : Below w1.heap.size w1 (w1.alloc (.cells #[.string (bs qsc), .string (bs qho), .int .i64 qpo, .string (bs qpa), .string (bs qqu), .bool qhq] 23)) := (Below.refl _ _).alloc (Nat.le_refl _) _
    have HB1 := Lib.hid (hB1.trans (hal1.mono hB1.size)); clear hb1 hB1 hal1
    have uc0 := hu1.cell 0 (.string (bs qsc)) rfl
    have uc1 := hu1.cell 1 (.string (bs qho)) rfl
    have uc2 := hu1.cell 2 (.int .i64 qpo) rfl
    have uc3 := hu1.cell 3 (.string (bs qpa)) rfl
    have uc4 := hu1.cell 4 (.string (bs qqu)) rfl
    have uc5 := hu1.cell 5 (.bool qhq) rfl
    have HR1 := Lib.hid hr1; clear hr1 hu1
    go_wp2_with fail
    refine (HNM.out _).mono ?_
    rintro e w2 ⟨rfl, hb2⟩
    clear uc0 uc1 uc2 uc3 uc4 uc5
    have HB2 := Lib.hid (HB1.out.trans (hb2.mono HB1.out.size)); have hr2 := HR1.out.below hb2; clear hb2 HB1 HR1
    have nc0 := hr2.cell 0 (.string ⟨#[]⟩) rfl
    have nc1 := hr2.cell 1 (.string ⟨#[]⟩) rfl
    have nc2 := hr2.cell 2 (.int .i64 0) rfl
    have nc3 := hr2.cell 3 (.string ⟨#[]⟩) rfl
    have nc4 := hr2.cell 4 (.string ⟨#[]⟩) rfl
    have nc5 := hr2.cell 5 (.bool false) rfl
    have nf0 := hr2.free 0
    have nf1 := hr2.free 1
    have nf2 := hr2.free 2
    have nf3 := hr2.free 3
    have nf4 := hr2.free 4
    have nf5 := hr2.free 5
    have hq0 := ((((((hr2.set 0 (.string (bs nsc))).set 1 (.string (bs nho))).set 2 (.int .i64 npo)).set 3 (.string (bs npa))).set 4 (.string (bs nqu))).set 5 (.bool nhq))
    simp only [List.setIfInBounds_toArray, List.set_cons_zero, List.set_cons_succ] at hq0
    have HQ := Lib.hid hq0; clear hq0
    have HBF : Hid (Below w.heap.size w ((((((w2.setCell ⟨w.heap.size, 0, none⟩ (.string (bs nsc))).setCell ⟨w.heap.size, 1, none⟩ (.string (bs nho))).setCell ⟨w.heap.size, 2, none⟩ (.int .i64 npo)).setCell ⟨w.heap.size, 3, none⟩ (.string (bs npa))).setCell ⟨w.heap.size, 4, none⟩ (.string (bs nqu))).setCell ⟨w.heap.size, 5, none⟩ (.bool nhq))) := ((((((HB2.out.setCell (p := ⟨w.heap.size, 0, none⟩) (Nat.le_refl _) (.string (bs nsc))).setCell (p := ⟨w.heap.size, 1, none⟩) (Nat.le_refl _) (.string (bs nho))).setCell (p := ⟨w.heap.size, 2, none⟩) (Nat.le_refl _) (.int .i64 npo)).setCell (p := ⟨w.heap.size, 3, none⟩) (Nat.le_refl _) (.string (bs npa))).setCell (p := ⟨w.heap.size, 4, none⟩) (Nat.le_refl _) (.string (bs nqu))).setCell (p := ⟨w.heap.size, 5, none⟩) (Nat.le_refl _) (.bool nhq))
    clear hr2
    go_wp2_with fail
    have m0 := HQ.out.cell 0 (.string (bs nsc)) rfl
    have m1 := HQ.out.cell 1 (.string (bs nho)) rfl
    have m2 := HQ.out.cell 2 (.int .i64 npo) rfl
    have m3 := HQ.out.cell 3 (.string (bs npa)) rfl
    have m4 := HQ.out.cell 4 (.string (bs nqu)) rfl
    have m5 := HQ.out.cell 5 (.bool nhq) rfl
    refine bodyPost_ret (v := .tuple #[.agg #[.string (bs nsc), .string (bs nho), .int .i64 npo, .string (bs npa), .string (bs nqu), .bool nhq], .int .i64 0]) (by simp [results, Tryz.results21, go_sem, m0, m1, m2, m3, m4, m5]) rfl ⟨?_, HBF.out⟩
    rfl
end Go.Proofs.YtekaiafhnnpkgaaGreatDoor
