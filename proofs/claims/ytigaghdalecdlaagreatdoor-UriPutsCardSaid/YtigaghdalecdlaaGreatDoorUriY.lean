/- Whether a URI may be, its text, its normal form: the statement's own walk. -/
import Derived.Test.YtigaghdalecdlaaGreatDoorUriLo
import Derived.Test.YtigaghdalecdlaaGreatDoorUriK
import Derived.Test.YtigaghdalecdlaaGreatDoorUriX
namespace Go.Proofs.YtigaghdalecdlaaGreatDoor
open Go.RowKit

set_option maxHeartbeats 4000000 in
set_option maxRecDepth 100000 in
theorem uriPuts_law (u : Ur) (w : World) (hu : u.sized) (hm : MaxU w) (hl0 : Env w) :
    Calls Tryz.prog 3 #[.agg #[.string (bs u.sc), .string (bs u.ho), .int .i64 u.po, .string (bs u.pa), .string (bs u.qu), .bool u.hq]] w fun e w' => e = .returned (.bool true) ∧ Below w.heap.size w w' := by
  have HE : Hid (EnvU w) := ⟨hm, hl0⟩
  clear hm hl0
  have HLO := Lib.hid (fun W => ulong_any u W hu)
  have HOK := Lib.hid (long_okW hu)
  have HPL : Hid (longB u = false → u.pa.length ≤ 10000000) := fun h => by have h2 := of_decide_eq_false h; omega
  have HP10 := Lib.hid (fun W (hb : EnvU W) hk => uriCheck_any u W hb hk)
  have HP20 := Lib.hid (fun W (hb : EnvU W) hk => uriPut_any u W hb hk)
  have HP30 := Lib.hid (fun W (hb : EnvU W) hk => normal_any u W hb hk)
  have HQ10 := Lib.hid (fun W hk => ucheck_any u W hk)
  have HQ20 := Lib.hid (fun W hk => uput_any u W hk)
  have HQ30 := Lib.hid (fun W hk hp => unormal_any u W hk hp)
  generalize longB u = lb at *
  generalize u.check = ck at *
  generalize u.put = up at *
  generalize u.normal = nm at *
  obtain ⟨sc, ho, po, pa, qu, hq⟩ := u
  obtain ⟨nsc, nho, npo, npa, nqu, nhq⟩ := nm
  simp only at HP10 HP20 HP30 HQ10 HQ20 HQ30 HLO ⊢
  have hal : Below w.heap.size w (w.alloc (.cells #[.string (bs sc), .string (bs ho), .int .i64 po, .string (bs pa), .string (bs qu), .bool hq] 23)) := (Below.refl _ _).alloc (Nat.le_refl _) _
  have HAL := Lib.hid hal; clear hal
  have hx := ubk.new w #[.string (bs sc), .string (bs ho), .int .i64 po, .string (bs pa), .string (bs qu), .bool hq] 23
  have HX := Lib.hid hx
  have xc0 := hx.cell 0 (.string (bs sc)) rfl
  have xc1 := hx.cell 1 (.string (bs ho)) rfl
  have xc2 := hx.cell 2 (.int .i64 po) rfl
  have xc3 := hx.cell 3 (.string (bs pa)) rfl
  have xc4 := hx.cell 4 (.string (bs qu)) rfl
  have xc5 := hx.cell 5 (.bool hq) rfl
  clear hx
  cases lb
  · have HK0 := Lib.hid (HOK.out rfl)
    have HKP := Lib.hid (HPL.out rfl)
    have HP1 := Lib.hid (fun W hb => HP10.out W hb HK0.out)
    have HP2 := Lib.hid (fun W hb => HP20.out W hb HK0.out)
    have HP3 := Lib.hid (fun W hb => HP30.out W hb HK0.out)
    have HQ1 := Lib.hid (fun W => HQ10.out W HK0.out)
    have HQ2 := Lib.hid (fun W => HQ20.out W HK0.out)
    have HQ3 := Lib.hid (fun W => HQ30.out W HK0.out HKP.out)
    clear HP10 HP20 HP30 HQ10 HQ20 HQ30 HOK HK0 HPL HKP
    go_enter Tryz.func3, Tryz.ntmps3
    go_wp2_with fail
    refine (HLO.out _).mono ?_
    rintro r w1 ⟨rfl, hb1⟩
    have HB1 := Lib.hid (HAL.out.trans (hb1.mono HAL.out.size))
    have hx1 := HX.out.below hb1
    clear hb1 xc0 xc1 xc2 xc3 xc4 xc5
    have yc0 := hx1.cell 0 (.string (bs sc)) rfl
    have yc1 := hx1.cell 1 (.string (bs ho)) rfl
    have yc2 := hx1.cell 2 (.int .i64 po) rfl
    have yc3 := hx1.cell 3 (.string (bs pa)) rfl
    have yc4 := hx1.cell 4 (.string (bs qu)) rfl
    have yc5 := hx1.cell 5 (.bool hq) rfl
    go_wp2_with fail
    refine (HP1.out _ (HE.out.bel HB1.out)).mono ?_
    rintro r w2 ⟨rfl, hb2⟩
    have hE2 : ubk w2.drew w.heap.size #[.string (bs sc), .string (bs ho), .int .i64 po, .string (bs pa), .string (bs qu), .bool hq] ∧ EnvU w2.drew := ⟨(hx1.below hb2).below (drewU w2), ((HE.out.bel HB1.out).bel hb2).bel (drewU w2)⟩
    have HB2 := Lib.hid ((HB1.out.trans (hb2.mono HB1.out.size)).trans ((drewU w2).mono (Nat.le_trans HB1.out.size hb2.size)))
    clear hb2 hx1 yc0 yc1 yc2 yc3 yc4 yc5
    have q9 : ((bs up).toList == (bs up).toList) = true := by simp
    go_wp2_with fail
    refine wp_region_growS (.one 0 false (.one 1 false (.one 2 true (.one 3 false (.one 4 false (.one 5 false (.one 7 false (.one 6 true (.one 8 true (.one 9 false (.one 10 false (.one 11 false (.one 12 false (.one 14 false (.one 13 true (.one 15 true (.one 16 false (.one 17 false (.one 18 false (.one 19 true (.one 20 false (.one 21 false .done))))))))))))))))))))))
      (fun W => ubk W w.heap.size #[.string (bs sc), .string (bs ho), .int .i64 po, .string (bs pa), .string (bs qu), .bool hq] ∧ EnvU W) (by kernel_rfl) (by kernel_rfl) rfl (by kernel_rfl) (by kernel_rfl) hE2 (fun ops hops => ?_)
    simp only [GT.ins, List.getD_cons_zero, List.getD_cons_succ]
    have g4 : (ops[4]?).bind (·.dst) = some 13 := by rw [hops.out]; rfl
    have g11 : (ops[11]?).bind (·.dst) = some 20 := by rw [hops.out]; rfl
    have g18 : (ops[18]?).bind (·.dst) = some 27 := by rw [hops.out]; rfl
    have G4 := Lib.hid g4
    have G11 := Lib.hid g11
    have G18 := Lib.hid g18
    clear hops g4 g11 g18
    iterate 2
      refine growS_take (by rfl) ?_
      apply Exists.intro
      refine ⟨fun w' hE => ?_, ?_⟩
      · have k0 := hE.1.cell 0 (.string (bs sc)) rfl; have k1 := hE.1.cell 1 (.string (bs ho)) rfl; have k2 := hE.1.cell 2 (.int .i64 po) rfl; have k3 := hE.1.cell 3 (.string (bs pa)) rfl; have k4 := hE.1.cell 4 (.string (bs qu)) rfl; have k5 := hE.1.cell 5 (.bool hq) rfl
        go_simp
        try with_reducible rfl
      simp only [Act.put, List.setIfInBounds_toArray, List.set_cons_zero, List.set_cons_succ]
    refine growS_call (by rfl) (fun K hK => ?_)
    go_simp
    refine (HQ1.out _).mono ?_
    rintro r w3 ⟨rfl, hb3⟩
    have hE3 : ubk w3 w.heap.size #[.string (bs sc), .string (bs ho), .int .i64 po, .string (bs pa), .string (bs qu), .bool hq] ∧ EnvU w3 := ⟨hE2.1.below hb3, hE2.2.bel hb3⟩
    refine hK.out _ _ hE3 ?_
    have HB3 : Hid (Below w.heap.size w w3) := HB2.out.trans (hb3.mono HB2.out.size)
    clear hK K hb3
    iterate 2
      refine growS_take (by rfl) ?_
      apply Exists.intro
      refine ⟨fun w' hE => ?_, ?_⟩
      · have k0 := hE.1.cell 0 (.string (bs sc)) rfl; have k1 := hE.1.cell 1 (.string (bs ho)) rfl; have k2 := hE.1.cell 2 (.int .i64 po) rfl; have k3 := hE.1.cell 3 (.string (bs pa)) rfl; have k4 := hE.1.cell 4 (.string (bs qu)) rfl; have k5 := hE.1.cell 5 (.bool hq) rfl
        go_simp
        try with_reducible rfl
      simp only [Act.put, List.setIfInBounds_toArray, List.set_cons_zero, List.set_cons_succ]
    iterate 2
      refine growS_take (wantedS G4.out rfl rfl) ?_
      apply Exists.intro
      refine ⟨fun w' hE => ?_, ?_⟩
      · have k0 := hE.1.cell 0 (.string (bs sc)) rfl; have k1 := hE.1.cell 1 (.string (bs ho)) rfl; have k2 := hE.1.cell 2 (.int .i64 po) rfl; have k3 := hE.1.cell 3 (.string (bs pa)) rfl; have k4 := hE.1.cell 4 (.string (bs qu)) rfl; have k5 := hE.1.cell 5 (.bool hq) rfl
        go_simp
        try with_reducible rfl
      simp only [Act.put, List.setIfInBounds_toArray, List.set_cons_zero, List.set_cons_succ]
    refine growS_call (wantedS G4.out rfl rfl) (fun K hK => ?_)
    go_simp
    refine (HP2.out _ hE3.2).mono ?_
    rintro r w4 ⟨rfl, hb4⟩
    have hE4 : ubk w4 w.heap.size #[.string (bs sc), .string (bs ho), .int .i64 po, .string (bs pa), .string (bs qu), .bool hq] ∧ EnvU w4 := ⟨hE3.1.below hb4, hE3.2.bel hb4⟩
    refine hK.out _ _ hE4 ?_
    have HB4 : Hid (Below w.heap.size w w4) := HB3.out.trans (hb4.mono HB3.out.size)
    clear hK K hb4
    refine growS_call (wantedS G4.out rfl rfl) (fun K hK => ?_)
    go_simp
    refine (HQ2.out _).mono ?_
    rintro r w5 ⟨rfl, hb5⟩
    have hE5 : ubk w5 w.heap.size #[.string (bs sc), .string (bs ho), .int .i64 po, .string (bs pa), .string (bs qu), .bool hq] ∧ EnvU w5 := ⟨hE4.1.below hb5, hE4.2.bel hb5⟩
    refine hK.out _ _ hE5 ?_
    have HB5 : Hid (Below w.heap.size w w5) := HB4.out.trans (hb5.mono HB4.out.size)
    clear hK K hb5
    iterate 1
      refine growS_take (wantedS G4.out rfl rfl) ?_
      apply Exists.intro
      refine ⟨fun w' hE => ?_, ?_⟩
      · have k0 := hE.1.cell 0 (.string (bs sc)) rfl; have k1 := hE.1.cell 1 (.string (bs ho)) rfl; have k2 := hE.1.cell 2 (.int .i64 po) rfl; have k3 := hE.1.cell 3 (.string (bs pa)) rfl; have k4 := hE.1.cell 4 (.string (bs qu)) rfl; have k5 := hE.1.cell 5 (.bool hq) rfl
        go_simp
        try with_reducible rfl
      simp only [Act.put, List.setIfInBounds_toArray, List.set_cons_zero, List.set_cons_succ]
    iterate 2
      refine growS_take (by rfl) ?_
      apply Exists.intro
      refine ⟨fun w' hE => ?_, ?_⟩
      · have k0 := hE.1.cell 0 (.string (bs sc)) rfl; have k1 := hE.1.cell 1 (.string (bs ho)) rfl; have k2 := hE.1.cell 2 (.int .i64 po) rfl; have k3 := hE.1.cell 3 (.string (bs pa)) rfl; have k4 := hE.1.cell 4 (.string (bs qu)) rfl; have k5 := hE.1.cell 5 (.bool hq) rfl
        go_simp
        try with_reducible rfl
      simp only [Act.put, List.setIfInBounds_toArray, List.set_cons_zero, List.set_cons_succ]
    iterate 2
      refine growS_take (wantedS G11.out rfl rfl) ?_
      apply Exists.intro
      refine ⟨fun w' hE => ?_, ?_⟩
      · have k0 := hE.1.cell 0 (.string (bs sc)) rfl; have k1 := hE.1.cell 1 (.string (bs ho)) rfl; have k2 := hE.1.cell 2 (.int .i64 po) rfl; have k3 := hE.1.cell 3 (.string (bs pa)) rfl; have k4 := hE.1.cell 4 (.string (bs qu)) rfl; have k5 := hE.1.cell 5 (.bool hq) rfl
        go_simp
        try with_reducible rfl
      simp only [Act.put, List.setIfInBounds_toArray, List.set_cons_zero, List.set_cons_succ]
    refine growS_call (wantedS G11.out rfl rfl) (fun K hK => ?_)
    go_simp
    refine (HP3.out _ hE5.2).mono ?_
    rintro r w6 ⟨rfl, hb6⟩
    have hE6 : ubk w6 w.heap.size #[.string (bs sc), .string (bs ho), .int .i64 po, .string (bs pa), .string (bs qu), .bool hq] ∧ EnvU w6 := ⟨hE5.1.below hb6, hE5.2.bel hb6⟩
    refine hK.out _ _ hE6 ?_
    have HB6 : Hid (Below w.heap.size w w6) := HB5.out.trans (hb6.mono HB5.out.size)
    clear hK K hb6
    refine growS_call (wantedS G11.out rfl rfl) (fun K hK => ?_)
    go_simp
    refine (HQ3.out _).mono ?_
    rintro r w7 ⟨rfl, hb7⟩
    have hE7 : ubk w7 w.heap.size #[.string (bs sc), .string (bs ho), .int .i64 po, .string (bs pa), .string (bs qu), .bool hq] ∧ EnvU w7 := ⟨hE6.1.below hb7, hE6.2.bel hb7⟩
    refine hK.out _ _ hE7 ?_
    have HB7 : Hid (Below w.heap.size w w7) := HB6.out.trans (hb7.mono HB6.out.size)
    clear hK K hb7
    iterate 1
      refine growS_take (wantedS G11.out rfl rfl) ?_
      apply Exists.intro
      refine ⟨fun w' hE => ?_, ?_⟩
      · have k0 := hE.1.cell 0 (.string (bs sc)) rfl; have k1 := hE.1.cell 1 (.string (bs ho)) rfl; have k2 := hE.1.cell 2 (.int .i64 po) rfl; have k3 := hE.1.cell 3 (.string (bs pa)) rfl; have k4 := hE.1.cell 4 (.string (bs qu)) rfl; have k5 := hE.1.cell 5 (.bool hq) rfl
        go_simp
        try with_reducible rfl
      simp only [Act.put, List.setIfInBounds_toArray, List.set_cons_zero, List.set_cons_succ]
    iterate 2
      refine growS_take (by rfl) ?_
      apply Exists.intro
      refine ⟨fun w' hE => ?_, ?_⟩
      · have k0 := hE.1.cell 0 (.string (bs sc)) rfl; have k1 := hE.1.cell 1 (.string (bs ho)) rfl; have k2 := hE.1.cell 2 (.int .i64 po) rfl; have k3 := hE.1.cell 3 (.string (bs pa)) rfl; have k4 := hE.1.cell 4 (.string (bs qu)) rfl; have k5 := hE.1.cell 5 (.bool hq) rfl
        go_simp
        try with_reducible rfl
      simp only [Act.put, List.setIfInBounds_toArray, List.set_cons_zero, List.set_cons_succ]
    refine growS_call (wantedS G18.out rfl rfl) (fun K hK => ?_)
    go_simp
    refine (awakeU_any _ hE7.2).mono ?_
    rintro r w8 ⟨rfl, hb8⟩
    have hE8 : ubk w8 w.heap.size #[.string (bs sc), .string (bs ho), .int .i64 po, .string (bs pa), .string (bs qu), .bool hq] ∧ EnvU w8 := ⟨hE7.1.below hb8, hE7.2.bel hb8⟩
    refine hK.out _ _ hE8 ?_
    have HB8 : Hid (Below w.heap.size w w8) := HB7.out.trans (hb8.mono HB7.out.size)
    clear hK K hb8
    iterate 2
      refine growS_take (by rfl) ?_
      apply Exists.intro
      refine ⟨fun w' hE => ?_, ?_⟩
      · have k0 := hE.1.cell 0 (.string (bs sc)) rfl; have k1 := hE.1.cell 1 (.string (bs ho)) rfl; have k2 := hE.1.cell 2 (.int .i64 po) rfl; have k3 := hE.1.cell 3 (.string (bs pa)) rfl; have k4 := hE.1.cell 4 (.string (bs qu)) rfl; have k5 := hE.1.cell 5 (.bool hq) rfl
        go_simp
        try with_reducible rfl
      simp only [Act.put, List.setIfInBounds_toArray, List.set_cons_zero, List.set_cons_succ]
    refine growS_done (NoPanic.normal ?_)
    go_wp2_with fail
    go_ret
    exact ⟨by simp, HB8.out⟩
  · skip
    go_enter Tryz.func3, Tryz.ntmps3
    go_wp2_with fail
    refine (HLO.out _).mono ?_
    rintro r w1 ⟨rfl, hb1⟩
    have HB1 := Lib.hid (HAL.out.trans (hb1.mono HAL.out.size))
    have hx1 := HX.out.below hb1
    clear hb1 xc0 xc1 xc2 xc3 xc4 xc5
    go_wp2_with fail
    refine (awakeU_any _ (HE.out.bel HB1.out)).mono ?_
    rintro r w2 ⟨rfl, hb2⟩
    have HB2 := Lib.hid (HB1.out.trans (hb2.mono HB1.out.size)); clear hb2
    go_wp2_with fail
    go_ret
    exact ⟨rfl, HB2.out⟩
end Go.Proofs.YtigaghdalecdlaaGreatDoor
