/- The key of any URI for any method, and whether that changes something: the statement's own walk. -/
import Derived.Test.YtnpiaifkeddjeaaGreatDoorKeyE
namespace Go.Proofs.YtnpiaifkeddjeaaGreatDoor
open Go.RowKit Go.Shelf

set_option maxHeartbeats 8000000 in
set_option maxRecDepth 100000 in
theorem keyOf_law (m : ByteArray) (u : Ur) (w : World) (_ : m.size ≤ maxLen) (hu : u.sized) (hm : MaxU w) (hl0 : Env w) :
    Calls Tryz.prog 3 #[.string m, .agg #[.string (bs u.sc), .string (bs u.ho), .int .i64 u.po, .string (bs u.pa), .string (bs u.qu), .bool u.hq]] w fun e w' => e = .returned (.bool true) ∧ Below w.heap.size w w' := by
  have HE : Hid (EnvU w) := ⟨hm, hl0⟩
  clear hm hl0
  have HLO := Lib.hid (fun W => klong_any u W hu)
  have HOF := Lib.hid (fun W (he : EnvU W) (hl : longB u = false) => kof_any m.data.toList u W he (long_okW hu hl))
  have HRO := Lib.hid (fun W (hl : longB u = false) => rkof_any m.data.toList u W (long_okW hu hl) (by have := okW_pa hl; omega))
  have HUN := Lib.hid (fun W => kuns_any m.data.toList W)
  have HRU := Lib.hid (fun W => rkuns_any m.data.toList W)
  rw [bs_self] at HOF HRO HUN HRU
  clear hu
  generalize ofK m.data.toList u = k at *
  generalize unsB m.data.toList = b at *
  generalize longB u = lb at *
  obtain ⟨sc, ho, po, pa, qu, hq⟩ := u
  simp only at HLO HOF HRO ⊢
  cases lb
  · have HOF2 := Lib.hid (fun W he => HOF.out W he rfl)
    have HRO2 := Lib.hid (fun W => HRO.out W rfl)
    clear HOF HRO
    have q9 : ((bs k).toList == (bs k).toList) = true := by simp
    have hal : Below w.heap.size w (w.alloc (.cells #[.string (bs sc), .string (bs ho), .int .i64 po, .string (bs pa), .string (bs qu), .bool hq] 23)) := (Below.refl _ _).alloc (Nat.le_refl _) _
    have HB1 := Lib.hid hal
    have hn := ubk.new w #[.string (bs sc), .string (bs ho), .int .i64 po, .string (bs pa), .string (bs qu), .bool hq] 23
    have HU1 := Lib.hid hn; clear hn
    clear hal
    go_enter Tryz.func3, Tryz.ntmps3
    have uc0 := HU1.out.cell 0 (.string (bs sc)) rfl
    have uc1 := HU1.out.cell 1 (.string (bs ho)) rfl
    have uc2 := HU1.out.cell 2 (.int .i64 po) rfl
    have uc3 := HU1.out.cell 3 (.string (bs pa)) rfl
    have uc4 := HU1.out.cell 4 (.string (bs qu)) rfl
    have uc5 := HU1.out.cell 5 (.bool hq) rfl
    go_wp2_with fail
    refine (HLO.out _).mono ?_
    rintro r w2 ⟨rfl, hb⟩
    have HB2 := Lib.hid (HB1.out.trans (hb.mono HB1.out.size))
    have HU2 := Lib.hid (HU1.out.below hb)
    clear hb HB1 HU1
    clear uc0 uc1 uc2 uc3 uc4 uc5
    have uc0 := HU2.out.cell 0 (.string (bs sc)) rfl
    have uc1 := HU2.out.cell 1 (.string (bs ho)) rfl
    have uc2 := HU2.out.cell 2 (.int .i64 po) rfl
    have uc3 := HU2.out.cell 3 (.string (bs pa)) rfl
    have uc4 := HU2.out.cell 4 (.string (bs qu)) rfl
    have uc5 := HU2.out.cell 5 (.bool hq) rfl
    go_wp2_with fail
    clear uc0 uc1 uc2 uc3 uc4 uc5
    have hz : Below w2.heap.size w2 w2.drew := (Below.refl _ _).drew
    have HZ1_0 := Lib.hid hz; clear hz
    refine wp_region_growS (.one 0 false (.one 1 false (.one 3 false (.one 4 false (.one 2 true (.one 5 true (.one 6 false (.one 7 false (.one 8 false (.one 10 false (.one 9 true (.one 11 true (.one 12 false (.one 13 false (.one 14 false (.one 15 true (.one 16 false (.one 17 false .done))))))))))))))))))
      (fun W => Below w2.heap.size w2 W) (by kernel_rfl) (by kernel_rfl) rfl (by kernel_rfl) (by kernel_rfl) HZ1_0.out (fun ops hops => ?_)
    simp only [GT.ins, List.getD_cons_zero, List.getD_cons_succ]
    have g7 : (ops[7]?).bind (·.dst) = some 15 := by rw [hops.out]; rfl
    have g14 : (ops[14]?).bind (·.dst) = some 22 := by rw [hops.out]; rfl
    have G7 := Lib.hid g7
    have G14 := Lib.hid g14
    clear hops g7 g14
    iterate 4
      refine growS_take (by rfl) ?_
      apply Exists.intro
      refine ⟨fun w' hE => ?_, ?_⟩
      · have yc0 := (HU2.out.below hE).cell 0 (.string (bs sc)) rfl; have yc1 := (HU2.out.below hE).cell 1 (.string (bs ho)) rfl; have yc2 := (HU2.out.below hE).cell 2 (.int .i64 po) rfl; have yc3 := (HU2.out.below hE).cell 3 (.string (bs pa)) rfl; have yc4 := (HU2.out.below hE).cell 4 (.string (bs qu)) rfl; have yc5 := (HU2.out.below hE).cell 5 (.bool hq) rfl
        go_simp
        try with_reducible rfl
      simp only [Act.put, List.setIfInBounds_toArray, List.set_cons_zero, List.set_cons_succ]
    refine growS_call (by rfl) (fun K hK => ?_)
    go_simp
    refine (HOF2.out _ (HE.out.bel (HB2.out.trans (HZ1_0.out.mono HB2.out.size)))).mono ?_
    rintro r z1_1 ⟨rfl, hb⟩
    have hz := HZ1_0.out.trans (hb.mono HZ1_0.out.size)
    refine hK.out _ _ hz ?_
    have HZ1_1 := Lib.hid hz
    clear hK K hb hz
    refine growS_call (by rfl) (fun K hK => ?_)
    go_simp
    refine (HRO2.out _).mono ?_
    rintro r z1_2 ⟨rfl, hb⟩
    have hz := HZ1_1.out.trans (hb.mono HZ1_1.out.size)
    refine hK.out _ _ hz ?_
    have HZ1_2 := Lib.hid hz
    clear hK K hb hz
    iterate 2
      refine growS_take (by rfl) ?_
      apply Exists.intro
      refine ⟨fun w' hE => ?_, ?_⟩
      · have yc0 := (HU2.out.below hE).cell 0 (.string (bs sc)) rfl; have yc1 := (HU2.out.below hE).cell 1 (.string (bs ho)) rfl; have yc2 := (HU2.out.below hE).cell 2 (.int .i64 po) rfl; have yc3 := (HU2.out.below hE).cell 3 (.string (bs pa)) rfl; have yc4 := (HU2.out.below hE).cell 4 (.string (bs qu)) rfl; have yc5 := (HU2.out.below hE).cell 5 (.bool hq) rfl
        go_simp
        try with_reducible rfl
      simp only [Act.put, List.setIfInBounds_toArray, List.set_cons_zero, List.set_cons_succ]
    iterate 2
      refine growS_take (wantedS G7.out rfl rfl) ?_
      apply Exists.intro
      refine ⟨fun w' hE => ?_, ?_⟩
      · have yc0 := (HU2.out.below hE).cell 0 (.string (bs sc)) rfl; have yc1 := (HU2.out.below hE).cell 1 (.string (bs ho)) rfl; have yc2 := (HU2.out.below hE).cell 2 (.int .i64 po) rfl; have yc3 := (HU2.out.below hE).cell 3 (.string (bs pa)) rfl; have yc4 := (HU2.out.below hE).cell 4 (.string (bs qu)) rfl; have yc5 := (HU2.out.below hE).cell 5 (.bool hq) rfl
        go_simp
        try with_reducible rfl
      simp only [Act.put, List.setIfInBounds_toArray, List.set_cons_zero, List.set_cons_succ]
    refine growS_call (wantedS G7.out rfl rfl) (fun K hK => ?_)
    go_simp
    refine (HUN.out _).mono ?_
    rintro r wx ⟨rfl, rfl⟩
    refine hK.out _ _ HZ1_2.out ?_
    clear hK K
    refine growS_call (wantedS G7.out rfl rfl) (fun K hK => ?_)
    go_simp
    refine (HRU.out _).mono ?_
    rintro r wx ⟨rfl, rfl⟩
    refine hK.out _ _ HZ1_2.out ?_
    clear hK K
    iterate 1
      refine growS_take (wantedS G7.out rfl rfl) ?_
      apply Exists.intro
      refine ⟨fun w' hE => ?_, ?_⟩
      · have yc0 := (HU2.out.below hE).cell 0 (.string (bs sc)) rfl; have yc1 := (HU2.out.below hE).cell 1 (.string (bs ho)) rfl; have yc2 := (HU2.out.below hE).cell 2 (.int .i64 po) rfl; have yc3 := (HU2.out.below hE).cell 3 (.string (bs pa)) rfl; have yc4 := (HU2.out.below hE).cell 4 (.string (bs qu)) rfl; have yc5 := (HU2.out.below hE).cell 5 (.bool hq) rfl
        go_simp
        try with_reducible rfl
      simp only [Act.put, List.setIfInBounds_toArray, List.set_cons_zero, List.set_cons_succ]
    iterate 2
      refine growS_take (by rfl) ?_
      apply Exists.intro
      refine ⟨fun w' hE => ?_, ?_⟩
      · have yc0 := (HU2.out.below hE).cell 0 (.string (bs sc)) rfl; have yc1 := (HU2.out.below hE).cell 1 (.string (bs ho)) rfl; have yc2 := (HU2.out.below hE).cell 2 (.int .i64 po) rfl; have yc3 := (HU2.out.below hE).cell 3 (.string (bs pa)) rfl; have yc4 := (HU2.out.below hE).cell 4 (.string (bs qu)) rfl; have yc5 := (HU2.out.below hE).cell 5 (.bool hq) rfl
        go_simp
        try with_reducible rfl
      simp only [Act.put, List.setIfInBounds_toArray, List.set_cons_zero, List.set_cons_succ]
    refine growS_call (wantedS G14.out rfl rfl) (fun K hK => ?_)
    go_simp
    refine (kawake_any _ (HE.out.bel (HB2.out.trans (HZ1_2.out.mono HB2.out.size)))).mono ?_
    rintro r z1_3 ⟨rfl, hb⟩
    have hz := HZ1_2.out.trans (hb.mono HZ1_2.out.size)
    refine hK.out _ _ hz ?_
    have HZ1_3 := Lib.hid hz
    clear hK K hb hz
    iterate 2
      refine growS_take (by rfl) ?_
      apply Exists.intro
      refine ⟨fun w' hE => ?_, ?_⟩
      · have yc0 := (HU2.out.below hE).cell 0 (.string (bs sc)) rfl; have yc1 := (HU2.out.below hE).cell 1 (.string (bs ho)) rfl; have yc2 := (HU2.out.below hE).cell 2 (.int .i64 po) rfl; have yc3 := (HU2.out.below hE).cell 3 (.string (bs pa)) rfl; have yc4 := (HU2.out.below hE).cell 4 (.string (bs qu)) rfl; have yc5 := (HU2.out.below hE).cell 5 (.bool hq) rfl
        go_simp
        try with_reducible rfl
      simp only [Act.put, List.setIfInBounds_toArray, List.set_cons_zero, List.set_cons_succ]
    refine growS_done (NoPanic.normal ?_)
    have HB3 := Lib.hid (HB2.out.trans (HZ1_3.out.mono HB2.out.size))
    have HU3 := Lib.hid (HU2.out.below HZ1_3.out)
    clear HB2 HU2 HZ1_0 HZ1_1 HZ1_2 HZ1_3
    go_wp2_with fail
    go_ret
    exact ⟨rfl, HB3.out⟩
  · clear HOF HRO HUN HRU
    have hal : Below w.heap.size w (w.alloc (.cells #[.string (bs sc), .string (bs ho), .int .i64 po, .string (bs pa), .string (bs qu), .bool hq] 23)) := (Below.refl _ _).alloc (Nat.le_refl _) _
    have HB1 := Lib.hid hal
    have hn := ubk.new w #[.string (bs sc), .string (bs ho), .int .i64 po, .string (bs pa), .string (bs qu), .bool hq] 23
    have HU1 := Lib.hid hn; clear hn
    clear hal
    go_enter Tryz.func3, Tryz.ntmps3
    have uc0 := HU1.out.cell 0 (.string (bs sc)) rfl
    have uc1 := HU1.out.cell 1 (.string (bs ho)) rfl
    have uc2 := HU1.out.cell 2 (.int .i64 po) rfl
    have uc3 := HU1.out.cell 3 (.string (bs pa)) rfl
    have uc4 := HU1.out.cell 4 (.string (bs qu)) rfl
    have uc5 := HU1.out.cell 5 (.bool hq) rfl
    go_wp2_with fail
    refine (HLO.out _).mono ?_
    rintro r w2 ⟨rfl, hb⟩
    have HB2 := Lib.hid (HB1.out.trans (hb.mono HB1.out.size))
    have HU2 := Lib.hid (HU1.out.below hb)
    clear hb HB1 HU1
    clear uc0 uc1 uc2 uc3 uc4 uc5
    go_wp2_with fail
    refine (kawake_any _ (HE.out.bel HB2.out)).mono ?_
    rintro r w3 ⟨rfl, hb⟩
    have HB3 := Lib.hid (HB2.out.trans (hb.mono HB2.out.size))
    have HU3 := Lib.hid (HU2.out.below hb)
    clear hb HB2 HU2
    go_wp2_with fail
    go_ret
    exact ⟨rfl, HB3.out⟩
end Go.Proofs.YtnpiaifkeddjeaaGreatDoor
