/- The keys that go when any reply came for any URI: the statement's own walk. -/
import Derived.Test.YtnpiaifkeddjeaaGreatDoorKeyE
import Derived.Test.YtnpiaifkeddjeaaGreatDoorKeyD
namespace Go.Proofs.YtnpiaifkeddjeaaGreatDoor
open Go.RowKit Go.Shelf

set_option maxHeartbeats 8000000 in
set_option maxRecDepth 100000 in
theorem keyGone_law {st mi : Int} {re bo : ByteArray} {fs : Value} {l : List Fld} (u : Ur) (w : World) (hu : u.sized) (hv : FL w fs l) (hz : SzF l) (hm : MaxU w) (hl0 : Env w) :
    Calls Tryz.prog 4 #[.agg #[.string (bs u.sc), .string (bs u.ho), .int .i64 u.po, .string (bs u.pa), .string (bs u.qu), .bool u.hq], .agg #[.int .i64 st, .string re, .int .i64 mi, fs, .string bo]] w fun e w' => e = .returned (.bool true) ∧ Below w.heap.size w w' := by
  obtain ⟨A, c, rfl⟩ := hv.form
  have HE : Hid (EnvU w) := ⟨hm, hl0⟩
  clear hm hl0
  have HLO := Lib.hid (fun W => klong_any u W hu)
  have HFE := Lib.hid (fun W (hf : FL W (.slice A l.length c) l) => fewK_any (.slice A l.length c) l W hf hz.1 hz.2)
  have HGO := Lib.hid (fun W (he : EnvU W) (hf : FL W (.slice A l.length c) l) (hl : longB u = false) (hk : fewK l = true) => gone_any u st mi re bo (.slice A l.length c) l W he (long_okW hu hl) hf (fewK_kf hk))
  have HRG := Lib.hid (fun W (hf : FL W (.slice A l.length c) l) (hl : longB u = false) (hk : fewK l = true) => rgone_any u st mi re bo (.slice A l.length c) l W (long_okW hu hl) (by have := okW_pa hl; omega) hf (fewK_kf hk))
  have HGL : Hid (fewK l = true → (goneK u st l).length ≤ 1001) := fun h => by
    have h1 := (goneK_short u st l).2
    have h2 := (fewK_kf h).1
    omega
  have HFL := Lib.hid hv
  clear hu hz hv
  generalize goneK u st l = G at *
  generalize longB u = lb at *
  generalize fewK l = fw at *
  obtain ⟨sc, ho, po, pa, qu, hq⟩ := u
  simp only at HLO HGO HRG ⊢
  cases lb
  · cases fw
    · clear HGO HRG HGL
      have hal : Below w.heap.size w (w.alloc (.cells #[.string (bs sc), .string (bs ho), .int .i64 po, .string (bs pa), .string (bs qu), .bool hq] 23)) := (Below.refl _ _).alloc (Nat.le_refl _) _
      have HB1 := Lib.hid hal
      have hn := ubk.new w #[.string (bs sc), .string (bs ho), .int .i64 po, .string (bs pa), .string (bs qu), .bool hq] 23
      have HU1 := Lib.hid hn; clear hn
      clear hal
      have hal : Below (w.alloc (.cells #[.string (bs sc), .string (bs ho), .int .i64 po, .string (bs pa), .string (bs qu), .bool hq] 23)).heap.size (w.alloc (.cells #[.string (bs sc), .string (bs ho), .int .i64 po, .string (bs pa), .string (bs qu), .bool hq] 23)) ((w.alloc (.cells #[.string (bs sc), .string (bs ho), .int .i64 po, .string (bs pa), .string (bs qu), .bool hq] 23)).alloc (.cells #[.int .i64 st, .string re, .int .i64 mi, .slice A l.length c, .string bo] 31)) := (Below.refl _ _).alloc (Nat.le_refl _) _
      have HB2 := Lib.hid (HB1.out.trans (hal.mono HB1.out.size))
      have HU2 := Lib.hid (HU1.out.alloc (.cells #[.int .i64 st, .string re, .int .i64 mi, .slice A l.length c, .string bo] 31))
      have hn := ubk.new (w.alloc (.cells #[.string (bs sc), .string (bs ho), .int .i64 po, .string (bs pa), .string (bs qu), .bool hq] 23)) #[.int .i64 st, .string re, .int .i64 mi, .slice A l.length c, .string bo] 31
      rw [World.size_alloc] at hn
      have HP2 := Lib.hid hn; clear hn
      clear hal HB1 HU1
      go_enter Tryz.func4, Tryz.ntmps4
      have uc0 := HU2.out.cell 0 (.string (bs sc)) rfl
      have uc1 := HU2.out.cell 1 (.string (bs ho)) rfl
      have uc2 := HU2.out.cell 2 (.int .i64 po) rfl
      have uc3 := HU2.out.cell 3 (.string (bs pa)) rfl
      have uc4 := HU2.out.cell 4 (.string (bs qu)) rfl
      have uc5 := HU2.out.cell 5 (.bool hq) rfl
      go_wp2_with fail
      refine (HLO.out _).mono ?_
      rintro r w3 ⟨rfl, hb⟩
      have HB3 := Lib.hid (HB2.out.trans (hb.mono HB2.out.size))
      have HU3 := Lib.hid (HU2.out.below hb)
      have HP3 := Lib.hid (HP2.out.below hb)
      clear hb HB2 HU2 HP2
      clear uc0 uc1 uc2 uc3 uc4 uc5
      have pc0 := HP3.out.cell 0 (.int .i64 st) rfl
      have pc1 := HP3.out.cell 1 (.string re) rfl
      have pc2 := HP3.out.cell 2 (.int .i64 mi) rfl
      have pc3 := HP3.out.cell 3 (.slice A l.length c) rfl
      have pc4 := HP3.out.cell 4 (.string bo) rfl
      go_wp2_with fail
      refine (HFE.out _ (HFL.out.bel HB3.out)).mono ?_
      rintro r w4 ⟨rfl, hb⟩
      have HB4 := Lib.hid (HB3.out.trans (hb.mono HB3.out.size))
      have HU4 := Lib.hid (HU3.out.below hb)
      have HP4 := Lib.hid (HP3.out.below hb)
      clear hb HB3 HU3 HP3
      clear pc0 pc1 pc2 pc3 pc4
      go_wp2_with fail
      refine (kawake_any _ (HE.out.bel HB4.out)).mono ?_
      rintro r w5 ⟨rfl, hb⟩
      have HB5 := Lib.hid (HB4.out.trans (hb.mono HB4.out.size))
      have HU5 := Lib.hid (HU4.out.below hb)
      have HP5 := Lib.hid (HP4.out.below hb)
      clear hb HB4 HU4 HP4
      go_wp2_with fail
      go_ret
      exact ⟨rfl, HB5.out⟩
    · have HGO2 := Lib.hid (fun W he hf => HGO.out W he hf rfl rfl)
      have HRG2 := Lib.hid (fun W hf => HRG.out W hf rfl rfl)
      have HGL2 := Lib.hid (HGL.out rfl)
      clear HGO HRG HGL
      have hal : Below w.heap.size w (w.alloc (.cells #[.string (bs sc), .string (bs ho), .int .i64 po, .string (bs pa), .string (bs qu), .bool hq] 23)) := (Below.refl _ _).alloc (Nat.le_refl _) _
      have HB1 := Lib.hid hal
      have hn := ubk.new w #[.string (bs sc), .string (bs ho), .int .i64 po, .string (bs pa), .string (bs qu), .bool hq] 23
      have HU1 := Lib.hid hn; clear hn
      clear hal
      have hal : Below (w.alloc (.cells #[.string (bs sc), .string (bs ho), .int .i64 po, .string (bs pa), .string (bs qu), .bool hq] 23)).heap.size (w.alloc (.cells #[.string (bs sc), .string (bs ho), .int .i64 po, .string (bs pa), .string (bs qu), .bool hq] 23)) ((w.alloc (.cells #[.string (bs sc), .string (bs ho), .int .i64 po, .string (bs pa), .string (bs qu), .bool hq] 23)).alloc (.cells #[.int .i64 st, .string re, .int .i64 mi, .slice A l.length c, .string bo] 31)) := (Below.refl _ _).alloc (Nat.le_refl _) _
      have HB2 := Lib.hid (HB1.out.trans (hal.mono HB1.out.size))
      have HU2 := Lib.hid (HU1.out.alloc (.cells #[.int .i64 st, .string re, .int .i64 mi, .slice A l.length c, .string bo] 31))
      have hn := ubk.new (w.alloc (.cells #[.string (bs sc), .string (bs ho), .int .i64 po, .string (bs pa), .string (bs qu), .bool hq] 23)) #[.int .i64 st, .string re, .int .i64 mi, .slice A l.length c, .string bo] 31
      rw [World.size_alloc] at hn
      have HP2 := Lib.hid hn; clear hn
      clear hal HB1 HU1
      go_enter Tryz.func4, Tryz.ntmps4
      have uc0 := HU2.out.cell 0 (.string (bs sc)) rfl
      have uc1 := HU2.out.cell 1 (.string (bs ho)) rfl
      have uc2 := HU2.out.cell 2 (.int .i64 po) rfl
      have uc3 := HU2.out.cell 3 (.string (bs pa)) rfl
      have uc4 := HU2.out.cell 4 (.string (bs qu)) rfl
      have uc5 := HU2.out.cell 5 (.bool hq) rfl
      go_wp2_with fail
      refine (HLO.out _).mono ?_
      rintro r w3 ⟨rfl, hb⟩
      have HB3 := Lib.hid (HB2.out.trans (hb.mono HB2.out.size))
      have HU3 := Lib.hid (HU2.out.below hb)
      have HP3 := Lib.hid (HP2.out.below hb)
      clear hb HB2 HU2 HP2
      clear uc0 uc1 uc2 uc3 uc4 uc5
      have pc0 := HP3.out.cell 0 (.int .i64 st) rfl
      have pc1 := HP3.out.cell 1 (.string re) rfl
      have pc2 := HP3.out.cell 2 (.int .i64 mi) rfl
      have pc3 := HP3.out.cell 3 (.slice A l.length c) rfl
      have pc4 := HP3.out.cell 4 (.string bo) rfl
      go_wp2_with fail
      refine (HFE.out _ (HFL.out.bel HB3.out)).mono ?_
      rintro r w4 ⟨rfl, hb⟩
      have HB4 := Lib.hid (HB3.out.trans (hb.mono HB3.out.size))
      have HU4 := Lib.hid (HU3.out.below hb)
      have HP4 := Lib.hid (HP3.out.below hb)
      clear hb HB3 HU3 HP3
      clear pc0 pc1 pc2 pc3 pc4
      have uc0 := HU4.out.cell 0 (.string (bs sc)) rfl
      have uc1 := HU4.out.cell 1 (.string (bs ho)) rfl
      have uc2 := HU4.out.cell 2 (.int .i64 po) rfl
      have uc3 := HU4.out.cell 3 (.string (bs pa)) rfl
      have uc4 := HU4.out.cell 4 (.string (bs qu)) rfl
      have uc5 := HU4.out.cell 5 (.bool hq) rfl
      have pc0 := HP4.out.cell 0 (.int .i64 st) rfl
      have pc1 := HP4.out.cell 1 (.string re) rfl
      have pc2 := HP4.out.cell 2 (.int .i64 mi) rfl
      have pc3 := HP4.out.cell 3 (.slice A l.length c) rfl
      have pc4 := HP4.out.cell 4 (.string bo) rfl
      go_wp2_with fail
      clear uc0 uc1 uc2 uc3 uc4 uc5
      clear pc0 pc1 pc2 pc3 pc4
      have hz : Below w4.heap.size w4 w4.drew := (Below.refl _ _).drew
      have HZ2_0 := Lib.hid hz; clear hz
      refine wp_region_growS (.one 0 false (.one 1 false (.one 3 false (.one 4 false (.one 2 true (.one 5 true (.one 6 true (.one 7 false (.one 8 true (.one 9 false (.one 10 false .done)))))))))))
        (fun W => Below w4.heap.size w4 W) (by kernel_rfl) (by kernel_rfl) rfl (by kernel_rfl) (by kernel_rfl) HZ2_0.out (fun ops hops => ?_)
      simp only [GT.ins, List.getD_cons_zero, List.getD_cons_succ]
      have g7 : (ops[7]?).bind (·.dst) = some 21 := by rw [hops.out]; rfl
      have G7 := Lib.hid g7
      clear hops g7
      iterate 4
        refine growS_take (by rfl) ?_
        apply Exists.intro
        refine ⟨fun w' hE => ?_, ?_⟩
        · have yc0 := (HU4.out.below hE).cell 0 (.string (bs sc)) rfl; have yc1 := (HU4.out.below hE).cell 1 (.string (bs ho)) rfl; have yc2 := (HU4.out.below hE).cell 2 (.int .i64 po) rfl; have yc3 := (HU4.out.below hE).cell 3 (.string (bs pa)) rfl; have yc4 := (HU4.out.below hE).cell 4 (.string (bs qu)) rfl; have yc5 := (HU4.out.below hE).cell 5 (.bool hq) rfl; have zc0 := (HP4.out.below hE).cell 0 (.int .i64 st) rfl; have zc1 := (HP4.out.below hE).cell 1 (.string re) rfl; have zc2 := (HP4.out.below hE).cell 2 (.int .i64 mi) rfl; have zc3 := (HP4.out.below hE).cell 3 (.slice A l.length c) rfl; have zc4 := (HP4.out.below hE).cell 4 (.string bo) rfl
          go_simp
          try with_reducible rfl
        simp only [Act.put, List.setIfInBounds_toArray, List.set_cons_zero, List.set_cons_succ]
      refine growS_call (by rfl) (fun K hK => ?_)
      go_simp
      refine (HGO2.out _ (HE.out.bel (HB4.out.trans (HZ2_0.out.mono HB4.out.size))) (HFL.out.bel (HB4.out.trans (HZ2_0.out.mono HB4.out.size)))).mono ?_
      rintro r z2_1 ⟨v2, rfl, ho, hb⟩
      have hz := HZ2_0.out.trans (hb.mono HZ2_0.out.size)
      refine hK.out _ _ hz ?_
      have HZ2_1 := Lib.hid hz
      have HVv2 := Lib.hid ho
      clear hK K hb hz ho
      refine growS_call (by rfl) (fun K hK => ?_)
      go_simp
      refine (HRG2.out _ (HFL.out.bel (HB4.out.trans (HZ2_1.out.mono HB4.out.size)))).mono ?_
      rintro r z2_2 ⟨v5, rfl, ho, hb⟩
      have hz := HZ2_1.out.trans (hb.mono HZ2_1.out.size)
      refine hK.out _ _ hz ?_
      have HZ2_2 := Lib.hid hz
      have HVv5 := Lib.hid ho
      have HVw2 := Lib.hid (HVv2.out.bel hb); clear HVv2
      clear hK K hb hz ho
      refine growS_call (by rfl) (fun K hK => ?_)
      go_simp
      refine (texts_any _ _ _ _ G G _ HVw2.out HVv5.out (by have := HGL2.out; omega)).mono ?_
      rintro r z2_3 ⟨rfl, hb⟩
      have hz := HZ2_2.out.trans (hb.mono HZ2_2.out.size)
      refine hK.out _ _ hz ?_
      have HZ2_3 := Lib.hid hz
      have q7 : (G == G) = true := by simp
      simp only [q7]
      clear hK K hb hz HVw2 HVv5
      iterate 1
        refine growS_take (by rfl) ?_
        apply Exists.intro
        refine ⟨fun w' hE => ?_, ?_⟩
        · have yc0 := (HU4.out.below hE).cell 0 (.string (bs sc)) rfl; have yc1 := (HU4.out.below hE).cell 1 (.string (bs ho)) rfl; have yc2 := (HU4.out.below hE).cell 2 (.int .i64 po) rfl; have yc3 := (HU4.out.below hE).cell 3 (.string (bs pa)) rfl; have yc4 := (HU4.out.below hE).cell 4 (.string (bs qu)) rfl; have yc5 := (HU4.out.below hE).cell 5 (.bool hq) rfl; have zc0 := (HP4.out.below hE).cell 0 (.int .i64 st) rfl; have zc1 := (HP4.out.below hE).cell 1 (.string re) rfl; have zc2 := (HP4.out.below hE).cell 2 (.int .i64 mi) rfl; have zc3 := (HP4.out.below hE).cell 3 (.slice A l.length c) rfl; have zc4 := (HP4.out.below hE).cell 4 (.string bo) rfl
          go_simp
          try with_reducible rfl
        simp only [Act.put, List.setIfInBounds_toArray, List.set_cons_zero, List.set_cons_succ]
      refine growS_call (wantedS G7.out rfl rfl) (fun K hK => ?_)
      go_simp
      refine (kawake_any _ (HE.out.bel (HB4.out.trans (HZ2_3.out.mono HB4.out.size)))).mono ?_
      rintro r z2_4 ⟨rfl, hb⟩
      have hz := HZ2_3.out.trans (hb.mono HZ2_3.out.size)
      refine hK.out _ _ hz ?_
      have HZ2_4 := Lib.hid hz
      clear hK K hb hz
      iterate 2
        refine growS_take (by rfl) ?_
        apply Exists.intro
        refine ⟨fun w' hE => ?_, ?_⟩
        · have yc0 := (HU4.out.below hE).cell 0 (.string (bs sc)) rfl; have yc1 := (HU4.out.below hE).cell 1 (.string (bs ho)) rfl; have yc2 := (HU4.out.below hE).cell 2 (.int .i64 po) rfl; have yc3 := (HU4.out.below hE).cell 3 (.string (bs pa)) rfl; have yc4 := (HU4.out.below hE).cell 4 (.string (bs qu)) rfl; have yc5 := (HU4.out.below hE).cell 5 (.bool hq) rfl; have zc0 := (HP4.out.below hE).cell 0 (.int .i64 st) rfl; have zc1 := (HP4.out.below hE).cell 1 (.string re) rfl; have zc2 := (HP4.out.below hE).cell 2 (.int .i64 mi) rfl; have zc3 := (HP4.out.below hE).cell 3 (.slice A l.length c) rfl; have zc4 := (HP4.out.below hE).cell 4 (.string bo) rfl
          go_simp
          try with_reducible rfl
        simp only [Act.put, List.setIfInBounds_toArray, List.set_cons_zero, List.set_cons_succ]
      refine growS_done (NoPanic.normal ?_)
      have HB5 := Lib.hid (HB4.out.trans (HZ2_4.out.mono HB4.out.size))
      have HU5 := Lib.hid (HU4.out.below HZ2_4.out)
      have HP5 := Lib.hid (HP4.out.below HZ2_4.out)
      clear HB4 HU4 HP4 HZ2_0 HZ2_1 HZ2_2 HZ2_3 HZ2_4
      go_wp2_with fail
      go_ret
      exact ⟨rfl, HB5.out⟩
  · clear HGO HRG HGL HFE
    have hal : Below w.heap.size w (w.alloc (.cells #[.string (bs sc), .string (bs ho), .int .i64 po, .string (bs pa), .string (bs qu), .bool hq] 23)) := (Below.refl _ _).alloc (Nat.le_refl _) _
    have HB1 := Lib.hid hal
    have hn := ubk.new w #[.string (bs sc), .string (bs ho), .int .i64 po, .string (bs pa), .string (bs qu), .bool hq] 23
    have HU1 := Lib.hid hn; clear hn
    clear hal
    have hal : Below (w.alloc (.cells #[.string (bs sc), .string (bs ho), .int .i64 po, .string (bs pa), .string (bs qu), .bool hq] 23)).heap.size (w.alloc (.cells #[.string (bs sc), .string (bs ho), .int .i64 po, .string (bs pa), .string (bs qu), .bool hq] 23)) ((w.alloc (.cells #[.string (bs sc), .string (bs ho), .int .i64 po, .string (bs pa), .string (bs qu), .bool hq] 23)).alloc (.cells #[.int .i64 st, .string re, .int .i64 mi, .slice A l.length c, .string bo] 31)) := (Below.refl _ _).alloc (Nat.le_refl _) _
    have HB2 := Lib.hid (HB1.out.trans (hal.mono HB1.out.size))
    have HU2 := Lib.hid (HU1.out.alloc (.cells #[.int .i64 st, .string re, .int .i64 mi, .slice A l.length c, .string bo] 31))
    have hn := ubk.new (w.alloc (.cells #[.string (bs sc), .string (bs ho), .int .i64 po, .string (bs pa), .string (bs qu), .bool hq] 23)) #[.int .i64 st, .string re, .int .i64 mi, .slice A l.length c, .string bo] 31
    rw [World.size_alloc] at hn
    have HP2 := Lib.hid hn; clear hn
    clear hal HB1 HU1
    go_enter Tryz.func4, Tryz.ntmps4
    have uc0 := HU2.out.cell 0 (.string (bs sc)) rfl
    have uc1 := HU2.out.cell 1 (.string (bs ho)) rfl
    have uc2 := HU2.out.cell 2 (.int .i64 po) rfl
    have uc3 := HU2.out.cell 3 (.string (bs pa)) rfl
    have uc4 := HU2.out.cell 4 (.string (bs qu)) rfl
    have uc5 := HU2.out.cell 5 (.bool hq) rfl
    go_wp2_with fail
    refine (HLO.out _).mono ?_
    rintro r w3 ⟨rfl, hb⟩
    have HB3 := Lib.hid (HB2.out.trans (hb.mono HB2.out.size))
    have HU3 := Lib.hid (HU2.out.below hb)
    have HP3 := Lib.hid (HP2.out.below hb)
    clear hb HB2 HU2 HP2
    clear uc0 uc1 uc2 uc3 uc4 uc5
    go_wp2_with fail
    refine (kawake_any _ (HE.out.bel HB3.out)).mono ?_
    rintro r w4 ⟨rfl, hb⟩
    have HB4 := Lib.hid (HB3.out.trans (hb.mono HB3.out.size))
    have HU4 := Lib.hid (HU3.out.below hb)
    have HP4 := Lib.hid (HP3.out.below hb)
    clear hb HB3 HU3 HP3
    go_wp2_with fail
    go_ret
    exact ⟨rfl, HB4.out⟩
end Go.Proofs.YtnpiaifkeddjeaaGreatDoor
