/- Two URIs have one key just if they have one normal form: the statement's own walk. -/
import Derived.Test.YtnpiaifkeddjeaaGreatDoorKeyE
namespace Go.Proofs.YtnpiaifkeddjeaaGreatDoor
open Go.RowKit Go.Shelf

set_option maxHeartbeats 8000000 in
set_option maxRecDepth 100000 in
theorem keyNormal_law (a b : Ur) (w : World) (ha : a.sized) (hb : b.sized) (hm : MaxU w) (hl0 : Env w) :
    Calls Tryz.prog 6 #[.agg #[.string (bs a.sc), .string (bs a.ho), .int .i64 a.po, .string (bs a.pa), .string (bs a.qu), .bool a.hq], .agg #[.string (bs b.sc), .string (bs b.ho), .int .i64 b.po, .string (bs b.pa), .string (bs b.qu), .bool b.hq]] w fun e w' => e = .returned (.bool true) ∧ Below w.heap.size w w' := by
  have HE : Hid (EnvU w) := ⟨hm, hl0⟩
  clear hm hl0
  have HLA := Lib.hid (fun W => klong_any a W ha)
  have HLB := Lib.hid (fun W => klong_any b W hb)
  have HCA := Lib.hid (fun W (he : EnvU W) (hl : longB a = false) => uriCheck_any a W he (long_okW ha hl))
  have HCB := Lib.hid (fun W (he : EnvU W) (hl : longB b = false) => uriCheck_any b W he (long_okW hb hl))
  have HGA : Hid (∀ W, EnvU W → longB a = false → Calls Tryz.prog 10 #[.string ⟨#[71, 69, 84]⟩, .agg #[.string (bs a.sc), .string (bs a.ho), .int .i64 a.po, .string (bs a.pa), .string (bs a.qu), .bool a.hq]] W fun r w' => r = .returned (.string (bs (keyU a))) ∧ Below W.heap.size W w') := fun W he hl => kof_any getK a W he (long_okW ha hl)
  have HHA : Hid (∀ W, EnvU W → longB a = false → Calls Tryz.prog 10 #[.string ⟨#[72, 69, 65, 68]⟩, .agg #[.string (bs a.sc), .string (bs a.ho), .int .i64 a.po, .string (bs a.pa), .string (bs a.qu), .bool a.hq]] W fun r w' => r = .returned (.string (bs (keyU a))) ∧ Below W.heap.size W w') := fun W he hl => kof_any headK a W he (long_okW ha hl)
  have HGB : Hid (∀ W, EnvU W → longB b = false → Calls Tryz.prog 10 #[.string ⟨#[71, 69, 84]⟩, .agg #[.string (bs b.sc), .string (bs b.ho), .int .i64 b.po, .string (bs b.pa), .string (bs b.qu), .bool b.hq]] W fun r w' => r = .returned (.string (bs (keyU b))) ∧ Below W.heap.size W w') := fun W he hl => kof_any getK b W he (long_okW hb hl)
  have HPK : Hid (a.check = 0 → ∀ W, EnvU W → Calls Tryz.prog 21 #[.string (bs (keyU a))] W (RetU W (a.normal, 0))) := fun hc W he => by have h := parse_any (keyU a) W he; rwa [key_parse hc] at h
  have HHN : Hid (a.check = 0 → ∀ W, EnvU W → Calls Tryz.prog 10 #[.string ⟨#[72, 69, 65, 68]⟩, .agg #[.string (bs a.normal.sc), .string (bs a.normal.ho), .int .i64 a.normal.po, .string (bs a.normal.pa), .string (bs a.normal.qu), .bool a.normal.hq]] W fun r w' => r = .returned (.string (bs (keyU a))) ∧ Below W.heap.size W w') := fun hc W he => by
    have h := kof_any headK a.normal W he (normal_okW a)
    rw [show ofK headK a.normal = keyU a from by unfold ofK keyU; rw [if_pos (.inr rfl), (normal_ok hc).2.2.1]] at h
    exact h
  have HNA := Lib.hid (fun W (he : EnvU W) (hl : longB a = false) => normal_any a W he (long_okW ha hl))
  have HNB := Lib.hid (fun W (he : EnvU W) (hl : longB b = false) => normal_any b W he (long_okW hb hl))
  have HKI : Hid (a.check = 0 → b.check = 0 → ((bs (keyU a)).toList == (bs (keyU b)).toList) = decide (a.normal = b.normal)) := fun h1 h2 => by rw [beq_bs2]; exact key_inj h1 h2
  have HEQ := Lib.hid (fun W => run_eqlU a.normal b.normal W)
  clear ha hb
  generalize decide (a.normal = b.normal) = d at *
  generalize keyU a = ka at *
  generalize keyU b = kb at *
  generalize a.normal = an at *
  generalize b.normal = bn at *
  generalize longB a = la at *
  generalize longB b = lb at *
  generalize hca : a.check = ca at *
  generalize hcb : b.check = cb at *
  clear hca hcb
  obtain ⟨asc, aho, apo, apa, aqu, ahq⟩ := a
  obtain ⟨bsc, bho, bpo, bpa, bqu, bhq⟩ := b
  obtain ⟨nsc, nho, npo, npa, nqu, nhq⟩ := an
  obtain ⟨msc, mho, mpo, mpa, mqu, mhq⟩ := bn
  unfold RetU at HPK
  simp only at HLA HLB HCA HCB HGA HHA HGB HPK HHN HNA HNB HEQ ⊢
  cases la
  · have HCA2 := Lib.hid (fun W he => HCA.out W he rfl)
    cases lb
    · have HCB2 := Lib.hid (fun W he => HCB.out W he rfl)
      by_cases hca : ca = 0
      · subst hca
        by_cases hcb : cb = 0
        · subst hcb
          have HPK2 := Lib.hid (HPK.out rfl)
          have HHN2 := Lib.hid (HHN.out rfl)
          have HKI2 := Lib.hid (HKI.out rfl rfl)
          have HGA2 := Lib.hid (fun W he => HGA.out W he rfl)
          have HHA2 := Lib.hid (fun W he => HHA.out W he rfl)
          have HGB2 := Lib.hid (fun W he => HGB.out W he rfl)
          have HNA2 := Lib.hid (fun W he => HNA.out W he rfl)
          have HNB2 := Lib.hid (fun W he => HNB.out W he rfl)
          clear HPK HHN HKI HGA HHA HGB HNA HNB HCA HCB
          have q0 : ((0 : Int) != 0) = false := rfl
          have q1 : ((bs ka).toList == (bs ka).toList) = true := by simp
          have q2 := HKI2.out
          clear HKI2
          have hal : Below w.heap.size w (w.alloc (.cells #[.string (bs asc), .string (bs aho), .int .i64 apo, .string (bs apa), .string (bs aqu), .bool ahq] 23)) := (Below.refl _ _).alloc (Nat.le_refl _) _
          have HB1 := Lib.hid hal
          have hn := ubk.new w #[.string (bs asc), .string (bs aho), .int .i64 apo, .string (bs apa), .string (bs aqu), .bool ahq] 23
          have HA1 := Lib.hid hn; clear hn
          clear hal
          have hal : Below (w.alloc (.cells #[.string (bs asc), .string (bs aho), .int .i64 apo, .string (bs apa), .string (bs aqu), .bool ahq] 23)).heap.size (w.alloc (.cells #[.string (bs asc), .string (bs aho), .int .i64 apo, .string (bs apa), .string (bs aqu), .bool ahq] 23)) ((w.alloc (.cells #[.string (bs asc), .string (bs aho), .int .i64 apo, .string (bs apa), .string (bs aqu), .bool ahq] 23)).alloc (.cells #[.string (bs bsc), .string (bs bho), .int .i64 bpo, .string (bs bpa), .string (bs bqu), .bool bhq] 23)) := (Below.refl _ _).alloc (Nat.le_refl _) _
          have HB2 := Lib.hid (HB1.out.trans (hal.mono HB1.out.size))
          have HA2 := Lib.hid (HA1.out.alloc (.cells #[.string (bs bsc), .string (bs bho), .int .i64 bpo, .string (bs bpa), .string (bs bqu), .bool bhq] 23))
          have hn := ubk.new (w.alloc (.cells #[.string (bs asc), .string (bs aho), .int .i64 apo, .string (bs apa), .string (bs aqu), .bool ahq] 23)) #[.string (bs bsc), .string (bs bho), .int .i64 bpo, .string (bs bpa), .string (bs bqu), .bool bhq] 23
          rw [World.size_alloc] at hn
          have HB_2 := Lib.hid hn; clear hn
          clear hal HB1 HA1
          go_enter Tryz.func6, Tryz.ntmps6
          have ac0 := HA2.out.cell 0 (.string (bs asc)) rfl
          have ac1 := HA2.out.cell 1 (.string (bs aho)) rfl
          have ac2 := HA2.out.cell 2 (.int .i64 apo) rfl
          have ac3 := HA2.out.cell 3 (.string (bs apa)) rfl
          have ac4 := HA2.out.cell 4 (.string (bs aqu)) rfl
          have ac5 := HA2.out.cell 5 (.bool ahq) rfl
          go_wp2_with fail
          refine (HLA.out _).mono ?_
          rintro r w3 ⟨rfl, hb⟩
          have HB3 := Lib.hid (HB2.out.trans (hb.mono HB2.out.size))
          have HA3 := Lib.hid (HA2.out.below hb)
          have HB_3 := Lib.hid (HB_2.out.below hb)
          clear hb HB2 HA2 HB_2
          clear ac0 ac1 ac2 ac3 ac4 ac5
          have bc0 := HB_3.out.cell 0 (.string (bs bsc)) rfl
          have bc1 := HB_3.out.cell 1 (.string (bs bho)) rfl
          have bc2 := HB_3.out.cell 2 (.int .i64 bpo) rfl
          have bc3 := HB_3.out.cell 3 (.string (bs bpa)) rfl
          have bc4 := HB_3.out.cell 4 (.string (bs bqu)) rfl
          have bc5 := HB_3.out.cell 5 (.bool bhq) rfl
          go_wp2_with fail
          refine (HLB.out _).mono ?_
          rintro r w4 ⟨rfl, hb⟩
          have HB4 := Lib.hid (HB3.out.trans (hb.mono HB3.out.size))
          have HA4 := Lib.hid (HA3.out.below hb)
          have HB_4 := Lib.hid (HB_3.out.below hb)
          clear hb HB3 HA3 HB_3
          clear bc0 bc1 bc2 bc3 bc4 bc5
          have ac0 := HA4.out.cell 0 (.string (bs asc)) rfl
          have ac1 := HA4.out.cell 1 (.string (bs aho)) rfl
          have ac2 := HA4.out.cell 2 (.int .i64 apo) rfl
          have ac3 := HA4.out.cell 3 (.string (bs apa)) rfl
          have ac4 := HA4.out.cell 4 (.string (bs aqu)) rfl
          have ac5 := HA4.out.cell 5 (.bool ahq) rfl
          go_wp2_with fail
          refine (HCA2.out _ (HE.out.bel HB4.out)).mono ?_
          rintro r w5 ⟨rfl, hb⟩
          have HB5 := Lib.hid (HB4.out.trans (hb.mono HB4.out.size))
          have HA5 := Lib.hid (HA4.out.below hb)
          have HB_5 := Lib.hid (HB_4.out.below hb)
          clear hb HB4 HA4 HB_4
          clear ac0 ac1 ac2 ac3 ac4 ac5
          have bc0 := HB_5.out.cell 0 (.string (bs bsc)) rfl
          have bc1 := HB_5.out.cell 1 (.string (bs bho)) rfl
          have bc2 := HB_5.out.cell 2 (.int .i64 bpo) rfl
          have bc3 := HB_5.out.cell 3 (.string (bs bpa)) rfl
          have bc4 := HB_5.out.cell 4 (.string (bs bqu)) rfl
          have bc5 := HB_5.out.cell 5 (.bool bhq) rfl
          go_wp2_with fail
          refine (HCB2.out _ (HE.out.bel HB5.out)).mono ?_
          rintro r w6 ⟨rfl, hb⟩
          have HB6 := Lib.hid (HB5.out.trans (hb.mono HB5.out.size))
          have HA6 := Lib.hid (HA5.out.below hb)
          have HB_6 := Lib.hid (HB_5.out.below hb)
          clear hb HB5 HA5 HB_5
          clear bc0 bc1 bc2 bc3 bc4 bc5
          have ac0 := HA6.out.cell 0 (.string (bs asc)) rfl
          have ac1 := HA6.out.cell 1 (.string (bs aho)) rfl
          have ac2 := HA6.out.cell 2 (.int .i64 apo) rfl
          have ac3 := HA6.out.cell 3 (.string (bs apa)) rfl
          have ac4 := HA6.out.cell 4 (.string (bs aqu)) rfl
          have ac5 := HA6.out.cell 5 (.bool ahq) rfl
          go_wp2_with fail
          refine (HGA2.out _ (HE.out.bel HB6.out)).mono ?_
          rintro r w7 ⟨rfl, hb⟩
          have HB7 := Lib.hid (HB6.out.trans (hb.mono HB6.out.size))
          have HA7 := Lib.hid (HA6.out.below hb)
          have HB_7 := Lib.hid (HB_6.out.below hb)
          clear hb HB6 HA6 HB_6
          clear ac0 ac1 ac2 ac3 ac4 ac5
          go_wp2_with fail
          refine (HPK2.out _ (HE.out.bel HB7.out)).mono ?_
          rintro r w8 ⟨rfl, hb⟩
          have HB8 := Lib.hid (HB7.out.trans (hb.mono HB7.out.size))
          have HA8 := Lib.hid (HA7.out.below hb)
          have HB_8 := Lib.hid (HB_7.out.below hb)
          clear hb HB7 HA7 HB_7
          have hal : Below w8.heap.size w8 (w8.alloc (.cells #[.string (bs nsc), .string (bs nho), .int .i64 npo, .string (bs npa), .string (bs nqu), .bool nhq] 23)) := (Below.refl _ _).alloc (Nat.le_refl _) _
          have HB9 := Lib.hid (HB8.out.trans (hal.mono HB8.out.size))
          have HA9 := Lib.hid (HA8.out.alloc (.cells #[.string (bs nsc), .string (bs nho), .int .i64 npo, .string (bs npa), .string (bs nqu), .bool nhq] 23))
          have HB_9 := Lib.hid (HB_8.out.alloc (.cells #[.string (bs nsc), .string (bs nho), .int .i64 npo, .string (bs npa), .string (bs nqu), .bool nhq] 23))
          have hn := ubk.new w8 #[.string (bs nsc), .string (bs nho), .int .i64 npo, .string (bs npa), .string (bs nqu), .bool nhq] 23
          have HN9 := Lib.hid hn; clear hn
          clear hal HB8 HA8 HB_8
          have nc0 := HN9.out.cell 0 (.string (bs nsc)) rfl
          have nc1 := HN9.out.cell 1 (.string (bs nho)) rfl
          have nc2 := HN9.out.cell 2 (.int .i64 npo) rfl
          have nc3 := HN9.out.cell 3 (.string (bs npa)) rfl
          have nc4 := HN9.out.cell 4 (.string (bs nqu)) rfl
          have nc5 := HN9.out.cell 5 (.bool nhq) rfl
          go_wp2_with fail
          refine (HHN2.out _ (HE.out.bel HB9.out)).mono ?_
          rintro r w10 ⟨rfl, hb⟩
          have HB10 := Lib.hid (HB9.out.trans (hb.mono HB9.out.size))
          have HA10 := Lib.hid (HA9.out.below hb)
          have HB_10 := Lib.hid (HB_9.out.below hb)
          have HN10 := Lib.hid (HN9.out.below hb)
          clear hb HB9 HA9 HB_9 HN9
          clear nc0 nc1 nc2 nc3 nc4 nc5
          have ac0 := HA10.out.cell 0 (.string (bs asc)) rfl
          have ac1 := HA10.out.cell 1 (.string (bs aho)) rfl
          have ac2 := HA10.out.cell 2 (.int .i64 apo) rfl
          have ac3 := HA10.out.cell 3 (.string (bs apa)) rfl
          have ac4 := HA10.out.cell 4 (.string (bs aqu)) rfl
          have ac5 := HA10.out.cell 5 (.bool ahq) rfl
          go_wp2_with fail
          refine (HHA2.out _ (HE.out.bel HB10.out)).mono ?_
          rintro r w11 ⟨rfl, hb⟩
          have HB11 := Lib.hid (HB10.out.trans (hb.mono HB10.out.size))
          have HA11 := Lib.hid (HA10.out.below hb)
          have HB_11 := Lib.hid (HB_10.out.below hb)
          have HN11 := Lib.hid (HN10.out.below hb)
          clear hb HB10 HA10 HB_10 HN10
          clear ac0 ac1 ac2 ac3 ac4 ac5
          have ac0 := HA11.out.cell 0 (.string (bs asc)) rfl
          have ac1 := HA11.out.cell 1 (.string (bs aho)) rfl
          have ac2 := HA11.out.cell 2 (.int .i64 apo) rfl
          have ac3 := HA11.out.cell 3 (.string (bs apa)) rfl
          have ac4 := HA11.out.cell 4 (.string (bs aqu)) rfl
          have ac5 := HA11.out.cell 5 (.bool ahq) rfl
          have bc0 := HB_11.out.cell 0 (.string (bs bsc)) rfl
          have bc1 := HB_11.out.cell 1 (.string (bs bho)) rfl
          have bc2 := HB_11.out.cell 2 (.int .i64 bpo) rfl
          have bc3 := HB_11.out.cell 3 (.string (bs bpa)) rfl
          have bc4 := HB_11.out.cell 4 (.string (bs bqu)) rfl
          have bc5 := HB_11.out.cell 5 (.bool bhq) rfl
          go_wp2_with fail
          clear ac0 ac1 ac2 ac3 ac4 ac5 bc0 bc1 bc2 bc3 bc4 bc5
          have hz : Below w11.heap.size w11 w11.drew := (Below.refl _ _).drew
          have HZ3_0 := Lib.hid hz; clear hz
          refine wp_region_growS (.one 0 false (.one 1 false (.one 4 false (.one 6 false (.one 2 true (.one 3 false (.one 5 true (.one 7 true (.one 8 false (.one 9 false (.one 10 false (.one 11 true (.one 12 false (.one 13 false .done))))))))))))))
            (fun W => Below w11.heap.size w11 W) (by kernel_rfl) (by kernel_rfl) rfl (by kernel_rfl) (by kernel_rfl) HZ3_0.out (fun ops hops => ?_)
          simp only [GT.ins, List.getD_cons_zero, List.getD_cons_succ]
          have g10 : (ops[10]?).bind (·.dst) = some 56 := by rw [hops.out]; rfl
          have G10 := Lib.hid g10
          clear hops g10
          iterate 4
            refine growS_take (by rfl) ?_
            apply Exists.intro
            refine ⟨fun w' hE => ?_, ?_⟩
            · have hcmp := HEQ.out; have yc0 := (HA11.out.below hE).cell 0 (.string (bs asc)) rfl; have yc1 := (HA11.out.below hE).cell 1 (.string (bs aho)) rfl; have yc2 := (HA11.out.below hE).cell 2 (.int .i64 apo) rfl; have yc3 := (HA11.out.below hE).cell 3 (.string (bs apa)) rfl; have yc4 := (HA11.out.below hE).cell 4 (.string (bs aqu)) rfl; have yc5 := (HA11.out.below hE).cell 5 (.bool ahq) rfl; have zc0 := (HB_11.out.below hE).cell 0 (.string (bs bsc)) rfl; have zc1 := (HB_11.out.below hE).cell 1 (.string (bs bho)) rfl; have zc2 := (HB_11.out.below hE).cell 2 (.int .i64 bpo) rfl; have zc3 := (HB_11.out.below hE).cell 3 (.string (bs bpa)) rfl; have zc4 := (HB_11.out.below hE).cell 4 (.string (bs bqu)) rfl; have zc5 := (HB_11.out.below hE).cell 5 (.bool bhq) rfl
              go_simp
              try with_reducible rfl
            simp only [Act.put, List.setIfInBounds_toArray, List.set_cons_zero, List.set_cons_succ]
          refine growS_call (by rfl) (fun K hK => ?_)
          go_simp
          refine (HGB2.out _ (HE.out.bel (HB11.out.trans (HZ3_0.out.mono HB11.out.size)))).mono ?_
          rintro r z3_1 ⟨rfl, hb⟩
          have hz := HZ3_0.out.trans (hb.mono HZ3_0.out.size)
          refine hK.out _ _ hz ?_
          have HZ3_1 := Lib.hid hz
          clear hK K hb hz
          iterate 1
            refine growS_take (by rfl) ?_
            apply Exists.intro
            refine ⟨fun w' hE => ?_, ?_⟩
            · have hcmp := HEQ.out; have yc0 := (HA11.out.below hE).cell 0 (.string (bs asc)) rfl; have yc1 := (HA11.out.below hE).cell 1 (.string (bs aho)) rfl; have yc2 := (HA11.out.below hE).cell 2 (.int .i64 apo) rfl; have yc3 := (HA11.out.below hE).cell 3 (.string (bs apa)) rfl; have yc4 := (HA11.out.below hE).cell 4 (.string (bs aqu)) rfl; have yc5 := (HA11.out.below hE).cell 5 (.bool ahq) rfl; have zc0 := (HB_11.out.below hE).cell 0 (.string (bs bsc)) rfl; have zc1 := (HB_11.out.below hE).cell 1 (.string (bs bho)) rfl; have zc2 := (HB_11.out.below hE).cell 2 (.int .i64 bpo) rfl; have zc3 := (HB_11.out.below hE).cell 3 (.string (bs bpa)) rfl; have zc4 := (HB_11.out.below hE).cell 4 (.string (bs bqu)) rfl; have zc5 := (HB_11.out.below hE).cell 5 (.bool bhq) rfl
              go_simp
              try with_reducible rfl
            simp only [Act.put, List.setIfInBounds_toArray, List.set_cons_zero, List.set_cons_succ]
          refine growS_call (by rfl) (fun K hK => ?_)
          go_simp
          refine (HNA2.out _ (HE.out.bel (HB11.out.trans (HZ3_1.out.mono HB11.out.size)))).mono ?_
          rintro r z3_2 ⟨rfl, hb⟩
          have hz := HZ3_1.out.trans (hb.mono HZ3_1.out.size)
          refine hK.out _ _ hz ?_
          have HZ3_2 := Lib.hid hz
          clear hK K hb hz
          refine growS_call (by rfl) (fun K hK => ?_)
          go_simp
          refine (HNB2.out _ (HE.out.bel (HB11.out.trans (HZ3_2.out.mono HB11.out.size)))).mono ?_
          rintro r z3_3 ⟨rfl, hb⟩
          have hz := HZ3_2.out.trans (hb.mono HZ3_2.out.size)
          refine hK.out _ _ hz ?_
          have HZ3_3 := Lib.hid hz
          clear hK K hb hz
          iterate 3
            refine growS_take (by rfl) ?_
            apply Exists.intro
            refine ⟨fun w' hE => ?_, ?_⟩
            · have hcmp := HEQ.out; have yc0 := (HA11.out.below hE).cell 0 (.string (bs asc)) rfl; have yc1 := (HA11.out.below hE).cell 1 (.string (bs aho)) rfl; have yc2 := (HA11.out.below hE).cell 2 (.int .i64 apo) rfl; have yc3 := (HA11.out.below hE).cell 3 (.string (bs apa)) rfl; have yc4 := (HA11.out.below hE).cell 4 (.string (bs aqu)) rfl; have yc5 := (HA11.out.below hE).cell 5 (.bool ahq) rfl; have zc0 := (HB_11.out.below hE).cell 0 (.string (bs bsc)) rfl; have zc1 := (HB_11.out.below hE).cell 1 (.string (bs bho)) rfl; have zc2 := (HB_11.out.below hE).cell 2 (.int .i64 bpo) rfl; have zc3 := (HB_11.out.below hE).cell 3 (.string (bs bpa)) rfl; have zc4 := (HB_11.out.below hE).cell 4 (.string (bs bqu)) rfl; have zc5 := (HB_11.out.below hE).cell 5 (.bool bhq) rfl
              go_simp
              try with_reducible rfl
            simp only [Act.put, List.setIfInBounds_toArray, List.set_cons_zero, List.set_cons_succ]
          refine growS_call (wantedS G10.out rfl rfl) (fun K hK => ?_)
          go_simp
          refine (kawake_any _ (HE.out.bel (HB11.out.trans (HZ3_3.out.mono HB11.out.size)))).mono ?_
          rintro r z3_4 ⟨rfl, hb⟩
          have hz := HZ3_3.out.trans (hb.mono HZ3_3.out.size)
          refine hK.out _ _ hz ?_
          have HZ3_4 := Lib.hid hz
          clear hK K hb hz
          iterate 2
            refine growS_take (by rfl) ?_
            apply Exists.intro
            refine ⟨fun w' hE => ?_, ?_⟩
            · have hcmp := HEQ.out; have yc0 := (HA11.out.below hE).cell 0 (.string (bs asc)) rfl; have yc1 := (HA11.out.below hE).cell 1 (.string (bs aho)) rfl; have yc2 := (HA11.out.below hE).cell 2 (.int .i64 apo) rfl; have yc3 := (HA11.out.below hE).cell 3 (.string (bs apa)) rfl; have yc4 := (HA11.out.below hE).cell 4 (.string (bs aqu)) rfl; have yc5 := (HA11.out.below hE).cell 5 (.bool ahq) rfl; have zc0 := (HB_11.out.below hE).cell 0 (.string (bs bsc)) rfl; have zc1 := (HB_11.out.below hE).cell 1 (.string (bs bho)) rfl; have zc2 := (HB_11.out.below hE).cell 2 (.int .i64 bpo) rfl; have zc3 := (HB_11.out.below hE).cell 3 (.string (bs bpa)) rfl; have zc4 := (HB_11.out.below hE).cell 4 (.string (bs bqu)) rfl; have zc5 := (HB_11.out.below hE).cell 5 (.bool bhq) rfl
              go_simp
              try with_reducible rfl
            simp only [Act.put, List.setIfInBounds_toArray, List.set_cons_zero, List.set_cons_succ]
          refine growS_done (NoPanic.normal ?_)
          have HB12 := Lib.hid (HB11.out.trans (HZ3_4.out.mono HB11.out.size))
          have HA12 := Lib.hid (HA11.out.below HZ3_4.out)
          have HB_12 := Lib.hid (HB_11.out.below HZ3_4.out)
          have HN12 := Lib.hid (HN11.out.below HZ3_4.out)
          clear HB11 HA11 HB_11 HN11 HZ3_0 HZ3_1 HZ3_2 HZ3_3 HZ3_4
          go_wp2_with fail
          go_ret
          exact ⟨rfl, HB12.out⟩
        · have q1 : (cb != 0) = true := bne_iff_ne.2 hcb
          have q0 : ((0 : Int) != 0) = false := rfl
          clear hcb HPK HHN HKI HGA HHA HGB HNA HNB HCA HCB HEQ
          have hal : Below w.heap.size w (w.alloc (.cells #[.string (bs asc), .string (bs aho), .int .i64 apo, .string (bs apa), .string (bs aqu), .bool ahq] 23)) := (Below.refl _ _).alloc (Nat.le_refl _) _
          have HB1 := Lib.hid hal
          have hn := ubk.new w #[.string (bs asc), .string (bs aho), .int .i64 apo, .string (bs apa), .string (bs aqu), .bool ahq] 23
          have HA1 := Lib.hid hn; clear hn
          clear hal
          have hal : Below (w.alloc (.cells #[.string (bs asc), .string (bs aho), .int .i64 apo, .string (bs apa), .string (bs aqu), .bool ahq] 23)).heap.size (w.alloc (.cells #[.string (bs asc), .string (bs aho), .int .i64 apo, .string (bs apa), .string (bs aqu), .bool ahq] 23)) ((w.alloc (.cells #[.string (bs asc), .string (bs aho), .int .i64 apo, .string (bs apa), .string (bs aqu), .bool ahq] 23)).alloc (.cells #[.string (bs bsc), .string (bs bho), .int .i64 bpo, .string (bs bpa), .string (bs bqu), .bool bhq] 23)) := (Below.refl _ _).alloc (Nat.le_refl _) _
          have HB2 := Lib.hid (HB1.out.trans (hal.mono HB1.out.size))
          have HA2 := Lib.hid (HA1.out.alloc (.cells #[.string (bs bsc), .string (bs bho), .int .i64 bpo, .string (bs bpa), .string (bs bqu), .bool bhq] 23))
          have hn := ubk.new (w.alloc (.cells #[.string (bs asc), .string (bs aho), .int .i64 apo, .string (bs apa), .string (bs aqu), .bool ahq] 23)) #[.string (bs bsc), .string (bs bho), .int .i64 bpo, .string (bs bpa), .string (bs bqu), .bool bhq] 23
          rw [World.size_alloc] at hn
          have HB_2 := Lib.hid hn; clear hn
          clear hal HB1 HA1
          go_enter Tryz.func6, Tryz.ntmps6
          have ac0 := HA2.out.cell 0 (.string (bs asc)) rfl
          have ac1 := HA2.out.cell 1 (.string (bs aho)) rfl
          have ac2 := HA2.out.cell 2 (.int .i64 apo) rfl
          have ac3 := HA2.out.cell 3 (.string (bs apa)) rfl
          have ac4 := HA2.out.cell 4 (.string (bs aqu)) rfl
          have ac5 := HA2.out.cell 5 (.bool ahq) rfl
          go_wp2_with fail
          refine (HLA.out _).mono ?_
          rintro r w3 ⟨rfl, hb⟩
          have HB3 := Lib.hid (HB2.out.trans (hb.mono HB2.out.size))
          have HA3 := Lib.hid (HA2.out.below hb)
          have HB_3 := Lib.hid (HB_2.out.below hb)
          clear hb HB2 HA2 HB_2
          clear ac0 ac1 ac2 ac3 ac4 ac5
          have bc0 := HB_3.out.cell 0 (.string (bs bsc)) rfl
          have bc1 := HB_3.out.cell 1 (.string (bs bho)) rfl
          have bc2 := HB_3.out.cell 2 (.int .i64 bpo) rfl
          have bc3 := HB_3.out.cell 3 (.string (bs bpa)) rfl
          have bc4 := HB_3.out.cell 4 (.string (bs bqu)) rfl
          have bc5 := HB_3.out.cell 5 (.bool bhq) rfl
          go_wp2_with fail
          refine (HLB.out _).mono ?_
          rintro r w4 ⟨rfl, hb⟩
          have HB4 := Lib.hid (HB3.out.trans (hb.mono HB3.out.size))
          have HA4 := Lib.hid (HA3.out.below hb)
          have HB_4 := Lib.hid (HB_3.out.below hb)
          clear hb HB3 HA3 HB_3
          clear bc0 bc1 bc2 bc3 bc4 bc5
          have ac0 := HA4.out.cell 0 (.string (bs asc)) rfl
          have ac1 := HA4.out.cell 1 (.string (bs aho)) rfl
          have ac2 := HA4.out.cell 2 (.int .i64 apo) rfl
          have ac3 := HA4.out.cell 3 (.string (bs apa)) rfl
          have ac4 := HA4.out.cell 4 (.string (bs aqu)) rfl
          have ac5 := HA4.out.cell 5 (.bool ahq) rfl
          go_wp2_with fail
          refine (HCA2.out _ (HE.out.bel HB4.out)).mono ?_
          rintro r w5 ⟨rfl, hb⟩
          have HB5 := Lib.hid (HB4.out.trans (hb.mono HB4.out.size))
          have HA5 := Lib.hid (HA4.out.below hb)
          have HB_5 := Lib.hid (HB_4.out.below hb)
          clear hb HB4 HA4 HB_4
          clear ac0 ac1 ac2 ac3 ac4 ac5
          have bc0 := HB_5.out.cell 0 (.string (bs bsc)) rfl
          have bc1 := HB_5.out.cell 1 (.string (bs bho)) rfl
          have bc2 := HB_5.out.cell 2 (.int .i64 bpo) rfl
          have bc3 := HB_5.out.cell 3 (.string (bs bpa)) rfl
          have bc4 := HB_5.out.cell 4 (.string (bs bqu)) rfl
          have bc5 := HB_5.out.cell 5 (.bool bhq) rfl
          go_wp2_with fail
          refine (HCB2.out _ (HE.out.bel HB5.out)).mono ?_
          rintro r w6 ⟨rfl, hb⟩
          have HB6 := Lib.hid (HB5.out.trans (hb.mono HB5.out.size))
          have HA6 := Lib.hid (HA5.out.below hb)
          have HB_6 := Lib.hid (HB_5.out.below hb)
          clear hb HB5 HA5 HB_5
          clear bc0 bc1 bc2 bc3 bc4 bc5
          go_wp2_with fail
          refine (kawake_any _ (HE.out.bel HB6.out)).mono ?_
          rintro r w7 ⟨rfl, hb⟩
          have HB7 := Lib.hid (HB6.out.trans (hb.mono HB6.out.size))
          have HA7 := Lib.hid (HA6.out.below hb)
          have HB_7 := Lib.hid (HB_6.out.below hb)
          clear hb HB6 HA6 HB_6
          go_wp2_with fail
          go_ret
          exact ⟨rfl, HB7.out⟩
      · have q1 : (ca != 0) = true := bne_iff_ne.2 hca
        clear hca HPK HHN HKI HGA HHA HGB HNA HNB HCA HCB HEQ
        have hal : Below w.heap.size w (w.alloc (.cells #[.string (bs asc), .string (bs aho), .int .i64 apo, .string (bs apa), .string (bs aqu), .bool ahq] 23)) := (Below.refl _ _).alloc (Nat.le_refl _) _
        have HB1 := Lib.hid hal
        have hn := ubk.new w #[.string (bs asc), .string (bs aho), .int .i64 apo, .string (bs apa), .string (bs aqu), .bool ahq] 23
        have HA1 := Lib.hid hn; clear hn
        clear hal
        have hal : Below (w.alloc (.cells #[.string (bs asc), .string (bs aho), .int .i64 apo, .string (bs apa), .string (bs aqu), .bool ahq] 23)).heap.size (w.alloc (.cells #[.string (bs asc), .string (bs aho), .int .i64 apo, .string (bs apa), .string (bs aqu), .bool ahq] 23)) ((w.alloc (.cells #[.string (bs asc), .string (bs aho), .int .i64 apo, .string (bs apa), .string (bs aqu), .bool ahq] 23)).alloc (.cells #[.string (bs bsc), .string (bs bho), .int .i64 bpo, .string (bs bpa), .string (bs bqu), .bool bhq] 23)) := (Below.refl _ _).alloc (Nat.le_refl _) _
        have HB2 := Lib.hid (HB1.out.trans (hal.mono HB1.out.size))
        have HA2 := Lib.hid (HA1.out.alloc (.cells #[.string (bs bsc), .string (bs bho), .int .i64 bpo, .string (bs bpa), .string (bs bqu), .bool bhq] 23))
        have hn := ubk.new (w.alloc (.cells #[.string (bs asc), .string (bs aho), .int .i64 apo, .string (bs apa), .string (bs aqu), .bool ahq] 23)) #[.string (bs bsc), .string (bs bho), .int .i64 bpo, .string (bs bpa), .string (bs bqu), .bool bhq] 23
        rw [World.size_alloc] at hn
        have HB_2 := Lib.hid hn; clear hn
        clear hal HB1 HA1
        go_enter Tryz.func6, Tryz.ntmps6
        have ac0 := HA2.out.cell 0 (.string (bs asc)) rfl
        have ac1 := HA2.out.cell 1 (.string (bs aho)) rfl
        have ac2 := HA2.out.cell 2 (.int .i64 apo) rfl
        have ac3 := HA2.out.cell 3 (.string (bs apa)) rfl
        have ac4 := HA2.out.cell 4 (.string (bs aqu)) rfl
        have ac5 := HA2.out.cell 5 (.bool ahq) rfl
        go_wp2_with fail
        refine (HLA.out _).mono ?_
        rintro r w3 ⟨rfl, hb⟩
        have HB3 := Lib.hid (HB2.out.trans (hb.mono HB2.out.size))
        have HA3 := Lib.hid (HA2.out.below hb)
        have HB_3 := Lib.hid (HB_2.out.below hb)
        clear hb HB2 HA2 HB_2
        clear ac0 ac1 ac2 ac3 ac4 ac5
        have bc0 := HB_3.out.cell 0 (.string (bs bsc)) rfl
        have bc1 := HB_3.out.cell 1 (.string (bs bho)) rfl
        have bc2 := HB_3.out.cell 2 (.int .i64 bpo) rfl
        have bc3 := HB_3.out.cell 3 (.string (bs bpa)) rfl
        have bc4 := HB_3.out.cell 4 (.string (bs bqu)) rfl
        have bc5 := HB_3.out.cell 5 (.bool bhq) rfl
        go_wp2_with fail
        refine (HLB.out _).mono ?_
        rintro r w4 ⟨rfl, hb⟩
        have HB4 := Lib.hid (HB3.out.trans (hb.mono HB3.out.size))
        have HA4 := Lib.hid (HA3.out.below hb)
        have HB_4 := Lib.hid (HB_3.out.below hb)
        clear hb HB3 HA3 HB_3
        clear bc0 bc1 bc2 bc3 bc4 bc5
        have ac0 := HA4.out.cell 0 (.string (bs asc)) rfl
        have ac1 := HA4.out.cell 1 (.string (bs aho)) rfl
        have ac2 := HA4.out.cell 2 (.int .i64 apo) rfl
        have ac3 := HA4.out.cell 3 (.string (bs apa)) rfl
        have ac4 := HA4.out.cell 4 (.string (bs aqu)) rfl
        have ac5 := HA4.out.cell 5 (.bool ahq) rfl
        go_wp2_with fail
        refine (HCA2.out _ (HE.out.bel HB4.out)).mono ?_
        rintro r w5 ⟨rfl, hb⟩
        have HB5 := Lib.hid (HB4.out.trans (hb.mono HB4.out.size))
        have HA5 := Lib.hid (HA4.out.below hb)
        have HB_5 := Lib.hid (HB_4.out.below hb)
        clear hb HB4 HA4 HB_4
        clear ac0 ac1 ac2 ac3 ac4 ac5
        go_wp2_with fail
        refine (kawake_any _ (HE.out.bel HB5.out)).mono ?_
        rintro r w6 ⟨rfl, hb⟩
        have HB6 := Lib.hid (HB5.out.trans (hb.mono HB5.out.size))
        have HA6 := Lib.hid (HA5.out.below hb)
        have HB_6 := Lib.hid (HB_5.out.below hb)
        clear hb HB5 HA5 HB_5
        go_wp2_with fail
        go_ret
        exact ⟨rfl, HB6.out⟩
    · clear HPK HHN HKI HGA HHA HGB HNA HNB HCA HCB HEQ
      have hal : Below w.heap.size w (w.alloc (.cells #[.string (bs asc), .string (bs aho), .int .i64 apo, .string (bs apa), .string (bs aqu), .bool ahq] 23)) := (Below.refl _ _).alloc (Nat.le_refl _) _
      have HB1 := Lib.hid hal
      have hn := ubk.new w #[.string (bs asc), .string (bs aho), .int .i64 apo, .string (bs apa), .string (bs aqu), .bool ahq] 23
      have HA1 := Lib.hid hn; clear hn
      clear hal
      have hal : Below (w.alloc (.cells #[.string (bs asc), .string (bs aho), .int .i64 apo, .string (bs apa), .string (bs aqu), .bool ahq] 23)).heap.size (w.alloc (.cells #[.string (bs asc), .string (bs aho), .int .i64 apo, .string (bs apa), .string (bs aqu), .bool ahq] 23)) ((w.alloc (.cells #[.string (bs asc), .string (bs aho), .int .i64 apo, .string (bs apa), .string (bs aqu), .bool ahq] 23)).alloc (.cells #[.string (bs bsc), .string (bs bho), .int .i64 bpo, .string (bs bpa), .string (bs bqu), .bool bhq] 23)) := (Below.refl _ _).alloc (Nat.le_refl _) _
      have HB2 := Lib.hid (HB1.out.trans (hal.mono HB1.out.size))
      have HA2 := Lib.hid (HA1.out.alloc (.cells #[.string (bs bsc), .string (bs bho), .int .i64 bpo, .string (bs bpa), .string (bs bqu), .bool bhq] 23))
      have hn := ubk.new (w.alloc (.cells #[.string (bs asc), .string (bs aho), .int .i64 apo, .string (bs apa), .string (bs aqu), .bool ahq] 23)) #[.string (bs bsc), .string (bs bho), .int .i64 bpo, .string (bs bpa), .string (bs bqu), .bool bhq] 23
      rw [World.size_alloc] at hn
      have HB_2 := Lib.hid hn; clear hn
      clear hal HB1 HA1
      go_enter Tryz.func6, Tryz.ntmps6
      have ac0 := HA2.out.cell 0 (.string (bs asc)) rfl
      have ac1 := HA2.out.cell 1 (.string (bs aho)) rfl
      have ac2 := HA2.out.cell 2 (.int .i64 apo) rfl
      have ac3 := HA2.out.cell 3 (.string (bs apa)) rfl
      have ac4 := HA2.out.cell 4 (.string (bs aqu)) rfl
      have ac5 := HA2.out.cell 5 (.bool ahq) rfl
      go_wp2_with fail
      refine (HLA.out _).mono ?_
      rintro r w3 ⟨rfl, hb⟩
      have HB3 := Lib.hid (HB2.out.trans (hb.mono HB2.out.size))
      have HA3 := Lib.hid (HA2.out.below hb)
      have HB_3 := Lib.hid (HB_2.out.below hb)
      clear hb HB2 HA2 HB_2
      clear ac0 ac1 ac2 ac3 ac4 ac5
      have bc0 := HB_3.out.cell 0 (.string (bs bsc)) rfl
      have bc1 := HB_3.out.cell 1 (.string (bs bho)) rfl
      have bc2 := HB_3.out.cell 2 (.int .i64 bpo) rfl
      have bc3 := HB_3.out.cell 3 (.string (bs bpa)) rfl
      have bc4 := HB_3.out.cell 4 (.string (bs bqu)) rfl
      have bc5 := HB_3.out.cell 5 (.bool bhq) rfl
      go_wp2_with fail
      refine (HLB.out _).mono ?_
      rintro r w4 ⟨rfl, hb⟩
      have HB4 := Lib.hid (HB3.out.trans (hb.mono HB3.out.size))
      have HA4 := Lib.hid (HA3.out.below hb)
      have HB_4 := Lib.hid (HB_3.out.below hb)
      clear hb HB3 HA3 HB_3
      clear bc0 bc1 bc2 bc3 bc4 bc5
      go_wp2_with fail
      refine (kawake_any _ (HE.out.bel HB4.out)).mono ?_
      rintro r w5 ⟨rfl, hb⟩
      have HB5 := Lib.hid (HB4.out.trans (hb.mono HB4.out.size))
      have HA5 := Lib.hid (HA4.out.below hb)
      have HB_5 := Lib.hid (HB_4.out.below hb)
      clear hb HB4 HA4 HB_4
      go_wp2_with fail
      go_ret
      exact ⟨rfl, HB5.out⟩
  · clear HPK HHN HKI HGA HHA HGB HNA HNB HCA HCB HEQ
    have hal : Below w.heap.size w (w.alloc (.cells #[.string (bs asc), .string (bs aho), .int .i64 apo, .string (bs apa), .string (bs aqu), .bool ahq] 23)) := (Below.refl _ _).alloc (Nat.le_refl _) _
    have HB1 := Lib.hid hal
    have hn := ubk.new w #[.string (bs asc), .string (bs aho), .int .i64 apo, .string (bs apa), .string (bs aqu), .bool ahq] 23
    have HA1 := Lib.hid hn; clear hn
    clear hal
    have hal : Below (w.alloc (.cells #[.string (bs asc), .string (bs aho), .int .i64 apo, .string (bs apa), .string (bs aqu), .bool ahq] 23)).heap.size (w.alloc (.cells #[.string (bs asc), .string (bs aho), .int .i64 apo, .string (bs apa), .string (bs aqu), .bool ahq] 23)) ((w.alloc (.cells #[.string (bs asc), .string (bs aho), .int .i64 apo, .string (bs apa), .string (bs aqu), .bool ahq] 23)).alloc (.cells #[.string (bs bsc), .string (bs bho), .int .i64 bpo, .string (bs bpa), .string (bs bqu), .bool bhq] 23)) := (Below.refl _ _).alloc (Nat.le_refl _) _
    have HB2 := Lib.hid (HB1.out.trans (hal.mono HB1.out.size))
    have HA2 := Lib.hid (HA1.out.alloc (.cells #[.string (bs bsc), .string (bs bho), .int .i64 bpo, .string (bs bpa), .string (bs bqu), .bool bhq] 23))
    have hn := ubk.new (w.alloc (.cells #[.string (bs asc), .string (bs aho), .int .i64 apo, .string (bs apa), .string (bs aqu), .bool ahq] 23)) #[.string (bs bsc), .string (bs bho), .int .i64 bpo, .string (bs bpa), .string (bs bqu), .bool bhq] 23
    rw [World.size_alloc] at hn
    have HB_2 := Lib.hid hn; clear hn
    clear hal HB1 HA1
    go_enter Tryz.func6, Tryz.ntmps6
    have ac0 := HA2.out.cell 0 (.string (bs asc)) rfl
    have ac1 := HA2.out.cell 1 (.string (bs aho)) rfl
    have ac2 := HA2.out.cell 2 (.int .i64 apo) rfl
    have ac3 := HA2.out.cell 3 (.string (bs apa)) rfl
    have ac4 := HA2.out.cell 4 (.string (bs aqu)) rfl
    have ac5 := HA2.out.cell 5 (.bool ahq) rfl
    go_wp2_with fail
    refine (HLA.out _).mono ?_
    rintro r w3 ⟨rfl, hb⟩
    have HB3 := Lib.hid (HB2.out.trans (hb.mono HB2.out.size))
    have HA3 := Lib.hid (HA2.out.below hb)
    have HB_3 := Lib.hid (HB_2.out.below hb)
    clear hb HB2 HA2 HB_2
    clear ac0 ac1 ac2 ac3 ac4 ac5
    go_wp2_with fail
    refine (kawake_any _ (HE.out.bel HB3.out)).mono ?_
    rintro r w4 ⟨rfl, hb⟩
    have HB4 := Lib.hid (HB3.out.trans (hb.mono HB3.out.size))
    have HA4 := Lib.hid (HA3.out.below hb)
    have HB_4 := Lib.hid (HB_3.out.below hb)
    clear hb HB3 HA3 HB_3
    go_wp2_with fail
    go_ret
    exact ⟨rfl, HB4.out⟩
end Go.Proofs.YtnpiaifkeddjeaaGreatDoor
