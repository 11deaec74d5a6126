/- The statement FreshGoes. -/
import Derived.Test.YthjgedafcihheaaGreatDoorKFreH
namespace Go.Proofs.YthjgedafcihheaaGreatDoor
open Go.RowKit


variable {st mi asked got Y : Int} {re bo : ByteArray} {fs : Value} {vA : Option Addr} {vn vc : Nat} {l : List Fld}

set_option maxRecDepth 100000 in
set_option maxHeartbeats 8000000 in
theorem freshGoes_law (x y : Int) (S : ByteArray) (w : World) (hin : InN w fs l asked got) (hsz : ∀ j (hj : j < l.length), l[j].1.length ≤ 140737488351232 ∧ l[j].2.length ≤ 140737488351232) (hx0 : (Lit.int .u64 x).wf = true) (hy0 : (Lit.int .u64 y).wf = true) (hS : S.size ≤ maxLen) (hm : MaxD w) (ht : Tabs w) :
    Calls Tryz.prog 6 #[.agg #[.int .i64 st, .string re, .int .i64 mi, fs, .string bo, .int .i64 asked, .int .i64 got, .slice vA vn vc], .agg #[.int .u64 x, .int .u64 y], .string S] w fun e w' => e = .returned (.bool true) ∧ Below w.heap.size w w' := by
  obtain ⟨dev, rfl⟩ : ∃ dev, S = bs dev := ⟨S.data.toList, rfl⟩
  rw [bs_size] at hS
  have hx1 : Below w.heap.size w (w.alloc (.cells #[.int .i64 st, .string re, .int .i64 mi, fs, .string bo, .int .i64 asked, .int .i64 got, .slice vA vn vc] 26)) := (Below.refl _ _).alloc (Nat.le_refl _) _
  have hx : Below w.heap.size w ((w.alloc (.cells #[.int .i64 st, .string re, .int .i64 mi, fs, .string bo, .int .i64 asked, .int .i64 got, .slice vA vn vc] 26)).alloc (.cells #[.int .u64 x, .int .u64 y] 39)) := hx1.alloc hx1.size _
  have hd := (dbk.new w #[.int .i64 st, .string re, .int .i64 mi, fs, .string bo, .int .i64 asked, .int .i64 got, .slice vA vn vc] 26).alloc (.cells #[.int .u64 x, .int .u64 y] 39)
  have hdw := dbk.new (w.alloc (.cells #[.int .i64 st, .string re, .int .i64 mi, fs, .string bo, .int .i64 asked, .int .i64 got, .slice vA vn vc] 26)) #[.int .u64 x, .int .u64 y] 39
  rw [World.size_alloc] at hdw
  have HF := Lib.hid (fewE_any (st := st) (mi := mi) (re := re) (bo := bo) (vA := vA) (vn := vn) (vc := vc) (asked := asked) (got := got) ((w.alloc (.cells #[.int .i64 st, .string re, .int .i64 mi, fs, .string bo, .int .i64 asked, .int .i64 got, .slice vA vn vc] 26)).alloc (.cells #[.int .u64 x, .int .u64 y] 39)) (hin.fl.bel hx) hsz hin.len)
  have HX := Lib.hid hx; have HM := Lib.hid hm; have HT := Lib.hid ht; have HD := Lib.hid hd; have HDW := Lib.hid hdw
  obtain ⟨a0, a1⟩ := i64_bd hin.wa
  have hfl := hin.fl
  have x0 := u64_bd hx0
  have y0 := u64_bd hy0
  clear hx0 hy0 hx1 hd hdw hx
  unfold maxLen at hS
  cases hq : fewE l
  · rw [hq] at HF
    clear hq hin hsz hm ht hfl x0 y0
    go_enter Tryz.func6, Tryz.ntmps6
    go_wp2_with fail
    refine HF.out.mono ?_
    rintro e w1 ⟨rfl, hb⟩
    have HB1 := Lib.hid (HX.out.trans (hb.mono HX.out.size)); clear hb
    go_wp2_with fail
    refine (awake_any _ (HM.out.bel HB1.out) (HT.out.below HB1.out)).mono ?_
    rintro e w2 ⟨rfl, hb⟩
    have HB2 := Lib.hid (HB1.out.trans (hb.mono HB1.out.size)); clear hb
    go_wp2_with fail
    go_ret
    exact ⟨rfl, HB2.out⟩
  · rw [hq] at HF
    have hfe := fewE_fe hq
    by_cases h3 : 500 < dev.length
    · have hi : (500 : Int) < (dev.length : Int) := by omega
      clear hq hin hsz hm ht hfl x0 y0
      go_enter Tryz.func6, Tryz.ntmps6
      go_wp2_with fail
      refine HF.out.mono ?_
      rintro e w1 ⟨rfl, hb⟩
      have HB1 := Lib.hid (HX.out.trans (hb.mono HX.out.size)); clear hb
      go_wp2_with fail
      refine (awake_any _ (HM.out.bel HB1.out) (HT.out.below HB1.out)).mono ?_
      rintro e w2 ⟨rfl, hb⟩
      have HB2 := Lib.hid (HB1.out.trans (hb.mono HB1.out.size)); clear hb
      go_wp2_with fail
      go_ret
      exact ⟨rfl, HB2.out⟩
    · have hi : ¬ (500 : Int) < (dev.length : Int) := by omega
      have hgx : ∀ G, -4611686018427387904 ≤ G → G ≤ 4611686018427387904 → ∃ Y, ∀ W, Below w.heap.size w W → EnW W fs l asked G Y := fun G h1 h2 => by
        obtain ⟨Y, mm, dd, hh, ii, ss, HY⟩ := clamp_ex G
        exact ⟨Y, fun W hb => ⟨hfl.bel hb, hfe, hm.bel hb, ht.below hb, ⟨_, _, _, _, _, HY⟩, a0, a1, by omega, by omega⟩⟩
      have HGX := Lib.hid hgx
      clear hq hin hsz hm ht hfl hfe hgx h3
      go_enter Tryz.func6, Tryz.ntmps6
      go_wp2_with fail
      refine HF.out.mono ?_
      rintro e C ⟨rfl, hb⟩
      have hde := HD.out.below hb; have hdw := HDW.out.below hb
      have c6 := hde.cell 6 _ rfl
      have f6 := hde.free 6
      have d0 := hdw.cell 0 _ rfl
      have d1 := hdw.cell 1 _ rfl
      have hset := hde.set 6 (.int .i64 (max (-4611686018427387904) (min got 4611686018427387904)))
      simp only [List.setIfInBounds_toArray, List.set_cons_zero, List.set_cons_succ] at hset
      have hbl := (HX.out.trans (hb.mono HX.out.size)).setCell (p := ⟨w.heap.size, 6, none⟩) (Nat.le_refl _) (.int .i64 (max (-4611686018427387904) (min got 4611686018427387904)))
      have HB1 := Lib.hid hbl; have HD1 := Lib.hid hset
      clear hb HF HX HD HDW hde hdw hset hbl
      go_wp2_with fail
      clear c6 f6 d0 d1
      generalize C.setCell ⟨w.heap.size, 6, none⟩ (.int .i64 (max (-4611686018427387904) (min got 4611686018427387904))) = C at *
      obtain ⟨G, hG, g0, g1⟩ : ∃ G, G = max (-4611686018427387904) (min got 4611686018427387904) ∧ -4611686018427387904 ≤ G ∧ G ≤ 4611686018427387904 := ⟨_, rfl, by omega, by omega⟩
      rw [← hG] at HD1 ⊢
      clear hG
      obtain ⟨a, ha, h1, ha2⟩ : ∃ a, a = G + x % 1099511627776 ∧ G ≤ a ∧ a ≤ 9000000000000000000 := ⟨_, rfl, by omega, by omega⟩
      rw [← ha]
      clear ha
      obtain ⟨b, hb, h2, hb2⟩ : ∃ b, b = a + y % 1099511627776 ∧ a ≤ b ∧ b ≤ 9100000000000000000 := ⟨_, rfl, by omega, by omega⟩
      rw [← hb]
      clear hb x0 y0
      obtain ⟨Y, hen⟩ := HGX.out G g0 g1
      have HEN := Lib.hid hen
      clear hen HGX
      have hw1 : IntKind.i64.wrap (G - 1) = G - 1 := IntWalk.i64_in _ (by omega)
      have hage := fun n W (h : EnW W fs l asked G Y) (hn : n ≤ 9223372036854775807) => age_any (st := st) (mi := mi) (re := re) (bo := bo) (vA := vA) (vn := vn) (vc := vc) n W h hn
      have hfr := fun n W (h : EnW W fs l asked G Y) (hn : n ≤ 9223372036854775807) => fresh_any (st := st) (mi := mi) (re := re) (bo := bo) (vA := vA) (vn := vn) (vc := vc) n dev W h hn
      have hli := fun W (h : EnW W fs l asked G Y) => life_any (st := st) (mi := mi) (re := re) (bo := bo) (vA := vA) (vn := vn) (vc := vc) dev W h
      have HAA := Lib.hid (fun W h => hage a W h (by omega)); have HAB := Lib.hid (fun W h => hage b W h (by omega)); have HAG := Lib.hid (fun W h => hage G W h (by omega)); have HAH := Lib.hid (fun W h => hage (G - 1) W h (by omega))
      have HFA := Lib.hid (fun W h => hfr a W h (by omega)); have HFB := Lib.hid (fun W h => hfr b W h (by omega)); have HFG := Lib.hid (fun W h => hfr G W h (by omega)); have HLI := Lib.hid hli
      have e1 := age_goes Y l asked G a b h1 h2
      have e2 := age_rises Y l asked G a b h2
      have e3 := age_rises Y l asked G G a h1
      have e4 := age_ahead Y l asked G
      have e5 := age_bd Y l asked G a
      have e6 := age_bd Y l asked G b
      have e7 := life_bd Y l G dev
      have HSI := Lib.hid (fun W => since_any a b W (by omega) (by omega))
      clear hage hfr hli
      generalize ageI Y l asked G a = XA at *
      generalize ageI Y l asked G b = XB at *
      generalize ageI Y l asked G G = XG at *
      generalize ageI Y l asked G (G - 1) = XH at *
      generalize lifeI Y l G dev = N at *
      subst e4
      have HE1 := Lib.hid e1
      clear e1 h1 h2 ha2 hb2
      refine wp_region_growS (.one 0 false (.one 1 false (.one 3 false (.one 4 false (.one 2 true (.one 5 true (.one 6 false (.one 7 false .done))))))))
        (fun W => Below C.heap.size C W) (by kernel_rfl) (by kernel_rfl) rfl (by kernel_rfl) (by kernel_rfl) ((Below.refl _ _).drew) (fun ops hops => ?_)
      simp only [GT.ins, List.getD_cons_zero, List.getD_cons_succ]
      clear hops
      iterate 4
        refine growS_take (by rfl) ?_
        apply Exists.intro
        refine ⟨fun w' hE => ?_, ?_⟩
        · obtain ⟨y0, y1, y2, y3, y4, y5, y6, y7⟩ := (HD1.out.below hE).eight
          go_simp
          try with_reducible rfl
        simp only [Act.put, List.setIfInBounds_toArray, List.set_cons_zero, List.set_cons_succ]
      refine growS_call (by rfl) (fun K hK => ?_)
      go_simp
      refine (HAA.out _ (HEN.out _ (HB1.out.trans (((Below.refl _ _).drew : Below C.heap.size C C.drew).mono HB1.out.size)))).mono ?_
      rintro e x1 ⟨rfl, hb⟩
      have hz : Below C.heap.size C x1 := ((Below.refl _ _).drew : Below C.heap.size C C.drew).trans (hb.mono ((Below.refl _ _).drew : Below C.heap.size C C.drew).size)
      have HZ1 := Lib.hid hz
      refine hK.out _ _ hz ?_
      clear hK K hb hz
      refine growS_call (by rfl) (fun K hK => ?_)
      go_simp
      refine (HAB.out _ (HEN.out _ (HB1.out.trans (HZ1.out.mono HB1.out.size)))).mono ?_
      rintro e x2 ⟨rfl, hb⟩
      have hz : Below C.heap.size C x2 := HZ1.out.trans (hb.mono HZ1.out.size)
      have HZ2 := Lib.hid hz
      refine hK.out _ _ hz ?_
      clear hK K hb hz HZ1
      iterate 2
        refine growS_take (by rfl) ?_
        apply Exists.intro
        refine ⟨fun w' hE => ?_, ?_⟩
        · obtain ⟨y0, y1, y2, y3, y4, y5, y6, y7⟩ := (HD1.out.below hE).eight
          go_simp
          try with_reducible rfl
        simp only [Act.put, List.setIfInBounds_toArray, List.set_cons_zero, List.set_cons_succ]
      refine growS_done (NoPanic.normal ?_)
      have HB2 := Lib.hid (HB1.out.trans (HZ2.out.mono HB1.out.size)); have HD2 := Lib.hid (HD1.out.below HZ2.out)
      clear HB1 HD1 HZ2
      obtain ⟨k0, k1, k2, k3, k4, k5, k6, k7⟩ := HD2.out.eight
      have n1 : ¬ XA < 0 := by omega
      have n2 : ¬ 2147483648 < XB := by omega
      have n3 : (XB != XB) = false := by simp
      have n4 : ¬ N < 0 := by omega
      have n5 : ¬ 2147483648 < N := by omega
      go_wp2_with fail
      refine (HSI.out _).mono ?_
      rintro e wx ⟨rfl, rfl⟩
      go_wp2_with fail
      refine (tadd_any _ _ _).mono ?_
      rw [← HE1.out]
      rintro e wx ⟨rfl, rfl⟩
      go_wp2_with fail
      refine (HLI.out _ (HEN.out _ HB2.out)).mono ?_
      rintro e w3 ⟨rfl, hb⟩
      have HB3 := Lib.hid (HB2.out.trans (hb.mono HB2.out.size)); have HD3 := Lib.hid (HD2.out.below hb)
      clear hb HB2 HD2 k0 k1 k2 k3 k4 k5 k6 k7
      obtain ⟨k0, k1, k2, k3, k4, k5, k6, k7⟩ := HD3.out.eight
      go_wp2_with fail
      refine (HFB.out _ (HEN.out _ HB3.out)).mono ?_
      by_cases hlt : XB < N
      · rw [decide_eq_true hlt]
        rintro e w4 ⟨rfl, hb⟩
        have HB4 := Lib.hid (HB3.out.trans (hb.mono HB3.out.size)); have HD4 := Lib.hid (HD3.out.below hb)
        clear hb HB3 HD3 k0 k1 k2 k3 k4 k5 k6 k7
        obtain ⟨k0, k1, k2, k3, k4, k5, k6, k7⟩ := HD4.out.eight
        go_wp2_with fail
        refine (HFA.out _ (HEN.out _ HB4.out)).mono ?_
        rw [decide_eq_true (show XA < N by omega)]
        rintro e w5 ⟨rfl, hb⟩
        have HB5 := Lib.hid (HB4.out.trans (hb.mono HB4.out.size)); have HD5 := Lib.hid (HD4.out.below hb)
        clear hb HB4 HD4 k0 k1 k2 k3 k4 k5 k6 k7
        obtain ⟨k0, k1, k2, k3, k4, k5, k6, k7⟩ := HD5.out.eight
        go_wp2_with fail
        refine (HFG.out _ (HEN.out _ HB5.out)).mono ?_
        rw [decide_eq_true (show XH < N by omega)]
        rintro e w6 ⟨rfl, hb⟩
        have HB1 := Lib.hid (HB5.out.trans (hb.mono HB5.out.size)); have HD1 := Lib.hid (HD5.out.below hb)
        clear hb HB5 HD5 k0 k1 k2 k3 k4 k5 k6 k7
        have hN : 0 < N := by omega
        go_wp2_with fail
        obtain ⟨C, hC⟩ : ∃ C, C = w6 := ⟨_, rfl⟩
        subst hC
        refine wp_region_growS (.one 0 false (.one 1 false (.one 2 false (.one 3 false (.one 4 false (.one 5 false (.one 6 true (.one 7 false (.one 8 false (.one 9 false (.one 10 false (.one 11 false (.one 12 false (.one 13 false (.one 15 false (.one 16 false (.one 17 false (.one 14 true (.one 18 true (.one 19 false (.one 20 false (.one 21 false (.one 22 true (.one 23 false (.one 24 false .done)))))))))))))))))))))))))
          (fun W => Below C.heap.size C W) (by kernel_rfl) (by kernel_rfl) rfl (by kernel_rfl) (by kernel_rfl) ((Below.refl _ _).drew) (fun ops hops => ?_)
        simp only [GT.ins, List.getD_cons_zero, List.getD_cons_succ]
        have g2 : (ops[2]?).bind (·.dst) = some 92 := by rw [hops.out]; rfl
        have g9 : (ops[9]?).bind (·.dst) = some 99 := by rw [hops.out]; rfl
        have g21 : (ops[21]?).bind (·.dst) = some 111 := by rw [hops.out]; rfl
        have G2 := Lib.hid g2
        have G9 := Lib.hid g9
        have G21 := Lib.hid g21
        clear hops g2 g9 g21
        iterate 3
          refine growS_take (by rfl) ?_
          apply Exists.intro
          refine ⟨fun w' hE => ?_, ?_⟩
          · obtain ⟨y0, y1, y2, y3, y4, y5, y6, y7⟩ := (HD1.out.below hE).eight
            go_simp
            try with_reducible rfl
          simp only [Act.put, List.setIfInBounds_toArray, List.set_cons_zero, List.set_cons_succ]
        refine growS_skip (unwantedS G2.out rfl rfl) ?_
        simp only [Act.put, List.setIfInBounds_toArray, List.set_cons_zero, List.set_cons_succ]
        refine growS_skip (unwantedS G2.out rfl rfl) ?_
        simp only [Act.put, List.setIfInBounds_toArray, List.set_cons_zero, List.set_cons_succ]
        refine growS_skip (unwantedS G2.out rfl rfl) ?_
        simp only [Act.put, List.setIfInBounds_toArray, List.set_cons_zero, List.set_cons_succ]
        refine growS_skip (unwantedS G2.out rfl rfl) ?_
        simp only [Act.put, List.setIfInBounds_toArray, List.set_cons_zero, List.set_cons_succ]
        refine growS_skip (unwantedS G2.out rfl rfl) ?_
        simp only [Act.put, List.setIfInBounds_toArray, List.set_cons_zero, List.set_cons_succ]
        iterate 2
          refine growS_take (by rfl) ?_
          apply Exists.intro
          refine ⟨fun w' hE => ?_, ?_⟩
          · obtain ⟨y0, y1, y2, y3, y4, y5, y6, y7⟩ := (HD1.out.below hE).eight
            go_simp
            try with_reducible rfl
          simp only [Act.put, List.setIfInBounds_toArray, List.set_cons_zero, List.set_cons_succ]
        iterate 7
          refine growS_take (wantedS G9.out rfl rfl) ?_
          apply Exists.intro
          refine ⟨fun w' hE => ?_, ?_⟩
          · obtain ⟨y0, y1, y2, y3, y4, y5, y6, y7⟩ := (HD1.out.below hE).eight
            go_simp
            try with_reducible rfl
          simp only [Act.put, List.setIfInBounds_toArray, List.set_cons_zero, List.set_cons_succ]
        refine growS_call (wantedS G9.out rfl rfl) (fun K hK => ?_)
        go_simp
        refine (HAH.out _ (HEN.out _ (HB1.out.trans (((Below.refl _ _).drew : Below C.heap.size C C.drew).mono HB1.out.size)))).mono ?_
        rintro e x1 ⟨rfl, hb⟩
        have hz : Below C.heap.size C x1 := ((Below.refl _ _).drew : Below C.heap.size C C.drew).trans (hb.mono ((Below.refl _ _).drew : Below C.heap.size C C.drew).size)
        have HZ1 := Lib.hid hz
        refine hK.out _ _ hz ?_
        clear hK K hb hz
        refine growS_call (wantedS G9.out rfl rfl) (fun K hK => ?_)
        go_simp
        refine (HAG.out _ (HEN.out _ (HB1.out.trans (HZ1.out.mono HB1.out.size)))).mono ?_
        rintro e x2 ⟨rfl, hb⟩
        have hz : Below C.heap.size C x2 := HZ1.out.trans (hb.mono HZ1.out.size)
        have HZ2 := Lib.hid hz
        refine hK.out _ _ hz ?_
        clear hK K hb hz HZ1
        iterate 1
          refine growS_take (wantedS G9.out rfl rfl) ?_
          apply Exists.intro
          refine ⟨fun w' hE => ?_, ?_⟩
          · obtain ⟨y0, y1, y2, y3, y4, y5, y6, y7⟩ := (HD1.out.below hE).eight
            go_simp
            try with_reducible rfl
          simp only [Act.put, List.setIfInBounds_toArray, List.set_cons_zero, List.set_cons_succ]
        iterate 2
          refine growS_take (by rfl) ?_
          apply Exists.intro
          refine ⟨fun w' hE => ?_, ?_⟩
          · obtain ⟨y0, y1, y2, y3, y4, y5, y6, y7⟩ := (HD1.out.below hE).eight
            go_simp
            try with_reducible rfl
          simp only [Act.put, List.setIfInBounds_toArray, List.set_cons_zero, List.set_cons_succ]
        refine growS_call (wantedS G21.out rfl rfl) (fun K hK => ?_)
        go_simp
        refine (awake_any _ (HM.out.bel (HB1.out.trans (HZ2.out.mono HB1.out.size))) (HT.out.below (HB1.out.trans (HZ2.out.mono HB1.out.size)))).mono ?_
        rintro e x3 ⟨rfl, hb⟩
        have hz : Below C.heap.size C x3 := HZ2.out.trans (hb.mono HZ2.out.size)
        have HZ3 := Lib.hid hz
        refine hK.out _ _ hz ?_
        clear hK K hb hz HZ2
        iterate 2
          refine growS_take (by rfl) ?_
          apply Exists.intro
          refine ⟨fun w' hE => ?_, ?_⟩
          · obtain ⟨y0, y1, y2, y3, y4, y5, y6, y7⟩ := (HD1.out.below hE).eight
            go_simp
            try with_reducible rfl
          simp only [Act.put, List.setIfInBounds_toArray, List.set_cons_zero, List.set_cons_succ]
        refine growS_done (NoPanic.normal ?_)
        go_wp2_with fail
        go_ret
        exact ⟨rfl, HB1.out.trans (HZ3.out.mono HB1.out.size)⟩
      · rw [decide_eq_false hlt]
        rintro e w4 ⟨rfl, hb⟩
        have HB1 := Lib.hid (HB3.out.trans (hb.mono HB3.out.size)); have HD1 := Lib.hid (HD3.out.below hb)
        clear hb HB3 HD3 k0 k1 k2 k3 k4 k5 k6 k7
        by_cases hN : 0 < N
        · go_wp2_with fail
          obtain ⟨C, hC⟩ : ∃ C, C = w4 := ⟨_, rfl⟩
          subst hC
          refine wp_region_growS (.one 0 false (.one 1 false (.one 2 false (.one 3 false (.one 4 false (.one 5 false (.one 6 true (.one 7 false (.one 8 false (.one 9 false (.one 10 false (.one 11 false (.one 12 false (.one 13 false (.one 15 false (.one 16 false (.one 17 false (.one 14 true (.one 18 true (.one 19 false (.one 20 false (.one 21 false (.one 22 true (.one 23 false (.one 24 false .done)))))))))))))))))))))))))
            (fun W => Below C.heap.size C W) (by kernel_rfl) (by kernel_rfl) rfl (by kernel_rfl) (by kernel_rfl) ((Below.refl _ _).drew) (fun ops hops => ?_)
          simp only [GT.ins, List.getD_cons_zero, List.getD_cons_succ]
          have g2 : (ops[2]?).bind (·.dst) = some 92 := by rw [hops.out]; rfl
          have g9 : (ops[9]?).bind (·.dst) = some 99 := by rw [hops.out]; rfl
          have g21 : (ops[21]?).bind (·.dst) = some 111 := by rw [hops.out]; rfl
          have G2 := Lib.hid g2
          have G9 := Lib.hid g9
          have G21 := Lib.hid g21
          clear hops g2 g9 g21
          iterate 3
            refine growS_take (by rfl) ?_
            apply Exists.intro
            refine ⟨fun w' hE => ?_, ?_⟩
            · obtain ⟨y0, y1, y2, y3, y4, y5, y6, y7⟩ := (HD1.out.below hE).eight
              go_simp
              try with_reducible rfl
            simp only [Act.put, List.setIfInBounds_toArray, List.set_cons_zero, List.set_cons_succ]
          refine growS_skip (unwantedS G2.out rfl rfl) ?_
          simp only [Act.put, List.setIfInBounds_toArray, List.set_cons_zero, List.set_cons_succ]
          refine growS_skip (unwantedS G2.out rfl rfl) ?_
          simp only [Act.put, List.setIfInBounds_toArray, List.set_cons_zero, List.set_cons_succ]
          refine growS_skip (unwantedS G2.out rfl rfl) ?_
          simp only [Act.put, List.setIfInBounds_toArray, List.set_cons_zero, List.set_cons_succ]
          refine growS_skip (unwantedS G2.out rfl rfl) ?_
          simp only [Act.put, List.setIfInBounds_toArray, List.set_cons_zero, List.set_cons_succ]
          refine growS_skip (unwantedS G2.out rfl rfl) ?_
          simp only [Act.put, List.setIfInBounds_toArray, List.set_cons_zero, List.set_cons_succ]
          iterate 2
            refine growS_take (by rfl) ?_
            apply Exists.intro
            refine ⟨fun w' hE => ?_, ?_⟩
            · obtain ⟨y0, y1, y2, y3, y4, y5, y6, y7⟩ := (HD1.out.below hE).eight
              go_simp
              try with_reducible rfl
            simp only [Act.put, List.setIfInBounds_toArray, List.set_cons_zero, List.set_cons_succ]
          iterate 7
            refine growS_take (wantedS G9.out rfl rfl) ?_
            apply Exists.intro
            refine ⟨fun w' hE => ?_, ?_⟩
            · obtain ⟨y0, y1, y2, y3, y4, y5, y6, y7⟩ := (HD1.out.below hE).eight
              go_simp
              try with_reducible rfl
            simp only [Act.put, List.setIfInBounds_toArray, List.set_cons_zero, List.set_cons_succ]
          refine growS_call (wantedS G9.out rfl rfl) (fun K hK => ?_)
          go_simp
          refine (HAH.out _ (HEN.out _ (HB1.out.trans (((Below.refl _ _).drew : Below C.heap.size C C.drew).mono HB1.out.size)))).mono ?_
          rintro e x1 ⟨rfl, hb⟩
          have hz : Below C.heap.size C x1 := ((Below.refl _ _).drew : Below C.heap.size C C.drew).trans (hb.mono ((Below.refl _ _).drew : Below C.heap.size C C.drew).size)
          have HZ1 := Lib.hid hz
          refine hK.out _ _ hz ?_
          clear hK K hb hz
          refine growS_call (wantedS G9.out rfl rfl) (fun K hK => ?_)
          go_simp
          refine (HAG.out _ (HEN.out _ (HB1.out.trans (HZ1.out.mono HB1.out.size)))).mono ?_
          rintro e x2 ⟨rfl, hb⟩
          have hz : Below C.heap.size C x2 := HZ1.out.trans (hb.mono HZ1.out.size)
          have HZ2 := Lib.hid hz
          refine hK.out _ _ hz ?_
          clear hK K hb hz HZ1
          iterate 1
            refine growS_take (wantedS G9.out rfl rfl) ?_
            apply Exists.intro
            refine ⟨fun w' hE => ?_, ?_⟩
            · obtain ⟨y0, y1, y2, y3, y4, y5, y6, y7⟩ := (HD1.out.below hE).eight
              go_simp
              try with_reducible rfl
            simp only [Act.put, List.setIfInBounds_toArray, List.set_cons_zero, List.set_cons_succ]
          iterate 2
            refine growS_take (by rfl) ?_
            apply Exists.intro
            refine ⟨fun w' hE => ?_, ?_⟩
            · obtain ⟨y0, y1, y2, y3, y4, y5, y6, y7⟩ := (HD1.out.below hE).eight
              go_simp
              try with_reducible rfl
            simp only [Act.put, List.setIfInBounds_toArray, List.set_cons_zero, List.set_cons_succ]
          refine growS_call (wantedS G21.out rfl rfl) (fun K hK => ?_)
          go_simp
          refine (awake_any _ (HM.out.bel (HB1.out.trans (HZ2.out.mono HB1.out.size))) (HT.out.below (HB1.out.trans (HZ2.out.mono HB1.out.size)))).mono ?_
          rintro e x3 ⟨rfl, hb⟩
          have hz : Below C.heap.size C x3 := HZ2.out.trans (hb.mono HZ2.out.size)
          have HZ3 := Lib.hid hz
          refine hK.out _ _ hz ?_
          clear hK K hb hz HZ2
          iterate 2
            refine growS_take (by rfl) ?_
            apply Exists.intro
            refine ⟨fun w' hE => ?_, ?_⟩
            · obtain ⟨y0, y1, y2, y3, y4, y5, y6, y7⟩ := (HD1.out.below hE).eight
              go_simp
              try with_reducible rfl
            simp only [Act.put, List.setIfInBounds_toArray, List.set_cons_zero, List.set_cons_succ]
          refine growS_done (NoPanic.normal ?_)
          go_wp2_with fail
          go_ret
          exact ⟨rfl, HB1.out.trans (HZ3.out.mono HB1.out.size)⟩
        · obtain rfl : N = 0 := by omega
          go_wp2_with fail
          obtain ⟨C, hC⟩ : ∃ C, C = w4 := ⟨_, rfl⟩
          subst hC
          rw [decide_eq_false (show ¬ XA < 0 by omega)] at HFA
          refine wp_region_growS (.one 0 false (.one 1 false (.one 2 false (.one 3 false (.one 4 false (.one 5 false (.one 6 true (.one 7 false (.one 8 false (.one 9 false (.one 10 false (.one 11 false (.one 12 false (.one 13 false (.one 15 false (.one 16 false (.one 17 false (.one 14 true (.one 18 true (.one 19 false (.one 20 false (.one 21 false (.one 22 true (.one 23 false (.one 24 false .done)))))))))))))))))))))))))
            (fun W => Below C.heap.size C W) (by kernel_rfl) (by kernel_rfl) rfl (by kernel_rfl) (by kernel_rfl) ((Below.refl _ _).drew) (fun ops hops => ?_)
          simp only [GT.ins, List.getD_cons_zero, List.getD_cons_succ]
          have g2 : (ops[2]?).bind (·.dst) = some 92 := by rw [hops.out]; rfl
          have g9 : (ops[9]?).bind (·.dst) = some 99 := by rw [hops.out]; rfl
          have g21 : (ops[21]?).bind (·.dst) = some 111 := by rw [hops.out]; rfl
          have G2 := Lib.hid g2
          have G9 := Lib.hid g9
          have G21 := Lib.hid g21
          clear hops g2 g9 g21
          iterate 3
            refine growS_take (by rfl) ?_
            apply Exists.intro
            refine ⟨fun w' hE => ?_, ?_⟩
            · obtain ⟨y0, y1, y2, y3, y4, y5, y6, y7⟩ := (HD1.out.below hE).eight
              go_simp
              try with_reducible rfl
            simp only [Act.put, List.setIfInBounds_toArray, List.set_cons_zero, List.set_cons_succ]
          iterate 3
            refine growS_take (wantedS G2.out rfl rfl) ?_
            apply Exists.intro
            refine ⟨fun w' hE => ?_, ?_⟩
            · obtain ⟨y0, y1, y2, y3, y4, y5, y6, y7⟩ := (HD1.out.below hE).eight
              go_simp
              try with_reducible rfl
            simp only [Act.put, List.setIfInBounds_toArray, List.set_cons_zero, List.set_cons_succ]
          refine growS_call (wantedS G2.out rfl rfl) (fun K hK => ?_)
          go_simp
          refine (HFA.out _ (HEN.out _ (HB1.out.trans (((Below.refl _ _).drew : Below C.heap.size C C.drew).mono HB1.out.size)))).mono ?_
          rintro e x1 ⟨rfl, hb⟩
          have hz : Below C.heap.size C x1 := ((Below.refl _ _).drew : Below C.heap.size C C.drew).trans (hb.mono ((Below.refl _ _).drew : Below C.heap.size C C.drew).size)
          have HZ1 := Lib.hid hz
          refine hK.out _ _ hz ?_
          clear hK K hb hz
          iterate 1
            refine growS_take (wantedS G2.out rfl rfl) ?_
            apply Exists.intro
            refine ⟨fun w' hE => ?_, ?_⟩
            · obtain ⟨y0, y1, y2, y3, y4, y5, y6, y7⟩ := (HD1.out.below hE).eight
              go_simp
              try with_reducible rfl
            simp only [Act.put, List.setIfInBounds_toArray, List.set_cons_zero, List.set_cons_succ]
          iterate 2
            refine growS_take (by rfl) ?_
            apply Exists.intro
            refine ⟨fun w' hE => ?_, ?_⟩
            · obtain ⟨y0, y1, y2, y3, y4, y5, y6, y7⟩ := (HD1.out.below hE).eight
              go_simp
              try with_reducible rfl
            simp only [Act.put, List.setIfInBounds_toArray, List.set_cons_zero, List.set_cons_succ]
          iterate 7
            refine growS_take (wantedS G9.out rfl rfl) ?_
            apply Exists.intro
            refine ⟨fun w' hE => ?_, ?_⟩
            · obtain ⟨y0, y1, y2, y3, y4, y5, y6, y7⟩ := (HD1.out.below hE).eight
              go_simp
              try with_reducible rfl
            simp only [Act.put, List.setIfInBounds_toArray, List.set_cons_zero, List.set_cons_succ]
          refine growS_call (wantedS G9.out rfl rfl) (fun K hK => ?_)
          go_simp
          refine (HAH.out _ (HEN.out _ (HB1.out.trans (HZ1.out.mono HB1.out.size)))).mono ?_
          rintro e x2 ⟨rfl, hb⟩
          have hz : Below C.heap.size C x2 := HZ1.out.trans (hb.mono HZ1.out.size)
          have HZ2 := Lib.hid hz
          refine hK.out _ _ hz ?_
          clear hK K hb hz HZ1
          refine growS_call (wantedS G9.out rfl rfl) (fun K hK => ?_)
          go_simp
          refine (HAG.out _ (HEN.out _ (HB1.out.trans (HZ2.out.mono HB1.out.size)))).mono ?_
          rintro e x3 ⟨rfl, hb⟩
          have hz : Below C.heap.size C x3 := HZ2.out.trans (hb.mono HZ2.out.size)
          have HZ3 := Lib.hid hz
          refine hK.out _ _ hz ?_
          clear hK K hb hz HZ2
          iterate 1
            refine growS_take (wantedS G9.out rfl rfl) ?_
            apply Exists.intro
            refine ⟨fun w' hE => ?_, ?_⟩
            · obtain ⟨y0, y1, y2, y3, y4, y5, y6, y7⟩ := (HD1.out.below hE).eight
              go_simp
              try with_reducible rfl
            simp only [Act.put, List.setIfInBounds_toArray, List.set_cons_zero, List.set_cons_succ]
          iterate 2
            refine growS_take (by rfl) ?_
            apply Exists.intro
            refine ⟨fun w' hE => ?_, ?_⟩
            · obtain ⟨y0, y1, y2, y3, y4, y5, y6, y7⟩ := (HD1.out.below hE).eight
              go_simp
              try with_reducible rfl
            simp only [Act.put, List.setIfInBounds_toArray, List.set_cons_zero, List.set_cons_succ]
          refine growS_call (wantedS G21.out rfl rfl) (fun K hK => ?_)
          go_simp
          refine (awake_any _ (HM.out.bel (HB1.out.trans (HZ3.out.mono HB1.out.size))) (HT.out.below (HB1.out.trans (HZ3.out.mono HB1.out.size)))).mono ?_
          rintro e x4 ⟨rfl, hb⟩
          have hz : Below C.heap.size C x4 := HZ3.out.trans (hb.mono HZ3.out.size)
          have HZ4 := Lib.hid hz
          refine hK.out _ _ hz ?_
          clear hK K hb hz HZ3
          iterate 2
            refine growS_take (by rfl) ?_
            apply Exists.intro
            refine ⟨fun w' hE => ?_, ?_⟩
            · obtain ⟨y0, y1, y2, y3, y4, y5, y6, y7⟩ := (HD1.out.below hE).eight
              go_simp
              try with_reducible rfl
            simp only [Act.put, List.setIfInBounds_toArray, List.set_cons_zero, List.set_cons_succ]
          refine growS_done (NoPanic.normal ?_)
          go_wp2_with fail
          go_ret
          exact ⟨rfl, HB1.out.trans (HZ4.out.mono HB1.out.size)⟩
end Go.Proofs.YthjgedafcihheaaGreatDoor
