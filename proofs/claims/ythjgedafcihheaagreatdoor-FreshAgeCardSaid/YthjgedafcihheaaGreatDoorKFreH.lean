/- The statements FreshLife and FreshAge. -/
import Derived.Test.YthjgedafcihheaaGreatDoorKFreG
import Derived.Test.YthjgedafcihheaaGreatDoorKOpen
namespace Go.Proofs.YthjgedafcihheaaGreatDoor
open Go.RowKit

variable {st mi asked got Y : Int} {re bo : ByteArray} {fs : Value} {vA : Option Addr} {vn vc : Nat} {l : List Fld}

set_option maxRecDepth 100000 in
set_option maxHeartbeats 4000000 in
theorem freshLife_law (S : ByteArray) (w : World) (hin : InN w fs l asked got) (hsz : ∀ j (hj : j < l.length), l[j].1.length ≤ 140737488351232 ∧ l[j].2.length ≤ 140737488351232) (hS : S.size ≤ maxLen) (hm : MaxD w) (ht : Tabs w) :
    Calls Tryz.prog 3 #[.agg #[.int .i64 st, .string re, .int .i64 mi, fs, .string bo, .int .i64 asked, .int .i64 got, .slice vA vn vc], .string S] w fun e w' => e = .returned (.bool true) ∧ Below w.heap.size w w' := by
  obtain ⟨dev, rfl⟩ : ∃ dev, S = bs dev := ⟨S.data.toList, rfl⟩
  rw [bs_size] at hS
  have hx : Below w.heap.size w (w.alloc (.cells #[.int .i64 st, .string re, .int .i64 mi, fs, .string bo, .int .i64 asked, .int .i64 got, .slice vA vn vc] 26)) := (Below.refl _ _).alloc (Nat.le_refl _) _
  have hd := dbk.new w #[.int .i64 st, .string re, .int .i64 mi, fs, .string bo, .int .i64 asked, .int .i64 got, .slice vA vn vc] 26
  have HF := Lib.hid (fewE_any (st := st) (mi := mi) (re := re) (bo := bo) (vA := vA) (vn := vn) (vc := vc) (asked := asked) (got := got) (w.alloc (.cells #[.int .i64 st, .string re, .int .i64 mi, fs, .string bo, .int .i64 asked, .int .i64 got, .slice vA vn vc] 26)) (hin.fl.bel hx) hsz hin.len)
  have HX := Lib.hid hx; have HM := Lib.hid hm; have HT := Lib.hid ht
  obtain ⟨a0, a1⟩ := i64_bd hin.wa
  obtain ⟨g0, g1⟩ := i64_bd hin.wg
  obtain ⟨Y, mm, dd, hh, ii, ss, HY⟩ := clamp_ex got
  have hfl := hin.fl
  unfold maxLen at hS
  cases hq : fewE l
  · rw [hq] at HF
    clear hq hin hsz hm ht hx hd hfl
    go_enter Tryz.func3, Tryz.ntmps3
    go_wp2_with fail
    refine HF.out.mono ?_
    rintro e w1 ⟨rfl, hb⟩
    have HB1 := Lib.hid (HX.out.trans (hb.mono HX.out.size)); clear hb
    go_wp2_with fail
    refine (awake_any _ (HM.out.bel HB1.out) (HT.out.below HB1.out)).mono ?_
    rintro e w2 ⟨rfl, hb⟩
    have HB2 := Lib.hid (HB1.out.trans (hb.mono HB1.out.size)); clear hb
    go_wp2_with fail
    go_ret
    exact ⟨rfl, HB2.out⟩
  · rw [hq] at HF
    have hfe := fewE_fe hq
    by_cases h3 : 500 < dev.length
    · have hi : (500 : Int) < (dev.length : Int) := by omega
      clear hq hin hsz hm ht hx hd hfl
      go_enter Tryz.func3, Tryz.ntmps3
      go_wp2_with fail
      refine HF.out.mono ?_
      rintro e w1 ⟨rfl, hb⟩
      have HB1 := Lib.hid (HX.out.trans (hb.mono HX.out.size)); clear hb
      go_wp2_with fail
      refine (awake_any _ (HM.out.bel HB1.out) (HT.out.below HB1.out)).mono ?_
      rintro e w2 ⟨rfl, hb⟩
      have HB2 := Lib.hid (HB1.out.trans (hb.mono HB1.out.size)); clear hb
      go_wp2_with fail
      go_ret
      exact ⟨rfl, HB2.out⟩
    · have hi : ¬ (500 : Int) < (dev.length : Int) := by omega
      have hen : ∀ W, Below w.heap.size w W → EnW W fs l asked got Y := fun W hb => ⟨hfl.bel hb, hfe, hm.bel hb, ht.below hb, ⟨_, _, _, _, _, HY⟩, a0, a1, g0, g1⟩
      have hli := fun W (h : EnW W fs l asked got Y) => life_any (st := st) (mi := mi) (re := re) (bo := bo) (vA := vA) (vn := vn) (vc := vc) dev W h
      have hrl := fun W (h : EnW W fs l asked got Y) => rlife_any (st := st) (mi := mi) (re := re) (bo := bo) (vA := vA) (vn := vn) (vc := vc) dev W h
      have hex := fun W (h : EnW W fs l asked got Y) => extra_any (st := st) (mi := mi) (re := re) (bo := bo) (vA := vA) (vn := vn) (vc := vc) dev W h
      have hrc := fun W (h : EnW W fs l asked got Y) => rctl_any (st := st) (mi := mi) (re := re) (bo := bo) (vA := vA) (vn := vn) (vc := vc) dev W h
      have b1 : (lifeI Y l got dev == lifeI Y l got dev) = true := beq_self_eq_true _
      have b2 : ((ctlE l dev).2.2.2.2.2 == (ctlE l dev).2.2.2.2.2) = true := beq_self_eq_true _
      have HEN := Lib.hid hen; have HLI := Lib.hid hli; have HRL := Lib.hid hrl; have HEX := Lib.hid hex; have HRC := Lib.hid hrc; have HD := Lib.hid hd
      clear hen hli hrl hex hrc hd hx hin hsz hm ht hq hfe hfl HY a0 a1 g0 g1 h3
      generalize lifeI Y l got dev = N at *
      generalize ctlE l dev = c at *
      have hfd : ∀ W, (Instr.field 31 (.agg #[.bool c.1, .bool c.2.1, .bool c.2.2.1, .bool c.2.2.2.1, .int .i64 c.2.2.2.2.1, .int .i64 c.2.2.2.2.2]) 5).run Tryz.prog W = .ok (.int .i64 c.2.2.2.2.2) W := fun W => by kernel_rfl
      go_enter Tryz.func3, Tryz.ntmps3
      go_wp2_with fail
      refine HF.out.mono ?_
      rintro e C ⟨rfl, hb⟩
      have HB1 := Lib.hid (HX.out.trans (hb.mono HX.out.size)); have HD1 := Lib.hid (HD.out.below hb)
      clear hb HF HX HD
      go_wp2_with fail
      refine wp_region_growS (.one 0 false (.one 1 false (.one 3 false (.one 4 false (.one 2 true (.one 5 true (.one 6 false (.one 7 false (.one 8 false (.one 9 false (.one 11 false (.one 12 false (.one 10 true (.one 13 true (.one 14 false (.one 15 false (.one 16 false (.one 17 false (.one 18 true (.one 19 false (.one 20 false .done)))))))))))))))))))))
        (fun W => Below C.heap.size C W) (by kernel_rfl) (by kernel_rfl) rfl (by kernel_rfl) (by kernel_rfl) ((Below.refl _ _).drew) (fun ops hops => ?_)
      simp only [GT.ins, List.getD_cons_zero, List.getD_cons_succ]
      have g7 : (ops[7]?).bind (·.dst) = some 21 := by rw [hops.out]; rfl
      have g17 : (ops[17]?).bind (·.dst) = some 31 := by rw [hops.out]; rfl
      have G7 := Lib.hid g7
      have G17 := Lib.hid g17
      clear hops g7 g17
      iterate 4
        refine growS_take (by rfl) ?_
        apply Exists.intro
        refine ⟨fun w' hE => ?_, ?_⟩
        · obtain ⟨y0, y1, y2, y3, y4, y5, y6, y7⟩ := (HD1.out.below hE).eight
          go_simp
          try with_reducible rfl
        simp only [Act.put, List.setIfInBounds_toArray, List.set_cons_zero, List.set_cons_succ]
      refine growS_call (by rfl) (fun K hK => ?_)
      go_simp
      refine (HLI.out _ (HEN.out _ (HB1.out.trans (((Below.refl _ _).drew : Below C.heap.size C C.drew).mono HB1.out.size)))).mono ?_
      rintro e x1 ⟨rfl, hb⟩
      have hz : Below C.heap.size C x1 := ((Below.refl _ _).drew : Below C.heap.size C C.drew).trans (hb.mono ((Below.refl _ _).drew : Below C.heap.size C C.drew).size)
      have HZ1 := Lib.hid hz
      refine hK.out _ _ hz ?_
      clear hK K hb hz
      refine growS_call (by rfl) (fun K hK => ?_)
      go_simp
      refine (HRL.out _ (HEN.out _ (HB1.out.trans (HZ1.out.mono HB1.out.size)))).mono ?_
      rintro e x2 ⟨rfl, hb⟩
      have hz : Below C.heap.size C x2 := HZ1.out.trans (hb.mono HZ1.out.size)
      have HZ2 := Lib.hid hz
      refine hK.out _ _ hz ?_
      clear hK K hb hz HZ1
      iterate 2
        refine growS_take (by rfl) ?_
        apply Exists.intro
        refine ⟨fun w' hE => ?_, ?_⟩
        · obtain ⟨y0, y1, y2, y3, y4, y5, y6, y7⟩ := (HD1.out.below hE).eight
          go_simp
          try with_reducible rfl
        simp only [Act.put, List.setIfInBounds_toArray, List.set_cons_zero, List.set_cons_succ]
      iterate 4
        refine growS_take (wantedS G7.out rfl rfl) ?_
        apply Exists.intro
        refine ⟨fun w' hE => ?_, ?_⟩
        · obtain ⟨y0, y1, y2, y3, y4, y5, y6, y7⟩ := (HD1.out.below hE).eight
          go_simp
          try with_reducible rfl
        simp only [Act.put, List.setIfInBounds_toArray, List.set_cons_zero, List.set_cons_succ]
      refine growS_call (wantedS G7.out rfl rfl) (fun K hK => ?_)
      go_simp
      refine (HEX.out _ (HEN.out _ (HB1.out.trans (HZ2.out.mono HB1.out.size)))).mono ?_
      rintro e x3 ⟨rfl, hb⟩
      have hz : Below C.heap.size C x3 := HZ2.out.trans (hb.mono HZ2.out.size)
      have HZ3 := Lib.hid hz
      refine hK.out _ _ hz ?_
      clear hK K hb hz HZ2
      refine growS_call (wantedS G7.out rfl rfl) (fun K hK => ?_)
      go_simp
      refine (HRC.out _ (HEN.out _ (HB1.out.trans (HZ3.out.mono HB1.out.size)))).mono ?_
      rintro e x4 ⟨rfl, hb⟩
      have hz : Below C.heap.size C x4 := HZ3.out.trans (hb.mono HZ3.out.size)
      have HZ4 := Lib.hid hz
      refine hK.out _ _ hz ?_
      clear hK K hb hz HZ3
      iterate 2
        refine growS_take (wantedS G7.out rfl rfl) ?_
        apply Exists.intro
        refine ⟨fun w' hE => ?_, ?_⟩
        · obtain ⟨y0, y1, y2, y3, y4, y5, y6, y7⟩ := (HD1.out.below hE).eight
          go_simp
          try with_reducible rfl
        simp only [Act.put, List.setIfInBounds_toArray, List.set_cons_zero, List.set_cons_succ]
      iterate 2
        refine growS_take (by rfl) ?_
        apply Exists.intro
        refine ⟨fun w' hE => ?_, ?_⟩
        · obtain ⟨y0, y1, y2, y3, y4, y5, y6, y7⟩ := (HD1.out.below hE).eight
          go_simp
          try with_reducible rfl
        simp only [Act.put, List.setIfInBounds_toArray, List.set_cons_zero, List.set_cons_succ]
      refine growS_call (wantedS G17.out rfl rfl) (fun K hK => ?_)
      go_simp
      refine (awake_any _ (HM.out.bel (HB1.out.trans (HZ4.out.mono HB1.out.size))) (HT.out.below (HB1.out.trans (HZ4.out.mono HB1.out.size)))).mono ?_
      rintro e x5 ⟨rfl, hb⟩
      have hz : Below C.heap.size C x5 := HZ4.out.trans (hb.mono HZ4.out.size)
      have HZ5 := Lib.hid hz
      refine hK.out _ _ hz ?_
      clear hK K hb hz HZ4
      iterate 2
        refine growS_take (by rfl) ?_
        apply Exists.intro
        refine ⟨fun w' hE => ?_, ?_⟩
        · obtain ⟨y0, y1, y2, y3, y4, y5, y6, y7⟩ := (HD1.out.below hE).eight
          go_simp
          try with_reducible rfl
        simp only [Act.put, List.setIfInBounds_toArray, List.set_cons_zero, List.set_cons_succ]
      refine growS_done (NoPanic.normal ?_)
      go_wp2_with fail
      go_ret
      exact ⟨rfl, HB1.out.trans (HZ5.out.mono HB1.out.size)⟩
set_option maxRecDepth 100000 in
set_option maxHeartbeats 4000000 in
theorem freshAge_law (now : Int) (S : ByteArray) (w : World) (hin : InN w fs l asked got) (hsz : ∀ j (hj : j < l.length), l[j].1.length ≤ 140737488351232 ∧ l[j].2.length ≤ 140737488351232) (hnow : (Lit.int .i64 now).wf = true) (hS : S.size ≤ maxLen) (hm : MaxD w) (ht : Tabs w) :
    Calls Tryz.prog 4 #[.agg #[.int .i64 st, .string re, .int .i64 mi, fs, .string bo, .int .i64 asked, .int .i64 got, .slice vA vn vc], .int .i64 now, .string S] w fun e w' => e = .returned (.bool true) ∧ Below w.heap.size w w' := by
  obtain ⟨dev, rfl⟩ : ∃ dev, S = bs dev := ⟨S.data.toList, rfl⟩
  rw [bs_size] at hS
  have hx : Below w.heap.size w (w.alloc (.cells #[.int .i64 st, .string re, .int .i64 mi, fs, .string bo, .int .i64 asked, .int .i64 got, .slice vA vn vc] 26)) := (Below.refl _ _).alloc (Nat.le_refl _) _
  have hd := dbk.new w #[.int .i64 st, .string re, .int .i64 mi, fs, .string bo, .int .i64 asked, .int .i64 got, .slice vA vn vc] 26
  have HF := Lib.hid (fewE_any (st := st) (mi := mi) (re := re) (bo := bo) (vA := vA) (vn := vn) (vc := vc) (asked := asked) (got := got) (w.alloc (.cells #[.int .i64 st, .string re, .int .i64 mi, fs, .string bo, .int .i64 asked, .int .i64 got, .slice vA vn vc] 26)) (hin.fl.bel hx) hsz hin.len)
  have HX := Lib.hid hx; have HM := Lib.hid hm; have HT := Lib.hid ht
  obtain ⟨a0, a1⟩ := i64_bd hin.wa
  obtain ⟨g0, g1⟩ := i64_bd hin.wg
  obtain ⟨Y, mm, dd, hh, ii, ss, HY⟩ := clamp_ex got
  have hfl := hin.fl
  obtain ⟨n0, n1⟩ := i64_bd hnow
  unfold maxLen at hS
  cases hq : fewE l
  · rw [hq] at HF
    clear hq hin hsz hm ht hx hd hfl
    go_enter Tryz.func4, Tryz.ntmps4
    go_wp2_with fail
    refine HF.out.mono ?_
    rintro e w1 ⟨rfl, hb⟩
    have HB1 := Lib.hid (HX.out.trans (hb.mono HX.out.size)); clear hb
    go_wp2_with fail
    refine (awake_any _ (HM.out.bel HB1.out) (HT.out.below HB1.out)).mono ?_
    rintro e w2 ⟨rfl, hb⟩
    have HB2 := Lib.hid (HB1.out.trans (hb.mono HB1.out.size)); clear hb
    go_wp2_with fail
    go_ret
    exact ⟨rfl, HB2.out⟩
  · rw [hq] at HF
    have hfe := fewE_fe hq
    by_cases h3 : 500 < dev.length
    · have hi : (500 : Int) < (dev.length : Int) := by omega
      clear hq hin hsz hm ht hx hd hfl
      go_enter Tryz.func4, Tryz.ntmps4
      go_wp2_with fail
      refine HF.out.mono ?_
      rintro e w1 ⟨rfl, hb⟩
      have HB1 := Lib.hid (HX.out.trans (hb.mono HX.out.size)); clear hb
      go_wp2_with fail
      refine (awake_any _ (HM.out.bel HB1.out) (HT.out.below HB1.out)).mono ?_
      rintro e w2 ⟨rfl, hb⟩
      have HB2 := Lib.hid (HB1.out.trans (hb.mono HB1.out.size)); clear hb
      go_wp2_with fail
      go_ret
      exact ⟨rfl, HB2.out⟩
    · have hi : ¬ (500 : Int) < (dev.length : Int) := by omega
      have hen : ∀ W, Below w.heap.size w W → EnW W fs l asked got Y := fun W hb => ⟨hfl.bel hb, hfe, hm.bel hb, ht.below hb, ⟨_, _, _, _, _, HY⟩, a0, a1, g0, g1⟩
      have hag := fun W (h : EnW W fs l asked got Y) => age_any (st := st) (mi := mi) (re := re) (bo := bo) (vA := vA) (vn := vn) (vc := vc) now W h n1
      have hra := fun W (h : EnW W fs l asked got Y) => rage_any (st := st) (mi := mi) (re := re) (bo := bo) (vA := vA) (vn := vn) (vc := vc) now W h n0 n1
      have hfr := fun W (h : EnW W fs l asked got Y) => fresh_any (st := st) (mi := mi) (re := re) (bo := bo) (vA := vA) (vn := vn) (vc := vc) now dev W h n1
      have hrf := fun W (h : EnW W fs l asked got Y) => rfresh_any (st := st) (mi := mi) (re := re) (bo := bo) (vA := vA) (vn := vn) (vc := vc) now dev W h n0 n1
      have b1 : (ageI Y l asked got now == ageI Y l asked got now) = true := beq_self_eq_true _
      generalize decide (ageI Y l asked got now < lifeI Y l got dev) = q at hfr hrf
      have b2 : (q == q) = true := beq_self_eq_true _
      have HEN := Lib.hid hen; have HAG := Lib.hid hag; have HRA := Lib.hid hra; have HFR := Lib.hid hfr; have HRF := Lib.hid hrf; have HD := Lib.hid hd
      clear hen hag hra hfr hrf hd hx hin hsz hm ht hq hfe hfl HY a0 a1 g0 g1 n0 n1 hnow h3
      generalize ageI Y l asked got now = N at *
      go_enter Tryz.func4, Tryz.ntmps4
      go_wp2_with fail
      refine HF.out.mono ?_
      rintro e C ⟨rfl, hb⟩
      have HB1 := Lib.hid (HX.out.trans (hb.mono HX.out.size)); have HD1 := Lib.hid (HD.out.below hb)
      clear hb HF HX HD
      go_wp2_with fail
      refine wp_region_growS (.one 0 false (.one 1 false (.one 3 false (.one 4 false (.one 2 true (.one 5 true (.one 6 false (.one 7 false (.one 8 false (.one 9 false (.one 10 false (.one 12 false (.one 13 false (.one 14 false (.one 11 true (.one 15 true (.one 16 false (.one 17 false (.one 18 false (.one 19 true (.one 20 false (.one 21 false .done))))))))))))))))))))))
        (fun W => Below C.heap.size C W) (by kernel_rfl) (by kernel_rfl) rfl (by kernel_rfl) (by kernel_rfl) ((Below.refl _ _).drew) (fun ops hops => ?_)
      simp only [GT.ins, List.getD_cons_zero, List.getD_cons_succ]
      have g7 : (ops[7]?).bind (·.dst) = some 23 := by rw [hops.out]; rfl
      have g18 : (ops[18]?).bind (·.dst) = some 34 := by rw [hops.out]; rfl
      have G7 := Lib.hid g7
      have G18 := Lib.hid g18
      clear hops g7 g18
      iterate 4
        refine growS_take (by rfl) ?_
        apply Exists.intro
        refine ⟨fun w' hE => ?_, ?_⟩
        · obtain ⟨y0, y1, y2, y3, y4, y5, y6, y7⟩ := (HD1.out.below hE).eight
          go_simp
          try with_reducible rfl
        simp only [Act.put, List.setIfInBounds_toArray, List.set_cons_zero, List.set_cons_succ]
      refine growS_call (by rfl) (fun K hK => ?_)
      go_simp
      refine (HAG.out _ (HEN.out _ (HB1.out.trans (((Below.refl _ _).drew : Below C.heap.size C C.drew).mono HB1.out.size)))).mono ?_
      rintro e x1 ⟨rfl, hb⟩
      have hz : Below C.heap.size C x1 := ((Below.refl _ _).drew : Below C.heap.size C C.drew).trans (hb.mono ((Below.refl _ _).drew : Below C.heap.size C C.drew).size)
      have HZ1 := Lib.hid hz
      refine hK.out _ _ hz ?_
      clear hK K hb hz
      refine growS_call (by rfl) (fun K hK => ?_)
      go_simp
      refine (HRA.out _ (HEN.out _ (HB1.out.trans (HZ1.out.mono HB1.out.size)))).mono ?_
      rintro e x2 ⟨rfl, hb⟩
      have hz : Below C.heap.size C x2 := HZ1.out.trans (hb.mono HZ1.out.size)
      have HZ2 := Lib.hid hz
      refine hK.out _ _ hz ?_
      clear hK K hb hz HZ1
      iterate 2
        refine growS_take (by rfl) ?_
        apply Exists.intro
        refine ⟨fun w' hE => ?_, ?_⟩
        · obtain ⟨y0, y1, y2, y3, y4, y5, y6, y7⟩ := (HD1.out.below hE).eight
          go_simp
          try with_reducible rfl
        simp only [Act.put, List.setIfInBounds_toArray, List.set_cons_zero, List.set_cons_succ]
      iterate 6
        refine growS_take (wantedS G7.out rfl rfl) ?_
        apply Exists.intro
        refine ⟨fun w' hE => ?_, ?_⟩
        · obtain ⟨y0, y1, y2, y3, y4, y5, y6, y7⟩ := (HD1.out.below hE).eight
          go_simp
          try with_reducible rfl
        simp only [Act.put, List.setIfInBounds_toArray, List.set_cons_zero, List.set_cons_succ]
      refine growS_call (wantedS G7.out rfl rfl) (fun K hK => ?_)
      go_simp
      refine (HFR.out _ (HEN.out _ (HB1.out.trans (HZ2.out.mono HB1.out.size)))).mono ?_
      rintro e x3 ⟨rfl, hb⟩
      have hz : Below C.heap.size C x3 := HZ2.out.trans (hb.mono HZ2.out.size)
      have HZ3 := Lib.hid hz
      refine hK.out _ _ hz ?_
      clear hK K hb hz HZ2
      refine growS_call (wantedS G7.out rfl rfl) (fun K hK => ?_)
      go_simp
      refine (HRF.out _ (HEN.out _ (HB1.out.trans (HZ3.out.mono HB1.out.size)))).mono ?_
      rintro e x4 ⟨rfl, hb⟩
      have hz : Below C.heap.size C x4 := HZ3.out.trans (hb.mono HZ3.out.size)
      have HZ4 := Lib.hid hz
      refine hK.out _ _ hz ?_
      clear hK K hb hz HZ3
      iterate 1
        refine growS_take (wantedS G7.out rfl rfl) ?_
        apply Exists.intro
        refine ⟨fun w' hE => ?_, ?_⟩
        · obtain ⟨y0, y1, y2, y3, y4, y5, y6, y7⟩ := (HD1.out.below hE).eight
          go_simp
          try with_reducible rfl
        simp only [Act.put, List.setIfInBounds_toArray, List.set_cons_zero, List.set_cons_succ]
      iterate 2
        refine growS_take (by rfl) ?_
        apply Exists.intro
        refine ⟨fun w' hE => ?_, ?_⟩
        · obtain ⟨y0, y1, y2, y3, y4, y5, y6, y7⟩ := (HD1.out.below hE).eight
          go_simp
          try with_reducible rfl
        simp only [Act.put, List.setIfInBounds_toArray, List.set_cons_zero, List.set_cons_succ]
      refine growS_call (wantedS G18.out rfl rfl) (fun K hK => ?_)
      go_simp
      refine (awake_any _ (HM.out.bel (HB1.out.trans (HZ4.out.mono HB1.out.size))) (HT.out.below (HB1.out.trans (HZ4.out.mono HB1.out.size)))).mono ?_
      rintro e x5 ⟨rfl, hb⟩
      have hz : Below C.heap.size C x5 := HZ4.out.trans (hb.mono HZ4.out.size)
      have HZ5 := Lib.hid hz
      refine hK.out _ _ hz ?_
      clear hK K hb hz HZ4
      iterate 2
        refine growS_take (by rfl) ?_
        apply Exists.intro
        refine ⟨fun w' hE => ?_, ?_⟩
        · obtain ⟨y0, y1, y2, y3, y4, y5, y6, y7⟩ := (HD1.out.below hE).eight
          go_simp
          try with_reducible rfl
        simp only [Act.put, List.setIfInBounds_toArray, List.set_cons_zero, List.set_cons_succ]
      refine growS_done (NoPanic.normal ?_)
      go_wp2_with fail
      go_ret
      exact ⟨rfl, HB1.out.trans (HZ5.out.mono HB1.out.size)⟩
end Go.Proofs.YthjgedafcihheaaGreatDoor
