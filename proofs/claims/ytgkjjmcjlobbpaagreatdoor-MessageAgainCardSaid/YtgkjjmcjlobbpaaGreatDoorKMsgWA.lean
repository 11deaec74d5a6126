/- MessageAgain, where the text is no request. -/
import Derived.Test.YtgkjjmcjlobbpaaGreatDoorKFramingA
import Derived.Test.YtgkjjmcjlobbpaaGreatDoorKMsgD
import Derived.Test.YtgkjjmcjlobbpaaGreatDoorKMsgK
import Derived.Test.YtgkjjmcjlobbpaaGreatDoorKMsgV
namespace Go.Proofs.YtgkjjmcjlobbpaaGreatDoor
open Go.RowKit
set_option maxHeartbeats 4000000 in
set_option maxRecDepth 100000 in
theorem again_a (s : List UInt8) (w : World) (he : EnvM w) (hl : ¬ 7000 < s.length) (hq : (askM s).2.2.2 ≠ 0) :
    Calls Tryz.prog 8 #[.string (bs s)] w fun e w' => e = .returned (.bool true) ∧ Below w.heap.size w w' := by
  have HBY := tell_body s
  have HE := Lib.hid he
  have HB0 := Lib.hid (Below.refl w.heap.size w)
  have HTZ : Hid (∀ W, Below w.heap.size w W → Calls Tryz.prog 13 #[.string (bs []), .bool false] W fun en w' => ∃ A k, en = .returned (.tuple #[.agg #[.int .i64 0, .string ⟨#[]⟩, .int .i64 0, .slice A 0 k, .string ⟨#[]⟩], .int .i64 0, .int .i64 6]) ∧ Below W.heap.size W w') := fun W hb => by
    have h := msgReply_any [] false W (HE.out.bel hb) (by decide)
    have hz : (tellM [] false).2.2.2 ≠ 0 := by rw [tell_none]; decide
    unfold RetY cM rM oM at h
    rw [if_neg hz, if_neg hz, if_neg hz, tell_none] at h
    refine h.mono ?_
    rintro en w' ⟨v, rfl, ho, hb⟩
    obtain ⟨A, c, rfl⟩ := ho.form
    exact ⟨A, c, rfl, hb⟩
  have HRY : Hid (∀ W, Below w.heap.size w W → Calls Tryz.prog 13 #[.string (bs s), .bool false] W fun en w' => ∃ v, en = .returned (.tuple #[.agg #[.int .i64 (cM s false), .string (bs (rM s false)), .int .i64 (oM s false), v, .string (bs (tellM s false).2.1)], .int .i64 (tellM s false).2.2.1, .int .i64 (tellM s false).2.2.2]) ∧ ownF w' W.heap.size v (tellM s false).1 ∧ Below W.heap.size W w') := fun W hb => msgReply_any s false W (HE.out.bel hb) (by omega)
  rcases hP2 : putY (cM s false) (rM s false) (oM s false) (tellM s false).1 (tellM s false).2.1 false with ⟨T, e2⟩
  have HAG : Hid ((tellM s false).2.2.2 = 0 → (e2 = 0 ∨ e2 = 3)) := Lib.hid fun h => by
    have h1 := (again_tell h).1
    rw [hP2] at h1
    exact h1
  have hTl : e2 = 0 → T.length ≤ 1048576 := by
    rintro rfl
    have h1 := (back_tell hP2).2.1
    have h3 : (tellM s false).2.1.length ≤ 262144 := HBY
    omega
  have HS2 := Lib.hid (few_parse_y s false)
  have HPY : Hid (∀ v W, Below w.heap.size w W → FL W v (tellM s false).1 → Calls Tryz.prog 20 #[.agg #[.int .i64 (cM s false), .string (bs (rM s false)), .int .i64 (oM s false), v, .string (bs (tellM s false).2.1)], .bool false] W fun en w' => en = .returned (.tuple #[.string (bs T), .int .i64 e2]) ∧ Below W.heap.size W w') := fun v W hb hf => by
    have h := msgPutY_any (cM s false) (oM s false) (rM s false) (tellM s false).2.1 false v (tellM s false).1 W (HE.out.bel hb) hf HS2.out.2 (Nat.le_trans HS2.out.1 (by decide)) (Nat.le_trans (rM_len s) (by omega)) (Nat.le_trans HBY (by decide))
    rw [hP2] at h
    exact h
  generalize cM s false = c0 at *
  generalize rM s false = r at *
  generalize oM s false = o at *
  generalize tellM s false = M2 at *
  obtain ⟨L2, b2, u2, g2⟩ := M2
  simp only at *
  have HRQ : Hid (∀ W, Below w.heap.size w W → Calls Tryz.prog 11 #[.string (bs s)] W fun en w' => ∃ v, en = .returned (.tuple #[.agg #[.string (bs (mM s)), .string (bs (tM s)), .int .i64 (nM s), v, .string (bs (askM s).2.1)], .int .i64 (askM s).2.2.1, .int .i64 (askM s).2.2.2]) ∧ ownF w' W.heap.size v (askM s).1 ∧ Below W.heap.size W w') := fun W hb => msgRequest_any s W (HE.out.bel hb) (by omega)
  generalize mM s = m at *
  generalize tM s = t at *
  generalize nM s = n at *
  generalize askM s = M at *
  obtain ⟨L, b, u, g⟩ := M
  simp only at *
  have hn1 : (g == 0) = false := by simpa using hq
  go_enter Tryz.func8, Tryz.ntmps8
  go_wp2_with fail
  refine (HRQ.out _ HB0.out).mono ?_
  rintro en y1 ⟨v1, rfl, ho, hb⟩
  obtain ⟨A1, k1, rfl⟩ := ho.form
  have hd : Below y1.heap.size y1 (y1.alloc (.cells #[.string (bs m), .string (bs t), .int .i64 n, .slice A1 L.length k1, .string (bs b)] 25)) := (Below.refl _ _).alloc (Nat.le_refl _) _
  have hbd := hb.trans (hd.mono hb.size)
  have HB2 := Lib.hid (HB0.out.trans (hbd.mono HB0.out.size))
  clear hb hd hbd HB0 
  clear ho
  go_wp2_with fail
  generalize y1.alloc (.cells #[.string (bs m), .string (bs t), .int .i64 n, .slice A1 L.length k1, .string (bs b)] 25) = y2 at *
  generalize y1.heap.size = g1 at *
  refine (HRY.out _ HB2.out).mono ?_
  rintro en y3 ⟨v3, rfl, ho, hb⟩
  obtain ⟨A3, k3, rfl⟩ := ho.form
  have hd : Below y3.heap.size y3 (y3.alloc (.cells #[.int .i64 c0, .string (bs r), .int .i64 o, .slice A3 L2.length k3, .string (bs b2)] 32)) := (Below.refl _ _).alloc (Nat.le_refl _) _
  have hbd := hb.trans (hd.mono hb.size)
  have HB4 := Lib.hid (HB2.out.trans (hbd.mono HB2.out.size))
  have R4 := Lib.hid (blk.new y3 #[.int .i64 c0, .string (bs r), .int .i64 o, .slice A3 L2.length k3, .string (bs b2)] 32)
  have FR4 := Lib.hid (ho.fl.bel hd)
  clear hb hd hbd HB2 
  clear ho
  by_cases hg2 : g2 = 0
  · subst hg2
    have hE2 := HAG.out rfl
    have r0 := R4.out.cell 0 _ rfl; have r1 := R4.out.cell 1 _ rfl; have r2 := R4.out.cell 2 _ rfl; have r3 := R4.out.cell 3 _ rfl; have r4 := R4.out.cell 4 _ rfl
    go_wp2_with fail
    generalize y3.alloc (.cells #[.int .i64 c0, .string (bs r), .int .i64 o, .slice A3 L2.length k3, .string (bs b2)] 32) = y4 at *
    generalize y3.heap.size = g3 at *
    clear r0 r1 r2 r3 r4
    refine (HPY.out _ _ HB4.out FR4.out).mono ?_
    rintro en y5 ⟨rfl, hb⟩
    have HB5 := Lib.hid (HB4.out.trans (hb.mono HB4.out.size))
    have R5 := Lib.hid (R4.out.below hb)
    have FR5 := Lib.hid (FR4.out.bel hb)
    clear hb HB4 R4 FR4
    rcases hE2 with rfl | rfl
    · obtain ⟨-, -, b3, -⟩ := back_tell hP2
      have b3' := b3 []
      rw [List.append_nil] at b3'
      have HRT : Hid (∀ W, Below w.heap.size w W → Calls Tryz.prog 13 #[.string (bs T), .bool false] W fun en w' => ∃ v, en = .returned (.tuple #[.agg #[.int .i64 c0, .string (bs r), .int .i64 o, v, .string (bs b2)], .int .i64 T.length, .int .i64 0]) ∧ ownF w' W.heap.size v (writL L2 b2.length (!bareB c0)) ∧ Below W.heap.size W w') := fun W hb => by
        have h := msgReply_any T false W (HE.out.bel hb) (by omega)
        unfold RetY at h
        rw [b3'.1, b3'.2.1, b3'.2.2.1, b3'.2.2.2] at h
        exact h
      have HSM : Hid (smallF (writL L2 b2.length (!bareB c0)) ∧ (writL L2 b2.length (!bareB c0)).length ≤ 64) := by
        have h := few_parse_y T false
        rw [b3'.1] at h
        exact Lib.hid ⟨h.2, h.1⟩
      clear b3 b3'
      go_wp2_with fail
      refine (HRT.out _ HB5.out).mono ?_
      rintro en y6 ⟨v4, rfl, ho, hb⟩
      obtain ⟨A4, k4, rfl⟩ := ho.form
      have hd : Below y6.heap.size y6 (y6.alloc (.cells #[.int .i64 c0, .string (bs r), .int .i64 o, .slice A4 (writL L2 b2.length (!bareB c0)).length k4, .string (bs b2)] 32)) := (Below.refl _ _).alloc (Nat.le_refl _) _
      have hbd := hb.trans (hd.mono hb.size)
      have HB7 := Lib.hid (HB5.out.trans (hbd.mono HB5.out.size))
      have R7 := Lib.hid (R5.out.below hbd)
      have FR7 := Lib.hid (FR5.out.bel hbd)
      have U7 := Lib.hid (blk.new y6 #[.int .i64 c0, .string (bs r), .int .i64 o, .slice A4 (writL L2 b2.length (!bareB c0)).length k4, .string (bs b2)] 32)
      have FU7 := Lib.hid (ho.fl.bel hd)
      clear hb hd hbd HB5 R5 FR5
      clear ho
      go_wp2_with fail
      generalize y6.alloc (.cells #[.int .i64 c0, .string (bs r), .int .i64 o, .slice A4 (writL L2 b2.length (!bareB c0)).length k4, .string (bs b2)] 32) = y7 at *
      generalize y6.heap.size = g6 at *
      have HPA : Hid (∀ W, Below y7.heap.size y7 W → Calls Tryz.prog 23 #[.slice A4 (writL L2 b2.length (!bareB c0)).length k4] W (RetF W (delL L2 [clN, teN]))) := fun W hW => by
        have h := plain_any _ (writL L2 b2.length (!bareB c0)) W (FU7.out.bel hW) HSM.out.1 (Nat.le_trans HSM.out.2 (by decide))
        rw [plain_writ] at h
        exact h
      have HPB : Hid (∀ W, Below y7.heap.size y7 W → Calls Tryz.prog 23 #[.slice A3 L2.length k3] W (RetF W (delL L2 [clN, teN]))) := fun W hW => plain_any _ L2 W (FR7.out.bel hW) HS2.out.2 (Nat.le_trans HS2.out.1 (by decide))
      generalize delL L2 [clN, teN] = D2 at *
      have ht1 : ((bs b2).toList == (bs b2).toList) = true := by simp
      have ht2 : ((bs r).toList == (bs r).toList) = true := by simp
      refine wp_region_growS (.one 0 false (.one 1 false (.one 2 false (.one 3 false (.one 4 false (.one 5 false (.one 6 false (.one 7 false (.one 8 false (.one 9 false (.one 10 false (.one 11 false (.one 12 false (.one 13 false (.one 14 false (.one 15 false (.one 16 false (.one 17 false (.one 18 false (.one 19 false (.one 20 false (.one 21 false (.one 22 false (.one 23 false (.one 24 false (.one 25 false (.one 26 false (.one 27 false (.one 28 false (.one 29 false (.one 30 false (.one 31 false (.one 32 false (.one 33 false (.one 34 false (.one 35 false (.one 36 false (.one 37 false (.one 38 false (.one 41 false (.one 42 false (.one 39 true (.one 40 false (.one 43 true (.one 44 false (.one 45 false (.one 46 false (.one 47 false (.one 48 false (.one 49 true (.one 50 false (.one 51 false .done))))))))))))))))))))))))))))))))))))))))))))))))))))
        (fun W => Below y7.heap.size y7 W) (by kernel_rfl) (by kernel_rfl) rfl (by kernel_rfl) (by kernel_rfl) (Below.refl _ _).drew (fun ops hops => ?_)
      simp only [GT.ins, List.getD_cons_zero, List.getD_cons_succ]
      have g2 : (ops[2]?).bind (·.dst) = some 109 := by rw [hops.out]; rfl
      have g5 : (ops[5]?).bind (·.dst) = some 112 := by rw [hops.out]; rfl
      have g9 : (ops[9]?).bind (·.dst) = some 116 := by rw [hops.out]; rfl
      have g15 : (ops[15]?).bind (·.dst) = some 122 := by rw [hops.out]; rfl
      have g22 : (ops[22]?).bind (·.dst) = some 129 := by rw [hops.out]; rfl
      have g29 : (ops[29]?).bind (·.dst) = some 136 := by rw [hops.out]; rfl
      have g36 : (ops[36]?).bind (·.dst) = some 143 := by rw [hops.out]; rfl
      have g48 : (ops[48]?).bind (·.dst) = some 155 := by rw [hops.out]; rfl
      have G2 := Lib.hid g2
      have G5 := Lib.hid g5
      have G9 := Lib.hid g9
      have G15 := Lib.hid g15
      have G22 := Lib.hid g22
      have G29 := Lib.hid g29
      have G36 := Lib.hid g36
      have G48 := Lib.hid g48
      clear hops g2 g5 g9 g15 g22 g29 g36 g48
      iterate 3
        refine growS_take (by rfl) ?_
        apply Exists.intro
        refine ⟨fun w' hE => ?_, ?_⟩
        · have u0 := (U7.out.below hE).cell 0 _ rfl; have u1 := (U7.out.below hE).cell 1 _ rfl; have u2 := (U7.out.below hE).cell 2 _ rfl; have u3 := (U7.out.below hE).cell 3 _ rfl; have u4 := (U7.out.below hE).cell 4 _ rfl; have r0 := (R7.out.below hE).cell 0 _ rfl; have r1 := (R7.out.below hE).cell 1 _ rfl; have r2 := (R7.out.below hE).cell 2 _ rfl; have r3 := (R7.out.below hE).cell 3 _ rfl; have r4 := (R7.out.below hE).cell 4 _ rfl
          go_simp
          try with_reducible rfl
        simp only [Act.put, List.setIfInBounds_toArray, List.set_cons_zero, List.set_cons_succ]
      iterate 3
        refine growS_take (wantedS G2.out rfl rfl) ?_
        apply Exists.intro
        refine ⟨fun w' hE => ?_, ?_⟩
        · have u0 := (U7.out.below hE).cell 0 _ rfl; have u1 := (U7.out.below hE).cell 1 _ rfl; have u2 := (U7.out.below hE).cell 2 _ rfl; have u3 := (U7.out.below hE).cell 3 _ rfl; have u4 := (U7.out.below hE).cell 4 _ rfl; have r0 := (R7.out.below hE).cell 0 _ rfl; have r1 := (R7.out.below hE).cell 1 _ rfl; have r2 := (R7.out.below hE).cell 2 _ rfl; have r3 := (R7.out.below hE).cell 3 _ rfl; have r4 := (R7.out.below hE).cell 4 _ rfl
          go_simp
          try with_reducible rfl
        simp only [Act.put, List.setIfInBounds_toArray, List.set_cons_zero, List.set_cons_succ]
      iterate 2
        refine growS_take (wantedS G5.out rfl rfl) ?_
        apply Exists.intro
        refine ⟨fun w' hE => ?_, ?_⟩
        · have u0 := (U7.out.below hE).cell 0 _ rfl; have u1 := (U7.out.below hE).cell 1 _ rfl; have u2 := (U7.out.below hE).cell 2 _ rfl; have u3 := (U7.out.below hE).cell 3 _ rfl; have u4 := (U7.out.below hE).cell 4 _ rfl; have r0 := (R7.out.below hE).cell 0 _ rfl; have r1 := (R7.out.below hE).cell 1 _ rfl; have r2 := (R7.out.below hE).cell 2 _ rfl; have r3 := (R7.out.below hE).cell 3 _ rfl; have r4 := (R7.out.below hE).cell 4 _ rfl
          go_simp
          try with_reducible rfl
        simp only [Act.put, List.setIfInBounds_toArray, List.set_cons_zero, List.set_cons_succ]
      iterate 2
        refine growS_take (wantedS G2.out rfl rfl) ?_
        apply Exists.intro
        refine ⟨fun w' hE => ?_, ?_⟩
        · have u0 := (U7.out.below hE).cell 0 _ rfl; have u1 := (U7.out.below hE).cell 1 _ rfl; have u2 := (U7.out.below hE).cell 2 _ rfl; have u3 := (U7.out.below hE).cell 3 _ rfl; have u4 := (U7.out.below hE).cell 4 _ rfl; have r0 := (R7.out.below hE).cell 0 _ rfl; have r1 := (R7.out.below hE).cell 1 _ rfl; have r2 := (R7.out.below hE).cell 2 _ rfl; have r3 := (R7.out.below hE).cell 3 _ rfl; have r4 := (R7.out.below hE).cell 4 _ rfl
          go_simp
          try with_reducible rfl
        simp only [Act.put, List.setIfInBounds_toArray, List.set_cons_zero, List.set_cons_succ]
      iterate 4
        refine growS_take (wantedS G9.out rfl rfl) ?_
        apply Exists.intro
        refine ⟨fun w' hE => ?_, ?_⟩
        · have u0 := (U7.out.below hE).cell 0 _ rfl; have u1 := (U7.out.below hE).cell 1 _ rfl; have u2 := (U7.out.below hE).cell 2 _ rfl; have u3 := (U7.out.below hE).cell 3 _ rfl; have u4 := (U7.out.below hE).cell 4 _ rfl; have r0 := (R7.out.below hE).cell 0 _ rfl; have r1 := (R7.out.below hE).cell 1 _ rfl; have r2 := (R7.out.below hE).cell 2 _ rfl; have r3 := (R7.out.below hE).cell 3 _ rfl; have r4 := (R7.out.below hE).cell 4 _ rfl
          go_simp
          try with_reducible rfl
        simp only [Act.put, List.setIfInBounds_toArray, List.set_cons_zero, List.set_cons_succ]
      iterate 2
        refine growS_take (wantedS G2.out rfl rfl) ?_
        apply Exists.intro
        refine ⟨fun w' hE => ?_, ?_⟩
        · have u0 := (U7.out.below hE).cell 0 _ rfl; have u1 := (U7.out.below hE).cell 1 _ rfl; have u2 := (U7.out.below hE).cell 2 _ rfl; have u3 := (U7.out.below hE).cell 3 _ rfl; have u4 := (U7.out.below hE).cell 4 _ rfl; have r0 := (R7.out.below hE).cell 0 _ rfl; have r1 := (R7.out.below hE).cell 1 _ rfl; have r2 := (R7.out.below hE).cell 2 _ rfl; have r3 := (R7.out.below hE).cell 3 _ rfl; have r4 := (R7.out.below hE).cell 4 _ rfl
          go_simp
          try with_reducible rfl
        simp only [Act.put, List.setIfInBounds_toArray, List.set_cons_zero, List.set_cons_succ]
      iterate 5
        refine growS_take (wantedS G15.out rfl rfl) ?_
        apply Exists.intro
        refine ⟨fun w' hE => ?_, ?_⟩
        · have u0 := (U7.out.below hE).cell 0 _ rfl; have u1 := (U7.out.below hE).cell 1 _ rfl; have u2 := (U7.out.below hE).cell 2 _ rfl; have u3 := (U7.out.below hE).cell 3 _ rfl; have u4 := (U7.out.below hE).cell 4 _ rfl; have r0 := (R7.out.below hE).cell 0 _ rfl; have r1 := (R7.out.below hE).cell 1 _ rfl; have r2 := (R7.out.below hE).cell 2 _ rfl; have r3 := (R7.out.below hE).cell 3 _ rfl; have r4 := (R7.out.below hE).cell 4 _ rfl
          go_simp
          try with_reducible rfl
        simp only [Act.put, List.setIfInBounds_toArray, List.set_cons_zero, List.set_cons_succ]
      iterate 2
        refine growS_take (wantedS G2.out rfl rfl) ?_
        apply Exists.intro
        refine ⟨fun w' hE => ?_, ?_⟩
        · have u0 := (U7.out.below hE).cell 0 _ rfl; have u1 := (U7.out.below hE).cell 1 _ rfl; have u2 := (U7.out.below hE).cell 2 _ rfl; have u3 := (U7.out.below hE).cell 3 _ rfl; have u4 := (U7.out.below hE).cell 4 _ rfl; have r0 := (R7.out.below hE).cell 0 _ rfl; have r1 := (R7.out.below hE).cell 1 _ rfl; have r2 := (R7.out.below hE).cell 2 _ rfl; have r3 := (R7.out.below hE).cell 3 _ rfl; have r4 := (R7.out.below hE).cell 4 _ rfl
          go_simp
          try with_reducible rfl
        simp only [Act.put, List.setIfInBounds_toArray, List.set_cons_zero, List.set_cons_succ]
      iterate 5
        refine growS_take (wantedS G22.out rfl rfl) ?_
        apply Exists.intro
        refine ⟨fun w' hE => ?_, ?_⟩
        · have u0 := (U7.out.below hE).cell 0 _ rfl; have u1 := (U7.out.below hE).cell 1 _ rfl; have u2 := (U7.out.below hE).cell 2 _ rfl; have u3 := (U7.out.below hE).cell 3 _ rfl; have u4 := (U7.out.below hE).cell 4 _ rfl; have r0 := (R7.out.below hE).cell 0 _ rfl; have r1 := (R7.out.below hE).cell 1 _ rfl; have r2 := (R7.out.below hE).cell 2 _ rfl; have r3 := (R7.out.below hE).cell 3 _ rfl; have r4 := (R7.out.below hE).cell 4 _ rfl
          go_simp
          try with_reducible rfl
        simp only [Act.put, List.setIfInBounds_toArray, List.set_cons_zero, List.set_cons_succ]
      iterate 2
        refine growS_take (wantedS G2.out rfl rfl) ?_
        apply Exists.intro
        refine ⟨fun w' hE => ?_, ?_⟩
        · have u0 := (U7.out.below hE).cell 0 _ rfl; have u1 := (U7.out.below hE).cell 1 _ rfl; have u2 := (U7.out.below hE).cell 2 _ rfl; have u3 := (U7.out.below hE).cell 3 _ rfl; have u4 := (U7.out.below hE).cell 4 _ rfl; have r0 := (R7.out.below hE).cell 0 _ rfl; have r1 := (R7.out.below hE).cell 1 _ rfl; have r2 := (R7.out.below hE).cell 2 _ rfl; have r3 := (R7.out.below hE).cell 3 _ rfl; have r4 := (R7.out.below hE).cell 4 _ rfl
          go_simp
          try with_reducible rfl
        simp only [Act.put, List.setIfInBounds_toArray, List.set_cons_zero, List.set_cons_succ]
      iterate 5
        refine growS_take (wantedS G29.out rfl rfl) ?_
        apply Exists.intro
        refine ⟨fun w' hE => ?_, ?_⟩
        · have u0 := (U7.out.below hE).cell 0 _ rfl; have u1 := (U7.out.below hE).cell 1 _ rfl; have u2 := (U7.out.below hE).cell 2 _ rfl; have u3 := (U7.out.below hE).cell 3 _ rfl; have u4 := (U7.out.below hE).cell 4 _ rfl; have r0 := (R7.out.below hE).cell 0 _ rfl; have r1 := (R7.out.below hE).cell 1 _ rfl; have r2 := (R7.out.below hE).cell 2 _ rfl; have r3 := (R7.out.below hE).cell 3 _ rfl; have r4 := (R7.out.below hE).cell 4 _ rfl
          go_simp
          try with_reducible rfl
        simp only [Act.put, List.setIfInBounds_toArray, List.set_cons_zero, List.set_cons_succ]
      iterate 2
        refine growS_take (wantedS G2.out rfl rfl) ?_
        apply Exists.intro
        refine ⟨fun w' hE => ?_, ?_⟩
        · have u0 := (U7.out.below hE).cell 0 _ rfl; have u1 := (U7.out.below hE).cell 1 _ rfl; have u2 := (U7.out.below hE).cell 2 _ rfl; have u3 := (U7.out.below hE).cell 3 _ rfl; have u4 := (U7.out.below hE).cell 4 _ rfl; have r0 := (R7.out.below hE).cell 0 _ rfl; have r1 := (R7.out.below hE).cell 1 _ rfl; have r2 := (R7.out.below hE).cell 2 _ rfl; have r3 := (R7.out.below hE).cell 3 _ rfl; have r4 := (R7.out.below hE).cell 4 _ rfl
          go_simp
          try with_reducible rfl
        simp only [Act.put, List.setIfInBounds_toArray, List.set_cons_zero, List.set_cons_succ]
      iterate 4
        refine growS_take (wantedS G36.out rfl rfl) ?_
        apply Exists.intro
        refine ⟨fun w' hE => ?_, ?_⟩
        · have u0 := (U7.out.below hE).cell 0 _ rfl; have u1 := (U7.out.below hE).cell 1 _ rfl; have u2 := (U7.out.below hE).cell 2 _ rfl; have u3 := (U7.out.below hE).cell 3 _ rfl; have u4 := (U7.out.below hE).cell 4 _ rfl; have r0 := (R7.out.below hE).cell 0 _ rfl; have r1 := (R7.out.below hE).cell 1 _ rfl; have r2 := (R7.out.below hE).cell 2 _ rfl; have r3 := (R7.out.below hE).cell 3 _ rfl; have r4 := (R7.out.below hE).cell 4 _ rfl
          go_simp
          try with_reducible rfl
        simp only [Act.put, List.setIfInBounds_toArray, List.set_cons_zero, List.set_cons_succ]
      refine growS_call (wantedS G36.out rfl rfl) (fun K hK => ?_)
      go_simp
      refine (HPA.out _ ((Below.refl _ _).drew : Below y7.heap.size y7 y7.drew)).mono ?_
      rintro en za ⟨vza, rfl, ho, hb⟩
      obtain ⟨Aza, kza, rfl⟩ := ho.form
      have HEza := Lib.hid (((Below.refl _ _).drew : Below y7.heap.size y7 y7.drew).trans (hb.mono ((Below.refl _ _).drew : Below y7.heap.size y7 y7.drew).size))
      refine hK.out _ _ HEza.out ?_
      clear hK K ho hb
      iterate 1
        refine growS_take (wantedS G36.out rfl rfl) ?_
        apply Exists.intro
        refine ⟨fun w' hE => ?_, ?_⟩
        · have u0 := (U7.out.below hE).cell 0 _ rfl; have u1 := (U7.out.below hE).cell 1 _ rfl; have u2 := (U7.out.below hE).cell 2 _ rfl; have u3 := (U7.out.below hE).cell 3 _ rfl; have u4 := (U7.out.below hE).cell 4 _ rfl; have r0 := (R7.out.below hE).cell 0 _ rfl; have r1 := (R7.out.below hE).cell 1 _ rfl; have r2 := (R7.out.below hE).cell 2 _ rfl; have r3 := (R7.out.below hE).cell 3 _ rfl; have r4 := (R7.out.below hE).cell 4 _ rfl
          go_simp
          try with_reducible rfl
        simp only [Act.put, List.setIfInBounds_toArray, List.set_cons_zero, List.set_cons_succ]
      refine growS_call (wantedS G36.out rfl rfl) (fun K hK => ?_)
      go_simp
      refine (HPB.out _ HEza.out).mono ?_
      rintro en zb ⟨vzb, rfl, ho, hb⟩
      obtain ⟨Azb, kzb, rfl⟩ := ho.form
      have HEzb := Lib.hid (HEza.out.trans (hb.mono HEza.out.size))
      refine hK.out _ _ HEzb.out ?_
      clear hK K ho hb
      iterate 2
        refine growS_take (wantedS G36.out rfl rfl) ?_
        apply Exists.intro
        refine ⟨fun w' hE => ?_, ?_⟩
        · have u0 := (U7.out.below hE).cell 0 _ rfl; have u1 := (U7.out.below hE).cell 1 _ rfl; have u2 := (U7.out.below hE).cell 2 _ rfl; have u3 := (U7.out.below hE).cell 3 _ rfl; have u4 := (U7.out.below hE).cell 4 _ rfl; have r0 := (R7.out.below hE).cell 0 _ rfl; have r1 := (R7.out.below hE).cell 1 _ rfl; have r2 := (R7.out.below hE).cell 2 _ rfl; have r3 := (R7.out.below hE).cell 3 _ rfl; have r4 := (R7.out.below hE).cell 4 _ rfl
          go_simp
          try with_reducible rfl
        simp only [Act.put, List.setIfInBounds_toArray, List.set_cons_zero, List.set_cons_succ]
      iterate 1
        refine growS_take (wantedS G2.out rfl rfl) ?_
        apply Exists.intro
        refine ⟨fun w' hE => ?_, ?_⟩
        · have u0 := (U7.out.below hE).cell 0 _ rfl; have u1 := (U7.out.below hE).cell 1 _ rfl; have u2 := (U7.out.below hE).cell 2 _ rfl; have u3 := (U7.out.below hE).cell 3 _ rfl; have u4 := (U7.out.below hE).cell 4 _ rfl; have r0 := (R7.out.below hE).cell 0 _ rfl; have r1 := (R7.out.below hE).cell 1 _ rfl; have r2 := (R7.out.below hE).cell 2 _ rfl; have r3 := (R7.out.below hE).cell 3 _ rfl; have r4 := (R7.out.below hE).cell 4 _ rfl
          go_simp
          try with_reducible rfl
        simp only [Act.put, List.setIfInBounds_toArray, List.set_cons_zero, List.set_cons_succ]
      iterate 2
        refine growS_take (by rfl) ?_
        apply Exists.intro
        refine ⟨fun w' hE => ?_, ?_⟩
        · have u0 := (U7.out.below hE).cell 0 _ rfl; have u1 := (U7.out.below hE).cell 1 _ rfl; have u2 := (U7.out.below hE).cell 2 _ rfl; have u3 := (U7.out.below hE).cell 3 _ rfl; have u4 := (U7.out.below hE).cell 4 _ rfl; have r0 := (R7.out.below hE).cell 0 _ rfl; have r1 := (R7.out.below hE).cell 1 _ rfl; have r2 := (R7.out.below hE).cell 2 _ rfl; have r3 := (R7.out.below hE).cell 3 _ rfl; have r4 := (R7.out.below hE).cell 4 _ rfl
          go_simp
          try with_reducible rfl
        simp only [Act.put, List.setIfInBounds_toArray, List.set_cons_zero, List.set_cons_succ]
      refine growS_call (wantedS G48.out rfl rfl) (fun K hK => ?_)
      go_simp
      refine (works_any _ (HE.out.bel (HB7.out.trans (HEzb.out.mono HB7.out.size)))).mono ?_
      rintro en zc ⟨rfl, hb⟩
      have HEzc := Lib.hid (HEzb.out.trans (hb.mono HEzb.out.size))
      refine hK.out _ _ HEzc.out ?_
      clear hK K hb
      iterate 2
        refine growS_take (by rfl) ?_
        apply Exists.intro
        refine ⟨fun w' hE => ?_, ?_⟩
        · have u0 := (U7.out.below hE).cell 0 _ rfl; have u1 := (U7.out.below hE).cell 1 _ rfl; have u2 := (U7.out.below hE).cell 2 _ rfl; have u3 := (U7.out.below hE).cell 3 _ rfl; have u4 := (U7.out.below hE).cell 4 _ rfl; have r0 := (R7.out.below hE).cell 0 _ rfl; have r1 := (R7.out.below hE).cell 1 _ rfl; have r2 := (R7.out.below hE).cell 2 _ rfl; have r3 := (R7.out.below hE).cell 3 _ rfl; have r4 := (R7.out.below hE).cell 4 _ rfl
          go_simp
          try with_reducible rfl
        simp only [Act.put, List.setIfInBounds_toArray, List.set_cons_zero, List.set_cons_succ]
      refine growS_done (NoPanic.normal ?_)
      go_wp2_with fail
      go_ret
      exact ⟨rfl, HB7.out.trans (HEzc.out.mono HB7.out.size)⟩
    · have hT : T = [] := by
        have h := putY_bad (c := c0) (n := o) (r := r) (b := b2) (l := L2) (d := false) (by rw [hP2]; exact (by decide : (3 : Int) ≠ 0))
        rw [hP2] at h
        exact h
      subst hT
      go_wp2_with fail
      refine (HTZ.out _ HB5.out).mono ?_
      rintro en y6 ⟨A4, k4, rfl, hb⟩
      have hd : Below y6.heap.size y6 (y6.alloc (.cells #[.int .i64 0, .string ⟨#[]⟩, .int .i64 0, .slice A4 0 k4, .string ⟨#[]⟩] 32)) := (Below.refl _ _).alloc (Nat.le_refl _) _
      have hbd := hb.trans (hd.mono hb.size)
      have HB7 := Lib.hid (HB5.out.trans (hbd.mono HB5.out.size))
      clear hb hd hbd HB5 
      go_wp2_with fail
      generalize y6.alloc (.cells #[.int .i64 0, .string ⟨#[]⟩, .int .i64 0, .slice A4 0 k4, .string ⟨#[]⟩] 32) = y7 at *
      generalize y6.heap.size = g6 at *
      refine wp_region_growS (.one 0 false (.one 1 false (.one 2 false (.one 3 false (.one 4 false (.one 5 false (.one 6 false (.one 7 false (.one 8 false (.one 9 false (.one 10 false (.one 11 false (.one 12 false (.one 13 false (.one 14 false (.one 15 false (.one 16 false (.one 17 false (.one 18 false (.one 19 false (.one 20 false (.one 21 false (.one 22 false (.one 23 false (.one 24 false (.one 25 false (.one 26 false (.one 27 false (.one 28 false (.one 29 false (.one 30 false (.one 31 false (.one 32 false (.one 33 false (.one 34 false (.one 35 false (.one 36 false (.one 37 false (.one 38 false (.one 41 false (.one 42 false (.one 39 true (.one 40 false (.one 43 true (.one 44 false (.one 45 false (.one 46 false (.one 47 false (.one 48 false (.one 49 true (.one 50 false (.one 51 false .done))))))))))))))))))))))))))))))))))))))))))))))))))))
        (fun W => Below y7.heap.size y7 W) (by kernel_rfl) (by kernel_rfl) rfl (by kernel_rfl) (by kernel_rfl) (Below.refl _ _).drew (fun ops hops => ?_)
      simp only [GT.ins, List.getD_cons_zero, List.getD_cons_succ]
      have g2 : (ops[2]?).bind (·.dst) = some 109 := by rw [hops.out]; rfl
      have g5 : (ops[5]?).bind (·.dst) = some 112 := by rw [hops.out]; rfl
      have g9 : (ops[9]?).bind (·.dst) = some 116 := by rw [hops.out]; rfl
      have g15 : (ops[15]?).bind (·.dst) = some 122 := by rw [hops.out]; rfl
      have g22 : (ops[22]?).bind (·.dst) = some 129 := by rw [hops.out]; rfl
      have g29 : (ops[29]?).bind (·.dst) = some 136 := by rw [hops.out]; rfl
      have g36 : (ops[36]?).bind (·.dst) = some 143 := by rw [hops.out]; rfl
      have g48 : (ops[48]?).bind (·.dst) = some 155 := by rw [hops.out]; rfl
      have G2 := Lib.hid g2
      have G5 := Lib.hid g5
      have G9 := Lib.hid g9
      have G15 := Lib.hid g15
      have G22 := Lib.hid g22
      have G29 := Lib.hid g29
      have G36 := Lib.hid g36
      have G48 := Lib.hid g48
      clear hops g2 g5 g9 g15 g22 g29 g36 g48
      iterate 3
        refine growS_take (by rfl) ?_
        apply Exists.intro
        refine ⟨fun w' hE => ?_, ?_⟩
        · skip
          go_simp
          try with_reducible rfl
        simp only [Act.put, List.setIfInBounds_toArray, List.set_cons_zero, List.set_cons_succ]
      refine growS_skip (unwantedS G2.out rfl rfl) ?_
      simp only [Act.put, List.setIfInBounds_toArray, List.set_cons_zero, List.set_cons_succ]
      refine growS_skip (unwantedS G2.out rfl rfl) ?_
      simp only [Act.put, List.setIfInBounds_toArray, List.set_cons_zero, List.set_cons_succ]
      refine growS_skip (unwantedS G2.out rfl rfl) ?_
      simp only [Act.put, List.setIfInBounds_toArray, List.set_cons_zero, List.set_cons_succ]
      refine growS_skip (unwantedU G5.out rfl rfl) ?_
      simp only [Act.put, List.setIfInBounds_toArray, List.set_cons_zero, List.set_cons_succ]
      refine growS_skip (unwantedU G5.out rfl rfl) ?_
      simp only [Act.put, List.setIfInBounds_toArray, List.set_cons_zero, List.set_cons_succ]
      refine growS_skip (unwantedS G2.out rfl rfl) ?_
      simp only [Act.put, List.setIfInBounds_toArray, List.set_cons_zero, List.set_cons_succ]
      refine growS_skip (unwantedS G2.out rfl rfl) ?_
      simp only [Act.put, List.setIfInBounds_toArray, List.set_cons_zero, List.set_cons_succ]
      refine growS_skip (unwantedU G9.out rfl rfl) ?_
      simp only [Act.put, List.setIfInBounds_toArray, List.set_cons_zero, List.set_cons_succ]
      refine growS_skip (unwantedU G9.out rfl rfl) ?_
      simp only [Act.put, List.setIfInBounds_toArray, List.set_cons_zero, List.set_cons_succ]
      refine growS_skip (unwantedU G9.out rfl rfl) ?_
      simp only [Act.put, List.setIfInBounds_toArray, List.set_cons_zero, List.set_cons_succ]
      refine growS_skip (unwantedU G9.out rfl rfl) ?_
      simp only [Act.put, List.setIfInBounds_toArray, List.set_cons_zero, List.set_cons_succ]
      refine growS_skip (unwantedS G2.out rfl rfl) ?_
      simp only [Act.put, List.setIfInBounds_toArray, List.set_cons_zero, List.set_cons_succ]
      refine growS_skip (unwantedS G2.out rfl rfl) ?_
      simp only [Act.put, List.setIfInBounds_toArray, List.set_cons_zero, List.set_cons_succ]
      refine growS_skip (unwantedU G15.out rfl rfl) ?_
      simp only [Act.put, List.setIfInBounds_toArray, List.set_cons_zero, List.set_cons_succ]
      refine growS_skip (unwantedU G15.out rfl rfl) ?_
      simp only [Act.put, List.setIfInBounds_toArray, List.set_cons_zero, List.set_cons_succ]
      refine growS_skip (unwantedU G15.out rfl rfl) ?_
      simp only [Act.put, List.setIfInBounds_toArray, List.set_cons_zero, List.set_cons_succ]
      refine growS_skip (unwantedU G15.out rfl rfl) ?_
      simp only [Act.put, List.setIfInBounds_toArray, List.set_cons_zero, List.set_cons_succ]
      refine growS_skip (unwantedU G15.out rfl rfl) ?_
      simp only [Act.put, List.setIfInBounds_toArray, List.set_cons_zero, List.set_cons_succ]
      refine growS_skip (unwantedS G2.out rfl rfl) ?_
      simp only [Act.put, List.setIfInBounds_toArray, List.set_cons_zero, List.set_cons_succ]
      refine growS_skip (unwantedS G2.out rfl rfl) ?_
      simp only [Act.put, List.setIfInBounds_toArray, List.set_cons_zero, List.set_cons_succ]
      refine growS_skip (unwantedU G22.out rfl rfl) ?_
      simp only [Act.put, List.setIfInBounds_toArray, List.set_cons_zero, List.set_cons_succ]
      refine growS_skip (unwantedU G22.out rfl rfl) ?_
      simp only [Act.put, List.setIfInBounds_toArray, List.set_cons_zero, List.set_cons_succ]
      refine growS_skip (unwantedU G22.out rfl rfl) ?_
      simp only [Act.put, List.setIfInBounds_toArray, List.set_cons_zero, List.set_cons_succ]
      refine growS_skip (unwantedU G22.out rfl rfl) ?_
      simp only [Act.put, List.setIfInBounds_toArray, List.set_cons_zero, List.set_cons_succ]
      refine growS_skip (unwantedU G22.out rfl rfl) ?_
      simp only [Act.put, List.setIfInBounds_toArray, List.set_cons_zero, List.set_cons_succ]
      refine growS_skip (unwantedS G2.out rfl rfl) ?_
      simp only [Act.put, List.setIfInBounds_toArray, List.set_cons_zero, List.set_cons_succ]
      refine growS_skip (unwantedS G2.out rfl rfl) ?_
      simp only [Act.put, List.setIfInBounds_toArray, List.set_cons_zero, List.set_cons_succ]
      refine growS_skip (unwantedU G29.out rfl rfl) ?_
      simp only [Act.put, List.setIfInBounds_toArray, List.set_cons_zero, List.set_cons_succ]
      refine growS_skip (unwantedU G29.out rfl rfl) ?_
      simp only [Act.put, List.setIfInBounds_toArray, List.set_cons_zero, List.set_cons_succ]
      refine growS_skip (unwantedU G29.out rfl rfl) ?_
      simp only [Act.put, List.setIfInBounds_toArray, List.set_cons_zero, List.set_cons_succ]
      refine growS_skip (unwantedU G29.out rfl rfl) ?_
      simp only [Act.put, List.setIfInBounds_toArray, List.set_cons_zero, List.set_cons_succ]
      refine growS_skip (unwantedU G29.out rfl rfl) ?_
      simp only [Act.put, List.setIfInBounds_toArray, List.set_cons_zero, List.set_cons_succ]
      refine growS_skip (unwantedS G2.out rfl rfl) ?_
      simp only [Act.put, List.setIfInBounds_toArray, List.set_cons_zero, List.set_cons_succ]
      refine growS_skip (unwantedS G2.out rfl rfl) ?_
      simp only [Act.put, List.setIfInBounds_toArray, List.set_cons_zero, List.set_cons_succ]
      refine growS_skip (unwantedU G36.out rfl rfl) ?_
      simp only [Act.put, List.setIfInBounds_toArray, List.set_cons_zero, List.set_cons_succ]
      refine growS_skip (unwantedU G36.out rfl rfl) ?_
      simp only [Act.put, List.setIfInBounds_toArray, List.set_cons_zero, List.set_cons_succ]
      refine growS_skip (unwantedU G36.out rfl rfl) ?_
      simp only [Act.put, List.setIfInBounds_toArray, List.set_cons_zero, List.set_cons_succ]
      refine growS_skip (unwantedU G36.out rfl rfl) ?_
      simp only [Act.put, List.setIfInBounds_toArray, List.set_cons_zero, List.set_cons_succ]
      refine growS_skip (unwantedU G36.out rfl rfl) ?_
      simp only [Act.put, List.setIfInBounds_toArray, List.set_cons_zero, List.set_cons_succ]
      refine growS_skip (unwantedU G36.out rfl rfl) ?_
      simp only [Act.put, List.setIfInBounds_toArray, List.set_cons_zero, List.set_cons_succ]
      refine growS_skip (unwantedU G36.out rfl rfl) ?_
      simp only [Act.put, List.setIfInBounds_toArray, List.set_cons_zero, List.set_cons_succ]
      refine growS_skip (unwantedU G36.out rfl rfl) ?_
      simp only [Act.put, List.setIfInBounds_toArray, List.set_cons_zero, List.set_cons_succ]
      refine growS_skip (unwantedU G36.out rfl rfl) ?_
      simp only [Act.put, List.setIfInBounds_toArray, List.set_cons_zero, List.set_cons_succ]
      refine growS_skip (unwantedS G2.out rfl rfl) ?_
      simp only [Act.put, List.setIfInBounds_toArray, List.set_cons_zero, List.set_cons_succ]
      iterate 2
        refine growS_take (by rfl) ?_
        apply Exists.intro
        refine ⟨fun w' hE => ?_, ?_⟩
        · skip
          go_simp
          try with_reducible rfl
        simp only [Act.put, List.setIfInBounds_toArray, List.set_cons_zero, List.set_cons_succ]
      refine growS_call (wantedS G48.out rfl rfl) (fun K hK => ?_)
      go_simp
      refine (works_any _ (HE.out.bel (HB7.out.trans ((Below.refl _ _).drew)))).mono ?_
      rintro en zc ⟨rfl, hb⟩
      have HEzc := Lib.hid (((Below.refl _ _).drew : Below y7.heap.size y7 y7.drew).trans hb)
      refine hK.out _ _ HEzc.out ?_
      clear hK K hb
      iterate 2
        refine growS_take (by rfl) ?_
        apply Exists.intro
        refine ⟨fun w' hE => ?_, ?_⟩
        · skip
          go_simp
          try with_reducible rfl
        simp only [Act.put, List.setIfInBounds_toArray, List.set_cons_zero, List.set_cons_succ]
      refine growS_done (NoPanic.normal ?_)
      go_wp2_with fail
      go_ret
      exact ⟨rfl, HB7.out.trans (HEzc.out.mono HB7.out.size)⟩
  · have hn2 : (g2 != 0) = true := by simpa using hg2
    go_wp2_with fail
    refine (works_any _ (HE.out.bel HB4.out)).mono ?_
    rintro en yz ⟨rfl, hbz⟩
    have HZ := Lib.hid (HB4.out.trans (hbz.mono HB4.out.size))
    clear hbz
    go_wp2_with fail
    go_ret
    exact ⟨rfl, HZ.out⟩
end Go.Proofs.YtgkjjmcjlobbpaaGreatDoor
