/- The statement VarySelects. -/
import Derived.Test.YtmlgmpjbjbjaoaaVaryG
import Derived.Test.YtmlgmpjbjbjaoaaKOpen
namespace Go.Proofs.Ytmlgmpjbjbjaoaa
open Go.RowKit Go.Shelf

theorem vbk.eight {w : World} {b : Nat} {x0 x1 x2 x3 x4 x5 x6 x7 : Value} (h : vbk w b #[x0, x1, x2, x3, x4, x5, x6, x7]) :
    w.cell? ⟨b, 0, none⟩ = some x0 ∧ w.cell? ⟨b, 1, none⟩ = some x1 ∧ w.cell? ⟨b, 2, none⟩ = some x2 ∧ w.cell? ⟨b, 3, none⟩ = some x3 ∧ w.cell? ⟨b, 4, none⟩ = some x4 ∧ w.cell? ⟨b, 5, none⟩ = some x5 ∧ w.cell? ⟨b, 6, none⟩ = some x6 ∧ w.cell? ⟨b, 7, none⟩ = some x7 :=
  ⟨h.cell 0 _ rfl, h.cell 1 _ rfl, h.cell 2 _ rfl, h.cell 3 _ rfl, h.cell 4 _ rfl, h.cell 5 _ rfl, h.cell 6 _ rfl, h.cell 7 _ rfl⟩
variable {a0 a1 a2 a3 a4 a5 a6 vv : Value}
set_option maxRecDepth 100000 in
set_option maxHeartbeats 8000000 in
theorem varySelects_law (v1 : Value) (N : List (List UInt8)) (v2 : Value) (l : List Fld) {vary : List Fld} (w : World) (h1 : SL w v1 N) (s1 : ∀ j (hj : j < N.length), N[j].length ≤ 9223372036854775807) (n1 : N.length ≤ 9223372036854775807)
    (h2 : FL w v2 l) (z2 : SzF l) (h3 : FL w vv vary) (z3 : SzF vary) :
    Calls Try.prog 4 #[v1, v2, .agg #[a0, a1, a2, a3, a4, a5, a6, vv]] w fun e w' => e = .returned (.bool true) ∧ Below w.heap.size w w' := by
  obtain ⟨A1, c1, rfl⟩ := h1.form
  obtain ⟨A2, c2, hv2⟩ := h2.form
  obtain ⟨A3, c3, hv3⟩ := h3.form
  subst hv2 hv3
  have HX : Hid (Below w.heap.size w (w.alloc (.cells #[a0, a1, a2, a3, a4, a5, a6, .slice A3 vary.length c3] 33))) := (Below.refl _ _).alloc (Nat.le_refl _) _
  have HD := Lib.hid (vbk.new w #[a0, a1, a2, a3, a4, a5, a6, .slice A3 vary.length c3] 33)
  have hf2 := fun W (hb : Below w.heap.size w W) => z2.few (h2.bel hb)
  have hf3 := fun W (hb : Below w.heap.size w W) => z3.few (h3.bel hb)
  have HW := Lib.hid vawake_any
  have H1 := Lib.hid h1; have S1 := Lib.hid s1
  clear h1 s1
  cases q2 : fewV l
  · rw [q2] at hf2
    have HF2 := Lib.hid hf2; clear hf2 hf3 h2 z2 h3 z3 q2 n1
    go_enter Try.func4, Try.ntmps4
    go_wp2_with fail
    refine (HF2.out _ HX.out).mono ?_
    rintro e w1 ⟨rfl, hb⟩
    have HB1 := Lib.hid (HX.out.trans (hb.mono HX.out.size)); clear hb
    go_wp2_with fail
    refine (HW.out _).mono ?_
    rintro e w2 ⟨rfl, hb⟩
    have HB2 := Lib.hid (HB1.out.trans (hb.mono HB1.out.size)); clear hb
    go_wp2_with fail
    go_ret
    exact ⟨rfl, HB2.out⟩
  cases q3 : fewV vary
  · rw [q2] at hf2
    rw [q3] at hf3
    have HF2 := Lib.hid hf2; have HF3 := Lib.hid hf3; clear hf2 hf3 h2 z2 h3 z3 q2 q3 n1
    go_enter Try.func4, Try.ntmps4
    go_wp2_with fail
    refine (HF2.out _ HX.out).mono ?_
    rintro e w1 ⟨rfl, hb⟩
    have HB1 := Lib.hid (HX.out.trans (hb.mono HX.out.size)); have hc := (HD.out.below hb).cell 7 _ rfl; clear hb
    go_wp2_with fail
    refine (HF3.out _ HB1.out).mono ?_
    rintro e w2 ⟨rfl, hb⟩
    have HB2 := Lib.hid (HB1.out.trans (hb.mono HB1.out.size)); clear hb hc
    go_wp2_with fail
    refine (HW.out _).mono ?_
    rintro e w3 ⟨rfl, hb⟩
    have HB3 := Lib.hid (HB2.out.trans (hb.mono HB2.out.size)); clear hb
    go_wp2_with fail
    go_ret
    exact ⟨rfl, HB3.out⟩
  rw [q2] at hf2
  rw [q3] at hf3
  have HF2 := Lib.hid hf2; have HF3 := Lib.hid hf3; clear hf2 hf3 z2 z3
  by_cases hn : 40 < N.length
  · have hn' : (40 : Int) < (N.length : Int) := by omega
    clear hn h2 h3 q2 q3
    go_enter Try.func4, Try.ntmps4
    go_wp2_with fail
    refine (HF2.out _ HX.out).mono ?_
    rintro e w1 ⟨rfl, hb⟩
    have HB1 := Lib.hid (HX.out.trans (hb.mono HX.out.size)); have hc := (HD.out.below hb).cell 7 _ rfl; clear hb
    go_wp2_with fail
    refine (HF3.out _ HB1.out).mono ?_
    rintro e w2 ⟨rfl, hb⟩
    have HB2 := Lib.hid (HB1.out.trans (hb.mono HB1.out.size)); clear hb hc
    go_wp2_with fail
    refine (HW.out _).mono ?_
    rintro e w3 ⟨rfl, hb⟩
    have HB3 := Lib.hid (HB2.out.trans (hb.mono HB2.out.size)); clear hb
    go_wp2_with fail
    go_ret
    exact ⟨rfl, HB3.out⟩
  · have hn' : ¬ (40 : Int) < (N.length : Int) := by omega
    have hl2 := fewV_vf q2
    have hl3 := (fewV_vf q3).small
    have hl4 := (fewV_vf q3).1
    have HG1 := Lib.hid fun W (hb : Below w.heap.size w W) (hN : ∀ n ∈ N, n.length ≤ 65536) => vselect_any W (H1.out.bel hb) (h2.bel hb) hl2 hN (by omega)
    have HG2 := Lib.hid fun W (hb : Below w.heap.size w W) (hN : ∀ n ∈ N, n.length ≤ 65536) => rvselect_any W (H1.out.bel hb) (h2.bel hb) hl2 hN (by omega)
    have HG3 := Lib.hid fun W (hb : Below w.heap.size w W) => vmatches_any (a0 := a0) (a1 := a1) (a2 := a2) (a3 := a3) (a4 := a4) (a5 := a5) (a6 := a6) W (h3.bel hb) (h2.bel hb) hl2 hl3 (by omega)
    have HG4 := Lib.hid fun W (hb : Below w.heap.size w W) => rvmatches_any (a0 := a0) (a1 := a1) (a2 := a2) (a3 := a3) (a4 := a4) (a5 := a5) (a6 := a6) W (h3.bel hb) (h2.bel hb) hl2 hl3 (by omega)
    have hq := select_len N l
    have HQL : Hid ((selectL N l).length ≤ 40) := by show _ ≤ _; omega
    clear h2 h3 q2 q3 hl2 hl3 hl4 hq
    generalize selectL N l = Q at *
    generalize matchB vary l = m at *
    go_enter Try.func4, Try.ntmps4
    go_wp2_with fail
    refine (HF2.out _ HX.out).mono ?_
    rintro e w1 ⟨rfl, hb⟩
    have HB1 := Lib.hid (HX.out.trans (hb.mono HX.out.size)); have hc := (HD.out.below hb).cell 7 _ rfl; have HD1 := Lib.hid (HD.out.below hb); clear hb HD
    go_wp2_with fail
    refine (HF3.out _ HB1.out).mono ?_
    rintro e w2 ⟨rfl, hb⟩
    have HB2 := Lib.hid (HB1.out.trans (hb.mono HB1.out.size)); have HD2 := Lib.hid (HD1.out.below hb); clear hb hc HD1
    go_wp2_with fail
    go_loopw [7] (fun i wr => ∃ k : Nat, k ≤ N.length ∧ i = .int .i64 k ∧ (∀ x ∈ N.take k, x.length ≤ 200) ∧ Below w2.heap.size w2 wr) (fun i _ => N.length - (intOf i).toNat)
    case atStart => exact ⟨0, Nat.zero_le _, rfl, fun x hx => by simp at hx, Below.refl _ _⟩
    case round =>
      obtain ⟨k, hk, rfl, ha, hb⟩ := hrel
      have HA := Lib.hid ha; have HBL := Lib.hid hb; clear ha hb
      have HBr := Lib.hid (HB2.out.trans (HBL.out.mono HB2.out.size))
      by_cases hlt : k < N.length
      · obtain ⟨b, off, rfl, hbb, hcl⟩ := (H1.out.bel HBr.out).get k hlt
        have hsz := S1.out k hlt
        have hst : N.take (k + 1) = N.take k ++ [N[k]] := List.take_succ_eq_append_getElem hlt
        have HST := Lib.hid hst; clear hst
        generalize N[k] = x at *
        by_cases h200 : 200 < x.length
        · have hd : (200 : Int) < (x.length : Int) := by omega
          clear h200
          go_wp2_with fail
          refine (HW.out _).mono ?_
          rintro e w3 ⟨rfl, hb⟩
          have HB3 := Lib.hid (HBr.out.trans (hb.mono HBr.out.size)); clear hb
          go_wp2_with fail
          go_ret
          exact ⟨rfl, HB3.out⟩
        · have hd : ¬ (200 : Int) < (x.length : Int) := by omega
          have HA2 : Hid (∀ y ∈ N.take (k + 1), y.length ≤ 200) := fun y hy => by
            rw [HST.out] at hy
            rcases List.mem_append.1 hy with hy | hy
            · exact HA.out y hy
            · obtain rfl : y = x := by simpa using hy
              omega
          clear h200
          go_wp2_with fail
          go_roundw
          case rel => exact ⟨k + 1, by omega, by go_num, HA2.out, HBL.out⟩
          case measure => simp [intOf]; omega
      · have hN : ∀ n ∈ N, n.length ≤ 65536 := fun n hn => by
          have h := HA.out
          rw [List.take_of_length_le (by omega)] at h
          have := h n hn
          omega
        have HS1 := Lib.hid fun W (hb : Below wr.heap.size wr W) => HG1.out W (HBr.out.trans (hb.mono HBr.out.size)) hN
        have HS2 := Lib.hid fun W (hb : Below wr.heap.size wr W) => HG2.out W (HBr.out.trans (hb.mono HBr.out.size)) hN
        have HM1 := Lib.hid fun W (hb : Below wr.heap.size wr W) => HG3.out W (HBr.out.trans (hb.mono HBr.out.size))
        have HM2 := Lib.hid fun W (hb : Below wr.heap.size wr W) => HG4.out W (HBr.out.trans (hb.mono HBr.out.size))
        have HD := Lib.hid (HD2.out.below HBL.out)
        clear HG1 HG2 HG3 HG4 hN HA HBL HD2
        go_wp2_with fail
        generalize wr = C at *
        cases m
        all_goals
          refine wp_region_growS (.one 0 false (.one 1 false (.one 3 false (.one 4 false (.one 2 true (.one 5 true (.one 6 true (.one 7 false (.one 8 false (.one 9 false (.one 11 false (.one 12 false (.one 10 true (.one 13 true (.one 14 false (.one 15 false (.one 16 false (.one 17 true (.one 18 false (.one 19 false .done))))))))))))))))))))
            (fun W => Below C.heap.size C W) (by kernel_rfl) (by kernel_rfl) rfl (by kernel_rfl) (by kernel_rfl) ((Below.refl _ _).drew) (fun ops hops => ?_)
          simp only [GT.ins, List.getD_cons_zero, List.getD_cons_succ]
          have g7 : (ops[7]?).bind (·.dst) = some 43 := by rw [hops.out]; rfl
          have g16 : (ops[16]?).bind (·.dst) = some 52 := by rw [hops.out]; rfl
          have G7 := Lib.hid g7
          have G16 := Lib.hid g16
          clear hops g7 g16
          iterate 4
            refine growS_take (by rfl) ?_
            apply Exists.intro
            refine ⟨fun w' hE => ?_, ?_⟩
            · obtain ⟨y0, y1, y2, y3, y4, y5, y6, y7⟩ := (HD.out.below hE).eight
              go_simp
              try with_reducible rfl
            simp only [Act.put, List.setIfInBounds_toArray, List.set_cons_zero, List.set_cons_succ]
          refine growS_call (by rfl) (fun K hK => ?_)
          go_simp
          refine (HS1.out _ ((Below.refl _ _).drew : Below C.heap.size C C.drew)).mono ?_
          rintro e x1 ⟨u1, rfl, ho1, hb⟩
          have hz : Below C.heap.size C x1 := ((Below.refl _ _).drew : Below C.heap.size C C.drew).trans (hb.mono ((Below.refl _ _).drew : Below C.heap.size C C.drew).size)
          have HZ1 := Lib.hid hz
          have HU1 := Lib.hid ho1.fl
          obtain ⟨B1, e1, rfl⟩ := ho1.form
          refine hK.out _ _ hz ?_
          clear hK K hb hz ho1
          refine growS_call (by rfl) (fun K hK => ?_)
          go_simp
          refine (HS2.out _ HZ1.out).mono ?_
          rintro e x2 ⟨u2, rfl, ho2, hb⟩
          have hz : Below C.heap.size C x2 := HZ1.out.trans (hb.mono HZ1.out.size)
          have HZ2 := Lib.hid hz
          have HU2 := Lib.hid ho2.fl
          have HU3 := Lib.hid (HU1.out.bel hb)
          obtain ⟨B2, e2, rfl⟩ := ho2.form
          refine hK.out _ _ hz ?_
          clear hK K hb hz HZ1 ho2 HU1
          refine growS_call (by rfl) (fun K hK => ?_)
          go_simp
          have hsm := rvsame_any _ _ Q Q x2 HU3.out HU2.out (by have := HQL.out; omega)
          rw [show (Q == Q) = true from by simp] at hsm
          refine (hsm).mono ?_
          rintro e x3 ⟨rfl, hb⟩
          have hz : Below C.heap.size C x3 := HZ2.out.trans (hb.mono HZ2.out.size)
          have HZ3 := Lib.hid hz
          refine hK.out _ _ hz ?_
          clear hK K hb hz HZ2 hsm HU2 HU3
          iterate 1
            refine growS_take (by rfl) ?_
            apply Exists.intro
            refine ⟨fun w' hE => ?_, ?_⟩
            · obtain ⟨y0, y1, y2, y3, y4, y5, y6, y7⟩ := (HD.out.below hE).eight
              go_simp
              try with_reducible rfl
            simp only [Act.put, List.setIfInBounds_toArray, List.set_cons_zero, List.set_cons_succ]
          iterate 4
            refine growS_take (wantedS G7.out rfl rfl) ?_
            apply Exists.intro
            refine ⟨fun w' hE => ?_, ?_⟩
            · obtain ⟨y0, y1, y2, y3, y4, y5, y6, y7⟩ := (HD.out.below hE).eight
              go_simp
              try with_reducible rfl
            simp only [Act.put, List.setIfInBounds_toArray, List.set_cons_zero, List.set_cons_succ]
          refine growS_call (wantedS G7.out rfl rfl) (fun K hK => ?_)
          go_simp
          refine (HM1.out _ HZ3.out).mono ?_
          rintro e x4 ⟨rfl, hb⟩
          have hz : Below C.heap.size C x4 := HZ3.out.trans (hb.mono HZ3.out.size)
          have HZ4 := Lib.hid hz
          refine hK.out _ _ hz ?_
          clear hK K hb hz HZ3
          refine growS_call (wantedS G7.out rfl rfl) (fun K hK => ?_)
          go_simp
          refine (HM2.out _ HZ4.out).mono ?_
          rintro e x5 ⟨rfl, hb⟩
          have hz : Below C.heap.size C x5 := HZ4.out.trans (hb.mono HZ4.out.size)
          have HZ5 := Lib.hid hz
          refine hK.out _ _ hz ?_
          clear hK K hb hz HZ4
          iterate 1
            refine growS_take (wantedS G7.out rfl rfl) ?_
            apply Exists.intro
            refine ⟨fun w' hE => ?_, ?_⟩
            · obtain ⟨y0, y1, y2, y3, y4, y5, y6, y7⟩ := (HD.out.below hE).eight
              go_simp
              try with_reducible rfl
            simp only [Act.put, List.setIfInBounds_toArray, List.set_cons_zero, List.set_cons_succ]
          iterate 2
            refine growS_take (by rfl) ?_
            apply Exists.intro
            refine ⟨fun w' hE => ?_, ?_⟩
            · obtain ⟨y0, y1, y2, y3, y4, y5, y6, y7⟩ := (HD.out.below hE).eight
              go_simp
              try with_reducible rfl
            simp only [Act.put, List.setIfInBounds_toArray, List.set_cons_zero, List.set_cons_succ]
          refine growS_call (wantedS G16.out rfl rfl) (fun K hK => ?_)
          go_simp
          refine (HW.out _).mono ?_
          rintro e x6 ⟨rfl, hb⟩
          have hz : Below C.heap.size C x6 := HZ5.out.trans (hb.mono HZ5.out.size)
          have HZ6 := Lib.hid hz
          refine hK.out _ _ hz ?_
          clear hK K hb hz HZ5
          iterate 2
            refine growS_take (by rfl) ?_
            apply Exists.intro
            refine ⟨fun w' hE => ?_, ?_⟩
            · obtain ⟨y0, y1, y2, y3, y4, y5, y6, y7⟩ := (HD.out.below hE).eight
              go_simp
              try with_reducible rfl
            simp only [Act.put, List.setIfInBounds_toArray, List.set_cons_zero, List.set_cons_succ]
          refine growS_done (NoPanic.normal ?_)
          try simp only [Exit.then]
          go_wp2_with fail
          go_ret
          exact ⟨rfl, HBr.out.trans (HZ6.out.mono HBr.out.size)⟩
end Go.Proofs.Ytmlgmpjbjbjaoaa
