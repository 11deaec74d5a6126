/- The statement VaryChooses, the stage's theorem. -/
import Derived.Test.YtmlgmpjbjbjaoaaVaryH
namespace Go.Proofs.Ytmlgmpjbjbjaoaa
open Go.RowKit Go.Shelf

theorem wp_meetW {P : Program} {c : Code} {Q : Exit → Act → World → Prop} {a : Act} {w : World} {act : Nat → Option Addr → Nat → Act} (Good : Nat → Option Addr → Nat → World → Prop)
    (h1 : c.wp P (fun e a' w' => ∃ g u k, e = .normal ∧ a' = act g u k ∧ Good g u k w') a w)
    (h2 : ∀ g u k w', Good g u k w' → Q .normal (act g u k) w') : c.wp P Q a w :=
  Code.wp_mono (by rintro e a' w' ⟨g, u, k, rfl, rfl, h⟩; exact h2 g u k w' h) h1
theorem vbk.free {w : World} {b : Nat} {cs : Array Value} (h : vbk w b cs) (j : Nat) : w.frozen? ⟨b, j, none⟩ = false := by
  obtain ⟨T, h⟩ := h
  simp [World.frozen?, h]
theorem vbk.set {w : World} {b : Nat} {cs : Array Value} (h : vbk w b cs) (j : Nat) (u : Value) : vbk (w.setCell ⟨b, j, none⟩ u) b (cs.setIfInBounds j u) := by
  obtain ⟨T, h⟩ := h
  exact ⟨T, Lib.heap_setCell_same h u⟩
theorem FL.keepG {w w' : World} {v : Value} {l : List Fld} (h : FL w v l) (hk : ∀ g, v.ownBlock = some g → w'.heap[g]? = w.heap[g]?) (hz : w.heap.size ≤ w'.heap.size) : FL w' v l := by
  rcases h with h | ⟨b, off, c, rfl, hb, hc⟩
  · exact .inl h
  · refine .inr ⟨b, off, c, rfl, by omega, fun j hj => ?_⟩
    rw [World.cell?_of_block (a := ⟨b, off + j * 2, none⟩) (hk b rfl), World.cell?_of_block (a := ⟨b, off + j * 2 + 1, none⟩) (hk b rfl)]
    exact hc j hj

set_option maxRecDepth 100000 in
set_option maxHeartbeats 16000000 in
theorem varyChooses_law {st mi : Int} {re bo : ByteArray} {fs : Value} {l : List Fld} (va : Value) (la : List Fld) (vb : Value) (lb : List Fld) (w : World) (h0 : FL w fs l) (z0 : SzF l)
    (h1 : FL w va la) (z1 : SzF la) (h2 : FL w vb lb) (z2 : SzF lb) :
    Calls Try.prog 6 #[.agg #[.int .i64 st, .string re, .int .i64 mi, fs, .string bo], va, vb] w fun e w' => e = .returned (.bool true) ∧ Below w.heap.size w w' := by
  obtain ⟨Ar, cr, hv0⟩ := h0.form
  obtain ⟨Aa, ca, hv1⟩ := h1.form
  obtain ⟨Ab, cb, hv2⟩ := h2.form
  subst hv0 hv1 hv2
  have HX : Hid (Below w.heap.size w (w.alloc (.cells #[.int .i64 st, .string re, .int .i64 mi, .slice Ar l.length cr, .string bo] 24))) := (Below.refl _ _).alloc (Nat.le_refl _) _
  have HD := Lib.hid (vbk.new w #[.int .i64 st, .string re, .int .i64 mi, .slice Ar l.length cr, .string bo] 24)
  have hf0 := fun W (hb : Below w.heap.size w W) => z0.few (h0.bel hb)
  have hf1 := fun W (hb : Below w.heap.size w W) => z1.few (h1.bel hb)
  have hf2 := fun W (hb : Below w.heap.size w W) => z2.few (h2.bel hb)
  have HW := Lib.hid vawake_any
  clear z0 z1 z2
  cases q0 : fewV l
  · rw [q0] at hf0
    have HF0 := Lib.hid hf0; clear hf0 hf1 hf2 h0 h1 h2 q0 HD
    go_enter Try.func6, Try.ntmps6
    go_wp2_with fail
    refine (HF0.out _ HX.out).mono ?_
    rintro e w1 ⟨rfl, hb⟩
    have HB1 := Lib.hid (HX.out.trans (hb.mono HX.out.size)); clear hb
    go_wp2_with fail
    refine (HW.out _).mono ?_
    rintro e w2 ⟨rfl, hb⟩
    have HB2 := Lib.hid (HB1.out.trans (hb.mono HB1.out.size)); clear hb
    go_wp2_with fail
    go_ret
    exact ⟨rfl, HB2.out⟩
  cases q1 : fewV la
  · rw [q0] at hf0
    rw [q1] at hf1
    have HF0 := Lib.hid hf0; have HF1 := Lib.hid hf1; clear hf0 hf1 hf2 h0 h1 h2 q0 q1 HD
    go_enter Try.func6, Try.ntmps6
    go_wp2_with fail
    refine (HF0.out _ HX.out).mono ?_
    rintro e w1 ⟨rfl, hb⟩
    have HB1 := Lib.hid (HX.out.trans (hb.mono HX.out.size)); clear hb
    go_wp2_with fail
    refine (HF1.out _ HB1.out).mono ?_
    rintro e w2 ⟨rfl, hb⟩
    have HB2 := Lib.hid (HB1.out.trans (hb.mono HB1.out.size)); clear hb
    go_wp2_with fail
    refine (HW.out _).mono ?_
    rintro e w3 ⟨rfl, hb⟩
    have HB3 := Lib.hid (HB2.out.trans (hb.mono HB2.out.size)); clear hb
    go_wp2_with fail
    go_ret
    exact ⟨rfl, HB3.out⟩
  cases q2 : fewV lb
  · rw [q0] at hf0
    rw [q1] at hf1
    rw [q2] at hf2
    have HF0 := Lib.hid hf0; have HF1 := Lib.hid hf1; have HF2 := Lib.hid hf2; clear hf0 hf1 hf2 h0 h1 h2 q0 q1 q2 HD
    go_enter Try.func6, Try.ntmps6
    go_wp2_with fail
    refine (HF0.out _ HX.out).mono ?_
    rintro e w1 ⟨rfl, hb⟩
    have HB1 := Lib.hid (HX.out.trans (hb.mono HX.out.size)); clear hb
    go_wp2_with fail
    refine (HF1.out _ HB1.out).mono ?_
    rintro e w2 ⟨rfl, hb⟩
    have HB2 := Lib.hid (HB1.out.trans (hb.mono HB1.out.size)); clear hb
    go_wp2_with fail
    refine (HF2.out _ HB2.out).mono ?_
    rintro e w3 ⟨rfl, hb⟩
    have HB3 := Lib.hid (HB2.out.trans (hb.mono HB2.out.size)); clear hb
    go_wp2_with fail
    refine (HW.out _).mono ?_
    rintro e w4 ⟨rfl, hb⟩
    have HB4 := Lib.hid (HB3.out.trans (hb.mono HB3.out.size)); clear hb
    go_wp2_with fail
    go_ret
    exact ⟨rfl, HB4.out⟩
  rw [q0] at hf0
  rw [q1] at hf1
  rw [q2] at hf2
  have HF0 := Lib.hid hf0; have HF1 := Lib.hid hf1; have HF2 := Lib.hid hf2; clear hf0 hf1 hf2
  have hl0 := fewV_vf q0
  have hl1 := fewV_vf q1
  have hl2 := fewV_vf q2
  obtain ⟨hN1, hN2⟩ := hl0.vals varyN
  have hnn : allB (valsL l varyN) = false → ∀ y ∈ namesA (valsL l varyN), NameB y := fun h => names_mem h
  have hnz := namesA_size hN2
  have hnl := namesA_len hN1
  have hna : allB (valsL l varyN) = true → namesA (valsL l varyN) = [] := fun h => by unfold namesA; rw [h]; rfl
  have hnp := fun W (hb : Below w.heap.size w W) => vnames_any (st := st) (mi := mi) (re := re) (bo := bo) W (h0.bel hb) hl0
  unfold RetN at hnp
  generalize valsL l varyN = N at *
  have HNP := Lib.hid hnp
  clear hnp hl0 hN1 hN2 q0 q1 q2 h0
  cases ha : allB N
  · rw [ha] at HNP
    have HNN := Lib.hid (hnn ha)
    clear hnn hna ha
    generalize namesA N = L at *
    have HSA0 := Lib.hid fun W vL (hb : Below w.heap.size w W) (hN : SL W vL L) => vselect_any W hN (h1.bel hb) hl1 hnz (by omega)
    have HSB0 := Lib.hid fun W vL (hb : Below w.heap.size w W) (hN : SL W vL L) => vselect_any W hN (h2.bel hb) hl2 hnz (by omega)
    have hsm : ∀ x ∈ selectL L la, x.1.length ≤ 65536 ∧ x.2.length ≤ 100000000 := fun x hx => by
      unfold selectL at hx
      obtain ⟨n, hn, rfl⟩ := List.mem_map.1 hx
      exact ⟨hnz n hn, valueL_len hl1 n⟩
    have hsF : smallF (selectL L la) := fun j hj => by
      have := hsm _ (List.getElem_mem hj)
      omega
    have hql := select_len L la
    have HMA0 := Lib.hid fun W vu (hb : Below w.heap.size w W) (hu : FL W vu (selectL L la)) => vmatches_any (a0 := .int .i64 st) (a1 := .string re) (a2 := .int .i64 mi) (a3 := .slice Ar l.length cr) (a4 := .string bo) (a5 := .int .i64 0) (a6 := .int .i64 0) W hu (h1.bel hb) hl1 hsF (by omega)
    have HMB0 := Lib.hid fun W vu (hb : Below w.heap.size w W) (hu : FL W vu (selectL L la)) => vmatches_any (a0 := .int .i64 st) (a1 := .string re) (a2 := .int .i64 mi) (a3 := .slice Ar l.length cr) (a4 := .string bo) (a5 := .int .i64 0) (a6 := .int .i64 0) W hu (h2.bel hb) hl2 hsF (by omega)
    rw [match_self] at HMA0
    rw [match_select] at HMB0
    have HSM0 := Lib.hid fun W v1 v2 (hu : FL W v1 (selectL L la)) (hv : FL W v2 (selectL L lb)) => vsame_any v1 v2 (selectL L la) (selectL L lb) W hu hv (by omega)
    have hne : (((selectL L la).length : Int) != (L.length : Int)) = false := by rw [hql]; simp
    have HNE : Hid ((((selectL L la).length : Int) != (L.length : Int)) = false) := hne
    have HNL : Hid (L.length ≤ 64000) := hnl
    have HNZ := Lib.hid hnz
    clear hl1 hl2 hsm hsF hql hne hnl hnz h1 h2
    generalize (selectL L la == selectL L lb) = m at *
    generalize selectL L lb = R at *
    generalize selectL L la = Q at *
    go_enter Try.func6, Try.ntmps6
    go_wp2_with fail
    refine (HF0.out _ HX.out).mono ?_
    rintro e w1 ⟨rfl, hb⟩
    have HB1 := Lib.hid (HX.out.trans (hb.mono HX.out.size)); have HD1 := Lib.hid (HD.out.below hb); clear hb
    go_wp2_with fail
    refine (HF1.out _ HB1.out).mono ?_
    rintro e w2 ⟨rfl, hb⟩
    have HB2 := Lib.hid (HB1.out.trans (hb.mono HB1.out.size)); have HD2 := Lib.hid (HD1.out.below hb); clear hb
    go_wp2_with fail
    refine (HF2.out _ HB2.out).mono ?_
    rintro e w3 ⟨rfl, hb⟩
    have HB3 := Lib.hid (HB2.out.trans (hb.mono HB2.out.size)); have HD3 := Lib.hid (HD2.out.below hb); clear hb
    obtain ⟨y0, y1, y2, y3, y4⟩ := HD3.out.five
    go_wp2_with fail
    refine (HNP.out _ HB3.out).mono ?_
    rintro e w4 ⟨u4, rfl, ho, hb⟩
    have HL4 := Lib.hid ho.sl; have HB4 := Lib.hid (HB3.out.trans (hb.mono HB3.out.size)); have HD4 := Lib.hid (HD3.out.below hb)
    obtain ⟨AL, cL, rfl⟩ := ho.form
    clear ho hb HNP HD HD1 HD2 HD3 HX HB1 HB2 HB3 HF0 HF1 HF2 y0 y1 y2 y3 y4
    go_wp2_with fail
    go_loopw [9] (fun i wr => ∃ k : Nat, k ≤ L.length ∧ i = .int .i64 k ∧ Below w4.heap.size w4 wr) (fun i _ => L.length - (intOf i).toNat)
    case atStart => exact ⟨0, Nat.zero_le _, rfl, Below.refl _ _⟩
    case round =>
    obtain ⟨k, hk, rfl, hb⟩ := hrel
    have HBL := Lib.hid hb; clear hb
    have hnl := HNL.out
    by_cases hlt : k < L.length
    · have hki : (k : Int) < (L.length : Int) := by omega
      obtain ⟨b, off, rfl, hbb, hcl⟩ := (HL4.out.bel HBL.out).get k hlt
      obtain ⟨t1, t2, t3⟩ := HNN.out _ (List.getElem_mem hlt)
      have hyl := HNZ.out _ (List.getElem_mem hlt)
      generalize L[k] = y at *
      have htk := fun W => token_l y W (by unfold maxLen; omega)
      have hlo := fun W => lower_l y W (by unfold maxLen; omega)
      rw [t1] at htk
      rw [t2] at hlo
      have hs1 : ((bs y).toList == [42]) = false := by rw [beqV]; simpa using t3
      have hs2 : ((bs y).toList == (bs y).toList) = true := by simp
      have HTK := Lib.hid htk; have HLO := Lib.hid hlo
      clear htk hlo t1 t2 t3 hyl
      generalize bs y = yy at *
      go_wp2_with fail
      have HCC : Hid (∀ W, Below wr.heap.size wr W → W.cell? ⟨b, off + k, none⟩ = some (.string yy)) := fun W h => (World.cell?_of_block (a := ⟨b, off + k, none⟩) (h.block b hbb)).trans hcl
      clear hcl
      generalize wr = C at *
      refine wp_region_growS (.one 0 false (.one 1 false (.one 2 false (.one 3 false (.one 4 true (.one 5 false (.one 6 false (.one 7 false (.one 8 false (.one 9 false (.one 10 false (.one 12 false (.one 13 false (.one 14 false (.one 15 false (.one 11 true (.one 16 false (.one 17 false (.one 18 false (.one 19 false (.one 20 false (.one 21 false (.one 22 false (.one 23 false (.one 24 false .done)))))))))))))))))))))))))
        (fun W => Below C.heap.size C W) (by kernel_rfl) (by kernel_rfl) rfl (by kernel_rfl) (by kernel_rfl) ((Below.refl _ _).drew) (fun ops hops => ?_)
      simp only [GT.ins, List.getD_cons_zero, List.getD_cons_succ]
      have g6 : (ops[6]?).bind (·.dst) = some 51 := by rw [hops.out]; rfl
      have g18 : (ops[18]?).bind (·.dst) = some 63 := by rw [hops.out]; rfl
      have G6 := Lib.hid g6
      have G18 := Lib.hid g18
      clear hops g6 g18
      iterate 4
        refine growS_take (by rfl) ?_
        apply Exists.intro
        refine ⟨fun w' hE => ?_, ?_⟩
        · have q1 := HCC.out w' hE
          go_simp
          try with_reducible rfl
        simp only [Act.put, List.setIfInBounds_toArray, List.set_cons_zero, List.set_cons_succ]
      refine growS_call (by rfl) (fun K hK => ?_)
      go_simp
      refine (HTK.out _).mono ?_
      rintro e x1 ⟨rfl, rfl⟩
      refine hK.out _ _ (Below.refl _ _).drew ?_
      clear hK K
      iterate 2
        refine growS_take (by rfl) ?_
        apply Exists.intro
        refine ⟨fun w' hE => ?_, ?_⟩
        · have q1 := HCC.out w' hE
          go_simp
          try with_reducible rfl
        simp only [Act.put, List.setIfInBounds_toArray, List.set_cons_zero, List.set_cons_succ]
      iterate 8
        refine growS_take (wantedS G6.out rfl rfl) ?_
        apply Exists.intro
        refine ⟨fun w' hE => ?_, ?_⟩
        · have q1 := HCC.out w' hE
          go_simp
          try with_reducible rfl
        simp only [Act.put, List.setIfInBounds_toArray, List.set_cons_zero, List.set_cons_succ]
      refine growS_call (wantedS G6.out rfl rfl) (fun K hK => ?_)
      go_simp
      refine (HLO.out _).mono ?_
      rintro e x2 ⟨rfl, hb⟩
      have hz : Below C.heap.size C x2 := (Below.refl _ _).drew.trans hb
      have HZ2 := Lib.hid hz
      refine hK.out _ _ hz ?_
      clear hK K hb hz
      iterate 1
        refine growS_take (wantedS G6.out rfl rfl) ?_
        apply Exists.intro
        refine ⟨fun w' hE => ?_, ?_⟩
        · have q1 := HCC.out w' hE
          go_simp
          try with_reducible rfl
        simp only [Act.put, List.setIfInBounds_toArray, List.set_cons_zero, List.set_cons_succ]
      iterate 2
        refine growS_take (by rfl) ?_
        apply Exists.intro
        refine ⟨fun w' hE => ?_, ?_⟩
        · have q1 := HCC.out w' hE
          go_simp
          try with_reducible rfl
        simp only [Act.put, List.setIfInBounds_toArray, List.set_cons_zero, List.set_cons_succ]
      iterate 5
        refine growS_take (wantedS G18.out rfl rfl) ?_
        apply Exists.intro
        refine ⟨fun w' hE => ?_, ?_⟩
        · have q1 := HCC.out w' hE
          go_simp
          try with_reducible rfl
        simp only [Act.put, List.setIfInBounds_toArray, List.set_cons_zero, List.set_cons_succ]
      iterate 1
        refine growS_take (by rfl) ?_
        apply Exists.intro
        refine ⟨fun w' hE => ?_, ?_⟩
        · have q1 := HCC.out w' hE
          go_simp
          try with_reducible rfl
        simp only [Act.put, List.setIfInBounds_toArray, List.set_cons_zero, List.set_cons_succ]
      refine growS_done (NoPanic.normal ?_)
      try simp only [Exit.then]
      go_wp2_with fail
      go_roundw
      case rel => exact ⟨k + 1, by omega, by go_num, HBL.out.trans (HZ2.out.mono HBL.out.size)⟩
      case measure => simp [intOf]; omega
    · have HBr := Lib.hid (HB4.out.trans (HBL.out.mono HB4.out.size))
      have HLr := Lib.hid (HL4.out.bel HBL.out)
      have HD := Lib.hid (HD4.out.below HBL.out)
      have HSA := Lib.hid fun W (hb : Below wr.heap.size wr W) => HSA0.out W _ (HBr.out.trans (hb.mono HBr.out.size)) (HLr.out.bel hb)
      clear HL4 HD4 HBL HSA0
      go_wp2_with fail
      generalize wr = C at *
      apply wp_meetW (fun g ua uc W => vbk W g #[.int .i64 st, .string re, .int .i64 mi, .slice Ar l.length cr, .string bo, .int .i64 0, .int .i64 0, .slice ua Q.length uc] ∧ FL W (.slice ua Q.length uc) Q ∧ Below C.heap.size C W)
      case h1 =>
        refine wp_region_growS (.one 0 false (.one 1 false (.one 2 false (.two 3 5 (.one 4 false (.one 5 true (.one 6 true .done))) (.one 3 true (.one 4 false (.one 6 true .done)))))))
          (fun W => Below C.heap.size C W) (by kernel_rfl) (by kernel_rfl) rfl (by kernel_rfl) (by kernel_rfl) ((Below.refl _ _).drew) (fun ops hops => ?_)
        simp only [GT.ins, List.getD_cons_zero, List.getD_cons_succ]
        clear hops
        iterate 3
          refine growS_take (by rfl) ?_
          apply Exists.intro
          refine ⟨fun w' hE => ?_, ?_⟩
          · obtain ⟨y0, y1, y2, y3, y4⟩ := (HD.out.below hE).five
            go_simp
            try with_reducible rfl
          simp only [Act.put, List.setIfInBounds_toArray, List.set_cons_zero, List.set_cons_succ]
        refine growS_two (by rfl) (by rfl) (fun K hK => ?_) (fun K hK => ?_)
        · go_simp
          refine (HSA.out _ ((Below.refl _ _).drew : Below C.heap.size C C.drew)).mono ?_
          rintro e z1 ⟨u1, rfl, ho, hb⟩
          have hE1 : Below C.heap.size C z1 := ((Below.refl _ _).drew : Below C.heap.size C C.drew).trans (hb.mono ((Below.refl _ _).drew : Below C.heap.size C C.drew).size)
          have HU1 := Lib.hid ho.fl; have HE1 := Lib.hid hE1
          have HUL : Hid (∀ b, u1.ownBlock = some b → b < z1.heap.size) := fun b hb => (World.ownsRow.lt ho b hb).2
          obtain ⟨ua, uc, rfl⟩ := ho.form
          refine hK.out _ _ hE1 ?_
          clear hK K ho hb hE1
          iterate 1
            refine growS_take (by rfl) ?_
            apply Exists.intro
            refine ⟨fun w' hE => ?_, ?_⟩
            · obtain ⟨y0, y1, y2, y3, y4⟩ := (HD.out.below hE).five
              go_simp
              try with_reducible rfl
            simp only [Act.put, List.setIfInBounds_toArray, List.set_cons_zero, List.set_cons_succ]
          refine growS_call (by rfl) (fun K hK => ?_)
          go_simp
          have hal : Below z1.heap.size z1 (z1.alloc (.cells #[.int .i64 0, .string ⟨#[]⟩, .int .i64 0, .slice none 0 0, .string ⟨#[]⟩, .int .i64 0, .int .i64 0, .slice none 0 0] 33)) := (Below.refl _ _).alloc (Nat.le_refl _) _
          have hE2 : Below C.heap.size C (z1.alloc (.cells #[.int .i64 0, .string ⟨#[]⟩, .int .i64 0, .slice none 0 0, .string ⟨#[]⟩, .int .i64 0, .int .i64 0, .slice none 0 0] 33)) := HE1.out.trans (hal.mono HE1.out.size)
          have hz := vbk.new z1 #[.int .i64 0, .string ⟨#[]⟩, .int .i64 0, .slice none 0 0, .string ⟨#[]⟩, .int .i64 0, .int .i64 0, .slice none 0 0] 33
          have HU := Lib.hid (HU1.out.bel hal)
          have HGL := Lib.hid HE1.out.size
          have HUB : Hid (∀ b, (Value.slice ua Q.length uc).ownBlock = some b → b ≠ z1.heap.size) := fun b hb => by have := HUL.out b hb; omega
          refine hK.out _ _ hE2 ?_
          have HE := Lib.hid hE2; have HZ := Lib.hid hz
          clear hK K hal hE2 hz HU1 HUL
          generalize z1.alloc (.cells #[.int .i64 0, .string ⟨#[]⟩, .int .i64 0, .slice none 0 0, .string ⟨#[]⟩, .int .i64 0, .int .i64 0, .slice none 0 0] 33) = z2 at *
          clear HE1
          generalize z1.heap.size = g at *
          have nc0 := HZ.out.cell 0 (.int .i64 0) rfl
          have nf0 := HZ.out.free 0
          have nc1 := HZ.out.cell 1 (.string ⟨#[]⟩) rfl
          have nf1 := HZ.out.free 1
          have nc2 := HZ.out.cell 2 (.int .i64 0) rfl
          have nf2 := HZ.out.free 2
          have nc3 := HZ.out.cell 3 (.slice none 0 0) rfl
          have nf3 := HZ.out.free 3
          have nc4 := HZ.out.cell 4 (.string ⟨#[]⟩) rfl
          have nf4 := HZ.out.free 4
          have nc5 := HZ.out.cell 5 (.int .i64 0) rfl
          have nf5 := HZ.out.free 5
          have nc6 := HZ.out.cell 6 (.int .i64 0) rfl
          have nf6 := HZ.out.free 6
          have nc7 := HZ.out.cell 7 (.slice none 0 0) rfl
          have nf7 := HZ.out.free 7
          have hq0 := ((((((((HZ.out.set 0 (.int .i64 st)).set 1 (.string re)).set 2 (.int .i64 mi)).set 3 (.slice Ar l.length cr)).set 4 (.string bo)).set 5 (.int .i64 0)).set 6 (.int .i64 0)).set 7 (.slice ua Q.length uc))
          simp only [List.setIfInBounds_toArray, List.set_cons_zero, List.set_cons_succ] at hq0
          have HQ0 := Lib.hid hq0; clear hq0
          have hE9 := ((((((((HE.out.setCell (p := ⟨g, 0, none⟩) HGL.out (.int .i64 st)).setCell (p := ⟨g, 1, none⟩) HGL.out (.string re)).setCell (p := ⟨g, 2, none⟩) HGL.out (.int .i64 mi)).setCell (p := ⟨g, 3, none⟩) HGL.out (.slice Ar l.length cr)).setCell (p := ⟨g, 4, none⟩) HGL.out (.string bo)).setCell (p := ⟨g, 5, none⟩) HGL.out (.int .i64 0)).setCell (p := ⟨g, 6, none⟩) HGL.out (.int .i64 0)).setCell (p := ⟨g, 7, none⟩) HGL.out (.slice ua Q.length uc))
          have HE9 := Lib.hid hE9; clear hE9
          have HU9 : Hid (FL ((((((((z2.setCell ⟨g, 0, none⟩ (.int .i64 st)).setCell ⟨g, 1, none⟩ (.string re)).setCell ⟨g, 2, none⟩ (.int .i64 mi)).setCell ⟨g, 3, none⟩ (.slice Ar l.length cr)).setCell ⟨g, 4, none⟩ (.string bo)).setCell ⟨g, 5, none⟩ (.int .i64 0)).setCell ⟨g, 6, none⟩ (.int .i64 0)).setCell ⟨g, 7, none⟩ (.slice ua Q.length uc)) (.slice ua Q.length uc) Q) := HU.out.keepG (fun b hb => by have hne := HUB.out b hb; repeat rw [Below.heap_setCell _ _ _ _ (by simpa using hne)]) (by simp [World.setCell])
          refine growS_call (by rfl) (fun K hK => ?_)
          go_simp
          refine hK.out _ _ HE9.out ?_
          clear hK K
          refine growS_done (NoPanic.normal ?_)
          exact ⟨g, ua, uc, rfl, rfl, HQ0.out, HU9.out, HE9.out⟩
        · go_simp
          have hd1 : Below C.heap.size C (C.alloc (.cells #[.int .i64 0, .string ⟨#[]⟩, .int .i64 0, .slice none 0 0, .string ⟨#[]⟩, .int .i64 0, .int .i64 0, .slice none 0 0] 33)).drew := ((Below.refl _ _).alloc (Nat.le_refl _) _).drew
          have hz1 := (vbk.new C #[.int .i64 0, .string ⟨#[]⟩, .int .i64 0, .slice none 0 0, .string ⟨#[]⟩, .int .i64 0, .int .i64 0, .slice none 0 0] 33).below ((Below.refl _ _).drew : Below (C.alloc (.cells #[.int .i64 0, .string ⟨#[]⟩, .int .i64 0, .slice none 0 0, .string ⟨#[]⟩, .int .i64 0, .int .i64 0, .slice none 0 0] 33)).heap.size (C.alloc (.cells #[.int .i64 0, .string ⟨#[]⟩, .int .i64 0, .slice none 0 0, .string ⟨#[]⟩, .int .i64 0, .int .i64 0, .slice none 0 0] 33)) (C.alloc (.cells #[.int .i64 0, .string ⟨#[]⟩, .int .i64 0, .slice none 0 0, .string ⟨#[]⟩, .int .i64 0, .int .i64 0, .slice none 0 0] 33)).drew)
          refine hK.out _ _ hd1 ?_
          have HE1 := Lib.hid hd1; have HZ1 := Lib.hid hz1
          clear hK K hd1 hz1
          generalize (C.alloc (.cells #[.int .i64 0, .string ⟨#[]⟩, .int .i64 0, .slice none 0 0, .string ⟨#[]⟩, .int .i64 0, .int .i64 0, .slice none 0 0] 33)).drew = z1 at *
          refine growS_call (by rfl) (fun K hK => ?_)
          go_simp
          refine (HSA.out _ HE1.out).mono ?_
          rintro e z2 ⟨u1, rfl, ho, hb⟩
          have hE2 : Below C.heap.size C z2 := HE1.out.trans (hb.mono HE1.out.size)
          have HU := Lib.hid ho.fl; have HZ := Lib.hid (HZ1.out.below hb); have HE := Lib.hid hE2; have HGL : Hid (C.heap.size ≤ C.heap.size) := Nat.le_refl _
          have HUB : Hid (∀ b, u1.ownBlock = some b → b ≠ C.heap.size) := fun b hb => by have h1 := (World.ownsRow.lt ho b hb).1; have h2 := HZ1.out.lt; omega
          obtain ⟨ua, uc, rfl⟩ := ho.form
          refine hK.out _ _ hE2 ?_
          clear hK K ho hb hE2 HE1 HZ1
          iterate 1
            refine growS_take (by rfl) ?_
            apply Exists.intro
            refine ⟨fun w' hE => ?_, ?_⟩
            · obtain ⟨y0, y1, y2, y3, y4⟩ := (HD.out.below hE).five
              go_simp
              try with_reducible rfl
            simp only [Act.put, List.setIfInBounds_toArray, List.set_cons_zero, List.set_cons_succ]
          generalize C.heap.size = g at *
          have nc0 := HZ.out.cell 0 (.int .i64 0) rfl
          have nf0 := HZ.out.free 0
          have nc1 := HZ.out.cell 1 (.string ⟨#[]⟩) rfl
          have nf1 := HZ.out.free 1
          have nc2 := HZ.out.cell 2 (.int .i64 0) rfl
          have nf2 := HZ.out.free 2
          have nc3 := HZ.out.cell 3 (.slice none 0 0) rfl
          have nf3 := HZ.out.free 3
          have nc4 := HZ.out.cell 4 (.string ⟨#[]⟩) rfl
          have nf4 := HZ.out.free 4
          have nc5 := HZ.out.cell 5 (.int .i64 0) rfl
          have nf5 := HZ.out.free 5
          have nc6 := HZ.out.cell 6 (.int .i64 0) rfl
          have nf6 := HZ.out.free 6
          have nc7 := HZ.out.cell 7 (.slice none 0 0) rfl
          have nf7 := HZ.out.free 7
          have hq0 := ((((((((HZ.out.set 0 (.int .i64 st)).set 1 (.string re)).set 2 (.int .i64 mi)).set 3 (.slice Ar l.length cr)).set 4 (.string bo)).set 5 (.int .i64 0)).set 6 (.int .i64 0)).set 7 (.slice ua Q.length uc))
          simp only [List.setIfInBounds_toArray, List.set_cons_zero, List.set_cons_succ] at hq0
          have HQ0 := Lib.hid hq0; clear hq0
          have hE9 := ((((((((HE.out.setCell (p := ⟨g, 0, none⟩) HGL.out (.int .i64 st)).setCell (p := ⟨g, 1, none⟩) HGL.out (.string re)).setCell (p := ⟨g, 2, none⟩) HGL.out (.int .i64 mi)).setCell (p := ⟨g, 3, none⟩) HGL.out (.slice Ar l.length cr)).setCell (p := ⟨g, 4, none⟩) HGL.out (.string bo)).setCell (p := ⟨g, 5, none⟩) HGL.out (.int .i64 0)).setCell (p := ⟨g, 6, none⟩) HGL.out (.int .i64 0)).setCell (p := ⟨g, 7, none⟩) HGL.out (.slice ua Q.length uc))
          have HE9 := Lib.hid hE9; clear hE9
          have HU9 : Hid (FL ((((((((z2.setCell ⟨g, 0, none⟩ (.int .i64 st)).setCell ⟨g, 1, none⟩ (.string re)).setCell ⟨g, 2, none⟩ (.int .i64 mi)).setCell ⟨g, 3, none⟩ (.slice Ar l.length cr)).setCell ⟨g, 4, none⟩ (.string bo)).setCell ⟨g, 5, none⟩ (.int .i64 0)).setCell ⟨g, 6, none⟩ (.int .i64 0)).setCell ⟨g, 7, none⟩ (.slice ua Q.length uc)) (.slice ua Q.length uc) Q) := HU.out.keepG (fun b hb => by have hne := HUB.out b hb; repeat rw [Below.heap_setCell _ _ _ _ (by simpa using hne)]) (by simp [World.setCell])
          refine growS_call (by rfl) (fun K hK => ?_)
          go_simp
          refine hK.out _ _ HE9.out ?_
          clear hK K
          refine growS_done (NoPanic.normal ?_)
          exact ⟨g, ua, uc, rfl, rfl, HQ0.out, HU9.out, HE9.out⟩
      case h2 =>
        rintro g ua uc W ⟨hg, hu, hb⟩
        have HG := Lib.hid hg; have HU := Lib.hid hu; have HBW := Lib.hid (HBr.out.trans (hb.mono HBr.out.size)); have HLW := Lib.hid (HLr.out.bel hb)
        clear hg hu hb HSA HD HLr HBr
        try simp only [Exit.then]
        obtain ⟨y0, y1, y2, y3, y4, y5, y6, y7⟩ := HG.out.eight
        have hne := HNE.out
        have HMA := Lib.hid (HMA0.out W _ HBW.out HU.out)
        go_wp2_with fail
        refine HMA.out.mono ?_
        rintro e w5 ⟨rfl, hb⟩
        have HG5 := Lib.hid (HG.out.below hb); have HU5 := Lib.hid (HU.out.bel hb); have HB5 := Lib.hid (HBW.out.trans (hb.mono HBW.out.size)); have HL5 := Lib.hid (HLW.out.bel hb)
        clear hb HG HU HBW HLW HMA HMA0 HNE hne y0 y1 y2 y3 y4 y5 y6 y7
        have HG := Lib.hid HG5.out; clear HG5
        have HMB := Lib.hid fun W' (hb : Below w5.heap.size w5 W') => HMB0.out W' _ (HB5.out.trans (hb.mono HB5.out.size)) (HU5.out.bel hb)
        have HSB := Lib.hid fun W' (hb : Below w5.heap.size w5 W') => HSB0.out W' _ (HB5.out.trans (hb.mono HB5.out.size)) (HL5.out.bel hb)
        have HSM := Lib.hid fun W' v2 (hb : Below w5.heap.size w5 W') (hv : FL W' v2 R) => HSM0.out W' _ v2 (HU5.out.bel hb) hv
        clear HMB0 HSB0 HSM0 HL5 HU5
        go_wp2_with fail
        generalize w5 = C at *
        cases m
        all_goals
          refine wp_region_growS (.one 0 false (.one 1 false (.one 3 false (.one 4 false (.one 5 false (.one 6 false (.one 2 true (.one 7 true (.one 8 true (.one 9 false (.one 10 false (.one 11 true (.one 12 false (.one 13 false .done))))))))))))))
            (fun W => Below C.heap.size C W) (by kernel_rfl) (by kernel_rfl) rfl (by kernel_rfl) (by kernel_rfl) ((Below.refl _ _).drew) (fun ops hops => ?_)
          simp only [GT.ins, List.getD_cons_zero, List.getD_cons_succ]
          have g10 : (ops[10]?).bind (·.dst) = some 97 := by rw [hops.out]; rfl
          have G10 := Lib.hid g10
          clear hops g10
          iterate 6
            refine growS_take (by rfl) ?_
            apply Exists.intro
            refine ⟨fun w' hE => ?_, ?_⟩
            · obtain ⟨y0, y1, y2, y3, y4, y5, y6, y7⟩ := (HG.out.below hE).eight
              go_simp
              try with_reducible rfl
            simp only [Act.put, List.setIfInBounds_toArray, List.set_cons_zero, List.set_cons_succ]
          refine growS_call (by rfl) (fun K hK => ?_)
          go_simp
          refine (HMB.out _ ((Below.refl _ _).drew : Below C.heap.size C C.drew)).mono ?_
          rintro e x1 ⟨rfl, hb⟩
          have hz : Below C.heap.size C x1 := ((Below.refl _ _).drew : Below C.heap.size C C.drew).trans (hb.mono ((Below.refl _ _).drew : Below C.heap.size C C.drew).size)
          have HZ1 := Lib.hid hz
          refine hK.out _ _ hz ?_
          clear hK K hb hz
          refine growS_call (by rfl) (fun K hK => ?_)
          go_simp
          refine (HSB.out _ HZ1.out).mono ?_
          rintro e x2 ⟨u2, rfl, ho2, hb⟩
          have hz : Below C.heap.size C x2 := HZ1.out.trans (hb.mono HZ1.out.size)
          have HZ2 := Lib.hid hz
          have HU2 := Lib.hid ho2.fl
          obtain ⟨B2, e2, rfl⟩ := ho2.form
          refine hK.out _ _ hz ?_
          clear hK K hb hz HZ1 ho2
          refine growS_call (by rfl) (fun K hK => ?_)
          go_simp
          refine (HSM.out _ _ HZ2.out HU2.out).mono ?_
          rintro e x3 ⟨rfl, hb⟩
          have hz : Below C.heap.size C x3 := HZ2.out.trans (hb.mono HZ2.out.size)
          have HZ3 := Lib.hid hz
          refine hK.out _ _ hz ?_
          clear hK K hb hz HZ2 HU2
          iterate 2
            refine growS_take (by rfl) ?_
            apply Exists.intro
            refine ⟨fun w' hE => ?_, ?_⟩
            · obtain ⟨y0, y1, y2, y3, y4, y5, y6, y7⟩ := (HG.out.below hE).eight
              go_simp
              try with_reducible rfl
            simp only [Act.put, List.setIfInBounds_toArray, List.set_cons_zero, List.set_cons_succ]
          refine growS_call (wantedS G10.out rfl rfl) (fun K hK => ?_)
          go_simp
          refine (HW.out _).mono ?_
          rintro e x4 ⟨rfl, hb⟩
          have hz : Below C.heap.size C x4 := HZ3.out.trans (hb.mono HZ3.out.size)
          have HZ4 := Lib.hid hz
          refine hK.out _ _ hz ?_
          clear hK K hb hz HZ3
          iterate 2
            refine growS_take (by rfl) ?_
            apply Exists.intro
            refine ⟨fun w' hE => ?_, ?_⟩
            · obtain ⟨y0, y1, y2, y3, y4, y5, y6, y7⟩ := (HG.out.below hE).eight
              go_simp
              try with_reducible rfl
            simp only [Act.put, List.setIfInBounds_toArray, List.set_cons_zero, List.set_cons_succ]
          refine growS_done (NoPanic.normal ?_)
          try simp only [Exit.then]
          go_wp2_with fail
          go_ret
          exact ⟨rfl, HB5.out.trans (HZ4.out.mono HB5.out.size)⟩
  · rw [ha] at HNP
    rw [hna ha] at HNP
    clear hnn hna ha hnz hnl h1 h2 hl1 hl2
    go_enter Try.func6, Try.ntmps6
    go_wp2_with fail
    refine (HF0.out _ HX.out).mono ?_
    rintro e w1 ⟨rfl, hb⟩
    have HB1 := Lib.hid (HX.out.trans (hb.mono HX.out.size)); have HD1 := Lib.hid (HD.out.below hb); clear hb
    go_wp2_with fail
    refine (HF1.out _ HB1.out).mono ?_
    rintro e w2 ⟨rfl, hb⟩
    have HB2 := Lib.hid (HB1.out.trans (hb.mono HB1.out.size)); have HD2 := Lib.hid (HD1.out.below hb); clear hb
    go_wp2_with fail
    refine (HF2.out _ HB2.out).mono ?_
    rintro e w3 ⟨rfl, hb⟩
    have HB3 := Lib.hid (HB2.out.trans (hb.mono HB2.out.size)); have HD3 := Lib.hid (HD2.out.below hb); clear hb
    obtain ⟨y0, y1, y2, y3, y4⟩ := HD3.out.five
    go_wp2_with fail
    refine (HNP.out _ HB3.out).mono ?_
    rintro e w4 ⟨u4, rfl, ho, hb⟩
    have HB4 := Lib.hid (HB3.out.trans (hb.mono HB3.out.size))
    obtain ⟨AL, cL, hu⟩ := ho.form
    replace hu : u4 = .slice AL 0 cL := hu
    subst hu
    clear ho hb
    go_wp2_with fail
    refine (HW.out _).mono ?_
    rintro e w5 ⟨rfl, hb⟩
    have HB5 := Lib.hid (HB4.out.trans (hb.mono HB4.out.size)); clear hb
    go_wp2_with fail
    go_ret
    exact ⟨rfl, HB5.out⟩
end Go.Proofs.Ytmlgmpjbjbjaoaa
