/- The normal form is its own, and not longer; with other forms a URI has the same one: the statement's own walk. -/
import Derived.Test.YtigaghdalecdlaaGreatDoorUriZ
import Derived.Test.YtigaghdalecdlaaGreatDoorUriK
namespace Go.Proofs.YtigaghdalecdlaaGreatDoor
open Go.RowKit

theorem wp_meetU {P : Program} {c : Code} {Q : Exit → Act → World → Prop} {a : Act} {w : World} {act : Nat → List UInt8 → List UInt8 → Act} (Good : Nat → List UInt8 → List UInt8 → World → Prop)
    (h1 : c.wp P (fun e a' w' => ∃ g A k, e = .normal ∧ a' = act g A k ∧ Good g A k w') a w)
    (h2 : ∀ g A k w', Good g A k w' → Q .normal (act g A k) w') : c.wp P Q a w :=
  Code.wp_mono (by rintro e a' w' ⟨g, A, k, rfl, rfl, h⟩; exact h2 g A k w' h) h1
theorem upper_any (s : List UInt8) (w : World) (h : hostOk s = true) :
    Calls Tryz.prog 13 #[.string (bs s)] w fun e w' => e = .returned (.string (bs (Lib.toUpperA s))) ∧ Below w.heap.size w w' := by
  obtain ⟨-, h2, h3⟩ := (host_iffU s).1 h
  have key : ∀ n : Nat, n < 256 → hoB (UInt8.ofNat n) = true → n < 128 := by decide +kernel
  have h4 := Tryz.strings_ToUpper_ascii (bs s) w (by rw [bs_size]; omega) (fun _ b hb => by
    rw [bs_data] at hb
    have := key b.toNat b.toNat_lt
    rw [byteU] at this
    exact this (h3 b (List.mem_of_getElem? hb)))
  rw [bs_data] at h4
  exact h4
theorem twistL_any (l : List UInt8) (v : Value) (w : World) (hw : Wn l) (hl : l.length ≤ 10000) (hv : BL w v) :
    Calls Tryz.prog 14 #[.string (bs l), v] w fun e w' => ∃ tp, e = .returned (.string (bs tp)) ∧ Below w.heap.size w w' ∧ TW l tp ∧ tp.length ≤ 100000 := by
  have h := twist_any (bs l) v w (by rw [bs_data]; exact hw) (by rw [bs_size]; omega) hv
  rw [bs_data, bs_size] at h
  exact h.mono fun e w' ⟨tp, h1, h2, h3, h4⟩ => ⟨tp, h1, h2, h3, by omega⟩
theorem norm_lens {u : Ur} (h : u.text.length ≤ 1024) : u.sc.length ≤ 1024 ∧ u.ho.length ≤ 1024 ∧ u.pa.length ≤ 1024 ∧ u.qu.length ≤ 1024 ∨ u.hq = false := by
  rw [text_split] at h
  simp only [List.length_append, List.length_cons] at h
  cases hq : u.hq
  · exact .inr rfl
  · rw [hq] at h
    simp only [if_true, List.length_cons] at h
    exact .inl ⟨by omega, by omega, by omega, by omega⟩
theorem norm_lens2 {u : Ur} (hf : Fm u) (h : u.text.length ≤ 1024) : u.sc.length ≤ 1024 ∧ u.ho.length ≤ 1024 ∧ u.pa.length ≤ 1024 ∧ u.qu.length ≤ 1024 := by
  rcases norm_lens h with h1 | h1
  · exact h1
  · rw [text_split] at h
    simp only [List.length_append, List.length_cons] at h
    rw [hf.qh h1]
    exact ⟨by omega, by omega, by omega, by simp⟩
set_option maxHeartbeats 8000000 in
set_option maxRecDepth 100000 in
theorem uriNormal_law (u : Ur) (v : Value) (w : World) (hu : u.sized) (hv : BL w v) (hm : MaxU w) (hl0 : Env w) :
    Calls Tryz.prog 4 #[.agg #[.string (bs u.sc), .string (bs u.ho), .int .i64 u.po, .string (bs u.pa), .string (bs u.qu), .bool u.hq], v] w fun e w' => e = .returned (.bool true) ∧ Below w.heap.size w w' := by
  have HE : Hid (EnvU w) := ⟨hm, hl0⟩
  clear hm hl0
  have HLO := Lib.hid (fun W => ulong_any u W hu)
  have HOK := Lib.hid (long_okW hu)
  have HP10 := Lib.hid (fun W (hb : EnvU W) hk => uriCheck_any u W hb hk)
  have HP20 := Lib.hid (fun W (hb : EnvU W) hk => uriPut_any u W hb hk)
  have HP30 := Lib.hid (fun W (hb : EnvU W) hk => normal_any u W hb hk)
  have HNM := Lib.hid (normal_ok (u := u))
  obtain ⟨va, vlen, vcap, rfl⟩ := hv.form
  have HV := Lib.hid hv; clear hv
  have HPUZ : Hid (u.put.length ≤ 9223372036854775807 ∨ True) := .inr trivial
  generalize longB u = lb at *
  generalize u.check = ck at *
  generalize u.put = up at *
  generalize u.normal = nm at *
  obtain ⟨sc, ho, po, pa, qu, hq⟩ := u
  simp only at HP10 HP20 HP30 HLO ⊢
  have hal : Below w.heap.size w (w.alloc (.cells #[.string (bs sc), .string (bs ho), .int .i64 po, .string (bs pa), .string (bs qu), .bool hq] 23)) := (Below.refl _ _).alloc (Nat.le_refl _) _
  have HAL := Lib.hid hal; clear hal
  have hx := ubk.new w #[.string (bs sc), .string (bs ho), .int .i64 po, .string (bs pa), .string (bs qu), .bool hq] 23
  have HX := Lib.hid hx
  have xc0 := hx.cell 0 (.string (bs sc)) rfl
  have xc1 := hx.cell 1 (.string (bs ho)) rfl
  have xc2 := hx.cell 2 (.int .i64 po) rfl
  have xc3 := hx.cell 3 (.string (bs pa)) rfl
  have xc4 := hx.cell 4 (.string (bs qu)) rfl
  have xc5 := hx.cell 5 (.bool hq) rfl
  clear hx
  cases lb
  · have HK0 := Lib.hid (HOK.out rfl)
    have HP1 := Lib.hid (fun W hb => HP10.out W hb HK0.out)
    have HPU := Lib.hid (fun W hb => HP20.out W hb HK0.out)
    have HP3 := Lib.hid (fun W hb => HP30.out W hb HK0.out)
    clear HP10 HP20 HP30 HOK HK0
    go_enter Tryz.func4, Tryz.ntmps4
    go_wp2_with fail
    refine (HLO.out _).mono ?_
    rintro r w1 ⟨rfl, hb1⟩
    have HB1 := Lib.hid (HAL.out.trans (hb1.mono HAL.out.size))
    have hx1 := HX.out.below hb1
    clear hb1 xc0 xc1 xc2 xc3 xc4 xc5
    have yc0 := hx1.cell 0 (.string (bs sc)) rfl
    have yc1 := hx1.cell 1 (.string (bs ho)) rfl
    have yc2 := hx1.cell 2 (.int .i64 po) rfl
    have yc3 := hx1.cell 3 (.string (bs pa)) rfl
    have yc4 := hx1.cell 4 (.string (bs qu)) rfl
    have yc5 := hx1.cell 5 (.bool hq) rfl
    go_wp2_with fail
    refine (HP1.out _ (HE.out.bel HB1.out)).mono ?_
    rintro r w2 ⟨rfl, hb2⟩
    have HB2 := Lib.hid (HB1.out.trans (hb2.mono HB1.out.size))
    have hx2 := hx1.below hb2
    clear hb2 hx1 yc0 yc1 yc2 yc3 yc4 yc5
    by_cases hck : ck = 0
    · obtain ⟨hn1, hn2, hn3, hn4⟩ := HNM.out hck
      have q0 : (ck != 0) = false := by rw [hck]; rfl
      clear hck HNM
      have hnl := (uchk_zero hn2).2
      have hnz := norm_lens2 (formed_of hn1) hnl
      have HNU := Lib.hid hn1
      have hnk : nm.okW := ⟨by omega, by have := hn1.p0; omega, by have := hn1.p1; omega⟩
      have HCN := Lib.hid (fun W (hb : EnvU W) => uriCheck_any nm W hb hnk)
      have HPN := Lib.hid (fun W (hb : EnvU W) => uriPut_any nm W hb hnk)
      have HNN := Lib.hid (fun W (hb : EnvU W) => normal_any nm W hb hnk)
      rw [hn2] at HCN
      rw [hn3] at HNN
      have HLE : Hid (nm.put.length ≤ up.length) := hn4
      have HUP0 := Lib.hid (fun W => upper_any nm.ho W hn1.ho)
      have HWP := Lib.hid (wn_of (m := pathM) (by decide) hn1.pa.made hn1.pa.undo)
      have HWQ := Lib.hid (wn_of queryM37 hn1.mq hn1.uq)
      have HNZ := Lib.hid hnz
      generalize nm.put = np at *
      obtain ⟨nsc, nho, npo, npa, nqu, nhq⟩ := nm
      simp only at HCN HPN HNN HUP0 HWP HWQ HP3
      clear hn1 hn2 hn3 hn4 hnl hnz hnk
      have zc0 := hx2.cell 0 (.string (bs sc)) rfl
      have zc1 := hx2.cell 1 (.string (bs ho)) rfl
      have zc2 := hx2.cell 2 (.int .i64 po) rfl
      have zc3 := hx2.cell 3 (.string (bs pa)) rfl
      have zc4 := hx2.cell 4 (.string (bs qu)) rfl
      have zc5 := hx2.cell 5 (.bool hq) rfl
      go_wp2_with fail
      refine (HP3.out _ (HE.out.bel HB2.out)).mono ?_
      rintro r w3 ⟨rfl, hb3⟩
      have hal : Below w3.heap.size w3 (w3.alloc (.cells #[.string (bs nsc), .string (bs nho), .int .i64 npo, .string (bs npa), .string (bs nqu), .bool nhq] 23)) := (Below.refl _ _).alloc (Nat.le_refl _) _
      have HB3 := Lib.hid (HB2.out.trans ((hb3.trans (hal.mono hb3.size)).mono HB2.out.size))
      have HX3 := Lib.hid ((hx2.below hb3).alloc (.cells #[.string (bs nsc), .string (bs nho), .int .i64 npo, .string (bs npa), .string (bs nqu), .bool nhq] 23))
      have HN3 := Lib.hid (ubk.new w3 #[.string (bs nsc), .string (bs nho), .int .i64 npo, .string (bs npa), .string (bs nqu), .bool nhq] 23)
      clear hal hb3 hx2 zc0 zc1 zc2 zc3 zc4 zc5
      go_wp2_with fail
      generalize hw3 : w3.alloc (.cells #[.string (bs nsc), .string (bs nho), .int .i64 npo, .string (bs npa), .string (bs nqu), .bool nhq] 23) = x3 at *
      clear hw3
      generalize w3.heap.size = bn at *
      have hE3 : ubk x3.drew w.heap.size #[.string (bs sc), .string (bs ho), .int .i64 po, .string (bs pa), .string (bs qu), .bool hq] ∧ ubk x3.drew bn #[.string (bs nsc), .string (bs nho), .int .i64 npo, .string (bs npa), .string (bs nqu), .bool nhq] ∧ EnvU x3.drew := ⟨HX3.out.below (drewU x3), HN3.out.below (drewU x3), (HE.out.bel HB3.out).bel (drewU x3)⟩
      have HB3 := Lib.hid (HB3.out.trans ((drewU x3).mono HB3.out.size))
      have hle : ¬ (np.length : Int) > (up.length : Int) := by have := HLE.out; omega
      have hle2 : ¬ (up.length : Int) < (np.length : Int) := by have := HLE.out; omega
      have hle3 : ¬ up.length < np.length := by have := HLE.out; omega
      have z1 := bs_size np
      have z2 := bs_size up
      refine wp_region_growS (.one 0 false (.one 1 true (.one 2 false (.one 3 false (.one 4 false (.one 6 false (.one 5 true (.one 7 false (.one 8 false (.one 9 false (.one 10 false (.one 13 false (.one 11 true (.one 12 false (.one 14 true (.one 15 false (.one 16 false (.one 17 false .done))))))))))))))))))
        (fun W => ubk W w.heap.size #[.string (bs sc), .string (bs ho), .int .i64 po, .string (bs pa), .string (bs qu), .bool hq] ∧ ubk W bn #[.string (bs nsc), .string (bs nho), .int .i64 npo, .string (bs npa), .string (bs nqu), .bool nhq] ∧ EnvU W) (by kernel_rfl) (by kernel_rfl) rfl (by kernel_rfl) (by kernel_rfl) hE3 (fun ops hops => ?_)
      simp only [GT.ins, List.getD_cons_zero, List.getD_cons_succ]
      have g3 : (ops[3]?).bind (·.dst) = some 20 := by rw [hops.out]; rfl
      have g9 : (ops[9]?).bind (·.dst) = some 26 := by rw [hops.out]; rfl
      have G3 := Lib.hid g3
      have G9 := Lib.hid g9
      clear hops g3 g9
      iterate 1
        refine growS_take (by rfl) ?_
        apply Exists.intro
        refine ⟨fun w' hE => ?_, ?_⟩
        · have k0 := hE.1.cell 0 (.string (bs sc)) rfl; have k1 := hE.1.cell 1 (.string (bs ho)) rfl; have k2 := hE.1.cell 2 (.int .i64 po) rfl; have k3 := hE.1.cell 3 (.string (bs pa)) rfl; have k4 := hE.1.cell 4 (.string (bs qu)) rfl; have k5 := hE.1.cell 5 (.bool hq) rfl; have j0 := hE.2.1.cell 0 (.string (bs nsc)) rfl; have j1 := hE.2.1.cell 1 (.string (bs nho)) rfl; have j2 := hE.2.1.cell 2 (.int .i64 npo) rfl; have j3 := hE.2.1.cell 3 (.string (bs npa)) rfl; have j4 := hE.2.1.cell 4 (.string (bs nqu)) rfl; have j5 := hE.2.1.cell 5 (.bool nhq) rfl
          go_simp
          try with_reducible rfl
        simp only [Act.put, List.setIfInBounds_toArray, List.set_cons_zero, List.set_cons_succ]
      refine growS_call (by rfl) (fun K hK => ?_)
      go_simp
      refine (HCN.out _ hE3.2.2).mono ?_
      rintro r w4 ⟨rfl, hb4⟩
      have hE4 : ubk w4 w.heap.size #[.string (bs sc), .string (bs ho), .int .i64 po, .string (bs pa), .string (bs qu), .bool hq] ∧ ubk w4 bn #[.string (bs nsc), .string (bs nho), .int .i64 npo, .string (bs npa), .string (bs nqu), .bool nhq] ∧ EnvU w4 := ⟨hE3.1.below hb4, hE3.2.1.below hb4, hE3.2.2.bel hb4⟩
      refine hK.out _ _ hE4 ?_
      have HB4 : Hid (Below w.heap.size w w4) := HB3.out.trans (hb4.mono HB3.out.size)
      clear hK K hb4
      iterate 2
        refine growS_take (by rfl) ?_
        apply Exists.intro
        refine ⟨fun w' hE => ?_, ?_⟩
        · have k0 := hE.1.cell 0 (.string (bs sc)) rfl; have k1 := hE.1.cell 1 (.string (bs ho)) rfl; have k2 := hE.1.cell 2 (.int .i64 po) rfl; have k3 := hE.1.cell 3 (.string (bs pa)) rfl; have k4 := hE.1.cell 4 (.string (bs qu)) rfl; have k5 := hE.1.cell 5 (.bool hq) rfl; have j0 := hE.2.1.cell 0 (.string (bs nsc)) rfl; have j1 := hE.2.1.cell 1 (.string (bs nho)) rfl; have j2 := hE.2.1.cell 2 (.int .i64 npo) rfl; have j3 := hE.2.1.cell 3 (.string (bs npa)) rfl; have j4 := hE.2.1.cell 4 (.string (bs nqu)) rfl; have j5 := hE.2.1.cell 5 (.bool nhq) rfl
          go_simp
          try with_reducible rfl
        simp only [Act.put, List.setIfInBounds_toArray, List.set_cons_zero, List.set_cons_succ]
      iterate 2
        refine growS_take (wantedS G3.out rfl rfl) ?_
        apply Exists.intro
        refine ⟨fun w' hE => ?_, ?_⟩
        · have k0 := hE.1.cell 0 (.string (bs sc)) rfl; have k1 := hE.1.cell 1 (.string (bs ho)) rfl; have k2 := hE.1.cell 2 (.int .i64 po) rfl; have k3 := hE.1.cell 3 (.string (bs pa)) rfl; have k4 := hE.1.cell 4 (.string (bs qu)) rfl; have k5 := hE.1.cell 5 (.bool hq) rfl; have j0 := hE.2.1.cell 0 (.string (bs nsc)) rfl; have j1 := hE.2.1.cell 1 (.string (bs nho)) rfl; have j2 := hE.2.1.cell 2 (.int .i64 npo) rfl; have j3 := hE.2.1.cell 3 (.string (bs npa)) rfl; have j4 := hE.2.1.cell 4 (.string (bs nqu)) rfl; have j5 := hE.2.1.cell 5 (.bool nhq) rfl
          go_simp
          try with_reducible rfl
        simp only [Act.put, List.setIfInBounds_toArray, List.set_cons_zero, List.set_cons_succ]
      refine growS_call (wantedS G3.out rfl rfl) (fun K hK => ?_)
      go_simp
      refine (HNN.out _ hE4.2.2).mono ?_
      rintro r w5 ⟨rfl, hb5⟩
      have hE5 : ubk w5 w.heap.size #[.string (bs sc), .string (bs ho), .int .i64 po, .string (bs pa), .string (bs qu), .bool hq] ∧ ubk w5 bn #[.string (bs nsc), .string (bs nho), .int .i64 npo, .string (bs npa), .string (bs nqu), .bool nhq] ∧ EnvU w5 := ⟨hE4.1.below hb5, hE4.2.1.below hb5, hE4.2.2.bel hb5⟩
      refine hK.out _ _ hE5 ?_
      have HB5 : Hid (Below w.heap.size w w5) := HB4.out.trans (hb5.mono HB4.out.size)
      clear hK K hb5
      iterate 1
        refine growS_take (wantedS G3.out rfl rfl) ?_
        apply Exists.intro
        refine ⟨fun w' hE => ?_, ?_⟩
        · have k0 := hE.1.cell 0 (.string (bs sc)) rfl; have k1 := hE.1.cell 1 (.string (bs ho)) rfl; have k2 := hE.1.cell 2 (.int .i64 po) rfl; have k3 := hE.1.cell 3 (.string (bs pa)) rfl; have k4 := hE.1.cell 4 (.string (bs qu)) rfl; have k5 := hE.1.cell 5 (.bool hq) rfl; have j0 := hE.2.1.cell 0 (.string (bs nsc)) rfl; have j1 := hE.2.1.cell 1 (.string (bs nho)) rfl; have j2 := hE.2.1.cell 2 (.int .i64 npo) rfl; have j3 := hE.2.1.cell 3 (.string (bs npa)) rfl; have j4 := hE.2.1.cell 4 (.string (bs nqu)) rfl; have j5 := hE.2.1.cell 5 (.bool nhq) rfl
          go_simp
          try with_reducible rfl
        simp only [Act.put, List.setIfInBounds_toArray, List.set_cons_zero, List.set_cons_succ]
      iterate 2
        refine growS_take (by rfl) ?_
        apply Exists.intro
        refine ⟨fun w' hE => ?_, ?_⟩
        · have k0 := hE.1.cell 0 (.string (bs sc)) rfl; have k1 := hE.1.cell 1 (.string (bs ho)) rfl; have k2 := hE.1.cell 2 (.int .i64 po) rfl; have k3 := hE.1.cell 3 (.string (bs pa)) rfl; have k4 := hE.1.cell 4 (.string (bs qu)) rfl; have k5 := hE.1.cell 5 (.bool hq) rfl; have j0 := hE.2.1.cell 0 (.string (bs nsc)) rfl; have j1 := hE.2.1.cell 1 (.string (bs nho)) rfl; have j2 := hE.2.1.cell 2 (.int .i64 npo) rfl; have j3 := hE.2.1.cell 3 (.string (bs npa)) rfl; have j4 := hE.2.1.cell 4 (.string (bs nqu)) rfl; have j5 := hE.2.1.cell 5 (.bool nhq) rfl
          go_simp
          try with_reducible rfl
        simp only [Act.put, List.setIfInBounds_toArray, List.set_cons_zero, List.set_cons_succ]
      iterate 2
        refine growS_take (wantedS G9.out rfl rfl) ?_
        apply Exists.intro
        refine ⟨fun w' hE => ?_, ?_⟩
        · have k0 := hE.1.cell 0 (.string (bs sc)) rfl; have k1 := hE.1.cell 1 (.string (bs ho)) rfl; have k2 := hE.1.cell 2 (.int .i64 po) rfl; have k3 := hE.1.cell 3 (.string (bs pa)) rfl; have k4 := hE.1.cell 4 (.string (bs qu)) rfl; have k5 := hE.1.cell 5 (.bool hq) rfl; have j0 := hE.2.1.cell 0 (.string (bs nsc)) rfl; have j1 := hE.2.1.cell 1 (.string (bs nho)) rfl; have j2 := hE.2.1.cell 2 (.int .i64 npo) rfl; have j3 := hE.2.1.cell 3 (.string (bs npa)) rfl; have j4 := hE.2.1.cell 4 (.string (bs nqu)) rfl; have j5 := hE.2.1.cell 5 (.bool nhq) rfl
          go_simp
          try with_reducible rfl
        simp only [Act.put, List.setIfInBounds_toArray, List.set_cons_zero, List.set_cons_succ]
      refine growS_call (wantedS G9.out rfl rfl) (fun K hK => ?_)
      go_simp
      refine (HPN.out _ hE5.2.2).mono ?_
      rintro r w6 ⟨rfl, hb6⟩
      have hE6 : ubk w6 w.heap.size #[.string (bs sc), .string (bs ho), .int .i64 po, .string (bs pa), .string (bs qu), .bool hq] ∧ ubk w6 bn #[.string (bs nsc), .string (bs nho), .int .i64 npo, .string (bs npa), .string (bs nqu), .bool nhq] ∧ EnvU w6 := ⟨hE5.1.below hb6, hE5.2.1.below hb6, hE5.2.2.bel hb6⟩
      refine hK.out _ _ hE6 ?_
      have HB6 : Hid (Below w.heap.size w w6) := HB5.out.trans (hb6.mono HB5.out.size)
      clear hK K hb6
      iterate 1
        refine growS_take (wantedS G9.out rfl rfl) ?_
        apply Exists.intro
        refine ⟨fun w' hE => ?_, ?_⟩
        · have k0 := hE.1.cell 0 (.string (bs sc)) rfl; have k1 := hE.1.cell 1 (.string (bs ho)) rfl; have k2 := hE.1.cell 2 (.int .i64 po) rfl; have k3 := hE.1.cell 3 (.string (bs pa)) rfl; have k4 := hE.1.cell 4 (.string (bs qu)) rfl; have k5 := hE.1.cell 5 (.bool hq) rfl; have j0 := hE.2.1.cell 0 (.string (bs nsc)) rfl; have j1 := hE.2.1.cell 1 (.string (bs nho)) rfl; have j2 := hE.2.1.cell 2 (.int .i64 npo) rfl; have j3 := hE.2.1.cell 3 (.string (bs npa)) rfl; have j4 := hE.2.1.cell 4 (.string (bs nqu)) rfl; have j5 := hE.2.1.cell 5 (.bool nhq) rfl
          go_simp
          try with_reducible rfl
        simp only [Act.put, List.setIfInBounds_toArray, List.set_cons_zero, List.set_cons_succ]
      refine growS_call (wantedS G9.out rfl rfl) (fun K hK => ?_)
      go_simp
      refine (HPU.out _ hE6.2.2).mono ?_
      rintro r w7 ⟨rfl, hb7⟩
      have hE7 : ubk w7 w.heap.size #[.string (bs sc), .string (bs ho), .int .i64 po, .string (bs pa), .string (bs qu), .bool hq] ∧ ubk w7 bn #[.string (bs nsc), .string (bs nho), .int .i64 npo, .string (bs npa), .string (bs nqu), .bool nhq] ∧ EnvU w7 := ⟨hE6.1.below hb7, hE6.2.1.below hb7, hE6.2.2.bel hb7⟩
      refine hK.out _ _ hE7 ?_
      have HB7 : Hid (Below w.heap.size w w7) := HB6.out.trans (hb7.mono HB6.out.size)
      clear hK K hb7
      iterate 2
        refine growS_take (wantedS G9.out rfl rfl) ?_
        apply Exists.intro
        refine ⟨fun w' hE => ?_, ?_⟩
        · have k0 := hE.1.cell 0 (.string (bs sc)) rfl; have k1 := hE.1.cell 1 (.string (bs ho)) rfl; have k2 := hE.1.cell 2 (.int .i64 po) rfl; have k3 := hE.1.cell 3 (.string (bs pa)) rfl; have k4 := hE.1.cell 4 (.string (bs qu)) rfl; have k5 := hE.1.cell 5 (.bool hq) rfl; have j0 := hE.2.1.cell 0 (.string (bs nsc)) rfl; have j1 := hE.2.1.cell 1 (.string (bs nho)) rfl; have j2 := hE.2.1.cell 2 (.int .i64 npo) rfl; have j3 := hE.2.1.cell 3 (.string (bs npa)) rfl; have j4 := hE.2.1.cell 4 (.string (bs nqu)) rfl; have j5 := hE.2.1.cell 5 (.bool nhq) rfl
          go_simp
          try with_reducible rfl
        simp only [Act.put, List.setIfInBounds_toArray, List.set_cons_zero, List.set_cons_succ]
      iterate 1
        refine growS_take (by rfl) ?_
        apply Exists.intro
        refine ⟨fun w' hE => ?_, ?_⟩
        · have k0 := hE.1.cell 0 (.string (bs sc)) rfl; have k1 := hE.1.cell 1 (.string (bs ho)) rfl; have k2 := hE.1.cell 2 (.int .i64 po) rfl; have k3 := hE.1.cell 3 (.string (bs pa)) rfl; have k4 := hE.1.cell 4 (.string (bs qu)) rfl; have k5 := hE.1.cell 5 (.bool hq) rfl; have j0 := hE.2.1.cell 0 (.string (bs nsc)) rfl; have j1 := hE.2.1.cell 1 (.string (bs nho)) rfl; have j2 := hE.2.1.cell 2 (.int .i64 npo) rfl; have j3 := hE.2.1.cell 3 (.string (bs npa)) rfl; have j4 := hE.2.1.cell 4 (.string (bs nqu)) rfl; have j5 := hE.2.1.cell 5 (.bool nhq) rfl
          go_simp
          try with_reducible rfl
        simp only [Act.put, List.setIfInBounds_toArray, List.set_cons_zero, List.set_cons_succ]
      refine growS_done (NoPanic.normal ?_)
      go_wp2_with fail
      clear z1 z2
      have KB := Lib.hid hE7.2.1
      have HE8 := Lib.hid hE7.2.2
      have HV8 := Lib.hid (HV.out.below HB7.out)
      clear hE7 hle hle2 hle3
      generalize w7 = w8 at *
      have HUP := Lib.hid (fun W (_ : Below w8.heap.size w8 W) => HUP0.out W)
      have HTP := Lib.hid (fun W (hb : Below w8.heap.size w8 W) => twistL_any npa _ W HWP.out (by have := HNZ.out.2.2.1; omega) (HV8.out.below hb))
      have HTQ := Lib.hid (fun W (hb : Below w8.heap.size w8 W) => twistL_any nqu _ W HWQ.out (by have := HNZ.out.2.2.2; omega) (HV8.out.below hb))
      apply wp_meetU (fun g tp tq W => ubk W g #[.string (bs nsc), .string (bs (Lib.toUpperA nho)), .int .i64 npo, .string (bs tp), .string (bs tq), .bool nhq] ∧ TW npa tp ∧ tp.length ≤ 100000 ∧ TW nqu tq ∧ tq.length ≤ 100000 ∧ Below w8.heap.size w8 W)
      case h1 =>
        refine wp_region_growS (.one 0 false (.one 1 false (.one 2 false (.one 3 false (.one 5 false (.one 6 false (.one 7 false (.one 8 false (.one 9 false (.one 11 false (.one 12 false (.one 13 false (.one 15 false (.one 16 false (.two 4 18 (.two 10 18 (.two 14 18 (.one 17 false (.one 18 true (.one 19 true .done))) (.one 14 true (.one 17 false (.one 19 true .done)))) (.one 10 true (.one 14 true (.one 17 false (.one 19 true .done))))) (.one 4 true (.one 10 true (.one 14 true (.one 17 false (.one 19 true .done))))))))))))))))))))
          (fun W => Below w8.heap.size w8 W) (by kernel_rfl) (by kernel_rfl) rfl (by kernel_rfl) (by kernel_rfl) ((Below.refl _ _).drew) (fun ops hops => ?_)
        simp only [GT.ins, List.getD_cons_zero, List.getD_cons_succ]
        clear hops
        iterate 14
          refine growS_take (by rfl) ?_
          apply Exists.intro
          refine ⟨fun w' hE => ?_, ?_⟩
          · have y0 := (KB.out.below hE).cell 0 (.string (bs nsc)) rfl; have y1 := (KB.out.below hE).cell 1 (.string (bs nho)) rfl; have y2 := (KB.out.below hE).cell 2 (.int .i64 npo) rfl; have y3 := (KB.out.below hE).cell 3 (.string (bs npa)) rfl; have y4 := (KB.out.below hE).cell 4 (.string (bs nqu)) rfl; have y5 := (KB.out.below hE).cell 5 (.bool nhq) rfl
            go_simp
            try with_reducible rfl
          simp only [Act.put, List.setIfInBounds_toArray, List.set_cons_zero, List.set_cons_succ]
        refine growS_two (by rfl) (by rfl) (fun K hK => ?_) (fun K hK => ?_)
        · go_simp
          refine (HUP.out _ ((Below.refl _ _).drew : Below w8.heap.size w8 w8.drew)).mono ?_
          rintro en z1 ⟨rfl, hb2⟩
          have hE2 : Below w8.heap.size w8 z1 := ((Below.refl _ _).drew : Below w8.heap.size w8 w8.drew).trans (hb2.mono ((Below.refl _ _).drew : Below w8.heap.size w8 w8.drew).size)
          refine hK.out _ _ hE2 ?_
          have HE1 := Lib.hid hE2
          clear hK K hb2 hE2
          refine growS_two (by rfl) (by rfl) (fun K hK => ?_) (fun K hK => ?_)
          · go_simp
            refine (HTP.out _ HE1.out).mono ?_
            rintro en z2 ⟨t1, rfl, hb2, ht1, hl1⟩
            have hE2 : Below w8.heap.size w8 z2 := HE1.out.trans (hb2.mono HE1.out.size)
            refine hK.out _ _ hE2 ?_
            have HE2 := Lib.hid hE2
            have HT1 := Lib.hid ht1; have HL1 := Lib.hid hl1; clear ht1 hl1
            clear hK K hb2 hE2
            refine growS_two (by rfl) (by rfl) (fun K hK => ?_) (fun K hK => ?_)
            · go_simp
              refine (HTQ.out _ HE2.out).mono ?_
              rintro en z3 ⟨t2, rfl, hb2, ht2, hl2⟩
              have hE2 : Below w8.heap.size w8 z3 := HE2.out.trans (hb2.mono HE2.out.size)
              refine hK.out _ _ hE2 ?_
              have HE3 := Lib.hid hE2
              have HT2 := Lib.hid ht2; have HL2 := Lib.hid hl2; clear ht2 hl2
              clear hK K hb2 hE2
              iterate 1
                refine growS_take (by rfl) ?_
                apply Exists.intro
                refine ⟨fun w' hE => ?_, ?_⟩
                · have y0 := (KB.out.below hE).cell 0 (.string (bs nsc)) rfl; have y1 := (KB.out.below hE).cell 1 (.string (bs nho)) rfl; have y2 := (KB.out.below hE).cell 2 (.int .i64 npo) rfl; have y3 := (KB.out.below hE).cell 3 (.string (bs npa)) rfl; have y4 := (KB.out.below hE).cell 4 (.string (bs nqu)) rfl; have y5 := (KB.out.below hE).cell 5 (.bool nhq) rfl
                  go_simp
                  try with_reducible rfl
                simp only [Act.put, List.setIfInBounds_toArray, List.set_cons_zero, List.set_cons_succ]
              refine growS_call (by rfl) (fun K hK => ?_)
              go_simp
              have hd1 : Below z3.heap.size z3 (z3.alloc (.cells #[.string ⟨#[]⟩, .string ⟨#[]⟩, .int .i64 0, .string ⟨#[]⟩, .string ⟨#[]⟩, .bool false] 23)) := (Below.refl _ _).alloc (Nat.le_refl _) _
              have hE2 : Below w8.heap.size w8 (z3.alloc (.cells #[.string ⟨#[]⟩, .string ⟨#[]⟩, .int .i64 0, .string ⟨#[]⟩, .string ⟨#[]⟩, .bool false] 23)) := HE3.out.trans (hd1.mono HE3.out.size)
              have hz1 := ubk.new z3 #[.string ⟨#[]⟩, .string ⟨#[]⟩, .int .i64 0, .string ⟨#[]⟩, .string ⟨#[]⟩, .bool false] 23
              have hgl := HE3.out.size
              refine hK.out _ _ hE2 ?_
              have HE4 := Lib.hid hE2; have HZ4 := Lib.hid hz1; have HGL := Lib.hid hgl; clear hK K hd1 hz1 hE2 hgl
              generalize (z3.alloc (.cells #[.string ⟨#[]⟩, .string ⟨#[]⟩, .int .i64 0, .string ⟨#[]⟩, .string ⟨#[]⟩, .bool false] 23)) = z4 at *
              generalize z3.heap.size = g at HZ4 HGL ⊢
              have nc0 := HZ4.out.cell 0 (.string ⟨#[]⟩) rfl
              have nf0 := HZ4.out.free 0
              have nc1 := HZ4.out.cell 1 (.string ⟨#[]⟩) rfl
              have nf1 := HZ4.out.free 1
              have nc2 := HZ4.out.cell 2 (.int .i64 0) rfl
              have nf2 := HZ4.out.free 2
              have nc3 := HZ4.out.cell 3 (.string ⟨#[]⟩) rfl
              have nf3 := HZ4.out.free 3
              have nc4 := HZ4.out.cell 4 (.string ⟨#[]⟩) rfl
              have nf4 := HZ4.out.free 4
              have nc5 := HZ4.out.cell 5 (.bool false) rfl
              have nf5 := HZ4.out.free 5
              have hq0 := ((((((HZ4.out.set 0 (.string (bs nsc))).set 1 (.string (bs (Lib.toUpperA nho)))).set 2 (.int .i64 npo)).set 3 (.string (bs t1))).set 4 (.string (bs t2))).set 5 (.bool nhq))
              simp only [List.setIfInBounds_toArray, List.set_cons_zero, List.set_cons_succ] at hq0
              have HQ0 := Lib.hid hq0; clear hq0
              have hE9 := ((((((HE4.out.setCell (p := ⟨g, 0, none⟩) HGL.out (.string (bs nsc))).setCell (p := ⟨g, 1, none⟩) HGL.out (.string (bs (Lib.toUpperA nho)))).setCell (p := ⟨g, 2, none⟩) HGL.out (.int .i64 npo)).setCell (p := ⟨g, 3, none⟩) HGL.out (.string (bs t1))).setCell (p := ⟨g, 4, none⟩) HGL.out (.string (bs t2))).setCell (p := ⟨g, 5, none⟩) HGL.out (.bool nhq))
              have HE9 := Lib.hid hE9; clear hE9
              refine growS_call (by rfl) (fun K hK => ?_)
              go_simp
              refine hK.out _ _ HE9.out ?_
              clear hK K
              refine growS_done (NoPanic.normal ?_)
              exact ⟨g, t1, t2, rfl, rfl, HQ0.out, HT1.out, HL1.out, HT2.out, HL2.out, HE9.out⟩
            · go_simp
              have hd1 : Below z2.heap.size z2 (z2.alloc (.cells #[.string ⟨#[]⟩, .string ⟨#[]⟩, .int .i64 0, .string ⟨#[]⟩, .string ⟨#[]⟩, .bool false] 23)) := (Below.refl _ _).alloc (Nat.le_refl _) _
              have hE2 : Below w8.heap.size w8 (z2.alloc (.cells #[.string ⟨#[]⟩, .string ⟨#[]⟩, .int .i64 0, .string ⟨#[]⟩, .string ⟨#[]⟩, .bool false] 23)) := HE2.out.trans (hd1.mono HE2.out.size)
              have hz1 := ubk.new z2 #[.string ⟨#[]⟩, .string ⟨#[]⟩, .int .i64 0, .string ⟨#[]⟩, .string ⟨#[]⟩, .bool false] 23
              have hgl := HE2.out.size
              refine hK.out _ _ hE2 ?_
              have HE5 := Lib.hid hE2; have HZ5 := Lib.hid hz1; have HGL := Lib.hid hgl; clear hK K hd1 hz1 hE2 hgl
              generalize (z2.alloc (.cells #[.string ⟨#[]⟩, .string ⟨#[]⟩, .int .i64 0, .string ⟨#[]⟩, .string ⟨#[]⟩, .bool false] 23)) = z5 at *
              generalize z2.heap.size = g at HZ5 HGL ⊢
              refine growS_call (by rfl) (fun K hK => ?_)
              go_simp
              refine (HTQ.out _ HE5.out).mono ?_
              rintro en z6 ⟨t2, rfl, hb2, ht2, hl2⟩
              have hE2 : Below w8.heap.size w8 z6 := HE5.out.trans (hb2.mono HE5.out.size)
              refine hK.out _ _ hE2 ?_
              have HE6 := Lib.hid hE2
              have HZ6 := Lib.hid (HZ5.out.below hb2)
              have HT2 := Lib.hid ht2; have HL2 := Lib.hid hl2; clear ht2 hl2
              clear hK K hb2 hE2
              iterate 1
                refine growS_take (by rfl) ?_
                apply Exists.intro
                refine ⟨fun w' hE => ?_, ?_⟩
                · have y0 := (KB.out.below hE).cell 0 (.string (bs nsc)) rfl; have y1 := (KB.out.below hE).cell 1 (.string (bs nho)) rfl; have y2 := (KB.out.below hE).cell 2 (.int .i64 npo) rfl; have y3 := (KB.out.below hE).cell 3 (.string (bs npa)) rfl; have y4 := (KB.out.below hE).cell 4 (.string (bs nqu)) rfl; have y5 := (KB.out.below hE).cell 5 (.bool nhq) rfl
                  go_simp
                  try with_reducible rfl
                simp only [Act.put, List.setIfInBounds_toArray, List.set_cons_zero, List.set_cons_succ]
              have nc0 := HZ6.out.cell 0 (.string ⟨#[]⟩) rfl
              have nf0 := HZ6.out.free 0
              have nc1 := HZ6.out.cell 1 (.string ⟨#[]⟩) rfl
              have nf1 := HZ6.out.free 1
              have nc2 := HZ6.out.cell 2 (.int .i64 0) rfl
              have nf2 := HZ6.out.free 2
              have nc3 := HZ6.out.cell 3 (.string ⟨#[]⟩) rfl
              have nf3 := HZ6.out.free 3
              have nc4 := HZ6.out.cell 4 (.string ⟨#[]⟩) rfl
              have nf4 := HZ6.out.free 4
              have nc5 := HZ6.out.cell 5 (.bool false) rfl
              have nf5 := HZ6.out.free 5
              have hq0 := ((((((HZ6.out.set 0 (.string (bs nsc))).set 1 (.string (bs (Lib.toUpperA nho)))).set 2 (.int .i64 npo)).set 3 (.string (bs t1))).set 4 (.string (bs t2))).set 5 (.bool nhq))
              simp only [List.setIfInBounds_toArray, List.set_cons_zero, List.set_cons_succ] at hq0
              have HQ0 := Lib.hid hq0; clear hq0
              have hE9 := ((((((HE6.out.setCell (p := ⟨g, 0, none⟩) HGL.out (.string (bs nsc))).setCell (p := ⟨g, 1, none⟩) HGL.out (.string (bs (Lib.toUpperA nho)))).setCell (p := ⟨g, 2, none⟩) HGL.out (.int .i64 npo)).setCell (p := ⟨g, 3, none⟩) HGL.out (.string (bs t1))).setCell (p := ⟨g, 4, none⟩) HGL.out (.string (bs t2))).setCell (p := ⟨g, 5, none⟩) HGL.out (.bool nhq))
              have HE9 := Lib.hid hE9; clear hE9
              refine growS_call (by rfl) (fun K hK => ?_)
              go_simp
              refine hK.out _ _ HE9.out ?_
              clear hK K
              refine growS_done (NoPanic.normal ?_)
              exact ⟨g, t1, t2, rfl, rfl, HQ0.out, HT1.out, HL1.out, HT2.out, HL2.out, HE9.out⟩
          · go_simp
            have hd1 : Below z1.heap.size z1 (z1.alloc (.cells #[.string ⟨#[]⟩, .string ⟨#[]⟩, .int .i64 0, .string ⟨#[]⟩, .string ⟨#[]⟩, .bool false] 23)) := (Below.refl _ _).alloc (Nat.le_refl _) _
            have hE2 : Below w8.heap.size w8 (z1.alloc (.cells #[.string ⟨#[]⟩, .string ⟨#[]⟩, .int .i64 0, .string ⟨#[]⟩, .string ⟨#[]⟩, .bool false] 23)) := HE1.out.trans (hd1.mono HE1.out.size)
            have hz1 := ubk.new z1 #[.string ⟨#[]⟩, .string ⟨#[]⟩, .int .i64 0, .string ⟨#[]⟩, .string ⟨#[]⟩, .bool false] 23
            have hgl := HE1.out.size
            refine hK.out _ _ hE2 ?_
            have HE7 := Lib.hid hE2; have HZ7 := Lib.hid hz1; have HGL := Lib.hid hgl; clear hK K hd1 hz1 hE2 hgl
            generalize (z1.alloc (.cells #[.string ⟨#[]⟩, .string ⟨#[]⟩, .int .i64 0, .string ⟨#[]⟩, .string ⟨#[]⟩, .bool false] 23)) = z7 at *
            generalize z1.heap.size = g at HZ7 HGL ⊢
            refine growS_call (by rfl) (fun K hK => ?_)
            go_simp
            refine (HTP.out _ HE7.out).mono ?_
            rintro en z8 ⟨t1, rfl, hb2, ht1, hl1⟩
            have hE2 : Below w8.heap.size w8 z8 := HE7.out.trans (hb2.mono HE7.out.size)
            refine hK.out _ _ hE2 ?_
            have HE8 := Lib.hid hE2
            have HZ8 := Lib.hid (HZ7.out.below hb2)
            have HT1 := Lib.hid ht1; have HL1 := Lib.hid hl1; clear ht1 hl1
            clear hK K hb2 hE2
            refine growS_call (by rfl) (fun K hK => ?_)
            go_simp
            refine (HTQ.out _ HE8.out).mono ?_
            rintro en z9 ⟨t2, rfl, hb2, ht2, hl2⟩
            have hE2 : Below w8.heap.size w8 z9 := HE8.out.trans (hb2.mono HE8.out.size)
            refine hK.out _ _ hE2 ?_
            have HE9 := Lib.hid hE2
            have HZ9 := Lib.hid (HZ8.out.below hb2)
            have HT2 := Lib.hid ht2; have HL2 := Lib.hid hl2; clear ht2 hl2
            clear hK K hb2 hE2
            iterate 1
              refine growS_take (by rfl) ?_
              apply Exists.intro
              refine ⟨fun w' hE => ?_, ?_⟩
              · have y0 := (KB.out.below hE).cell 0 (.string (bs nsc)) rfl; have y1 := (KB.out.below hE).cell 1 (.string (bs nho)) rfl; have y2 := (KB.out.below hE).cell 2 (.int .i64 npo) rfl; have y3 := (KB.out.below hE).cell 3 (.string (bs npa)) rfl; have y4 := (KB.out.below hE).cell 4 (.string (bs nqu)) rfl; have y5 := (KB.out.below hE).cell 5 (.bool nhq) rfl
                go_simp
                try with_reducible rfl
              simp only [Act.put, List.setIfInBounds_toArray, List.set_cons_zero, List.set_cons_succ]
            have nc0 := HZ9.out.cell 0 (.string ⟨#[]⟩) rfl
            have nf0 := HZ9.out.free 0
            have nc1 := HZ9.out.cell 1 (.string ⟨#[]⟩) rfl
            have nf1 := HZ9.out.free 1
            have nc2 := HZ9.out.cell 2 (.int .i64 0) rfl
            have nf2 := HZ9.out.free 2
            have nc3 := HZ9.out.cell 3 (.string ⟨#[]⟩) rfl
            have nf3 := HZ9.out.free 3
            have nc4 := HZ9.out.cell 4 (.string ⟨#[]⟩) rfl
            have nf4 := HZ9.out.free 4
            have nc5 := HZ9.out.cell 5 (.bool false) rfl
            have nf5 := HZ9.out.free 5
            have hq0 := ((((((HZ9.out.set 0 (.string (bs nsc))).set 1 (.string (bs (Lib.toUpperA nho)))).set 2 (.int .i64 npo)).set 3 (.string (bs t1))).set 4 (.string (bs t2))).set 5 (.bool nhq))
            simp only [List.setIfInBounds_toArray, List.set_cons_zero, List.set_cons_succ] at hq0
            have HQ0 := Lib.hid hq0; clear hq0
            have hE9 := ((((((HE9.out.setCell (p := ⟨g, 0, none⟩) HGL.out (.string (bs nsc))).setCell (p := ⟨g, 1, none⟩) HGL.out (.string (bs (Lib.toUpperA nho)))).setCell (p := ⟨g, 2, none⟩) HGL.out (.int .i64 npo)).setCell (p := ⟨g, 3, none⟩) HGL.out (.string (bs t1))).setCell (p := ⟨g, 4, none⟩) HGL.out (.string (bs t2))).setCell (p := ⟨g, 5, none⟩) HGL.out (.bool nhq))
            have HE9 := Lib.hid hE9; clear hE9
            refine growS_call (by rfl) (fun K hK => ?_)
            go_simp
            refine hK.out _ _ HE9.out ?_
            clear hK K
            refine growS_done (NoPanic.normal ?_)
            exact ⟨g, t1, t2, rfl, rfl, HQ0.out, HT1.out, HL1.out, HT2.out, HL2.out, HE9.out⟩
        · go_simp
          have hd1 : Below w8.heap.size w8 (w8.alloc (.cells #[.string ⟨#[]⟩, .string ⟨#[]⟩, .int .i64 0, .string ⟨#[]⟩, .string ⟨#[]⟩, .bool false] 23)).drew := ((Below.refl _ _).alloc (Nat.le_refl _) _).drew
          have hz1 := (ubk.new w8 #[.string ⟨#[]⟩, .string ⟨#[]⟩, .int .i64 0, .string ⟨#[]⟩, .string ⟨#[]⟩, .bool false] 23).below (drewU (w8.alloc (.cells #[.string ⟨#[]⟩, .string ⟨#[]⟩, .int .i64 0, .string ⟨#[]⟩, .string ⟨#[]⟩, .bool false] 23)))
          refine hK.out _ _ hd1 ?_
          have HE10 := Lib.hid hd1; have HZ10 := Lib.hid hz1; clear hK K hd1 hz1
          generalize (w8.alloc (.cells #[.string ⟨#[]⟩, .string ⟨#[]⟩, .int .i64 0, .string ⟨#[]⟩, .string ⟨#[]⟩, .bool false] 23)).drew = z10 at *
          refine growS_call (by rfl) (fun K hK => ?_)
          go_simp
          refine (HUP.out _ HE10.out).mono ?_
          rintro en z11 ⟨rfl, hb2⟩
          have hE2 : Below w8.heap.size w8 z11 := HE10.out.trans (hb2.mono HE10.out.size)
          refine hK.out _ _ hE2 ?_
          have HE11 := Lib.hid hE2
          have HZ11 := Lib.hid (HZ10.out.below hb2)
          clear hK K hb2 hE2
          refine growS_call (by rfl) (fun K hK => ?_)
          go_simp
          refine (HTP.out _ HE11.out).mono ?_
          rintro en z12 ⟨t1, rfl, hb2, ht1, hl1⟩
          have hE2 : Below w8.heap.size w8 z12 := HE11.out.trans (hb2.mono HE11.out.size)
          refine hK.out _ _ hE2 ?_
          have HE12 := Lib.hid hE2
          have HZ12 := Lib.hid (HZ11.out.below hb2)
          have HT1 := Lib.hid ht1; have HL1 := Lib.hid hl1; clear ht1 hl1
          clear hK K hb2 hE2
          refine growS_call (by rfl) (fun K hK => ?_)
          go_simp
          refine (HTQ.out _ HE12.out).mono ?_
          rintro en z13 ⟨t2, rfl, hb2, ht2, hl2⟩
          have hE2 : Below w8.heap.size w8 z13 := HE12.out.trans (hb2.mono HE12.out.size)
          refine hK.out _ _ hE2 ?_
          have HE13 := Lib.hid hE2
          have HZ13 := Lib.hid (HZ12.out.below hb2)
          have HT2 := Lib.hid ht2; have HL2 := Lib.hid hl2; clear ht2 hl2
          clear hK K hb2 hE2
          iterate 1
            refine growS_take (by rfl) ?_
            apply Exists.intro
            refine ⟨fun w' hE => ?_, ?_⟩
            · have y0 := (KB.out.below hE).cell 0 (.string (bs nsc)) rfl; have y1 := (KB.out.below hE).cell 1 (.string (bs nho)) rfl; have y2 := (KB.out.below hE).cell 2 (.int .i64 npo) rfl; have y3 := (KB.out.below hE).cell 3 (.string (bs npa)) rfl; have y4 := (KB.out.below hE).cell 4 (.string (bs nqu)) rfl; have y5 := (KB.out.below hE).cell 5 (.bool nhq) rfl
              go_simp
              try with_reducible rfl
            simp only [Act.put, List.setIfInBounds_toArray, List.set_cons_zero, List.set_cons_succ]
          generalize w8.heap.size = g at *
          have nc0 := HZ13.out.cell 0 (.string ⟨#[]⟩) rfl
          have nf0 := HZ13.out.free 0
          have nc1 := HZ13.out.cell 1 (.string ⟨#[]⟩) rfl
          have nf1 := HZ13.out.free 1
          have nc2 := HZ13.out.cell 2 (.int .i64 0) rfl
          have nf2 := HZ13.out.free 2
          have nc3 := HZ13.out.cell 3 (.string ⟨#[]⟩) rfl
          have nf3 := HZ13.out.free 3
          have nc4 := HZ13.out.cell 4 (.string ⟨#[]⟩) rfl
          have nf4 := HZ13.out.free 4
          have nc5 := HZ13.out.cell 5 (.bool false) rfl
          have nf5 := HZ13.out.free 5
          have hq0 := ((((((HZ13.out.set 0 (.string (bs nsc))).set 1 (.string (bs (Lib.toUpperA nho)))).set 2 (.int .i64 npo)).set 3 (.string (bs t1))).set 4 (.string (bs t2))).set 5 (.bool nhq))
          simp only [List.setIfInBounds_toArray, List.set_cons_zero, List.set_cons_succ] at hq0
          have HQ0 := Lib.hid hq0; clear hq0
          have hE9 := ((((((HE13.out.setCell (p := ⟨g, 0, none⟩) (Nat.le_refl _) (.string (bs nsc))).setCell (p := ⟨g, 1, none⟩) (Nat.le_refl _) (.string (bs (Lib.toUpperA nho)))).setCell (p := ⟨g, 2, none⟩) (Nat.le_refl _) (.int .i64 npo)).setCell (p := ⟨g, 3, none⟩) (Nat.le_refl _) (.string (bs t1))).setCell (p := ⟨g, 4, none⟩) (Nat.le_refl _) (.string (bs t2))).setCell (p := ⟨g, 5, none⟩) (Nat.le_refl _) (.bool nhq))
          have HE9 := Lib.hid hE9; clear hE9
          refine growS_call (by rfl) (fun K hK => ?_)
          go_simp
          refine hK.out _ _ HE9.out ?_
          clear hK K
          refine growS_done (NoPanic.normal ?_)
          exact ⟨g, t1, t2, rfl, rfl, HQ0.out, HT1.out, HL1.out, HT2.out, HL2.out, HE9.out⟩
      case h2 =>
        rintro g9 tp tq w9 ⟨hg1, hg2, hg3, hg4, hg5, hg6⟩
        have HG9 := Lib.hid hg1; have HTW := Lib.hid hg2; have HTV := Lib.hid hg4
        have HD0 := Lib.hid (HB7.out.trans (hg6.mono HB7.out.size))
        have HN9 := Lib.hid (KB.out.below hg6)
        have hvk : Ur.okW ⟨nsc, Lib.toUpperA nho, npo, tp, tq, nhq⟩ := by
          have h1 := HNZ.out
          have h2 : (Lib.toUpperA nho).length = nho.length := by simp [Lib.toUpperA]
          refine ⟨by show nsc.length + (Lib.toUpperA nho).length + tp.length + tq.length ≤ _; omega, ?_, ?_⟩
          · have h3 : 0 ≤ npo := HNU.out.p0
            show _ ≤ npo; omega
          · have h3 : npo ≤ 65535 := HNU.out.p1
            show npo ≤ _; omega
        have HCV := Lib.hid (fun W (hb : EnvU W) => uriCheck_any ⟨nsc, Lib.toUpperA nho, npo, tp, tq, nhq⟩ W hb hvk)
        have HNV0 := Lib.hid (fun W (hb : EnvU W) => normal_any ⟨nsc, Lib.toUpperA nho, npo, tp, tq, nhq⟩ W hb hvk)
        have HTS := Lib.hid (twist_same HNU.out (tp := tp) (tq := tq) HTW.out HTV.out)
        simp only at HCV HNV0 HTS
        clear hg1 hg2 hg3 hg4 hg5 hg6 hvk HTP HTQ HUP KB HUP0 HWP HWQ HE8
        generalize Ur.check ⟨nsc, Lib.toUpperA nho, npo, tp, tq, nhq⟩ = vk at *
        have vc0 := HG9.out.cell 0 (.string (bs nsc)) rfl
        have vc1 := HG9.out.cell 1 (.string (bs (Lib.toUpperA nho))) rfl
        have vc2 := HG9.out.cell 2 (.int .i64 npo) rfl
        have vc3 := HG9.out.cell 3 (.string (bs tp)) rfl
        have vc4 := HG9.out.cell 4 (.string (bs tq)) rfl
        have vc5 := HG9.out.cell 5 (.bool nhq) rfl
        go_wp2_with fail
        refine (HCV.out _ (HE.out.bel HD0.out)).mono ?_
        rintro r w10 ⟨rfl, hb10⟩
        have HD1 := Lib.hid (HD0.out.trans (hb10.mono HD0.out.size))
        have HG10 := Lib.hid (HG9.out.below hb10); have HN10 := Lib.hid (HN9.out.below hb10)
        clear hb10 vc0 vc1 vc2 vc3 vc4 vc5
        by_cases h3 : vk = 3
        · have q3 : (vk == 3) = true := by rw [h3]; rfl
          clear h3
          go_wp2_with fail
          refine (awakeU_any _ (HE.out.bel HD1.out)).mono ?_
          rintro r w11 ⟨rfl, hb11⟩
          have HD2 := Lib.hid (HD1.out.trans (hb11.mono HD1.out.size)); clear hb11
          go_wp2_with fail
          go_ret
          exact ⟨rfl, HD2.out⟩
        · have q3 : (vk == 3) = false := beq_eq_false_iff_ne.2 h3
          have hts := HTS.out h3
          rw [hts] at HNV0
          have HNV := HNV0
          clear h3 hts HNV0 HTS
          go_wp2_with fail
          have hF1 : ubk w10.drew g9 #[.string (bs nsc), .string (bs (Lib.toUpperA nho)), .int .i64 npo, .string (bs tp), .string (bs tq), .bool nhq] ∧ ubk w10.drew bn #[.string (bs nsc), .string (bs nho), .int .i64 npo, .string (bs npa), .string (bs nqu), .bool nhq] ∧ EnvU w10.drew := ⟨HG10.out.below (drewU w10), HN10.out.below (drewU w10), (HE.out.bel HD1.out).bel (drewU w10)⟩
          have HD1 := Lib.hid (HD1.out.trans ((drewU w10).mono HD1.out.size))
          refine wp_region_growS (.one 0 false (.one 2 false (.one 1 true (.one 3 false (.one 4 false (.one 5 true (.one 6 false (.one 7 false .done))))))))
            (fun W => ubk W g9 #[.string (bs nsc), .string (bs (Lib.toUpperA nho)), .int .i64 npo, .string (bs tp), .string (bs tq), .bool nhq] ∧ ubk W bn #[.string (bs nsc), .string (bs nho), .int .i64 npo, .string (bs npa), .string (bs nqu), .bool nhq] ∧ EnvU W) (by kernel_rfl) (by kernel_rfl) rfl (by kernel_rfl) (by kernel_rfl) hF1 (fun ops hops => ?_)
          simp only [GT.ins, List.getD_cons_zero, List.getD_cons_succ]
          have g4 : (ops[4]?).bind (·.dst) = some 61 := by rw [hops.out]; rfl
          have G4 := Lib.hid g4
          clear hops g4
          iterate 2
            refine growS_take (by rfl) ?_
            apply Exists.intro
            refine ⟨fun w' hE => ?_, ?_⟩
            · have k0 := hE.1.cell 0 (.string (bs nsc)) rfl; have k1 := hE.1.cell 1 (.string (bs (Lib.toUpperA nho))) rfl; have k2 := hE.1.cell 2 (.int .i64 npo) rfl; have k3 := hE.1.cell 3 (.string (bs tp)) rfl; have k4 := hE.1.cell 4 (.string (bs tq)) rfl; have k5 := hE.1.cell 5 (.bool nhq) rfl; have j0 := hE.2.1.cell 0 (.string (bs nsc)) rfl; have j1 := hE.2.1.cell 1 (.string (bs nho)) rfl; have j2 := hE.2.1.cell 2 (.int .i64 npo) rfl; have j3 := hE.2.1.cell 3 (.string (bs npa)) rfl; have j4 := hE.2.1.cell 4 (.string (bs nqu)) rfl; have j5 := hE.2.1.cell 5 (.bool nhq) rfl
              go_simp
              try with_reducible rfl
            simp only [Act.put, List.setIfInBounds_toArray, List.set_cons_zero, List.set_cons_succ]
          refine growS_call (by rfl) (fun K hK => ?_)
          go_simp
          refine (HNV.out _ hF1.2.2).mono ?_
          rintro r y2 ⟨rfl, hb2⟩
          have hF2 : ubk y2 g9 #[.string (bs nsc), .string (bs (Lib.toUpperA nho)), .int .i64 npo, .string (bs tp), .string (bs tq), .bool nhq] ∧ ubk y2 bn #[.string (bs nsc), .string (bs nho), .int .i64 npo, .string (bs npa), .string (bs nqu), .bool nhq] ∧ EnvU y2 := ⟨hF1.1.below hb2, hF1.2.1.below hb2, hF1.2.2.bel hb2⟩
          refine hK.out _ _ hF2 ?_
          have HD2 : Hid (Below w.heap.size w y2) := HD1.out.trans (hb2.mono HD1.out.size)
          clear hK K hb2
          iterate 2
            refine growS_take (by rfl) ?_
            apply Exists.intro
            refine ⟨fun w' hE => ?_, ?_⟩
            · have k0 := hE.1.cell 0 (.string (bs nsc)) rfl; have k1 := hE.1.cell 1 (.string (bs (Lib.toUpperA nho))) rfl; have k2 := hE.1.cell 2 (.int .i64 npo) rfl; have k3 := hE.1.cell 3 (.string (bs tp)) rfl; have k4 := hE.1.cell 4 (.string (bs tq)) rfl; have k5 := hE.1.cell 5 (.bool nhq) rfl; have j0 := hE.2.1.cell 0 (.string (bs nsc)) rfl; have j1 := hE.2.1.cell 1 (.string (bs nho)) rfl; have j2 := hE.2.1.cell 2 (.int .i64 npo) rfl; have j3 := hE.2.1.cell 3 (.string (bs npa)) rfl; have j4 := hE.2.1.cell 4 (.string (bs nqu)) rfl; have j5 := hE.2.1.cell 5 (.bool nhq) rfl
              go_simp
              try with_reducible rfl
            simp only [Act.put, List.setIfInBounds_toArray, List.set_cons_zero, List.set_cons_succ]
          refine growS_call (wantedS G4.out rfl rfl) (fun K hK => ?_)
          go_simp
          refine (awakeU_any _ hF2.2.2).mono ?_
          rintro r y3 ⟨rfl, hb3⟩
          have hF3 : ubk y3 g9 #[.string (bs nsc), .string (bs (Lib.toUpperA nho)), .int .i64 npo, .string (bs tp), .string (bs tq), .bool nhq] ∧ ubk y3 bn #[.string (bs nsc), .string (bs nho), .int .i64 npo, .string (bs npa), .string (bs nqu), .bool nhq] ∧ EnvU y3 := ⟨hF2.1.below hb3, hF2.2.1.below hb3, hF2.2.2.bel hb3⟩
          refine hK.out _ _ hF3 ?_
          have HD3 : Hid (Below w.heap.size w y3) := HD2.out.trans (hb3.mono HD2.out.size)
          clear hK K hb3
          iterate 2
            refine growS_take (by rfl) ?_
            apply Exists.intro
            refine ⟨fun w' hE => ?_, ?_⟩
            · have k0 := hE.1.cell 0 (.string (bs nsc)) rfl; have k1 := hE.1.cell 1 (.string (bs (Lib.toUpperA nho))) rfl; have k2 := hE.1.cell 2 (.int .i64 npo) rfl; have k3 := hE.1.cell 3 (.string (bs tp)) rfl; have k4 := hE.1.cell 4 (.string (bs tq)) rfl; have k5 := hE.1.cell 5 (.bool nhq) rfl; have j0 := hE.2.1.cell 0 (.string (bs nsc)) rfl; have j1 := hE.2.1.cell 1 (.string (bs nho)) rfl; have j2 := hE.2.1.cell 2 (.int .i64 npo) rfl; have j3 := hE.2.1.cell 3 (.string (bs npa)) rfl; have j4 := hE.2.1.cell 4 (.string (bs nqu)) rfl; have j5 := hE.2.1.cell 5 (.bool nhq) rfl
              go_simp
              try with_reducible rfl
            simp only [Act.put, List.setIfInBounds_toArray, List.set_cons_zero, List.set_cons_succ]
          refine growS_done (NoPanic.normal ?_)
          go_wp2_with fail
          go_ret
          exact ⟨rfl, HD3.out⟩
    · have q0 : (ck != 0) = true := bne_iff_ne.2 hck
      clear hck HNM
      go_wp2_with fail
      refine (awakeU_any _ (HE.out.bel HB2.out)).mono ?_
      rintro r w3 ⟨rfl, hb3⟩
      have HB3 := Lib.hid (HB2.out.trans (hb3.mono HB2.out.size)); clear hb3
      go_wp2_with fail
      go_ret
      exact ⟨rfl, HB3.out⟩
  · skip
    go_enter Tryz.func4, Tryz.ntmps4
    go_wp2_with fail
    refine (HLO.out _).mono ?_
    rintro r w1 ⟨rfl, hb1⟩
    have HB1 := Lib.hid (HAL.out.trans (hb1.mono HAL.out.size))
    have hx1 := HX.out.below hb1
    clear hb1 xc0 xc1 xc2 xc3 xc4 xc5
    go_wp2_with fail
    refine (awakeU_any _ (HE.out.bel HB1.out)).mono ?_
    rintro r w2 ⟨rfl, hb2⟩
    have HB2 := Lib.hid (HB1.out.trans (hb2.mono HB1.out.size)); clear hb2
    go_wp2_with fail
    go_ret
    exact ⟨rfl, HB2.out⟩
end Go.Proofs.YtigaghdalecdlaaGreatDoor
