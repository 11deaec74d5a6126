/- Is a URI long; a URI's text is read as the URI: the statement's own walk. -/
import Derived.Test.YtigaghdalecdlaaDoorUriS
import Derived.Test.YtigaghdalecdlaaDoorUri4
import Derived.Test.YtigaghdalecdlaaDoorGrow3
import Derived.Deep.DeepCutAuto
import Derived.Deep.CutBlock
namespace Go.Proofs.YtigaghdalecdlaaDoor
open Go.RowKit

theorem drewU (w : World) : Below w.heap.size w w.drew := by
  have h := Below.refl w.heap.size w
  exact ⟨h.os, h.tape, h.output, h.size, h.block⟩
theorem index_leU (c : UInt8) : ∀ l : List UInt8, Lib.indexByte l c ≤ l.length
  | [] => by simp [Lib.indexByte]
  | b :: l => by
    have ih := index_leU c l
    unfold Lib.indexByte
    rw [List.length_cons]
    split
    · omega
    · split <;> omega
/-- a URI whose texts are no longer than what one row may reach -/
structure Ur.sized (u : Ur) : Prop where
  sc : u.sc.length ≤ 140737488351232
  ho : u.ho.length ≤ 140737488351232
  pa : u.pa.length ≤ 140737488351232
  qu : u.qu.length ≤ 140737488351232
  po : (Lit.int .i64 u.po).wf = true
theorem i64U {n : Int} (h : (Lit.int .i64 n).wf = true) : -9223372036854775808 ≤ n ∧ n ≤ 9223372036854775807 := by
  simp [Lit.wf, IntKind.min, IntKind.max, IntKind.bits, IntKind.signed] at h
  omega
def longB (u : Ur) : Bool := decide (3000 < u.sc.length + u.ho.length + u.pa.length + u.qu.length)
theorem long_okW {u : Ur} (h : u.sized) (hl : longB u = false) : u.okW := by
  unfold longB at hl
  have h1 := of_decide_eq_false hl
  have h2 := i64U h.po
  refine ⟨by omega, ?_, ?_⟩ <;> omega
set_option maxHeartbeats 1000000 in
set_option maxRecDepth 100000 in
theorem ulong_any (u : Ur) (w : World) (h : u.sized) :
    Calls Tryd.prog 19 #[.agg #[.string (bs u.sc), .string (bs u.ho), .int .i64 u.po, .string (bs u.pa), .string (bs u.qu), .bool u.hq]] w fun r w' => r = .returned (.bool (longB u)) ∧ Below w.heap.size w w' := by
  obtain ⟨h1, h2, h3, h4, -⟩ := h
  unfold longB
  obtain ⟨sc, ho, po, pa, qu, hq⟩ := u
  simp only at h1 h2 h3 h4 ⊢
  have hal : Below w.heap.size w (w.alloc (.cells #[.string (bs sc), .string (bs ho), .int .i64 po, .string (bs pa), .string (bs qu), .bool hq] 24)) := (Below.refl _ _).alloc (Nat.le_refl _) _
  have HAL := Lib.hid hal; clear hal
  have hx := ubk.new w #[.string (bs sc), .string (bs ho), .int .i64 po, .string (bs pa), .string (bs qu), .bool hq] 24
  have xc0 := hx.cell 0 (.string (bs sc)) rfl
  have xc1 := hx.cell 1 (.string (bs ho)) rfl
  have xc2 := hx.cell 2 (.int .i64 po) rfl
  have xc3 := hx.cell 3 (.string (bs pa)) rfl
  have xc4 := hx.cell 4 (.string (bs qu)) rfl
  have xc5 := hx.cell 5 (.bool hq) rfl
  clear hx
  have z1 := bs_size sc
  have z2 := bs_size ho
  have z3 := bs_size pa
  have z4 := bs_size qu
  go_enter Tryd.func19, Tryd.ntmps19
  go_wp2_with fail
  have HF : Hid (decide ((3000 : Int) < ↑sc.length + ↑ho.length + ↑pa.length + ↑qu.length) = decide (3000 < sc.length + ho.length + pa.length + qu.length)) := by
    show _ = _
    rw [Bool.eq_iff_iff, decide_eq_true_eq, decide_eq_true_eq]
    omega
  go_ret
  exact ⟨ret_bool HF.out, HAL.out⟩

set_option maxHeartbeats 4000000 in
set_option maxRecDepth 100000 in
theorem uriBack_law (u : Ur) (s : ByteArray) (w : World) (hu : u.sized) (_ : s.size ≤ maxLen) (hm : MaxU w) (hl0 : Env w) :
    Calls Tryd.prog 6 #[.agg #[.string (bs u.sc), .string (bs u.ho), .int .i64 u.po, .string (bs u.pa), .string (bs u.qu), .bool u.hq], .string s] w fun e w' => e = .returned (.bool true) ∧ Below w.heap.size w w' := by
  have HE : Hid (EnvU w) := ⟨hm, hl0⟩
  clear hm hl0
  have HLO := Lib.hid (fun W => ulong_any u W hu)
  have HOK := Lib.hid (long_okW hu)
  have hpp := uparse_put (u := u)
  have HPP := Lib.hid hpp; clear hpp hu
  have HCK0 := Lib.hid (fun W (hb : EnvU W) hk => uriCheck_any u W hb hk)
  have HPT0 := Lib.hid (fun W (hb : EnvU W) hk => uriPut_any u W hb hk)
  have HIS0 := Lib.hid (fun W (hb : EnvU W) h1 h2 => is_yes u.put u W hb h1 h2)
  generalize longB u = lb at *
  generalize hck : u.check = ck at *
  generalize u.put = up at *
  clear hck
  obtain ⟨sc, ho, po, pa, qu, hq⟩ := u
  simp only at HCK0 HPT0 HIS0 HLO ⊢
  have hal : Below w.heap.size w (w.alloc (.cells #[.string (bs sc), .string (bs ho), .int .i64 po, .string (bs pa), .string (bs qu), .bool hq] 24)) := (Below.refl _ _).alloc (Nat.le_refl _) _
  have HAL := Lib.hid hal; clear hal
  have hx := ubk.new w #[.string (bs sc), .string (bs ho), .int .i64 po, .string (bs pa), .string (bs qu), .bool hq] 24
  have HX := Lib.hid hx
  have xc0 := hx.cell 0 (.string (bs sc)) rfl
  have xc1 := hx.cell 1 (.string (bs ho)) rfl
  have xc2 := hx.cell 2 (.int .i64 po) rfl
  have xc3 := hx.cell 3 (.string (bs pa)) rfl
  have xc4 := hx.cell 4 (.string (bs qu)) rfl
  have xc5 := hx.cell 5 (.bool hq) rfl
  clear hx
  cases lb
  · by_cases hl : 3000 < s.size
    · have hl2 : (3000 : Int) < (s.size : Int) := by omega
      go_enter Tryd.func6, Tryd.ntmps6
      go_wp2_with fail
      refine (HLO.out _).mono ?_
      rintro r w1 ⟨rfl, hb1⟩
      have HB1 := Lib.hid (HAL.out.trans (hb1.mono HAL.out.size))
      have hx1 := HX.out.below hb1
      clear hb1 xc0 xc1 xc2 xc3 xc4 xc5
      go_wp2_with fail
      refine (awakeU_any _ (HE.out.bel HB1.out)).mono ?_
      rintro r w2 ⟨rfl, hb2⟩
      have HB2 := Lib.hid (HB1.out.trans (hb2.mono HB1.out.size)); clear hb2
      go_wp2_with fail
      go_ret
      exact ⟨rfl, HB2.out⟩
    · have hl2 : ¬ (3000 : Int) < (s.size : Int) := by omega
      have HK0 := Lib.hid (HOK.out rfl)
      have HCK := Lib.hid (fun W hb => HCK0.out W hb HK0.out)
      have HPT := Lib.hid (fun W hb => HPT0.out W hb HK0.out)
      clear HCK0 HPT0 HOK
      go_enter Tryd.func6, Tryd.ntmps6
      go_wp2_with fail
      refine (HLO.out _).mono ?_
      rintro r w1 ⟨rfl, hb1⟩
      have HB1 := Lib.hid (HAL.out.trans (hb1.mono HAL.out.size))
      have hx1 := HX.out.below hb1
      clear hb1 xc0 xc1 xc2 xc3 xc4 xc5
      go_upto_region 3 with fail
      go_cut [26] (fun v wx => v = .bool false ∧ Below w.heap.size w wx)
      case first =>
        have hE0 : ubk w1.drew w.heap.size #[.string (bs sc), .string (bs ho), .int .i64 po, .string (bs pa), .string (bs qu), .bool hq] ∧ EnvU w1.drew := ⟨hx1.below (drewU w1), (HE.out.bel HB1.out).bel (drewU w1)⟩
        have HB1d := Lib.hid (HB1.out.trans ((drewU w1).mono HB1.out.size))
        by_cases hck : ck = 0
        · have q0 : (ck == 0) = true := by rw [hck]; rfl
          have hpp := HPP.out hck
          have HIS := Lib.hid (fun W hb => HIS0.out W hb hpp.1 trivial)
          clear hpp hck HPP HIS0
          refine wp_region_growS (.one 0 false (.one 1 true (.one 2 false (.one 3 false (.one 4 false (.one 6 false (.one 5 true (.one 7 true (.one 8 false (.one 9 false .done))))))))))
            (fun W => ubk W w.heap.size #[.string (bs sc), .string (bs ho), .int .i64 po, .string (bs pa), .string (bs qu), .bool hq] ∧ EnvU W) (by kernel_rfl) (by kernel_rfl) rfl (by kernel_rfl) (by kernel_rfl) hE0 (fun ops hops => ?_)
          simp only [GT.ins, List.getD_cons_zero, List.getD_cons_succ]
          have g3 : (ops[3]?).bind (·.dst) = some 20 := by rw [hops.out]; rfl
          have G3 := Lib.hid g3
          clear hops g3
          iterate 1
            refine growS_take (by rfl) ?_
            apply Exists.intro
            refine ⟨fun w' hE => ?_, ?_⟩
            · have k0 := hE.1.cell 0 (.string (bs sc)) rfl; have k1 := hE.1.cell 1 (.string (bs ho)) rfl; have k2 := hE.1.cell 2 (.int .i64 po) rfl; have k3 := hE.1.cell 3 (.string (bs pa)) rfl; have k4 := hE.1.cell 4 (.string (bs qu)) rfl; have k5 := hE.1.cell 5 (.bool hq) rfl
              go_simp
              try with_reducible rfl
            simp only [Act.put, List.setIfInBounds_toArray, List.set_cons_zero, List.set_cons_succ]
          refine growS_call (by rfl) (fun K hK => ?_)
          go_simp
          refine (HCK.out _ hE0.2).mono ?_
          rintro r w2 ⟨rfl, hb2⟩
          have hE2 : ubk w2 w.heap.size #[.string (bs sc), .string (bs ho), .int .i64 po, .string (bs pa), .string (bs qu), .bool hq] ∧ EnvU w2 := ⟨hE0.1.below hb2, hE0.2.bel hb2⟩
          refine hK.out _ _ hE2 ?_
          have HB2 : Hid (Below w.heap.size w w2) := HB1d.out.trans (hb2.mono HB1d.out.size)
          clear hK K hb2
          iterate 2
            refine growS_take (by rfl) ?_
            apply Exists.intro
            refine ⟨fun w' hE => ?_, ?_⟩
            · have k0 := hE.1.cell 0 (.string (bs sc)) rfl; have k1 := hE.1.cell 1 (.string (bs ho)) rfl; have k2 := hE.1.cell 2 (.int .i64 po) rfl; have k3 := hE.1.cell 3 (.string (bs pa)) rfl; have k4 := hE.1.cell 4 (.string (bs qu)) rfl; have k5 := hE.1.cell 5 (.bool hq) rfl
              go_simp
              try with_reducible rfl
            simp only [Act.put, List.setIfInBounds_toArray, List.set_cons_zero, List.set_cons_succ]
          iterate 2
            refine growS_take (wantedS G3.out rfl rfl) ?_
            apply Exists.intro
            refine ⟨fun w' hE => ?_, ?_⟩
            · have k0 := hE.1.cell 0 (.string (bs sc)) rfl; have k1 := hE.1.cell 1 (.string (bs ho)) rfl; have k2 := hE.1.cell 2 (.int .i64 po) rfl; have k3 := hE.1.cell 3 (.string (bs pa)) rfl; have k4 := hE.1.cell 4 (.string (bs qu)) rfl; have k5 := hE.1.cell 5 (.bool hq) rfl
              go_simp
              try with_reducible rfl
            simp only [Act.put, List.setIfInBounds_toArray, List.set_cons_zero, List.set_cons_succ]
          refine growS_call (wantedS G3.out rfl rfl) (fun K hK => ?_)
          go_simp
          refine (HPT.out _ hE2.2).mono ?_
          rintro r w3 ⟨rfl, hb3⟩
          have hE3 : ubk w3 w.heap.size #[.string (bs sc), .string (bs ho), .int .i64 po, .string (bs pa), .string (bs qu), .bool hq] ∧ EnvU w3 := ⟨hE2.1.below hb3, hE2.2.bel hb3⟩
          refine hK.out _ _ hE3 ?_
          have HB3 : Hid (Below w.heap.size w w3) := HB2.out.trans (hb3.mono HB2.out.size)
          clear hK K hb3
          refine growS_call (wantedS G3.out rfl rfl) (fun K hK => ?_)
          go_simp
          refine (HIS.out _ hE3.2).mono ?_
          rintro r w4 ⟨rfl, hb4⟩
          have hE4 : ubk w4 w.heap.size #[.string (bs sc), .string (bs ho), .int .i64 po, .string (bs pa), .string (bs qu), .bool hq] ∧ EnvU w4 := ⟨hE3.1.below hb4, hE3.2.bel hb4⟩
          refine hK.out _ _ hE4 ?_
          have HB4 : Hid (Below w.heap.size w w4) := HB3.out.trans (hb4.mono HB3.out.size)
          clear hK K hb4
          iterate 1
            refine growS_take (wantedS G3.out rfl rfl) ?_
            apply Exists.intro
            refine ⟨fun w' hE => ?_, ?_⟩
            · have k0 := hE.1.cell 0 (.string (bs sc)) rfl; have k1 := hE.1.cell 1 (.string (bs ho)) rfl; have k2 := hE.1.cell 2 (.int .i64 po) rfl; have k3 := hE.1.cell 3 (.string (bs pa)) rfl; have k4 := hE.1.cell 4 (.string (bs qu)) rfl; have k5 := hE.1.cell 5 (.bool hq) rfl
              go_simp
              try with_reducible rfl
            simp only [Act.put, List.setIfInBounds_toArray, List.set_cons_zero, List.set_cons_succ]
          iterate 1
            refine growS_take (by rfl) ?_
            apply Exists.intro
            refine ⟨fun w' hE => ?_, ?_⟩
            · have k0 := hE.1.cell 0 (.string (bs sc)) rfl; have k1 := hE.1.cell 1 (.string (bs ho)) rfl; have k2 := hE.1.cell 2 (.int .i64 po) rfl; have k3 := hE.1.cell 3 (.string (bs pa)) rfl; have k4 := hE.1.cell 4 (.string (bs qu)) rfl; have k5 := hE.1.cell 5 (.bool hq) rfl
              go_simp
              try with_reducible rfl
            simp only [Act.put, List.setIfInBounds_toArray, List.set_cons_zero, List.set_cons_succ]
          refine growS_done (NoPanic.normal ?_)
          go_wp2_with fail
          go_meet
          exact ⟨rfl, HB4.out⟩
        · have q0 : (ck == 0) = false := beq_eq_false_iff_ne.2 hck
          clear hck
          refine wp_region_growS (.one 0 false (.one 1 true (.one 2 false (.one 3 false (.one 4 false (.one 6 false (.one 5 true (.one 7 true (.one 8 false (.one 9 false .done))))))))))
            (fun W => ubk W w.heap.size #[.string (bs sc), .string (bs ho), .int .i64 po, .string (bs pa), .string (bs qu), .bool hq] ∧ EnvU W) (by kernel_rfl) (by kernel_rfl) rfl (by kernel_rfl) (by kernel_rfl) hE0 (fun ops hops => ?_)
          simp only [GT.ins, List.getD_cons_zero, List.getD_cons_succ]
          have g3 : (ops[3]?).bind (·.dst) = some 20 := by rw [hops.out]; rfl
          have G3 := Lib.hid g3
          clear hops g3
          iterate 1
            refine growS_take (by rfl) ?_
            apply Exists.intro
            refine ⟨fun w' hE => ?_, ?_⟩
            · have k0 := hE.1.cell 0 (.string (bs sc)) rfl; have k1 := hE.1.cell 1 (.string (bs ho)) rfl; have k2 := hE.1.cell 2 (.int .i64 po) rfl; have k3 := hE.1.cell 3 (.string (bs pa)) rfl; have k4 := hE.1.cell 4 (.string (bs qu)) rfl; have k5 := hE.1.cell 5 (.bool hq) rfl
              go_simp
              try with_reducible rfl
            simp only [Act.put, List.setIfInBounds_toArray, List.set_cons_zero, List.set_cons_succ]
          refine growS_call (by rfl) (fun K hK => ?_)
          go_simp
          refine (HCK.out _ hE0.2).mono ?_
          rintro r w2 ⟨rfl, hb2⟩
          have hE2 : ubk w2 w.heap.size #[.string (bs sc), .string (bs ho), .int .i64 po, .string (bs pa), .string (bs qu), .bool hq] ∧ EnvU w2 := ⟨hE0.1.below hb2, hE0.2.bel hb2⟩
          refine hK.out _ _ hE2 ?_
          have HB2 : Hid (Below w.heap.size w w2) := HB1d.out.trans (hb2.mono HB1d.out.size)
          clear hK K hb2
          iterate 2
            refine growS_take (by rfl) ?_
            apply Exists.intro
            refine ⟨fun w' hE => ?_, ?_⟩
            · have k0 := hE.1.cell 0 (.string (bs sc)) rfl; have k1 := hE.1.cell 1 (.string (bs ho)) rfl; have k2 := hE.1.cell 2 (.int .i64 po) rfl; have k3 := hE.1.cell 3 (.string (bs pa)) rfl; have k4 := hE.1.cell 4 (.string (bs qu)) rfl; have k5 := hE.1.cell 5 (.bool hq) rfl
              go_simp
              try with_reducible rfl
            simp only [Act.put, List.setIfInBounds_toArray, List.set_cons_zero, List.set_cons_succ]
          refine growS_skip (unwantedS G3.out rfl rfl) ?_
          simp only [Act.put, List.setIfInBounds_toArray, List.set_cons_zero, List.set_cons_succ]
          refine growS_skip (unwantedS G3.out rfl rfl) ?_
          simp only [Act.put, List.setIfInBounds_toArray, List.set_cons_zero, List.set_cons_succ]
          refine growS_skip (unwantedS G3.out rfl rfl) ?_
          simp only [Act.put, List.setIfInBounds_toArray, List.set_cons_zero, List.set_cons_succ]
          refine growS_skip (unwantedS G3.out rfl rfl) ?_
          simp only [Act.put, List.setIfInBounds_toArray, List.set_cons_zero, List.set_cons_succ]
          refine growS_skip (unwantedS G3.out rfl rfl) ?_
          simp only [Act.put, List.setIfInBounds_toArray, List.set_cons_zero, List.set_cons_succ]
          iterate 1
            refine growS_take (by rfl) ?_
            apply Exists.intro
            refine ⟨fun w' hE => ?_, ?_⟩
            · have k0 := hE.1.cell 0 (.string (bs sc)) rfl; have k1 := hE.1.cell 1 (.string (bs ho)) rfl; have k2 := hE.1.cell 2 (.int .i64 po) rfl; have k3 := hE.1.cell 3 (.string (bs pa)) rfl; have k4 := hE.1.cell 4 (.string (bs qu)) rfl; have k5 := hE.1.cell 5 (.bool hq) rfl
              go_simp
              try with_reducible rfl
            simp only [Act.put, List.setIfInBounds_toArray, List.set_cons_zero, List.set_cons_succ]
          refine growS_done (NoPanic.normal ?_)
          go_wp2_with fail
          go_meet
          exact ⟨rfl, HB2.out⟩
      case rest =>
        obtain ⟨rfl, hbx⟩ := hcut
        have HBX := Lib.hid hbx; clear hbx
        have HP := Lib.hid (fun W (hb : EnvU W) => parse_any s.data.toList W hb)
        rw [bs_self] at HP
        have HNO := Lib.hid (uparse_no (s := s.data.toList))
        have HYES := Lib.hid (uparse_back (s := s.data.toList))
        have HVK := Lib.hid (parse_okW s.data.toList)
        generalize parseU s.data.toList = P at *
        obtain ⟨v, e⟩ := P
        unfold RetU at HP
        simp only at HP
        by_cases he : e = 0
        · have q0 : (e != 0) = false := by rw [he]; rfl
          obtain ⟨hvc, hvb⟩ := HYES.out he
          have HVC : Hid (v.check = 0) := hvc
          have HVB := Lib.hid hvb
          have HCK2 := Lib.hid (fun W (hb : EnvU W) => uriCheck_any v W hb HVK.out)
          have HPT2 := Lib.hid (fun W (hb : EnvU W) => uriPut_any v W hb HVK.out)
          rw [HVC.out] at HCK2
          clear hvc hvb he HNO HYES HVK HCK HPT HPP HIS0
          generalize v.put = t at *
          obtain ⟨vsc, vho, vpo, vpa, vqu, vhq⟩ := v
          simp only at HP HCK2 HPT2
          go_wp2_with fail
          refine (HP.out _ (HE.out.bel HBX.out)).mono ?_
          rintro r w2 ⟨rfl, hb2⟩
          have HB2 := Lib.hid (HBX.out.trans (hb2.mono HBX.out.size))
          have hy := ubk.new w2 #[.string (bs vsc), .string (bs vho), .int .i64 vpo, .string (bs vpa), .string (bs vqu), .bool vhq] 24
          have hal : Below w2.heap.size w2 (w2.alloc (.cells #[.string (bs vsc), .string (bs vho), .int .i64 vpo, .string (bs vpa), .string (bs vqu), .bool vhq] 24)) := (Below.refl _ _).alloc (Nat.le_refl _) _
          have HB3 := Lib.hid (HB2.out.trans (hal.mono HB2.out.size)); clear hal hb2
          have HVX := Lib.hid hy
          have vc0 := hy.cell 0 (.string (bs vsc)) rfl
          have vc1 := hy.cell 1 (.string (bs vho)) rfl
          have vc2 := hy.cell 2 (.int .i64 vpo) rfl
          have vc3 := hy.cell 3 (.string (bs vpa)) rfl
          have vc4 := hy.cell 4 (.string (bs vqu)) rfl
          have vc5 := hy.cell 5 (.bool vhq) rfl
          clear hy
          go_wp2_with fail
          refine (HPT2.out _ (HE.out.bel HB3.out)).mono ?_
          rintro r w4 ⟨rfl, hb4⟩
          have HB4 := Lib.hid (HB3.out.trans (hb4.mono HB3.out.size))
          have HVX4 := Lib.hid (HVX.out.below hb4)
          have HLT : Hid (w2.heap.size < w4.heap.size) := Nat.lt_of_lt_of_le (by rw [World.size_alloc]; omega) hb4.size
          clear hb4 HVX vc0 vc1 vc2 vc3 vc4 vc5
          by_cases hts : t = s.data.toList
          · have q1 : ((bs t).toList == s.toList) = true := by rw [Lib.toList_data, Lib.toList_data, bs_data, hts]; simp
            clear hts
            have hv4 := HVX4.out
            have uc0 := hv4.cell 0 (.string (bs vsc)) rfl
            have uc1 := hv4.cell 1 (.string (bs vho)) rfl
            have uc2 := hv4.cell 2 (.int .i64 vpo) rfl
            have uc3 := hv4.cell 3 (.string (bs vpa)) rfl
            have uc4 := hv4.cell 4 (.string (bs vqu)) rfl
            have uc5 := hv4.cell 5 (.bool vhq) rfl
            clear hv4
            go_wp2_with fail
            refine (HCK2.out _ (HE.out.bel HB4.out)).mono ?_
            rintro r w5 ⟨rfl, hb5⟩
            have HB5 := Lib.hid (HB4.out.trans (hb5.mono HB4.out.size)); clear hb5
            go_wp2_with fail
            refine (awakeU_any _ (HE.out.bel HB5.out)).mono ?_
            rintro r w6 ⟨rfl, hb6⟩
            have HB6 := Lib.hid (HB5.out.trans (hb6.mono HB5.out.size)); clear hb6
            go_wp2_with fail
            go_ret
            exact ⟨rfl, HB6.out⟩
          · have q1 : ((bs t).toList == s.toList) = false := by rw [Lib.toList_data, Lib.toList_data, bs_data]; exact beq_eq_false_iff_ne.2 hts
            have h2 : vpa = [47] ∧ t = s.data.toList.take (atQ s.data.toList) ++ 47 :: s.data.toList.drop (atQ s.data.toList) := by
              rcases HVB.out with h | ⟨_, h, h3⟩
              · exact absurd h hts
              · exact ⟨h, h3⟩
            obtain ⟨rfl, h3⟩ := h2
            have HT3 := Lib.hid h3
            clear h3 hts HVB
            have HIX := Lib.hid (fun W => indexU_any s.data.toList 63 W)
            rw [bs_self] at HIX
            have h63 : ((63 : UInt8).toNat : Int) = 63 := rfl
            rw [h63] at HIX
            clear h63
            have HQ : Hid (atQ s.data.toList = if Lib.indexByte s.data.toList 63 < 0 then s.data.toList.length else (Lib.indexByte s.data.toList 63).toNat) := rfl
            have hqz : atQ s.data.toList ≤ s.size := by
              rw [HQ.out]
              have := index_leU 63 s.data.toList
              have := size_len s
              split <;> omega
            go_wp2_with fail
            refine (HIX.out _).mono ?_
            rintro r w5 ⟨rfl, rfl⟩
            go_upto_if 54 with fail
            generalize atQ s.data.toList = q at *
            generalize Lib.indexByte s.data.toList 63 = ix at *
            go_cut [8] (fun v wx => v = .int .i64 (q : Int) ∧ w4 = wx)
            case first =>
              by_cases hix : ix < 0
              · have HV2 : Hid (q = s.size) := by show _ = _; rw [HQ.out, if_pos hix, size_len]
                go_wp2_with fail
                go_meet
                exact ⟨by rw [HV2.out], rfl⟩
              · have HV2 : Hid ((q : Int) = ix) := by show _ = _; rw [HQ.out, if_neg hix]; omega
                go_wp2_with fail
                go_meet
                exact ⟨by rw [HV2.out], rfl⟩
            case rest =>
            obtain ⟨rfl, rfl⟩ := hcut
            clear HIX HQ
            have HEQ : Hid (((bs t).toList == (s.extract 0 q ++ ⟨#[47]⟩ ++ s.extract q s.size).toList) = true) := by
              show _ = _
              rw [HT3.out, Lib.toList_data, Lib.toList_data, bs_data]
              simp
              rw [List.take_of_length_le (by rw [List.length_drop, size_len]; omega)]
            have HCC : Hid (¬ 9223372036854775807 < q + 1 ∧ ¬ 9223372036854775807 < q + 1 + (s.size - q)) := ⟨by omega, by omega⟩
            have H47 : Hid (((bs [47]).toList == [47]) = true) := by show _ = _; rw [beq_lit]; rfl
            have hqi : (q : Int) ≤ (s.size : Int) := by omega
            have HB5 := Lib.hid (HB4.out.trans ((drewU w4).mono HB4.out.size))
            have hE5 : w4.drew.cell? ⟨w2.heap.size, 3, none⟩ = some (.string (bs [47])) := HVX4.out.cell 3 _ rfl
            go_wp2_with fail
            refine wp_region_growS (.one 0 false (.one 1 false (.one 2 false (.one 3 false (.one 4 false (.one 5 false (.one 6 false (.one 7 false (.one 8 false (.one 9 false (.one 10 false (.one 11 false (.one 12 false (.one 13 false (.one 14 false (.one 15 false (.one 16 true (.one 17 false (.one 18 false .done)))))))))))))))))))
              (fun W => W.cell? ⟨w2.heap.size, 3, none⟩ = some (.string (bs [47]))) (by kernel_rfl) (by kernel_rfl) rfl (by kernel_rfl) (by kernel_rfl) hE5 (fun ops hops => ?_)
            simp only [GT.ins, List.getD_cons_zero, List.getD_cons_succ]
            have g3 : (ops[3]?).bind (·.dst) = some 60 := by rw [hops.out]; rfl
            have g15 : (ops[15]?).bind (·.dst) = some 72 := by rw [hops.out]; rfl
            have G3 := Lib.hid g3
            have G15 := Lib.hid g15
            clear hops g3 g15
            iterate 4
              refine growS_take (by rfl) ?_
              apply Exists.intro
              refine ⟨fun w' hE => ?_, ?_⟩
              · have q9 := hE; have q10 := HEQ.out; obtain ⟨q11, q13⟩ := HCC.out; have q12 := H47.out
                go_simp
                try with_reducible rfl
              simp only [Act.put, List.setIfInBounds_toArray, List.set_cons_zero, List.set_cons_succ]
            iterate 10
              refine growS_take (wantedS G3.out rfl rfl) ?_
              apply Exists.intro
              refine ⟨fun w' hE => ?_, ?_⟩
              · have q9 := hE; have q10 := HEQ.out; obtain ⟨q11, q13⟩ := HCC.out; have q12 := H47.out
                go_simp
                try with_reducible rfl
              simp only [Act.put, List.setIfInBounds_toArray, List.set_cons_zero, List.set_cons_succ]
            iterate 2
              refine growS_take (by rfl) ?_
              apply Exists.intro
              refine ⟨fun w' hE => ?_, ?_⟩
              · have q9 := hE; have q10 := HEQ.out; obtain ⟨q11, q13⟩ := HCC.out; have q12 := H47.out
                go_simp
                try with_reducible rfl
              simp only [Act.put, List.setIfInBounds_toArray, List.set_cons_zero, List.set_cons_succ]
            refine growS_call (wantedS G15.out rfl rfl) (fun K hK => ?_)
            go_simp
            refine (awakeU_any _ (HE.out.bel HB5.out)).mono ?_
            rintro r w6 ⟨rfl, hb6⟩
            have hE6 : w6.cell? ⟨w2.heap.size, 3, none⟩ = some (.string (bs [47])) := (hb6.cell (p := ⟨w2.heap.size, 3, none⟩) HLT.out).trans hE5
            refine hK.out _ _ hE6 ?_
            have HB6 : Hid (Below w.heap.size w w6) := HB5.out.trans (hb6.mono HB5.out.size)
            clear hK K hb6
            iterate 2
              refine growS_take (by rfl) ?_
              apply Exists.intro
              refine ⟨fun w' hE => ?_, ?_⟩
              · have q9 := hE; have q10 := HEQ.out; obtain ⟨q11, q13⟩ := HCC.out; have q12 := H47.out
                go_simp
                try with_reducible rfl
              simp only [Act.put, List.setIfInBounds_toArray, List.set_cons_zero, List.set_cons_succ]
            refine growS_done (NoPanic.normal ?_)
            go_wp2_with fail
            go_ret
            exact ⟨rfl, HB6.out⟩
        · have q0 : (e != 0) = true := bne_iff_ne.2 he
          have hv : v = ur0 := HNO.out he
          subst hv
          have HP2 : Hid (∀ W, EnvU W → Calls Tryd.prog 8 #[.string s] W fun r w' => r = .returned (.tuple #[.agg #[.string ⟨#[]⟩, .string ⟨#[]⟩, .int .i64 0, .string ⟨#[]⟩, .string ⟨#[]⟩, .bool false], .int .i64 e]) ∧ Below W.heap.size W w') := HP.out
          clear he HNO HYES HVK HCK HPT HPP HIS0 HP
          go_wp2_with fail
          refine (HP2.out _ (HE.out.bel HBX.out)).mono ?_
          rintro r w2 ⟨rfl, hb2⟩
          have HB2 := Lib.hid (HBX.out.trans (hb2.mono HBX.out.size))
          have hy := ubk.new w2 #[.string ⟨#[]⟩, .string ⟨#[]⟩, .int .i64 0, .string ⟨#[]⟩, .string ⟨#[]⟩, .bool false] 24
          have hal : Below w2.heap.size w2 (w2.alloc (.cells #[.string ⟨#[]⟩, .string ⟨#[]⟩, .int .i64 0, .string ⟨#[]⟩, .string ⟨#[]⟩, .bool false] 24)) := (Below.refl _ _).alloc (Nat.le_refl _) _
          have HB3 := Lib.hid (HB2.out.trans (hal.mono HB2.out.size)); clear hal hb2
          have yc0 := hy.cell 0 (.string ⟨#[]⟩) rfl
          have yc1 := hy.cell 1 (.string ⟨#[]⟩) rfl
          have yc2 := hy.cell 2 (.int .i64 0) rfl
          have yc3 := hy.cell 3 (.string ⟨#[]⟩) rfl
          have yc4 := hy.cell 4 (.string ⟨#[]⟩) rfl
          have yc5 := hy.cell 5 (.bool false) rfl
          clear hy
          go_wp2_with fail
          refine (awakeU_any _ (HE.out.bel HB3.out)).mono ?_
          rintro r w4 ⟨rfl, hb4⟩
          have HB4 := Lib.hid (HB3.out.trans (hb4.mono HB3.out.size)); clear hb4
          go_wp2_with fail
          go_ret
          exact ⟨rfl, HB4.out⟩
  · skip
    go_enter Tryd.func6, Tryd.ntmps6
    go_wp2_with fail
    refine (HLO.out _).mono ?_
    rintro r w1 ⟨rfl, hb1⟩
    have HB1 := Lib.hid (HAL.out.trans (hb1.mono HAL.out.size))
    have hx1 := HX.out.below hb1
    clear hb1 xc0 xc1 xc2 xc3 xc4 xc5
    go_wp2_with fail
    refine (awakeU_any _ (HE.out.bel HB1.out)).mono ?_
    rintro r w2 ⟨rfl, hb2⟩
    have HB2 := Lib.hid (HB1.out.trans (hb2.mono HB1.out.size)); clear hb2
    go_wp2_with fail
    go_ret
    exact ⟨rfl, HB2.out⟩
end Go.Proofs.YtigaghdalecdlaaDoor
