/- The statement SurctlTells. -/
import Derived.Test.YtonioemenjjajaaSurI
namespace Go.Proofs.Ytonioemenjjajaa
open Go.RowKit

theorem run_eqlR (x y : Ctl) (w : World) : (binOp .eql 34 (.agg #[.bool x.1, .bool x.2.1, .bool x.2.2.1, .bool x.2.2.2.1, .int .i64 x.2.2.2.2.1, .int .i64 x.2.2.2.2.2]) (.agg #[.bool y.1, .bool y.2.1, .bool y.2.2.1, .bool y.2.2.2.1, .int .i64 y.2.2.2.2.1, .int .i64 y.2.2.2.2.2])).run Try.prog w = .ok (.bool (x == y)) w := by
  have e : (x == y) = ((x.1 == y.1) && ((x.2.1 == y.2.1) && ((x.2.2.1 == y.2.2.1) && ((x.2.2.2.1 == y.2.2.2.1) && ((x.2.2.2.2.1 == y.2.2.2.2.1) && (x.2.2.2.2.2 == y.2.2.2.2.2)))))) := rfl
  have u3 := Try.underlying3
  have a3 := Try.isAgg3
  have z3 := Try.sizeOf3
  have u4 := Try.underlying4
  have a4 := Try.isAgg4
  have z4 := Try.sizeOf4
  have hS : Try.prog.underlying 34 = some (.struct (Try.prog.fieldsOf 34)) := by kernel_rfl
  have hp : Try.prog.stoodInHeld 34 = false := by kernel_rfl
  rw [e, run_eql_struct, show (10000 : Nat) = 9999 + 1 from rfl, run_equalIn_agg w 9999 34 _ _ hS hp]
  simp only [Program.fieldsOf, Try.underlying34]
  go_simp
  by_cases h1 : x.1 = y.1 <;> by_cases h2 : x.2.1 = y.2.1 <;> by_cases h3 : x.2.2.1 = y.2.2.1 <;> by_cases h4 : x.2.2.2.1 = y.2.2.2.1 <;> by_cases h5 : x.2.2.2.2.1 = y.2.2.2.2.1 <;> by_cases h6 : x.2.2.2.2.2 = y.2.2.2.2.2 <;> simp [h1, h2, h3, h4, h5, h6]
set_option maxRecDepth 100000 in
set_option maxHeartbeats 4000000 in
theorem surctlTells_any (v : Value) (L : List (List UInt8)) (S : ByteArray) (w : World) (hv : SL w v L) (hs : ∀ j (hj : j < L.length), L[j].length ≤ 9223372036854775807) (hl : L.length ≤ 9223372036854775807) (hS : S.size ≤ maxLen) (hm : MaxD w) :
    Calls Try.prog 5 #[v, .string S] w fun e w' => e = .returned (.bool true) ∧ Below w.heap.size w w' := by
  have HF := Lib.hid (fewV_any v L w hv hs hl)
  have HM := Lib.hid hm; have HV := Lib.hid hv
  clear hs hl hm hv
  unfold maxLen at hS
  cases hq : fewV L
  · rw [hq] at HF
    clear hq
    go_enter Try.func5, Try.ntmps5
    go_wp2_with fail
    refine HF.out.mono ?_
    rintro e w1 ⟨rfl, rfl⟩
    go_wp2_with fail
    refine (sworks_any _ HM.out).mono ?_
    rintro e w2 ⟨rfl, hb⟩
    have HB := Lib.hid hb; clear hb
    go_wp2_with fail
    go_ret
    exact ⟨rfl, HB.out⟩
  · obtain ⟨h1, h2⟩ := fewV_small hq
    rw [hq] at HF
    clear hq
    by_cases h3 : 300 < S.size
    · have hi : (300 : Int) < (S.size : Int) := by omega
      go_enter Try.func5, Try.ntmps5
      go_wp2_with fail
      refine HF.out.mono ?_
      rintro e w1 ⟨rfl, rfl⟩
      go_wp2_with fail
      refine (sworks_any _ HM.out).mono ?_
      rintro e w2 ⟨rfl, hb⟩
      have HB := Lib.hid hb; clear hb
      go_wp2_with fail
      go_ret
      exact ⟨rfl, HB.out⟩
    · have hi : ¬ (300 : Int) < (S.size : Int) := by omega
      have hsl : S.data.toList.length = S.size := (size_len S).symm
      have hof := sof_any v L S.data.toList w HM.out HV.out h2 (by omega)
      have hrof := fun W (h : SL W v L) => rsof_any v L S.data.toList W h h2 (by omega)
      have hca := fun W => cap_any S.data.toList W (by omega)
      have hrca := fun W => rcap_any S.data.toList W (by omega)
      rw [bs_self] at hof hrof hca hrca
      have hcmp := run_eqlR (ofC L S.data.toList) (ofC L S.data.toList)
      rw [beq_self_eq_true] at hcmp
      generalize ofC L S.data.toList = c at *
      generalize capL S.data.toList = cp at *
      have hct : (Value.agg (ctA c)) = .agg #[.bool c.1, .bool c.2.1, .bool c.2.2.1, .bool c.2.2.2.1, .int .i64 c.2.2.2.2.1, .int .i64 c.2.2.2.2.2] := rfl
      rw [hct] at hof hrof
      have hceq : ((bs cp).toList == (bs cp).toList) = true := by simp
      have HOF := Lib.hid hof; have HROF := Lib.hid hrof; have HCA := Lib.hid hca; have HRCA := Lib.hid hrca
      clear hof hrof hca hrca hct h1 h2 h3 hsl
      go_enter Try.func5, Try.ntmps5
      go_wp2_with fail
      refine HF.out.mono ?_
      rintro e w1 ⟨rfl, rfl⟩
      go_wp2_with fail
      refine HOF.out.mono ?_
      rintro e w1 ⟨rfl, hb1⟩
      have hal : Below w1.heap.size w1 (w1.alloc (.cells #[.bool c.1, .bool c.2.1, .bool c.2.2.1, .bool c.2.2.2.1, .int .i64 c.2.2.2.2.1, .int .i64 c.2.2.2.2.2] 32)) := (Below.refl _ _).alloc (Nat.le_refl _) _
      have hd : dbk (w1.alloc (.cells #[.bool c.1, .bool c.2.1, .bool c.2.2.1, .bool c.2.2.2.1, .int .i64 c.2.2.2.2.1, .int .i64 c.2.2.2.2.2] 32)) w1.heap.size (ctA c) := dbk.new w1 _ _
      have HB := Lib.hid (hb1.trans (hal.mono hb1.size))
      have HD := Lib.hid hd
      clear hb1 hal hd HOF HF
      go_wp2_with fail
      generalize w1.alloc (.cells #[.bool c.1, .bool c.2.1, .bool c.2.2.1, .bool c.2.2.2.1, .int .i64 c.2.2.2.2.1, .int .i64 c.2.2.2.2.2] 32) = C at *
      refine wp_region_growS (.one 0 false (.one 1 false (.one 2 false (.one 3 true (.one 4 false (.one 5 false (.one 6 false (.one 8 false (.one 7 true (.one 9 true (.one 10 false (.one 11 false (.one 12 false (.one 13 true (.one 14 false (.one 15 false .done))))))))))))))))
        (fun W => Below C.heap.size C W) (by kernel_rfl) (by kernel_rfl) rfl (by kernel_rfl) (by kernel_rfl) ((Below.refl _ _).drew) (fun ops hops => ?_)
      simp only [GT.ins, List.getD_cons_zero, List.getD_cons_succ]
      have g5 : (ops[5]?).bind (·.dst) = some 23 := by rw [hops.out]; rfl
      have g12 : (ops[12]?).bind (·.dst) = some 30 := by rw [hops.out]; rfl
      have G5 := Lib.hid g5
      have G12 := Lib.hid g12
      clear hops g5 g12
      iterate 3
        refine growS_take (by rfl) ?_
        apply Exists.intro
        refine ⟨fun w' hE => ?_, ?_⟩
        · obtain ⟨y0, y1, y2, y3, y4, y5⟩ := (HD.out.below hE).six
          go_simp
          try with_reducible rfl
        simp only [Act.put, List.setIfInBounds_toArray, List.set_cons_zero, List.set_cons_succ]
      refine growS_call (by rfl) (fun K hK => ?_)
      go_simp
      refine (HROF.out _ (HV.out.bel (HB.out.trans (((Below.refl _ _).drew : Below C.heap.size C C.drew).mono HB.out.size)))).mono ?_
      rintro e x1 ⟨rfl, hb⟩
      have hz : Below C.heap.size C x1 := (Below.refl _ _).drew.trans hb
      have HZ1 := Lib.hid hz
      refine hK.out _ _ hz ?_
      clear hK K hb hz
      iterate 2
        refine growS_take (by rfl) ?_
        apply Exists.intro
        refine ⟨fun w' hE => ?_, ?_⟩
        · obtain ⟨y0, y1, y2, y3, y4, y5⟩ := (HD.out.below hE).six
          go_simp
          try with_reducible rfl
        simp only [Act.put, List.setIfInBounds_toArray, List.set_cons_zero, List.set_cons_succ]
      iterate 2
        refine growS_take (wantedS G5.out rfl rfl) ?_
        apply Exists.intro
        refine ⟨fun w' hE => ?_, ?_⟩
        · obtain ⟨y0, y1, y2, y3, y4, y5⟩ := (HD.out.below hE).six
          go_simp
          try with_reducible rfl
        simp only [Act.put, List.setIfInBounds_toArray, List.set_cons_zero, List.set_cons_succ]
      refine growS_call (wantedS G5.out rfl rfl) (fun K hK => ?_)
      go_simp
      refine (HCA.out _).mono ?_
      rintro e x2 ⟨rfl, rfl⟩
      refine hK.out _ _ HZ1.out ?_
      clear hK K
      refine growS_call (wantedS G5.out rfl rfl) (fun K hK => ?_)
      go_simp
      refine (HRCA.out _).mono ?_
      rintro e x2 ⟨rfl, rfl⟩
      refine hK.out _ _ HZ1.out ?_
      clear hK K
      iterate 1
        refine growS_take (wantedS G5.out rfl rfl) ?_
        apply Exists.intro
        refine ⟨fun w' hE => ?_, ?_⟩
        · obtain ⟨y0, y1, y2, y3, y4, y5⟩ := (HD.out.below hE).six
          go_simp
          try with_reducible rfl
        simp only [Act.put, List.setIfInBounds_toArray, List.set_cons_zero, List.set_cons_succ]
      iterate 2
        refine growS_take (by rfl) ?_
        apply Exists.intro
        refine ⟨fun w' hE => ?_, ?_⟩
        · obtain ⟨y0, y1, y2, y3, y4, y5⟩ := (HD.out.below hE).six
          go_simp
          try with_reducible rfl
        simp only [Act.put, List.setIfInBounds_toArray, List.set_cons_zero, List.set_cons_succ]
      refine growS_call (wantedS G12.out rfl rfl) (fun K hK => ?_)
      go_simp
      refine (sworks_any _ (HM.out.bel (HB.out.trans (HZ1.out.mono HB.out.size)))).mono ?_
      rintro e x3 ⟨rfl, hb⟩
      have hz := HZ1.out.trans (hb.mono HZ1.out.size)
      have HZ2 := Lib.hid hz
      refine hK.out _ _ hz ?_
      clear hK K hb hz HZ1
      iterate 2
        refine growS_take (by rfl) ?_
        apply Exists.intro
        refine ⟨fun w' hE => ?_, ?_⟩
        · obtain ⟨y0, y1, y2, y3, y4, y5⟩ := (HD.out.below hE).six
          go_simp
          try with_reducible rfl
        simp only [Act.put, List.setIfInBounds_toArray, List.set_cons_zero, List.set_cons_succ]
      refine growS_done (NoPanic.normal ?_)
      go_wp2_with fail
      go_ret
      exact ⟨rfl, HB.out.trans (HZ2.out.mono HB.out.size)⟩
end Go.Proofs.Ytonioemenjjajaa
