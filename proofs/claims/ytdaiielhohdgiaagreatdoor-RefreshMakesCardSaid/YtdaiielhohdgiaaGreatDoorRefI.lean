/- The statement RefreshAsks. -/
import Derived.Test.YtdaiielhohdgiaaGreatDoorRefD
import Derived.Test.YtdaiielhohdgiaaGreatDoorRefE
import Derived.Test.YtdaiielhohdgiaaGreatDoorRefH
import Derived.Test.YtdaiielhohdgiaaGreatDoorOpenR
import Derived.Test.YtdaiielhohdgiaaGreatDoorExecM
import Derived.Test.YtdaiielhohdgiaaGreatDoorKOpen
namespace Go.Proofs.YtdaiielhohdgiaaGreatDoor
open Go.RowKit Go.Shelf

theorem szQ {l : List Fld} (h : SzF l) : ∀ j (hj : j < l.length), l[j].1.length ≤ 9223372036854775807 ∧ l[j].2.length ≤ 9223372036854775807 := fun j hj => by
  have := h.1 j hj
  omega
set_option maxRecDepth 100000 in
set_option maxHeartbeats 4000000 in
theorem refreshAsks_law (e : En) (vf vv : Value) (w : World) (h : InRe w e vf vv) (ht : TabsP w) :
    Calls Tryz.prog 3 #[entV e vf vv] w fun r w' => r = .returned (.bool true) ∧ Below w.heap.size w w' := by
  obtain ⟨Af, cf, rfl⟩ := h.fl.form
  obtain ⟨Av, cv, rfl⟩ := h.vl.form
  have HW := Lib.hid (fun W (hb : Below w.heap.size w W) => worksQ_any W (ht.below hb))
  have HF1 := Lib.hid (fun W (hb : Below w.heap.size w W) => fewQ_any _ e.fs W (h.fl.bel hb) (szQ h.fz) h.fz.2)
  have HF2 := Lib.hid (fun W (hb : Below w.heap.size w W) => fewQ_any _ e.vy W (h.vl.bel hb) (szQ h.vz) h.vz.2)
  have hal : Below w.heap.size w (w.alloc (.cells #[.int .i64 e.st, .string (bs e.re), .int .i64 e.mi, .slice Af e.fs.length cf, .string (bs e.bo), .int .i64 e.ak, .int .i64 e.gt, .slice Av e.vy.length cv] 26)) := (Below.refl _ _).alloc (Nat.le_refl _) _
  have HP := Lib.hid (bk.new w #[.int .i64 e.st, .string (bs e.re), .int .i64 e.mi, .slice Af e.fs.length cf, .string (bs e.bo), .int .i64 e.ak, .int .i64 e.gt, .slice Av e.vy.length cv] 26); have HB := Lib.hid hal
  have HH := Lib.hid h; have HT := Lib.hid ht
  clear hal h ht
  unfold entV
  cases q1 : fewQ e.fs
  · rw [q1] at HF1
    clear q1
    go_enter Tryz.func3, Tryz.ntmps3
    have c3 := HP.out.cell 3 (.slice Af e.fs.length cf) rfl
    go_wp2_with fail
    clear c3
    generalize w.alloc (.cells #[.int .i64 e.st, .string (bs e.re), .int .i64 e.mi, .slice Af e.fs.length cf, .string (bs e.bo), .int .i64 e.ak, .int .i64 e.gt, .slice Av e.vy.length cv] 26) = W0 at *
    refine (HF1.out W0 HB.out).mono ?_
    rintro r w1 ⟨rfl, hb⟩
    have HB1 := Lib.hid (HB.out.trans (hb.mono HB.out.size)); have HP1 := Lib.hid (HP.out.below hb); clear hb HB HP
    go_wp2_with fail
    refine (HW.out _ HB1.out).mono ?_
    rintro r wz ⟨rfl, hb⟩
    have HBz := Lib.hid (HB1.out.trans (hb.mono HB1.out.size)); clear hb
    go_wp2_with fail
    go_ret
    exact ⟨rfl, HBz.out⟩
  cases q2 : fewQ e.vy
  · rw [q1] at HF1; rw [q2] at HF2
    clear q1 q2
    go_enter Tryz.func3, Tryz.ntmps3
    have c3 := HP.out.cell 3 (.slice Af e.fs.length cf) rfl
    go_wp2_with fail
    clear c3
    generalize w.alloc (.cells #[.int .i64 e.st, .string (bs e.re), .int .i64 e.mi, .slice Af e.fs.length cf, .string (bs e.bo), .int .i64 e.ak, .int .i64 e.gt, .slice Av e.vy.length cv] 26) = W0 at *
    refine (HF1.out W0 HB.out).mono ?_
    rintro r w1 ⟨rfl, hb⟩
    have HB1 := Lib.hid (HB.out.trans (hb.mono HB.out.size)); have HP1 := Lib.hid (HP.out.below hb); clear hb HB HP
    have c7 := HP1.out.cell 7 (.slice Av e.vy.length cv) rfl
    go_wp2_with fail
    clear c7
    refine (HF2.out _ HB1.out).mono ?_
    rintro r w2 ⟨rfl, hb⟩
    have HB2 := Lib.hid (HB1.out.trans (hb.mono HB1.out.size)); have HP2 := Lib.hid (HP1.out.below hb); clear hb HB1 HP1
    go_wp2_with fail
    refine (HW.out _ HB2.out).mono ?_
    rintro r wz ⟨rfl, hb⟩
    have HBz := Lib.hid (HB2.out.trans (hb.mono HB2.out.size)); clear hb
    go_wp2_with fail
    go_ret
    exact ⟨rfl, HBz.out⟩
  · have HQ1 := Lib.hid (fewQ_qh q1); have HQ2 := Lib.hid (fewQ_qh q2)
    rw [q1] at HF1; rw [q2] at HF2
    clear q1 q2
    go_enter Tryz.func3, Tryz.ntmps3
    have c3 := HP.out.cell 3 (.slice Af e.fs.length cf) rfl
    go_wp2_with fail
    clear c3
    generalize w.alloc (.cells #[.int .i64 e.st, .string (bs e.re), .int .i64 e.mi, .slice Af e.fs.length cf, .string (bs e.bo), .int .i64 e.ak, .int .i64 e.gt, .slice Av e.vy.length cv] 26) = W0 at *
    refine (HF1.out W0 HB.out).mono ?_
    rintro r w1 ⟨rfl, hb⟩
    have HB1 := Lib.hid (HB.out.trans (hb.mono HB.out.size)); have HP1 := Lib.hid (HP.out.below hb); clear hb HB HP
    have c7 := HP1.out.cell 7 (.slice Av e.vy.length cv) rfl
    go_wp2_with fail
    clear c7
    refine (HF2.out _ HB1.out).mono ?_
    rintro r w2 ⟨rfl, hb⟩
    have HB2 := Lib.hid (HB1.out.trans (hb.mono HB1.out.size)); have HP2 := Lib.hid (HP1.out.below hb); clear hb HB1 HP1
    have HLD := Lib.hid (HP2.out.range0 (l := [.int .i64 e.st, .string (bs e.re), .int .i64 e.mi, .slice Af e.fs.length cf, .string (bs e.bo), .int .i64 e.ak, .int .i64 e.gt, .slice Av e.vy.length cv]))
    go_wp2_with (refine wpList_load_mid rfl 26 (.tmp 1) rfl _ 0 rfl [.int .i64 e.st, .string (bs e.re), .int .i64 e.mi, .slice Af e.fs.length cf, .string (bs e.bo), .int .i64 e.ak, .int .i64 e.gt, .slice Av e.vy.length cv] _ HLD.out Tryz.underlying26 rfl infoEn.out ?_; clear HLD)
    refine (rcopyQ_any e (.slice Af e.fs.length cf) (.slice Av e.vy.length cv) w2 (HH.out.fl.bel HB2.out) (HH.out.vl.bel HB2.out) (by have := HQ1.out.len; omega) (by have := HQ2.out.len; omega)).mono ?_
    rintro r w3 ⟨vf3, vv3, rfl, hof, hov, hb⟩
    obtain ⟨Ao, co, rfl⟩ := hof.form
    obtain ⟨Ap, cp, rfl⟩ := hov.form
    have HB3 := Lib.hid (HB2.out.trans (hb.mono HB2.out.size)); have HP3 := Lib.hid (HP2.out.below hb)
    have HFo := Lib.hid hof.fl; have HVo := Lib.hid hov.fl
    clear hof hov hb HB2 HP2 HF1 HF2
    unfold entV
    have hY : Below w3.heap.size w3 ((w3.alloc (.cells #[.int .i64 0, .string ⟨#[]⟩, .int .i64 0, .slice none 0 0, .string ⟨#[]⟩, .int .i64 0, .int .i64 0, .slice none 0 0] 26)).setCells w3.heap.size 0 [.int .i64 e.st, .string (bs e.re), .int .i64 e.mi, .slice Ao e.fs.length co, .string (bs e.bo), .int .i64 e.ak, .int .i64 e.gt, .slice Ap e.vy.length cp]) := Below.cells ((Below.refl _ _).alloc (Nat.le_refl _) _) _ (Nat.le_refl _) _ 0
    have hn0 := bk.new w3 #[.int .i64 0, .string ⟨#[]⟩, .int .i64 0, .slice none 0 0, .string ⟨#[]⟩, .int .i64 0, .int .i64 0, .slice none 0 0] 26
    have HST : Hid (World.there (w3.alloc (.cells #[.int .i64 0, .string ⟨#[]⟩, .int .i64 0, .slice none 0 0, .string ⟨#[]⟩, .int .i64 0, .int .i64 0, .slice none 0 0] 26)) w3.heap.size 0 8) := hn0.there 0 8 (by decide)
    have HO4 : Hid (bk ((w3.alloc (.cells #[.int .i64 0, .string ⟨#[]⟩, .int .i64 0, .slice none 0 0, .string ⟨#[]⟩, .int .i64 0, .int .i64 0, .slice none 0 0] 26)).setCells w3.heap.size 0 [.int .i64 e.st, .string (bs e.re), .int .i64 e.mi, .slice Ao e.fs.length co, .string (bs e.bo), .int .i64 e.ak, .int .i64 e.gt, .slice Ap e.vy.length cp]) w3.heap.size #[.int .i64 e.st, .string (bs e.re), .int .i64 e.mi, .slice Ao e.fs.length co, .string (bs e.bo), .int .i64 e.ak, .int .i64 e.gt, .slice Ap e.vy.length cp]) := hn0.setAll [.int .i64 e.st, .string (bs e.re), .int .i64 e.mi, .slice Ao e.fs.length co, .string (bs e.bo), .int .i64 e.ak, .int .i64 e.gt, .slice Ap e.vy.length cp] rfl
    have HON : Hid ((#[.int .i64 e.st, .string (bs e.re), .int .i64 e.mi, .slice Ao e.fs.length co, .string (bs e.bo), .int .i64 e.ak, .int .i64 e.gt, .slice Ap e.vy.length cp] : Array Value).all (·.oneCell') = true) := ent_one e (.slice Ao e.fs.length co) (.slice Ap e.vy.length cp) HFo.out HVo.out
    have HB4 := Lib.hid (HB3.out.trans (hY.mono HB3.out.size)); have HP4 := Lib.hid (HP3.out.below hY); have HFo4 := Lib.hid (HFo.out.bel hY); have HVo4 := Lib.hid (HVo.out.bel hY)
    clear hY hn0 HB3 HP3 HFo HVo
    go_wp2_with (refine wpList_store_mid rfl 26 (.tmp 3) (.tmp 17) rfl _ 0 #[.int .i64 e.st, .string (bs e.re), .int .i64 e.mi, .slice Ao e.fs.length co, .string (bs e.bo), .int .i64 e.ak, .int .i64 e.gt, .slice Ap e.vy.length cp] rfl rfl HST.out infoEn.out HON.out ?_; clear HST HON; generalize (w3.alloc (.cells #[.int .i64 0, .string ⟨#[]⟩, .int .i64 0, .slice none 0 0, .string ⟨#[]⟩, .int .i64 0, .int .i64 0, .slice none 0 0] 26)).setCells w3.heap.size 0 [.int .i64 e.st, .string (bs e.re), .int .i64 e.mi, .slice Ao e.fs.length co, .string (bs e.bo), .int .i64 e.ak, .int .i64 e.gt, .slice Ap e.vy.length cp] = Y at *; generalize w3.heap.size = m0 at *)
    obtain ⟨Yr, mm, dd, hh, ii, ss, HY⟩ := clamp_ex e.gt
    have ha1 : ∀ W, Below Y.heap.size Y W → Calls Tryz.prog 9 #[.agg #[.int .i64 e.st, .string (bs e.re), .int .i64 e.mi, .slice Ao e.fs.length co, .string (bs e.bo), .int .i64 e.ak, .int .i64 e.gt, .slice Ap e.vy.length cp]] W fun r w' => ∃ v, r = .returned v ∧ FL w' v (askL Yr e.fs) ∧ Below W.heap.size W w' := fun W hW => by
      refine (xask_any e (.slice Ao e.fs.length co) (.slice Ap e.vy.length cp) Yr W (HFo4.out.bel hW) (HVo4.out.bel hW) HQ1.out.qf ⟨mm, dd, hh, ii, ss, HY⟩ ((HT.out.2.below HB4.out).below hW)).mono ?_
      rintro r w' ⟨v, rfl, ho, hb⟩
      exact ⟨v, rfl, ho.fl, hb⟩
    have ha2 : ∀ W, Below Y.heap.size Y W → Calls Tryz.prog 10 #[.agg #[.int .i64 e.st, .string (bs e.re), .int .i64 e.mi, .slice Af e.fs.length cf, .string (bs e.bo), .int .i64 e.ak, .int .i64 e.gt, .slice Av e.vy.length cv]] W fun r w' => ∃ v, r = .returned v ∧ FL w' v (askL Yr e.fs) ∧ Below W.heap.size W w' := fun W hW => by
      have hwW := HB4.out.trans (hW.mono HB4.out.size)
      refine (raskQ_any e (.slice Af e.fs.length cf) (.slice Av e.vy.length cv) Yr W (HH.out.fl.bel hwW) (HH.out.vl.bel hwW) HQ1.out.qf ⟨mm, dd, hh, ii, ss, HY⟩).mono ?_
      rintro r w' ⟨v, rfl, ho, hb⟩
      exact ⟨v, rfl, ho.fl, hb⟩
    have hs : ∀ W, Below Y.heap.size Y W → Calls Tryz.prog 11 #[.agg #[.int .i64 e.st, .string (bs e.re), .int .i64 e.mi, .slice Ao e.fs.length co, .string (bs e.bo), .int .i64 e.ak, .int .i64 e.gt, .slice Ap e.vy.length cp], .agg #[.int .i64 e.st, .string (bs e.re), .int .i64 e.mi, .slice Af e.fs.length cf, .string (bs e.bo), .int .i64 e.ak, .int .i64 e.gt, .slice Av e.vy.length cv]] W fun r w' => r = .returned (.bool true) ∧ Below W.heap.size W w' := fun W hW => by
      have hwW := HB4.out.trans (hW.mono HB4.out.size)
      exact rsameQ_same e (.slice Ao e.fs.length co) (.slice Ap e.vy.length cp) (.slice Af e.fs.length cf) (.slice Av e.vy.length cv) W (HFo4.out.bel hW) (HVo4.out.bel hW) (HH.out.fl.bel hwW) (HH.out.vl.bel hwW) (by have := HQ1.out.len; omega) (by have := HQ2.out.len; omega)
    have hL1 : (askL Yr e.fs).length ≤ 4294967296 := by unfold askL; split <;> split <;> simp
    have HA1 := Lib.hid ha1; have HA2 := Lib.hid ha2; have HS := Lib.hid hs; have HL1 := Lib.hid hL1
    clear ha1 ha2 hs hL1 HY
    generalize askL Yr e.fs = L1 at *
    refine wp_region_growS (.one 0 false (.one 2 false (.one 1 true (.one 3 true (.one 4 true (.one 5 false (.one 6 false (.one 7 false (.one 8 true (.one 9 false (.one 10 false (.one 11 true (.one 12 false (.one 13 false .done))))))))))))))
      (fun W => Below Y.heap.size Y W) (by kernel_rfl) (by kernel_rfl) rfl (by kernel_rfl) (by kernel_rfl) (Below.drew (Below.refl Y.heap.size Y)) (fun ops hops => ?_)
    simp only [GT.ins, List.getD_cons_zero, List.getD_cons_succ]
    have g5 : (ops[5]?).bind (·.dst) = some 23 := by rw [hops.out]; rfl
    have g10 : (ops[10]?).bind (·.dst) = some 28 := by rw [hops.out]; rfl
    have G5 := Lib.hid g5
    have G10 := Lib.hid g10
    clear hops g5 g10
    iterate 2
      refine growS_take (by rfl) ?_
      apply Exists.intro
      refine ⟨fun w' hE => ?_, ?_⟩
      · first | (exact exec_load_mid 26 _ rfl m0 0 rfl [.int .i64 e.st, .string (bs e.re), .int .i64 e.mi, .slice Ao e.fs.length co, .string (bs e.bo), .int .i64 e.ak, .int .i64 e.gt, .slice Ap e.vy.length cp] _ (HO4.out.below hE).range0 Tryz.underlying26 rfl infoEn.out) | (exact exec_load_mid 26 _ rfl w.heap.size 0 rfl [.int .i64 e.st, .string (bs e.re), .int .i64 e.mi, .slice Af e.fs.length cf, .string (bs e.bo), .int .i64 e.ak, .int .i64 e.gt, .slice Av e.vy.length cv] _ (HP4.out.below hE).range0 Tryz.underlying26 rfl infoEn.out) | (go_simp; try with_reducible rfl)
      simp only [Act.put, List.setIfInBounds_toArray, List.set_cons_zero, List.set_cons_succ]
    refine growS_call (by rfl) (fun K hK => ?_)
    go_simp
    refine (HA1.out _ (Below.drew (Below.refl Y.heap.size Y))).mono ?_
    rintro r x1 ⟨v1, rfl, hf1, hb⟩
    have HZ1 : Hid (Below Y.heap.size Y x1) := (Below.drew (Below.refl Y.heap.size Y)).trans (hb.mono (Below.drew (Below.refl Y.heap.size Y)).size)
    obtain ⟨A1, k1, rfl⟩ := hf1.form
    have HV1 := Lib.hid hf1; clear hf1
    refine hK.out _ _ HZ1.out ?_
    clear hK K hb
    refine growS_call (by rfl) (fun K hK => ?_)
    go_simp
    refine (HA2.out _ HZ1.out).mono ?_
    rintro r x2 ⟨v2, rfl, hf2, hb⟩
    have HZ2 : Hid (Below Y.heap.size Y x2) := HZ1.out.trans (hb.mono HZ1.out.size)
    obtain ⟨A2, k2, rfl⟩ := hf2.form
    have HV2 := Lib.hid hf2; have HV1b := Lib.hid (HV1.out.bel hb); clear hf2 HV1
    refine hK.out _ _ HZ2.out ?_
    clear hK K hb
    refine growS_call (by rfl) (fun K hK => ?_)
    go_simp
    have hsf := sameF_any _ _ L1 L1 _ HV1b.out HV2.out HL1.out
    rw [beq_self_eq_true] at hsf
    refine hsf.mono ?_
    rintro r x3 ⟨rfl, hb⟩
    have HZ3 : Hid (Below Y.heap.size Y x3) := HZ2.out.trans (hb.mono HZ2.out.size)
    refine hK.out _ _ HZ3.out ?_
    clear hK K hb
    iterate 1
      refine growS_take (by rfl) ?_
      apply Exists.intro
      refine ⟨fun w' hE => ?_, ?_⟩
      · first | (exact exec_load_mid 26 _ rfl m0 0 rfl [.int .i64 e.st, .string (bs e.re), .int .i64 e.mi, .slice Ao e.fs.length co, .string (bs e.bo), .int .i64 e.ak, .int .i64 e.gt, .slice Ap e.vy.length cp] _ (HO4.out.below hE).range0 Tryz.underlying26 rfl infoEn.out) | (exact exec_load_mid 26 _ rfl w.heap.size 0 rfl [.int .i64 e.st, .string (bs e.re), .int .i64 e.mi, .slice Af e.fs.length cf, .string (bs e.bo), .int .i64 e.ak, .int .i64 e.gt, .slice Av e.vy.length cv] _ (HP4.out.below hE).range0 Tryz.underlying26 rfl infoEn.out) | (go_simp; try with_reducible rfl)
      simp only [Act.put, List.setIfInBounds_toArray, List.set_cons_zero, List.set_cons_succ]
    iterate 2
      refine growS_take (wantedS G5.out rfl rfl) ?_
      apply Exists.intro
      refine ⟨fun w' hE => ?_, ?_⟩
      · first | (exact exec_load_mid 26 _ rfl m0 0 rfl [.int .i64 e.st, .string (bs e.re), .int .i64 e.mi, .slice Ao e.fs.length co, .string (bs e.bo), .int .i64 e.ak, .int .i64 e.gt, .slice Ap e.vy.length cp] _ (HO4.out.below hE).range0 Tryz.underlying26 rfl infoEn.out) | (exact exec_load_mid 26 _ rfl w.heap.size 0 rfl [.int .i64 e.st, .string (bs e.re), .int .i64 e.mi, .slice Af e.fs.length cf, .string (bs e.bo), .int .i64 e.ak, .int .i64 e.gt, .slice Av e.vy.length cv] _ (HP4.out.below hE).range0 Tryz.underlying26 rfl infoEn.out) | (go_simp; try with_reducible rfl)
      simp only [Act.put, List.setIfInBounds_toArray, List.set_cons_zero, List.set_cons_succ]
    refine growS_call (wantedS G5.out rfl rfl) (fun K hK => ?_)
    go_simp
    refine (HS.out _ HZ3.out).mono ?_
    rintro r x4 ⟨rfl, hb⟩
    have HZ4 : Hid (Below Y.heap.size Y x4) := HZ3.out.trans (hb.mono HZ3.out.size)
    refine hK.out _ _ HZ4.out ?_
    clear hK K hb
    iterate 2
      refine growS_take (by rfl) ?_
      apply Exists.intro
      refine ⟨fun w' hE => ?_, ?_⟩
      · first | (exact exec_load_mid 26 _ rfl m0 0 rfl [.int .i64 e.st, .string (bs e.re), .int .i64 e.mi, .slice Ao e.fs.length co, .string (bs e.bo), .int .i64 e.ak, .int .i64 e.gt, .slice Ap e.vy.length cp] _ (HO4.out.below hE).range0 Tryz.underlying26 rfl infoEn.out) | (exact exec_load_mid 26 _ rfl w.heap.size 0 rfl [.int .i64 e.st, .string (bs e.re), .int .i64 e.mi, .slice Af e.fs.length cf, .string (bs e.bo), .int .i64 e.ak, .int .i64 e.gt, .slice Av e.vy.length cv] _ (HP4.out.below hE).range0 Tryz.underlying26 rfl infoEn.out) | (go_simp; try with_reducible rfl)
      simp only [Act.put, List.setIfInBounds_toArray, List.set_cons_zero, List.set_cons_succ]
    refine growS_call (wantedS G10.out rfl rfl) (fun K hK => ?_)
    go_simp
    refine (HW.out _ (HB4.out.trans (HZ4.out.mono HB4.out.size))).mono ?_
    rintro r x5 ⟨rfl, hb⟩
    have HZ5 : Hid (Below Y.heap.size Y x5) := HZ4.out.trans (hb.mono HZ4.out.size)
    refine hK.out _ _ HZ5.out ?_
    clear hK K hb
    iterate 2
      refine growS_take (by rfl) ?_
      apply Exists.intro
      refine ⟨fun w' hE => ?_, ?_⟩
      · first | (exact exec_load_mid 26 _ rfl m0 0 rfl [.int .i64 e.st, .string (bs e.re), .int .i64 e.mi, .slice Ao e.fs.length co, .string (bs e.bo), .int .i64 e.ak, .int .i64 e.gt, .slice Ap e.vy.length cp] _ (HO4.out.below hE).range0 Tryz.underlying26 rfl infoEn.out) | (exact exec_load_mid 26 _ rfl w.heap.size 0 rfl [.int .i64 e.st, .string (bs e.re), .int .i64 e.mi, .slice Af e.fs.length cf, .string (bs e.bo), .int .i64 e.ak, .int .i64 e.gt, .slice Av e.vy.length cv] _ (HP4.out.below hE).range0 Tryz.underlying26 rfl infoEn.out) | (go_simp; try with_reducible rfl)
      simp only [Act.put, List.setIfInBounds_toArray, List.set_cons_zero, List.set_cons_succ]
    refine growS_done (NoPanic.normal ?_)
    go_wp2_with fail
    go_ret
    exact ⟨rfl, HB4.out.trans (HZ5.out.mono HB4.out.size)⟩
end Go.Proofs.YtdaiielhohdgiaaGreatDoor
