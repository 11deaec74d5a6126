/- The walk of the statement FieldsSets. -/
import Derived.Test.YtilaalfehnngcaaFieldsY
import Derived.Test.YtilaalfehnngcaaFieldsX
import Derived.Test.YtilaalfehnngcaaFieldsS
import Derived.Test.YtilaalfehnngcaaFieldsZ
namespace Go.Proofs.Ytilaalfehnngcaa
open Go.RowKit

theorem FL_lit1 (w : World) (x y : List UInt8) : FL (w.alloc (.cells #[.string (bs x), .string (bs y)] 36)) (.slice (some ⟨w.heap.size, 0, none⟩) 1 1) [(x, y)] := by
  refine .inr ⟨w.heap.size, 0, 1, rfl, by simp, fun j hj => ?_⟩
  have : j = 0 := by simpa using hj
  subst this
  have h := oneF2.new w (.string (bs x)) (.string (bs y))
  exact ⟨h.cells.1, h.cells.2.1⟩
theorem smallF_mem {l : List Fld} : smallF l ↔ ∀ f ∈ l, f.1.length ≤ 4294967296 ∧ f.2.length ≤ 4294967296 := by
  refine ⟨fun h f hf => ?_, fun h j hj => h _ (List.getElem_mem hj)⟩
  obtain ⟨j, hj, rfl⟩ := List.getElem_of_mem hf
  exact h j hj
theorem setL_mem {l : List Fld} {n y : List UInt8} {f : Fld} (h : f ∈ setL l n y) : f ∈ l ∨ f.2 = y ∧ (f.1 = n ∨ ∃ g ∈ l, f.1 = g.1) := by
  induction l with
  | nil => rw [setL, List.mem_singleton] at h; subst h; exact .inr ⟨rfl, .inl rfl⟩
  | cons g r ih =>
    unfold setL at h
    split at h
    · rcases List.mem_cons.1 h with rfl | h
      · exact .inr ⟨rfl, .inr ⟨g, List.mem_cons_self, rfl⟩⟩
      · exact .inl (List.mem_cons_of_mem _ (List.mem_filter.1 h).1)
    · rcases List.mem_cons.1 h with rfl | h
      · exact .inl List.mem_cons_self
      · rcases ih h with h | ⟨h1, h2 | ⟨k, hk, h2⟩⟩
        · exact .inl (List.mem_cons_of_mem _ h)
        · exact .inr ⟨h1, .inl h2⟩
        · exact .inr ⟨h1, .inr ⟨k, List.mem_cons_of_mem _ hk, h2⟩⟩
theorem smallF_set {l : List Fld} {n y : List UInt8} (h : smallF l) (hn : n.length ≤ 4294967296) (hy : y.length ≤ 4294967296) : smallF (setL l n y) := by
  rw [smallF_mem] at h ⊢
  intro f hf
  rcases setL_mem hf with h1 | ⟨h1, h2 | ⟨g, hg, h2⟩⟩
  · exact h f h1
  · rw [h1, h2]; exact ⟨hn, hy⟩
  · rw [h1, h2]; exact ⟨(h g hg).1, hy⟩
theorem sizeL_set (l : List Fld) (n y : List UInt8) : sizeL (setL l n y) ≤ sizeL l + n.length + y.length := by
  induction l with
  | nil => simp [setL, sizeL]
  | cons g r ih =>
    unfold setL
    have hd : sizeL (delL r [n]) ≤ sizeL r := sizeL_filter _ _
    split
    · rw [sizeL_cons, sizeL_cons]; simp only; omega
    · rw [sizeL_cons, sizeL_cons]; omega
theorem get_set (l : List Fld) (n y : List UInt8) : getL (setL l n y) n = y := by
  unfold getL; rw [vals_set]; simp [Lib.join]
theorem has_set (l : List Fld) (n y : List UInt8) : hasF (setL l n y) n = true := by
  unfold hasF; rw [vals_set]; rfl
theorem has_self1 (n : List UInt8) : hasN [n] n = true := by rw [hasN_one, sameN_refl]
theorem get_gone (l : List Fld) (n : List UInt8) : getL (delL l [n]) n = [] := by
  unfold getL; rw [vals_del (has_self1 n)]; rfl
theorem has_gone (l : List Fld) (n : List UInt8) : hasF (delL l [n]) n = false := by
  unfold hasF; rw [vals_del (has_self1 n)]; rfl
theorem has_lit (n y x : List UInt8) : hasF [(n, y)] x = sameN n x := by
  unfold hasF; rw [vals_cons]
  cases sameN n x <;> rfl

set_option maxHeartbeats 8000000 in
set_option maxRecDepth 100000 in
theorem fieldsSets_any (v : Value) (l : List Fld) (f : Fld) (x : List UInt8) (w : World) (h : FL w v l) (hz : sizedF l) (hl : l.length ≤ 9223372036854775807) (hf1 : f.1.length ≤ 9223372036854775807) (hf2 : f.2.length ≤ 9223372036854775807)
    (hx : x.length ≤ 9223372036854775807) (hm : MaxL w) :
    Calls Try.prog 7 #[v, fv f, .string (bs x)] w fun e w' => e = .returned (.bool true) ∧ Below w.heap.size w w' := by
  obtain ⟨n, y⟩ := f; simp only at hf1 hf2
  unfold fv; simp only
  have HW : Hid (Later w 9 #[] (.bool true)) := worksL hm
  have hal : Below w.heap.size w (w.alloc (.cells #[.string (bs n), .string (bs y)] 36)) := (Below.refl _ _).alloc (Nat.le_refl _) _
  have HQ0 := Lib.hid (oneF2.new w (.string (bs n)) (.string (bs y)))
  have hfw := few_any v l _ (h.bel hal) hz hl
  have HBa := Lib.hid hal; clear hal
  cases hf : fewB l
  · rw [hf] at hfw
    have HFW := Lib.hid hfw; clear hfw hf hz hl h hm
    go_enter Try.func7, Try.ntmps7
    go_wp2_with fail
    refine HFW.out.mono ?_; rintro e w1 ⟨rfl, hb1⟩
    have HB1 := Lib.hid (HBa.out.trans (hb1.mono HBa.out.size)); clear hb1
    go_wp2_with fail
    refine (HW.out _ HB1.out).mono ?_; rintro e w2 ⟨rfl, hb2⟩
    go_wp2_with fail
    go_ret
    exact ⟨rfl, hb2⟩
  · rw [hf] at hfw
    obtain ⟨l80, lsz, hsm⟩ := few_small hf
    have HFW := Lib.hid hfw; clear hfw hf
    by_cases hbig : 600 < n.length ∨ 600 < y.length ∨ 600 < x.length
    · have hb3 : (600 : Int) < (n.length : Int) ∨ (¬ (600 : Int) < (n.length : Int) ∧ (600 : Int) < (y.length : Int)) ∨ (¬ (600 : Int) < (n.length : Int) ∧ ¬ (600 : Int) < (y.length : Int) ∧ (600 : Int) < (x.length : Int)) := by omega
      clear hbig hz hl h hm
      rcases hb3 with q1 | ⟨q1, q2⟩ | ⟨q1, q2, q3⟩
      all_goals
        go_enter Try.func7, Try.ntmps7
        go_wp2_with fail
        refine HFW.out.mono ?_; rintro e w1 ⟨rfl, hb1⟩
        obtain ⟨k1, k2, k3, k4⟩ := (HQ0.out.bel hb1).cells
        have HB1 := Lib.hid (HBa.out.trans (hb1.mono HBa.out.size)); clear hb1
        go_wp2_with fail
        refine (HW.out _ HB1.out).mono ?_; rintro e w2 ⟨rfl, hb2⟩
        go_wp2_with fail
        go_ret
        exact ⟨rfl, hb2⟩
    · have q1 : ¬ (600 : Int) < (n.length : Int) := by omega
      have q2 : ¬ (600 : Int) < (y.length : Int) := by omega
      have q3 : ¬ (600 : Int) < (x.length : Int) := by omega
      have hn600 : n.length ≤ 600 := by omega
      have hy600 : y.length ≤ 600 := by omega
      have hx600 : x.length ≤ 600 := by omega
      have HFl : Hid (∀ w', Below w.heap.size w w' → FL w' v l) := fun w' hb => h.bel hb
      have HSm : Hid (smallF l) := hsm
      have HSz : Hid (sizeL l ≤ 12000) := lsz
      have HL2 : Hid (l.length ≤ 80) := l80
      have HSmS : Hid (smallF (setL l n y)) := smallF_set hsm (by omega) (by omega)
      have HSzS : Hid (sizeL (setL l n y) ≤ 14000) := Nat.le_trans (sizeL_set l n y) (by omega)
      have HLS : Hid ((setL l n y).length ≤ 81) := Nat.le_trans (setL_len l n y) (by omega)
      have HSmD : Hid (smallF (delL l [n])) := smallF_filter hsm _
      have HSzD : Hid (sizeL (delL l [n]) ≤ 12000) := Nat.le_trans (sizeL_filter _ _) lsz
      have HLD : Hid ((delL l [n]).length ≤ 80) := Nat.le_trans (del_le l [n]) l80
      have hn1 : ∀ z ∈ [n], z.length ≤ 4294967296 := by intro z hz; rw [List.mem_singleton.1 hz]; omega
      have HN1 := Lib.hid hn1
      clear hbig hz hl h hm hsm lsz l80 hn1
      go_enter Try.func7, Try.ntmps7
      go_wp2_with fail
      refine HFW.out.mono ?_; rintro e w1 ⟨rfl, hb1⟩
      have HQ := Lib.hid (HQ0.out.bel hb1)
      obtain ⟨k1, k2, k3, k4⟩ := HQ.out.cells
      have HB := Lib.hid (HBa.out.trans (hb1.mono HBa.out.size)); clear hb1
      go_wp2_with fail
      clear k1 k2 k3 k4 HQ0 HBa HFW
      refine wp_region_growS (.one 0 false (.one 1 false (.one 2 false (.one 3 false (.one 4 false (.one 6 false (.one 7 false (.one 8 false (.two 5 9 (.one 9 true (.one 10 true (.one 11 false (.one 12 false .done)))) (.one 5 true (.one 10 true (.one 11 false (.one 12 false .done)))))))))))))
        (fun z => Below w1.heap.size w1 z) (by kernel_rfl) (by kernel_rfl) rfl (by kernel_rfl) (by kernel_rfl) (Below.refl _ _).drew (fun ops hops => ?_)
      simp only [GT.ins, List.getD_cons_zero, List.getD_cons_succ]
      clear hops
      iterate 8
        refine growS_take (by rfl) ?_
        apply Exists.intro
        refine ⟨fun w' hE => ?_, ?_⟩
        · obtain ⟨k1, k2, k3, k4⟩ := (HQ.out.bel hE).cells
          go_simp
          try with_reducible rfl
        simp only [Act.put, List.setIfInBounds_toArray, List.set_cons_zero, List.set_cons_succ]
      refine growS_two (by rfl) (by rfl) (fun K hK => ?_) (fun K hK => ?_)
      · go_simp
        refine (set_any _ _ n y _ ((HFl.out _ HB.out).bel (Below.refl _ _).drew) HSm.out (by have := HL2.out; omega) (by omega) (by omega)).mono ?_
        intro e w2 hr; obtain ⟨vs, rfl, hs2, hb⟩ := hr.fl
        replace hb : Below w1.heap.size w1 w2 := (Below.refl _ _).drew.trans hb
        refine hK.out _ _ hb ?_
        have HS2 := Lib.hid hs2; have HE2 := Lib.hid hb
        clear hK K hr hs2 hb
        refine growS_call (by rfl) (fun K hK => ?_)
        go_simp
        have hal : Below w2.heap.size w2 (w2.alloc (.cells #[.string (bs n)] 9)) := (Below.refl _ _).alloc (Nat.le_refl _) _
        have hE := HE2.out.trans (hal.mono HE2.out.size)
        refine hK.out _ _ hE ?_
        have HS3 := Lib.hid (HS2.out.bel hal); have HE3 := Lib.hid hE
        clear hK K hal hE HS2
        refine growS_call (by rfl) (fun K hK => ?_)
        go_simp
        refine (del_any _ _ l [n] _ (HFl.out _ (HB.out.trans (HE3.out.mono HB.out.size))) (SL_lit w2 n) HSm.out (by have := HL2.out; omega) HN1.out (by simp)).mono ?_
        intro e w4 hr; obtain ⟨vd, rfl, hs4, hb⟩ := hr.fl
        have HVS := Lib.hid (HS3.out.bel hb); have HVD := Lib.hid hs4
        replace hb := HE3.out.trans (hb.mono HE3.out.size)
        refine hK.out _ _ hb ?_
        have HE := Lib.hid hb
        clear hK K hr hs4 hb HE2 HE3 HS3
        iterate 2
          refine growS_take (by rfl) ?_
          apply Exists.intro
          refine ⟨fun w' hE => ?_, ?_⟩
          · skip
            go_simp
            try with_reducible rfl
          simp only [Act.put, List.setIfInBounds_toArray, List.set_cons_zero, List.set_cons_succ]
        refine growS_done (NoPanic.normal ?_)
        have HB2 := Lib.hid (HB.out.trans (HE.out.mono HB.out.size)); have HQ2 := Lib.hid (HQ.out.bel HE.out)
        clear HQ HE HB
        obtain ⟨k1, k2, k3, k4⟩ := HQ2.out.cells
        go_wp2_with fail
        refine (get_any _ _ n _ HVS.out HSmS.out (by have := HLS.out; omega) (by have := HSzS.out; omega) (by omega)).mono ?_
        rw [get_set, has_set]
        rintro e w5 ⟨rfl, hb⟩
        clear k1 k2 k3 k4
        have HB5 := Lib.hid (HB2.out.trans (hb.mono HB2.out.size)); have HQ5 := Lib.hid (HQ2.out.bel hb); have HVS5 := Lib.hid (HVS.out.bel hb); have HVD5 := Lib.hid (HVD.out.bel hb)
        clear hb HVS HVD HQ2 HB2
        obtain ⟨k1, k2, k3, k4⟩ := HQ5.out.cells
        go_wp2_with fail
        refine (get_any _ _ n _ HVD5.out HSmD.out (by have := HLD.out; omega) (by have := HSzD.out; omega) (by omega)).mono ?_
        rw [get_gone, has_gone, show bs ([] : List UInt8) = ⟨#[]⟩ from rfl]
        rintro e w6 ⟨rfl, hb⟩
        clear k1 k2 k3 k4
        have HB6 := Lib.hid (HB5.out.trans (hb.mono HB5.out.size)); have HQ6 := Lib.hid (HQ5.out.bel hb); have HVS6 := Lib.hid (HVS5.out.bel hb); have HVD6 := Lib.hid (HVD5.out.bel hb)
        clear hb HVS5 HVD5 HQ5 HB5
        obtain ⟨k1, k2, k3, k4⟩ := HQ6.out.cells
        go_wp2_with fail
        refine (values_any _ _ n _ HVS6.out HSmS.out (by have := HLS.out; omega) (by omega)).mono ?_
        rw [vals_set]
        intro e w7 hr; obtain ⟨vt, rfl, hs7, hb⟩ := hr.sl
        obtain ⟨Aq, cq, rfl⟩ := hs7.form
        clear k1 k2 k3 k4 hr hs7
        have HB7 := Lib.hid (HB6.out.trans (hb.mono HB6.out.size)); have HQ7 := Lib.hid (HQ6.out.bel hb); have HVS7 := Lib.hid (HVS6.out.bel hb); have HVD7 := Lib.hid (HVD6.out.bel hb)
        clear hb HVS6 HVD6 HQ6 HB6
        obtain ⟨k1, k2, k3, k4⟩ := HQ7.out.cells
        go_wp2_with fail
        have hal7 : Below w7.heap.size w7 (w7.alloc (.cells #[.string (bs n), .string (bs y)] 36)) := (Below.refl _ _).alloc (Nat.le_refl _) _
        have hgl := get_any _ _ x _ (FL_lit1 w7 n y) (smallF_mem.2 (by intro f hf; rw [List.mem_singleton.1 hf]; exact ⟨by simp only; omega, by simp only; omega⟩)) (by simp) (by simp [sizeL]; omega) (by omega)
        rw [has_lit] at hgl
        generalize bs (getL [(n, y)] x) = G at *
        have HGL := Lib.hid hgl; clear hgl
        clear k1 k2 k3 k4
        have HB8 := Lib.hid (HB7.out.trans (hal7.mono HB7.out.size)); have HVS8 := Lib.hid (HVS7.out.bel hal7); have HVD8 := Lib.hid (HVD7.out.bel hal7)
        clear hal7 HVS7 HVD7 HQ7 HB7
        generalize w7.alloc (.cells #[.string (bs n), .string (bs y)] 36) = W at *
        refine HGL.out.mono ?_
        clear HGL
        rintro e w9 ⟨rfl, hb⟩
        cases hsn : sameN n x
        · have hno : hasN [n] x = false := by rw [hasN_one]; exact hsn
          have HVO : Hid (valsL (setL l n y) x = valsL l x) := vals_set_other hsn
          have HVP : Hid (valsL (delL l [n]) x = valsL l x) := vals_del_other hno
          clear hno hsn
          have HB9 := Lib.hid (HB8.out.trans (hb.mono HB8.out.size)); have HVS9 := Lib.hid (HVS8.out.bel hb); have HVD9 := Lib.hid (HVD8.out.bel hb)
          clear hb HVS8 HVD8 HB8
          go_wp2_with fail
          refine (values_any _ _ x _ (HFl.out _ HB9.out) HSm.out (by have := HL2.out; omega) (by omega)).mono ?_
          intro e w10 hr; obtain ⟨v0, rfl, hs, hb⟩ := hr.sl
          have HV0 := Lib.hid hs
          have HB10 := Lib.hid (HB9.out.trans (hb.mono HB9.out.size)); have HVS10 := Lib.hid (HVS9.out.bel hb); have HVD10 := Lib.hid (HVD9.out.bel hb)
          clear hr hs hb HVS9 HVD9 HB9
          go_wp2_with fail
          refine (values_any _ _ x _ HVS10.out HSmS.out (by have := HLS.out; omega) (by omega)).mono ?_
          intro e w11 hr; obtain ⟨v1, rfl, hs, hb⟩ := hr.sl
          have HV1 := Lib.hid hs; have HV01 := Lib.hid (HV0.out.bel hb)
          have HB11 := Lib.hid (HB10.out.trans (hb.mono HB10.out.size)); have HVD11 := Lib.hid (HVD10.out.bel hb)
          clear hr hs hb HVS10 HVD10 HB10 HV0
          go_wp2_with fail
          refine (sameT_any _ _ _ _ _ HV1.out HV01.out (by have := vals_len (setL l n y) x; have := HLS.out; omega)).mono ?_
          rw [HVO.out, beq_self_eq_true]
          rintro e w12 ⟨rfl, hb⟩
          have HB12 := Lib.hid (HB11.out.trans (hb.mono HB11.out.size)); have HVD12 := Lib.hid (HVD11.out.bel hb); have HV02 := Lib.hid (HV01.out.bel hb)
          clear hb HB11 HVD11 HV01 HV1
          go_wp2_with fail
          refine (values_any _ _ x _ HVD12.out HSmD.out (by have := HLD.out; omega) (by omega)).mono ?_
          intro e w13 hr; obtain ⟨v2, rfl, hs, hb⟩ := hr.sl
          have HV2 := Lib.hid hs; have HV03 := Lib.hid (HV02.out.bel hb)
          have HB13 := Lib.hid (HB12.out.trans (hb.mono HB12.out.size))
          clear hr hs hb HVD12 HB12 HV02
          go_wp2_with fail
          refine (sameT_any _ _ _ _ _ HV2.out HV03.out (by have := vals_len (delL l [n]) x; have := HLD.out; omega)).mono ?_
          rw [HVP.out, beq_self_eq_true]
          rintro e w14 ⟨rfl, hb⟩
          have HB14 := Lib.hid (HB13.out.trans (hb.mono HB13.out.size)); clear hb
          go_wp2_with fail
          refine (HW.out _ HB14.out).mono ?_; rintro e w15 ⟨rfl, hb15⟩
          go_wp2_with fail
          go_ret
          exact ⟨rfl, hb15⟩
        · have HB9 := Lib.hid (HB8.out.trans (hb.mono HB8.out.size)); clear hb hsn
          go_wp2_with fail
          refine (HW.out _ HB9.out).mono ?_; rintro e w15 ⟨rfl, hb15⟩
          go_wp2_with fail
          go_ret
          exact ⟨rfl, hb15⟩
      · go_simp
        have hal : Below w1.heap.size w1 (w1.alloc (.cells #[.string (bs n)] 9)).drew := ((Below.refl _ _).alloc (Nat.le_refl _) _).drew
        refine hK.out _ _ hal ?_
        have HSL2 : Hid (SL (w1.alloc (.cells #[.string (bs n)] 9)).drew (.slice (some ⟨w1.heap.size, 0, none⟩) 1 1) [n]) := SL_lit w1 n
        have HE2 := Lib.hid hal
        generalize (w1.alloc (.cells #[.string (bs n)] 9)).drew = w2 at *
        clear hK K hal
        refine growS_call (by rfl) (fun K hK => ?_)
        go_simp
        refine (set_any _ _ n y _ (HFl.out _ (HB.out.trans (HE2.out.mono HB.out.size))) HSm.out (by have := HL2.out; omega) (by omega) (by omega)).mono ?_
        intro e w3 hr; obtain ⟨vs, rfl, hs3, hb⟩ := hr.fl
        have HSL3 := Lib.hid (HSL2.out.bel hb)
        replace hb : Below w1.heap.size w1 w3 := HE2.out.trans (hb.mono HE2.out.size)
        refine hK.out _ _ hb ?_
        have HS3 := Lib.hid hs3; have HE3 := Lib.hid hb
        clear hK K hr hs3 hb HSL2 HE2
        refine growS_call (by rfl) (fun K hK => ?_)
        go_simp
        refine (del_any _ _ l [n] _ (HFl.out _ (HB.out.trans (HE3.out.mono HB.out.size))) HSL3.out HSm.out (by have := HL2.out; omega) HN1.out (by simp)).mono ?_
        intro e w4 hr; obtain ⟨vd, rfl, hs4, hb⟩ := hr.fl
        have HVS := Lib.hid (HS3.out.bel hb); have HVD := Lib.hid hs4
        replace hb := HE3.out.trans (hb.mono HE3.out.size)
        refine hK.out _ _ hb ?_
        have HE := Lib.hid hb
        clear hK K hr hs4 hb HE3 HS3 HSL3
        iterate 2
          refine growS_take (by rfl) ?_
          apply Exists.intro
          refine ⟨fun w' hE => ?_, ?_⟩
          · skip
            go_simp
            try with_reducible rfl
          simp only [Act.put, List.setIfInBounds_toArray, List.set_cons_zero, List.set_cons_succ]
        refine growS_done (NoPanic.normal ?_)
        have HB2 := Lib.hid (HB.out.trans (HE.out.mono HB.out.size)); have HQ2 := Lib.hid (HQ.out.bel HE.out)
        clear HQ HE HB
        obtain ⟨k1, k2, k3, k4⟩ := HQ2.out.cells
        go_wp2_with fail
        refine (get_any _ _ n _ HVS.out HSmS.out (by have := HLS.out; omega) (by have := HSzS.out; omega) (by omega)).mono ?_
        rw [get_set, has_set]
        rintro e w5 ⟨rfl, hb⟩
        clear k1 k2 k3 k4
        have HB5 := Lib.hid (HB2.out.trans (hb.mono HB2.out.size)); have HQ5 := Lib.hid (HQ2.out.bel hb); have HVS5 := Lib.hid (HVS.out.bel hb); have HVD5 := Lib.hid (HVD.out.bel hb)
        clear hb HVS HVD HQ2 HB2
        obtain ⟨k1, k2, k3, k4⟩ := HQ5.out.cells
        go_wp2_with fail
        refine (get_any _ _ n _ HVD5.out HSmD.out (by have := HLD.out; omega) (by have := HSzD.out; omega) (by omega)).mono ?_
        rw [get_gone, has_gone, show bs ([] : List UInt8) = ⟨#[]⟩ from rfl]
        rintro e w6 ⟨rfl, hb⟩
        clear k1 k2 k3 k4
        have HB6 := Lib.hid (HB5.out.trans (hb.mono HB5.out.size)); have HQ6 := Lib.hid (HQ5.out.bel hb); have HVS6 := Lib.hid (HVS5.out.bel hb); have HVD6 := Lib.hid (HVD5.out.bel hb)
        clear hb HVS5 HVD5 HQ5 HB5
        obtain ⟨k1, k2, k3, k4⟩ := HQ6.out.cells
        go_wp2_with fail
        refine (values_any _ _ n _ HVS6.out HSmS.out (by have := HLS.out; omega) (by omega)).mono ?_
        rw [vals_set]
        intro e w7 hr; obtain ⟨vt, rfl, hs7, hb⟩ := hr.sl
        obtain ⟨Aq, cq, rfl⟩ := hs7.form
        clear k1 k2 k3 k4 hr hs7
        have HB7 := Lib.hid (HB6.out.trans (hb.mono HB6.out.size)); have HQ7 := Lib.hid (HQ6.out.bel hb); have HVS7 := Lib.hid (HVS6.out.bel hb); have HVD7 := Lib.hid (HVD6.out.bel hb)
        clear hb HVS6 HVD6 HQ6 HB6
        obtain ⟨k1, k2, k3, k4⟩ := HQ7.out.cells
        go_wp2_with fail
        have hal7 : Below w7.heap.size w7 (w7.alloc (.cells #[.string (bs n), .string (bs y)] 36)) := (Below.refl _ _).alloc (Nat.le_refl _) _
        have hgl := get_any _ _ x _ (FL_lit1 w7 n y) (smallF_mem.2 (by intro f hf; rw [List.mem_singleton.1 hf]; exact ⟨by simp only; omega, by simp only; omega⟩)) (by simp) (by simp [sizeL]; omega) (by omega)
        rw [has_lit] at hgl
        generalize bs (getL [(n, y)] x) = G at *
        have HGL := Lib.hid hgl; clear hgl
        clear k1 k2 k3 k4
        have HB8 := Lib.hid (HB7.out.trans (hal7.mono HB7.out.size)); have HVS8 := Lib.hid (HVS7.out.bel hal7); have HVD8 := Lib.hid (HVD7.out.bel hal7)
        clear hal7 HVS7 HVD7 HQ7 HB7
        generalize w7.alloc (.cells #[.string (bs n), .string (bs y)] 36) = W at *
        refine HGL.out.mono ?_
        clear HGL
        rintro e w9 ⟨rfl, hb⟩
        cases hsn : sameN n x
        · have hno : hasN [n] x = false := by rw [hasN_one]; exact hsn
          have HVO : Hid (valsL (setL l n y) x = valsL l x) := vals_set_other hsn
          have HVP : Hid (valsL (delL l [n]) x = valsL l x) := vals_del_other hno
          clear hno hsn
          have HB9 := Lib.hid (HB8.out.trans (hb.mono HB8.out.size)); have HVS9 := Lib.hid (HVS8.out.bel hb); have HVD9 := Lib.hid (HVD8.out.bel hb)
          clear hb HVS8 HVD8 HB8
          go_wp2_with fail
          refine (values_any _ _ x _ (HFl.out _ HB9.out) HSm.out (by have := HL2.out; omega) (by omega)).mono ?_
          intro e w10 hr; obtain ⟨v0, rfl, hs, hb⟩ := hr.sl
          have HV0 := Lib.hid hs
          have HB10 := Lib.hid (HB9.out.trans (hb.mono HB9.out.size)); have HVS10 := Lib.hid (HVS9.out.bel hb); have HVD10 := Lib.hid (HVD9.out.bel hb)
          clear hr hs hb HVS9 HVD9 HB9
          go_wp2_with fail
          refine (values_any _ _ x _ HVS10.out HSmS.out (by have := HLS.out; omega) (by omega)).mono ?_
          intro e w11 hr; obtain ⟨v1, rfl, hs, hb⟩ := hr.sl
          have HV1 := Lib.hid hs; have HV01 := Lib.hid (HV0.out.bel hb)
          have HB11 := Lib.hid (HB10.out.trans (hb.mono HB10.out.size)); have HVD11 := Lib.hid (HVD10.out.bel hb)
          clear hr hs hb HVS10 HVD10 HB10 HV0
          go_wp2_with fail
          refine (sameT_any _ _ _ _ _ HV1.out HV01.out (by have := vals_len (setL l n y) x; have := HLS.out; omega)).mono ?_
          rw [HVO.out, beq_self_eq_true]
          rintro e w12 ⟨rfl, hb⟩
          have HB12 := Lib.hid (HB11.out.trans (hb.mono HB11.out.size)); have HVD12 := Lib.hid (HVD11.out.bel hb); have HV02 := Lib.hid (HV01.out.bel hb)
          clear hb HB11 HVD11 HV01 HV1
          go_wp2_with fail
          refine (values_any _ _ x _ HVD12.out HSmD.out (by have := HLD.out; omega) (by omega)).mono ?_
          intro e w13 hr; obtain ⟨v2, rfl, hs, hb⟩ := hr.sl
          have HV2 := Lib.hid hs; have HV03 := Lib.hid (HV02.out.bel hb)
          have HB13 := Lib.hid (HB12.out.trans (hb.mono HB12.out.size))
          clear hr hs hb HVD12 HB12 HV02
          go_wp2_with fail
          refine (sameT_any _ _ _ _ _ HV2.out HV03.out (by have := vals_len (delL l [n]) x; have := HLD.out; omega)).mono ?_
          rw [HVP.out, beq_self_eq_true]
          rintro e w14 ⟨rfl, hb⟩
          have HB14 := Lib.hid (HB13.out.trans (hb.mono HB13.out.size)); clear hb
          go_wp2_with fail
          refine (HW.out _ HB14.out).mono ?_; rintro e w15 ⟨rfl, hb15⟩
          go_wp2_with fail
          go_ret
          exact ⟨rfl, hb15⟩
        · have HB9 := Lib.hid (HB8.out.trans (hb.mono HB8.out.size)); clear hb hsn
          go_wp2_with fail
          refine (HW.out _ HB9.out).mono ?_; rintro e w15 ⟨rfl, hb15⟩
          go_wp2_with fail
          go_ret
          exact ⟨rfl, hb15⟩
theorem fieldsSets_s (v : Value) (l : List Fld) (f : Fld) (s : ByteArray) (w : World) (h : FL w v l) (hz : sizedF l) (hl : l.length ≤ 9223372036854775807) (hf1 : f.1.length ≤ 9223372036854775807) (hf2 : f.2.length ≤ 9223372036854775807)
    (hs : s.size ≤ maxLen) (hm : MaxL w) :
    Calls Try.prog 7 #[v, fv f, .string s] w fun e w' => e = .returned (.bool true) ∧ Below w.heap.size w w' :=
  fieldsSets_any v l f s.data.toList w h hz hl hf1 hf2 (by have := size_len s; unfold maxLen at hs; omega) hm
end Go.Proofs.Ytilaalfehnngcaa
