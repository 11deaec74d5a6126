/- The walk of the statement FieldsLooks. -/
import Derived.Test.YtilaalfehnngcaaFieldsY
import Derived.Test.YtilaalfehnngcaaFieldsX
import Derived.Test.YtilaalfehnngcaaFieldsS
import Derived.Test.YtilaalfehnngcaaGrow3
namespace Go.Proofs.Ytilaalfehnngcaa
open Go.RowKit

theorem RetF.fl {w w' : World} {l : List Fld} {e : Ending} (h : RetF w l e w') : ∃ v', e = .returned v' ∧ FL w' v' l ∧ Below w.heap.size w w' := by
  obtain ⟨v', he, ho, hb⟩ := h
  exact ⟨v', he, ho.fl, hb⟩
theorem RetS.sl {w w' : World} {l : List (List UInt8)} {e : Ending} (h : RetS w l e w') : ∃ v', e = .returned v' ∧ SL w' v' l ∧ Below w.heap.size w w' := by
  obtain ⟨v', he, ho, hb⟩ := h
  exact ⟨v', he, ho.sl, hb⟩
/-- a field set, and a new one: as long as can be -/
theorem setL_len (l : List Fld) (n y : List UInt8) : (setL l n y).length ≤ l.length + 1 := by
  induction l with
  | nil => simp [setL]
  | cons f r ih =>
    unfold setL
    split
    · have := del_le r [n]; simp only [List.length_cons]; omega
    · simp only [List.length_cons]; omega

set_option maxHeartbeats 8000000 in
set_option maxRecDepth 100000 in
theorem fieldsLooks_any (v : Value) (l : List Fld) (f : Fld) (vn : Value) (L : List (List UInt8)) (w : World) (h : FL w v l) (hz : sizedF l) (hl : l.length ≤ 9223372036854775807) (hf1 : f.1.length ≤ 9223372036854775807) (hf2 : f.2.length ≤ 9223372036854775807)
    (hn : SL w vn L) (_hLs : ∀ j (hj : j < L.length), L[j].length ≤ 9223372036854775807) (hLl : L.length ≤ 9223372036854775807) (hm : MaxL w) :
    Calls Try.prog 5 #[v, fv f, vn] w fun e w' => e = .returned (.bool true) ∧ Below w.heap.size w w' := by
  obtain ⟨n, y⟩ := f; simp only at hf1 hf2
  unfold fv; simp only
  have HW : Hid (Later w 9 #[] (.bool true)) := worksL hm
  have hal : Below w.heap.size w (w.alloc (.cells #[.string (bs n), .string (bs y)] 36)) := (Below.refl _ _).alloc (Nat.le_refl _) _
  have HQ0 := Lib.hid (oneF2.new w (.string (bs n)) (.string (bs y)))
  have hfw := few_any v l _ (h.bel hal) hz hl
  have HBa := Lib.hid hal; clear hal
  obtain ⟨An, cn, rfl⟩ := hn.form
  cases hf : fewB l
  · rw [hf] at hfw
    have HFW := Lib.hid hfw; clear hfw hf hz hl h hm hn _hLs
    go_enter Try.func5, Try.ntmps5
    go_wp2_with fail
    refine HFW.out.mono ?_; rintro e w1 ⟨rfl, hb1⟩
    have HB1 := Lib.hid (HBa.out.trans (hb1.mono HBa.out.size)); clear hb1
    go_wp2_with fail
    refine (HW.out _ HB1.out).mono ?_; rintro e w2 ⟨rfl, hb2⟩
    go_wp2_with fail
    go_ret
    exact ⟨rfl, hb2⟩
  · rw [hf] at hfw
    obtain ⟨l80, lsz, hsm⟩ := few_small hf
    have HFW := Lib.hid hfw; clear hfw hf
    by_cases hbig : 600 < n.length ∨ 600 < y.length ∨ 20 < L.length
    · have hb3 : (600 : Int) < (n.length : Int) ∨ (¬ (600 : Int) < (n.length : Int) ∧ (600 : Int) < (y.length : Int)) ∨ (¬ (600 : Int) < (n.length : Int) ∧ ¬ (600 : Int) < (y.length : Int) ∧ (20 : Int) < (L.length : Int)) := by omega
      clear hbig hz hl h hm hn _hLs
      rcases hb3 with q1 | ⟨q1, q2⟩ | ⟨q1, q2, q3⟩
      all_goals
        go_enter Try.func5, Try.ntmps5
        go_wp2_with fail
        refine HFW.out.mono ?_; rintro e w1 ⟨rfl, hb1⟩
        obtain ⟨k1, k2, k3, k4⟩ := (HQ0.out.bel hb1).cells
        have HB1 := Lib.hid (HBa.out.trans (hb1.mono HBa.out.size)); clear hb1
        go_wp2_with fail
        refine (HW.out _ HB1.out).mono ?_; rintro e w2 ⟨rfl, hb2⟩
        go_wp2_with fail
        go_ret
        exact ⟨rfl, hb2⟩
    · have q1 : ¬ (600 : Int) < (n.length : Int) := by omega
      have q2 : ¬ (600 : Int) < (y.length : Int) := by omega
      have q3 : ¬ (20 : Int) < (L.length : Int) := by omega
      have hn600 : n.length ≤ 600 := by omega
      have hy600 : y.length ≤ 600 := by omega
      have HFl : Hid (∀ w', Below w.heap.size w w' → FL w' v l) := fun w' hb => h.bel hb
      have HSl : Hid (∀ w', Below w.heap.size w w' → SL w' (.slice An L.length cn) L) := fun w' hb => hn.bel hb
      have HSm : Hid (smallF l) := hsm
      have HSz : Hid (sizeL l ≤ 12000) := lsz
      have HL2 : Hid (l.length ≤ 80 ∧ L.length ≤ 20) := ⟨l80, by omega⟩
      have HSL := Lib.hid hn
      clear hbig hz hl h hm hn _hLs hsm lsz l80
      go_enter Try.func5, Try.ntmps5
      go_wp2_with fail
      refine HFW.out.mono ?_; rintro e w1 ⟨rfl, hb1⟩
      have HQ1 := Lib.hid (HQ0.out.bel hb1)
      obtain ⟨k1, k2, k3, k4⟩ := HQ1.out.cells
      have HB1 := Lib.hid (HBa.out.trans (hb1.mono HBa.out.size)); clear hb1
      go_wp2_with fail
      clear k1 k2 k3 k4
      go_loop [7] (fun i => ∃ k : Nat, k ≤ L.length ∧ i = .int .i64 k ∧ ∀ j (hj : j < k) (hk : k ≤ L.length), (L[j]'(by omega)).length ≤ 600) (fun i => L.length - (intOf i).toNat)
      case atStart => exact ⟨0, Nat.zero_le _, rfl, fun j hj => absurd hj (by omega)⟩
      case round =>
        obtain ⟨k, hk, rfl, hsh⟩ := hrel
        have HSh := Lib.hid hsh; clear hsh
        by_cases hlt : k < L.length
        · obtain ⟨b, off, rfl, _, hc1⟩ := (HSl.out w1 HB1.out).get k hlt
          by_cases hx : 600 < L[k].length
          · have hx' : (600 : Int) < (L[k].length : Int) := by omega
            generalize L[k] = x at *
            go_wp2_with fail
            refine (HW.out _ HB1.out).mono ?_; rintro e w2 ⟨rfl, hb2⟩
            go_wp2_with fail
            go_ret
            exact ⟨rfl, hb2⟩
          · have hx' : ¬ (600 : Int) < (L[k].length : Int) := by omega
            have HNN : Hid (∀ j (hj : j < k + 1) (hk : k + 1 ≤ L.length), (L[j]'(by omega)).length ≤ 600) := by
              intro j hj hk2
              rcases Nat.lt_or_eq_of_le (Nat.le_of_lt_succ hj) with h1 | h1
              · exact HSh.out j h1 (by omega)
              · subst h1; omega
            generalize L[k] = x at *
            go_wp2_with fail
            go_round
            case rel => exact ⟨k + 1, by omega, by go_num, HNN.out⟩
            case measure => simp [intOf]; omega
        · have HLx : Hid (∀ x ∈ L, x.length ≤ 4294967296) := by
            intro x hx
            obtain ⟨j, hj, rfl⟩ := List.getElem_of_mem hx
            have := HSh.out j (by omega) hk
            omega
          clear HSh
          go_wp2_with fail
          refine (copiedL_any _ _ _ (HFl.out _ HB1.out) (by have := HL2.out; omega)).mono ?_; intro e w2 hr; obtain ⟨vo, rfl, ho, hb⟩ := hr.fl
          have HO2 := Lib.hid ho; have HQ2 := Lib.hid (HQ1.out.bel hb); have HB2 := Lib.hid (HB1.out.trans (hb.mono HB1.out.size)); clear ho hb hr
          obtain ⟨k1, k2, k3, k4⟩ := HQ2.out.cells
          go_wp2_with fail
          refine (get_any _ _ n _ HO2.out HSm.out (by have := HL2.out; omega) (by have := HSz.out; omega) (by omega)).mono ?_; rintro e w3 ⟨rfl, hb⟩
          clear k1 k2 k3 k4
          have HO3 := Lib.hid (HO2.out.bel hb); have HQ3 := Lib.hid (HQ2.out.bel hb); have HB3 := Lib.hid (HB2.out.trans (hb.mono HB2.out.size)); clear hb
          obtain ⟨k1, k2, k3, k4⟩ := HQ3.out.cells
          go_wp2_with fail
          refine (rget_any _ _ n _ (HFl.out _ HB3.out) HSm.out (by have := HL2.out; omega) (by have := HSz.out; omega) (by omega)).mono ?_; rintro e w4 ⟨rfl, hb⟩
          clear k1 k2 k3 k4
          have HO := Lib.hid (HO3.out.bel hb); have HQ := Lib.hid (HQ3.out.bel hb); have HB := Lib.hid (HB3.out.trans (hb.mono HB3.out.size)); clear hb
          clear HO2 HO3 HQ0 HQ1 HQ2 HQ3 HB2 HB3 HFW HBa
          generalize bs (getL l n) = G at *
          generalize hasF l n = Hf at *
          go_wp2_with fail

          refine wp_region_growS (.one 0 false (.one 1 false (.one 2 false (.one 3 false (.one 4 false (.one 5 false (.one 6 false (.one 7 false (.one 8 false (.one 9 false (.one 10 false (.one 11 false (.one 13 false (.one 14 false (.one 15 false (.one 12 true (.one 16 true (.one 17 true (.one 18 false (.one 19 false .done))))))))))))))))))))
            (fun x => Below w4.heap.size w4 x) (by kernel_rfl) (by kernel_rfl) rfl (by kernel_rfl) (by kernel_rfl) (Below.refl _ _).drew (fun ops hops => ?_)
          simp only [GT.ins, List.getD_cons_zero, List.getD_cons_succ]
          have g3 : (ops[3]?).bind (·.dst) = some 66 := by rw [hops.out]; rfl
          have g8 : (ops[8]?).bind (·.dst) = some 71 := by rw [hops.out]; rfl
          have G3 := Lib.hid g3; have G8 := Lib.hid g8
          clear hops g3 g8
          iterate 4
            refine growS_take (by rfl) ?_
            apply Exists.intro
            refine ⟨fun w' hE => ?_, ?_⟩
            · obtain ⟨k1, k2, k3, k4⟩ := (HQ.out.bel hE).cells
              go_simp
              try with_reducible rfl
            simp only [Act.put, List.setIfInBounds_toArray, List.set_cons_zero, List.set_cons_succ]
          iterate 3
            refine growS_take (wantedS G3.out rfl rfl) ?_
            apply Exists.intro
            refine ⟨fun w' hE => ?_, ?_⟩
            · obtain ⟨k1, k2, k3, k4⟩ := (HQ.out.bel hE).cells
              go_simp
              try with_reducible rfl
            simp only [Act.put, List.setIfInBounds_toArray, List.set_cons_zero, List.set_cons_succ]
          iterate 2
            refine growS_take (by rfl) ?_
            apply Exists.intro
            refine ⟨fun w' hE => ?_, ?_⟩
            · obtain ⟨k1, k2, k3, k4⟩ := (HQ.out.bel hE).cells
              go_simp
              try with_reducible rfl
            simp only [Act.put, List.setIfInBounds_toArray, List.set_cons_zero, List.set_cons_succ]
          iterate 6
            refine growS_take (wantedS G8.out rfl rfl) ?_
            apply Exists.intro
            refine ⟨fun w' hE => ?_, ?_⟩
            · obtain ⟨k1, k2, k3, k4⟩ := (HQ.out.bel hE).cells
              go_simp
              try with_reducible rfl
            simp only [Act.put, List.setIfInBounds_toArray, List.set_cons_zero, List.set_cons_succ]
          refine growS_call (wantedS G8.out rfl rfl) (fun K hK => ?_)
          go_simp
          refine (values_any _ _ n _ (HO.out.bel (Below.refl _ _).drew) HSm.out (by have := HL2.out; omega) (by omega)).mono ?_
          intro e w5 hr; obtain ⟨vs, rfl, hs5, hb⟩ := hr.sl
          replace hb : Below w4.heap.size w4 w5 := (Below.refl _ _).drew.trans hb
          refine hK.out _ _ hb ?_
          have HS5 := Lib.hid hs5; have HE5 := Lib.hid hb
          clear hK K hr hs5 hb
          refine growS_call (wantedS G8.out rfl rfl) (fun K hK => ?_)
          go_simp
          refine (rvalues_any _ _ n _ (HFl.out _ (HB.out.trans (HE5.out.mono HB.out.size))) HSm.out (by have := HL2.out; omega) (by omega)).mono ?_
          intro e w6 hr; obtain ⟨vt, rfl, hs6, hb⟩ := hr.sl
          have HS56 := Lib.hid (HS5.out.bel hb)
          replace hb := HE5.out.trans (hb.mono HE5.out.size)
          refine hK.out _ _ hb ?_
          have HS6 := Lib.hid hs6; have HE6 := Lib.hid hb
          clear hK K hr hs6 hb
          refine growS_call (wantedS G8.out rfl rfl) (fun K hK => ?_)
          go_simp
          refine (sameT_any _ _ _ _ _ HS56.out HS6.out (by have := vals_len l n; have := HL2.out; omega)).mono ?_
          rw [beq_self_eq_true]
          rintro e w7 ⟨rfl, hb⟩
          replace hb := HE6.out.trans (hb.mono HE6.out.size)
          refine hK.out _ _ hb ?_
          have HE7 := Lib.hid hb
          clear hK K hb
          iterate 1
            refine growS_take (wantedS G8.out rfl rfl) ?_
            apply Exists.intro
            refine ⟨fun w' hE => ?_, ?_⟩
            · skip
              go_simp
              try with_reducible rfl
            simp only [Act.put, List.setIfInBounds_toArray, List.set_cons_zero, List.set_cons_succ]
          iterate 1
            refine growS_take (by rfl) ?_
            apply Exists.intro
            refine ⟨fun w' hE => ?_, ?_⟩
            · skip
              go_simp
              try with_reducible rfl
            simp only [Act.put, List.setIfInBounds_toArray, List.set_cons_zero, List.set_cons_succ]
          refine growS_done (NoPanic.normal ?_)
          have HB7 := Lib.hid (HB.out.trans (HE7.out.mono HB.out.size)); have HO7 := Lib.hid (HO.out.bel HE7.out); have HQ7 := Lib.hid (HQ.out.bel HE7.out)
          clear HE5 HE6 HE7 HS5 HS56 HS6 G3 G8 HO HQ HB
          have HO := HO7; have HQ := HQ7; have HB := HB7; clear HO7 HQ7 HB7
          go_wp2_with fail
          refine wp_region_growS (.one 0 false (.one 1 false (.one 2 false (.one 3 false (.one 4 false (.one 6 false (.one 7 false (.one 8 false (.one 9 false (.one 10 false (.one 5 true (.one 11 true (.one 12 true (.one 13 false (.one 14 false (.one 15 false (.one 16 false (.one 18 false (.one 19 false (.one 17 true (.one 20 true (.one 21 true (.one 22 false (.one 23 false .done))))))))))))))))))))))))
            (fun x => Below w7.heap.size w7 x) (by kernel_rfl) (by kernel_rfl) rfl (by kernel_rfl) (by kernel_rfl) (Below.refl _ _).drew (fun ops hops => ?_)
          simp only [GT.ins, List.getD_cons_zero, List.getD_cons_succ]
          have g14 : (ops[14]?).bind (·.dst) = some 97 := by rw [hops.out]; rfl
          have G14 := Lib.hid g14
          clear hops g14
          iterate 10
            refine growS_take (by rfl) ?_
            apply Exists.intro
            refine ⟨fun w' hE => ?_, ?_⟩
            · obtain ⟨k1, k2, k3, k4⟩ := (HQ.out.bel hE).cells
              go_simp
              try with_reducible rfl
            simp only [Act.put, List.setIfInBounds_toArray, List.set_cons_zero, List.set_cons_succ]
          refine growS_call (by rfl) (fun K hK => ?_)
          go_simp
          refine (set_any _ _ n y _ (HO.out.bel (Below.refl _ _).drew) HSm.out (by have := HL2.out; omega) (by omega) (by omega)).mono ?_
          intro e w8 hr; obtain ⟨vs, rfl, hs8, hb⟩ := hr.fl
          replace hb : Below w7.heap.size w7 w8 := (Below.refl _ _).drew.trans hb
          refine hK.out _ _ hb ?_
          have HS8 := Lib.hid hs8; have HE8 := Lib.hid hb
          clear hK K hr hs8 hb
          refine growS_call (by rfl) (fun K hK => ?_)
          go_simp
          refine (rset_any _ _ n y _ (HFl.out _ (HB.out.trans (HE8.out.mono HB.out.size))) HSm.out (by have := HL2.out; omega) (by omega)).mono ?_
          intro e w9 hr; obtain ⟨vt, rfl, hs9, hb⟩ := hr.fl
          have HS89 := Lib.hid (HS8.out.bel hb)
          replace hb := HE8.out.trans (hb.mono HE8.out.size)
          refine hK.out _ _ hb ?_
          have HS9 := Lib.hid hs9; have HE9 := Lib.hid hb
          clear hK K hr hs9 hb
          refine growS_call (by rfl) (fun K hK => ?_)
          go_simp
          refine (sameF_any _ _ _ _ _ HS89.out HS9.out (by have := setL_len l n y; have := HL2.out; omega)).mono ?_
          rw [beq_self_eq_true]
          rintro e w10 ⟨rfl, hb⟩
          replace hb := HE9.out.trans (hb.mono HE9.out.size)
          refine hK.out _ _ hb ?_
          have HE10 := Lib.hid hb
          clear hK K hb
          iterate 2
            refine growS_take (by rfl) ?_
            apply Exists.intro
            refine ⟨fun w' hE => ?_, ?_⟩
            · skip
              go_simp
              try with_reducible rfl
            simp only [Act.put, List.setIfInBounds_toArray, List.set_cons_zero, List.set_cons_succ]
          iterate 4
            refine growS_take (wantedS G14.out rfl rfl) ?_
            apply Exists.intro
            refine ⟨fun w' hE => ?_, ?_⟩
            · skip
              go_simp
              try with_reducible rfl
            simp only [Act.put, List.setIfInBounds_toArray, List.set_cons_zero, List.set_cons_succ]
          refine growS_call (wantedS G14.out rfl rfl) (fun K hK => ?_)
          go_simp
          refine (del_any _ _ _ L _ (HO.out.bel HE10.out) (HSl.out _ (HB.out.trans (HE10.out.mono HB.out.size))) HSm.out (by have := HL2.out; omega) HLx.out (by have := HL2.out; omega)).mono ?_
          intro e w11 hr; obtain ⟨vd, rfl, hs11, hb⟩ := hr.fl
          replace hb := HE10.out.trans (hb.mono HE10.out.size)
          refine hK.out _ _ hb ?_
          have HS11 := Lib.hid hs11; have HE11 := Lib.hid hb
          clear hK K hr hs11 hb
          refine growS_call (wantedS G14.out rfl rfl) (fun K hK => ?_)
          go_simp
          refine (rdel_any _ _ _ L _ (HFl.out _ (HB.out.trans (HE11.out.mono HB.out.size))) (HSl.out _ (HB.out.trans (HE11.out.mono HB.out.size))) HSm.out (by have := HL2.out; omega) HLx.out (by have := HL2.out; omega)).mono ?_
          intro e w12 hr; obtain ⟨ve, rfl, hs12, hb⟩ := hr.fl
          have HS1112 := Lib.hid (HS11.out.bel hb)
          replace hb := HE11.out.trans (hb.mono HE11.out.size)
          refine hK.out _ _ hb ?_
          have HS12 := Lib.hid hs12; have HE12 := Lib.hid hb
          clear hK K hr hs12 hb
          refine growS_call (wantedS G14.out rfl rfl) (fun K hK => ?_)
          go_simp
          refine (sameF_any _ _ _ _ _ HS1112.out HS12.out (by have := del_le l L; have := HL2.out; omega)).mono ?_
          rw [beq_self_eq_true]
          rintro e w13 ⟨rfl, hb⟩
          replace hb := HE12.out.trans (hb.mono HE12.out.size)
          refine hK.out _ _ hb ?_
          have HE13 := Lib.hid hb
          clear hK K hb
          iterate 1
            refine growS_take (wantedS G14.out rfl rfl) ?_
            apply Exists.intro
            refine ⟨fun w' hE => ?_, ?_⟩
            · skip
              go_simp
              try with_reducible rfl
            simp only [Act.put, List.setIfInBounds_toArray, List.set_cons_zero, List.set_cons_succ]
          iterate 1
            refine growS_take (by rfl) ?_
            apply Exists.intro
            refine ⟨fun w' hE => ?_, ?_⟩
            · skip
              go_simp
              try with_reducible rfl
            simp only [Act.put, List.setIfInBounds_toArray, List.set_cons_zero, List.set_cons_succ]
          refine growS_done (NoPanic.normal ?_)
          have HB13 := Lib.hid (HB.out.trans (HE13.out.mono HB.out.size)); have HO13 := Lib.hid (HO.out.bel HE13.out)
          clear HE8 HE9 HE10 HE11 HE12 HE13 HS8 HS89 HS9 HS11 HS1112 HS12 G14 HO HQ HB
          go_wp2_with fail
          refine (sameF_any _ _ _ _ _ HO13.out (HFl.out _ HB13.out) (by have := HL2.out; omega)).mono ?_
          rw [beq_self_eq_true]
          rintro e w14 ⟨rfl, hb⟩
          have HB14 := Lib.hid (HB13.out.trans (hb.mono HB13.out.size)); clear hb
          go_wp2_with fail
          refine (HW.out _ HB14.out).mono ?_; rintro e w15 ⟨rfl, hb15⟩
          go_wp2_with fail
          go_ret
          exact ⟨rfl, hb15⟩
end Go.Proofs.Ytilaalfehnngcaa
