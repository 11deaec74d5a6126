/- The document's budget: what is asked for; two lists of texts held against each other. -/
import Derived.Test.YtfjdfdobeiblhaaBudV
namespace Go.Proofs.Ytfjdfdobeiblhaa
open Go.RowKit
set_option maxHeartbeats 1000000 in
theorem rsame_any (B1 B2 : Nat) (v1 v2 : Value) (L1 L2 : List (List UInt8)) (w : World) (h1 : ownS w B1 v1 L1) (h2 : ownS w B2 v2 L2) (hl : L1.length ≤ 4294967296) :
    Calls Try.prog 13 #[v1, v2] w fun e w' => e = .returned (.bool (L1 == L2)) ∧ Below w.heap.size w w' := by
  obtain ⟨a1, c1, rfl⟩ := h1.form
  obtain ⟨a2, c2, rfl⟩ := h2.form
  have H1 := Lib.hid h1; have H2 := Lib.hid h2
  clear h1 h2
  by_cases hlen : L1.length = L2.length
  · have hne : ((L1.length : Int) != (L2.length : Int)) = false := by rw [bne_eq_false_iff_eq]; omega
    have HLen := Lib.hid hlen; clear hlen
    go_enter Try.func13, Try.ntmps13
    go_wp2_with fail
    go_loopw [5] (fun i wr => ∃ k : Nat, k ≤ L1.length ∧ i = .int .i64 k ∧ L1.take k = L2.take k ∧ wr.heap = w.heap ∧ Below w.heap.size w wr) (fun i _ => L1.length - (intOf i).toNat)
    case atStart => exact ⟨0, Nat.zero_le _, rfl, rfl, rfl, Below.refl _ _⟩
    case round =>
      obtain ⟨k, hk, rfl, ht, hh, hb⟩ := hrel
      have HT := Lib.hid ht; clear ht
      have HH := Lib.hid hh; clear hh
      have HB := Lib.hid hb; clear hb
      by_cases hlt : k < L1.length
      · have hlt2 : k < L2.length := by have := HLen.out; omega
        have hi1 : (k : Int) < (L1.length : Int) := by omega
        have hi2 : (k : Int) < (L2.length : Int) := by omega
        obtain ⟨g1, rfl, hc1⟩ := (H1.out.heap HH.out).cell k hlt
        obtain ⟨g2, rfl, hc2⟩ := (H2.out.heap HH.out).cell k hlt2
        by_cases he : L1.getD k [] = L2.getD k []
        · have HS := Lib.hid (take_eq_snoc hlt hlt2 HT.out he)
          rw [he] at hc1
          clear he
          generalize bs (L2.getD k []) = x at *
          go_wp2_with fail
          go_quiet (fail)
          go_wp2_with fail
          go_roundw
          case rel => exact ⟨k + 1, by omega, by go_num, HS.out, HH.out, below_dnX HB.out _⟩
          case measure => simp [intOf]; omega
        · have hx : ((bs (L1.getD k [])).toList == (bs (L2.getD k [])).toList) = false := by rw [beq_eq_false_iff_ne, Lib.toList_data, Lib.toList_data, bs_data, bs_data]; exact he
          have HN : Hid (¬ L1 = L2) := fun e => he (by rw [e])
          clear he
          generalize bs (L1.getD k []) = x at *
          generalize bs (L2.getD k []) = y at *
          go_wp2_with fail
          go_quiet (fail)
          go_wp2_with fail
          go_ret
          exact ⟨ret_bool (beq_eq_false_iff_ne.2 HN.out).symm, below_dnX HB.out _⟩
      · have HE : Hid (L1 = L2) := by
          have h := HT.out
          have h3 := HLen.out
          rwa [List.take_of_length_le (by omega), List.take_of_length_le (by omega)] at h
        go_wp2_with fail
        go_ret
        exact ⟨ret_bool (beq_iff_eq.2 HE.out).symm, HB.out⟩
  · have hne : ((L1.length : Int) != (L2.length : Int)) = true := bne_iff_ne.2 (by omega)
    have HN : Hid (¬ L1 = L2) := fun e => hlen (by rw [e])
    clear hlen
    go_enter Try.func13, Try.ntmps13
    go_wp2_with fail
    go_ret
    exact ⟨ret_bool (beq_eq_false_iff_ne.2 HN.out).symm, Below.refl _ _⟩

section
variable {w : World} {rb n m : Nat} {X : Nat → Prop} {l : List (It Int)}
set_option maxRecDepth 100000 in
set_option maxHeartbeats 4000000 in
theorem rget_any (h : RB w rb X n m l) (hl : l.length ≤ 100000) (nd : (keysK l).Nodup) (k : List UInt8) :
    Calls Try.prog 30 #[.pointer (some ⟨rb, 0, none⟩), .string (bs k)] w fun e w' => e = .returned (.tuple #[.int .i64 (valK 0 (findK k l)), .bool (findK k l).isSome]) ∧ ∃ X', RB w' rb X' n m (getK k l) ∧ Did X X' w w' := by
  have HH := Lib.hid h
  obtain ⟨v, hr, hv, hvb, hXv⟩ := h
  have HAT := Lib.hid (rat_any k hr hv (by omega))
  by_cases hk : k ∈ keysK l
  · obtain ⟨xs, y, zs, e, hy, hx⟩ := splitK hk
    have hf : findK k l = some y := by rw [e, findK_mid hy hx]
    have ha : atK k l = (xs.length : Int) := by rw [e, atK_found hy hx]
    have hg : getK k l = dropK k l ++ [y] := (getK_found hf).1
    have hlt : xs.length < l.length := by rw [e]; simp
    obtain ⟨A, c, rfl⟩ := hv.form
    have c2 := hr.cell 2 (.slice A l.length c) rfl
    obtain ⟨g, off, rfl, -, d0, d1, d2⟩ := hv.get xs.length hlt
    have hyy : l[xs.length] = y := by simp [e]
    rw [hyy] at d0 d1 d2
    rw [hf, hg]
    rw [ha] at HAT
    have hal : Below w.heap.size w (w.alloc (.cells #[.string (bs y.1), .int .i64 (y.2.1 : Int), .int .i64 y.2.2] 62)) := (Below.refl _ _).alloc (Nat.le_refl _) _
    have hbk := bk.new w #[.string (bs y.1), .int .i64 (y.2.1 : Int), .int .i64 y.2.2] 62
    have HB := Lib.hid (HH.out.bel hal)
    have HDR := Lib.hid (rdrop_any HB.out hl nd k)
    have HBK := Lib.hid hbk
    have HD0 := Lib.hid (Did.of_below (X := X) hal)
    have HXO : Hid (¬ X w.heap.size) := fun e => by have := HH.out.lt _ e; omega
    have HLT : Hid (w.heap.size < (w.alloc (.cells #[.string (bs y.1), .int .i64 (y.2.1 : Int), .int .i64 y.2.2] 62)).heap.size) := hbk.lt
    have HDL : Hid ((dropK k l).length ≤ 100000) := Nat.le_trans (dropK_sub k l).length_le hl
    have hji : (xs.length : Int) < (l.length : Int) := by omega
    have hj0 : ¬ (xs.length : Int) < 0 := by omega
    clear hr hv hk e hy hx hf ha hyy hg hal hbk nd hl HH hXv hvb
    show Calls _ _ _ _ fun e w' => e = .returned (.tuple #[.int .i64 y.2.2, .bool true]) ∧ _
    generalize xs.length = i at *
    generalize dropK k l = d at *
    generalize hasK k l = had at *
    go_enter Try.func30, Try.ntmps30
    go_wp2_with fail
    refine HAT.out.mono ?_
    rintro e wx ⟨rfl, rfl⟩
    go_wp2_with fail
    refine HDR.out.mono ?_
    rintro e w2 ⟨rfl, X2, hB2, hd2⟩
    have HD2 := Lib.hid (HD0.out.trans hd2)
    have HOB := Lib.hid (HBK.out.keep (hd2.keep _ HLT.out HXO.out))
    have HNX : Hid (¬ X2 w.heap.size) := fun e => by
      rcases hd2.new _ e with q | q
      · exact HXO.out q
      · have := HLT.out; omega
    obtain ⟨v2, hr2, ho2, hn2, hX2⟩ := hB2
    subst hX2
    have HOV : Hid (v2.ownBlock ≠ some w.heap.size) := fun e => HNX.out (.inr e)
    have HOR : Hid (w.heap.size ≠ rb) := fun e => HNX.out (.inl e)
    have HR2 := Lib.hid hr2; have HO2 := Lib.hid ho2; have HNE2 := Lib.hid hn2
    obtain ⟨A2, n2, k2, rfl⟩ : ∃ A2 n2 k2, v2 = .slice A2 n2 k2 := by obtain ⟨A, c, e⟩ := ho2.form; exact ⟨A, _, c, e⟩
    have HZ0 : Hid (w2.drew.heap[w.heap.size]? = w2.heap[w.heap.size]?) := rfl
    clear hd2 hr2 ho2 hn2 HD0 HBK HXO HLT HNX HDR HB c2 d0 d1 d2
    generalize w.heap.size = ob at *
    go_wp2_with fail
    refine wp_region_growS (.one 0 false (.one 1 false (.one 2 false (.one 3 false (.one 5 false (.two 4 6 (.one 6 true (.one 7 true (.one 8 false (.one 9 false (.one 10 true .done))))) (.one 4 true (.one 7 true (.one 8 false (.one 9 false (.one 10 true .done)))))))))))
      (fun W => W.heap[ob]? = w2.heap[ob]?) (by kernel_rfl) (by kernel_rfl) rfl (by kernel_rfl) (by kernel_rfl) HZ0.out (fun ops hops => ?_)
    simp only [GT.ins, List.getD_cons_zero, List.getD_cons_succ]
    clear hops
    iterate 5
      refine growS_take (by rfl) ?_
      apply Exists.intro
      refine ⟨fun w' hE => ?_, ?_⟩
      · have q0 := (World.cell?_of_block (a := ⟨ob, 0, none⟩) hE).trans (HOB.out.cell 0 _ rfl); have q1 := (World.cell?_of_block (a := ⟨ob, 1, none⟩) hE).trans (HOB.out.cell 1 _ rfl); have q2 := (World.cell?_of_block (a := ⟨ob, 2, none⟩) hE).trans (HOB.out.cell 2 _ rfl)
        go_simp
        try with_reducible rfl
      simp only [Act.put, List.setIfInBounds_toArray, List.set_cons_zero, List.set_cons_succ]
    refine growS_two (by rfl) (by rfl) (fun K hK => ?_) (fun K hK => ?_)
    · have c2 : w2.drew.cell? ⟨rb, 2, none⟩ = some (.slice A2 n2 k2) := HR2.out.cell 2 _ rfl
      go_simp
      refine hK.out _ _ rfl ?_
      clear hK K c2
      refine growS_call (by rfl) (fun K hK => ?_)
      go_simp
      have hal : Below w2.heap.size w2 (w2.drew.alloc (.cells #[.string (bs y.1), .int .i64 (y.2.1 : Int), .int .i64 y.2.2] 62)) := Below.alloc (show Below w2.heap.size w2 w2.drew from (Below.refl _ _).drew) (Nat.le_refl _) _
      have HAL := Lib.hid hal
      have HSRC : Hid (Src Try.prog 3 27 (.slice (some ⟨w2.heap.size, 0, none⟩) 1 1) [y].length (onCs [y]) (w2.drew.alloc (.cells #[.string (bs y.1), .int .i64 (y.2.1 : Int), .int .i64 y.2.2] 62))) := src_one w2.drew y
      have HO3 := Lib.hid (HO2.out.keep (w' := w2.drew.alloc (.cells #[.string (bs y.1), .int .i64 (y.2.1 : Int), .int .i64 y.2.2] 62)) (fun g hg => hal.block g (HO2.out.lt g hg)))
      refine hK.out _ _ (hal.block ob HOB.out.lt) ?_
      clear hK K hal
      refine growS_call (by rfl) (fun K hK => ?_)
      refine wp_appO (.tmp 27) (.tmp 29) rfl _ _ d [y] rfl HO3.out rfl HSRC.out (by have := HDL.out; simp; omega) ?_
      intro v4 w4 HO4 HG4 HV4
      have HEND := Lib.hid (put_end HR2.out HNE2.out HAL.out HG4.out HV4.out HO4.out)
      obtain ⟨A4, n4, k4, rfl⟩ : ∃ A4 n4 k4, v4 = .slice A4 n4 k4 := by obtain ⟨A, c, e⟩ := HO4.out.form; exact ⟨A, _, c, e⟩
      have hob4 : w4.heap[ob]? = w2.heap[ob]? := (HG4.out.block ob (Nat.lt_of_lt_of_le HOB.out.lt HAL.out.size) (fun e => HOV.out e.symm)).trans (HAL.out.block ob HOB.out.lt)
      refine hK.out _ _ hob4 ?_
      have HOB4 := Lib.hid (HOB.out.keep hob4); have HOE := Lib.hid hob4
      clear hK K hob4
      iterate 2
        refine growS_take (by rfl) ?_
        apply Exists.intro
        refine ⟨fun w' hE => ?_, ?_⟩
        · skip
          go_simp
          try with_reducible rfl
        simp only [Act.put, List.setIfInBounds_toArray, List.set_cons_zero, List.set_cons_succ]
      refine growS_call (by rfl) (fun K hK => ?_)
      have c4 := HEND.out.1.cell 2 (.slice A2 n2 k2) rfl
      have f4 := HEND.out.1.free 2
      go_simp
      have hob5 : (w4.setCell ⟨rb, 2, none⟩ (.slice A4 n4 k4)).heap[ob]? = w4.heap[ob]? := Below.heap_setCell _ _ _ _ HOR.out
      refine hK.out _ _ (hob5.trans HOE.out) ?_
      have HOB5 := Lib.hid (HOB4.out.keep hob5)
      clear hK K c4 f4 hob5
      refine growS_done (NoPanic.normal ?_)
      have o2 := HOB5.out.cell 2 (.int .i64 y.2.2) rfl
      go_wp2_with fail
      go_ret2
      exact ⟨rfl, _, HEND.out.2.1, HD2.out.trans HEND.out.2.2⟩
    · go_simp
      have hal : Below w2.heap.size w2 (w2.drew.alloc (.cells #[.string (bs y.1), .int .i64 (y.2.1 : Int), .int .i64 y.2.2] 62)) := Below.alloc (show Below w2.heap.size w2 w2.drew from (Below.refl _ _).drew) (Nat.le_refl _) _
      have HAL := Lib.hid hal
      have HSRC : Hid (Src Try.prog 3 27 (.slice (some ⟨w2.heap.size, 0, none⟩) 1 1) [y].length (onCs [y]) (w2.drew.alloc (.cells #[.string (bs y.1), .int .i64 (y.2.1 : Int), .int .i64 y.2.2] 62))) := src_one w2.drew y
      have HO3 := Lib.hid (HO2.out.keep (w' := w2.drew.alloc (.cells #[.string (bs y.1), .int .i64 (y.2.1 : Int), .int .i64 y.2.2] 62)) (fun g hg => hal.block g (HO2.out.lt g hg)))
      refine hK.out _ _ (hal.block ob HOB.out.lt) ?_
      clear hK K hal
      refine growS_call (by rfl) (fun K hK => ?_)
      have c2 := (HR2.out.alloc (.cells #[.string (bs y.1), .int .i64 (y.2.1 : Int), .int .i64 y.2.2] 62)).cell 2 (.slice A2 n2 k2) rfl
      go_simp
      refine hK.out _ _ (HAL.out.block ob HOB.out.lt) ?_
      clear hK K c2
      refine growS_call (by rfl) (fun K hK => ?_)
      refine wp_appO (.tmp 27) (.tmp 29) rfl _ _ d [y] rfl HO3.out rfl HSRC.out (by have := HDL.out; simp; omega) ?_
      intro v4 w4 HO4 HG4 HV4
      have HEND := Lib.hid (put_end HR2.out HNE2.out HAL.out HG4.out HV4.out HO4.out)
      obtain ⟨A4, n4, k4, rfl⟩ : ∃ A4 n4 k4, v4 = .slice A4 n4 k4 := by obtain ⟨A, c, e⟩ := HO4.out.form; exact ⟨A, _, c, e⟩
      have hob4 : w4.heap[ob]? = w2.heap[ob]? := (HG4.out.block ob (Nat.lt_of_lt_of_le HOB.out.lt HAL.out.size) (fun e => HOV.out e.symm)).trans (HAL.out.block ob HOB.out.lt)
      refine hK.out _ _ hob4 ?_
      have HOB4 := Lib.hid (HOB.out.keep hob4); have HOE := Lib.hid hob4
      clear hK K hob4
      iterate 2
        refine growS_take (by rfl) ?_
        apply Exists.intro
        refine ⟨fun w' hE => ?_, ?_⟩
        · skip
          go_simp
          try with_reducible rfl
        simp only [Act.put, List.setIfInBounds_toArray, List.set_cons_zero, List.set_cons_succ]
      refine growS_call (by rfl) (fun K hK => ?_)
      have c4 := HEND.out.1.cell 2 (.slice A2 n2 k2) rfl
      have f4 := HEND.out.1.free 2
      go_simp
      have hob5 : (w4.setCell ⟨rb, 2, none⟩ (.slice A4 n4 k4)).heap[ob]? = w4.heap[ob]? := Below.heap_setCell _ _ _ _ HOR.out
      refine hK.out _ _ (hob5.trans HOE.out) ?_
      have HOB5 := Lib.hid (HOB4.out.keep hob5)
      clear hK K c4 f4 hob5
      refine growS_done (NoPanic.normal ?_)
      have o2 := HOB5.out.cell 2 (.int .i64 y.2.2) rfl
      go_wp2_with fail
      go_ret2
      exact ⟨rfl, _, HEND.out.2.1, HD2.out.trans HEND.out.2.2⟩
  · have hg : getK k l = l := by unfold getK; rw [findK_none hk]
    rw [findK_none hk, hg]
    rw [atK_none hk] at HAT
    clear hr hv hk hg hvb hXv
    show Calls _ _ _ _ fun e w' => e = .returned (.tuple #[.int .i64 0, .bool false]) ∧ _
    go_enter Try.func30, Try.ntmps30
    go_wp2_with fail
    refine HAT.out.mono ?_
    rintro e wx ⟨rfl, rfl⟩
    go_wp2_with fail
    go_ret2
    exact ⟨rfl, _, HH.out, Did.refl _ _⟩
end
end Go.Proofs.Ytfjdfdobeiblhaa
