/- A value is put (values: inlay/store.item). -/
import Derived.Test.YtopgeclecpaecaaGreatDoorKBudTE
namespace Go.Proofs.YtopgeclecpaecaaGreatDoor.BT
open Go.RowKit
set_option maxRecDepth 100000 in
set_option maxHeartbeats 2000000 in
theorem put_any {w : World} {b n m : Nat} {X : Nat → Prop} {l : List (It Iv)} (h : Bd w b X n m l) (k : List UInt8) (hl : k.length ≤ KL) (s : Int) (hs1 : -9223372036854775808 ≤ s) (hs2 : s ≤ 9223372036854775807) (x : Iv) :
    Calls Tryz.prog 31 #[.pointer (some ⟨b, 0, none⟩), .string (bs k), .int .i64 s, .agg #[x.c0, x.c1, x.c2, x.c3, x.c4, x.c5, x.c6, x.c7, x.c8]] w fun e w' => ∃ v, e = .returned v ∧ ownS w' w.heap.size v (putK n m k s.toNat x l).1 ∧ ∃ X', Bd w' b X' n m (putK n m k s.toNat x l).2 ∧ Did X X' w w' := by
  have hal : Below w.heap.size w (w.alloc (.cells #[x.c0, x.c1, x.c2, x.c3, x.c4, x.c5, x.c6, x.c7, x.c8] 61)) := (Below.refl _ _).alloc (Nat.le_refl _) _
  have hlt : ∀ k, X k → k ≠ w.heap.size := fun k hk => Nat.ne_of_lt (h.lt k hk)
  have hn := bk.new w #[x.c0, x.c1, x.c2, x.c3, x.c4, x.c5, x.c6, x.c7, x.c8] 61
  have hzl : (w.alloc (.cells #[x.c0, x.c1, x.c2, x.c3, x.c4, x.c5, x.c6, x.c7, x.c8] 61)).heap.size = w.heap.size + 1 := by simp
  have h1 := h.bel hal
  clear h
  obtain ⟨wg, hwg⟩ : ∃ wg, wg = (w.alloc (.cells #[x.c0, x.c1, x.c2, x.c3, x.c4, x.c5, x.c6, x.c7, x.c8] 61)) := ⟨_, rfl⟩
  rw [← hwg] at hal h1 hn hzl
  have h := h1
  clear h1
  have HAL := Lib.hid hal; have HNW := Lib.hid hlt; have HPB := Lib.hid hn; have HZL := Lib.hid hzl; have HWG := Lib.hid hwg
  clear hal hlt hn hzl hwg
  have hmx : max s 0 = (s.toNat : Int) := by omega
  have HBN := Lib.hid h.bounds
  have HP := Lib.hid (h.ok.put h.bounds.1 k s.toNat x)
  have HDR := Lib.hid (drop_any h k hl)
  have HMD : Hid (Calls Tryz.prog 57 #[.pointer (some ⟨b, 0, none⟩)] wg fun e w' => e = .returned (.bool true) ∧ wg = w') := by
    obtain ⟨sb, mb, ns, -, -, hf⟩ := h
    exact made_any b sb wg hf.top
  have HKD := Lib.hid (dropK_keys k l)
  have HL := Lib.hid hl
  have hwf : (s.toNat : Int) ≤ 9223372036854775807 := by omega
  have HG := Lib.hid (show putK n m k s.toNat x l = if m < s.toNat then ((if hasK k l then [k] else []), dropK k l) else ((roomK n m s.toNat (dropK k l)).1, (roomK n m s.toNat (dropK k l)).2 ++ [(k, s.toNat, x)]) from rfl)
  clear h hl hs1 hs2
  generalize putK n m k s.toNat x l = G at *
  generalize s.toNat = sz at *
  generalize hasK k l = had at *
  generalize dropK k l = d at *
  go_enter Tryz.func31, Tryz.ntmps31
  go_wp2_with fail
  rw [← HWG.out]
  refine HMD.out.mono ?_
  rintro e wx ⟨rfl, rfl⟩
  go_wp2_with fail
  refine HDR.out.mono ?_
  rintro e w1 ⟨rfl, X1, hB1, hD1⟩
  have HPB1 := Lib.hid (HPB.out.keep (hD1.keep w.heap.size (by rw [HZL.out]; omega) (fun q => HNW.out _ q rfl)))
  have HNP : Hid (∀ k, X1 k → k ≠ w.heap.size) := fun k hk => (hD1.new k hk).elim (HNW.out k) (fun q => by have := HZL.out; omega)
  have HD1 := Lib.hid ((Did.of_below HAL.out).trans hD1)
  have HB1 := Lib.hid hB1
  obtain ⟨sb, mb, ns, hns, hX1, hF⟩ := hB1
  have c0 := hF.top.cell 0 (.pointer (some ⟨sb, 0, none⟩)) rfl
  have s1 := hF.ring.st.cell 1 (.int .i64 (m : Int)) rfl
  have HF := Lib.hid hF; have HNS := Lib.hid hns; have HX1 := Lib.hid hX1
  clear hD1 hF hns hX1 HMD HDR
  by_cases hms : m < sz
  · have hgt : (m : Int) < (sz : Int) := by omega
    have HG2 := Lib.hid (HG.out.trans (if_pos hms))
    clear hms HP HG
    cases had
    · go_wp2_with fail
      go_ret
      have hg := HG2.out
      subst hg
      exact ⟨_, rfl, ownS_nil _ _, X1, HB1.out, HD1.out⟩
    · have HCL := Lib.hid (clone_any k HL.out w1)
      go_wp2_with fail
      refine HCL.out.mono ?_
      rintro e w2 ⟨rfl, hb2⟩
      have HB2 := Lib.hid hb2
      clear hb2 c0 s1
      go_wp2_with (at_builtin; refine wpList_appS (w0 := w2) rfl (.tmp 28) (.tmp 31) rfl w2.heap.size w2.heap.size _ [] k rfl (ownS_nil _ _) (Below.refl _ _) (Nat.le_refl _) (Nat.le_refl _) rfl (by simp) ?_; intro v' w3 HO3 HB3 HK3)
      go_ret
      have hb3 : Below w1.heap.size w1 w3 := HB2.out.trans (HB3.out.mono HB2.out.size)
      have hg := HG2.out
      subst hg
      exact ⟨_, rfl, HO3.out.mono (Nat.le_trans HD1.out.size HB2.out.size), X1, HB1.out.bel hb3, HD1.out.trans (Did.of_below hb3)⟩
  · have hgt : ¬ (m : Int) < (sz : Int) := by omega
    have HG2 := Lib.hid (HG.out.trans (if_neg hms))
    rw [HG2.out] at HP
    have hsm : sz ≤ m := by omega
    have HRM := Lib.hid (room_any sb mb n m sz ns w1 HF.out.ring HF.out.map HF.out.kl HF.out.ok HBN.out.1 HBN.out.2.1 hsm HBN.out.2.2.2)
    have HSM := Lib.hid hsm
    clear hms hsm HG
    go_wp2_with fail
    refine HRM.out.mono ?_
    rintro e w2 ⟨v, xs, rest, rfl, hns, hroom, hv, hr2, hm2, hd2⟩
    rw [HNS.out] at hroom
    rw [hroom] at HP HG2
    have HV := Lib.hid hv; have HR2 := Lib.hid hr2; have HM2 := Lib.hid hm2; have HD2 := Lib.hid hd2; have HRS := Lib.hid hns
    have hb0 : w2.heap[b]? = w1.heap[b]? := hd2.keep b HF.out.top.lt (fun e => HF.out.nb b e rfl)
    have HC0 : Hid (w2.cell? ⟨b, 0, none⟩ = some (.pointer (some ⟨sb, 0, none⟩))) := (HF.out.top.keep hb0).cell 0 _ rfl
    have HLT : Hid (b < w2.heap.size) := (HF.out.top.keep hb0).lt
    have HPX := Lib.hid (HPB1.out.keep (hd2.keep w.heap.size HPB1.out.lt (fun e => HNP.out w.heap.size (by rw [HX1.out]; exact .inr e) rfl)))
    have HLP : Hid (w.heap.size < w2.heap.size) := HPX.out.lt
    have HZ0 : Hid (w2.drew.heap[b]? = w2.heap[b]? ∧ w2.drew.heap[w.heap.size]? = w2.heap[w.heap.size]?) := ⟨rfl, rfl⟩
    have HCL := Lib.hid (clone_any k HL.out w2.drew)
    have HKX : Hid (∀ z ∈ rest, z.2.1 ≠ k) := by
      intro z hz e
      apply HKD.out
      rw [← HNS.out, its_keys, HRS.out]
      exact List.mem_map.2 ⟨z, List.mem_append_right _ hz, e⟩
    have HRL : Hid (rest.length < maxLen) := by
      have h1 := HF.out.ok.len
      have h2 := HBN.out.2.1
      rw [HRS.out, its_len] at h1
      simp at h1
      unfold maxLen
      show _ < _
      omega
    have HTB : Hid (totK (its rest) + sz ≤ 4294967296) := by
      have h1 := HP.out.tot
      have h2 := HBN.out.2.2.2
      rw [totK_append] at h1
      simp only [totK] at h1
      show _ ≤ _
      omega
    obtain ⟨Av, nv, cv, rfl⟩ : ∃ Av nv cv, v = .slice Av nv cv := by obtain ⟨Av, cv, e⟩ := hv.form; exact ⟨Av, _, cv, e⟩
    clear hv hr2 hm2 hd2 hb0 HRM hns hroom c0 s1
    go_wp2_with fail
    refine wp_region_growS (.one 0 false (.one 1 false (.one 2 false (.one 3 false (.one 4 false (.one 6 false (.one 7 false (.one 5 true (.one 8 false (.one 9 true (.one 10 true .done)))))))))))
      (fun W => W.heap[b]? = w2.heap[b]? ∧ W.heap[w.heap.size]? = w2.heap[w.heap.size]?) (by kernel_rfl) (by kernel_rfl) rfl (by kernel_rfl) (by kernel_rfl) HZ0.out (fun ops hops => ?_)
    simp only [GT.ins, List.getD_cons_zero, List.getD_cons_succ]
    clear hops
    iterate 7
      refine growS_take (by rfl) ?_
      apply Exists.intro
      refine ⟨fun w' hE => ?_, ?_⟩
      · have c0 : w'.cell? ⟨b, 0, none⟩ = some (.pointer (some ⟨sb, 0, none⟩)) := (World.cell?_of_block (a := ⟨b, 0, none⟩) hE.1).trans HC0.out
        have x0 : w'.cell? ⟨w.heap.size, 0, none⟩ = some x.c0 := (World.cell?_of_block (a := ⟨w.heap.size, 0, none⟩) hE.2).trans (HPX.out.cell 0 _ rfl)
        have x1 : w'.cell? ⟨w.heap.size, 1, none⟩ = some x.c1 := (World.cell?_of_block (a := ⟨w.heap.size, 1, none⟩) hE.2).trans (HPX.out.cell 1 _ rfl)
        have x2 : w'.cell? ⟨w.heap.size, 2, none⟩ = some x.c2 := (World.cell?_of_block (a := ⟨w.heap.size, 2, none⟩) hE.2).trans (HPX.out.cell 2 _ rfl)
        have x3 : w'.cell? ⟨w.heap.size, 3, none⟩ = some x.c3 := (World.cell?_of_block (a := ⟨w.heap.size, 3, none⟩) hE.2).trans (HPX.out.cell 3 _ rfl)
        have x4 : w'.cell? ⟨w.heap.size, 4, none⟩ = some x.c4 := (World.cell?_of_block (a := ⟨w.heap.size, 4, none⟩) hE.2).trans (HPX.out.cell 4 _ rfl)
        have x5 : w'.cell? ⟨w.heap.size, 5, none⟩ = some x.c5 := (World.cell?_of_block (a := ⟨w.heap.size, 5, none⟩) hE.2).trans (HPX.out.cell 5 _ rfl)
        have x6 : w'.cell? ⟨w.heap.size, 6, none⟩ = some x.c6 := (World.cell?_of_block (a := ⟨w.heap.size, 6, none⟩) hE.2).trans (HPX.out.cell 6 _ rfl)
        have x7 : w'.cell? ⟨w.heap.size, 7, none⟩ = some x.c7 := (World.cell?_of_block (a := ⟨w.heap.size, 7, none⟩) hE.2).trans (HPX.out.cell 7 _ rfl)
        have x8 : w'.cell? ⟨w.heap.size, 8, none⟩ = some x.c8 := (World.cell?_of_block (a := ⟨w.heap.size, 8, none⟩) hE.2).trans (HPX.out.cell 8 _ rfl)
        go_simp
        try with_reducible rfl
      simp only [Act.put, List.setIfInBounds_toArray, List.set_cons_zero, List.set_cons_succ]
    refine growS_call (by rfl) (fun K hK => ?_)
    go_simp
    refine HCL.out.mono ?_
    rintro e z1 ⟨rfl, hb1⟩
    refine hK.out _ _ ⟨hb1.block b HLT.out, hb1.block w.heap.size HLP.out⟩ ?_
    have hal : Below w2.heap.size w2 (z1.alloc (.cells #[.string (bs k), .int .i64 (sz : Int), x.c0, x.c1, x.c2, x.c3, x.c4, x.c5, x.c6, x.c7, x.c8, .pointer none, .pointer none] 103)) := Below.alloc (show Below w2.heap.size w2 z1 from ⟨hb1.os, hb1.tape, hb1.output, hb1.size, hb1.block⟩) hb1.size _
    have hn := bk.new z1 #[.string (bs k), .int .i64 (sz : Int), x.c0, x.c1, x.c2, x.c3, x.c4, x.c5, x.c6, x.c7, x.c8, .pointer none, .pointer none] 103
    have HW3 := Lib.hid hal; have HN3 := Lib.hid hn; have HYB : Hid (w2.heap.size ≤ z1.heap.size) := hb1.size
    have HSB : Hid ((z1.alloc (.cells #[.string (bs k), .int .i64 (sz : Int), x.c0, x.c1, x.c2, x.c3, x.c4, x.c5, x.c6, x.c7, x.c8, .pointer none, .pointer none] 103)).heap[b]? = w2.heap[b]? ∧ (z1.alloc (.cells #[.string (bs k), .int .i64 (sz : Int), x.c0, x.c1, x.c2, x.c3, x.c4, x.c5, x.c6, x.c7, x.c8, .pointer none, .pointer none] 103)).heap[w.heap.size]? = w2.heap[w.heap.size]?) := ⟨hal.block b HLT.out, hal.block w.heap.size HLP.out⟩
    clear hK K hb1 hal hn HZ0
    iterate 1
      refine growS_take (by rfl) ?_
      apply Exists.intro
      refine ⟨fun w' hE => ?_, ?_⟩
      · have c0 : w'.cell? ⟨b, 0, none⟩ = some (.pointer (some ⟨sb, 0, none⟩)) := (World.cell?_of_block (a := ⟨b, 0, none⟩) hE.1).trans HC0.out
        have x0 : w'.cell? ⟨w.heap.size, 0, none⟩ = some x.c0 := (World.cell?_of_block (a := ⟨w.heap.size, 0, none⟩) hE.2).trans (HPX.out.cell 0 _ rfl)
        have x1 : w'.cell? ⟨w.heap.size, 1, none⟩ = some x.c1 := (World.cell?_of_block (a := ⟨w.heap.size, 1, none⟩) hE.2).trans (HPX.out.cell 1 _ rfl)
        have x2 : w'.cell? ⟨w.heap.size, 2, none⟩ = some x.c2 := (World.cell?_of_block (a := ⟨w.heap.size, 2, none⟩) hE.2).trans (HPX.out.cell 2 _ rfl)
        have x3 : w'.cell? ⟨w.heap.size, 3, none⟩ = some x.c3 := (World.cell?_of_block (a := ⟨w.heap.size, 3, none⟩) hE.2).trans (HPX.out.cell 3 _ rfl)
        have x4 : w'.cell? ⟨w.heap.size, 4, none⟩ = some x.c4 := (World.cell?_of_block (a := ⟨w.heap.size, 4, none⟩) hE.2).trans (HPX.out.cell 4 _ rfl)
        have x5 : w'.cell? ⟨w.heap.size, 5, none⟩ = some x.c5 := (World.cell?_of_block (a := ⟨w.heap.size, 5, none⟩) hE.2).trans (HPX.out.cell 5 _ rfl)
        have x6 : w'.cell? ⟨w.heap.size, 6, none⟩ = some x.c6 := (World.cell?_of_block (a := ⟨w.heap.size, 6, none⟩) hE.2).trans (HPX.out.cell 6 _ rfl)
        have x7 : w'.cell? ⟨w.heap.size, 7, none⟩ = some x.c7 := (World.cell?_of_block (a := ⟨w.heap.size, 7, none⟩) hE.2).trans (HPX.out.cell 7 _ rfl)
        have x8 : w'.cell? ⟨w.heap.size, 8, none⟩ = some x.c8 := (World.cell?_of_block (a := ⟨w.heap.size, 8, none⟩) hE.2).trans (HPX.out.cell 8 _ rfl)
        go_simp
        try with_reducible rfl
      simp only [Act.put, List.setIfInBounds_toArray, List.set_cons_zero, List.set_cons_succ]
    refine growS_call (by rfl) (fun K hK => ?_)
    go_simp
    refine hK.out _ _ HSB.out ?_
    clear hK K
    generalize z1.alloc (.cells #[.string (bs k), .int .i64 (sz : Int), x.c0, x.c1, x.c2, x.c3, x.c4, x.c5, x.c6, x.c7, x.c8, .pointer none, .pointer none] 103) = w3 at *
    generalize z1.heap.size = yb at *
    refine growS_call (by rfl) (fun K hK => ?_)
    go_simp
    have hr3 : Rin w3 sb n m (totK (its rest)) mb rest := HR2.out.keep (HW3.out.block sb HR2.out.st.lt) (fun k hk => HW3.out.block k (by obtain ⟨z, hz, rfl⟩ := List.mem_map.1 hk; exact HR2.out.seg.lt z hz))
    have hm3 : Mpk w3 mb rest := HM2.out.keep (HW3.out.block mb HM2.out.lt)
    have hns : yb ≠ sb := by have h1 := HYB.out; have h2 := HR2.out.st.lt; omega
    have hnb : yb ∉ blks rest := fun e => by
      obtain ⟨z, hz, e⟩ := List.mem_map.1 e
      have h1 := HYB.out
      have h2 := HR2.out.seg.lt z hz
      omega
    refine (add_any sb mb n m (totK (its rest)) rest (yb, (k, sz, x)) (.pointer none) (.pointer none) w3 hr3 hm3 HN3.out hns hnb HL.out HKX.out HRL.out HTB.out).mono ?_
    rintro e w4 ⟨rfl, hr4, hm4, hd4⟩
    have hbb : w4.heap[b]? = w2.heap[b]? := by
      have h1 := HLT.out
      have h2 := HW3.out.size
      have h3 := HYB.out
      rw [hd4.keep b (by omega) ?_]
      · exact HSB.out.1
      · rintro (e | e)
        · omega
        · exact HF.out.nb b (by rw [HRS.out]; exact ringX_right e) rfl
    have hpp : w4.heap[w.heap.size]? = w2.heap[w.heap.size]? := by
      have h1 := HLP.out
      have h2 := HW3.out.size
      have h3 := HYB.out
      rw [hd4.keep w.heap.size (by omega) ?_]
      · exact HSB.out.2
      · rintro (e | e)
        · omega
        · exact HNP.out w.heap.size (by rw [HX1.out, HRS.out]; exact .inr (ringX_right e)) rfl
    refine hK.out _ _ ⟨hbb, hpp⟩ ?_
    have hadd := Full.added (y := (yb, (k, sz, x))) HF.out HRS.out HD2.out HW3.out HYB.out (by rw [its_append, totK_append]; exact hr4) hm4 hd4 (by rw [its_append]; exact HP.out) HL.out
    have hown : ownS w4 w1.heap.size (.slice Av nv cv) (keysK (its xs)) := ownS.keepG HV.out (fun g hg => by
      have h1 := World.ownsRow.lt HV.out g hg
      have h2 := HW3.out.size
      have h3 := HYB.out
      rw [hd4.keep g (by omega) ?_, HW3.out.block g h1.2]
      rintro (e | e)
      · omega
      · have h4 := HF.out.lt g (.inr (by rw [HRS.out]; exact ringX_right e))
        omega)
    have HFIN := Lib.hid (And.intro hown hadd)
    clear hpp hK K hr3 hm3 hns hnb hr4 hm4 hd4 hbb hadd hown HR2 HM2 HW3 HN3 HSB
    refine growS_done (NoPanic.normal ?_)
    have HZ := HFIN.out
    clear HFIN
    go_wp2_with fail
    go_ret
    obtain ⟨hO, hA1, hA2⟩ := HZ
    have hg := HG2.out
    subst hg
    exact ⟨_, rfl, hO.mono HD1.out.size, ownX b sb mb (rest ++ [(yb, (k, sz, x))]), ⟨sb, mb, _, by rw [its_append]; rfl, rfl, hA1⟩, HD1.out.trans (by rw [HX1.out]; exact hA2)⟩
end Go.Proofs.YtopgeclecpaecaaGreatDoor.BT
