/- What a piece says: the document's Say. -/
import Derived.Test.YtonioemenjjajaaDirE
import Derived.Test.YtonioemenjjajaaTextE
import Derived.Test.YtonioemenjjajaaGrow2
namespace Go.Proofs.Ytonioemenjjajaa
open Go.RowKit

theorem wp_meetD {P : Program} {c : Code} {Q : Exit → Act → World → Prop} {a : Act} {w : World} {act : Nat → Act} (Good : Nat → World → Prop)
    (h1 : c.wp P (fun e a' w' => ∃ g, e = .normal ∧ a' = act g ∧ Good g w') a w)
    (h2 : ∀ g w', Good g w' → Q .normal (act g) w') : c.wp P Q a w :=
  Code.wp_mono (by rintro e a' w' ⟨g, rfl, rfl, h⟩; exact h2 g w' h) h1
/-- the place of the first byte 61, or the text's end; ahead of it there is none, and what reaches behind it is no token -/
theorem say_spots (S : ByteArray) : ∃ p, p ≤ S.size ∧ (∀ k (h : k < S.size), k < p → ((S[k].toNat : Int) != 61) = true) ∧
    (∀ h : p < S.size, ((S[p].toNat : Int) != 61) = false ∧ Lib.cut S.data.toList [61] = (S.data.toList.take p, S.data.toList.drop (p + 1), true)) ∧
    (¬ p < S.size → Lib.cut S.data.toList [61] = (S.data.toList, [], false)) ∧ (∀ k, p < k → k ≤ S.size → token (S.data.toList.take k) = false) := by
  have hat : ∀ k (h : k < S.size), S[k] = S.data.toList[k]'h := fun k h => by simp [ByteArray.getElem_eq_getElem_data]
  rcases cutE_cases S.data.toList with ⟨hn, hc⟩ | ⟨a, r, he, hn, hc⟩
  · refine ⟨S.size, Nat.le_refl _, fun k h _ => ?_, fun h => absurd h (Nat.lt_irrefl _), fun _ => hc, fun k h1 h2 => by omega⟩
    rw [bne_iff_ne]
    intro h1
    exact hn _ (mem_at S k h) (UInt8.toNat_inj.1 (by simpa using (by omega : S[k].toNat = 61)))
  · have hsz : S.size = a.length + (r.length + 1) := by rw [size_len, he]; simp
    refine ⟨a.length, by omega, fun k h h1 => ?_, fun h => ⟨?_, ?_⟩, fun h => absurd (by omega) h, fun k h1 h2 => ?_⟩
    · rw [bne_iff_ne]
      intro h2
      have h3 : S[k] = 61 := UInt8.toNat_inj.1 (by simpa using (by omega : S[k].toNat = 61))
      rw [hat k h, List.getElem_of_eq he, List.getElem_append_left h1] at h3
      exact hn _ (List.getElem_mem h1) h3
    · have h3 : S[a.length] = 61 := by
        rw [hat _ h, List.getElem_of_eq he, List.getElem_append_right (Nat.le_refl _)]
        simp
      rw [h3]; rfl
    · rw [hc, he]; simp
    · cases ht : token (S.data.toList.take k)
      · rfl
      · refine absurd rfl (tok_ne61 ht 61 ?_)
        rw [he, List.take_append]
        obtain ⟨j, hj⟩ : ∃ j, k - a.length = j + 1 := ⟨k - a.length - 1, by omega⟩
        rw [hj]
        simp
set_option maxRecDepth 100000 in
set_option maxHeartbeats 4000000 in
theorem rsay_any (S : ByteArray) (w : World) (hs : S.size ≤ 4294967200) :
    Calls Try.prog 38 #[.string S] w (RetR w (sayD S.data.toList)) := by
  have hr := res_new w
  have hal : Below w.heap.size w (w.alloc (.cells #[.string ⟨#[]⟩, .string ⟨#[]⟩, .bool false, .string ⟨#[]⟩] 39)) := (Below.refl _ _).alloc (Nat.le_refl _) _
  have HR := Lib.hid hr; have HAL := Lib.hid hal; have HT0 := Lib.hid (fun W => rtoken_any S W (by unfold maxLen; omega))
  clear hr hal
  obtain ⟨p, hp, k1, k2, k3, k4⟩ := say_spots S
  have hsay : ∀ C, Lib.cut S.data.toList [61] = C → sayD S.data.toList = if token C.1 then
    if C.2.2 then
      if token C.2.1 then some (lower C.1, C.2.1, true, [])
      else match unquote C.2.1 with
        | some p => some (lower C.1, p, true, [])
        | none => none
    else some (lower C.1, [], false, [])
  else none := by rintro C rfl; rfl
  cases htk : token S.data.toList
  · have hone : p < S.size ∨ sayD S.data.toList = none := by
      by_cases h : p < S.size
      · exact .inl h
      · right
        rw [hsay _ (k3 h)]
        simp [htk]
    have hmain : ∀ h : p < S.size, sayD S.data.toList = if token (S.data.toList.take p) then (if token (S.data.toList.drop (p + 1)) then some (lower (S.data.toList.take p), S.data.toList.drop (p + 1), true, []) else match unquote (S.data.toList.drop (p + 1)) with
        | some q => some (lower (S.data.toList.take p), q, true, [])
        | none => none) else none := fun h => by rw [hsay _ (k2 h).2]; simp
    generalize hz : sayD S.data.toList = Z at *
    clear hz hsay k3
    have H1 := Lib.hid k1; have H4 := Lib.hid k4; have HO := Lib.hid hone; have HMN := Lib.hid hmain
    have H2 := Lib.hid (fun h => (k2 h).1)
    clear k1 k2 k4 hone hmain
    go_enter Try.func38, Try.ntmps38
    go_wp2_with fail
    refine (HT0.out _).mono ?_
    rw [htk]
    rintro e w1 ⟨rfl, rfl⟩
    clear htk
    go_wp2_with fail
    go_loopw [4] (fun i wr => ∃ k : Nat, k ≤ S.size ∧ i = .int .i64 k ∧ (k ≤ p ∨ Z = none) ∧ dbk wr w.heap.size (dvA dv0) ∧ Below w.heap.size w wr) (fun i _ => S.size - (intOf i).toNat)
    case atStart => exact ⟨0, Nat.zero_le _, rfl, .inl (Nat.zero_le _), HR.out, HAL.out⟩
    case round =>
      obtain ⟨k, hk, rfl, hst, hr, hb⟩ := hrel
      have HST := Lib.hid hst; have HR2 := Lib.hid hr; have HB := Lib.hid hb
      clear hst hr hb HR HAL
      by_cases hlt : k < S.size
      · cases hc : ((S[k].toNat : Int) != 61)
        · have hkp : p ≤ k := by
            rcases Nat.lt_or_ge k p with h | h
            · rw [H1.out k hlt h] at hc; cases hc
            · exact h
          have hsz : (S.extract 0 k).size ≤ maxLen := by unfold maxLen; simp; omega
          have hex : (S.extract 0 k).data.toList = S.data.toList.take k := by rw [Lib.extract_data]; simp
          have hrt := fun W => rtoken_any (S.extract 0 k) W hsz
          rw [hex] at hrt
          cases htn : token (S.data.toList.take k)
          · have hno : Z = none := by
              rcases Nat.lt_or_eq_of_le hkp with h | h
              · rcases HST.out with h2 | h2
                · omega
                · exact h2
              · subst h
                rw [HMN.out hlt, htn]
                simp
            rw [htn] at hrt
            have HRT := Lib.hid hrt; have HNO := Lib.hid hno
            clear hrt hno hex hsz hkp htn
            go_wp2_with fail
            refine (HRT.out _).mono ?_
            rintro e w2 ⟨rfl, rfl⟩
            go_wp2_with fail
            go_roundw
            case rel => exact ⟨k + 1, by omega, by go_num, .inr HNO.out, HR2.out, HB.out⟩
            case measure => simp [intOf]; omega
          · obtain rfl : p = k := by
              rcases Nat.lt_or_eq_of_le hkp with h | h
              · rw [H4.out k h hk] at htn; cases htn
              · exact h
            have hz := HMN.out hlt
            rw [htn] at hz
            simp only [if_true] at hz
            rw [htn] at hrt
            have hex1 : S.extract 0 p = bs (S.data.toList.take p) := bs_of hex
            have hex2 : S.extract (p + 1) S.size = bs (S.data.toList.drop (p + 1)) := bs_of (by rw [Lib.extract_data, List.take_of_length_le (by simp)])
            have hl1 : (S.data.toList.take p).length ≤ 4294967200 := by rw [List.length_take]; omega
            have hl2 : (S.data.toList.drop (p + 1)).length ≤ 4294967200 := by rw [List.length_drop]; have := size_len S; omega
            rw [hex1] at hrt
            generalize S.data.toList.take p = n at *
            generalize S.data.toList.drop (p + 1) = v at *
            have HRT := Lib.hid hrt
            have HLW := Lib.hid (fun W => rlower_any (bs n) W (by rw [bs_size]; omega))
            have HTV := Lib.hid (fun W => rtoken_any (bs v) W (by rw [bs_size]; unfold maxLen; omega))
            have HUV := Lib.hid (fun W => runquote_any (bs v) W (by rw [bs_size]; omega))
            clear hrt hex hsz hkp hl1 hl2 htn HMN H1 H2 H4 HO HST HT0
            have HZ := Lib.hid hz; clear hz
            have hw1 : IntKind.i64.wrap ((p : Int) + 1) = (p : Int) + 1 := by rw [IntKind.wrap_i64]; omega
            have hb1 : (0 : Int) ≤ (p : Int) + 1 := by omega
            have htn : ((p : Int) + 1).toNat = p + 1 := by omega
            have hle1 : p + 1 ≤ S.size := by omega
            have hle3 : (p : Int) + 1 ≤ (S.size : Int) := by omega
            have hle4 : (p : Int) ≤ (S.size : Int) := by omega
            go_wp2_with fail
            refine (HRT.out _).mono ?_
            rintro e w2 ⟨rfl, rfl⟩
            go_wp2_with fail
            apply wp_meetD (fun g W => dbk W g (dvA (lower n, v, true, [])) ∧ Below wr.heap.size wr W ∧ wr.heap.size ≤ g)
            case h1 =>
              refine wp_region_growS (.one 0 false (.one 1 false (.one 2 false (.one 4 false (.one 5 false (.one 6 false (.one 7 false (.two 3 9 (.one 8 false (.one 9 true (.one 10 true .done))) (.one 3 true (.one 8 false (.one 10 true .done)))))))))))
                (fun W => Below wr.heap.size wr W) (by kernel_rfl) (by kernel_rfl) rfl (by kernel_rfl) (by kernel_rfl) ((Below.refl _ _).drew) (fun ops hops => ?_)
              simp only [GT.ins, List.getD_cons_zero, List.getD_cons_succ]
              clear hops
              iterate 7
                refine growS_take (by rfl) ?_
                apply Exists.intro
                refine ⟨fun w' hE => ?_, ?_⟩
                · go_simp
                  try with_reducible rfl
                simp only [Act.put, List.setIfInBounds_toArray, List.set_cons_zero, List.set_cons_succ]
              refine growS_two (by rfl) (by rfl) (fun K hK => ?_) (fun K hK => ?_)
              · go_simp
                refine (HLW.out _).mono ?_
                rw [bs_data]
                rintro e x1 ⟨rfl, hb⟩
                have hz := ((Below.refl _ _).drew : Below wr.heap.size wr wr.drew).trans (hb.mono ((Below.refl _ _).drew : Below wr.heap.size wr wr.drew).size)
                refine hK.out _ _ hz ?_
                have HX1 := Lib.hid hz
                clear hK K hb hz
                iterate 1
                  refine growS_take (by rfl) ?_
                  apply Exists.intro
                  refine ⟨fun w' hE => ?_, ?_⟩
                  · go_simp
                    try with_reducible rfl
                  simp only [Act.put, List.setIfInBounds_toArray, List.set_cons_zero, List.set_cons_succ]
                refine growS_call (by rfl) (fun K hK => ?_)
                go_simp
                have hd1 : Below wr.heap.size wr (x1.alloc (.cells #[.string ⟨#[]⟩, .string ⟨#[]⟩, .bool false, .string ⟨#[]⟩] 39)) := HX1.out.trans (((Below.refl _ _).alloc (Nat.le_refl _) _).mono HX1.out.size)
                have hz1 := res_new x1
                have hgl := HX1.out.size
                refine hK.out _ _ hd1 ?_
                have HX3 := Lib.hid hd1; have HG3 := Lib.hid hz1; have HGL := Lib.hid hgl; clear hK K hd1 hz1 hgl
                generalize (x1.alloc (.cells #[.string ⟨#[]⟩, .string ⟨#[]⟩, .bool false, .string ⟨#[]⟩] 39)) = x3 at *
                generalize x1.heap.size = g10 at HG3 HGL ⊢
                have hqs := HG3.out.zero (lower n, v, true, [])
                obtain ⟨a0, b0, a1, b1, a2, b2, a3, b3⟩ := hqs
                have hq0 := HG3.out.putd (lower n, v, true, [])
                have hE9 := putD_below (b := g10) HX3.out HGL.out (lower n, v, true, [])
                simp only [putD, bs_nil] at a0 a1 a2 a3 b0 b1 b2 b3 hq0 hE9
                have HQ0 := Lib.hid hq0; have HE9 := Lib.hid hE9; clear hq0 hE9
                refine growS_call (by rfl) (fun K hK => ?_)
                go_simp
                refine hK.out _ _ HE9.out ?_
                clear hK K
                refine growS_done (NoPanic.normal ?_)
                exact ⟨g10, rfl, rfl, HQ0.out, HE9.out, HGL.out⟩
              · go_simp
                have hd1 : Below wr.heap.size wr (wr.alloc (.cells #[.string ⟨#[]⟩, .string ⟨#[]⟩, .bool false, .string ⟨#[]⟩] 39)).drew := (((Below.refl _ _).alloc (Nat.le_refl _) _)).drew
                have hz1 : dbk (wr.alloc (.cells #[.string ⟨#[]⟩, .string ⟨#[]⟩, .bool false, .string ⟨#[]⟩] 39)).drew wr.heap.size (dvA dv0) := res_new wr
                refine hK.out _ _ hd1 ?_
                have HX2 := Lib.hid hd1; have HG2 := Lib.hid hz1; clear hK K hd1 hz1
                generalize (wr.alloc (.cells #[.string ⟨#[]⟩, .string ⟨#[]⟩, .bool false, .string ⟨#[]⟩] 39)).drew = x2 at *
                refine growS_call (by rfl) (fun K hK => ?_)
                go_simp
                refine (HLW.out _).mono ?_
                rw [bs_data]
                rintro e x3 ⟨rfl, hb⟩
                have hz := HX2.out.trans (hb.mono HX2.out.size)
                refine hK.out _ _ hz ?_
                have HX3 := Lib.hid hz; have HG3 := Lib.hid (HG2.out.below hb); have HGL : Hid (wr.heap.size ≤ wr.heap.size) := Nat.le_refl _
                clear hK K hb hz HG2 HX2
                iterate 1
                  refine growS_take (by rfl) ?_
                  apply Exists.intro
                  refine ⟨fun w' hE => ?_, ?_⟩
                  · go_simp
                    try with_reducible rfl
                  simp only [Act.put, List.setIfInBounds_toArray, List.set_cons_zero, List.set_cons_succ]
                have hqs := HG3.out.zero (lower n, v, true, [])
                obtain ⟨a0, b0, a1, b1, a2, b2, a3, b3⟩ := hqs
                have hq0 := HG3.out.putd (lower n, v, true, [])
                have hE9 := putD_below (b := wr.heap.size) HX3.out HGL.out (lower n, v, true, [])
                simp only [putD, bs_nil] at a0 a1 a2 a3 b0 b1 b2 b3 hq0 hE9
                have HQ0 := Lib.hid hq0; have HE9 := Lib.hid hE9; clear hq0 hE9
                refine growS_call (by rfl) (fun K hK => ?_)
                go_simp
                refine hK.out _ _ HE9.out ?_
                clear hK K
                refine growS_done (NoPanic.normal ?_)
                exact ⟨wr.heap.size, rfl, rfl, HQ0.out, HE9.out, HGL.out⟩
            case h2 =>
              rintro g wV ⟨hv, hz, hg⟩
              have HV := Lib.hid hv; have HG := Lib.hid hg; have HRV := Lib.hid (HR2.out.below hz); have HBV := Lib.hid (HB.out.trans (hz.mono HB.out.size))
              have HWR := Lib.hid HB.out.size
              have HNE : Hid (w.heap.size ≠ g) := by
                show _ ≠ _
                have := HR2.out.lt
                omega
              clear hv hz hg HR2 HB HLW HRT
              obtain ⟨p0, p1, p2, p3⟩ := HV.out.four
              go_wp2_with fail
              refine (HTV.out _).mono ?_
              rw [bs_data]
              cases htv : token v
              · rw [htv] at HZ
                simp only [Bool.false_eq_true, if_false] at HZ
                rintro e w3 ⟨rfl, rfl⟩
                go_wp2_with fail
                refine (HUV.out _).mono ?_
                rw [bs_data]
                cases hu : unquote v with
                | none =>
                  rw [hu] at HZ
                  simp only at HZ
                  rw [unq_no hu]
                  rintro e w4 ⟨rfl, rfl⟩
                  go_wp2_with fail
                  go_roundw
                  case rel => exact ⟨p + 1, by omega, by go_num, .inr HZ.out, HRV.out, HBV.out⟩
                  case measure => simp [intOf]; omega
                | some q =>
                  rw [hu] at HZ
                  simp only at HZ
                  obtain ⟨hus, hue⟩ := unq_some hu
                  rw [hus, hue]
                  rintro e w4 ⟨rfl, rfl⟩
                  have f1 := HV.out.free 1
                  obtain ⟨z0, z1, z2, z3⟩ := HRV.out.four
                  have n0 := HRV.out.free 0
                  have n1 := HRV.out.free 1
                  have n2 := HRV.out.free 2
                  have n3 := HRV.out.free 3
                  have hr := HRV.out.other (a := ⟨g, 1, none⟩) HNE.out (.string (bs q))
                  obtain ⟨g0, g1, g2, g3⟩ := hr.got (lower n, q, true, [])
                  have hq := putD_below (b := w.heap.size) (HBV.out.setCell (p := ⟨g, 1, none⟩) (by show w.heap.size ≤ g; have h1 := HG.out; have h2 := HWR.out; omega) (.string (bs q))) (Nat.le_refl _) (lower n, q, true, [])
                  simp only [putD, dv0, bs_nil] at hq z0 z1 z2 z3 g0 g1 g2 g3 p0 p1 p2 p3
                  have HQ := Lib.hid hq; have HGG := Lib.hid (And.intro g0 (And.intro g1 (And.intro g2 g3)))
                  have hne := HNE.out
                  have hne2 : ¬ g = w.heap.size := fun e => hne e.symm
                  clear hq hr g0 g1 g2 g3 hu htv hus hue HUV HTV
                  go_wp2_with fail
                  obtain ⟨g0, g1, g2, g3⟩ := HGG.out
                  rw [HZ.out]
                  refine bodyPost_ret (v := .tuple #[.agg #[.string (bs (lower n)), .string (bs q), .bool true, .string ⟨#[]⟩], .bool true]) (by simp [results, Try.results38, go_sem, g0, g1, g2, g3]) rfl ?_
                  exact ⟨rfl, HQ.out⟩
              · rw [htv] at HZ
                simp only [if_true] at HZ
                rintro e w3 ⟨rfl, rfl⟩
                obtain ⟨a0, b0, a1, b1, a2, b2, a3, b3⟩ := HRV.out.zero (lower n, v, true, [])
                obtain ⟨g0, g1, g2, g3⟩ := HRV.out.got (lower n, v, true, [])
                have hq2 := putD_below (b := w.heap.size) HBV.out (Nat.le_refl _) (lower n, v, true, [])
                simp only [putD, bs_nil] at a0 a1 a2 a3 b0 b1 b2 b3 g0 g1 g2 g3 hq2 p0 p1 p2 p3
                have HQ := Lib.hid hq2; clear hq2 htv HUV HTV
                go_wp2_with fail
                rw [HZ.out]
                refine bodyPost_ret (v := .tuple #[.agg #[.string (bs (lower n)), .string (bs v), .bool true, .string ⟨#[]⟩], .bool true]) (by simp [results, Try.results38, go_sem, g0, g1, g2, g3]) rfl ?_
                exact ⟨rfl, HQ.out⟩
        · have HST2 : Hid (k + 1 ≤ p ∨ Z = none) := by
            show _ ∨ _
            rcases HST.out with h | h
            · rcases Nat.lt_or_eq_of_le h with h1 | h1
              · exact .inl h1
              · subst h1; rw [H2.out hlt] at hc; cases hc
            · exact .inr h
          clear HST
          go_wp2_with fail
          go_roundw
          case rel => exact ⟨k + 1, by omega, by go_num, HST2.out, HR2.out, HB.out⟩
          case measure => simp [intOf]; omega
      · have hno : Z = none := by
          rcases HST.out with h | h
          · rcases HO.out with h1 | h1
            · omega
            · exact h1
          · exact h
        subst hno
        clear HST HO H1 H2 H4 HMN HT0
        obtain ⟨a0, b0, a1, b1, a2, b2, a3, b3⟩ := HR2.out.zero dv0
        obtain ⟨g0, g1, g2, g3⟩ := HR2.out.got dv0
        have hq2 := putD_below (b := w.heap.size) HB.out (Nat.le_refl _) dv0
        simp only [putD, dv0, bs_nil] at a0 a1 a2 a3 b0 b1 b2 b3 g0 g1 g2 g3 hq2
        have HQ := Lib.hid hq2; clear hq2
        go_wp2_with fail
        refine bodyPost_ret (v := .tuple #[.agg #[.string ⟨#[]⟩, .string ⟨#[]⟩, .bool false, .string ⟨#[]⟩], .bool false]) (by simp [results, Try.results38, go_sem, g0, g1, g2, g3]) rfl ?_
        exact ⟨rfl, HQ.out⟩
  · have hz : sayD S.data.toList = some (lower S.data.toList, [], false, []) := by
      rw [hsay _ (cutE_none (tok_ne61 htk))]
      simp [htk]
    rw [hz]
    clear hz hsay k1 k2 k3 k4
    have HLW := Lib.hid (fun W => rlower_any S W (by omega))
    go_enter Try.func38, Try.ntmps38
    go_wp2_with fail
    refine (HT0.out _).mono ?_
    rw [htk]
    rintro e w1 ⟨rfl, rfl⟩
    clear htk
    go_wp2_with fail
    refine (HLW.out _).mono ?_
    rintro e w2 ⟨rfl, hb⟩
    have HR2 := Lib.hid (HR.out.below hb); have HB := Lib.hid (HAL.out.trans (hb.mono HAL.out.size)); clear hb HR HAL HLW
    generalize lower S.data.toList = m at *
    obtain ⟨a0, b0, a1, b1, a2, b2, a3, b3⟩ := HR2.out.zero (m, [], false, [])
    obtain ⟨g0, g1, g2, g3⟩ := HR2.out.got (m, [], false, [])
    have hq2 := putD_below (b := w.heap.size) HB.out (Nat.le_refl _) (m, [], false, [])
    simp only [putD, bs_nil] at a0 a1 a2 a3 b0 b1 b2 b3 g0 g1 g2 g3 hq2
    have HQ := Lib.hid hq2; clear hq2
    go_wp2_with fail
    refine bodyPost_ret (v := .tuple #[.agg #[.string (bs m), .string ⟨#[]⟩, .bool false, .string ⟨#[]⟩], .bool true]) (by simp [results, Try.results38, go_sem, g0, g1, g2, g3]) rfl ?_
    exact ⟨rfl, HQ.out⟩
end Go.Proofs.Ytonioemenjjajaa
