/- What a line is as a field, what a text is as fields, by the document. -/
import Derived.Test.YtgkjjmcjlobbpaaGreatDoorKFieldsG
namespace Go.Proofs.YtgkjjmcjlobbpaaGreatDoor
open Go.RowKit

/-- the field and the reason by the document, that looks at the line's length first -/
def roneE (s : List UInt8) : Int := if 2048 < s.length then 3 else oneE s
def roneR (s : List UInt8) : Fld := if roneE s = 0 then oneF s else ([], [])
theorem roneR_cases (s : List UInt8) : (roneE s = 0 → roneR s = oneF s) ∧ (¬ roneE s = 0 → roneR s = ([], [])) := by
  unfold roneR
  exact ⟨fun h => if_pos h, fun h => if_neg h⟩
/-- no colon so far -/
def noCol (s : ByteArray) (k : Nat) : Prop := ∀ j (hj : j < k) (hk : k ≤ s.size), ¬ s[j] = 58
theorem noCol_next {s : ByteArray} {k : Nat} (h : noCol s k) (hk : k < s.size) (hc : ¬ s[k] = 58) : noCol s (k + 1) := fun j hj hk2 => by
  rcases Nat.lt_or_eq_of_le (Nat.le_of_lt_succ hj) with h1 | h1
  · exact h j h1 (by omega)
  · subst h1; exact hc
theorem at_list (s : ByteArray) (k : Nat) (h : k < s.size) : s.data.toList[k]? = some s[k] := by
  have h2 : k < s.data.toList.length := h
  rw [List.getElem?_eq_getElem h2]; rfl
theorem noCol_occ {s : ByteArray} {k : Nat} (h : noCol s k) (hk : k ≤ s.size) : ∀ j, j < k → Lib.occAt s.data.toList [58] j = false := fun j hj => by
  cases ho : Lib.occAt s.data.toList [58] j
  · rfl
  · have h1 := (occ_one _ _ _).1 ho
    rw [at_list s j (by omega)] at h1
    exact absurd (Option.some.inj h1) (h j hj hk)
theorem cut_colon {s : ByteArray} {k : Nat} (h : noCol s k) (hk : k < s.size) (hc : s[k] = 58) : Lib.cut s.data.toList [58] = (s.data.toList.take k, s.data.toList.drop (k + 1), true) :=
  cut_hit (by have := size_len s; omega) ((occ_one _ _ _).2 (by rw [at_list s k hk, hc])) (noCol_occ h (by omega))
theorem cut_nocolon {s : ByteArray} (h : noCol s s.size) : Lib.cut s.data.toList [58] = (s.data.toList, [], false) :=
  cut_miss fun j hj => by
    rcases Nat.lt_or_eq_of_le hj with h1 | h1
    · exact noCol_occ h (Nat.le_refl _) j h1
    · cases ho : Lib.occAt s.data.toList [58] j
      · rfl
      · have h2 := (occ_one _ _ _).1 ho
        rw [List.getElem?_eq_none (by omega)] at h2; cases h2

set_option maxHeartbeats 4000000 in
set_option maxRecDepth 100000 in
theorem rone_s (s : ByteArray) (w : World) (hs : s.size ≤ 1048576) :
    Calls Tryz.prog 66 #[.string s] w fun e w' => e = .returned (.tuple #[fv (roneR s.data.toList), .int .i64 (roneE s.data.toList)]) ∧ Below w.heap.size w w' := by
  have hal : Below w.heap.size w (w.alloc (.cells #[.string ⟨#[]⟩, .string ⟨#[]⟩] 63)) := (Below.refl _ _).alloc (Nat.le_refl _) _
  have HP : Hid (oneF2 (w.alloc (.cells #[.string ⟨#[]⟩, .string ⟨#[]⟩] 63)) w.heap.size (.string ⟨#[]⟩) (.string ⟨#[]⟩)) := oneF2.new _ _ _
  have HB0 := Lib.hid hal; clear hal
  obtain ⟨hR1, hR2⟩ := roneR_cases s.data.toList
  have hsz := size_len s
  by_cases h20 : 2048 < s.size
  · have hE : roneE s.data.toList = 3 := by unfold roneE; rw [if_pos (by omega)]
    have HR : Hid (roneR s.data.toList = ([], [])) := hR2 (by omega)
    have h20' : (2048 : Int) < (s.size : Int) := by omega
    have HE := Lib.hid hE
    clear hE hR1 hR2 h20 hsz
    go_enter Tryz.func66, Tryz.ntmps66
    go_wp2_with fail
    exact bodyPost_ret (v := .tuple #[.agg #[.string ⟨#[]⟩, .string ⟨#[]⟩], .int .i64 3]) (by simp [results, Tryz.results66, go_sem]) rfl ⟨by rw [HR.out, HE.out]; rfl, HB0.out⟩
  · have hE : roneE s.data.toList = oneE s.data.toList := by unfold roneE; rw [if_neg (by omega)]
    have h20' : ¬ (2048 : Int) < (s.size : Int) := by omega
    rw [hE] at hR1 hR2
    have hE1 : oneE s.data.toList = if (Lib.cut s.data.toList [58]).2.2 then chkF (oneF s.data.toList) else 4 := rfl
    have hF1 : oneF s.data.toList = ((Lib.cut s.data.toList [58]).1, trim (Lib.cut s.data.toList [58]).2.1) := rfl
    have HR12 : Hid ((oneE s.data.toList = 0 → roneR s.data.toList = oneF s.data.toList) ∧ (¬ oneE s.data.toList = 0 → roneR s.data.toList = ([], []))) := ⟨hR1, hR2⟩
    have HE1 := Lib.hid hE1; have HF1 := Lib.hid hF1; have HE := Lib.hid hE; have HSZ := Lib.hid hsz
    clear hE hR1 hR2 h20 hE1 hF1 hsz
    go_enter Tryz.func66, Tryz.ntmps66
    go_wp2_with fail
    go_loop [4] (fun i => ∃ k : Nat, k ≤ s.size ∧ i = .int .i64 k ∧ noCol s k) (fun i => s.size - (intOf i).toNat)
    case atStart => exact ⟨0, Nat.zero_le _, rfl, fun j hj => absurd hj (by omega)⟩
    case round =>
      obtain ⟨k, hk, rfl, hn⟩ := hrel
      have HN := Lib.hid hn; clear hn
      by_cases hlt : k < s.size
      · by_cases hc : s[k] = 58
        · have hq : ((s[k].toNat : Int) != 58) = false := by rw [hc]; rfl
          have hkz : ((k : Int) == (s.size : Int)) = false := by simp; omega
          have hcut := cut_colon HN.out hlt hc
          have hE2 := HE1.out
          have hF2 := HF1.out
          rw [hcut] at hE2 hF2
          simp only [if_true] at hE2 hF2
          have hex1 : s.extract 0 k = bs (s.data.toList.take k) := bs_of (by rw [Lib.extract_data]; simp)
          have hex2 : s.extract (k + 1) s.size = bs (s.data.toList.drop (k + 1)) := bs_of (by rw [Lib.extract_data, List.take_of_length_le (by simp)])
          have hl1 : (s.data.toList.take k).length ≤ s.size := by rw [List.length_take]; omega
          have hl2 : (s.data.toList.drop (k + 1)).length ≤ s.size := by rw [List.length_drop]; have := HSZ.out; omega
          have hRR := HR12.out
          have hEE := HE.out
          clear hc hcut HE1 HF1 HR12 HE
          generalize s.data.toList.take k = c1 at *
          generalize s.data.toList.drop (k + 1) = c2 at *
          rw [hF2] at hRR hE2
          have HEE := Lib.hid hEE
          clear hEE hF2
          have ht := trim_le c2
          have htr := fun w => rtrim_any (bs c2) w (by rw [bs_size]; unfold maxLen; omega)
          rw [bs_data] at htr
          have hmy := fun w => rmay_any (c1, trim c2) w (by simp only; omega) (by simp only; omega)
          have hlg := fun w => rlong_any (c1, trim c2) w (by simp only; omega) (by simp only; omega)
          unfold fv at hmy hlg; simp only at hmy hlg
          have hcs := chkF_cases (c1, trim c2)
          rw [← hE2] at hcs
          clear hE2
          generalize oneE s.data.toList = E at *
          obtain ⟨R, hRe⟩ : ∃ R, roneR s.data.toList = R := ⟨_, rfl⟩
          rw [hRe] at hRR
          have HRE := Lib.hid hRe; clear hRe
          generalize mayF (c1, trim c2) = M at *
          generalize longF (c1, trim c2) = Lg at *
          generalize trim c2 = t at *
          have HX1 := Lib.hid hex1; have HX2 := Lib.hid hex2; have HTR := Lib.hid htr; have HMY := Lib.hid hmy; have HLG := Lib.hid hlg; have HRR := Lib.hid hRR; have HCS := Lib.hid hcs
          clear hex1 hex2 htr hmy hlg hRR hcs ht
          have hw1 : IntKind.i64.wrap ((k : Int) + 1) = (k : Int) + 1 := by rw [IntKind.wrap_i64]; omega
          have hb1 : (0 : Int) ≤ (k : Int) + 1 := by omega
          have htn : ((k : Int) + 1).toNat = k + 1 := by omega
          have hle1 : k + 1 ≤ s.size := by omega
          have hle3 : (k : Int) + 1 ≤ (s.size : Int) := by omega
          have hle4 : (k : Int) ≤ (s.size : Int) := by omega
          go_wp2_with fail
          generalize w.alloc (.cells #[.string ⟨#[]⟩, .string ⟨#[]⟩] 63) = W at *
          have HQ : Hid (oneF2 (W.alloc (.cells #[.string (bs c1), .string (bs t)] 63)).drew W.heap.size (.string (bs c1)) (.string (bs t))) := oneF2.new W _ _
          have HP2 : Hid (oneF2 (W.alloc (.cells #[.string (bs c1), .string (bs t)] 63)).drew w.heap.size (.string ⟨#[]⟩) (.string ⟨#[]⟩)) := HP.out.bel ((Below.refl _ _).alloc (Nat.le_refl _) _).drew
          have HB2 : Hid (Below w.heap.size w (W.alloc (.cells #[.string (bs c1), .string (bs t)] 63)).drew) := (HB0.out.alloc HB0.out.size _).drew
          refine wp_region_growS (.one 0 false (.one 1 false (.one 2 false (.one 3 false (.one 4 false (.one 5 false (.one 6 false (.two 7 9 (.one 8 false (.one 9 true (.one 10 true .done))) (.one 7 true (.one 8 false (.one 10 true .done)))))))))))
            (fun _ => True) (by kernel_rfl) (by kernel_rfl) rfl (by kernel_rfl) (by kernel_rfl) trivial (fun ops hops => ?_)
          simp only [GT.ins, List.getD_cons_zero, List.getD_cons_succ]
          clear hops
          iterate 7
            refine growS_take (by rfl) ?_
            apply Exists.intro
            refine ⟨fun w' _ => ?_, ?_⟩
            · go_simp
              try with_reducible rfl
            simp only [Act.put, List.setIfInBounds_toArray, List.set_cons_zero, List.set_cons_succ]
          rw [HX1.out, HX2.out]
          refine growS_two (by rfl) (by rfl) (fun K hK => ?_) (fun K hK => ?_)
          · go_simp
            refine (HTR.out _).mono ?_
            rintro e w' ⟨rfl, rfl⟩
            refine hK.out _ _ trivial ?_
            clear hK K
            refine growS_take (by rfl) ?_
            apply Exists.intro
            refine ⟨fun w' _ => ?_, ?_⟩
            · go_simp
              try with_reducible rfl
            simp only [Act.put, List.setIfInBounds_toArray, List.set_cons_zero, List.set_cons_succ]
            refine growS_call (by rfl) (fun K hK => ?_)
            go_simp
            refine hK.out _ _ trivial ?_
            clear hK K
            refine growS_call (by rfl) (fun K hK => ?_)
            go_simp
            refine hK.out _ _ trivial ?_
            clear hK K
            generalize (W.alloc (.cells #[.string (bs c1), .string (bs t)] 63)).drew = W2 at *
            refine growS_done (NoPanic.normal ?_)
            obtain ⟨q1, q2, _, _⟩ := HQ.out.cells
            rcases HCS.out with ⟨rfl, hE⟩ | ⟨rfl, rfl, hE⟩ | ⟨rfl, rfl, hE⟩
            · have HR : Hid (R = ([], [])) := HRR.out.2 (by rw [hE]; decide)
              have HE3 := Lib.hid hE; clear hE
              go_wp2_with fail
              refine (HMY.out _).mono ?_; rintro e w3 ⟨rfl, hb3⟩
              have HP3 := Lib.hid (HP2.out.bel hb3); have HB3 := Lib.hid (HB2.out.trans (hb3.mono HB2.out.size)); clear hb3
              obtain ⟨k1, k2, k3, k4⟩ := HP3.out.cells
              go_wp2_with fail
              obtain ⟨m1, m2, m3, m4⟩ := (HP3.out.stored (.string ⟨#[]⟩) (.string ⟨#[]⟩)).cells
              exact bodyPost_ret (v := .tuple #[.agg #[.string ⟨#[]⟩, .string ⟨#[]⟩], .int .i64 4]) (by simp [results, Tryz.results66, go_sem, m1, m2]) rfl ⟨by rw [HRE.out, HR.out, HEE.out, HE3.out]; rfl, (HB3.out.setCell (Nat.le_refl _) _).setCell (Nat.le_refl _) _⟩
            · have HR : Hid (R = ([], [])) := HRR.out.2 (by rw [hE]; decide)
              have HE3 := Lib.hid hE; clear hE
              go_wp2_with fail
              refine (HMY.out _).mono ?_; rintro e w3 ⟨rfl, hb3⟩
              have HP3 := Lib.hid (HP2.out.bel hb3); have HB3 := Lib.hid (HB2.out.trans (hb3.mono HB2.out.size)); have HQ3 := Lib.hid (HQ.out.bel hb3); clear hb3
              obtain ⟨r1, r2, _, _⟩ := HQ3.out.cells
              go_wp2_with fail
              refine (HLG.out _).mono ?_; rintro e w4 ⟨rfl, hb4⟩
              have HP4 := Lib.hid (HP3.out.bel hb4); have HB4 := Lib.hid (HB3.out.trans (hb4.mono HB3.out.size)); clear hb4
              obtain ⟨k1, k2, k3, k4⟩ := HP4.out.cells
              go_wp2_with fail
              obtain ⟨m1, m2, m3, m4⟩ := (HP4.out.stored (.string ⟨#[]⟩) (.string ⟨#[]⟩)).cells
              exact bodyPost_ret (v := .tuple #[.agg #[.string ⟨#[]⟩, .string ⟨#[]⟩], .int .i64 3]) (by simp [results, Tryz.results66, go_sem, m1, m2]) rfl ⟨by rw [HRE.out, HR.out, HEE.out, HE3.out]; rfl, (HB4.out.setCell (Nat.le_refl _) _).setCell (Nat.le_refl _) _⟩
            · have HR : Hid (R = (c1, t)) := HRR.out.1 hE
              have HE3 := Lib.hid hE; clear hE
              go_wp2_with fail
              refine (HMY.out _).mono ?_; rintro e w3 ⟨rfl, hb3⟩
              have HP3 := Lib.hid (HP2.out.bel hb3); have HB3 := Lib.hid (HB2.out.trans (hb3.mono HB2.out.size)); have HQ3 := Lib.hid (HQ.out.bel hb3); clear hb3
              obtain ⟨r1, r2, _, _⟩ := HQ3.out.cells
              go_wp2_with fail
              refine (HLG.out _).mono ?_; rintro e w4 ⟨rfl, hb4⟩
              have HP4 := Lib.hid (HP3.out.bel hb4); have HB4 := Lib.hid (HB3.out.trans (hb4.mono HB3.out.size)); have HQ4 := Lib.hid (HQ3.out.bel hb4); clear hb4
              obtain ⟨k1, k2, k3, k4⟩ := HP4.out.cells
              obtain ⟨x1, x2, _, _⟩ := HQ4.out.cells
              go_wp2_with fail
              obtain ⟨m1, m2, m3, m4⟩ := (HP4.out.stored (.string (bs c1)) (.string (bs t))).cells
              exact bodyPost_ret (v := .tuple #[.agg #[.string (bs c1), .string (bs t)], .int .i64 0]) (by simp [results, Tryz.results66, go_sem, m1, m2]) rfl ⟨by rw [HRE.out, HR.out, HEE.out, HE3.out]; rfl, (HB4.out.setCell (Nat.le_refl _) _).setCell (Nat.le_refl _) _⟩
          · go_simp
            refine hK.out _ _ trivial ?_
            clear hK K
            refine growS_call (by rfl) (fun K hK => ?_)
            go_simp
            refine (HTR.out _).mono ?_
            rintro e w' ⟨rfl, rfl⟩
            refine hK.out _ _ trivial ?_
            clear hK K
            refine growS_take (by rfl) ?_
            apply Exists.intro
            refine ⟨fun w' _ => ?_, ?_⟩
            · go_simp
              try with_reducible rfl
            simp only [Act.put, List.setIfInBounds_toArray, List.set_cons_zero, List.set_cons_succ]
            refine growS_call (by rfl) (fun K hK => ?_)
            go_simp
            refine hK.out _ _ trivial ?_
            clear hK K
            generalize (W.alloc (.cells #[.string (bs c1), .string (bs t)] 63)).drew = W2 at *
            refine growS_done (NoPanic.normal ?_)
            obtain ⟨q1, q2, _, _⟩ := HQ.out.cells
            rcases HCS.out with ⟨rfl, hE⟩ | ⟨rfl, rfl, hE⟩ | ⟨rfl, rfl, hE⟩
            · have HR : Hid (R = ([], [])) := HRR.out.2 (by rw [hE]; decide)
              have HE3 := Lib.hid hE; clear hE
              go_wp2_with fail
              refine (HMY.out _).mono ?_; rintro e w3 ⟨rfl, hb3⟩
              have HP3 := Lib.hid (HP2.out.bel hb3); have HB3 := Lib.hid (HB2.out.trans (hb3.mono HB2.out.size)); clear hb3
              obtain ⟨k1, k2, k3, k4⟩ := HP3.out.cells
              go_wp2_with fail
              obtain ⟨m1, m2, m3, m4⟩ := (HP3.out.stored (.string ⟨#[]⟩) (.string ⟨#[]⟩)).cells
              exact bodyPost_ret (v := .tuple #[.agg #[.string ⟨#[]⟩, .string ⟨#[]⟩], .int .i64 4]) (by simp [results, Tryz.results66, go_sem, m1, m2]) rfl ⟨by rw [HRE.out, HR.out, HEE.out, HE3.out]; rfl, (HB3.out.setCell (Nat.le_refl _) _).setCell (Nat.le_refl _) _⟩
            · have HR : Hid (R = ([], [])) := HRR.out.2 (by rw [hE]; decide)
              have HE3 := Lib.hid hE; clear hE
              go_wp2_with fail
              refine (HMY.out _).mono ?_; rintro e w3 ⟨rfl, hb3⟩
              have HP3 := Lib.hid (HP2.out.bel hb3); have HB3 := Lib.hid (HB2.out.trans (hb3.mono HB2.out.size)); have HQ3 := Lib.hid (HQ.out.bel hb3); clear hb3
              obtain ⟨r1, r2, _, _⟩ := HQ3.out.cells
              go_wp2_with fail
              refine (HLG.out _).mono ?_; rintro e w4 ⟨rfl, hb4⟩
              have HP4 := Lib.hid (HP3.out.bel hb4); have HB4 := Lib.hid (HB3.out.trans (hb4.mono HB3.out.size)); clear hb4
              obtain ⟨k1, k2, k3, k4⟩ := HP4.out.cells
              go_wp2_with fail
              obtain ⟨m1, m2, m3, m4⟩ := (HP4.out.stored (.string ⟨#[]⟩) (.string ⟨#[]⟩)).cells
              exact bodyPost_ret (v := .tuple #[.agg #[.string ⟨#[]⟩, .string ⟨#[]⟩], .int .i64 3]) (by simp [results, Tryz.results66, go_sem, m1, m2]) rfl ⟨by rw [HRE.out, HR.out, HEE.out, HE3.out]; rfl, (HB4.out.setCell (Nat.le_refl _) _).setCell (Nat.le_refl _) _⟩
            · have HR : Hid (R = (c1, t)) := HRR.out.1 hE
              have HE3 := Lib.hid hE; clear hE
              go_wp2_with fail
              refine (HMY.out _).mono ?_; rintro e w3 ⟨rfl, hb3⟩
              have HP3 := Lib.hid (HP2.out.bel hb3); have HB3 := Lib.hid (HB2.out.trans (hb3.mono HB2.out.size)); have HQ3 := Lib.hid (HQ.out.bel hb3); clear hb3
              obtain ⟨r1, r2, _, _⟩ := HQ3.out.cells
              go_wp2_with fail
              refine (HLG.out _).mono ?_; rintro e w4 ⟨rfl, hb4⟩
              have HP4 := Lib.hid (HP3.out.bel hb4); have HB4 := Lib.hid (HB3.out.trans (hb4.mono HB3.out.size)); have HQ4 := Lib.hid (HQ3.out.bel hb4); clear hb4
              obtain ⟨k1, k2, k3, k4⟩ := HP4.out.cells
              obtain ⟨x1, x2, _, _⟩ := HQ4.out.cells
              go_wp2_with fail
              obtain ⟨m1, m2, m3, m4⟩ := (HP4.out.stored (.string (bs c1)) (.string (bs t))).cells
              exact bodyPost_ret (v := .tuple #[.agg #[.string (bs c1), .string (bs t)], .int .i64 0]) (by simp [results, Tryz.results66, go_sem, m1, m2]) rfl ⟨by rw [HRE.out, HR.out, HEE.out, HE3.out]; rfl, (HB4.out.setCell (Nat.le_refl _) _).setCell (Nat.le_refl _) _⟩
        · have hq : ((s[k].toNat : Int) != 58) = true := by rw [bne_iff_ne]; intro e; exact hc (UInt8.toNat_inj.1 (by simpa using (by omega : s[k].toNat = 58)))
          have HNN := Lib.hid (noCol_next HN.out hlt hc)
          clear hc
          go_wp2_with fail
          go_round
          case rel => exact ⟨k + 1, by omega, by go_num, HNN.out⟩
          case measure => simp [intOf]; omega
      · obtain rfl : k = s.size := by omega
        have hcut := cut_nocolon HN.out
        have hE2 := HE1.out
        rw [hcut] at hE2
        simp only [Bool.false_eq_true, if_false] at hE2
        have HR : Hid (roneR s.data.toList = ([], [])) := HR12.out.2 (by omega)
        have HEE : Hid (roneE s.data.toList = 4) := HE.out.trans hE2
        clear hE2 hcut
        go_wp2_with fail
        exact bodyPost_ret (v := .tuple #[.agg #[.string ⟨#[]⟩, .string ⟨#[]⟩], .int .i64 4]) (by simp [results, Tryz.results66, go_sem]) rfl ⟨by rw [HR.out, HEE.out]; rfl, HB0.out⟩
theorem rone_any (s : List UInt8) (w : World) (hs : s.length ≤ 1048576) :
    Calls Tryz.prog 66 #[.string (bs s)] w fun e w' => e = .returned (.tuple #[fv (roneR s), .int .i64 (roneE s)]) ∧ Below w.heap.size w w' := by
  have := rone_s (bs s) w (by rw [bs_size]; exact hs)
  rwa [bs_data] at this

/-! ### the document's Parse -/
/-- the document's reader at byte i: what stands from 'from' on has no end of a line ahead of i -/
def noEnd (s : ByteArray) (f i : Nat) : Prop := ∀ j, f ≤ j → j < i → ¬ (s.data.toList[j]? = some 13 ∧ s.data.toList[j + 1]? = some 10)
theorem noEnd_occ {s : ByteArray} {f i : Nat} (h : noEnd s f i) : ∀ j, j < i - f → Lib.occAt (s.data.toList.drop f) [13, 10] j = false := fun j hj => by
  cases ho : Lib.occAt (s.data.toList.drop f) [13, 10] j
  · rfl
  · obtain ⟨h1, h2⟩ := (occ_two _ _ _ _).1 ho
    rw [List.getElem?_drop] at h1 h2
    exact absurd ⟨h1, by rw [show f + j + 1 = f + (j + 1) from by omega]; exact h2⟩ (h (f + j) (by omega) (by omega))
theorem cut_line {s : ByteArray} {f i : Nat} (h : noEnd s f i) (hf : f ≤ i) (hi : i + 1 < s.size) (h1 : s[i] = 13) (h2 : s[i + 1] = 10) :
    cutN (s.data.toList.drop f) = ((s.data.toList.drop f).take (i - f), s.data.toList.drop (i + 2), true) := by
  have hz := size_len s
  unfold cutN
  rw [cut_hit (i := i - f) (by rw [List.length_drop]; omega) ((occ_two _ _ _ _).2 ⟨by rw [List.getElem?_drop, show f + (i - f) = i from by omega, at_list s i (by omega), h1], by rw [List.getElem?_drop, show f + (i - f + 1) = i + 1 from by omega, at_list s (i + 1) hi, h2]⟩) (noEnd_occ h)]
  have e : f + (i - f + ([13, 10] : List UInt8).length) = i + 2 := by simp only [List.length_cons, List.length_nil]; omega
  rw [List.drop_drop, e]
theorem cut_last {s : ByteArray} {f i : Nat} (h : noEnd s f i) (hi : s.size ≤ i + 1) : (cutN (s.data.toList.drop f)).2.2 = false ∧ (cutN (s.data.toList.drop f)).1 = s.data.toList.drop f := by
  have hz := size_len s
  have hm : Lib.cut (s.data.toList.drop f) [13, 10] = (s.data.toList.drop f, [], false) := by
    refine cut_miss fun j _ => ?_
    by_cases hj2 : j < i - f
    · exact noEnd_occ h j hj2
    · cases ho : Lib.occAt (s.data.toList.drop f) [13, 10] j
      · rfl
      · obtain ⟨_, h2⟩ := (occ_two _ _ _ _).1 ho
        rw [List.getElem?_drop] at h2
        rw [List.getElem?_eq_none (by omega)] at h2; cases h2
  unfold cutN
  rw [hm]
  exact ⟨rfl, rfl⟩
theorem noEnd_next {s : ByteArray} {f i : Nat} (h : noEnd s f i) (hi : i + 1 < s.size) (hn : ¬ (f ≤ i ∧ s[i] = 13 ∧ s[i + 1] = 10)) : noEnd s f (i + 1) := fun j h1 h2 => by
  rcases Nat.lt_or_eq_of_le (Nat.le_of_lt_succ h2) with h3 | h3
  · exact h j h1 h3
  · subst h3
    rw [at_list s j (by omega), at_list s (j + 1) hi]
    intro he
    exact hn ⟨h1, Option.some.inj he.1, Option.some.inj he.2⟩
theorem noEnd_fresh (s : ByteArray) (f i : Nat) (h : i ≤ f) : noEnd s f i := fun j h1 h2 => absurd h2 (by omega)
/-- the document's reader and the other one's first error are the same -/
theorem parse_one {l : List UInt8} (out : List Fld) (X : List Fld × Int) (Y : List Fld × Int) (hY : oneE l = 0 → X = Y) : (if out.length = 64 ∨ 2048 < l.length then ([], 3) else if oneE l = 0 then X else ([], oneE l)) = if out.length = 64 then ([], 3) else if roneE l = 0 then Y else (([] : List Fld), roneE l) := by
  unfold roneE
  by_cases h1 : out.length = 64
  · simp [h1]
  · by_cases h2 : 2048 < l.length
    · simp [h1, h2]
    · by_cases h3 : oneE l = 0
      · simp [h1, h2, h3, hY h3]
      · simp [h1, h2, h3]
end Go.Proofs.YtgkjjmcjlobbpaaGreatDoor

/- The document's Parse. -/
namespace Go.Proofs.YtgkjjmcjlobbpaaGreatDoor
open Go.RowKit

theorem rparse_step {s : ByteArray} {f k : Nat} {acc : List Fld} (hn : noEnd s f k) (hf : f ≤ k) (hk : k + 1 < s.size) (h1 : s[k] = 13) (h2 : s[k + 1] = 10) :
    parseW (s.data.toList.drop f) acc = if acc.length = 64 then ([], 3) else if roneE ((s.data.toList.drop f).take (k - f)) = 0 then parseW (s.data.toList.drop (k + 2)) (acc ++ [oneF ((s.data.toList.drop f).take (k - f))]) else ([], roneE ((s.data.toList.drop f).take (k - f))) := by
  have hc := cut_line hn hf hk h1 h2
  rw [parseW_step acc (by rw [hc]), hc]
  exact parse_one acc _ _ fun _ => rfl
theorem rparse_last {s : ByteArray} {f k : Nat} {acc : List Fld} (hn : noEnd s f k) (hk : s.size ≤ k + 1) : parseW (s.data.toList.drop f) acc = if s.size ≤ f then (acc, 0) else ([], 4) := by
  obtain ⟨h1, h2⟩ := cut_last hn hk
  rw [parseW_end acc h1, h2]
  have hz := size_len s
  by_cases h : s.size ≤ f
  · rw [if_pos h, if_pos (List.drop_of_length_le (by omega))]
  · rw [if_neg h, if_neg (fun e => by have := congrArg List.length e; rw [List.length_drop, List.length_nil] at this; omega)]

set_option maxHeartbeats 4000000 in
set_option maxRecDepth 100000 in
theorem rparse_s (s : ByteArray) (w : World) (hs : s.size ≤ 1048576) :
    Calls Tryz.prog 32 #[.string s] w (RetP w (parseL s.data.toList)) := by
  go_enter Tryz.func32, Tryz.ntmps32
  go_wp2_with fail
  go_loopw [4, 5, 6] (fun o fr i wr => ∃ (k f : Nat) (acc : List Fld), i = .int .i64 k ∧ fr = .int .i64 f ∧ k ≤ s.size ∧ f ≤ s.size ∧ ownF wr w.heap.size o acc ∧ acc.length ≤ 64 ∧ noEnd s f k ∧ parseW (s.data.toList.drop f) acc = parseL s.data.toList ∧ Below w.heap.size w wr)
    (fun _ _ i _ => s.size - (intOf i).toNat)
  case atStart => exact ⟨0, 0, [], rfl, rfl, Nat.zero_le _, Nat.zero_le _, ownF_nil _ _, by simp, noEnd_fresh s 0 0 (Nat.le_refl _), rfl, Below.refl _ _⟩
  case round =>
    obtain ⟨k, f, acc, rfl, rfl, hk, hf, ho, hl, hn, hp, hb⟩ := hrel
    obtain ⟨Ao, co, rfl⟩ := ho.form
    have HO := Lib.hid ho; have HB := Lib.hid hb; have HN := Lib.hid hn; have HP := Lib.hid hp; clear ho hb hn hp
    by_cases hlt : k + 1 < s.size
    · have hlt' : (k : Int) + 1 < (s.size : Int) := by omega
      have hk0 : k < s.size := by omega
      by_cases hkf : k < f
      · have hkf' : (k : Int) < (f : Int) := by omega
        go_wp2_with fail
        go_roundw
        case rel => exact ⟨k + 1, f, acc, by go_num, rfl, by omega, hf, HO.out, hl, noEnd_fresh s f (k + 1) (by omega), HP.out, HB.out⟩
        case measure => simp [intOf]; omega
      · have hkf' : ¬ (k : Int) < (f : Int) := by omega
        by_cases h13 : s[k] = 13
        · have hq1 : ((s[k].toNat : Int) != 13) = false := by rw [h13]; rfl
          by_cases h10 : s[k + 1] = 10
          · have hq2 : ((s[k + 1].toNat : Int) != 10) = false := by rw [h10]; rfl
            have hst := rparse_step (acc := acc) HN.out (by omega) hlt h13 h10
            rw [HP.out] at hst
            clear h13 h10
            by_cases h64 : acc.length = 64
            · have HR : Hid (parseL s.data.toList = ([], 3)) := by rw [if_pos h64] at hst; exact hst
              have hq : ((acc.length : Int) == 64) = true := by simp; omega
              clear h64 hst
              go_wp2_with fail
              go_ret2
              exact retP_none HR.out HB.out
            · have hq : ((acc.length : Int) == 64) = false := by simp; omega
              rw [if_neg h64] at hst
              have hex : s.extract f k = bs ((s.data.toList.drop f).take (k - f)) := bs_of (by rw [Lib.extract_data])
              have hll : ((s.data.toList.drop f).take (k - f)).length ≤ s.size := by rw [List.length_take]; omega
              have hone := fun w' => rone_any ((s.data.toList.drop f).take (k - f)) w' (by omega)
              obtain ⟨hR1, hR2⟩ := roneR_cases ((s.data.toList.drop f).take (k - f))
              generalize (s.data.toList.drop f).take (k - f) = L at *
              generalize roneE L = E at *
              generalize roneR L = R at *
              generalize oneF L = F at *
              have HEX := Lib.hid hex; clear hex
              obtain ⟨x, y⟩ := R
              unfold fv at hone; simp only at hone
              rw [← HEX.out] at hone
              have HONE := Lib.hid hone; clear hone
              by_cases hz : E = 0
              · have hRF := hR1 hz
                have HE3 : Hid (parseL s.data.toList = parseW (s.data.toList.drop (k + 2)) (acc ++ [(x, y)])) := by rw [if_pos hz, ← hRF] at hst; exact hst
                subst hz
                have hl2 : acc.length < 64 := by omega
                clear hR1 hR2 hst h64 hRF
                go_wp2_with fail
                refine (HONE.out _).mono ?_; rintro e w2 ⟨rfl, hb2⟩
                have hal : Below w2.heap.size w2 (w2.alloc (.cells #[.string (bs x), .string (bs y)] 63)) := (Below.refl _ _).alloc (Nat.le_refl _) _
                have hb3 := hb2.trans (hal.mono hb2.size)
                have HO3 := Lib.hid (HO.out.bel hb3); have HB3 := Lib.hid (HB.out.trans (hb3.mono HB.out.size))
                clear hb2 hal hb3
                go_wp2_with (at_builtin; refine wpList_appF rfl (.tmp 46) (.tmp 48) rfl w.heap.size w.heap.size _ _ x y rfl HO3.out HB3.out (Nat.le_refl _) HB3.out.size rfl (by omega) ?_; intro v4 w4 HO4 HB4 _)
                go_roundw
                case rel => exact ⟨k + 1, k + 2, acc ++ [(x, y)], by go_num, by go_num, by omega, by omega, HO4.out, by simp; omega, noEnd_fresh s (k + 2) (k + 1) (by omega), HE3.out.symm, HB4.out⟩
                case measure => simp [intOf]; omega
              · have HE3 : Hid (parseL s.data.toList = ([], E)) := by rw [if_neg hz] at hst; exact hst
                have hz2 : (E != 0) = true := by simp [hz]
                clear hR1 hR2 hst hz h64
                go_wp2_with fail
                refine (HONE.out _).mono ?_; rintro e w2 ⟨rfl, hb2⟩
                have HB2 := Lib.hid ((HB.out.trans (hb2.mono HB.out.size)).alloc (Nat.le_trans HB.out.size hb2.size) (.cells #[.string (bs x), .string (bs y)] 63)); clear hb2
                go_wp2_with fail
                go_ret2
                exact retP_none HE3.out HB2.out
          · have hq2 : ((s[k + 1].toNat : Int) != 10) = true := by rw [bne_iff_ne]; intro e; exact h10 (UInt8.toNat_inj.1 (by simpa using (by omega : s[k + 1].toNat = 10)))
            have HNN := Lib.hid (noEnd_next HN.out hlt (fun h => h10 h.2.2))
            clear h13 h10
            go_wp2_with fail
            go_roundw
            case rel => exact ⟨k + 1, f, acc, by go_num, rfl, by omega, hf, HO.out, hl, HNN.out, HP.out, HB.out⟩
            case measure => simp [intOf]; omega
        · have hq1 : ((s[k].toNat : Int) != 13) = true := by rw [bne_iff_ne]; intro e; exact h13 (UInt8.toNat_inj.1 (by simpa using (by omega : s[k].toNat = 13)))
          have HNN := Lib.hid (noEnd_next HN.out hlt (fun h => h13 h.2.1))
          clear h13
          go_wp2_with fail
          go_roundw
          case rel => exact ⟨k + 1, f, acc, by go_num, rfl, by omega, hf, HO.out, hl, HNN.out, HP.out, HB.out⟩
          case measure => simp [intOf]; omega
    · have hlt' : ¬ (k : Int) + 1 < (s.size : Int) := by omega
      have hst := rparse_last (acc := acc) HN.out (by omega)
      rw [HP.out] at hst
      by_cases hsf : s.size ≤ f
      · have HR : Hid (parseL s.data.toList = (acc, 0)) := by rw [if_pos hsf] at hst; exact hst
        have hq : ¬ (f : Int) < (s.size : Int) := by omega
        clear hst
        go_wp2_with fail
        go_ret2
        exact retP_of HR.out HO.out HB.out
      · have HR : Hid (parseL s.data.toList = ([], 4)) := by rw [if_neg hsf] at hst; exact hst
        have hq : (f : Int) < (s.size : Int) := by omega
        clear hst
        go_wp2_with fail
        go_ret2
        exact retP_none HR.out HB.out

theorem rparse_any (s : List UInt8) (w : World) (hs : s.length ≤ 1048576) : Calls Tryz.prog 32 #[.string (bs s)] w (RetP w (parseL s)) := by
  have := rparse_s (bs s) w (by rw [bs_size]; exact hs)
  rwa [bs_data] at this
end Go.Proofs.YtgkjjmcjlobbpaaGreatDoor
