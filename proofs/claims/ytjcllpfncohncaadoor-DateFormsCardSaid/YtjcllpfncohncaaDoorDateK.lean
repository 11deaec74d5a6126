/- DateOne and DatePuts, walked. -/
import Derived.Test.YtjcllpfncohncaaDoorDateJ
namespace Go.Proofs.YtjcllpfncohncaaDoor
open Go.RowKit

theorem F1.isT {l : List UInt8} {t : Int} (H : F1 l t) : ∃ (y : Int) (m : Nat) (d h i s : Int), IsT t y m d h i s ∧ l = fixT (wdN y m d) m d y h i s := by
  obtain ⟨y, m, d, h, i, s, V, e, rfl⟩ := H
  exact ⟨y, m, d, h, i, s, vd_isT V, e⟩
theorem parse_isT {nw : Int} {l : List UInt8} {t : Int} (h : parseL nw l = some t) : ∃ (y : Int) (m : Nat) (d h i s : Int), IsT t y m d h i s := by
  rw [parseL_iff] at h
  rcases h with ⟨y, m, d, h, i, s, V, e, rfl⟩ | ⟨_, y, m, d, h, i, s, V, _, _, e, rfl⟩ | ⟨_, _, y, m, d, h, i, s, V, e, rfl⟩ <;> exact ⟨y, m, d, h, i, s, vd_isT V⟩
theorem long_len (k : Nat) (h : k < 7) : 6 ≤ (lDays.getD k []).length := by
  match k, h with
  | 0, _ | 1, _ | 2, _ | 3, _ | 4, _ | 5, _ | 6, _ => decide
/-- a text of 29 bytes with a comma at its fourth place is a date of the first form alone -/
theorem parse_29 {nw : Int} {l : List UInt8} {t : Int} (h : parseL nw l = some t) (hl : l.length = 29) (hc : l.getD 3 0 = 44) : F1 l t := by
  rw [parseL_iff] at h
  rcases h with h | ⟨_, y, m, d, h, i, s, V, _, _, e, _⟩ | ⟨_, _, y, m, d, h, i, s, V, e, _⟩
  · exact h
  · exfalso
    have := long_len _ (wdN_lt y m d)
    obtain ⟨p, q, r, hm⟩ := month_three m V.2.2.1
    rw [e] at hl
    unfold oldT clkT pad2 at hl
    rw [hm] at hl
    simp only [List.length_append, List.length_cons, List.length_nil] at hl
    omega
  · exfalso
    obtain ⟨a, b, c, hd⟩ := day_three _ (wdN_lt y m d)
    rcases e with e | ⟨_, e⟩
    · rw [e] at hc
      unfold ascT at hc
      rw [hd] at hc
      simp at hc
    · rw [e] at hc
      unfold ascT at hc
      rw [hd] at hc
      simp at hc

set_option maxRecDepth 100000 in
set_option maxHeartbeats 4000000 in
theorem dateOne_any (s : ByteArray) (now : Int) (w : World) (hs : s.size ≤ maxLen) (_wn : (Lit.int .i64 now).wf = true) (ht : Tabs w) :
    Calls Tryd.prog 8 #[.string s, .int .i64 now] w fun e w' => e = .returned (.bool true) ∧ Below w.heap.size w w' := by
  have HT := Lib.hid ht
  clear _wn ht
  obtain ⟨Y, M, D, Hh, I, S, HN⟩ := clamp_ex now
  have HC := Lib.hid HN
  clear HN
  have hs2 := hs
  unfold maxLen at hs2
  cases hp : parseL (Y + 50) s.data.toList with
  | none =>
    have HP := Lib.hid hp
    clear hp
    go_enter Tryd.func8, Tryd.ntmps8
    go_wp2_with fail
    refine (parse_any s _ _ _ _ _ _ _ _ hs HC.out HT.out).mono ?_
    rw [HP.out]
    unfold ansV
    rintro e w1 ⟨rfl, hb⟩
    have HB := Lib.hid hb
    have HT1 := Lib.hid (HT.out.below hb)
    clear hb
    go_wp2_with fail
    refine (awake_any _ HT1.out).mono ?_
    rintro e w2 ⟨rfl, hb2⟩
    go_wp2_with fail
    go_ret
    exact ⟨rfl, HB.out.trans (hb2.mono HB.out.size)⟩
  | some t =>
    obtain ⟨y, m, d, h, i, sc, H⟩ := parse_isT hp
    obtain ⟨t0, t1⟩ := H.bd
    have hl := fixT_len (isT_vd H).1
    have hp2 := parse_fix (Y + 50) (isT_vd H).1
    rw [(isT_vd H).2.1] at hp2
    have HU : Hid (∀ w, Tabs w → Calls Tryd.prog 13 #[.int .i64 t] w fun e w' => e = .returned (.string (bs (fixT (wdN y m d) m d y h i sc))) ∧ Below w.heap.size w w') := fun w ht => put_ok _ _ _ _ _ _ _ w H ht
    have hX : s.size = 29 → s.data.toList.getD 3 0 = 44 → s.data.toList = fixT (wdN y m d) m d y h i sc := by
      intro h29 h3
      obtain ⟨y', m', d', h', i', s', K, e⟩ := (parse_29 hp h29 h3).isT
      obtain ⟨rfl, hm, rfl, rfl, rfl, rfl⟩ := H.uniq K
      obtain rfl : m = m' := by omega
      exact e
    generalize fixT (wdN y m d) m d y h i sc = L at *
    have HP := Lib.hid hp
    have HP2 := Lib.hid hp2
    clear hp hp2 H
    rcases (show s.size ≠ 29 ∨ (s.size = 29 ∧ s.data.toList.getD 3 0 ≠ 44) ∨ (s.size = 29 ∧ s.data.toList.getD 3 0 = 44) by
      by_cases a : s.size = 29
      · by_cases b : s.data.toList.getD 3 0 = 44
        · exact .inr (.inr ⟨a, b⟩)
        · exact .inr (.inl ⟨a, b⟩)
      · exact .inl a) with c | ⟨c, c2⟩ | ⟨c, c2⟩
    · have c' : ((s.size : Int) == 29) = false := by rw [beq_eq_false_iff_ne]; omega
      clear hX c
      go_enter Tryd.func8, Tryd.ntmps8
      go_wp2_with fail
      refine (parse_any s _ _ _ _ _ _ _ _ hs HC.out HT.out).mono ?_
      rw [HP.out]
      unfold ansV
      rintro e w1 ⟨rfl, hb⟩
      have HB := Lib.hid hb
      have HT1 := Lib.hid (HT.out.below hb)
      clear hb
      go_wp2_with fail
      refine (HU.out _ HT1.out).mono ?_
      rintro e w2 ⟨rfl, hb2⟩
      have HB2 := Lib.hid (HB.out.trans (hb2.mono HB.out.size))
      have HT2 := Lib.hid (HT1.out.below hb2)
      clear hb2
      go_wp2_with fail
      refine (is_yes _ _ _ _ _ _ _ _ _ _ (by rw [bs_size, hl]; decide) HC.out (by rw [bs_data]; exact HP2.out) HT2.out).mono ?_
      rintro e w3 ⟨rfl, hb3⟩
      have HB3 := Lib.hid (HB2.out.trans (hb3.mono HB2.out.size))
      have HT3 := Lib.hid (HT2.out.below hb3)
      clear hb3
      go_wp2_with fail
      refine (awake_any _ HT3.out).mono ?_
      rintro e w4 ⟨rfl, hb4⟩
      go_wp2_with fail
      go_ret
      exact ⟨rfl, HB3.out.trans (hb4.mono HB3.out.size)⟩
    · have c' : ((s.size : Int) == 29) = true := by rw [beq_iff_eq]; omega
      have hlt : 3 < s.size := by omega
      have c3 : ((s[3].toNat : Int) == 44) = false := by
        rw [beq_eq_false_iff_ne]
        intro e
        refine c2 ?_
        have : s.data.toList.getD 3 0 = s[3] := by simp [List.getD_eq_getElem?_getD, hlt, ByteArray.getElem_eq_getElem_data]
        rw [this]
        exact UInt8.toNat.inj (by show s[3].toNat = 44; omega)
      clear hX c c2
      go_enter Tryd.func8, Tryd.ntmps8
      go_wp2_with fail
      refine (parse_any s _ _ _ _ _ _ _ _ hs HC.out HT.out).mono ?_
      rw [HP.out]
      unfold ansV
      rintro e w1 ⟨rfl, hb⟩
      have HB := Lib.hid hb
      have HT1 := Lib.hid (HT.out.below hb)
      clear hb
      go_wp2_with fail
      refine (HU.out _ HT1.out).mono ?_
      rintro e w2 ⟨rfl, hb2⟩
      have HB2 := Lib.hid (HB.out.trans (hb2.mono HB.out.size))
      have HT2 := Lib.hid (HT1.out.below hb2)
      clear hb2
      go_wp2_with fail
      refine (is_yes _ _ _ _ _ _ _ _ _ _ (by rw [bs_size, hl]; decide) HC.out (by rw [bs_data]; exact HP2.out) HT2.out).mono ?_
      rintro e w3 ⟨rfl, hb3⟩
      have HB3 := Lib.hid (HB2.out.trans (hb3.mono HB2.out.size))
      have HT3 := Lib.hid (HT2.out.below hb3)
      clear hb3
      go_wp2_with fail
      refine (awake_any _ HT3.out).mono ?_
      rintro e w4 ⟨rfl, hb4⟩
      go_wp2_with fail
      go_ret
      exact ⟨rfl, HB3.out.trans (hb4.mono HB3.out.size)⟩
    · have c' : ((s.size : Int) == 29) = true := by rw [beq_iff_eq]; omega
      have hlt : 3 < s.size := by omega
      have c3 : ((s[3].toNat : Int) == 44) = true := by
        have : s.data.toList.getD 3 0 = s[3] := by simp [List.getD_eq_getElem?_getD, hlt, ByteArray.getElem_eq_getElem_data]
        rw [this] at c2
        rw [c2]; rfl
      have hX2 := hX c c2
      have hq : ((bs L).toList == s.toList) = true := by rw [Lib.toList_data, Lib.toList_data, bs_data, hX2]; simp
      clear hX c c2 hX2
      go_enter Tryd.func8, Tryd.ntmps8
      go_wp2_with fail
      refine (parse_any s _ _ _ _ _ _ _ _ hs HC.out HT.out).mono ?_
      rw [HP.out]
      unfold ansV
      rintro e w1 ⟨rfl, hb⟩
      have HB := Lib.hid hb
      have HT1 := Lib.hid (HT.out.below hb)
      clear hb
      go_wp2_with fail
      refine (HU.out _ HT1.out).mono ?_
      rintro e w2 ⟨rfl, hb2⟩
      have HBx := Lib.hid (HB.out.trans (hb2.mono HB.out.size))
      have HTx := Lib.hid (HT1.out.below hb2)
      clear hb2 HB HT1
      have HB := HBx
      have HT1 := HTx
      go_wp2_with fail
      refine (HU.out _ HT1.out).mono ?_
      rintro e w2 ⟨rfl, hb2⟩
      have HB2 := Lib.hid (HB.out.trans (hb2.mono HB.out.size))
      have HT2 := Lib.hid (HT1.out.below hb2)
      clear hb2
      go_wp2_with fail
      refine (is_yes _ _ _ _ _ _ _ _ _ _ (by rw [bs_size, hl]; decide) HC.out (by rw [bs_data]; exact HP2.out) HT2.out).mono ?_
      rintro e w3 ⟨rfl, hb3⟩
      have HB3 := Lib.hid (HB2.out.trans (hb3.mono HB2.out.size))
      have HT3 := Lib.hid (HT2.out.below hb3)
      clear hb3
      go_wp2_with fail
      refine (awake_any _ HT3.out).mono ?_
      rintro e w4 ⟨rfl, hb4⟩
      go_wp2_with fail
      go_ret
      exact ⟨rfl, HB3.out.trans (hb4.mono HB3.out.size)⟩

theorem rput_any (t : Int) (y : Int) (m : Nat) (d h i s : Int) (w : World) (H : IsT t y m d h i s) :
    Calls Tryd.prog 14 #[.int .i64 t] w fun e w' => e = .returned (.string (bs (fixT (wdN y m d) m d y h i s))) ∧ Below w.heap.size w w' := by
  obtain ⟨t0, t1⟩ := H.bd
  obtain ⟨V, _, _⟩ := isT_vd H
  obtain ⟨v1, v2, v3, v4, v5, v6, v7⟩ := V.bd
  have HH := Lib.hid H
  have HV := Lib.hid V
  clear H V
  go_enter Tryd.func14, Tryd.ntmps14
  go_wp2_with fail
  refine (rof_any _ _ _ _ _ _ _ _ HH.out).mono ?_
  rintro e w1 ⟨rfl, hb⟩
  have HB := Lib.hid hb
  clear hb
  go_wp2_with fail
  refine (rfixed_any y (wdN y m d) m d h i s _ HV.out.1 HV.out.2.1 HV.out.2.2.1 HV.out.2.2.2.1 v4 HV.out.2.2.2.2.2.1 v5 HV.out.2.2.2.2.2.2.2.1 v6 HV.out.2.2.2.2.2.2.2.2.2.1 v7 (wdN_eq _ _ _)).mono ?_
  rintro e w2 ⟨rfl, hb2⟩
  go_wp2_with fail
  go_ret
  exact ⟨rfl, HB.out.trans (hb2.mono HB.out.size)⟩
theorem rput_no (t : Int) (w : World) (h : t < 0 ∨ 253402300799 < t) :
    Calls Tryd.prog 14 #[.int .i64 t] w fun e w' => e = .returned (.string ⟨#[]⟩) ∧ w = w' := by
  rcases h with h | h
  · go_enter Tryd.func14, Tryd.ntmps14
    go_wp2_with fail
    go_ret
    exact ⟨rfl, rfl⟩
  · have h2 : ¬ t < 0 := by omega
    go_enter Tryd.func14, Tryd.ntmps14
    go_wp2_with fail
    go_ret
    exact ⟨rfl, rfl⟩
set_option maxRecDepth 100000 in
set_option maxHeartbeats 1000000 in
theorem datePuts_any (t : Int) (w : World) (_wt : (Lit.int .i64 t).wf = true) (ht : Tabs w) :
    Calls Tryd.prog 4 #[.int .i64 t] w fun e w' => e = .returned (.bool true) ∧ Below w.heap.size w w' := by
  have HT := Lib.hid ht
  clear _wt ht
  by_cases h : 0 ≤ t ∧ t ≤ 253402300799
  · obtain ⟨y, m, d, hh, i, s, H⟩ := isT_exN t h.1 h.2
    have HH := Lib.hid H
    clear H h
    go_enter Tryd.func4, Tryd.ntmps4
    go_wp2_with fail
    refine (put_ok _ _ _ _ _ _ _ _ HH.out HT.out).mono ?_
    rintro e w1 ⟨rfl, hb1⟩
    have HB1 := Lib.hid hb1
    have HT1 := Lib.hid (HT.out.below hb1)
    clear hb1
    go_wp2_with fail
    refine (rput_any _ _ _ _ _ _ _ _ HH.out).mono ?_
    rintro e w2 ⟨rfl, hb2⟩
    have HB2 := Lib.hid (HB1.out.trans (hb2.mono HB1.out.size))
    have HT2 := Lib.hid (HT1.out.below hb2)
    clear hb2
    go_wp2_with fail
    refine (awake_any _ HT2.out).mono ?_
    rintro e w3 ⟨rfl, hb3⟩
    go_wp2_with fail
    go_ret
    exact ⟨rfl, HB2.out.trans (hb3.mono HB2.out.size)⟩
  · have h2 : t < 0 ∨ 253402300799 < t := by omega
    have H2 := Lib.hid h2
    clear h h2
    go_enter Tryd.func4, Tryd.ntmps4
    go_wp2_with fail
    refine (put_no _ _ H2.out).mono ?_
    rintro e w1 ⟨rfl, rfl⟩
    go_wp2_with fail
    refine (rput_no _ _ H2.out).mono ?_
    rintro e w1 ⟨rfl, rfl⟩
    go_wp2_with fail
    refine (awake_any _ HT.out).mono ?_
    rintro e w3 ⟨rfl, hb3⟩
    go_wp2_with fail
    go_ret
    exact ⟨rfl, hb3⟩
end Go.Proofs.YtjcllpfncohncaaDoor
