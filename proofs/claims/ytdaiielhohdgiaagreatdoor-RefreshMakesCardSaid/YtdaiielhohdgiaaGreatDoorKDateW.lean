/- The document's Parse, walked. -/
import Derived.Test.YtdaiielhohdgiaaGreatDoorKDateH
import Derived.Test.YtdaiielhohdgiaaGreatDoorKDateY3
import Derived.Deep.DeepCutAuto
import Derived.Deep.CutBlock
namespace Go.Proofs.YtdaiielhohdgiaaGreatDoor
open Go.RowKit

theorem bs_eq (a : List UInt8) (s : ByteArray) : ((bs a).toList == s.toList) = (a == s.data.toList) := by
  rw [Lib.toList_data, Lib.toList_data, bs_data]
theorem hit_no {y : Int} {m : Nat} {d h i s : Int} {t l : List UInt8} (H : mayD y m d h i s = false) : hitB y m d h i s t l = false := by unfold hitB; rw [H]; rfl
theorem hit_eq {y : Int} {m : Nat} {d h i s : Int} {t l : List UInt8} (H : mayD y m d h i s = true) : hitB y m d h i s t l = (t == l) := by unfold hitB; rw [H]; rfl
theorem may_parts {y : Int} {m : Nat} {d h i s : Int} (H : mayD y m d h i s = true) : ∃ m0 : Nat, m = m0 + 1 ∧ VD y m0 d h i s ∧ d < 100 ∧ h < 100 ∧ i < 100 ∧ s < 100 := by
  obtain ⟨m0, e, V⟩ := mayD_bd H
  obtain ⟨_, _, _, v4, v5, v6, v7⟩ := V.bd
  exact ⟨m0, e, V, v4, v5, v6, v7⟩
theorem rfixed_m {y : Int} {M : Nat} {d h i s : Int} (w : World) (H : mayD y M d h i s = true) :
    Calls Tryz.prog 51 #[.agg #[.int .i64 y, .int .i64 (M : Nat), .int .i64 d, .int .i64 h, .int .i64 i, .int .i64 s]] w fun e w' => e = .returned (.string (bs (txtA y M d h i s))) ∧ Below w.heap.size w w' := by
  obtain ⟨m0, rfl, V, v4, v5, v6, v7⟩ := may_parts H
  have := rfixed_any y (wdN y m0 d) m0 d h i s w V.1 V.2.1 V.2.2.1 V.2.2.2.1 v4 V.2.2.2.2.2.1 v5 V.2.2.2.2.2.2.2.1 v6 V.2.2.2.2.2.2.2.2.2.1 v7 (wdN_eq _ _ _)
  rw [show ((m0 + 1 : Nat) : Int) = (m0 : Int) + 1 from by omega]
  exact this
theorem rold_m {y : Int} {M : Nat} {d h i s : Int} (w : World) (H : mayD y M d h i s = true) :
    Calls Tryz.prog 54 #[.agg #[.int .i64 y, .int .i64 (M : Nat), .int .i64 d, .int .i64 h, .int .i64 i, .int .i64 s]] w fun e w' => e = .returned (.string (bs (txtB y M d h i s))) ∧ Below w.heap.size w w' := by
  obtain ⟨m0, rfl, V, v4, v5, v6, v7⟩ := may_parts H
  have := rold_any y (wdN y m0 d) m0 d h i s w V.1 V.2.1 V.2.2.1 V.2.2.2.1 v4 V.2.2.2.2.2.1 v5 V.2.2.2.2.2.2.2.1 v6 V.2.2.2.2.2.2.2.2.2.1 v7 (wdN_eq _ _ _)
  rw [show ((m0 + 1 : Nat) : Int) = (m0 : Int) + 1 from by omega]
  exact this
theorem rplainN_m {y : Int} {M : Nat} {d h i s : Int} (w : World) (H : mayD y M d h i s = true) :
    Calls Tryz.prog 55 #[.agg #[.int .i64 y, .int .i64 (M : Nat), .int .i64 d, .int .i64 h, .int .i64 i, .int .i64 s], .bool false] w fun e w' => e = .returned (.string (bs (txtC y M d h i s))) ∧ Below w.heap.size w w' := by
  obtain ⟨m0, rfl, V, v4, v5, v6, v7⟩ := may_parts H
  have := rplain_no y (wdN y m0 d) m0 d h i s w V.1 V.2.1 V.2.2.1 V.2.2.2.1 v4 V.2.2.2.2.2.1 v5 V.2.2.2.2.2.2.2.1 v6 V.2.2.2.2.2.2.2.2.2.1 v7 (wdN_eq _ _ _)
  rw [show ((m0 + 1 : Nat) : Int) = (m0 : Int) + 1 from by omega]
  exact this
theorem rplainY_m {y : Int} {M : Nat} {d h i s : Int} (w : World) (H : mayD y M d h i s = true) :
    Calls Tryz.prog 55 #[.agg #[.int .i64 y, .int .i64 (M : Nat), .int .i64 d, .int .i64 h, .int .i64 i, .int .i64 s], .bool true] w fun e w' => e = .returned (.string (bs (txtD y M d h i s))) ∧ Below w.heap.size w w' := by
  obtain ⟨m0, rfl, V, v4, v5, v6, v7⟩ := may_parts H
  have := rplain_yes y (wdN y m0 d) m0 d h i s w V.1 V.2.1 V.2.2.1 V.2.2.2.1 v4 V.2.2.2.2.2.1 v5 V.2.2.2.2.2.2.2.1 v6 V.2.2.2.2.2.2.2.2.2.1 v7 (wdN_eq _ _ _)
  rw [show ((m0 + 1 : Nat) : Int) = (m0 : Int) + 1 from by omega]
  exact this
theorem rtick_m {y : Int} {M : Nat} {d h i s : Int} (w : World) (H : mayD y M d h i s = true) :
    Calls Tryz.prog 52 #[.agg #[.int .i64 y, .int .i64 (M : Nat), .int .i64 d, .int .i64 h, .int .i64 i, .int .i64 s]] w fun e w' => e = .returned (.int .i64 (tickM y M d h i s)) ∧ Below w.heap.size w w' := by
  obtain ⟨m0, rfl, V, v4, v5, v6, v7⟩ := may_parts H
  have := rtick_any y m0 d h i s w V.1 V.2.1 (by omega) (by have := V.2.2.1; omega) (by have := V.2.2.2.1; omega) (by omega) V.2.2.2.2.2.1 (by omega) V.2.2.2.2.2.2.2.1 (by omega) V.2.2.2.2.2.2.2.2.2.1 (by omega)
  rw [show ((m0 + 1 : Nat) : Int) = (m0 : Int) + 1 from by omega]
  exact this
theorem hit_may {y : Int} {m : Nat} {d h i s : Int} {t l : List UInt8} (H : hitB y m d h i s t l = true) : mayD y m d h i s = true := by
  unfold hitB at H; rw [Bool.and_eq_true] at H; exact H.1
/-- a date's row in block b, and what lay below B is as it was -/
def CutD (B b : Nat) (row : Array Value) (w0 w : World) : Prop := w.heap[b]? = some (.cells row 84 (0, 0)) ∧ Below B w0 w
theorem CutD.step {B b : Nat} {row : Array Value} {w0 w w' : World} (h : CutD B b row w0 w) (hB : B ≤ w0.heap.size) (hb : Below w.heap.size w w') : CutD B b row w0 w' :=
  ⟨grown_block h.1 hb, h.2.trans (hb.mono (Nat.le_trans hB h.2.size))⟩
theorem comma_hit {s : ByteArray} {k : Nat} (h : k < s.size) (hn : (s.data.toList.take k).all (fun c => !(c == 44)) = true) (hc : s[k] = 44) : commaAt s.data.toList = k := by
  unfold commaAt
  have hd := drop_at h
  rw [← List.take_append_drop k s.data.toList, hd, List.findIdx_append, List.findIdx_cons, hc]
  have hl : (s.data.toList.take k).length = k := by rw [List.length_take, ← size_len]; omega
  have hf : (s.data.toList.take k).findIdx (· == 44) = (s.data.toList.take k).length := by
    rw [List.findIdx_eq_length]
    intro x hx
    have := List.all_eq_true.1 hn x hx
    simpa using this
  rw [hf, hl]
  simp
theorem comma_end {s : ByteArray} (hn : (s.data.toList.take s.size).all (fun c => !(c == 44)) = true) : commaAt s.data.toList = s.size := by
  unfold commaAt
  rw [show s.data.toList.take s.size = s.data.toList from take_all (by omega)] at hn
  rw [size_len, List.findIdx_eq_length]
  intro x hx
  have := List.all_eq_true.1 hn x hx
  simpa using this

theorem rmonth_off (s : ByteArray) (a c : Nat) (w : World) (hac : a + c ≤ 3200000) :
    Calls Tryz.prog 48 #[.string s, .int .i64 ((a : Int) + (c : Int))] w fun e w' => e = .returned (.int .i64 (monthAt s.data.toList (a + c))) ∧ Below w.heap.size w w' := by
  have := rmonth_any s (a + c) w hac
  rwa [Int.natCast_add] at this
theorem rtime_off (y m d h i sc : Int) (s : ByteArray) (a c : Nat) (w : World) (hs : s.size ≤ 3000000) (hac : a + c ≤ 3100000) :
    Calls Tryz.prog 49 #[.agg #[.int .i64 y, .int .i64 m, .int .i64 d, .int .i64 h, .int .i64 i, .int .i64 sc], .string s, .int .i64 ((a : Int) + (c : Int))] w fun e w' =>
      e = .returned (.agg #[.int .i64 y, .int .i64 m, .int .i64 d, .int .i64 (numAt s.data.toList (a + c) 2), .int .i64 (numAt s.data.toList (a + c + 3) 2), .int .i64 (numAt s.data.toList (a + c + 6) 2)]) ∧ Below w.heap.size w w' := by
  have := rtime_any y m d h i sc s (a + c) w hs hac
  rwa [Int.natCast_add] at this
theorem numAt2_bd (l : List UInt8) (a : Nat) : numAt l a 2 < 100 := by
  unfold numAt
  split
  · rename_i h
    unfold numB at h
    rw [Bool.and_eq_true] at h
    have h1 := of_decide_eq_true h.1
    have := (of_pad2 h.2 (by rw [List.length_take]; omega)).2
    omega
  · omega

set_option maxRecDepth 100000 in
set_option maxHeartbeats 16000000 in
theorem rparse_any (s : ByteArray) (now y m d h i sc : Int) (w : World) (hs : s.size ≤ 3000000) (H : IsT (clampI now) y m d h i sc) :
    Calls Tryz.prog 22 #[.string s, .int .i64 now] w fun e w' => e = .returned (ansV (rparseL (y + 50) s.data.toList)) ∧ Below w.heap.size w w' := by
  have y0 := H.1.1
  have y1 := H.1.2.1
  have HH := Lib.hid H
  clear H
  go_enter Tryz.func22, Tryz.ntmps22
  go_wp2_with fail
  refine (rnum_any s 5 2 _ hs (by omega) (by omega) (by omega)).mono ?_
  rintro e w' ⟨rfl, rfl⟩
  go_wp2_with fail
  refine (rmonth_any s 8 _ (by omega)).mono ?_
  rintro e w1 ⟨rfl, hb1⟩
  have HB1 := Lib.hid hb1
  clear hb1
  go_wp2_with fail
  refine (rnum_any s 12 4 _ hs (by omega) (by omega) (by omega)).mono ?_
  rintro e w' ⟨rfl, rfl⟩
  go_wp2_with fail
  refine (rtime_any _ _ _ _ _ _ s 17 _ hs (by omega)).mono ?_
  rintro e w2 ⟨rfl, hb2⟩
  have HA2 : Hid (CutD w.heap.size w2.heap.size (dtRow (numAt s.data.toList 12 4) (monthAt s.data.toList 8 : Nat) (numAt s.data.toList 5 2) (numAt s.data.toList 17 2) (numAt s.data.toList 20 2) (numAt s.data.toList 23 2)) w (w2.alloc (.cells (dtRow (numAt s.data.toList 12 4) (monthAt s.data.toList 8 : Nat) (numAt s.data.toList 5 2) (numAt s.data.toList 17 2) (numAt s.data.toList 20 2) (numAt s.data.toList 23 2)) 84))) := ⟨alloc_self _ _ _, (HB1.out.trans (hb2.mono HB1.out.size)).alloc (Nat.le_trans HB1.out.size hb2.size) _⟩
  clear hb2
  go_upto_region 2 with fail
  go_cut [27] (fun v wx => v = .bool (rA s.data.toList) ∧ Hid (CutD w.heap.size w2.heap.size (dtRow (numAt s.data.toList 12 4) (monthAt s.data.toList 8 : Nat) (numAt s.data.toList 5 2) (numAt s.data.toList 17 2) (numAt s.data.toList 20 2) (numAt s.data.toList 23 2)) w wx))
  case first =>
    obtain ⟨k0, k1, k2, k3, k4, k5⟩ := dt_cells HA2.out.1
    cases hm : mayD (numAt s.data.toList 12 4) (monthAt s.data.toList 8) (numAt s.data.toList 5 2) (numAt s.data.toList 17 2) (numAt s.data.toList 20 2) (numAt s.data.toList 23 2)
    · have HN : Hid (rA s.data.toList = false) := hit_no hm
      have HM := Lib.hid hm
      clear hm
      go_wp2_with fail
      refine (rmay_any _ _ _ _ _ _ _).mono ?_
      rw [HM.out]
      rintro e wa ⟨rfl, hba⟩
      have HBa := Lib.hid (HA2.out.step (Nat.le_refl _) hba)
      clear hba
      go_wp2_with fail
      go_meet
      exact ⟨by rw [HN.out], HBa⟩
    · have HN : Hid (rA s.data.toList = (txtA (numAt s.data.toList 12 4) (monthAt s.data.toList 8) (numAt s.data.toList 5 2) (numAt s.data.toList 17 2) (numAt s.data.toList 20 2) (numAt s.data.toList 23 2) == s.data.toList)) := hit_eq hm
      have HM := Lib.hid hm
      clear hm
      go_wp2_with fail
      refine (rmay_any _ _ _ _ _ _ _).mono ?_
      rw [HM.out]
      rintro e wa ⟨rfl, hba⟩
      have HBa := Lib.hid (HA2.out.step (Nat.le_refl _) hba)
      clear hba k0 k1 k2 k3 k4 k5
      obtain ⟨k0, k1, k2, k3, k4, k5⟩ := dt_cells HBa.out.1
      go_wp2_with fail
      refine (rfixed_m _ HM.out).mono ?_
      rintro e wb ⟨rfl, hbb⟩
      have HBb := Lib.hid (HBa.out.step (Nat.le_refl _) hbb)
      clear hbb
      go_wp2_with fail
      go_meet
      exact ⟨by rw [HN.out, ← bs_eq], HBb⟩
  case rest =>
    obtain ⟨rfl, HA3⟩ := hcut
    cases hh : rA s.data.toList
    · have HAf := Lib.hid hh
      clear hh
      go_upto_block 0 with fail
      go_cut [7] (fun v wx => ∃ k : Nat, v = .int .i64 k ∧ k ≤ s.size ∧ commaAt s.data.toList = k ∧ Hid (CutD w.heap.size w2.heap.size (dtRow (numAt s.data.toList 12 4) (monthAt s.data.toList 8 : Nat) (numAt s.data.toList 5 2) (numAt s.data.toList 17 2) (numAt s.data.toList 20 2) (numAt s.data.toList 23 2)) w wx))
      case first =>
        go_wp2_with fail
        go_loop [7] (fun x => ∃ k : Nat, k ≤ s.size ∧ x = .int .i64 k ∧ Hid ((s.data.toList.take k).all (fun c => !(c == 44)) = true)) (fun x => s.size - (intOf x).toNat)
        case atStart => exact ⟨0, Nat.zero_le _, rfl, rfl⟩
        case round =>
          obtain ⟨k, hk, rfl, HK⟩ := hrel
          rcases (show (∃ h : k < s.size, s[k] ≠ 44) ∨ ((∃ h : k < s.size, s[k] = 44) ∨ k = s.size) by
            by_cases h : k < s.size
            · by_cases c : s[k] = 44
              · exact .inr (.inl ⟨h, c⟩)
              · exact .inl ⟨h, c⟩
            · exact .inr (.inr (by omega))) with ⟨hlt, hc⟩ | hend
          · have hc2 : ((s[k].toNat : Int) != 44) = true := by
              rw [bne_iff_ne]; intro e
              exact hc (UInt8.toNat.inj (by show s[k].toNat = 44; omega))
            have HK2 : Hid ((s.data.toList.take (k + 1)).all (fun c => !(c == 44)) = true) := by
              show _ = _
              rw [take_snoc s k hlt, List.all_append, HK.out]; simp [hc]
            clear hc
            go_wp2_with fail
            go_round
            case rel => exact ⟨k + 1, by omega, by go_num, HK2⟩
            case measure => simp [intOf]; omega
          · have HKA : Hid (commaAt s.data.toList = k) := by
              rcases hend with ⟨h, c⟩ | rfl
              · exact comma_hit h HK.out c
              · exact comma_end HK.out
            rcases hend with ⟨hlt, hc⟩ | hend
            · have hc2 : ((s[k].toNat : Int) != 44) = false := by rw [hc]; rfl
              clear hc
              go_wp2_with fail
              go_meet
              exact ⟨k, rfl, hk, HKA.out, HA3⟩
            · have hlt : ¬ k < s.size := by omega
              go_wp2_with fail
              go_meet
              exact ⟨k, by first | rfl | (rw [hend]), hk, HKA.out, HA3⟩
      case rest =>
        obtain ⟨k, rfl, hk, hka, HA4⟩ := hcut
        have HKA := Lib.hid hka
        clear hka
        have nb := numAt2_bd s.data.toList (k + 9)
        go_wp2_with fail
        refine (rnum_off s k 9 2 _ hs (by omega) (by omega) (by omega)).mono ?_
        rintro e w' ⟨rfl, rfl⟩
        go_upto_if 47 with fail
        go_cut [] (fun wx => Hid (Below w.heap.size w wx ∧ (decide (0 ≤ numAt s.data.toList (k + 9) 2) && rBa (y + 50) s.data.toList k) = false))
        case first =>
          by_cases hsh : 0 ≤ numAt s.data.toList (k + 9) 2
          · have hshd : decide (0 ≤ numAt s.data.toList (k + 9) 2) = true := decide_eq_true hsh
            go_wp2_with fail
            refine (rnum_off s k 2 2 _ hs (by omega) (by omega) (by omega)).mono ?_
            rintro e w' ⟨rfl, rfl⟩
            go_wp2_with fail
            refine (rmonth_off s k 5 _ (by omega)).mono ?_
            rintro e wb1 ⟨rfl, hd1⟩
            have HB5 := Lib.hid (HA4.out.2.trans (hd1.mono HA4.out.2.size))
            clear hd1
            go_wp2_with fail
            refine (rnear_any _ _ _ _ _ _ _ _ _ hsh nb HH.out).mono ?_
            rintro e wb2 ⟨rfl, hd2⟩
            have HB6 := Lib.hid (HB5.out.trans (hd2.mono HB5.out.size))
            clear hd2
            go_wp2_with fail
            refine (rtime_off _ _ _ _ _ _ s k 12 _ hs (by omega)).mono ?_
            rintro e wb3 ⟨rfl, hd3⟩
            have HB7 : Hid (CutD w.heap.size wb3.heap.size (dtRow (nearI (y + 50) (numAt s.data.toList (k + 9) 2)) (monthAt s.data.toList (k + 5) : Nat) (numAt s.data.toList (k + 2) 2) (numAt s.data.toList (k + 12) 2) (numAt s.data.toList (k + 12 + 3) 2) (numAt s.data.toList (k + 12 + 6) 2)) w (wb3.alloc (.cells (dtRow (nearI (y + 50) (numAt s.data.toList (k + 9) 2)) (monthAt s.data.toList (k + 5) : Nat) (numAt s.data.toList (k + 2) 2) (numAt s.data.toList (k + 12) 2) (numAt s.data.toList (k + 12 + 3) 2) (numAt s.data.toList (k + 12 + 6) 2)) 84))) := ⟨alloc_self _ _ _, (HB6.out.trans (hd3.mono HB6.out.size)).alloc (Nat.le_trans HB6.out.size hd3.size) _⟩
            clear hd3
            go_upto_region 10 with fail
            go_cut [71] (fun v wx => v = .bool (rBa (y + 50) s.data.toList k) ∧ Hid (CutD w.heap.size wb3.heap.size (dtRow (nearI (y + 50) (numAt s.data.toList (k + 9) 2)) (monthAt s.data.toList (k + 5) : Nat) (numAt s.data.toList (k + 2) 2) (numAt s.data.toList (k + 12) 2) (numAt s.data.toList (k + 12 + 3) 2) (numAt s.data.toList (k + 12 + 6) 2)) w wx))
            case first =>
              obtain ⟨k0, k1, k2, k3, k4, k5⟩ := dt_cells HB7.out.1
              cases hm : mayD (nearI (y + 50) (numAt s.data.toList (k + 9) 2)) (monthAt s.data.toList (k + 5)) (numAt s.data.toList (k + 2) 2) (numAt s.data.toList (k + 12) 2) (numAt s.data.toList (k + 12 + 3) 2) (numAt s.data.toList (k + 12 + 6) 2)
              · have HN : Hid (rBa (y + 50) s.data.toList k = false) := hit_no hm
                have HM := Lib.hid hm
                clear hm
                go_wp2_with fail
                refine (rmay_any _ _ _ _ _ _ _).mono ?_
                rw [HM.out]
                rintro e wa ⟨rfl, hba⟩
                have HBa := Lib.hid (HB7.out.step (Nat.le_refl _) hba)
                clear hba
                go_wp2_with fail
                go_meet
                exact ⟨by rw [HN.out], HBa⟩
              · have HN : Hid (rBa (y + 50) s.data.toList k = (txtB (nearI (y + 50) (numAt s.data.toList (k + 9) 2)) (monthAt s.data.toList (k + 5)) (numAt s.data.toList (k + 2) 2) (numAt s.data.toList (k + 12) 2) (numAt s.data.toList (k + 12 + 3) 2) (numAt s.data.toList (k + 12 + 6) 2) == s.data.toList)) := hit_eq hm
                have HM := Lib.hid hm
                clear hm
                go_wp2_with fail
                refine (rmay_any _ _ _ _ _ _ _).mono ?_
                rw [HM.out]
                rintro e wa ⟨rfl, hba⟩
                have HBa := Lib.hid (HB7.out.step (Nat.le_refl _) hba)
                clear hba k0 k1 k2 k3 k4 k5
                obtain ⟨k0, k1, k2, k3, k4, k5⟩ := dt_cells HBa.out.1
                go_wp2_with fail
                refine (rold_m _ HM.out).mono ?_
                rintro e wb ⟨rfl, hbb⟩
                have HBb := Lib.hid (HBa.out.step (Nat.le_refl _) hbb)
                clear hbb
                go_wp2_with fail
                go_meet
                exact ⟨by rw [HN.out, ← bs_eq], HBb⟩
            case rest =>
              obtain ⟨rfl, HB8⟩ := hcut
              cases hh : rBa (y + 50) s.data.toList k
              · have HBf := Lib.hid hh
                clear hh
                go_wp2_with fail
                go_meet
                exact ⟨HB8.out.2, by rw [HBf.out, Bool.and_false]⟩
              · have HM := Lib.hid (hit_may hh)
                have HR : Hid (rparseL (y + 50) s.data.toList = some (tBa (y + 50) s.data.toList (commaAt s.data.toList))) := by show _ = _; unfold rparseL; rw [HAf.out, HKA.out, hshd, hh]; rfl
                clear hh
                obtain ⟨k0, k1, k2, k3, k4, k5⟩ := dt_cells HB8.out.1
                go_wp2_with fail
                refine (rtick_m _ HM.out).mono ?_
                rintro e wz ⟨rfl, hbz⟩
                go_wp2_with fail
                go_ret2
                exact ⟨by rw [HR.out, HKA.out]; rfl, (HB8.out.step (Nat.le_refl _) hbz).2⟩
          · have hshd : decide (0 ≤ numAt s.data.toList (k + 9) 2) = false := decide_eq_false hsh
            go_wp2_with fail
            go_meet
            exact ⟨HA4.out.2, by rw [hshd, Bool.false_and]⟩
        case rest =>
          have HBl : Hid (Below w.heap.size w wc) := hcut.out.1
          have HBf : Hid ((decide (0 ≤ numAt s.data.toList (k + 9) 2) && rBa (y + 50) s.data.toList k) = false) := hcut.out.2
          clear hcut
          go_wp2_with fail
          refine (rnum_any s 8 2 _ hs (by omega) (by omega) (by omega)).mono ?_
          rintro e w' ⟨rfl, rfl⟩
          go_wp2_with fail
          refine (rmonth_any s 4 _ (by omega)).mono ?_
          rintro e wc1 ⟨rfl, hc1⟩
          have HC1 := Lib.hid (HBl.out.trans (hc1.mono HBl.out.size))
          clear hc1
          go_wp2_with fail
          refine (rnum_any s 20 4 _ hs (by omega) (by omega) (by omega)).mono ?_
          rintro e w' ⟨rfl, rfl⟩
          go_wp2_with fail
          refine (rtime_any _ _ _ _ _ _ s 11 _ hs (by omega)).mono ?_
          rintro e wc2 ⟨rfl, hc2⟩
          have HC2 : Hid (CutD w.heap.size wc2.heap.size (dtRow (numAt s.data.toList 20 4) (monthAt s.data.toList 4 : Nat) (numAt s.data.toList 8 2) (numAt s.data.toList 11 2) (numAt s.data.toList 14 2) (numAt s.data.toList 17 2)) w (wc2.alloc (.cells (dtRow (numAt s.data.toList 20 4) (monthAt s.data.toList 4 : Nat) (numAt s.data.toList 8 2) (numAt s.data.toList 11 2) (numAt s.data.toList 14 2) (numAt s.data.toList 17 2)) 84))) := ⟨alloc_self _ _ _, (HC1.out.trans (hc2.mono HC1.out.size)).alloc (Nat.le_trans HC1.out.size hc2.size) _⟩
          have HZ : Hid (w.heap.size ≤ wc2.heap.size) := Nat.le_trans HC1.out.size hc2.size
          clear hc2
          go_upto_region 13 with fail
          go_cut [90] (fun v wx => v = .bool (rC s.data.toList) ∧ Hid (CutD w.heap.size wc2.heap.size (dtRow (numAt s.data.toList 20 4) (monthAt s.data.toList 4 : Nat) (numAt s.data.toList 8 2) (numAt s.data.toList 11 2) (numAt s.data.toList 14 2) (numAt s.data.toList 17 2)) w wx))
          case first =>
            obtain ⟨k0, k1, k2, k3, k4, k5⟩ := dt_cells HC2.out.1
            cases hm : mayD (numAt s.data.toList 20 4) (monthAt s.data.toList 4) (numAt s.data.toList 8 2) (numAt s.data.toList 11 2) (numAt s.data.toList 14 2) (numAt s.data.toList 17 2)
            · have HN : Hid (rC s.data.toList = false) := hit_no hm
              have HM := Lib.hid hm
              clear hm
              go_wp2_with fail
              refine (rmay_any _ _ _ _ _ _ _).mono ?_
              rw [HM.out]
              rintro e wa ⟨rfl, hba⟩
              have HBa := Lib.hid (HC2.out.step (Nat.le_refl _) hba)
              clear hba
              go_wp2_with fail
              go_meet
              exact ⟨by rw [HN.out], HBa⟩
            · have HN : Hid (rC s.data.toList = (txtC (numAt s.data.toList 20 4) (monthAt s.data.toList 4) (numAt s.data.toList 8 2) (numAt s.data.toList 11 2) (numAt s.data.toList 14 2) (numAt s.data.toList 17 2) == s.data.toList)) := hit_eq hm
              have HM := Lib.hid hm
              clear hm
              go_wp2_with fail
              refine (rmay_any _ _ _ _ _ _ _).mono ?_
              rw [HM.out]
              rintro e wa ⟨rfl, hba⟩
              have HBa := Lib.hid (HC2.out.step (Nat.le_refl _) hba)
              clear hba k0 k1 k2 k3 k4 k5
              obtain ⟨k0, k1, k2, k3, k4, k5⟩ := dt_cells HBa.out.1
              go_wp2_with fail
              refine (rplainN_m _ HM.out).mono ?_
              rintro e wb ⟨rfl, hbb⟩
              have HBb := Lib.hid (HBa.out.step (Nat.le_refl _) hbb)
              clear hbb
              go_wp2_with fail
              go_meet
              exact ⟨by rw [HN.out, ← bs_eq], HBb⟩
          case rest =>
            obtain ⟨rfl, HC3⟩ := hcut
            cases hh : rC s.data.toList
            · have HCf := Lib.hid hh
              clear hh
              go_wp2_with fail
              refine (rnum_any s 9 1 _ hs (by omega) (by omega) (by omega)).mono ?_
              rintro e w' ⟨rfl, rfl⟩
              obtain ⟨k0, k1, k2, k3, k4, k5⟩ := dt_cells HC3.out.1
              have f2 := dt_free HC3.out.1 2
              have HD : Hid (CutD w.heap.size wc2.heap.size (dtRow (numAt s.data.toList 20 4) (monthAt s.data.toList 4 : Nat) (numAt s.data.toList 9 1) (numAt s.data.toList 11 2) (numAt s.data.toList 14 2) (numAt s.data.toList 17 2)) w (wc.setCell ⟨wc2.heap.size, 2, none⟩ (.int .i64 (numAt s.data.toList 9 1)))) := ⟨set_block HC3.out.1 _, HC3.out.2.setCell (by show w.heap.size ≤ wc2.heap.size; exact HZ.out) _⟩
              go_upto_region 16 with fail
              clear k0 k1 k2 k3 k4 k5 f2
              go_cut [103] (fun v wx => v = .bool (rD s.data.toList) ∧ Hid (CutD w.heap.size wc2.heap.size (dtRow (numAt s.data.toList 20 4) (monthAt s.data.toList 4 : Nat) (numAt s.data.toList 9 1) (numAt s.data.toList 11 2) (numAt s.data.toList 14 2) (numAt s.data.toList 17 2)) w wx))
              case first =>
                obtain ⟨k0, k1, k2, k3, k4, k5⟩ := dt_cells HD.out.1
                cases hm : mayD (numAt s.data.toList 20 4) (monthAt s.data.toList 4) (numAt s.data.toList 9 1) (numAt s.data.toList 11 2) (numAt s.data.toList 14 2) (numAt s.data.toList 17 2)
                · have HN : Hid (rD s.data.toList = false) := hit_no hm
                  have HM := Lib.hid hm
                  clear hm
                  go_wp2_with fail
                  refine (rmay_any _ _ _ _ _ _ _).mono ?_
                  rw [HM.out]
                  rintro e wa ⟨rfl, hba⟩
                  have HBa := Lib.hid (HD.out.step (Nat.le_refl _) hba)
                  clear hba
                  go_wp2_with fail
                  go_meet
                  exact ⟨by rw [HN.out], HBa⟩
                · have HN : Hid (rD s.data.toList = (txtD (numAt s.data.toList 20 4) (monthAt s.data.toList 4) (numAt s.data.toList 9 1) (numAt s.data.toList 11 2) (numAt s.data.toList 14 2) (numAt s.data.toList 17 2) == s.data.toList)) := hit_eq hm
                  have HM := Lib.hid hm
                  clear hm
                  go_wp2_with fail
                  refine (rmay_any _ _ _ _ _ _ _).mono ?_
                  rw [HM.out]
                  rintro e wa ⟨rfl, hba⟩
                  have HBa := Lib.hid (HD.out.step (Nat.le_refl _) hba)
                  clear hba k0 k1 k2 k3 k4 k5
                  obtain ⟨k0, k1, k2, k3, k4, k5⟩ := dt_cells HBa.out.1
                  go_wp2_with fail
                  refine (rplainY_m _ HM.out).mono ?_
                  rintro e wb ⟨rfl, hbb⟩
                  have HBb := Lib.hid (HBa.out.step (Nat.le_refl _) hbb)
                  clear hbb
                  go_wp2_with fail
                  go_meet
                  exact ⟨by rw [HN.out, ← bs_eq], HBb⟩
              case rest =>
                obtain ⟨rfl, HE⟩ := hcut
                cases hh : rD s.data.toList
                · have HR : Hid (rparseL (y + 50) s.data.toList = none) := by show _ = _; unfold rparseL; rw [HAf.out, HKA.out, HBf.out, HCf.out, hh]; rfl
                  clear hh
                  go_wp2_with fail
                  go_ret2
                  exact ⟨by rw [HR.out]; rfl, HE.out.2⟩
                · have HM := Lib.hid (hit_may hh)
                  have HR : Hid (rparseL (y + 50) s.data.toList = some (tD s.data.toList)) := by show _ = _; unfold rparseL; rw [HAf.out, HKA.out, HBf.out, HCf.out, hh]; rfl
                  clear hh
                  obtain ⟨k0, k1, k2, k3, k4, k5⟩ := dt_cells HE.out.1
                  go_wp2_with fail
                  refine (rtick_m _ HM.out).mono ?_
                  rintro e wz ⟨rfl, hbz⟩
                  go_wp2_with fail
                  go_ret2
                  exact ⟨by rw [HR.out]; rfl, (HE.out.step (Nat.le_refl _) hbz).2⟩
            · have HM := Lib.hid (hit_may hh)
              have HR : Hid (rparseL (y + 50) s.data.toList = some (tC s.data.toList)) := by show _ = _; unfold rparseL; rw [HAf.out, HKA.out, HBf.out, hh]; rfl
              clear hh
              obtain ⟨k0, k1, k2, k3, k4, k5⟩ := dt_cells HC3.out.1
              go_wp2_with fail
              refine (rtick_m _ HM.out).mono ?_
              rintro e wz ⟨rfl, hbz⟩
              go_wp2_with fail
              go_ret2
              exact ⟨by rw [HR.out]; rfl, (HC3.out.step (Nat.le_refl _) hbz).2⟩
    · have HM := Lib.hid (hit_may hh)
      have HR : Hid (rparseL (y + 50) s.data.toList = some (tA s.data.toList)) := by show _ = _; unfold rparseL; rw [hh]; rfl
      clear hh
      obtain ⟨k0, k1, k2, k3, k4, k5⟩ := dt_cells HA3.out.1
      go_wp2_with fail
      refine (rtick_m _ HM.out).mono ?_
      rintro e wz ⟨rfl, hbz⟩
      go_wp2_with fail
      go_ret2
      exact ⟨by rw [HR.out]; rfl, (HA3.out.step (Nat.le_refl _) hbz).2⟩
end Go.Proofs.YtdaiielhohdgiaaGreatDoor
