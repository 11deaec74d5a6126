/- The statements of layer 2, walked. -/
import Derived.Test.YtfcfhdejiaokjaaDoorTickD
import Derived.Test.YtfcfhdejiaokjaaDoorTab
import Derived.Lib.ItoaLen
namespace Go.Proofs.YtfcfhdejiaokjaaDoor
open Go.RowKit

set_option maxHeartbeats 400000 in
theorem tickSums_any (a b : Int) (w : World) (_wa : (Lit.int .i64 a).wf = true) (_wb : (Lit.int .i64 b).wf = true) (ht : Tab w) :
    Calls Tryd.prog 3 #[.int .i64 a, .int .i64 b] w fun e w' => e = .returned (.bool true) ∧ Below w.heap.size w w' := by
  have HT := Lib.hid ht; clear ht
  go_enter Tryd.func3, Tryd.ntmps3
  go_wp2_with fail
  refine (of_any _ _).mono ?_
  rintro e w1 ⟨rfl, rfl⟩
  go_wp2_with fail
  refine (rof_any _ _).mono ?_
  rintro e w1 ⟨rfl, rfl⟩
  go_wp2_with fail
  refine (add_any _ _ _).mono ?_
  rintro e w1 ⟨rfl, rfl⟩
  go_wp2_with fail
  refine (radd_any _ _ _).mono ?_
  rintro e w1 ⟨rfl, rfl⟩
  go_wp2_with fail
  refine (less_any _ _ _).mono ?_
  rintro e w1 ⟨rfl, rfl⟩
  go_wp2_with fail
  refine (rless_any _ _ _).mono ?_
  rintro e w1 ⟨rfl, rfl⟩
  go_wp2_with fail
  refine (works2_any _ HT.out).mono ?_
  rintro e w1 ⟨rfl, hb⟩
  go_wp2_with fail
  go_ret
  exact ⟨rfl, hb⟩

theorem i64_bd {n : Int} (h : (Lit.int .i64 n).wf = true) : -9223372036854775808 ≤ n ∧ n ≤ 9223372036854775807 := by
  simp [Lit.wf, IntKind.min, IntKind.max, IntKind.bits, IntKind.signed] at h
  omega

set_option maxHeartbeats 400000 in
theorem tickSince_any (a b : Int) (w : World) (wa : (Lit.int .i64 a).wf = true) (wb : (Lit.int .i64 b).wf = true) (ht : Tab w) :
    Calls Tryd.prog 4 #[.int .i64 a, .int .i64 b] w fun e w' => e = .returned (.bool true) ∧ Below w.heap.size w w' := by
  have HT := Lib.hid ht; clear ht
  have ba := i64_bd wa
  have bb := i64_bd wb
  go_enter Tryd.func4, Tryd.ntmps4
  go_wp2_with fail
  refine (since_any _ _ _ ba.1 bb.2).mono ?_
  rintro e w1 ⟨rfl, rfl⟩
  go_wp2_with fail
  refine (rsince_any _ _ _ ba.1 ba.2 bb.1 bb.2).mono ?_
  rintro e w1 ⟨rfl, rfl⟩
  go_wp2_with fail
  refine (works2_any _ HT.out).mono ?_
  rintro e w1 ⟨rfl, hb⟩
  go_wp2_with fail
  go_ret
  exact ⟨rfl, hb⟩

set_option maxHeartbeats 400000 in
theorem tickTexts_any (s : ByteArray) (n : Int) (w : World) (hs : s.size ≤ maxLen) (_wn : (Lit.int .i64 n).wf = true) (ht : Tab w) :
    Calls Tryd.prog 5 #[.string s, .int .i64 n] w fun e w' => e = .returned (.bool true) ∧ Below w.heap.size w w' := by
  have HT := Lib.hid ht; clear ht
  have hs2 := hs
  unfold maxLen at hs2
  by_cases hl : 3000 < s.size
  · go_enter Tryd.func5, Tryd.ntmps5
    go_wp2_with fail
    refine (works2_any _ HT.out).mono ?_
    rintro e w1 ⟨rfl, hb⟩
    go_wp2_with fail
    go_ret
    exact ⟨rfl, hb⟩
  · go_enter Tryd.func5, Tryd.ntmps5
    go_wp2_with fail
    refine (delta_any _ _ hs).mono ?_
    rintro e w1 ⟨rfl, rfl⟩
    go_wp2_with fail
    refine (rdelta_any _ _ hs).mono ?_
    rintro e w1 ⟨rfl, rfl⟩
    go_wp2_with fail
    refine (put_any _ _ HT.out).mono ?_
    rintro e w1 ⟨rfl, hb1⟩
    have HT1 := Lib.hid (HT.out.below hb1 (Nat.le_refl _))
    go_wp2_with fail
    refine (rput_any _ _).mono ?_
    rintro e w2 ⟨rfl, hb2⟩
    have HT2 := Lib.hid (HT1.out.below hb2 (Nat.le_refl _))
    go_wp2_with fail
    refine (works2_any _ HT2.out).mono ?_
    rintro e w3 ⟨rfl, hb3⟩
    go_wp2_with fail
    go_ret
    exact ⟨rfl, hb1.trans ((hb2.mono hb1.size).trans (hb3.mono (Nat.le_trans hb1.size hb2.size)))⟩

theorem put_len (n : Int) : (bs (putL n)).size ≤ maxLen := by
  rw [bs_size]
  unfold putL
  rw [Lib.decDigits_length]
  have h1 := ofI_lo n
  have h2 := ofI_hi n
  have := Lib.nDigits_le20 (ofI n).toNat (by omega)
  unfold maxLen; omega

theorem add_comm' (a b : Int) : addI a b = addI b a := by unfold addI; rw [Int.add_comm]
theorem add_assoc' (a b c : Int) : addI a (addI b c) = addI (addI a b) c := by
  simp only [addI, ofI_mm]; omega
theorem add_ge (a b : Int) : ofI a ≤ addI a b := by
  simp only [addI, ofI_mm]; omega
theorem less_add (a b : Int) : lessI (addI a b) b ≤ ofI a := by
  simp only [addI, lessI, ofI_mm]; omega
theorem add_less (a b : Int) : ofI a ≤ addI (lessI a b) b := by
  simp only [addI, lessI, ofI_mm]; omega
theorem add_zero' (a : Int) : addI a 0 = ofI a := by
  simp only [addI, ofI_mm]; omega
theorem since_add (x y z : Int) (h1 : x ≤ y) (h2 : y ≤ z) : addI (sinceI x y) (sinceI y z) = sinceI x z := by
  simp only [addI, sinceI, ofI_mm]; omega
theorem since_no (x z : Int) (h1 : x ≤ z) : sinceI z x = 0 := by
  simp only [sinceI, ofI_mm]; omega

set_option maxHeartbeats 400000 in
theorem tickBack_any (a b : Int) (w : World) (_wa : (Lit.int .i64 a).wf = true) (_wb : (Lit.int .i64 b).wf = true) (ht : Tab w) :
    Calls Tryd.prog 6 #[.int .i64 a, .int .i64 b] w fun e w' => e = .returned (.bool true) ∧ Below w.heap.size w w' := by
  have HT := Lib.hid ht; clear ht
  have HD := Lib.hid (del_put a)
  have HI := Lib.hid (ofI_ofI a)
  have g1 := ofI_lo a
  have g2 := ofI_hi a
  by_cases hab : b < a
  · go_enter Tryd.func6, Tryd.ntmps6
    go_wp2_with fail
    refine (put_any _ _ HT.out).mono ?_
    rintro e w1 ⟨rfl, hb1⟩
    have HT1 := Lib.hid (HT.out.below hb1 (Nat.le_refl _))
    go_wp2_with fail
    refine (delta_any _ _ (put_len a)).mono ?_
    rw [bs_data, HD.out.1, HD.out.2]
    rintro e w2 ⟨rfl, rfl⟩
    go_wp2_with fail
    refine (of_any _ _).mono ?_
    rintro e w2 ⟨rfl, rfl⟩
    go_wp2_with fail
    refine (of_any _ _).mono ?_
    rw [HI.out]
    rintro e w2 ⟨rfl, rfl⟩
    go_wp2_with fail
    refine (works2_any _ HT1.out).mono ?_
    rintro e w3 ⟨rfl, hb3⟩
    go_wp2_with fail
    go_ret
    exact ⟨rfl, hb1.trans (hb3.mono hb1.size)⟩
  · have hm := ofI_mono (Int.not_lt.1 hab)
    go_enter Tryd.func6, Tryd.ntmps6
    go_wp2_with fail
    refine (put_any _ _ HT.out).mono ?_
    rintro e w1 ⟨rfl, hb1⟩
    have HT1 := Lib.hid (HT.out.below hb1 (Nat.le_refl _))
    go_wp2_with fail
    refine (delta_any _ _ (put_len a)).mono ?_
    rw [bs_data, HD.out.1, HD.out.2]
    rintro e w2 ⟨rfl, rfl⟩
    go_wp2_with fail
    refine (of_any _ _).mono ?_
    rintro e w2 ⟨rfl, rfl⟩
    go_wp2_with fail
    refine (of_any _ _).mono ?_
    rintro e w2 ⟨rfl, rfl⟩
    go_wp2_with fail
    refine (of_any _ _).mono ?_
    rw [HI.out]
    rintro e w2 ⟨rfl, rfl⟩
    go_wp2_with fail
    refine (works2_any _ HT1.out).mono ?_
    rintro e w3 ⟨rfl, hb3⟩
    go_wp2_with fail
    go_ret
    exact ⟨rfl, hb1.trans (hb3.mono hb1.size)⟩

set_option maxHeartbeats 400000 in
theorem tickRing_any (a b c : Int) (w : World) (_wa : (Lit.int .i64 a).wf = true) (_wb : (Lit.int .i64 b).wf = true) (_wc : (Lit.int .i64 c).wf = true) (ht : Tab w) :
    Calls Tryd.prog 7 #[.int .i64 a, .int .i64 b, .int .i64 c] w fun e w' => e = .returned (.bool true) ∧ Below w.heap.size w w' := by
  have HT := Lib.hid ht; clear ht
  have f1 := add_ge a b
  have f2 := less_add a b
  have f3 := add_less a b
  go_enter Tryd.func7, Tryd.ntmps7
  go_wp2_with fail
  refine (add_any _ _ _).mono ?_
  rintro e w1 ⟨rfl, rfl⟩
  go_wp2_with fail
  refine (add_any _ _ _).mono ?_
  rw [add_comm' b a]
  rintro e w1 ⟨rfl, rfl⟩
  go_wp2_with fail
  refine (add_any _ _ _).mono ?_
  rintro e w1 ⟨rfl, rfl⟩
  go_wp2_with fail
  refine (add_any _ _ _).mono ?_
  rintro e w1 ⟨rfl, rfl⟩
  go_wp2_with fail
  refine (add_any _ _ _).mono ?_
  rw [add_assoc' a b c]
  rintro e w1 ⟨rfl, rfl⟩
  go_wp2_with fail
  refine (of_any _ _).mono ?_
  rintro e w1 ⟨rfl, rfl⟩
  go_wp2_with fail
  refine (less_any _ _ _).mono ?_
  rintro e w1 ⟨rfl, rfl⟩
  go_wp2_with fail
  refine (of_any _ _).mono ?_
  rintro e w1 ⟨rfl, rfl⟩
  go_wp2_with fail
  refine (less_any _ _ _).mono ?_
  rintro e w1 ⟨rfl, rfl⟩
  go_wp2_with fail
  refine (add_any _ _ _).mono ?_
  rintro e w1 ⟨rfl, rfl⟩
  go_wp2_with fail
  refine (of_any _ _).mono ?_
  rintro e w1 ⟨rfl, rfl⟩
  go_wp2_with fail
  refine (add_any _ _ _).mono ?_
  rw [add_zero' a]
  rintro e w1 ⟨rfl, rfl⟩
  go_wp2_with fail
  refine (of_any _ _).mono ?_
  rintro e w1 ⟨rfl, rfl⟩
  go_wp2_with fail
  refine (works2_any _ HT.out).mono ?_
  rintro e w1 ⟨rfl, hb⟩
  go_wp2_with fail
  go_ret
  exact ⟨rfl, hb⟩

theorem k_known : addI 2147483647 1 = 2147483648 ∧ addI (-5) 7 = 7 ∧ lessI 3 5 = 0 ∧ lessI 5 (-3) = 5 ∧ sinceI (-9223372036854775808) 9223372036854775807 = 2147483648 ∧ sinceI 5 3 = 0 := by decide
theorem k_of : ofI (-5) = 0 ∧ ofI 2147483648 = 2147483648 ∧ ofI 2147483649 = 2147483648 ∧ ofI 9223372036854775807 = 2147483648 := by decide
theorem k_del : delI [57, 57, 57, 57, 57, 57, 57, 57, 57, 57, 57, 57, 57, 57, 57, 57, 57, 57, 57, 57] = 2147483648 ∧ isDel [57, 57, 57, 57, 57, 57, 57, 57, 57, 57, 57, 57, 57, 57, 57, 57, 57, 57, 57, 57] = true := by decide
theorem k_put0 : putL (-1) = [48] := by unfold putL; rw [ofI_neg (by omega), Lib.decDigits, dif_pos (by decide)]; rfl
theorem k_putM : putL 2147483649 = [50, 49, 52, 55, 52, 56, 51, 54, 52, 56] := by
  unfold putL; rw [ofI_big (by omega), show ((2147483648 : Int).toNat) = 2147483648 from rfl]
  iterate 9 rw [Lib.decDigits, dif_neg (by decide)]
  rw [Lib.decDigits, dif_pos (by decide)]; decide

set_option maxHeartbeats 2000000 in
theorem tickWays_any (a b c : Int) (w : World) (wa : (Lit.int .i64 a).wf = true) (wb : (Lit.int .i64 b).wf = true) (wc : (Lit.int .i64 c).wf = true) (ht : Tab w) :
    Calls Tryd.prog 8 #[.int .i64 a, .int .i64 b, .int .i64 c] w fun e w' => e = .returned (.bool true) ∧ Below w.heap.size w w' := by
  have HT := Lib.hid ht; clear ht
  obtain ⟨a1, a2⟩ := i64_bd wa
  obtain ⟨b1, b2⟩ := i64_bd wb
  obtain ⟨c1, c2⟩ := i64_bd wc
  clear wa wb wc
  rcases Int.lt_or_le a b with h1 | h1 <;> rcases Int.lt_or_le b c with h2 | h2 <;> rcases Int.lt_or_le a c with h3 | h3
  all_goals first | (exfalso; omega) | skip
  all_goals
    go_enter Tryd.func8, Tryd.ntmps8
    go_wp2_with fail
    all_goals
      first | rw [show max (min a b) (min (max a b) c) = a from by omega] | rw [show max (min a b) (min (max a b) c) = b from by omega] | rw [show max (min a b) (min (max a b) c) = c from by omega]
      refine (since_any _ _ _ (by omega) (by omega)).mono ?_
      rintro e w1 ⟨rfl, rfl⟩
      go_wp2_with fail
      refine (since_any _ _ _ (by omega) (by omega)).mono ?_
      rintro e w1 ⟨rfl, rfl⟩
      go_wp2_with fail
      refine (add_any _ _ _).mono ?_
      first | rw [since_add a a a (by omega) (by omega)] | rw [since_add a a b (by omega) (by omega)] | rw [since_add a a c (by omega) (by omega)] | rw [since_add a b a (by omega) (by omega)] | rw [since_add a b b (by omega) (by omega)] | rw [since_add a b c (by omega) (by omega)] | rw [since_add a c a (by omega) (by omega)] | rw [since_add a c b (by omega) (by omega)] | rw [since_add a c c (by omega) (by omega)] | rw [since_add b a a (by omega) (by omega)] | rw [since_add b a b (by omega) (by omega)] | rw [since_add b a c (by omega) (by omega)] | rw [since_add b b a (by omega) (by omega)] | rw [since_add b b b (by omega) (by omega)] | rw [since_add b b c (by omega) (by omega)] | rw [since_add b c a (by omega) (by omega)] | rw [since_add b c b (by omega) (by omega)] | rw [since_add b c c (by omega) (by omega)] | rw [since_add c a a (by omega) (by omega)] | rw [since_add c a b (by omega) (by omega)] | rw [since_add c a c (by omega) (by omega)] | rw [since_add c b a (by omega) (by omega)] | rw [since_add c b b (by omega) (by omega)] | rw [since_add c b c (by omega) (by omega)] | rw [since_add c c a (by omega) (by omega)] | rw [since_add c c b (by omega) (by omega)] | rw [since_add c c c (by omega) (by omega)]
      rintro e w1 ⟨rfl, rfl⟩
      go_wp2_with fail
      refine (since_any _ _ _ (by omega) (by omega)).mono ?_
      rintro e w1 ⟨rfl, rfl⟩
      go_wp2_with fail
      refine (since_any _ _ _ (by omega) (by omega)).mono ?_
      (try rw [since_no a a (by omega)]); (try rw [since_no a b (by omega)]); (try rw [since_no a c (by omega)]); (try rw [since_no b a (by omega)]); (try rw [since_no b b (by omega)]); (try rw [since_no b c (by omega)]); (try rw [since_no c a (by omega)]); (try rw [since_no c b (by omega)]); (try rw [since_no c c (by omega)])
      rintro e w1 ⟨rfl, rfl⟩
      go_wp2_with fail
      refine (since_any _ _ _ (by omega) (by omega)).mono ?_
      (try rw [since_no a a (by omega)]); (try rw [since_no a b (by omega)]); (try rw [since_no a c (by omega)]); (try rw [since_no b a (by omega)]); (try rw [since_no b b (by omega)]); (try rw [since_no b c (by omega)]); (try rw [since_no c a (by omega)]); (try rw [since_no c b (by omega)]); (try rw [since_no c c (by omega)])
      rintro e w1 ⟨rfl, rfl⟩
      go_wp2_with fail
      refine (works2_any _ HT.out).mono ?_
      rintro e w1 ⟨rfl, hb⟩
      go_wp2_with fail
      go_ret
      exact ⟨rfl, hb⟩
end Go.Proofs.YtfcfhdejiaokjaaDoor
