/- DateKnown, walked. -/
import Derived.Test.YtjcllpfncohncaaDoorDateK
namespace Go.Proofs.YtjcllpfncohncaaDoor
open Go.RowKit
theorem t0_isT : IsT (clampI 0) 1970 0 1 0 0 0 := by unfold IsT IsD clampI; decide
theorem last_isT : IsT (clampI 253402300799) 9999 11 31 23 59 59 := by unfold IsT IsD clampI; decide
theorem neg_isT : IsT (clampI (-5)) 1970 0 1 0 0 0 := by unfold IsT IsD clampI; decide
theorem novP : IsT 784111777 1994 ((10 : Nat) : Int) 6 8 49 37 := by unfold IsT IsD; decide
theorem novPT : ((bs (fixT (wdN 1994 10 6) 10 6 1994 8 49 37)).toList == [83, 117, 110, 44, 32, 48, 54, 32, 78, 111, 118, 32, 49, 57, 57, 52, 32, 48, 56, 58, 52, 57, 58, 51, 55, 32, 71, 77, 84]) = true := by rw [Lib.toList_data, bs_data]; kernel_rfl
theorem lastP : IsT 253402300799 9999 ((11 : Nat) : Int) 31 23 59 59 := by unfold IsT IsD; decide
theorem lastPT : ((bs (fixT (wdN 9999 11 31) 11 31 9999 23 59 59)).toList == [70, 114, 105, 44, 32, 51, 49, 32, 68, 101, 99, 32, 57, 57, 57, 57, 32, 50, 51, 58, 53, 57, 58, 53, 57, 32, 71, 77, 84]) = true := by rw [Lib.toList_data, bs_data]; kernel_rfl
theorem febP : IsT 1709164800 2024 ((1 : Nat) : Int) 29 0 0 0 := by unfold IsT IsD; decide
theorem febPT : ((bs (fixT (wdN 2024 1 29) 1 29 2024 0 0 0)).toList == [84, 104, 117, 44, 32, 50, 57, 32, 70, 101, 98, 32, 50, 48, 50, 52, 32, 48, 48, 58, 48, 48, 58, 48, 48, 32, 71, 77, 84]) = true := by rw [Lib.toList_data, bs_data]; kernel_rfl
theorem q1 : parseL (1994 + 50) (⟨#[77, 111, 110, 44, 32, 48, 54, 32, 78, 111, 118, 32, 49, 57, 57, 52, 32, 48, 56, 58, 52, 57, 58, 51, 55, 32, 71, 77, 84]⟩ : ByteArray).data.toList = none := by kernel_rfl
theorem q2 : parseL (1994 + 50) (⟨#[83, 117, 110, 44, 32, 48, 54, 32, 78, 111, 118, 32, 49, 57, 57, 52, 32, 48, 56, 58, 52, 57, 58, 54, 48, 32, 71, 77, 84]⟩ : ByteArray).data.toList = none := by kernel_rfl
theorem q3 : parseL (1994 + 50) (⟨#[83, 117, 110, 44, 32, 54, 32, 78, 111, 118, 32, 49, 57, 57, 52, 32, 48, 56, 58, 52, 57, 58, 51, 55, 32, 71, 77, 84]⟩ : ByteArray).data.toList = none := by kernel_rfl
theorem q4 : parseL (1994 + 50) (⟨#[115, 117, 110, 44, 32, 48, 54, 32, 78, 111, 118, 32, 49, 57, 57, 52, 32, 48, 56, 58, 52, 57, 58, 51, 55, 32, 71, 77, 84]⟩ : ByteArray).data.toList = none := by kernel_rfl
theorem q5 : parseL (1994 + 50) (⟨#[83, 117, 110, 44, 32, 48, 54, 32, 78, 111, 118, 32, 49, 57, 57, 52, 32, 48, 56, 58, 52, 57, 58, 51, 55, 32, 85, 84, 67]⟩ : ByteArray).data.toList = none := by kernel_rfl
theorem q6 : parseL (1994 + 50) (⟨#[83, 117, 110, 44, 32, 48, 54, 32, 78, 111, 118, 32, 49, 57, 57, 52, 32, 48, 56, 58, 52, 57, 58, 51, 55, 32, 71, 77, 84, 32]⟩ : ByteArray).data.toList = none := by kernel_rfl
theorem q7 : parseL (1994 + 50) (⟨#[]⟩ : ByteArray).data.toList = none := by kernel_rfl
theorem q8 : parseL (1994 + 50) (⟨#[84, 104, 117, 44, 32, 50, 57, 32, 70, 101, 98, 32, 50, 48, 50, 52, 32, 48, 48, 58, 48, 48, 58, 48, 48, 32, 71, 77, 84]⟩ : ByteArray).data.toList = some 1709164800 := by kernel_rfl
theorem q9 : parseL (1994 + 50) (⟨#[84, 104, 117, 44, 32, 50, 57, 32, 70, 101, 98, 32, 50, 48, 50, 51, 32, 48, 48, 58, 48, 48, 58, 48, 48, 32, 71, 77, 84]⟩ : ByteArray).data.toList = none := by kernel_rfl
theorem q10 : parseL (1994 + 50) (⟨#[83, 97, 116, 117, 114, 100, 97, 121, 44, 32, 48, 54, 45, 78, 111, 118, 45, 52, 52, 32, 48, 48, 58, 48, 48, 58, 48, 48, 32, 71, 77, 84]⟩ : ByteArray).data.toList = none := by kernel_rfl
theorem q11 : parseL (1970 + 50) (⟨#[83, 97, 116, 117, 114, 100, 97, 121, 44, 32, 48, 54, 45, 78, 111, 118, 45, 52, 52, 32, 48, 48, 58, 48, 48, 58, 48, 48, 32, 71, 77, 84]⟩ : ByteArray).data.toList = none := by kernel_rfl
theorem q12 : parseL (1994 + 50) (⟨#[83, 117, 110, 32, 78, 111, 118, 32, 48, 54, 32, 48, 56, 58, 52, 57, 58, 51, 55, 32, 49, 57, 57, 52]⟩ : ByteArray).data.toList = some 784111777 := by kernel_rfl
theorem q13 : parseL (1994 + 50) (⟨#[83, 117, 110, 32, 78, 111, 118, 32, 32, 48, 32, 48, 56, 58, 52, 57, 58, 51, 55, 32, 49, 57, 57, 52]⟩ : ByteArray).data.toList = none := by kernel_rfl
theorem q14 : parseL (1994 + 50) (⟨#[83, 117, 110, 44, 32, 48, 54, 32, 78, 111, 118, 32, 49, 57, 57, 52, 32, 50, 52, 58, 48, 48, 58, 48, 48, 32, 71, 77, 84]⟩ : ByteArray).data.toList = none := by kernel_rfl
theorem q15 : parseL (1994 + 50) (⟨#[87, 101, 100, 44, 32, 51, 49, 32, 68, 101, 99, 32, 49, 57, 54, 57, 32, 50, 51, 58, 53, 57, 58, 53, 57, 32, 71, 77, 84]⟩ : ByteArray).data.toList = none := by kernel_rfl
theorem q16 : parseL (1994 + 50) (⟨#[83, 117, 110, 100, 97, 121, 44, 32, 48, 54, 45, 78, 111, 118, 45, 52, 52, 32, 48, 48, 58, 48, 48, 58, 48, 48, 32, 71, 77, 84]⟩ : ByteArray).data.toList = some 2362003200 := by kernel_rfl
theorem q17 : parseL (9999 + 50) (⟨#[70, 114, 105, 100, 97, 121, 44, 32, 51, 49, 45, 68, 101, 99, 45, 57, 57, 32, 50, 51, 58, 53, 57, 58, 53, 57, 32, 71, 77, 84]⟩ : ByteArray).data.toList = some 253402300799 := by kernel_rfl
theorem q18 : parseL (1970 + 50) (⟨#[70, 114, 105, 100, 97, 121, 44, 32, 51, 49, 45, 68, 101, 99, 45, 57, 57, 32, 50, 51, 58, 53, 57, 58, 53, 57, 32, 71, 77, 84]⟩ : ByteArray).data.toList = some 946684799 := by kernel_rfl
set_option maxRecDepth 100000 in
set_option maxHeartbeats 4000000 in
theorem dateKnown_any (w : World) (ht : Tabs w) :
    Calls Tryd.prog 6 #[] w fun e w' => e = .returned (.bool true) ∧ Below w.heap.size w w' := by
  have HT := Lib.hid ht
  clear ht
  have a1 := novPT
  have a2 := lastPT
  have a3 := febPT
  go_enter Tryd.func6, Tryd.ntmps6
  go_wp2_with fail
  refine (no_yes _ _ _ _ _ _ _ _ _ (by decide) nov_isT (by exact q1) HT.out).mono ?_
  rintro e w1 ⟨rfl, hb1⟩
  have HB1 := Lib.hid (hb1)
  have HT1 := Lib.hid (HT.out.below hb1)
  clear hb1
  go_wp2_with fail
  refine (no_yes _ _ _ _ _ _ _ _ _ (by decide) nov_isT (by exact q2) HT1.out).mono ?_
  rintro e w2 ⟨rfl, hb2⟩
  have HB2 := Lib.hid (HB1.out.trans (hb2.mono HB1.out.size))
  have HT2 := Lib.hid (HT1.out.below hb2)
  clear hb2
  go_wp2_with fail
  refine (no_yes _ _ _ _ _ _ _ _ _ (by decide) nov_isT (by exact q3) HT2.out).mono ?_
  rintro e w3 ⟨rfl, hb3⟩
  have HB3 := Lib.hid (HB2.out.trans (hb3.mono HB2.out.size))
  have HT3 := Lib.hid (HT2.out.below hb3)
  clear hb3
  go_wp2_with fail
  refine (no_yes _ _ _ _ _ _ _ _ _ (by decide) nov_isT (by exact q4) HT3.out).mono ?_
  rintro e w4 ⟨rfl, hb4⟩
  have HB4 := Lib.hid (HB3.out.trans (hb4.mono HB3.out.size))
  have HT4 := Lib.hid (HT3.out.below hb4)
  clear hb4
  go_wp2_with fail
  refine (no_yes _ _ _ _ _ _ _ _ _ (by decide) nov_isT (by exact q5) HT4.out).mono ?_
  rintro e w5 ⟨rfl, hb5⟩
  have HB5 := Lib.hid (HB4.out.trans (hb5.mono HB4.out.size))
  have HT5 := Lib.hid (HT4.out.below hb5)
  clear hb5
  go_wp2_with fail
  refine (no_yes _ _ _ _ _ _ _ _ _ (by decide) nov_isT (by exact q6) HT5.out).mono ?_
  rintro e w6 ⟨rfl, hb6⟩
  have HB6 := Lib.hid (HB5.out.trans (hb6.mono HB5.out.size))
  have HT6 := Lib.hid (HT5.out.below hb6)
  clear hb6
  go_wp2_with fail
  refine (no_yes _ _ _ _ _ _ _ _ _ (by decide) nov_isT (by exact q7) HT6.out).mono ?_
  rintro e w7 ⟨rfl, hb7⟩
  have HB7 := Lib.hid (HB6.out.trans (hb7.mono HB6.out.size))
  have HT7 := Lib.hid (HT6.out.below hb7)
  clear hb7
  go_wp2_with fail
  refine (is_yes _ _ _ _ _ _ _ _ _ _ (by decide) nov_isT (by exact q8) HT7.out).mono ?_
  rintro e w8 ⟨rfl, hb8⟩
  have HB8 := Lib.hid (HB7.out.trans (hb8.mono HB7.out.size))
  have HT8 := Lib.hid (HT7.out.below hb8)
  clear hb8
  go_wp2_with fail
  refine (no_yes _ _ _ _ _ _ _ _ _ (by decide) nov_isT (by exact q9) HT8.out).mono ?_
  rintro e w9 ⟨rfl, hb9⟩
  have HB9 := Lib.hid (HB8.out.trans (hb9.mono HB8.out.size))
  have HT9 := Lib.hid (HT8.out.below hb9)
  clear hb9
  go_wp2_with fail
  refine (no_yes _ _ _ _ _ _ _ _ _ (by decide) nov_isT (by exact q10) HT9.out).mono ?_
  rintro e w10 ⟨rfl, hb10⟩
  have HB10 := Lib.hid (HB9.out.trans (hb10.mono HB9.out.size))
  have HT10 := Lib.hid (HT9.out.below hb10)
  clear hb10
  go_wp2_with fail
  refine (no_yes _ _ _ _ _ _ _ _ _ (by decide) t0_isT (by exact q11) HT10.out).mono ?_
  rintro e w11 ⟨rfl, hb11⟩
  have HB11 := Lib.hid (HB10.out.trans (hb11.mono HB10.out.size))
  have HT11 := Lib.hid (HT10.out.below hb11)
  clear hb11
  go_wp2_with fail
  refine (is_yes _ _ _ _ _ _ _ _ _ _ (by decide) nov_isT (by exact q12) HT11.out).mono ?_
  rintro e w12 ⟨rfl, hb12⟩
  have HB12 := Lib.hid (HB11.out.trans (hb12.mono HB11.out.size))
  have HT12 := Lib.hid (HT11.out.below hb12)
  clear hb12
  go_wp2_with fail
  refine (no_yes _ _ _ _ _ _ _ _ _ (by decide) nov_isT (by exact q13) HT12.out).mono ?_
  rintro e w13 ⟨rfl, hb13⟩
  have HB13 := Lib.hid (HB12.out.trans (hb13.mono HB12.out.size))
  have HT13 := Lib.hid (HT12.out.below hb13)
  clear hb13
  go_wp2_with fail
  refine (no_yes _ _ _ _ _ _ _ _ _ (by decide) nov_isT (by exact q14) HT13.out).mono ?_
  rintro e w14 ⟨rfl, hb14⟩
  have HB14 := Lib.hid (HB13.out.trans (hb14.mono HB13.out.size))
  have HT14 := Lib.hid (HT13.out.below hb14)
  clear hb14
  go_wp2_with fail
  refine (no_yes _ _ _ _ _ _ _ _ _ (by decide) nov_isT (by exact q15) HT14.out).mono ?_
  rintro e w15 ⟨rfl, hb15⟩
  have HB15 := Lib.hid (HB14.out.trans (hb15.mono HB14.out.size))
  have HT15 := Lib.hid (HT14.out.below hb15)
  clear hb15
  go_wp2_with fail
  refine (parse_any _ _ _ _ _ _ _ _ _ (by decide) nov_isT HT15.out).mono ?_
  rw [q16]
  unfold ansV
  rintro e w16 ⟨rfl, hb16⟩
  have HB16 := Lib.hid (HB15.out.trans (hb16.mono HB15.out.size))
  have HT16 := Lib.hid (HT15.out.below hb16)
  clear hb16
  go_wp2_with fail
  refine (parse_any _ _ _ _ _ _ _ _ _ (by decide) last_isT HT16.out).mono ?_
  rw [q17]
  unfold ansV
  rintro e w17 ⟨rfl, hb17⟩
  have HB17 := Lib.hid (HB16.out.trans (hb17.mono HB16.out.size))
  have HT17 := Lib.hid (HT16.out.below hb17)
  clear hb17
  go_wp2_with fail
  refine (parse_any _ _ _ _ _ _ _ _ _ (by decide) neg_isT HT17.out).mono ?_
  rw [q18]
  unfold ansV
  rintro e w18 ⟨rfl, hb18⟩
  have HB18 := Lib.hid (HB17.out.trans (hb18.mono HB17.out.size))
  have HT18 := Lib.hid (HT17.out.below hb18)
  clear hb18
  go_wp2_with fail
  refine (put_ok _ _ _ _ _ _ _ _ novP HT18.out).mono ?_
  rintro e w19 ⟨rfl, hb19⟩
  have HB19 := Lib.hid (HB18.out.trans (hb19.mono HB18.out.size))
  have HT19 := Lib.hid (HT18.out.below hb19)
  clear hb19
  go_wp2_with fail
  refine (put_ok _ _ _ _ _ _ _ _ lastP HT19.out).mono ?_
  rintro e w20 ⟨rfl, hb20⟩
  have HB20 := Lib.hid (HB19.out.trans (hb20.mono HB19.out.size))
  have HT20 := Lib.hid (HT19.out.below hb20)
  clear hb20
  go_wp2_with fail
  refine (put_no _ _ (by decide)).mono ?_
  rintro e w21 ⟨rfl, rfl⟩
  go_wp2_with fail
  refine (put_no _ _ (by decide)).mono ?_
  rintro e w22 ⟨rfl, rfl⟩
  go_wp2_with fail
  refine (put_ok _ _ _ _ _ _ _ _ febP HT20.out).mono ?_
  rintro e w23 ⟨rfl, hb23⟩
  have HB23 := Lib.hid (HB20.out.trans (hb23.mono HB20.out.size))
  have HT23 := Lib.hid (HT20.out.below hb23)
  clear hb23
  go_wp2_with fail
  refine (awake_any _ HT23.out).mono ?_
  rintro e w24 ⟨rfl, hb24⟩
  have HB24 := Lib.hid (HB23.out.trans (hb24.mono HB23.out.size))
  have HT24 := Lib.hid (HT23.out.below hb24)
  clear hb24
  go_wp2_with fail
  go_ret
  exact ⟨rfl, HB24.out⟩
end Go.Proofs.YtjcllpfncohncaaDoor
