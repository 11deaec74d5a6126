/- TickKnown, walked. -/
import Derived.Test.YtfcfhdejiaokjaaDoorTickE
namespace Go.Proofs.YtfcfhdejiaokjaaDoor
open Go.RowKit
set_option maxHeartbeats 2000000 in
theorem tickKnown_any (w : World) (ht : Tab w) :
    Calls Tryd.prog 9 #[] w fun e w' => e = .returned (.bool true) ∧ Below w.heap.size w w' := by
  have HT := Lib.hid ht; clear ht
  go_enter Tryd.func9, Tryd.ntmps9
  go_wp2_with fail
  refine (works2_any _ HT.out).mono ?_
  rintro e w1 ⟨rfl, hb1⟩
  have HT1 := Lib.hid (HT.out.below hb1 (Nat.le_refl _))
  go_wp2_with fail
  refine (of_any _ _).mono ?_
  rw [k_of.1]
  rintro e w2 ⟨rfl, rfl⟩
  go_wp2_with fail
  refine (of_any _ _).mono ?_
  rw [k_of.2.1]
  rintro e w2 ⟨rfl, rfl⟩
  go_wp2_with fail
  refine (of_any _ _).mono ?_
  rw [k_of.2.2.1]
  rintro e w2 ⟨rfl, rfl⟩
  go_wp2_with fail
  refine (of_any _ _).mono ?_
  rw [k_of.2.2.2]
  rintro e w2 ⟨rfl, rfl⟩
  go_wp2_with fail
  refine (add_any _ _ _).mono ?_
  rw [k_known.1]
  rintro e w2 ⟨rfl, rfl⟩
  go_wp2_with fail
  refine (add_any _ _ _).mono ?_
  rw [k_known.2.1]
  rintro e w2 ⟨rfl, rfl⟩
  go_wp2_with fail
  refine (less_any _ _ _).mono ?_
  rw [k_known.2.2.1]
  rintro e w2 ⟨rfl, rfl⟩
  go_wp2_with fail
  refine (less_any _ _ _).mono ?_
  rw [k_known.2.2.2.1]
  rintro e w2 ⟨rfl, rfl⟩
  go_wp2_with fail
  refine (since_any _ _ _ (by decide) (by decide)).mono ?_
  rw [k_known.2.2.2.2.1]
  rintro e w2 ⟨rfl, rfl⟩
  go_wp2_with fail
  refine (since_any _ _ _ (by decide) (by decide)).mono ?_
  rw [k_known.2.2.2.2.2]
  rintro e w2 ⟨rfl, rfl⟩
  go_wp2_with fail
  refine (delta_any _ _ (by decide)).mono ?_
  rw [show delI (⟨#[57, 57, 57, 57, 57, 57, 57, 57, 57, 57, 57, 57, 57, 57, 57, 57, 57, 57, 57, 57]⟩ : ByteArray).data.toList = 2147483648 from k_del.1, show isDel (⟨#[57, 57, 57, 57, 57, 57, 57, 57, 57, 57, 57, 57, 57, 57, 57, 57, 57, 57, 57, 57]⟩ : ByteArray).data.toList = true from k_del.2]
  rintro e w2 ⟨rfl, rfl⟩
  go_wp2_with fail
  refine (delta_any _ _ (by decide)).mono ?_
  rw [show isDel (⟨#[]⟩ : ByteArray).data.toList = false by decide]
  rintro e w2 ⟨rfl, rfl⟩
  go_wp2_with fail
  refine (delta_any _ _ (by decide)).mono ?_
  rw [show isDel (⟨#[43, 49]⟩ : ByteArray).data.toList = false by decide]
  rintro e w2 ⟨rfl, rfl⟩
  go_wp2_with fail
  refine (delta_any _ _ (by decide)).mono ?_
  rw [show isDel (⟨#[49, 32]⟩ : ByteArray).data.toList = false by decide]
  rintro e w2 ⟨rfl, rfl⟩
  have k1 : ((bs [50, 49, 52, 55, 52, 56, 51, 54, 52, 56]).toList == [50, 49, 52, 55, 52, 56, 51, 54, 52, 56]) = true := by rw [Lib.toList_data]; rfl
  have k2 : ((bs [48]).toList == [48]) = true := by rw [Lib.toList_data]; rfl
  go_wp2_with fail
  refine (put_any _ _ HT1.out).mono ?_
  rw [k_putM]
  rintro e w2 ⟨rfl, hb2⟩
  have HT2 := Lib.hid (HT1.out.below hb2 (Nat.le_refl _))
  go_wp2_with fail
  refine (put_any _ _ HT2.out).mono ?_
  rw [k_put0]
  rintro e w3 ⟨rfl, hb3⟩
  have HT3 := Lib.hid (HT2.out.below hb3 (Nat.le_refl _))
  go_wp2_with fail
  refine (works2_any _ HT3.out).mono ?_
  rintro e w4 ⟨rfl, hb4⟩
  go_wp2_with fail
  go_ret
  exact ⟨rfl, hb1.trans ((hb2.mono hb1.size).trans ((hb3.mono (Nat.le_trans hb1.size hb2.size)).trans (hb4.mono (Nat.le_trans hb1.size (Nat.le_trans hb2.size hb3.size)))))⟩
end Go.Proofs.YtfcfhdejiaokjaaDoor
