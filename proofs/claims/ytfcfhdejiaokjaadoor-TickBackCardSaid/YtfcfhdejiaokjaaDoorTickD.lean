/- Both Puts; what the statements know outright. -/
import Derived.Test.YtfcfhdejiaokjaaDoorTickC
import Derived.Test.YtfcfhdejiaokjaaDoorBytes
import Derived.Test.YtfcfhdejiaokjaaDoorShelf
import Derived.Lib.AppendIntMem
namespace Go.Proofs.YtfcfhdejiaokjaaDoor
open Go.RowKit

/-- the library's table of powers of ten stands as it was laid -/
def Tab (w : World) : Prop := Lib.TabIs Tryd.prog w "internal/strconv.uint64pow10" .u64 Lib.pow10Tab
theorem Tab.below {B : Nat} {w w' : World} (h : Tab w) (hb : Below B w w') (hB : w.heap.size ≤ B) : Tab w' := by
  unfold Tab Lib.TabIs World.var? at *
  cases hg : Tryd.prog.globalNamed "internal/strconv.uint64pow10" with
  | none => rw [hg] at h; cases h
  | some g =>
    rw [hg] at h
    simp only [Option.bind_some] at h ⊢
    have : g < w.heap.size := by
      rcases Nat.lt_or_ge g w.heap.size with h1 | h1
      · exact h1
      · rw [Array.getElem?_eq_none h1] at h; cases h
    rw [hb.block g (by omega)]; exact h

theorem ret_txt {a b : List UInt8} (h : a = b) : Ending.returned (.string ⟨a.toArray⟩) = .returned (.string ⟨b.toArray⟩) := by rw [h]

theorem itoa_any (n : Int) (w : World) (h0 : -9223372036854775808 ≤ n) (h1 : n ≤ 9223372036854775807) (ht : Tab w) :
    Calls Tryd.prog 25 #[.int .i64 n] w fun e w' => e = .returned (.string (bs (Lib.itoa n))) ∧ Below w.heap.size w w' := by
  refine (Tryd.strconv_Itoa n h0 h1 w ht).mono ?_
  rintro e w' ⟨rfl, k, os, rfl⟩
  exact ⟨rfl, Lib.below_grow _ w (Nat.le_refl _) k os⟩

theorem put_any (n : Int) (w : World) (ht : Tab w) :
    Calls Tryd.prog 21 #[.int .i64 n] w fun e w' => e = .returned (.string (bs (putL n))) ∧ Below w.heap.size w w' := by
  have HT := Lib.hid ht; clear ht
  have g1 := ofI_lo n
  have g2 := ofI_hi n
  go_enter Tryd.func21, Tryd.ntmps21
  go_wp2_with fail
  refine (bounded_any _ _).mono ?_
  rintro e w' ⟨rfl, rfl⟩
  go_wp2_with fail
  refine (itoa_any _ _ (by omega) (by omega) HT.out).mono ?_
  rintro e w' ⟨rfl, hb⟩
  go_wp2_with fail
  go_ret
  exact ⟨by rw [itoa_put]; rfl, hb⟩

/-- what is left to write, with what is written behind it, is the number's digits -/
def restI (N m : Int) (l : List UInt8) : Prop := 0 ≤ m ∧ m ≤ 2147483648 ∧ (l.length : Int) + m ≤ 2147483648 ∧ putL N = Lib.decDigits m.toNat ++ l
theorem rest_more {N m : Int} {l : List UInt8} (h : restI N m l) (h10 : 10 ≤ m) : restI N (m / 10) (UInt8.ofNat (48 + m.toNat % 10) :: l) := by
  obtain ⟨a, b, d, c⟩ := h
  refine ⟨by omega, by omega, by rw [List.length_cons]; omega, ?_⟩
  rw [c, Lib.decDigits, dif_neg (by omega), List.append_assoc, show (m / 10).toNat = m.toNat / 10 from by omega]; rfl
theorem rest_last {N m : Int} {l : List UInt8} (h : restI N m l) (h10 : m < 10) : putL N = UInt8.ofNat (48 + m.toNat % 10) :: l := by
  obtain ⟨a, b, d, c⟩ := h
  rw [c, Lib.decDigits, dif_pos (by omega), Nat.mod_eq_of_lt (by omega)]; rfl

/-- a text of one byte, out of a slice literal -/
theorem one_back (w : World) (c : Int) (h0 : 0 ≤ c) (h1 : c < 256) :
    (convert 36 9 (.slice (some ⟨w.heap.size, 0, none⟩) 1 1)).run Tryd.prog (w.alloc (.cells #[.int .u8 c] 5)) = .ok (.string (bs [UInt8.ofNat c.toNat])) (w.alloc (.cells #[.int .u8 c] 5)) :=
  (ownB_lit w 0 c (UInt8.ofNat c.toNat) (by rw [UInt8.toNat_ofNat']; omega) (Nat.zero_le _)).back
theorem bs_append (a b : List UInt8) : bs a ++ bs b = bs (a ++ b) := by
  unfold bs
  apply ByteArray.ext
  rw [ByteArray.data_append]; simp
theorem dig_int (k : Int) (h : 0 ≤ k) : UInt8.ofNat (48 + k % 10).toNat = UInt8.ofNat (48 + k.toNat % 10) := by
  congr 1; omega

set_option maxHeartbeats 1000000 in
theorem rput_any (n : Int) (w : World) :
    Calls Tryd.prog 22 #[.int .i64 n] w fun e w' => e = .returned (.string (bs (putL n))) ∧ Below w.heap.size w w' := by
  have g1 := ofI_lo n
  have g2 := ofI_hi n
  have HP : Hid (restI n (ofI n) []) := ⟨g1, g2, by simpa using g2, by rw [List.append_nil]; rfl⟩
  go_enter Tryd.func22, Tryd.ntmps22
  go_wp2_with fail
  refine (rof_any _ _).mono ?_
  rintro e w' ⟨rfl, rfl⟩
  go_wp2_with fail
  go_loopw [0, 3] (fun m s wr => ∃ (k : Int) (l : List UInt8), m = .int .i64 k ∧ s = .string (bs l) ∧ Hid (restI n k l) ∧ Below w.heap.size w wr) (fun m _ _ => (intOf m).toNat)
  case atStart => exact ⟨ofI n, [], rfl, rfl, HP.out, Below.refl _ _⟩
  case round =>
    obtain ⟨k, l, rfl, rfl, HR, hb⟩ := hrel
    have k0 := HR.out.1
    have k1 := HR.out.2.1
    have k2 := HR.out.2.2.1
    have k3 : ¬ 9223372036854775807 < 1 + l.length := by omega
    have hcv := one_back wr (48 + k % 10) (by omega) (by omega)
    have hap := bs_append [UInt8.ofNat (48 + k % 10).toNat] l
    by_cases h10 : k < 10
    · have hz : ((k / 10 : Int) == 0) = true := by rw [beq_iff_eq]; omega
      go_wp2_with fail
      go_ret
      exact ⟨by rw [rest_last HR.out h10, ← dig_int k k0]; rfl, hb.alloc hb.size _⟩
    · have hz : ((k / 10 : Int) == 0) = false := by rw [beq_eq_false_iff_ne]; omega
      go_wp2_with fail
      go_roundw
      case rel => exact ⟨_, _, rfl, rfl, by rw [dig_int k k0]; exact rest_more HR.out (by omega), hb.alloc hb.size _⟩
      case measure => simp [intOf]; omega

theorem k_delta : delI [48, 48, 55] = 7 ∧ isDel [48, 48, 55] = true := by decide
theorem k_add : addI 2147483647 2 = 2147483648 := by decide
theorem k_less : lessI 5 3 = 2 := by decide
theorem k_since : sinceI 3 5 = 2 := by decide
theorem k_put : putL 10 = [49, 48] := by
  unfold putL; rw [ofI_mid (by omega) (by omega), Lib.decDigits, dif_neg (by decide), Lib.decDigits, dif_pos (by decide)]; rfl

set_option maxHeartbeats 400000 in
theorem works2_any (w : World) (ht : Tab w) :
    Calls Tryd.prog 16 #[] w fun e w' => e = .returned (.bool true) ∧ Below w.heap.size w w' := by
  have HT := Lib.hid ht; clear ht
  go_enter Tryd.func16, Tryd.ntmps16
  go_wp2_with fail
  refine (delta_any _ _ (by decide)).mono ?_
  rw [show (⟨#[48, 48, 55]⟩ : ByteArray).data.toList = [48, 48, 55] from rfl, k_delta.1, k_delta.2]
  rintro e w1 ⟨rfl, rfl⟩
  go_wp2_with fail
  refine (add_any _ _ _).mono ?_
  rw [k_add]
  rintro e w1 ⟨rfl, rfl⟩
  go_wp2_with fail
  refine (less_any _ _ _).mono ?_
  rw [k_less]
  rintro e w1 ⟨rfl, rfl⟩
  go_wp2_with fail
  refine (since_any _ _ _ (by decide) (by decide)).mono ?_
  rw [k_since]
  rintro e w1 ⟨rfl, rfl⟩
  go_wp2_with fail
  refine (put_any _ _ HT.out).mono ?_
  rw [k_put]
  rintro e w1 ⟨rfl, hb1⟩
  go_wp2_with fail
  go_ret
  exact ⟨ret_bool (by rw [Lib.toList_data]; rfl), hb1⟩
end Go.Proofs.YtfcfhdejiaokjaaDoor
