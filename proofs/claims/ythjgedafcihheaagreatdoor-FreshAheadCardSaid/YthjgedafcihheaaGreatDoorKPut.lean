/- Both Puts; what the statements know outright. -/
import Derived.Test.YthjgedafcihheaaGreatDoorKBytes
import Derived.Test.YthjgedafcihheaaGreatDoorKTick
import Derived.Test.YthjgedafcihheaaGreatDoorShelf
import Derived.Lib.AppendIntMem
import Derived.LaidSub
import Derived.MakeChecks
namespace Go.Proofs.YthjgedafcihheaaGreatDoor
open Go.RowKit

/-- the library's table of powers of ten stands as it was laid -/
def Tab (w : World) : Prop := Lib.TabIs Tryz.prog w "internal/strconv.uint64pow10" .u64 Lib.pow10Tab
theorem Tab.below {B : Nat} {w w' : World} (h : Tab w) (hb : Below B w w') (hB : w.heap.size ≤ B) : Tab w' := by
  unfold Tab Lib.TabIs World.var? at *
  cases hg : Tryz.prog.globalNamed "internal/strconv.uint64pow10" with
  | none => rw [hg] at h; cases h
  | some g =>
    rw [hg] at h
    simp only [Option.bind_some] at h ⊢
    have : g < w.heap.size := by
      rcases Nat.lt_or_ge g w.heap.size with h1 | h1
      · exact h1
      · rw [Array.getElem?_eq_none h1] at h; cases h
    rw [hb.block g (by omega)]; exact h

theorem ret_txt {a b : List UInt8} (h : a = b) : Ending.returned (.string ⟨a.toArray⟩) = .returned (.string ⟨b.toArray⟩) := by rw [h]

theorem itoa_any (n : Int) (w : World) (h0 : -9223372036854775808 ≤ n) (h1 : n ≤ 9223372036854775807) (ht : Tab w) :
    Calls Tryz.prog 44 #[.int .i64 n] w fun e w' => e = .returned (.string (bs (Lib.itoa n))) ∧ Below w.heap.size w w' := by
  refine (Tryz.strconv_Itoa n h0 h1 w ht).mono ?_
  rintro e w' ⟨rfl, k, os, rfl⟩
  exact ⟨rfl, Lib.below_grow _ w (Nat.le_refl _) k os⟩

theorem put_any (n : Int) (w : World) (ht : Tab w) :
    Calls Tryz.prog 22 #[.int .i64 n] w fun e w' => e = .returned (.string (bs (putTk n))) ∧ Below w.heap.size w w' := by
  have HT := Lib.hid ht; clear ht
  have g1 := ofI_lo n
  have g2 := ofI_hi n
  go_enter Tryz.func22, Tryz.ntmps22
  go_wp2_with fail
  refine (bounded_any _ _).mono ?_
  rintro e w' ⟨rfl, rfl⟩
  go_wp2_with fail
  refine (itoa_any _ _ (by omega) (by omega) HT.out).mono ?_
  rintro e w' ⟨rfl, hb⟩
  go_wp2_with fail
  go_ret
  exact ⟨by rw [itoa_put]; rfl, hb⟩

/-- what is left to write, with what is written behind it, is the number's digits -/
def restI (N m : Int) (l : List UInt8) : Prop := 0 ≤ m ∧ m ≤ 2147483648 ∧ (l.length : Int) + m ≤ 2147483648 ∧ putTk N = Lib.decDigits m.toNat ++ l
theorem rest_more {N m : Int} {l : List UInt8} (h : restI N m l) (h10 : 10 ≤ m) : restI N (m / 10) (UInt8.ofNat (48 + m.toNat % 10) :: l) := by
  obtain ⟨a, b, d, c⟩ := h
  refine ⟨by omega, by omega, by rw [List.length_cons]; omega, ?_⟩
  rw [c, Lib.decDigits, dif_neg (by omega), List.append_assoc, show (m / 10).toNat = m.toNat / 10 from by omega]; rfl
theorem rest_last {N m : Int} {l : List UInt8} (h : restI N m l) (h10 : m < 10) : putTk N = UInt8.ofNat (48 + m.toNat % 10) :: l := by
  obtain ⟨a, b, d, c⟩ := h
  rw [c, Lib.decDigits, dif_pos (by omega), Nat.mod_eq_of_lt (by omega)]; rfl

/-- a text of one byte, out of a slice literal -/
theorem one_back (w : World) (c : Int) (h0 : 0 ≤ c) (h1 : c < 256) :
    (convert 115 9 (.slice (some ⟨w.heap.size, 0, none⟩) 1 1)).run Tryz.prog (w.alloc (.cells #[.int .u8 c] 5)) = .ok (.string (bs [UInt8.ofNat c.toNat])) (w.alloc (.cells #[.int .u8 c] 5)) :=
  (ownB_lit w 0 c (UInt8.ofNat c.toNat) (by rw [UInt8.toNat_ofNat']; omega) (Nat.zero_le _)).back
theorem bs_appendT (a b : List UInt8) : bs a ++ bs b = bs (a ++ b) := by
  unfold bs
  apply ByteArray.ext
  rw [ByteArray.data_append]; simp
theorem dig_int (k : Int) (h : 0 ≤ k) : UInt8.ofNat (48 + k % 10).toNat = UInt8.ofNat (48 + k.toNat % 10) := by
  congr 1; omega


theorem k_delta : delI [48, 48, 55] = 7 ∧ isDel [48, 48, 55] = true := by decide
theorem k_add : addI 2147483647 2 = 2147483648 := by decide
theorem k_less : lessI 5 3 = 2 := by decide
theorem k_since : sinceI 3 5 = 2 := by decide
theorem k_put : putTk 10 = [49, 48] := by
  unfold putTk; rw [ofI_mid (by omega) (by omega), Lib.decDigits, dif_neg (by decide), Lib.decDigits, dif_pos (by decide)]; rfl

end Go.Proofs.YthjgedafcihheaaGreatDoor

/- From what a row lists to what the walks ask: the library's table of powers of ten. -/
namespace Go.Proofs.YthjgedafcihheaaGreatDoor
open Go.RowKit
theorem gTab : Tryz.prog.globalNamed "internal/strconv.uint64pow10" = some 0 := by kernel_rfl
theorem gTabType : (Tryz.prog.globals[0]?).map (·.type) = some 183 := by kernel_rfl
theorem cellsTab : Tryz.prog.cellsOf 183 = 20 := by kernel_rfl
theorem cellsU64 : Tryz.prog.cellsOf 38 = 1 := by kernel_rfl
theorem tab_of {W : World} {l : List (String × DataW Unit)} (h : laidMetH Tryz.prog l W)
    (hf : l.filter (fun x => x.1 == "internal/strconv.uint64pow10") = [("internal/strconv.uint64pow10", Lib.tabData .u64 Lib.pow10Tab)]) : Tab W := by
  have h2 := laidMetH.filter (fun x => x.1 == "internal/strconv.uint64pow10") h
  rw [hf, MakeChecks.laidMetH_plain _ _ _ (by rfl)] at h2
  exact Lib.tabIs_of_head (rest := []) gTab gTabType Tryz.underlying183 Tryz.underlying38 cellsU64 cellsTab h2
end Go.Proofs.YthjgedafcihheaaGreatDoor
