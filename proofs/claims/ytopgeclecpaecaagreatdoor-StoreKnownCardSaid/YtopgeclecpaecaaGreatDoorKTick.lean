/- Plain numbers and digits: what the tick layer's functions come to. Nothing of the program is read here. -/
import Derived.Test.YtopgeclecpaecaaGreatDoorKBytes
import Derived.Test.YtopgeclecpaecaaGreatDoorKPlain
import Derived.Lib.ItoaNum
import Derived.Lib.Strings
import Derived.Test.YtopgeclecpaecaaGreatDoorProg
import Derived.WalkKit
import Derived.WalkLawsBesides
import Derived.Lib.Hide
import Derived.Outline
import Derived.Test.YtopgeclecpaecaaGreatDoorShelf
import Derived.Lib.AppendIntMem
import Derived.LaidSub
import Derived.MakeChecks
namespace Go.Proofs.YtopgeclecpaecaaGreatDoor
/-- the delta of a number -/
def ofI (n : Int) : Int := if n < 0 then 0 else if 2147483648 < n then 2147483648 else n
def addI (a b : Int) : Int := ofI (ofI a + ofI b)
def lessI (a b : Int) : Int := ofI (ofI a - ofI b)
def sinceI (a b : Int) : Int := ofI (b - a)
theorem ofI_mm (n : Int) : ofI n = min (max n 0) 2147483648 := by unfold ofI; split <;> (try split) <;> omega
theorem ofI_lo (n : Int) : 0 ≤ ofI n := by unfold ofI; split <;> (try split) <;> omega
theorem ofI_hi (n : Int) : ofI n ≤ 2147483648 := by unfold ofI; split <;> (try split) <;> omega
theorem ofI_neg {n : Int} (h : n < 0) : ofI n = 0 := by unfold ofI; rw [if_pos h]
theorem ofI_big {n : Int} (h : 2147483648 < n) : ofI n = 2147483648 := by unfold ofI; rw [if_neg (by omega), if_pos h]
theorem ofI_mid {n : Int} (h0 : 0 ≤ n) (h1 : n ≤ 2147483648) : ofI n = n := by unfold ofI; rw [if_neg (by omega), if_neg (by omega)]
theorem ofI_top {n : Int} (h : 2147483648 ≤ n) : ofI n = 2147483648 := by unfold ofI; split <;> (try split) <;> omega
theorem ofI_ofI (n : Int) : ofI (ofI n) = ofI n := ofI_mid (ofI_lo n) (ofI_hi n)
theorem ofI_mono {a b : Int} (h : a ≤ b) : ofI a ≤ ofI b := by unfold ofI; split <;> split <;> (try split) <;> (try split) <;> omega

/-- a digit -/
def digC (c : UInt8) : Bool := decide (48 ≤ (c.toNat : Int) ∧ (c.toNat : Int) ≤ 57)
def num (l : List UInt8) : Nat := l.foldl (fun n c => 10 * n + (c.toNat - 48)) 0
def isDel (l : List UInt8) : Bool := !l.isEmpty && l.all digC
def delI (l : List UInt8) : Int := if isDel l then ofI (num l) else 0
def putTk (n : Int) : List UInt8 := Lib.decDigits (ofI n).toNat
theorem num_snoc (l : List UInt8) (c : UInt8) : num (l ++ [c]) = 10 * num l + (c.toNat - 48) := by unfold num; rw [List.foldl_append]; rfl
theorem num_append (a b : List UInt8) : num (a ++ b) = num a * 10 ^ b.length + num b := by
  suffices h : ∀ (b : List UInt8) (n : Nat), b.foldl (fun n c => 10 * n + (c.toNat - 48)) n = n * 10 ^ b.length + num b by
    unfold num; rw [List.foldl_append]; exact h b _
  intro b
  induction b with
  | nil => intro n; simp [num]
  | cons c b ih =>
    intro n
    rw [List.foldl_cons, ih, show num (c :: b) = (c.toNat - 48) * 10 ^ b.length + num b from by unfold num; rw [List.foldl_cons, ih]; simp [num], List.length_cons, Nat.pow_succ,
      show n * (10 ^ b.length * 10) = 10 * n * 10 ^ b.length from by rw [← Nat.mul_assoc, Nat.mul_comm (n * 10 ^ b.length) 10, Nat.mul_assoc], Nat.add_mul]
    omega
theorem ofI_step (m : Nat) (d : Int) (h0 : 0 ≤ d) : ofI (10 * ofI m + d) = ofI ((10 * m : Nat) + d) := by
  unfold ofI; repeat' split
  all_goals omega
theorem dig_bd {c : UInt8} (h : digC c = true) : 48 ≤ c.toNat ∧ c.toNat ≤ 57 := by
  unfold digC at h; have := of_decide_eq_true h; omega
theorem ofI_num (l : List UInt8) (c : UInt8) (h : digC c = true) : ofI (10 * ofI (num l) + ((c.toNat : Int) - 48)) = ofI (num (l ++ [c])) := by
  have := dig_bd h
  rw [ofI_step _ _ (by omega), num_snoc]
  congr 1; omega
theorem num_cons (c : UInt8) (l : List UInt8) : num (c :: l) = (c.toNat - 48) * 10 ^ l.length + num l := by
  have h := num_append [c] l
  rw [show num [c] = c.toNat - 48 from by unfold num; simp] at h
  exact h
theorem num_lt : ∀ (l : List UInt8), l.all digC = true → num l < 10 ^ l.length
  | [], _ => by simp [num]
  | c :: l, h => by
    rw [List.all_cons, Bool.and_eq_true] at h
    have h1 := num_lt l h.2
    have h2 := dig_bd h.1
    rw [num_cons, List.length_cons, Nat.pow_succ]
    have h3 : (c.toNat - 48) * 10 ^ l.length ≤ 9 * 10 ^ l.length := Nat.mul_le_mul_right _ (by omega)
    omega
/-- the leading noughts are nothing -/
theorem num_zeros (l : List UInt8) : num (48 :: l) = num l := by unfold num; rw [List.foldl_cons]; rfl
theorem num_big {c : UInt8} {l : List UInt8} (h0 : 49 ≤ c.toNat) (hl : 10 ≤ l.length) : 2147483648 < num (c :: l) := by
  have h3 : 10 ^ 10 ≤ 10 ^ l.length := Nat.pow_le_pow_right (by omega) hl
  have h4 : 10 ^ l.length ≤ (c.toNat - 48) * 10 ^ l.length := Nat.le_mul_of_pos_left _ (by omega)
  rw [num_cons]
  omega
theorem dig_of (d : Nat) (h : d < 10) : digC (UInt8.ofNat (48 + d)) = true ∧ (UInt8.ofNat (48 + d)).toNat = 48 + d := by
  have : (UInt8.ofNat (48 + d)).toNat = 48 + d := by simp; omega
  exact ⟨by unfold digC; rw [this]; exact decide_eq_true (by omega), this⟩
theorem dec_all (u : Nat) : (Lib.decDigits u).all digC = true ∧ num (Lib.decDigits u) = u ∧ Lib.decDigits u ≠ [] := by
  induction u using Nat.strongRecOn with
  | _ u ih =>
    rw [Lib.decDigits]
    split
    · rename_i h
      have := dig_of u h
      exact ⟨by rw [List.all_cons, this.1]; rfl, by unfold num; simp only [List.foldl_cons, List.foldl_nil]; rw [this.2]; omega, by simp⟩
    · rename_i h
      obtain ⟨h1, h2, h3⟩ := ih (u / 10) (by omega)
      have := dig_of (u % 10) (by omega)
      refine ⟨by rw [List.all_append, h1, List.all_cons, this.1]; rfl, by rw [num_snoc, h2, this.2]; omega, by simp⟩
theorem del_put (n : Int) : isDel (putTk n) = true ∧ delI (putTk n) = ofI n := by
  obtain ⟨h1, h2, h3⟩ := dec_all (ofI n).toNat
  have hd : isDel (putTk n) = true := by
    unfold isDel putTk; rw [h1]
    cases h : Lib.decDigits (ofI n).toNat with
    | nil => exact absurd h h3
    | cons a l => rfl
  refine ⟨hd, ?_⟩
  unfold delI; rw [if_pos hd]
  unfold putTk; rw [h2]
  have := ofI_lo n
  rw [show (((ofI n).toNat : Nat) : Int) = ofI n from by omega, ofI_ofI]
theorem itoa_put (n : Int) : Lib.itoa (ofI n) = putTk n := by
  unfold Lib.itoa putTk; rw [if_neg (by have := ofI_lo n; omega)]
end Go.Proofs.YtopgeclecpaecaaGreatDoor

/- The tick layer's functions on numbers, and the document's own. -/
namespace Go.Proofs.YtopgeclecpaecaaGreatDoor
open Go.RowKit

theorem ret_num {a b : Int} (h : a = b) : Ending.returned (.int .i64 a) = .returned (.int .i64 b) := by rw [h]

theorem u64_sub (a b : Int) (h : a < b) (ha : -9223372036854775808 ≤ a) (hb : b ≤ 9223372036854775807) : IntKind.u64.wrap (IntKind.u64.wrap b - IntKind.u64.wrap a) = b - a := by
  simp [IntKind.wrap, IntKind.bits, IntKind.signed]
  omega
end Go.Proofs.YtopgeclecpaecaaGreatDoor

/- The tick layer's functions on texts, and the document's own. -/
namespace Go.Proofs.YtopgeclecpaecaaGreatDoor
open Go.RowKit

theorem ret_del {a b : Int} {c d : Bool} (h : a = b) (k : c = d) : Ending.returned (.tuple #[.int .i64 a, .bool c]) = .returned (.tuple #[.int .i64 b, .bool d]) := by rw [h, k]
theorem del_no {l : List UInt8} (h : l.all digC = false) : delI l = 0 ∧ isDel l = false := by
  have : isDel l = false := by unfold isDel; rw [h]; simp
  exact ⟨by unfold delI; rw [this]; rfl, this⟩
theorem del_yes {l : List UInt8} (h : l.all digC = true) : delI l = ofI (num l) ∧ isDel l = !l.isEmpty := by
  cases l with
  | nil => exact ⟨by decide, by decide⟩
  | cons a l =>
    have : isDel (a :: l) = true := by unfold isDel; rw [h]; simp
    exact ⟨by unfold delI; rw [this]; rfl, this⟩
theorem digC_no {c : UInt8} (h : digC c = false) : (c.toNat : Int) < 48 ∨ 48 ≤ (c.toNat : Int) ∧ 57 < (c.toNat : Int) := by
  unfold digC at h; have := of_decide_eq_false h; omega

end Go.Proofs.YtopgeclecpaecaaGreatDoor

/- The document's Delta, and both Puts. -/
namespace Go.Proofs.YtopgeclecpaecaaGreatDoor
open Go.RowKit

/-- from f on the text stands for the same number, and f is no nought, if it was looked at -/
def zsAt (s : ByteArray) (f k : Nat) : Prop := f ≤ k ∧ k ≤ s.size ∧ num (s.data.toList.drop f) = num s.data.toList ∧ (∀ h : f < s.size, f < k → 49 ≤ s[f].toNat)
theorem zs_start (s : ByteArray) : zsAt s 0 0 := ⟨Nat.le_refl _, Nat.zero_le _, by simp, fun _ h => absurd h (by omega)⟩
theorem zs_zero {s : ByteArray} {k : Nat} (h : zsAt s k k) (hk : k < s.size) (h0 : s[k].toNat = 48) : zsAt s (k + 1) (k + 1) := by
  refine ⟨Nat.le_refl _, hk, ?_, fun _ h => absurd h (by omega)⟩
  have h1 := h.2.2.1
  rw [drop_at hk, show s[k] = 48 from UInt8.toNat.inj h0, num_zeros] at h1
  exact h1
theorem zs_past {s : ByteArray} {f k : Nat} (h : zsAt s f k) (hk : k < s.size) (hf : f < k) : zsAt s f (k + 1) :=
  ⟨by omega, hk, h.2.2.1, fun g _ => h.2.2.2 g hf⟩
theorem zs_first {s : ByteArray} {k : Nat} (h : zsAt s k k) (hk : k < s.size) (h0 : 49 ≤ s[k].toNat) : zsAt s k (k + 1) :=
  ⟨by omega, hk, h.2.2.1, fun _ _ => h0⟩
theorem all_drop {l : List UInt8} {p : UInt8 → Bool} (h : l.all p = true) (n : Nat) : (l.drop n).all p = true := by
  rw [List.all_eq_true] at h ⊢
  exact fun x hx => h x (List.mem_of_mem_drop hx)
theorem zs_big {s : ByteArray} {f : Nat} (h : zsAt s f s.size) (hl : 10 < s.size - f) : 2147483648 < num s.data.toList := by
  have hf : f < s.size := by omega
  rw [← h.2.2.1, drop_at hf]
  refine num_big (h.2.2.2 hf hf) ?_
  rw [List.length_drop, ← size_len]; omega
theorem num_le10 {l : List UInt8} (h : l.all digC = true) (hl : l.length ≤ 10) : num l < 10000000000 :=
  Nat.lt_of_lt_of_le (num_lt l h) (Nat.pow_le_pow_right (n := 10) (by omega) hl)
/-- the bytes from f to j -/
def mid (s : ByteArray) (f j : Nat) : List UInt8 := (s.data.toList.drop f).take (j - f)
theorem mid_snoc (s : ByteArray) (f j : Nat) (h : f ≤ j) (hj : j < s.size) : mid s f (j + 1) = mid s f j ++ [s[j]] := by
  unfold mid
  rw [show j + 1 - f = (j - f) + 1 from by omega, List.take_succ_eq_append_getElem (by rw [List.length_drop, ← size_len]; omega)]
  congr 2
  rw [List.getElem_drop]
  simp [ByteArray.getElem_eq_getElem_data, show f + (j - f) = j from by omega]
theorem mid_all (s : ByteArray) (f : Nat) (j : Nat) (h : ¬ j < s.size) : mid s f j = s.data.toList.drop f := by
  unfold mid; exact List.take_of_length_le (by rw [List.length_drop, ← size_len]; omega)
theorem mid_dig {s : ByteArray} (h : s.data.toList.all digC = true) (f j : Nat) : (mid s f j).all digC = true := by
  have := all_drop h f
  unfold mid
  rw [List.all_eq_true] at this ⊢
  exact fun x hx => this x (List.mem_of_mem_take hx)
theorem num_mid {s : ByteArray} {f j : Nat} (h : s.data.toList.all digC = true) (hf : f ≤ j) (hj : j < s.size) (hl : s.size - f ≤ 10) : num (mid s f j) < 10000000000 :=
  num_le10 (mid_dig h f j) (by unfold mid; rw [List.length_take]; omega)

end Go.Proofs.YtopgeclecpaecaaGreatDoor

/- Both Puts; what the statements know outright. -/
namespace Go.Proofs.YtopgeclecpaecaaGreatDoor
open Go.RowKit

/-- the library's table of powers of ten stands as it was laid -/
def Tab (w : World) : Prop := Lib.TabIs Tryz.prog w "internal/strconv.uint64pow10" .u64 Lib.pow10Tab
theorem Tab.below {B : Nat} {w w' : World} (h : Tab w) (hb : Below B w w') (hB : w.heap.size ≤ B) : Tab w' := by
  unfold Tab Lib.TabIs World.var? at *
  cases hg : Tryz.prog.globalNamed "internal/strconv.uint64pow10" with
  | none => rw [hg] at h; cases h
  | some g =>
    rw [hg] at h
    simp only [Option.bind_some] at h ⊢
    have : g < w.heap.size := by
      rcases Nat.lt_or_ge g w.heap.size with h1 | h1
      · exact h1
      · rw [Array.getElem?_eq_none h1] at h; cases h
    rw [hb.block g (by omega)]; exact h

theorem ret_txt {a b : List UInt8} (h : a = b) : Ending.returned (.string ⟨a.toArray⟩) = .returned (.string ⟨b.toArray⟩) := by rw [h]

theorem itoa_any (n : Int) (w : World) (h0 : -9223372036854775808 ≤ n) (h1 : n ≤ 9223372036854775807) (ht : Tab w) :
    Calls Tryz.prog 55 #[.int .i64 n] w fun e w' => e = .returned (.string (bs (Lib.itoa n))) ∧ Below w.heap.size w w' := by
  refine (Tryz.strconv_Itoa n h0 h1 w ht).mono ?_
  rintro e w' ⟨rfl, k, os, rfl⟩
  exact ⟨rfl, Lib.below_grow _ w (Nat.le_refl _) k os⟩


/-- what is left to write, with what is written behind it, is the number's digits -/
def restI (N m : Int) (l : List UInt8) : Prop := 0 ≤ m ∧ m ≤ 2147483648 ∧ (l.length : Int) + m ≤ 2147483648 ∧ putTk N = Lib.decDigits m.toNat ++ l
theorem rest_more {N m : Int} {l : List UInt8} (h : restI N m l) (h10 : 10 ≤ m) : restI N (m / 10) (UInt8.ofNat (48 + m.toNat % 10) :: l) := by
  obtain ⟨a, b, d, c⟩ := h
  refine ⟨by omega, by omega, by rw [List.length_cons]; omega, ?_⟩
  rw [c, Lib.decDigits, dif_neg (by omega), List.append_assoc, show (m / 10).toNat = m.toNat / 10 from by omega]; rfl
theorem rest_last {N m : Int} {l : List UInt8} (h : restI N m l) (h10 : m < 10) : putTk N = UInt8.ofNat (48 + m.toNat % 10) :: l := by
  obtain ⟨a, b, d, c⟩ := h
  rw [c, Lib.decDigits, dif_pos (by omega), Nat.mod_eq_of_lt (by omega)]; rfl

/-- a text of one byte, out of a slice literal -/
theorem one_back (w : World) (c : Int) (h0 : 0 ≤ c) (h1 : c < 256) :
    (convert 78 9 (.slice (some ⟨w.heap.size, 0, none⟩) 1 1)).run Tryz.prog (w.alloc (.cells #[.int .u8 c] 5)) = .ok (.string (bs [UInt8.ofNat c.toNat])) (w.alloc (.cells #[.int .u8 c] 5)) :=
  (ownB_lit w 0 c (UInt8.ofNat c.toNat) (by rw [UInt8.toNat_ofNat']; omega) (Nat.zero_le _)).back
theorem bs_appendT (a b : List UInt8) : bs a ++ bs b = bs (a ++ b) := by
  unfold bs
  apply ByteArray.ext
  rw [ByteArray.data_append]; simp
theorem dig_int (k : Int) (h : 0 ≤ k) : UInt8.ofNat (48 + k % 10).toNat = UInt8.ofNat (48 + k.toNat % 10) := by
  congr 1; omega


theorem k_delta : delI [48, 48, 55] = 7 ∧ isDel [48, 48, 55] = true := by decide
theorem k_add : addI 2147483647 2 = 2147483648 := by decide
theorem k_less : lessI 5 3 = 2 := by decide
theorem k_since : sinceI 3 5 = 2 := by decide
theorem k_put : putTk 10 = [49, 48] := by
  unfold putTk; rw [ofI_mid (by omega) (by omega), Lib.decDigits, dif_neg (by decide), Lib.decDigits, dif_pos (by decide)]; rfl

end Go.Proofs.YtopgeclecpaecaaGreatDoor

/- From what a row lists to what the walks ask: the library's table of powers of ten. -/
namespace Go.Proofs.YtopgeclecpaecaaGreatDoor
open Go.RowKit
theorem gTab : Tryz.prog.globalNamed "internal/strconv.uint64pow10" = some 3 := by kernel_rfl
theorem gTabType : (Tryz.prog.globals[3]?).map (·.type) = some 163 := by kernel_rfl
theorem cellsTab : Tryz.prog.cellsOf 163 = 20 := by kernel_rfl
theorem cellsU64 : Tryz.prog.cellsOf 122 = 1 := by kernel_rfl
theorem tab_of {W : World} {l : List (String × DataW Unit)} (h : laidMetH Tryz.prog l W)
    (hf : l.filter (fun x => x.1 == "internal/strconv.uint64pow10") = [("internal/strconv.uint64pow10", Lib.tabData .u64 Lib.pow10Tab)]) : Tab W := by
  have h2 := laidMetH.filter (fun x => x.1 == "internal/strconv.uint64pow10") h
  rw [hf, MakeChecks.laidMetH_plain _ _ _ (by rfl)] at h2
  exact Lib.tabIs_of_head (rest := []) gTab gTabType Tryz.underlying163 Tryz.underlying122 cellsU64 cellsTab h2
end Go.Proofs.YtopgeclecpaecaaGreatDoor
