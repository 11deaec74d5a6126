/- Plain lists of bytes: what the text layer's functions come to. Nothing of the program is read here. -/
import Derived.Lib.Strings
import Derived.Lib.IndexBytes
import Derived.Lib.Split
import Derived.Lib.ItoaNum
import Derived.Lib.Fields
import Derived.Lib.IndexMore
import Derived.Lib.IndexLaws
import Derived.Lib.Join
namespace Go.Proofs.YtdaiielhohdgiaaDoor
/-- a text of a list of bytes -/
def bs (l : List UInt8) : ByteArray := ⟨l.toArray⟩
@[simp] theorem bs_data (l : List UInt8) : (bs l).data.toList = l := by simp [bs]
@[simp] theorem bs_size (l : List UInt8) : (bs l).size = l.length := by unfold bs; rfl
@[simp] theorem bs_self (s : ByteArray) : bs s.data.toList = s := rfl
theorem bs_of {s : ByteArray} {l : List UInt8} (h : s.data.toList = l) : s = bs l := by
  subst h; rfl
theorem size_len (s : ByteArray) : s.size = s.data.toList.length := rfl

/-- a token's byte, as a number -/
def tokI (n : Int) : Bool := decide (n = 33 ∨ (35 ≤ n ∧ n ≤ 39) ∨ n = 42 ∨ n = 43 ∨ n = 45 ∨ n = 46 ∨ n = 94 ∨ n = 95 ∨ n = 96 ∨ n = 124 ∨ n = 126 ∨ (97 ≤ n ∧ n ≤ 122) ∨ (65 ≤ n ∧ n ≤ 90) ∨ (48 ≤ n ∧ n ≤ 57))
def tokB (c : UInt8) : Bool := tokI (c.toNat : Int)
def token (l : List UInt8) : Bool := !l.isEmpty && l.all tokB
def lettI (n : Int) : Bool := decide ((97 ≤ n ∧ n ≤ 122) ∨ (65 ≤ n ∧ n ≤ 90) ∨ (48 ≤ n ∧ n ≤ 57))
def inI (n : Int) (l : List UInt8) : Bool := l.any fun b => (b.toNat : Int) == n
def lowI (n : Int) : Int := if 65 ≤ n ∧ n ≤ 90 then n + 32 else n
def lowB (c : UInt8) : UInt8 := if 65 ≤ c.toNat ∧ c.toNat ≤ 90 then c + 32 else c
def lower (l : List UInt8) : List UInt8 := l.map lowB
def blankI (n : Int) : Bool := decide (n = 32 ∨ n = 9)
def blankB (c : UInt8) : Bool := blankI (c.toNat : Int)
def ltrim (l : List UInt8) : List UInt8 := l.dropWhile blankB
def rtrim (l : List UInt8) : List UInt8 := (l.reverse.dropWhile blankB).reverse
def trim (l : List UInt8) : List UInt8 := rtrim (ltrim l)

theorem ret_bool {a b : Bool} (h : a = b) : Ending.returned (.bool a) = .returned (.bool b) := by rw [h]
theorem ret_str {a b : ByteArray} (h : a = b) : Ending.returned (.string a) = .returned (.string b) := by rw [h]
theorem take_snoc (s : ByteArray) (k : Nat) (h : k < s.size) : s.data.toList.take (k + 1) = s.data.toList.take k ++ [s[k]] := by
  rw [List.take_succ_eq_append_getElem (by simpa using h)]; rfl
theorem mem_at (s : ByteArray) (k : Nat) (h : k < s.size) : s[k] ∈ s.data.toList := by simp [ByteArray.getElem_eq_getElem_data]
theorem all_snoc (s : ByteArray) (p : UInt8 → Bool) (k : Nat) (h : k < s.size) (hp : (s.data.toList.take k).all p = true) (hq : p s[k] = true) : (s.data.toList.take (k + 1)).all p = true := by
  rw [take_snoc s k h, List.all_append, hp]; simp [hq]
theorem all_not (s : ByteArray) (p : UInt8 → Bool) (k : Nat) (h : k < s.size) (hq : p s[k] = false) : s.data.toList.all p = false := by
  rw [← Bool.not_eq_true, List.all_eq_true]
  intro H
  have := H s[k] (mem_at s k h)
  rw [hq] at this; exact absurd this (by simp)
theorem take_all {s : ByteArray} {k : Nat} (h : ¬ k < s.size) : s.data.toList.take k = s.data.toList :=
  List.take_of_length_le (by have := size_len s; omega)
theorem any_snoc (s : ByteArray) (p : UInt8 → Bool) (k : Nat) (h : k < s.size) (hp : (s.data.toList.take k).any p = false) (hq : p s[k] = false) : (s.data.toList.take (k + 1)).any p = false := by
  rw [take_snoc s k h, List.any_append, hp]; simp [hq]
theorem any_is (s : ByteArray) (p : UInt8 → Bool) (k : Nat) (h : k < s.size) (hq : p s[k] = true) : s.data.toList.any p = true := by
  rw [List.any_eq_true]; exact ⟨s[k], mem_at s k h, hq⟩
theorem nil_of {s : ByteArray} (h : s.size = 0) : s.data.toList = [] := List.eq_nil_of_length_eq_zero (by rw [← size_len]; exact h)
theorem cons_of {s : ByteArray} (h : 0 < s.size) : s.data.toList = s[0] :: s.data.toList.drop 1 := by
  have h2 : 0 < s.data.toList.length := by rw [← size_len]; exact h
  rw [ByteArray.getElem_eq_getElem_data]
  exact (by simpa using (List.drop_eq_getElem_cons h2))
theorem snoc_of {s : ByteArray} (h : 0 < s.size) : s.data.toList = s.data.toList.take (s.size - 1) ++ [s[s.size - 1]] := by
  have := take_snoc s (s.size - 1) (by omega)
  rw [show s.size - 1 + 1 = s.size from by omega, take_all (by omega)] at this
  exact this
theorem ltrim_step {s : ByteArray} (h : 0 < s.size) (hb : blankB s[0] = true) : ltrim (s.data.toList.drop 1) = ltrim s.data.toList := by
  rw [cons_of h]; simp [ltrim, hb]
theorem ltrim_end {s : ByteArray} (h : 0 < s.size) (hb : blankB s[0] = false) : ltrim s.data.toList = s.data.toList := by
  rw [cons_of h]; simp [ltrim, hb]
theorem rtrim_snoc (l : List UInt8) (c : UInt8) : rtrim (l ++ [c]) = if blankB c then rtrim l else l ++ [c] := by
  unfold rtrim
  rw [List.reverse_append, List.reverse_singleton, List.singleton_append, List.dropWhile_cons]
  split <;> simp
theorem rtrim_step {s : ByteArray} (h : 0 < s.size) (hb : blankB s[s.size - 1] = true) : rtrim (s.data.toList.take (s.size - 1)) = rtrim s.data.toList :=
  ((congrArg rtrim (snoc_of h)).trans (by rw [rtrim_snoc, if_pos hb])).symm
theorem rtrim_end {s : ByteArray} (h : 0 < s.size) (hb : blankB s[s.size - 1] = false) : rtrim s.data.toList = s.data.toList :=
  (congrArg rtrim (snoc_of h)).trans (by rw [rtrim_snoc, if_neg (by simp [hb])]; exact (snoc_of h).symm)
/-- the bytes of a token that are no letters and no digits -/
def tokL : List UInt8 := [33, 35, 36, 37, 38, 39, 42, 43, 45, 46, 94, 95, 96, 124, 126]
theorem tok_cases (c : UInt8) : (tokB c = true ∧ lettI (c.toNat : Int) = true) ∨ (tokB c = true ∧ lettI (c.toNat : Int) = false ∧ inI (c.toNat : Int) tokL = true) ∨
    (tokB c = false ∧ lettI (c.toNat : Int) = false ∧ inI (c.toNat : Int) tokL = false) := by
  simp only [tokB, tokI, lettI, inI, tokL]
  simp
  omega
theorem len_pos (s : ByteArray) : decide ((0 : Int) < (s.size : Int)) = !s.data.toList.isEmpty := by
  rw [size_len]
  cases s.data.toList with
  | nil => rfl
  | cons a l => simp
theorem ltrim_cases (t : ByteArray) : (∃ h : 0 < t.size, blankI (t[0].toNat : Int) = true ∧ ltrim (t.data.toList.drop 1) = ltrim t.data.toList) ∨
    (∃ h : 0 < t.size, blankI (t[0].toNat : Int) = false ∧ ltrim t.data.toList = t.data.toList) ∨ (t.size = 0 ∧ ltrim t.data.toList = t.data.toList) := by
  rcases Nat.eq_zero_or_pos t.size with h | h
  · exact .inr (.inr ⟨h, by rw [nil_of h]; rfl⟩)
  · cases hb : blankB t[0]
    · exact .inr (.inl ⟨h, hb, ltrim_end h hb⟩)
    · exact .inl ⟨h, hb, ltrim_step h hb⟩
theorem rtrim_cases (t : ByteArray) : (∃ h : 0 < t.size, blankI (t[t.size - 1].toNat : Int) = true ∧ rtrim (t.data.toList.take (t.size - 1)) = rtrim t.data.toList) ∨
    (∃ h : 0 < t.size, blankI (t[t.size - 1].toNat : Int) = false ∧ rtrim t.data.toList = t.data.toList) ∨ (t.size = 0 ∧ rtrim t.data.toList = t.data.toList) := by
  rcases Nat.eq_zero_or_pos t.size with h | h
  · exact .inr (.inr ⟨h, by rw [nil_of h]; rfl⟩)
  · cases hb : blankB t[t.size - 1]
    · exact .inr (.inl ⟨h, hb, rtrim_end h hb⟩)
    · exact .inl ⟨h, hb, rtrim_step h hb⟩
theorem low_mid {s : ByteArray} {k : Nat} (h : k < s.size) : (lower (s.data.toList.take k) ++ s.data.toList.drop k).getD k 0 = s[k] := by
  have h1 : (lower (s.data.toList.take k)).length = k := by simp [lower]; omega
  rw [List.getD_eq_getElem?_getD, List.getElem?_append_right (by omega), h1]
  simp [List.getElem?_drop, ByteArray.getElem_eq_getElem_data, h]
theorem low_set {s : ByteArray} {k : Nat} (h : k < s.size) : (lower (s.data.toList.take k) ++ s.data.toList.drop k).set k (lowB s[k]) = lower (s.data.toList.take (k + 1)) ++ s.data.toList.drop (k + 1) := by
  have h1 : (lower (s.data.toList.take k)).length = k := by simp [lower]; omega
  have h2 : k < s.data.toList.length := h
  rw [List.set_append_right _ _ (by omega), h1, Nat.sub_self, take_snoc s k h, List.drop_eq_getElem_cons h2, List.set_cons_zero]
  simp [lower]
theorem low_same {c : UInt8} (h : ¬ (65 ≤ (c.toNat : Int) ∧ (c.toNat : Int) ≤ 90)) : lowB c = c := by
  unfold lowB; rw [if_neg (by omega)]
theorem low_up {c : UInt8} (h1 : 65 ≤ (c.toNat : Int)) (h2 : (c.toNat : Int) ≤ 90) : ((lowB c).toNat : Int) = (c.toNat : Int) + 32 := by
  unfold lowB; rw [if_pos (by omega)]
  rw [UInt8.toNat_add]; simp; omega
theorem dropWhile_le (p : UInt8 → Bool) (l : List UInt8) : (l.dropWhile p).length ≤ l.length := (List.dropWhile_sublist p).length_le
theorem trim_le (l : List UInt8) : (trim l).length ≤ l.length := by
  unfold trim rtrim ltrim
  rw [List.length_reverse]
  exact Nat.le_trans (dropWhile_le _ _) (by rw [List.length_reverse]; exact dropWhile_le _ _)
def mayI (n : Int) : Bool := decide (n = 9 ∨ (32 ≤ n ∧ n ≠ 127))
theorem blankI_or {n : Int} (h : blankI n = true) : (n == 32) = true ∨ ((n == 32) = false ∧ (n == 9) = true) := by
  unfold blankI at h; simp at h ⊢; omega
theorem blankI_no {n : Int} (h : blankI n = false) : (n == 32) = false ∧ (n == 9) = false := by
  unfold blankI at h; simp at h ⊢; omega
theorem ltrim_at (s : ByteArray) (k : Nat) (hk : k ≤ s.size) :
    (∃ h : k < s.size, (((s[k].toNat : Int) == 32) = true ∨ (((s[k].toNat : Int) == 32) = false ∧ ((s[k].toNat : Int) == 9) = true)) ∧ ltrim (s.data.toList.drop (k + 1)) = ltrim (s.data.toList.drop k)) ∨
    (∃ h : k < s.size, (((s[k].toNat : Int) == 32) = false ∧ ((s[k].toNat : Int) == 9) = false) ∧ ltrim (s.data.toList.drop k) = s.data.toList.drop k) ∨
    (¬ k < s.size ∧ ltrim (s.data.toList.drop k) = s.data.toList.drop k) := by
  rcases Nat.lt_or_ge k s.size with h | h
  · have hd : s.data.toList.drop k = s[k] :: s.data.toList.drop (k + 1) := List.drop_eq_getElem_cons (by exact h)
    cases hb : blankB s[k]
    · exact .inr (.inl ⟨h, blankI_no hb, by rw [hd]; simp [ltrim, hb]⟩)
    · exact .inl ⟨h, blankI_or hb, by rw [hd]; simp [ltrim, hb]⟩
  · obtain rfl : k = s.size := by omega
    exact .inr (.inr ⟨by omega, by rw [List.drop_of_length_le (by simp)]; rfl⟩)
theorem rtrim_at (s : ByteArray) (k m : Nat) (hkm : k ≤ m) (hm : m ≤ s.size) :
    (∃ h : k < m, (((s[m - 1].toNat : Int) == 32) = true ∨ (((s[m - 1].toNat : Int) == 32) = false ∧ ((s[m - 1].toNat : Int) == 9) = true)) ∧ rtrim ((s.data.toList.drop k).take (m - 1 - k)) = rtrim ((s.data.toList.drop k).take (m - k))) ∨
    (∃ h : k < m, (((s[m - 1].toNat : Int) == 32) = false ∧ ((s[m - 1].toNat : Int) == 9) = false) ∧ rtrim ((s.data.toList.drop k).take (m - k)) = (s.data.toList.drop k).take (m - k)) ∨
    (¬ k < m ∧ rtrim ((s.data.toList.drop k).take (m - k)) = (s.data.toList.drop k).take (m - k)) := by
  rcases Nat.lt_or_ge k m with h | h
  · have hd : (s.data.toList.drop k).take (m - k) = (s.data.toList.drop k).take (m - 1 - k) ++ [s[m - 1]] := by
      have h1 : m - 1 - k < (s.data.toList.drop k).length := by simp; omega
      rw [show m - k = (m - 1 - k) + 1 from by omega, List.take_succ_eq_append_getElem h1]
      congr 1
      simp [ByteArray.getElem_eq_getElem_data, show k + (m - 1 - k) = m - 1 from by omega]
    cases hb : blankB s[m - 1]
    · exact .inr (.inl ⟨h, blankI_no hb, by rw [hd, rtrim_snoc, if_neg (by simp [hb])]⟩)
    · exact .inl ⟨h, blankI_or hb, by rw [hd, rtrim_snoc, if_pos hb]⟩
  · obtain rfl : k = m := by omega
    exact .inr (.inr ⟨by omega, by simp [rtrim]⟩)
def mayB (c : UInt8) : Bool := mayI (c.toNat : Int)
/-- a text's bytes in quotes, without the quotes -/
def quoteB (l : List UInt8) : List UInt8 := l.flatMap fun c => if (c.toNat : Int) = 34 ∨ (c.toNat : Int) = 92 then [92, c] else [c]
def quoteS (l : List UInt8) : List UInt8 := if l.all mayB then 34 :: quoteB l ++ [34] else []
def quoteE (l : List UInt8) : Int := if l.all mayB then 0 else 4
theorem quoteB_len (l : List UInt8) : (quoteB l).length ≤ 2 * l.length := by
  induction l with
  | nil => simp [quoteB]
  | cons c l ih =>
    have : quoteB (c :: l) = (if (c.toNat : Int) = 34 ∨ (c.toNat : Int) = 92 then [92, c] else [c]) ++ quoteB l := by simp [quoteB]
    rw [this]; split <;> simp <;> omega
theorem quoteB_plain (l : List UInt8) (c : UInt8) (h1 : ¬ (c.toNat : Int) = 34) (h2 : ¬ (c.toNat : Int) = 92) : quoteB (l ++ [c]) = quoteB l ++ [c] := by
  unfold quoteB; rw [List.flatMap_append]; simp; omega
theorem quoteB_mark (l : List UInt8) (c : UInt8) (h : (c.toNat : Int) = 34 ∨ (c.toNat : Int) = 92) : quoteB (l ++ [c]) = quoteB l ++ [92] ++ [c] := by
  unfold quoteB; rw [List.flatMap_append]; simp; omega
/-- what the rest of a text in quotes says; e: a byte 92 stood just ahead -/
def unq : List UInt8 → Bool → List UInt8 → Option (List UInt8)
  | [], _, _ => none
  | c :: r, true, acc => if mayB c then unq r false (acc ++ [c]) else none
  | c :: r, false, acc =>
    if (c.toNat : Int) = 34 then (if r.isEmpty then some acc else none)
    else if (c.toNat : Int) = 92 then unq r true acc
    else if mayB c then unq r false (acc ++ [c]) else none
def unquote : List UInt8 → Option (List UInt8)
  | [] => none
  | c :: r => if (c.toNat : Int) = 34 then unq r false [] else none
def unqS (l : List UInt8) : List UInt8 := (unquote l).getD []
def unqE (l : List UInt8) : Int := if (unquote l).isSome then 0 else 4
theorem drop_at {s : ByteArray} {k : Nat} (h : k < s.size) : s.data.toList.drop k = s[k] :: s.data.toList.drop (k + 1) := List.drop_eq_getElem_cons (by exact h)
end Go.Proofs.YtdaiielhohdgiaaDoor

/- Plain numbers: the calendar, as the date layer has it. Nothing of the program is read here. -/
namespace Go.Proofs.YtdaiielhohdgiaaDoor
/-- how many years from 1 up to y, without it, have a Feb 29 -/
def leapsI (y : Int) : Int := (y - 1) / 4 - (y - 1) / 100 + (y - 1) / 400
/-- 1 if y has a Feb 29, else 0 -/
def lpI (y : Int) : Int := leapsI (y + 1) - leapsI y
/-- days from Jan 1, 1970 to that of y -/
def aheadI (y : Int) : Int := 365 * (y - 1970) + leapsI y - 477
/-- days of a month, from 0 on -/
def domI (y m : Int) : Int := if m = 1 then 28 + lpI y else if m = 3 ∨ m = 5 ∨ m = 8 ∨ m = 10 then 30 else 31
def cum0 (m : Int) : Int := if m ≤ 0 then 0 else if m = 1 then 31 else if m = 2 then 59 else if m = 3 then 90 else if m = 4 then 120 else if m = 5 then 151 else if m = 6 then 181 else if m = 7 then 212 else if m = 8 then 243 else if m = 9 then 273 else if m = 10 then 304 else if m = 11 then 334 else 365
/-- days of the months ahead of m -/
def cumI (y m : Int) : Int := cum0 m + if 2 ≤ m then lpI y else 0
theorem leaps_1970 : leapsI 1970 = 477 := by decide
theorem lp_bd (y : Int) : 0 ≤ lpI y ∧ lpI y ≤ 1 := by unfold lpI leapsI; omega
theorem ahead_succ (y : Int) : aheadI (y + 1) = aheadI y + 365 + lpI y := by unfold aheadI lpI; omega
theorem ahead_1970 : aheadI 1970 = 0 := by decide
theorem ahead_10000 : aheadI 10000 = 2932897 := by decide
theorem ahead_lo (y : Int) (h : 1970 ≤ y) : 365 * (y - 1970) ≤ aheadI y := by unfold aheadI leapsI; omega
theorem ahead_hi (y : Int) (_h : 1970 ≤ y) : aheadI y ≤ 366 * (y - 1970) := by unfold aheadI leapsI; omega
theorem ahead_mono {a b : Int} (h : a < b) : aheadI (a + 1) ≤ aheadI b := by unfold aheadI leapsI; omega
theorem dom_bd (y m : Int) : 28 ≤ domI y m ∧ domI y m ≤ 31 := by
  have := lp_bd y
  unfold domI; split
  · omega
  · split <;> omega
theorem month_cases {m : Int} (h0 : 0 ≤ m) (h1 : m ≤ 11) : m = 0 ∨ m = 1 ∨ m = 2 ∨ m = 3 ∨ m = 4 ∨ m = 5 ∨ m = 6 ∨ m = 7 ∨ m = 8 ∨ m = 9 ∨ m = 10 ∨ m = 11 := by omega
theorem cum_succ (y : Int) {m : Int} (h0 : 0 ≤ m) (h1 : m ≤ 11) : cumI y (m + 1) = cumI y m + domI y m := by
  rcases month_cases h0 h1 with rfl | rfl | rfl | rfl | rfl | rfl | rfl | rfl | rfl | rfl | rfl | rfl <;> simp [cumI, cum0, domI] <;> omega
theorem cum_zero (y : Int) : cumI y 0 = 0 := by simp [cumI, cum0]
theorem cum_12 (y : Int) : cumI y 12 = 365 + lpI y := by simp [cumI, cum0]
theorem cum_bd (y : Int) {m : Int} (h0 : 0 ≤ m) (h1 : m ≤ 12) : 0 ≤ cumI y m ∧ cumI y m ≤ 365 + lpI y := by
  have := lp_bd y
  rcases Int.lt_or_le m 12 with h | h
  · rcases month_cases h0 (by omega) with rfl | rfl | rfl | rfl | rfl | rfl | rfl | rfl | rfl | rfl | rfl | rfl <;> simp [cumI, cum0] <;> omega
  · obtain rfl : m = 12 := by omega
    rw [cum_12]; omega
theorem cum_mono (y : Int) {m k : Int} (h0 : 0 ≤ m) (hmk : m < k) (h1 : k ≤ 12) : cumI y (m + 1) ≤ cumI y k := by
  have h : ∀ n : Nat, m + 1 + n ≤ 12 → cumI y (m + 1) ≤ cumI y (m + 1 + n) := by
    intro n
    induction n with
    | zero => intro _; simp
    | succ n ih =>
      intro hn
      have h2 := ih (by omega)
      have h3 := cum_succ y (m := m + 1 + n) (by omega) (by omega)
      have h4 := dom_bd y (m + 1 + n)
      rw [show m + 1 + ((n + 1 : Nat) : Int) = m + 1 + n + 1 from by omega]
      omega
  have := h (k - (m + 1)).toNat (by omega)
  rwa [show m + 1 + ((k - (m + 1)).toNat : Int) = k from by omega] at this

/-- day n (0: Jan 1, 1970) is day d of month m (from 0 on) of year y -/
def IsD (n y m d : Int) : Prop := 1970 ≤ y ∧ y ≤ 9999 ∧ 0 ≤ m ∧ m ≤ 11 ∧ 1 ≤ d ∧ d ≤ domI y m ∧ aheadI y + cumI y m + d - 1 = n
theorem IsD.in_year {n y m d : Int} (h : IsD n y m d) : aheadI y ≤ n ∧ n < aheadI (y + 1) := by
  obtain ⟨h1, h2, h3, h4, h5, h6, h7⟩ := h
  have := cum_succ y h3 h4
  have := cum_bd y (m := m + 1) (by omega) (by omega)
  have := cum_bd y h3 (by omega)
  rw [ahead_succ]; omega
theorem IsD.in_month {n y m d : Int} (h : IsD n y m d) : cumI y m ≤ n - aheadI y ∧ n - aheadI y < cumI y (m + 1) := by
  obtain ⟨h1, h2, h3, h4, h5, h6, h7⟩ := h
  have := cum_succ y h3 h4
  omega
theorem IsD.bd {n y m d : Int} (h : IsD n y m d) : 0 ≤ n ∧ n ≤ 2932896 := by
  obtain ⟨h0, h1⟩ := h.in_year
  have := ahead_lo y h.1
  have h2 : aheadI (y + 1) ≤ aheadI 10000 := by
    by_cases e : y = 9999
    · subst e; decide
    · have h3 : aheadI (y + 1) ≤ aheadI 9999 := ahead_mono (by have := h.2.1; omega)
      have : aheadI 9999 ≤ aheadI 10000 := by decide
      omega
  rw [ahead_10000] at h2
  have := h.1
  omega
theorem IsD.uniq {n y m d y' m' d' : Int} (h : IsD n y m d) (k : IsD n y' m' d') : y = y' ∧ m = m' ∧ d = d' := by
  obtain ⟨a0, a1⟩ := h.in_year
  obtain ⟨b0, b1⟩ := k.in_year
  have hy : y = y' := by
    rcases Int.lt_trichotomy y y' with g | g | g
    · have := ahead_mono g; omega
    · exact g
    · have := ahead_mono g; omega
  subst hy
  obtain ⟨c0, c1⟩ := h.in_month
  obtain ⟨d0, d1⟩ := k.in_month
  have hm : m = m' := by
    rcases Int.lt_trichotomy m m' with g | g | g
    · have := cum_mono y h.2.2.1 g (by have := k.2.2.2.1; omega); omega
    · exact g
    · have := cum_mono y k.2.2.1 g (by have := h.2.2.2.1; omega); omega
  subst hm
  refine ⟨rfl, rfl, ?_⟩
  have h1 := h.2.2.2.2.2.2
  have h2 := k.2.2.2.2.2.2
  omega
theorem year_of (n : Int) (h0 : 0 ≤ n) (h1 : n ≤ 2932896) : ∃ y, 1970 ≤ y ∧ y ≤ 9999 ∧ aheadI y ≤ n ∧ n < aheadI (y + 1) := by
  suffices h : ∀ k : Nat, ∀ y : Int, 1970 ≤ y → y + k = 10000 → aheadI y ≤ n → ∃ y, 1970 ≤ y ∧ y ≤ 9999 ∧ aheadI y ≤ n ∧ n < aheadI (y + 1) from
    h 8030 1970 (by omega) (by omega) (by rw [ahead_1970]; exact h0)
  intro k
  induction k with
  | zero => intro y hy hk ha; obtain rfl : y = 10000 := by omega
            rw [ahead_10000] at ha; omega
  | succ k ih =>
    intro y hy hk ha
    rcases Int.lt_or_le n (aheadI (y + 1)) with h | h
    · exact ⟨y, hy, by omega, ha, h⟩
    · exact ih (y + 1) (by omega) (by omega) h
theorem isD_ex (n : Int) (h0 : 0 ≤ n) (h1 : n ≤ 2932896) : ∃ y m d, IsD n y m d := by
  obtain ⟨y, hy0, hy1, ha0, ha1⟩ := year_of n h0 h1
  suffices h : ∀ k : Nat, ∀ m : Int, 0 ≤ m → m + k = 12 → cumI y m ≤ n - aheadI y → ∃ m, 0 ≤ m ∧ m ≤ 11 ∧ cumI y m ≤ n - aheadI y ∧ n - aheadI y < cumI y (m + 1) by
    obtain ⟨m, m0, m1, c0, c1⟩ := h 12 0 (by omega) (by omega) (by rw [cum_zero]; omega)
    have := cum_succ y m0 m1
    exact ⟨y, m, n - aheadI y - cumI y m + 1, hy0, hy1, m0, m1, by omega, by omega, by omega⟩
  intro k
  induction k with
  | zero => intro m hm hk hc; obtain rfl : m = 12 := by omega
            rw [cum_12] at hc; rw [ahead_succ] at ha1; omega
  | succ k ih =>
    intro m hm hk hc
    rcases Int.lt_or_le (n - aheadI y) (cumI y (m + 1)) with h | h
    · exact ⟨m, hm, by omega, hc, h⟩
    · exact ih (m + 1) (by omega) (by omega) h
def wdI (n : Int) : Int := (n + 3) % 7
theorem wd_bd (n : Int) : 0 ≤ wdI n ∧ wdI n ≤ 6 := by unfold wdI; omega

/-- tick t is that date -/
def IsT (t y m d h i s : Int) : Prop := IsD (t / 86400) y m d ∧ h = t % 86400 / 3600 ∧ i = t % 86400 / 60 % 60 ∧ s = t % 60
theorem IsT.time {t y m d h i s : Int} (H : IsT t y m d h i s) : 0 ≤ h ∧ h ≤ 23 ∧ 0 ≤ i ∧ i ≤ 59 ∧ 0 ≤ s ∧ s ≤ 59 := by
  obtain ⟨_, rfl, rfl, rfl⟩ := H; omega
theorem IsT.tick {t y m d h i s : Int} (H : IsT t y m d h i s) : (aheadI y + cumI y m + d - 1) * 86400 + (h * 3600 + i * 60 + s) = t := by
  obtain ⟨h1, h2, h3, h4⟩ := H
  rw [h1.2.2.2.2.2.2]; omega
theorem isT_of {n y m d h i s : Int} (H : IsD n y m d) (h0 : 0 ≤ h) (h1 : h ≤ 23) (i0 : 0 ≤ i) (i1 : i ≤ 59) (s0 : 0 ≤ s) (s1 : s ≤ 59) : IsT (n * 86400 + (h * 3600 + i * 60 + s)) y m d h i s := by
  refine ⟨?_, by omega, by omega, by omega⟩
  rw [show (n * 86400 + (h * 3600 + i * 60 + s)) / 86400 = n from by omega]; exact H
theorem isT_ex (t : Int) (h0 : 0 ≤ t) (h1 : t ≤ 253402300799) : ∃ y m d h i s, IsT t y m d h i s := by
  obtain ⟨y, m, d, h⟩ := isD_ex (t / 86400) (by omega) (by omega)
  exact ⟨y, m, d, _, _, _, h, rfl, rfl, rfl⟩
theorem IsT.bd {t y m d h i s : Int} (H : IsT t y m d h i s) : 0 ≤ t ∧ t ≤ 253402300799 := by
  have := H.1.bd; omega
theorem IsT.uniq {t y m d h i s y' m' d' h' i' s' : Int} (H : IsT t y m d h i s) (K : IsT t y' m' d' h' i' s') : y = y' ∧ m = m' ∧ d = d' ∧ h = h' ∧ i = i' ∧ s = s' := by
  obtain ⟨a, b, c⟩ := H.1.uniq K.1
  obtain ⟨_, rfl, rfl, rfl⟩ := H
  obtain ⟨_, rfl, rfl, rfl⟩ := K
  exact ⟨a, b, c, rfl, rfl, rfl⟩
end Go.Proofs.YtdaiielhohdgiaaDoor

/- Plain numbers and digits: what the tick layer's functions come to. Nothing of the program is read here. -/
namespace Go.Proofs.YtdaiielhohdgiaaDoor
/-- the delta of a number -/
def ofI (n : Int) : Int := if n < 0 then 0 else if 2147483648 < n then 2147483648 else n
def addI (a b : Int) : Int := ofI (ofI a + ofI b)
def lessI (a b : Int) : Int := ofI (ofI a - ofI b)
def sinceI (a b : Int) : Int := ofI (b - a)
theorem ofI_mm (n : Int) : ofI n = min (max n 0) 2147483648 := by unfold ofI; split <;> (try split) <;> omega
theorem ofI_lo (n : Int) : 0 ≤ ofI n := by unfold ofI; split <;> (try split) <;> omega
theorem ofI_hi (n : Int) : ofI n ≤ 2147483648 := by unfold ofI; split <;> (try split) <;> omega
theorem ofI_neg {n : Int} (h : n < 0) : ofI n = 0 := by unfold ofI; rw [if_pos h]
theorem ofI_big {n : Int} (h : 2147483648 < n) : ofI n = 2147483648 := by unfold ofI; rw [if_neg (by omega), if_pos h]
theorem ofI_mid {n : Int} (h0 : 0 ≤ n) (h1 : n ≤ 2147483648) : ofI n = n := by unfold ofI; rw [if_neg (by omega), if_neg (by omega)]
theorem ofI_top {n : Int} (h : 2147483648 ≤ n) : ofI n = 2147483648 := by unfold ofI; split <;> (try split) <;> omega
theorem ofI_ofI (n : Int) : ofI (ofI n) = ofI n := ofI_mid (ofI_lo n) (ofI_hi n)
theorem ofI_mono {a b : Int} (h : a ≤ b) : ofI a ≤ ofI b := by unfold ofI; split <;> split <;> (try split) <;> (try split) <;> omega

/-- a digit -/
def digC (c : UInt8) : Bool := decide (48 ≤ (c.toNat : Int) ∧ (c.toNat : Int) ≤ 57)
def num (l : List UInt8) : Nat := l.foldl (fun n c => 10 * n + (c.toNat - 48)) 0
def isDel (l : List UInt8) : Bool := !l.isEmpty && l.all digC
def delI (l : List UInt8) : Int := if isDel l then ofI (num l) else 0
def putTk (n : Int) : List UInt8 := Lib.decDigits (ofI n).toNat
theorem num_snoc (l : List UInt8) (c : UInt8) : num (l ++ [c]) = 10 * num l + (c.toNat - 48) := by unfold num; rw [List.foldl_append]; rfl
theorem num_append (a b : List UInt8) : num (a ++ b) = num a * 10 ^ b.length + num b := by
  suffices h : ∀ (b : List UInt8) (n : Nat), b.foldl (fun n c => 10 * n + (c.toNat - 48)) n = n * 10 ^ b.length + num b by
    unfold num; rw [List.foldl_append]; exact h b _
  intro b
  induction b with
  | nil => intro n; simp [num]
  | cons c b ih =>
    intro n
    rw [List.foldl_cons, ih, show num (c :: b) = (c.toNat - 48) * 10 ^ b.length + num b from by unfold num; rw [List.foldl_cons, ih]; simp [num], List.length_cons, Nat.pow_succ,
      show n * (10 ^ b.length * 10) = 10 * n * 10 ^ b.length from by rw [← Nat.mul_assoc, Nat.mul_comm (n * 10 ^ b.length) 10, Nat.mul_assoc], Nat.add_mul]
    omega
theorem ofI_step (m : Nat) (d : Int) (h0 : 0 ≤ d) : ofI (10 * ofI m + d) = ofI ((10 * m : Nat) + d) := by
  unfold ofI; repeat' split
  all_goals omega
theorem dig_bd {c : UInt8} (h : digC c = true) : 48 ≤ c.toNat ∧ c.toNat ≤ 57 := by
  unfold digC at h; have := of_decide_eq_true h; omega
theorem ofI_num (l : List UInt8) (c : UInt8) (h : digC c = true) : ofI (10 * ofI (num l) + ((c.toNat : Int) - 48)) = ofI (num (l ++ [c])) := by
  have := dig_bd h
  rw [ofI_step _ _ (by omega), num_snoc]
  congr 1; omega
theorem num_cons (c : UInt8) (l : List UInt8) : num (c :: l) = (c.toNat - 48) * 10 ^ l.length + num l := by
  have h := num_append [c] l
  rw [show num [c] = c.toNat - 48 from by unfold num; simp] at h
  exact h
theorem num_lt : ∀ (l : List UInt8), l.all digC = true → num l < 10 ^ l.length
  | [], _ => by simp [num]
  | c :: l, h => by
    rw [List.all_cons, Bool.and_eq_true] at h
    have h1 := num_lt l h.2
    have h2 := dig_bd h.1
    rw [num_cons, List.length_cons, Nat.pow_succ]
    have h3 : (c.toNat - 48) * 10 ^ l.length ≤ 9 * 10 ^ l.length := Nat.mul_le_mul_right _ (by omega)
    omega
/-- the leading noughts are nothing -/
theorem num_zeros (l : List UInt8) : num (48 :: l) = num l := by unfold num; rw [List.foldl_cons]; rfl
theorem num_big {c : UInt8} {l : List UInt8} (h0 : 49 ≤ c.toNat) (hl : 10 ≤ l.length) : 2147483648 < num (c :: l) := by
  have h3 : 10 ^ 10 ≤ 10 ^ l.length := Nat.pow_le_pow_right (by omega) hl
  have h4 : 10 ^ l.length ≤ (c.toNat - 48) * 10 ^ l.length := Nat.le_mul_of_pos_left _ (by omega)
  rw [num_cons]
  omega
theorem dig_of (d : Nat) (h : d < 10) : digC (UInt8.ofNat (48 + d)) = true ∧ (UInt8.ofNat (48 + d)).toNat = 48 + d := by
  have : (UInt8.ofNat (48 + d)).toNat = 48 + d := by simp; omega
  exact ⟨by unfold digC; rw [this]; exact decide_eq_true (by omega), this⟩
theorem dec_all (u : Nat) : (Lib.decDigits u).all digC = true ∧ num (Lib.decDigits u) = u ∧ Lib.decDigits u ≠ [] := by
  induction u using Nat.strongRecOn with
  | _ u ih =>
    rw [Lib.decDigits]
    split
    · rename_i h
      have := dig_of u h
      exact ⟨by rw [List.all_cons, this.1]; rfl, by unfold num; simp only [List.foldl_cons, List.foldl_nil]; rw [this.2]; omega, by simp⟩
    · rename_i h
      obtain ⟨h1, h2, h3⟩ := ih (u / 10) (by omega)
      have := dig_of (u % 10) (by omega)
      refine ⟨by rw [List.all_append, h1, List.all_cons, this.1]; rfl, by rw [num_snoc, h2, this.2]; omega, by simp⟩
theorem del_put (n : Int) : isDel (putTk n) = true ∧ delI (putTk n) = ofI n := by
  obtain ⟨h1, h2, h3⟩ := dec_all (ofI n).toNat
  have hd : isDel (putTk n) = true := by
    unfold isDel putTk; rw [h1]
    cases h : Lib.decDigits (ofI n).toNat with
    | nil => exact absurd h h3
    | cons a l => rfl
  refine ⟨hd, ?_⟩
  unfold delI; rw [if_pos hd]
  unfold putTk; rw [h2]
  have := ofI_lo n
  rw [show (((ofI n).toNat : Nat) : Int) = ofI n from by omega, ofI_ofI]
theorem itoa_put (n : Int) : Lib.itoa (ofI n) = putTk n := by
  unfold Lib.itoa putTk; rw [if_neg (by have := ofI_lo n; omega)]
end Go.Proofs.YtdaiielhohdgiaaDoor

/- Plain texts: what the date layer reads and writes. Nothing of the program is read here. -/
namespace Go.Proofs.YtdaiielhohdgiaaDoor
def sDays : List (List UInt8) := [[77, 111, 110], [84, 117, 101], [87, 101, 100], [84, 104, 117], [70, 114, 105], [83, 97, 116], [83, 117, 110]]
def lDays : List (List UInt8) := [[77, 111, 110, 100, 97, 121], [84, 117, 101, 115, 100, 97, 121], [87, 101, 100, 110, 101, 115, 100, 97, 121], [84, 104, 117, 114, 115, 100, 97, 121], [70, 114, 105, 100, 97, 121], [83, 97, 116, 117, 114, 100, 97, 121], [83, 117, 110, 100, 97, 121]]
def sMonths : List (List UInt8) := [[74, 97, 110], [70, 101, 98], [77, 97, 114], [65, 112, 114], [77, 97, 121], [74, 117, 110], [74, 117, 108], [65, 117, 103], [83, 101, 112], [79, 99, 116], [78, 111, 118], [68, 101, 99]]
/-- a digit's byte -/
def digO (n : Nat) : UInt8 := UInt8.ofNat (48 + n)
/-- a number below 100, by two digits -/
def pad2 (n : Int) : List UInt8 := [digO (n.toNat / 10), digO (n.toNat % 10)]
/-- the first of the names that l begins with, from number i on: its number, its length -/
def leadGo : Nat → List (List UInt8) → List UInt8 → Nat × Nat
  | _, [], _ => (0, 0)
  | i, n :: ns, l => if n.isPrefixOf l then (i, n.length) else leadGo (i + 1) ns l
def leadL (ns : List (List UInt8)) (l : List UInt8) : Nat × Nat := leadGo 0 ns l
theorem lead_step {ns : List (List UInt8)} {l : List UInt8} {k : Nat} (h : k < ns.length) (hb : ns[k].isPrefixOf l = false) : leadGo k (ns.drop k) l = leadGo (k + 1) (ns.drop (k + 1)) l := by
  rw [List.drop_eq_getElem_cons h, leadGo, if_neg (by rw [hb]; simp)]
theorem lead_hit {ns : List (List UInt8)} {l : List UInt8} {k : Nat} (h : k < ns.length) (hb : ns[k].isPrefixOf l = true) : leadGo k (ns.drop k) l = (k, ns[k].length) := by
  rw [List.drop_eq_getElem_cons h, leadGo, if_pos hb]
theorem lead_end {ns : List (List UInt8)} {l : List UInt8} {k : Nat} (h : ¬ k < ns.length) : leadGo k (ns.drop k) l = (0, 0) := by
  rw [List.drop_of_length_le (by omega)]; rfl
/-- do k digits stand ahead? -/
def numB (l : List UInt8) (k : Nat) : Bool := decide (k ≤ l.length) && (l.take k).all digC
def numV (l : List UInt8) (k : Nat) : Nat × Nat := if numB l k then (num (l.take k), k) else (0, 0)
def spdV (l : List UInt8) : Nat × Nat := if Lib.hasPrefix l [32] then (if numB (l.drop 1) 1 then (num ((l.drop 1).take 1), 2) else (0, 0)) else numV l 2
theorem numV_short {l : List UInt8} {k : Nat} (h : l.length < k) : numV l k = (0, 0) := by
  unfold numV numB; rw [decide_eq_false (by omega)]; rfl
theorem numV_no {l : List UInt8} {k : Nat} (h : (l.take k).all digC = false) : numV l k = (0, 0) := by
  unfold numV numB; rw [h, Bool.and_false]; rfl
theorem numV_yes {l : List UInt8} {k : Nat} (h0 : k ≤ l.length) (h : (l.take k).all digC = true) : numV l k = (num (l.take k), k) := by
  unfold numV numB; rw [h, decide_eq_true h0]; rfl
theorem num_lt10 {l : List UInt8} (h : l.all digC = true) {n : Nat} (hl : l.length ≤ n) (hn : n ≤ 4) : num l < 10000 :=
  Nat.lt_of_lt_of_le (num_lt l h) (by rw [show (10000 : Nat) = 10 ^ 4 from rfl]; exact Nat.pow_le_pow_right (by omega) (by omega))
theorem numV_bd (l : List UInt8) {k : Nat} (hk : k ≤ 4) : (numV l k).1 < 10000 ∧ (numV l k).2 ≤ k := by
  unfold numV
  split
  · rename_i h
    unfold numB at h
    rw [Bool.and_eq_true] at h
    exact ⟨num_lt10 h.2 (List.length_take_le _ _) hk, Nat.le_refl _⟩
  · exact ⟨by omega, by omega⟩

/-- what a text says of a date -/
structure Rd where
  (wd d m y h i s : Int)
def Rd.zero : Rd := ⟨0, 0, 0, 0, 0, 0, 0⟩
/-- one letter of a form: what is read ahead, and how long it is -/
def takeL (c : UInt8) (l : List UInt8) (nw : Int) (r : Rd) : Rd × Nat :=
  if c = 119 then ({ r with wd := (leadL sDays l).1 }, (leadL sDays l).2)
  else if c = 87 then ({ r with wd := (leadL lDays l).1 }, (leadL lDays l).2)
  else if c = 100 then ({ r with d := (numV l 2).1 }, (numV l 2).2)
  else if c = 101 then ({ r with d := (spdV l).1 }, (spdV l).2)
  else if c = 109 then ({ r with m := (leadL sMonths l).1 }, (leadL sMonths l).2)
  else if c = 89 then ({ r with y := (numV l 4).1 }, (numV l 4).2)
  else if c = 121 then ({ r with y := nw - (nw - (numV l 2).1) % 100 }, (numV l 2).2)
  else if c = 104 then ({ r with h := (numV l 2).1 }, (numV l 2).2)
  else if c = 105 then ({ r with i := (numV l 2).1 }, (numV l 2).2)
  else if c = 115 then ({ r with s := (numV l 2).1 }, (numV l 2).2)
  else (r, if Lib.hasPrefix l [c] then 1 else 0)
/-- a form -/
def runL (nw : Int) : List UInt8 → List UInt8 → Rd → Option (Rd × List UInt8)
  | [], l, r => some (r, l)
  | c :: cs, l, r => if (takeL c l nw r).2 = 0 then none else runL nw cs (l.drop (takeL c l nw r).2) (takeL c l nw r).1
def validL (r : Rd) : Bool := decide (1970 ≤ r.y ∧ r.y ≤ 9999 ∧ 1 ≤ r.d ∧ r.d ≤ domI r.y r.m ∧ r.h ≤ 23 ∧ r.i ≤ 59 ∧ r.s ≤ 59 ∧ r.wd = wdI (aheadI r.y + cumI r.y r.m + r.d - 1))
def tickL (r : Rd) : Int := (aheadI r.y + cumI r.y r.m + r.d - 1) * 86400 + (r.h * 3600 + r.i * 60 + r.s)
def formL (nw : Int) (f l : List UInt8) : Option Int :=
  match runL nw f l .zero with
  | some (r, []) => if validL r then some (tickL r) else none
  | _ => none
def fixF : List UInt8 := [119, 44, 32, 100, 32, 109, 32, 89, 32, 104, 58, 105, 58, 115, 32, 71, 77, 84]
def oldF : List UInt8 := [87, 44, 32, 100, 45, 109, 45, 121, 32, 104, 58, 105, 58, 115, 32, 71, 77, 84]
def ascF : List UInt8 := [119, 32, 109, 32, 101, 32, 104, 58, 105, 58, 115, 32, 89]
def parseDL (nw : Int) (l : List UInt8) : Option Int := (formL nw fixF l).or ((formL nw oldF l).or (formL nw ascF l))

theorem lead_bd (ns : List (List UInt8)) (l : List UInt8) : (leadL ns l).1 ≤ ns.length ∧ (leadL ns l).2 ≤ l.length ∧ (0 < ns.length → (leadL ns l).1 < ns.length) := by
  suffices h : ∀ (k : Nat) (ns : List (List UInt8)), (leadGo k ns l).1 ≤ k + ns.length ∧ (leadGo k ns l).2 ≤ l.length ∧ (0 < k + ns.length → (leadGo k ns l).1 < k + ns.length) by
    have := h 0 ns
    simp only [Nat.zero_add] at this
    exact this
  intro k ns
  induction ns generalizing k with
  | nil => simp [leadGo]
  | cons n ns ih =>
    rw [leadGo]; split
    · rename_i hp
      have := (List.isPrefixOf_iff_prefix.1 hp).length_le
      exact ⟨by simp, this, fun _ => by simp⟩
    · have := ih (k + 1)
      simp only [List.length_cons]
      exact ⟨by omega, this.2.1, fun _ => by omega⟩
theorem numV_le (l : List UInt8) (k : Nat) : (numV l k).2 ≤ l.length := by
  unfold numV numB
  split
  · rename_i h; rw [Bool.and_eq_true] at h; exact of_decide_eq_true h.1
  · omega
theorem prefix_one {l : List UInt8} {c : UInt8} (h : Lib.hasPrefix l [c] = true) : ∃ r, l = c :: r := by
  unfold Lib.hasPrefix at h
  obtain ⟨r, hr⟩ := List.isPrefixOf_iff_prefix.1 h
  exact ⟨r, hr.symm⟩
theorem spdV_le (l : List UInt8) : (spdV l).2 ≤ l.length := by
  unfold spdV
  split
  · rename_i h
    obtain ⟨r, rfl⟩ := prefix_one h
    split
    · rename_i h2
      unfold numB at h2; rw [Bool.and_eq_true] at h2
      have := of_decide_eq_true h2.1
      simp at this ⊢; omega
    · omega
  · exact numV_le _ _
theorem take_le (c : UInt8) (l : List UInt8) (nw : Int) (r : Rd) : (takeL c l nw r).2 ≤ l.length := by
  unfold takeL
  repeat' split
  all_goals first | exact (lead_bd _ _).2.1 | exact numV_le _ _ | exact spdV_le _ | skip
  · rename_i h
    obtain ⟨r, rfl⟩ := prefix_one h
    simp
  · exact Nat.zero_le _
end Go.Proofs.YtdaiielhohdgiaaDoor

/- Plain lists of bytes, more: what is read of a text in quotes, byte by byte. -/
namespace Go.Proofs.YtdaiielhohdgiaaDoor
theorem cat_data (a b : ByteArray) : (a ++ b).data.toList = a.data.toList ++ b.data.toList := by simp [ByteArray.data_append]
theorem quote_size {t s : ByteArray} {k : Nat} (h : t.data.toList = 34 :: quoteB (s.data.toList.take k)) : t.size ≤ 2 * k + 1 := by
  rw [size_len, h, List.length_cons]
  have h1 := quoteB_len (s.data.toList.take k)
  have h2 : (s.data.toList.take k).length ≤ k := List.length_take_le _ _
  omega
theorem one_at (s : ByteArray) (k : Nat) (h : k < s.size) : (s.data.toList.drop k).take (k + 1 - k) = [s[k]] := by
  rw [drop_at h, show k + 1 - k = 1 from by omega]; rfl
theorem unq_start (s : ByteArray) : (s.size = 0 ∧ unquote s.data.toList = none) ∨ (∃ h : 0 < s.size, ¬ (s[0].toNat : Int) = 34 ∧ unquote s.data.toList = none) ∨
    (∃ h : 0 < s.size, (s[0].toNat : Int) = 34 ∧ unquote s.data.toList = unq (s.data.toList.drop 1) false []) := by
  rcases Nat.eq_zero_or_pos s.size with h | h
  · exact .inl ⟨h, by rw [nil_of h]; rfl⟩
  · by_cases hc : (s[0].toNat : Int) = 34
    · exact .inr (.inr ⟨h, hc, (congrArg unquote (cons_of h)).trans (if_pos hc)⟩)
    · exact .inr (.inl ⟨h, hc, (congrArg unquote (cons_of h)).trans (if_neg hc)⟩)
theorem drop_nil {s : ByteArray} {k : Nat} (h : s.size ≤ k) : s.data.toList.drop k = [] := List.drop_of_length_le h
theorem unq_byte (s : ByteArray) (k : Nat) (h : k < s.size) (acc : List UInt8) :
    (((s[k].toNat : Int) == 34) = true ∧ k + 1 = s.size ∧ unq (s.data.toList.drop k) false acc = some acc) ∨
    (((s[k].toNat : Int) == 34) = true ∧ ¬ k + 1 = s.size ∧ unq (s.data.toList.drop k) false acc = none) ∨
    (((s[k].toNat : Int) == 34) = false ∧ ((s[k].toNat : Int) == 92) = true ∧ k + 1 = s.size ∧ unq (s.data.toList.drop k) false acc = none) ∨
    (((s[k].toNat : Int) == 34) = false ∧ ((s[k].toNat : Int) == 92) = true ∧ (∃ h2 : k + 1 < s.size, mayI (s[k + 1].toNat : Int) = false) ∧ unq (s.data.toList.drop k) false acc = none) ∨
    (((s[k].toNat : Int) == 34) = false ∧ ((s[k].toNat : Int) == 92) = true ∧ ∃ h2 : k + 1 < s.size, mayI (s[k + 1].toNat : Int) = true ∧ unq (s.data.toList.drop k) false acc = unq (s.data.toList.drop (k + 2)) false (acc ++ [s[k + 1]])) ∨
    (((s[k].toNat : Int) == 34) = false ∧ ((s[k].toNat : Int) == 92) = false ∧ mayI (s[k].toNat : Int) = false ∧ unq (s.data.toList.drop k) false acc = none) ∨
    (((s[k].toNat : Int) == 34) = false ∧ ((s[k].toNat : Int) == 92) = false ∧ mayI (s[k].toNat : Int) = true ∧ unq (s.data.toList.drop k) false acc = unq (s.data.toList.drop (k + 1)) false (acc ++ [s[k]])) := by
  rw [drop_at h]
  by_cases h1 : (s[k].toNat : Int) = 34
  · have h1' : ((s[k].toNat : Int) == 34) = true := by simpa using h1
    by_cases h2 : k + 1 = s.size
    · exact .inl ⟨h1', h2, by rw [drop_nil (by omega)]; simp [unq, h1]⟩
    · refine .inr (.inl ⟨h1', h2, ?_⟩)
      have h3 : k + 1 < s.size := by omega
      rw [drop_at h3]; simp [unq, h1]
  · have h1' : ((s[k].toNat : Int) == 34) = false := by simpa using h1
    by_cases h2 : (s[k].toNat : Int) = 92
    · have h2' : ((s[k].toNat : Int) == 92) = true := by simpa using h2
      rcases Nat.lt_or_ge (k + 1) s.size with h3 | h3
      · rw [drop_at h3]
        cases hm : mayI (s[k + 1].toNat : Int)
        · exact .inr (.inr (.inr (.inl ⟨h1', h2', ⟨h3, hm⟩, by simp [unq, h2, mayB, hm]⟩)))
        · exact .inr (.inr (.inr (.inr (.inl ⟨h1', h2', h3, hm, by simp [unq, h2, mayB, hm]⟩))))
      · exact .inr (.inr (.inl ⟨h1', h2', by omega, by rw [drop_nil h3]; simp [unq, h2]⟩))
    · have h2' : ((s[k].toNat : Int) == 92) = false := by simpa using h2
      cases hm : mayI (s[k].toNat : Int)
      · exact .inr (.inr (.inr (.inr (.inr (.inl ⟨h1', h2', rfl, by simp [unq, h1, h2, mayB, hm]⟩)))))
      · exact .inr (.inr (.inr (.inr (.inr (.inr ⟨h1', h2', rfl, by simp [unq, h1, h2, mayB, hm]⟩)))))
theorem unq_in (s : ByteArray) (k : Nat) (h : k < s.size) (acc : List UInt8) :
    (((s[k].toNat : Int) == 92) = false ∧ ((s[k].toNat : Int) == 34) = true ∧ mayI (s[k].toNat : Int) = true ∧ s.size ≤ k + 1 ∧ unq (s.data.toList.drop k) false acc = some acc) ∨
    (((s[k].toNat : Int) == 92) = false ∧ ((s[k].toNat : Int) == 34) = true ∧ k + 1 < s.size ∧ unq (s.data.toList.drop k) false acc = none) ∨
    (((s[k].toNat : Int) == 92) = true ∧ mayI (s[k].toNat : Int) = true ∧ unq (s.data.toList.drop k) false acc = unq (s.data.toList.drop (k + 1)) true acc) ∨
    (((s[k].toNat : Int) == 92) = false ∧ ((s[k].toNat : Int) == 34) = false ∧ mayI (s[k].toNat : Int) = false ∧ unq (s.data.toList.drop k) false acc = none) ∨
    (((s[k].toNat : Int) == 92) = false ∧ ((s[k].toNat : Int) == 34) = false ∧ mayI (s[k].toNat : Int) = true ∧ unq (s.data.toList.drop k) false acc = unq (s.data.toList.drop (k + 1)) false (acc ++ [s[k]])) := by
  rw [drop_at h]
  by_cases h1 : (s[k].toNat : Int) = 34
  · have h1' : ((s[k].toNat : Int) == 34) = true := by simpa using h1
    have h2' : ((s[k].toNat : Int) == 92) = false := by rw [h1]; rfl
    rcases Nat.lt_or_ge (k + 1) s.size with h3 | h3
    · exact .inr (.inl ⟨h2', h1', h3, by rw [drop_at h3]; simp [unq, h1]⟩)
    · exact .inl ⟨h2', h1', by rw [h1]; rfl, h3, by rw [drop_nil h3]; simp [unq, h1]⟩
  · have h1' : ((s[k].toNat : Int) == 34) = false := by simpa using h1
    by_cases h2 : (s[k].toNat : Int) = 92
    · have h2' : ((s[k].toNat : Int) == 92) = true := by simpa using h2
      exact .inr (.inr (.inl ⟨h2', by rw [h2]; rfl, by simp [unq, h2]⟩))
    · have h2' : ((s[k].toNat : Int) == 92) = false := by simpa using h2
      cases hm : mayI (s[k].toNat : Int)
      · exact .inr (.inr (.inr (.inl ⟨h2', h1', rfl, by simp [unq, h1, h2, mayB, hm]⟩)))
      · exact .inr (.inr (.inr (.inr ⟨h2', h1', rfl, by simp [unq, h1, h2, mayB, hm]⟩)))
theorem unq_esc (s : ByteArray) (k : Nat) (h : k < s.size) (acc : List UInt8) :
    (mayI (s[k].toNat : Int) = false ∧ unq (s.data.toList.drop k) true acc = none) ∨
    (mayI (s[k].toNat : Int) = true ∧ unq (s.data.toList.drop k) true acc = unq (s.data.toList.drop (k + 1)) false (acc ++ [s[k]])) := by
  rw [drop_at h]
  cases hm : mayI (s[k].toNat : Int)
  · exact .inl ⟨rfl, by simp [unq, mayB, hm]⟩
  · exact .inr ⟨rfl, by simp [unq, mayB, hm]⟩
theorem unq_first (s : ByteArray) (h : 0 < s.size) :
    (((s[0].toNat : Int) != 34) = true ∧ unquote s.data.toList = none) ∨
    (((s[0].toNat : Int) != 34) = false ∧ mayI (s[0].toNat : Int) = true ∧ unquote s.data.toList = unq (s.data.toList.drop 1) false []) := by
  rcases unq_start s with ⟨h0, _⟩ | ⟨_, hc, hu⟩ | ⟨_, hc, hu⟩
  · omega
  · exact .inl ⟨bne_iff_ne.2 hc, hu⟩
  · exact .inr ⟨by rw [bne_eq_false_iff_eq]; exact hc, by rw [hc]; rfl, hu⟩
theorem unq_quote (l : List UInt8) (h : l.all mayB = true) : ∀ acc, unq (quoteB l ++ [34]) false acc = some (acc ++ l) := by
  induction l with
  | nil => intro acc; simp [quoteB, unq]
  | cons c l ih =>
    intro acc
    simp only [List.all_cons, Bool.and_eq_true] at h
    have hq : quoteB (c :: l) = (if (c.toNat : Int) = 34 ∨ (c.toNat : Int) = 92 then [92, c] else [c]) ++ quoteB l := by simp [quoteB]
    rw [hq]
    by_cases h1 : (c.toNat : Int) = 34 ∨ (c.toNat : Int) = 92
    · rw [if_pos h1]
      show unq (92 :: c :: (quoteB l ++ [34])) false acc = _
      simp only [unq, h.1, if_true]
      rw [if_neg (by decide), if_pos (by decide), ih h.2]
      simp
    · rw [if_neg h1]
      show unq (c :: (quoteB l ++ [34])) false acc = _
      simp only [unq, h.1, if_true]
      rw [if_neg (fun e => h1 (.inl e)), if_neg (fun e => h1 (.inr e)), ih h.2]
      simp
theorem unquote_quote (l : List UInt8) (h : l.all mayB = true) : unquote (quoteS l) = some l := by
  rw [quoteS, if_pos h]
  show unquote (34 :: (quoteB l ++ [34])) = _
  rw [unquote, if_pos (by decide), unq_quote l h]
  simp
theorem quoteS_len (l : List UInt8) : (quoteS l).length ≤ 2 * l.length + 2 := by
  unfold quoteS
  have := quoteB_len l
  split <;> simp
  omega
theorem bad_byte {n : Int} (h : mayI n = false) : (n < 32 ∧ (n != 9) = true) ∨ (¬ n < 32 ∧ (n == 127) = true) := by
  unfold mayI at h
  simp only [decide_eq_false_iff_not] at h
  by_cases h1 : n < 32
  · exact .inl ⟨h1, bne_iff_ne.2 (by omega)⟩
  · exact .inr ⟨h1, beq_iff_eq.2 (by omega)⟩
theorem good_byte {n : Int} (h : mayI n = true) : (n < 32 ∧ (n != 9) = false ∧ (n == 127) = false) ∨ (¬ n < 32 ∧ (n == 127) = false) := by
  unfold mayI at h
  simp only [decide_eq_true_iff] at h
  by_cases h1 : n < 32
  · exact .inl ⟨h1, by rw [bne_eq_false_iff_eq]; omega, beq_eq_false_iff_ne.2 (by omega)⟩
  · exact .inr ⟨h1, beq_eq_false_iff_ne.2 (by omega)⟩
end Go.Proofs.YtdaiielhohdgiaaDoor

/- Lists that are cut at a byte outside quotes: plain lists. -/
namespace Go.Proofs.YtdaiielhohdgiaaDoor
/-- how a byte turns what is open: outside; within; behind a byte 92 within -/
def qnext (o e : Bool) (c : UInt8) : Bool × Bool :=
  if o then (if e then (true, false) else if (c.toNat : Int) = 92 then (true, true) else if (c.toNat : Int) = 34 then (false, false) else (true, false))
  else if (c.toNat : Int) = 34 then (true, false) else (false, false)
def addP (acc : List (List UInt8)) (cur : List UInt8) : List (List UInt8) := if (trim cur).isEmpty then acc else acc ++ [trim cur]
/-- the pieces of a list: what is left of it, what is open, the piece so far, the pieces so far -/
def cutAt (sep : UInt8) : List UInt8 → Bool → Bool → List UInt8 → List (List UInt8) → Option (List (List UInt8))
  | [], o, _, cur, acc => if o then none else some (addP acc cur)
  | c :: r, o, e, cur, acc =>
    if o = false ∧ c = sep then cutAt sep r false false [] (addP acc cur)
    else cutAt sep r (qnext o e c).1 (qnext o e c).2 (cur ++ [c]) acc
def badSep (sep : UInt8) : Bool := sep == 34 || sep == 92
def splitL (l : List UInt8) (sep : UInt8) : List (List UInt8) :=
  if badSep sep then [] else match cutAt sep l false false [] [] with
  | none => []
  | some a => if 64 < a.length then [] else a
def splitE (l : List UInt8) (sep : UInt8) : Int :=
  if badSep sep then 2 else match cutAt sep l false false [] [] with
  | none => 4
  | some a => if 64 < a.length then 3 else 0
theorem addL_take (A : List (List UInt8)) (cur : List UInt8) : (if (trim cur).isEmpty then A.take 65 else if (A.take 65).length ≤ 64 then A.take 65 ++ [trim cur] else A.take 65) = (addP A cur).take 65 := by
  unfold addP
  cases h : (trim cur).isEmpty
  · simp only [Bool.false_eq_true, if_false]
    by_cases hl : A.length ≤ 64
    · rw [List.take_of_length_le (by omega), if_pos hl, List.take_of_length_le (by simp; omega)]
    · rw [if_neg (by rw [List.length_take]; omega), List.take_append_of_le_length (by omega)]
  · simp
/-- one byte on: within or at a mark, or outside and no separator -/
theorem cut_step {sep : UInt8} {s : ByteArray} {k f : Nat} {o e : Bool} {A : List (List UInt8)} (h : k < s.size) (hf : f ≤ k) (hn : ¬ (o = false ∧ s[k] = sep)) :
    cutAt sep (s.data.toList.drop k) o e ((s.data.toList.drop f).take (k - f)) A = cutAt sep (s.data.toList.drop (k + 1)) (qnext o e s[k]).1 (qnext o e s[k]).2 ((s.data.toList.drop f).take (k + 1 - f)) A := by
  rw [drop_at h]
  have h1 : k - f < (s.data.toList.drop f).length := by simp; omega
  have h2 : (s.data.toList.drop f).take (k + 1 - f) = (s.data.toList.drop f).take (k - f) ++ [s[k]] := by
    rw [show k + 1 - f = (k - f) + 1 from by omega, List.take_succ_eq_append_getElem h1]
    congr 1
    simp [ByteArray.getElem_eq_getElem_data, show f + (k - f) = k from by omega]
  rw [h2]
  rw [cutAt, if_neg hn]
theorem cut_sep {sep : UInt8} {s : ByteArray} {k f : Nat} {e : Bool} {A : List (List UInt8)} (h : k < s.size) (hs : s[k] = sep) :
    cutAt sep (s.data.toList.drop k) false e ((s.data.toList.drop f).take (k - f)) A = cutAt sep (s.data.toList.drop (k + 1)) false false ((s.data.toList.drop (k + 1)).take (k + 1 - (k + 1))) (addP A ((s.data.toList.drop f).take (k - f))) := by
  rw [drop_at h, cutAt, if_pos ⟨rfl, hs⟩]
  simp
theorem cut_end {sep : UInt8} {s : ByteArray} {k f : Nat} {o e : Bool} {A : List (List UInt8)} (h : ¬ k < s.size) :
    cutAt sep (s.data.toList.drop k) o e ((s.data.toList.drop f).take (k - f)) A = if o then none else some (addP A ((s.data.toList.drop f).take (s.size - f))) := by
  rw [drop_nil (by omega), cutAt, List.take_of_length_le (by simp; omega), List.take_of_length_le (l := s.data.toList.drop f) (by simp)]
theorem qn_out (e : Bool) {c : UInt8} (h : ((c.toNat : Int) != 34) = true) : qnext false e c = (false, false) := by
  have := bne_iff_ne.1 h; simp [qnext, this]
theorem qn_open (e : Bool) {c : UInt8} (h : ((c.toNat : Int) != 34) = false) : qnext false e c = (true, false) := by
  rw [bne_eq_false_iff_eq] at h; simp [qnext, h]
theorem qn_esc (c : UInt8) : qnext true true c = (true, false) := rfl
theorem qn_back {c : UInt8} (h : ((c.toNat : Int) == 92) = true) : qnext true false c = (true, true) := by
  have := beq_iff_eq.1 h; simp [qnext, this]
theorem qn_close {c : UInt8} (h : ((c.toNat : Int) == 92) = false) (h2 : ((c.toNat : Int) == 34) = true) : qnext true false c = (false, false) := by
  have a := beq_eq_false_iff_ne.1 h; have b := beq_iff_eq.1 h2; simp [qnext, b]
theorem qn_held {c : UInt8} (h : ((c.toNat : Int) == 92) = false) (h2 : ((c.toNat : Int) == 34) = false) : qnext true false c = (true, false) := by
  have a := beq_eq_false_iff_ne.1 h; have b := beq_eq_false_iff_ne.1 h2; simp [qnext, a, b]
end Go.Proofs.YtdaiielhohdgiaaDoor

/- Plain lists of bytes: what small letters, blanks and tokens are to the others. -/
namespace Go.Proofs.YtdaiielhohdgiaaDoor
theorem lowB_idem (c : UInt8) : lowB (lowB c) = lowB c := by
  by_cases h : 65 ≤ (c.toNat : Int) ∧ (c.toNat : Int) ≤ 90
  · exact low_same (by rw [low_up h.1 h.2]; omega)
  · rw [low_same h, low_same h]
theorem lower_idem (l : List UInt8) : lower (lower l) = lower l := by
  unfold lower; rw [List.map_map]; congr 1; funext c; exact lowB_idem c
theorem lower_len (l : List UInt8) : (lower l).length = l.length := by simp [lower]
theorem ltrim_idem_of {l : List UInt8} (h : ∀ c r, l = c :: r → blankB c = false) : ltrim l = l := by
  cases l with
  | nil => rfl
  | cons c r => simp [ltrim, h c r rfl]
theorem rtrim_idem_of {l : List UInt8} (h : ∀ r c, l = r ++ [c] → blankB c = false) : rtrim l = l := by
  rcases List.eq_nil_or_concat l with rfl | ⟨r, c, rfl⟩
  · rfl
  · rw [List.concat_eq_append] at h ⊢; rw [rtrim_snoc, if_neg (by simp [h r c rfl])]
theorem dropWhile_head {p : UInt8 → Bool} : ∀ {l : List UInt8} {c : UInt8} {r : List UInt8}, l.dropWhile p = c :: r → p c = false
  | [], _, _, h => by simp at h
  | a :: t, c, r, h => by
    rw [List.dropWhile_cons] at h
    split at h
    · exact dropWhile_head h
    · rename_i hp
      obtain ⟨rfl, _⟩ := List.cons.inj h
      simpa using hp
theorem rtrim_prefix (l : List UInt8) : rtrim l <+: l := by
  unfold rtrim
  have h := List.dropWhile_suffix (l := l.reverse) blankB
  have := List.reverse_prefix.2 h
  simpa using this
theorem trim_idem (l : List UInt8) : trim (trim l) = trim l := by
  have h1 : ltrim (trim l) = trim l := by
    refine ltrim_idem_of fun c r h => ?_
    obtain ⟨t, ht⟩ := rtrim_prefix (ltrim l)
    have h2 : ltrim l = c :: (r ++ t) := by rw [← ht]; show trim l ++ t = _; rw [h]; rfl
    exact dropWhile_head h2
  have h2 : rtrim (trim l) = trim l := by
    refine rtrim_idem_of fun r c h => ?_
    have h3 : (ltrim l).reverse.dropWhile blankB = c :: r.reverse := by
      have := congrArg List.reverse h
      unfold trim rtrim at this
      simpa using this
    exact dropWhile_head h3
  show rtrim (ltrim (trim l)) = _
  rw [h1, h2]
theorem contains_trim (l : List UInt8) : Lib.contains l (trim l) = true := by
  unfold Lib.contains
  rw [decide_eq_true_iff]
  obtain ⟨t, ht⟩ := rtrim_prefix (ltrim l)
  obtain ⟨a, ha⟩ := List.dropWhile_suffix (l := l) blankB
  have hd : l.drop a.length = ltrim l := by
    have := congrArg (List.drop a.length) ha
    rw [List.drop_left] at this
    exact this.symm
  rcases Lib.index_spec l (trim l) with ⟨_, h⟩ | ⟨i, h, _⟩
  · have h1 := h a.length (by have := congrArg List.length ha; simp only [List.length_append] at this; omega)
    unfold Lib.occAt at h1
    rw [hd] at h1
    have h2 : (trim l).isPrefixOf (ltrim l) = true := List.isPrefixOf_iff_prefix.2 ⟨t, ht⟩
    rw [h2] at h1; cases h1
  · rw [h]; omega
theorem tok_not {c : UInt8} (h : tokB c = true) : blankB c = false ∧ ¬ (c.toNat : Int) = 34 := by
  unfold tokB tokI at h
  rw [decide_eq_true_iff] at h
  unfold blankB blankI
  rw [decide_eq_false_iff_not]
  omega
theorem trim_token {l : List UInt8} (h : token l = true) : trim l = l := by
  unfold token at h
  simp only [Bool.and_eq_true, List.all_eq_true] at h
  have h1 : ltrim l = l := ltrim_idem_of fun c r hl => (tok_not (h.2 c (by rw [hl]; simp))).1
  show rtrim (ltrim l) = l
  rw [h1]
  exact rtrim_idem_of fun r c hl => (tok_not (h.2 c (by rw [hl]; simp))).1
theorem unq_token {l : List UInt8} (h : token l = true) : unquote l = none := by
  unfold token at h
  simp only [Bool.and_eq_true, List.all_eq_true] at h
  cases l with
  | nil => rfl
  | cons c r => rw [unquote, if_neg (tok_not (h.2 c (by simp))).2]
theorem cut_plain {sep : UInt8} : ∀ (l cur : List UInt8) (A : List (List UInt8)), (∀ c ∈ l, ¬ (c.toNat : Int) = 34 ∧ c ≠ sep) → cutAt sep l false false cur A = some (addP A (cur ++ l))
  | [], cur, A, _ => by simp [cutAt]
  | c :: r, cur, A, h => by
    have hc := h c (by simp)
    rw [cutAt, if_neg (fun e => hc.2 e.2), qn_out false (bne_iff_ne.2 hc.1), cut_plain r _ _ (fun x hx => h x (by simp [hx]))]
    simp
theorem split_token {l : List UInt8} {sep : UInt8} (h : token l = true) (hs : badSep sep = false) (hn : ∀ c ∈ l, c ≠ sep) : splitE l sep = 0 ∧ splitL l sep = [l] := by
  have ht := h
  unfold token at h
  simp only [Bool.and_eq_true, List.all_eq_true] at h
  have hc := cut_plain (sep := sep) l [] [] (fun c hc => ⟨(tok_not (h.2 c hc)).2, hn c hc⟩)
  rw [List.nil_append] at hc
  have hp : addP [] l = [l] := by
    unfold addP; rw [trim_token ht]
    cases l with
    | nil => simp at h
    | cons c r => rfl
  rw [hp] at hc
  constructor <;> simp [splitE, splitL, hs, hc]
end Go.Proofs.YtdaiielhohdgiaaDoor

/- Lists of header fields, plainly: names, values, what is set and taken out, the names that go no further. Nothing of the program is read here. -/
namespace Go.Proofs.YtdaiielhohdgiaaDoor
/-- a field: its name, its value -/
abbrev Fld := List UInt8 × List UInt8
def sameN (a b : List UInt8) : Bool := lower a == lower b
def valsL (l : List Fld) (n : List UInt8) : List (List UInt8) := (l.filter fun f => sameN f.1 n).map (·.2)
def getL (l : List Fld) (n : List UInt8) : List UInt8 := Lib.join (valsL l n) [44, 32]
def hasN (names : List (List UInt8)) (n : List UInt8) : Bool := names.any fun x => sameN x n
def delL (l : List Fld) (names : List (List UInt8)) : List Fld := l.filter fun f => !hasN names f.1
def setL : List Fld → List UInt8 → List UInt8 → List Fld
  | [], n, v => [(n, v)]
  | f :: r, n, v => if sameN f.1 n then (f.1, v) :: delL r [n] else f :: setL r n v
/-- the nine names -/
def nine : List (List UInt8) :=
  [[99,111,110,110,101,99,116,105,111,110], [107,101,101,112,45,97,108,105,118,101], [112,114,111,120,121,45,99,111,110,110,101,99,116,105,111,110], [116,101],
   [116,114,97,105,108,101,114], [116,114,97,110,115,102,101,114,45,101,110,99,111,100,105,110,103], [117,112,103,114,97,100,101],
   [112,114,111,120,121,45,97,117,116,104,101,110,116,105,99,97,116,101], [112,114,111,120,121,45,97,117,116,104,111,114,105,122,97,116,105,111,110]]
def conn : List UInt8 := [99,111,110,110,101,99,116,105,111,110]
def addN (acc : List (List UInt8)) (x : List UInt8) : List (List UInt8) := if token x then (if hasN acc x then acc else acc ++ [lower x]) else acc
def addV (acc : List (List UInt8)) (v : List UInt8) : List (List UInt8) := (splitL v 44).foldl addN acc
def hopL (l : List Fld) : List (List UInt8) := (valsL l conn).foldl addV nine
def cleanL (l : List Fld) : List Fld := delL l (hopL l)

theorem sameN_refl (a : List UInt8) : sameN a a = true := by simp [sameN]
theorem sameN_symm (a b : List UInt8) : sameN a b = sameN b a := by simp [sameN, Bool.beq_comm]
theorem sameN_eq {a b : List UInt8} (h : sameN a b = true) (c : List UInt8) : sameN a c = sameN b c := by
  have : lower a = lower b := by simpa [sameN] using h
  simp [sameN, this]
theorem sameN_eqR {a b : List UInt8} (h : sameN a b = true) (c : List UInt8) : sameN c a = sameN c b := by
  rw [sameN_symm c a, sameN_symm c b]; exact sameN_eq h c
theorem sameN_lower (a b : List UInt8) : sameN (lower a) b = sameN a b := by simp [sameN, lower_idem]
theorem hasN_one (n x : List UInt8) : hasN [n] x = sameN n x := by simp [hasN]
theorem hasN_of_same {names : List (List UInt8)} {a b : List UInt8} (h : sameN a b = true) : hasN names a = hasN names b := by
  unfold hasN
  congr 1
  funext x
  exact sameN_eqR h x

theorem filter_none {α : Type} {p : α → Bool} {l : List α} (h : ∀ x ∈ l, p x = false) : l.filter p = [] := by
  rw [List.filter_eq_nil_iff]; intro x hx; rw [h x hx]; simp
theorem filter_same {α : Type} {p q : α → Bool} {l : List α} (h : ∀ x ∈ l, p x = q x) : l.filter p = l.filter q := List.filter_congr h

theorem vals_del {l : List Fld} {names : List (List UInt8)} {n : List UInt8} (h : hasN names n = true) : valsL (delL l names) n = [] := by
  unfold valsL delL
  rw [List.filter_filter, filter_none (fun f _ => ?_)]; rfl
  cases hs : sameN f.1 n
  · rfl
  · rw [hasN_of_same hs, h]; rfl
theorem vals_del_other {l : List Fld} {names : List (List UInt8)} {n : List UInt8} (h : hasN names n = false) : valsL (delL l names) n = valsL l n := by
  unfold valsL delL
  rw [List.filter_filter]
  congr 1
  refine filter_same fun f _ => ?_
  cases hs : sameN f.1 n
  · rfl
  · rw [hasN_of_same hs, h]; rfl
theorem vals_cons (f : Fld) (l : List Fld) (n : List UInt8) : valsL (f :: l) n = if sameN f.1 n then f.2 :: valsL l n else valsL l n := by
  unfold valsL; rw [List.filter_cons]; split <;> simp
theorem vals_set (l : List Fld) (n v : List UInt8) : valsL (setL l n v) n = [v] := by
  induction l with
  | nil => simp [setL, valsL, sameN_refl]
  | cons f r ih =>
    unfold setL
    cases h : sameN f.1 n
    · simp only [Bool.false_eq_true, if_false]; rw [vals_cons, h]; simpa using ih
    · simp only [if_true]; rw [vals_cons]; simp only [h, if_true]
      rw [vals_del (by rw [hasN_one]; exact sameN_refl n)]
theorem vals_set_other {l : List Fld} {n v o : List UInt8} (h : sameN n o = false) : valsL (setL l n v) o = valsL l o := by
  induction l with
  | nil => simp [setL, valsL, h]
  | cons f r ih =>
    unfold setL
    cases hs : sameN f.1 n
    · simp only [Bool.false_eq_true, if_false]; rw [vals_cons, vals_cons, ih]
    · simp only [if_true]
      have hf : sameN f.1 o = false := (sameN_eq hs o).trans h
      rw [vals_cons, vals_cons]
      simp only [hf, Bool.false_eq_true, if_false]
      exact vals_del_other (by rw [hasN_one]; exact h)
theorem del_le (l : List Fld) (names : List (List UInt8)) : (delL l names).length ≤ l.length := List.length_filter_le _ _

/-- what stands ahead of the first field of a name -/
def firstN (l : List Fld) (n : List UInt8) : List Fld := l.takeWhile fun f => !sameN f.1 n
theorem set_none {l : List Fld} {n : List UInt8} (v : List UInt8) (h : l.any (fun f => sameN f.1 n) = false) : setL l n v = delL l [n] ++ [(n, v)] := by
  induction l with
  | nil => rfl
  | cons f r ih =>
    simp only [List.any_cons, Bool.or_eq_false_iff] at h
    unfold setL
    simp only [h.1, Bool.false_eq_true, if_false]
    have hd : delL (f :: r) [n] = f :: delL r [n] := by unfold delL; rw [List.filter_cons, hasN_one, sameN_symm, h.1]; rfl
    rw [hd, ih h.2]; rfl
theorem set_at {l : List Fld} {n : List UInt8} (v : List UInt8) : ∀ {k : Nat} (hk : k < l.length), sameN l[k].1 n = true → (∀ j (hj : j < k), sameN (l[j]'(by omega)).1 n = false) →
    setL l n v = (delL l [n]).take k ++ (l[k].1, v) :: (delL l [n]).drop k ∧ k ≤ (delL l [n]).length := by
  induction l with
  | nil => intro k hk; exact absurd hk (by simp)
  | cons f r ih =>
    intro k hk hs hn
    cases k with
    | zero =>
      unfold setL
      have hs' : sameN f.1 n = true := hs
      simp only [hs', if_true]
      have hd : delL (f :: r) [n] = delL r [n] := by unfold delL; rw [List.filter_cons, hasN_one, sameN_symm, hs']; rfl
      rw [hd]; simp
    | succ k =>
      have h0 : sameN f.1 n = false := hn 0 (by omega)
      have hd : delL (f :: r) [n] = f :: delL r [n] := by unfold delL; rw [List.filter_cons, hasN_one, sameN_symm, h0]; rfl
      obtain ⟨h1, h2⟩ := ih (k := k) (by simpa using hk) hs (fun j hj => hn (j + 1) (by omega))
      unfold setL
      simp only [h0, Bool.false_eq_true, if_false]
      rw [hd, h1]
      simp only [List.getElem_cons_succ, List.take_succ_cons, List.drop_succ_cons, List.cons_append, List.length_cons]
      exact ⟨trivial, by omega⟩

theorem any_of_has {names : List (List UInt8)} {x y : List UInt8} (hx : x ∈ names) (h : sameN x y = true) : hasN names y = true := by
  unfold hasN; rw [List.any_eq_true]; exact ⟨x, hx, h⟩
theorem addN_sub (acc : List (List UInt8)) (x : List UInt8) : ∀ y ∈ acc, y ∈ addN acc x := fun y hy => by
  unfold addN; split
  · split
    · exact hy
    · exact List.mem_append_left _ hy
  · exact hy
theorem addV_sub (v : List UInt8) : ∀ (acc : List (List UInt8)), ∀ y ∈ acc, y ∈ addV acc v := by
  unfold addV
  generalize splitL v 44 = p
  induction p with
  | nil => intro acc y hy; exact hy
  | cons x r ih => intro acc y hy; exact ih _ y (addN_sub acc x y hy)
theorem hops_sub (vs : List (List UInt8)) : ∀ (acc : List (List UInt8)), ∀ y ∈ acc, y ∈ vs.foldl addV acc := by
  induction vs with
  | nil => intro acc y hy; exact hy
  | cons v r ih => intro acc y hy; exact ih _ y (addV_sub v acc y hy)
theorem nine_hop (l : List Fld) : ∀ y ∈ nine, y ∈ hopL l := hops_sub _ nine
theorem conn_nine : conn ∈ nine := by simp [conn, nine]
theorem clean_none {l : List Fld} {x : List UInt8} (hx : x ∈ hopL l) : valsL (cleanL l) x = [] := vals_del (any_of_has hx (sameN_refl x))
theorem hop_clean (l : List Fld) : hopL (cleanL l) = nine := by
  rw [hopL, clean_none (nine_hop l conn conn_nine)]; rfl
theorem clean_clean (l : List Fld) : cleanL (cleanL l) = cleanL l := by
  have h : cleanL (cleanL l) = delL (cleanL l) nine := by rw [cleanL, hop_clean]
  rw [h]
  unfold delL
  rw [List.filter_eq_self]
  intro f hf
  have h1 : f ∈ delL l (hopL l) := hf
  rw [delL, List.mem_filter] at h1
  have h2 := h1.2
  rw [Bool.not_eq_true'] at h2 ⊢
  unfold hasN at h2 ⊢
  rw [List.any_eq_false] at h2 ⊢
  exact fun x hx => h2 x (nine_hop l x hx)

/-- names in small letters alone -/
def lows (acc : List (List UInt8)) : Prop := ∀ x ∈ acc, lower x = x
theorem lows_nine : lows nine := by
  intro x hx
  have h : nine.all (fun y => lower y == y) = true := by decide
  simpa using List.all_eq_true.1 h x hx
theorem lows_addN {acc : List (List UInt8)} (h : lows acc) (x : List UInt8) : lows (addN acc x) := by
  unfold addN
  split
  · split
    · exact h
    · intro y hy
      rcases List.mem_append.1 hy with hy | hy
      · exact h y hy
      · rw [List.mem_singleton.1 hy, lower_idem]
  · exact h
theorem lows_mem {acc : List (List UInt8)} (h : lows acc) (x : List UInt8) : hasN acc x = acc.any (fun y => y == lower x) := by
  unfold hasN
  rw [Bool.eq_iff_iff, List.any_eq_true, List.any_eq_true]
  constructor
  · rintro ⟨y, hy, h1⟩; exact ⟨y, hy, by rw [sameN, h y hy] at h1; exact h1⟩
  · rintro ⟨y, hy, h1⟩; exact ⟨y, hy, by rw [sameN, h y hy]; exact h1⟩

theorem join_snoc (L : List (List UInt8)) (x sep : List UInt8) (h : L ≠ []) : Lib.join (L ++ [x]) sep = Lib.join L sep ++ sep ++ x := by
  cases L with
  | nil => exact absurd rfl h
  | cons a r =>
    rw [List.cons_append, Lib.join_cons, Lib.join_cons]
    simp [Lib.joinTail]

/-- may a list be gone through -/
def sizeL (l : List Fld) : Nat := (l.map fun f => f.1.length + f.2.length).sum
def fewB (l : List Fld) : Bool := decide (l.length ≤ 80) && decide (sizeL l ≤ 12000)
theorem sizeL_cons (f : Fld) (l : List Fld) : sizeL (f :: l) = f.1.length + f.2.length + sizeL l := by simp [sizeL]
theorem sizeL_append (a b : List Fld) : sizeL (a ++ b) = sizeL a + sizeL b := by simp [sizeL]
theorem sizeL_mem {l : List Fld} {f : Fld} (h : f ∈ l) : f.1.length + f.2.length ≤ sizeL l := by
  induction l with
  | nil => cases h
  | cons g r ih =>
    rw [sizeL_cons]
    rcases List.mem_cons.1 h with rfl | h
    · omega
    · have := ih h; omega
theorem sizeL_filter (p : Fld → Bool) (l : List Fld) : sizeL (l.filter p) ≤ sizeL l := by
  induction l with
  | nil => exact Nat.le_refl _
  | cons f r ih => rw [List.filter_cons, sizeL_cons]; split
                   · rw [sizeL_cons]; omega
                   · omega
theorem vals_flat (l : List Fld) (n : List UInt8) : (valsL l n).flatten.length ≤ sizeL l := by
  induction l with
  | nil => simp [valsL]
  | cons f r ih =>
    rw [vals_cons, sizeL_cons]; split
    · simp only [List.flatten_cons, List.length_append]; omega
    · omega
theorem vals_len (l : List Fld) (n : List UInt8) : (valsL l n).length ≤ l.length := by unfold valsL; rw [List.length_map]; exact List.length_filter_le _ _
theorem get_len (l : List Fld) (n : List UInt8) : (getL l n).length ≤ sizeL l + 2 * l.length := by
  unfold getL
  have h : ∀ L : List (List UInt8), (Lib.join L [44, 32]).length ≤ L.flatten.length + 2 * L.length := by
    intro L
    cases L with
    | nil => simp [Lib.join_nil]
    | cons x r =>
      rw [Lib.join_cons, List.length_append, List.flatten_cons, List.length_append, List.length_cons]
      have : (Lib.joinTail [44, 32] r).length = r.flatten.length + 2 * r.length := by
        unfold Lib.joinTail
        induction r with
        | nil => rfl
        | cons y r ih => simp only [List.map_cons, List.flatten_cons, List.length_append, List.length_cons, ih, List.length_nil]; omega
      omega
  have h1 := h (valsL l n)
  have h2 := vals_flat l n
  have h3 := vals_len l n
  omega
end Go.Proofs.YtdaiielhohdgiaaDoor

/- Lists of header fields, plainly: which may be, their text, and what a text is as fields. Nothing of the program is read here. -/
namespace Go.Proofs.YtdaiielhohdgiaaDoor
def valV (v : List UInt8) : Bool := v.all mayB && (trim v == v)
def lenF (f : Fld) : Nat := f.1.length + 2 + f.2.length
def mayF (f : Fld) : Bool := token f.1 && valV f.2
def longF (f : Fld) : Bool := decide (2048 < lenF f)
def chkF (f : Fld) : Int := if mayF f then (if longF f then 3 else 0) else 4
def firstE : List Fld → Int
  | [] => 0
  | f :: r => if chkF f = 0 then firstE r else chkF f
def checkL (l : List Fld) : Int := if 64 < l.length then 3 else firstE l
def lineL (f : Fld) : List UInt8 := f.1 ++ [58, 32] ++ f.2
def linesL (l : List Fld) : List UInt8 := l.flatMap fun f => lineL f ++ [13, 10]
def putL (l : List Fld) : List UInt8 := if checkL l = 0 then linesL l else []
/-- the field of a line (without its end), and why it is none -/
def oneF (s : List UInt8) : Fld := ((Lib.cut s [58]).1, trim (Lib.cut s [58]).2.1)
def oneE (s : List UInt8) : Int := if (Lib.cut s [58]).2.2 then chkF (oneF s) else 4
def cutN (s : List UInt8) : List UInt8 × List UInt8 × Bool := Lib.cut s [13, 10]
theorem cut_le (s sep : List UInt8) : (Lib.cut s sep).1.length ≤ s.length ∧ (Lib.cut s sep).2.1.length ≤ s.length := by
  unfold Lib.cut; split
  · exact ⟨List.length_take_le' _ _, by simp⟩
  · exact ⟨Nat.le_refl _, by simp⟩
theorem cutN_lt {s : List UInt8} (h : (cutN s).2.2 = true) : (cutN s).2.1.length < s.length := by
  unfold cutN Lib.cut at h ⊢
  split at h
  · rename_i h0
    rw [if_pos h0]
    have := Lib.index_room s [13, 10] h0
    simp only [List.length_drop, List.length_cons, List.length_nil] at this ⊢
    omega
  · cases h
/-- what a text is as fields, behind those that were read -/
def parseW (s : List UInt8) (out : List Fld) : List Fld × Int :=
  if _h : (cutN s).2.2 = true then
    if out.length = 64 ∨ 2048 < (cutN s).1.length then ([], 3)
    else if oneE (cutN s).1 = 0 then parseW (cutN s).2.1 (out ++ [oneF (cutN s).1]) else ([], oneE (cutN s).1)
  else if s = [] then (out, 0) else ([], 4)
termination_by s.length
decreasing_by exact cutN_lt (by assumption)
def parseL (s : List UInt8) : List Fld × Int := parseW s []

theorem chkF_cases (f : Fld) : (mayF f = false ∧ chkF f = 4) ∨ (mayF f = true ∧ longF f = true ∧ chkF f = 3) ∨ (mayF f = true ∧ longF f = false ∧ chkF f = 0) := by
  unfold chkF
  cases h1 : mayF f <;> cases h2 : longF f <;> simp
theorem chkF_zero {f : Fld} (h : chkF f = 0) : mayF f = true ∧ lenF f ≤ 2048 := by
  rcases chkF_cases f with ⟨_, h2⟩ | ⟨_, _, h2⟩ | ⟨h1, h2, _⟩
  · omega
  · omega
  · refine ⟨h1, ?_⟩
    unfold longF at h2
    have := of_decide_eq_false h2
    omega

/-- how far the document's reader of a field has come: its value's first bytes -/
def upTo (v : ByteArray) (k : Nat) : Prop := (v.data.toList.take k).all mayB = true ∧ (0 < k → ∃ h : 0 < v.size, blankB v[0] = false) ∧ (k = v.size → 0 < k → ∃ h : v.size - 1 < v.size, blankB v[v.size - 1] = false)
theorem upTo_zero (v : ByteArray) : upTo v 0 := ⟨rfl, fun h => absurd h (by omega), fun _ h => absurd h (by omega)⟩
theorem upTo_end {v : ByteArray} (h : upTo v v.size) : valV v.data.toList = true := by
  obtain ⟨h1, h2, h3⟩ := h
  rw [take_all (by omega)] at h1
  unfold valV
  rw [h1, Bool.true_and]
  rcases Nat.eq_zero_or_pos v.size with h0 | h0
  · rw [nil_of h0]; rfl
  · obtain ⟨_, hb⟩ := h2 h0
    obtain ⟨_, hc⟩ := h3 rfl h0
    have : trim v.data.toList = v.data.toList := by
      unfold trim
      rw [ltrim_end h0 hb, rtrim_end h0 hc]
    rw [this]; simp
theorem valV_byte {v : ByteArray} {k : Nat} (h : k < v.size) (hb : mayB v[k] = false) : valV v.data.toList = false := by
  unfold valV; rw [all_not v mayB k h hb]; rfl
theorem dropWhile_lt {p : UInt8 → Bool} {l : List UInt8} {c : UInt8} (h : p c = true) : ((c :: l).dropWhile p).length ≤ l.length := by
  rw [List.dropWhile_cons, h]; exact dropWhile_le p l
theorem valV_first {v : ByteArray} (h : 0 < v.size) (hb : blankB v[0] = true) : valV v.data.toList = false := by
  unfold valV
  have hne : trim v.data.toList ≠ v.data.toList := by
    intro e
    have h1 : (trim v.data.toList).length ≤ (ltrim v.data.toList).length := by
      unfold trim rtrim; rw [List.length_reverse]
      exact Nat.le_trans (dropWhile_le _ _) (by rw [List.length_reverse]; exact Nat.le_refl _)
    have h2 : (ltrim v.data.toList).length ≤ v.data.toList.length - 1 := by
      rw [cons_of h]; unfold ltrim
      have := dropWhile_lt (l := v.data.toList.drop 1) hb
      simpa using this
    rw [e] at h1
    have h3 : v.data.toList.length = v.size := (size_len v).symm
    omega
  have : (trim v.data.toList == v.data.toList) = false := beq_eq_false_iff_ne.2 hne
  rw [this, Bool.and_false]
theorem valV_last {v : ByteArray} (h : v.size - 1 < v.size) (hb : blankB v[v.size - 1] = true) : valV v.data.toList = false := by
  unfold valV
  have h0 : 0 < v.size := by omega
  have hne : trim v.data.toList ≠ v.data.toList := by
    intro e
    by_cases hf : blankB v[0] = true
    · have := valV_first h0 hf
      unfold valV at this
      rw [e] at this
      simp only [beq_self_eq_true, Bool.and_true] at this
      -- the first byte is blank: trimmed it is shorter
      have h1 : (trim v.data.toList).length ≤ (ltrim v.data.toList).length := by
        unfold trim rtrim; rw [List.length_reverse]
        exact Nat.le_trans (dropWhile_le _ _) (by rw [List.length_reverse]; exact Nat.le_refl _)
      have h2 : (ltrim v.data.toList).length ≤ v.data.toList.length - 1 := by
        rw [cons_of h0]; unfold ltrim
        have := dropWhile_lt (l := v.data.toList.drop 1) hf
        simpa using this
      rw [e] at h1
      have h3 : v.data.toList.length = v.size := (size_len v).symm
      omega
    · have hf' : blankB v[0] = false := by simpa using hf
      have h1 : trim v.data.toList = rtrim v.data.toList := by unfold trim; rw [ltrim_end h0 hf']
      have h2 : (rtrim v.data.toList).length ≤ v.size - 1 := by
        rw [← rtrim_step h0 hb]
        unfold rtrim
        rw [List.length_reverse]
        exact Nat.le_trans (dropWhile_le _ _) (by rw [List.length_reverse, List.length_take]; omega)
      rw [← h1, e] at h2
      have h3 : v.data.toList.length = v.size := (size_len v).symm
      omega
  have : (trim v.data.toList == v.data.toList) = false := beq_eq_false_iff_ne.2 hne
  rw [this, Bool.and_false]
/-- one byte on -/
theorem upTo_next {v : ByteArray} {k : Nat} (h : upTo v k) (hk : k < v.size) (hm : mayB v[k] = true) (h0 : k = 0 → blankB v[k] = false) (h1 : k + 1 = v.size → blankB v[k] = false) : upTo v (k + 1) := by
  refine ⟨all_snoc v mayB k hk h.1 hm, fun _ => ?_, fun he _ => ?_⟩
  · rcases Nat.eq_zero_or_pos k with rfl | hp
    · exact ⟨hk, h0 rfl⟩
    · exact h.2.1 hp
  · refine ⟨by omega, ?_⟩
    have e : v.size - 1 = k := by omega
    simp only [e]
    exact h1 he
theorem firstE_step {l : List Fld} {k : Nat} (h : k < l.length) (hz : chkF l[k] = 0) : firstE (l.drop k) = firstE (l.drop (k + 1)) := by
  rw [List.drop_eq_getElem_cons h, firstE, if_pos hz]
theorem firstE_stop {l : List Fld} {k : Nat} (h : k < l.length) (hz : ¬ chkF l[k] = 0) : firstE (l.drop k) = chkF l[k] := by
  rw [List.drop_eq_getElem_cons h, firstE, if_neg hz]
theorem firstE_all {l : List Fld} (h : firstE l = 0) : ∀ f ∈ l, chkF f = 0 := by
  induction l with
  | nil => intro f hf; cases hf
  | cons g r ih =>
    unfold firstE at h
    by_cases hg : chkF g = 0
    · rw [if_pos hg] at h
      intro f hf
      rcases List.mem_cons.1 hf with rfl | hf
      · exact hg
      · exact ih h f hf
    · rw [if_neg hg] at h; exact absurd h hg
theorem firstE_of {l : List Fld} (h : ∀ f ∈ l, chkF f = 0) : firstE l = 0 := by
  induction l with
  | nil => rfl
  | cons g r ih => rw [firstE, if_pos (h g (by simp))]; exact ih fun f hf => h f (by simp [hf])
theorem check_zero {l : List Fld} (h : checkL l = 0) : l.length ≤ 64 ∧ ∀ f ∈ l, chkF f = 0 := by
  unfold checkL at h
  by_cases h1 : 64 < l.length
  · rw [if_pos h1] at h; omega
  · rw [if_neg h1] at h; exact ⟨by omega, firstE_all h⟩
theorem check_of {l : List Fld} (h1 : l.length ≤ 64) (h2 : ∀ f ∈ l, chkF f = 0) : checkL l = 0 := by
  unfold checkL; rw [if_neg (by omega)]; exact firstE_of h2
theorem line_len (f : Fld) : (lineL f).length = lenF f := by unfold lineL lenF; simp; omega
theorem lines_len {l : List Fld} (h : ∀ f ∈ l, chkF f = 0) : (linesL l).length ≤ 2050 * l.length := by
  induction l with
  | nil => simp [linesL]
  | cons f r ih =>
    have h1 := (chkF_zero (h f (by simp))).2
    have h2 := ih fun g hg => h g (by simp [hg])
    have h3 : linesL (f :: r) = (lineL f ++ [13, 10]) ++ linesL r := by simp [linesL]
    rw [h3, List.length_append, List.length_append, line_len, List.length_cons, List.length_cons, List.length_cons, List.length_nil]
    omega
theorem put_len (l : List Fld) : (putL l).length ≤ 131200 := by
  unfold putL; split
  · rename_i h
    obtain ⟨h1, h2⟩ := check_zero h
    have := lines_len h2
    omega
  · simp
theorem lines_snoc (l : List Fld) (f : Fld) : linesL (l ++ [f]) = linesL l ++ (lineL f ++ [13, 10]) := by simp [linesL]

/-! ### what is put is read -/
theorem mayB_no13 {c : UInt8} (h : mayB c = true) : c ≠ 13 := by rintro rfl; revert h; decide
theorem tokB_no {c : UInt8} (h : tokB c = true) : c ≠ 13 ∧ c ≠ 58 := by
  constructor <;> (rintro rfl; revert h; decide)
theorem occ_two (s : List UInt8) (i : Nat) (a b : UInt8) : Lib.occAt s [a, b] i = true ↔ (s[i]? = some a ∧ s[i + 1]? = some b) := by
  unfold Lib.occAt
  have h1 : s[i]? = (s.drop i)[0]? := by simp
  have h2 : s[i + 1]? = (s.drop i)[1]? := by simp
  rw [h1, h2]
  generalize s.drop i = l
  match l with
  | [] => simp [List.isPrefixOf]
  | [x] => simp [List.isPrefixOf]
  | x :: y :: r =>
    simp only [List.isPrefixOf, Bool.and_true, Bool.and_eq_true, beq_iff_eq, List.getElem?_cons_zero, List.getElem?_cons_succ, Option.some.injEq]
    exact ⟨fun ⟨h1, h2⟩ => ⟨h1.symm, h2.symm⟩, fun ⟨h1, h2⟩ => ⟨h1.symm, h2.symm⟩⟩
theorem occ_one (s : List UInt8) (i : Nat) (a : UInt8) : Lib.occAt s [a] i = true ↔ s[i]? = some a := by
  unfold Lib.occAt
  have h1 : s[i]? = (s.drop i)[0]? := by simp
  rw [h1]
  generalize s.drop i = l
  match l with
  | [] => simp [List.isPrefixOf]
  | x :: r =>
    simp only [List.isPrefixOf, Bool.and_true, beq_iff_eq, List.getElem?_cons_zero, Option.some.injEq]
    exact ⟨fun h => h.symm, fun h => h.symm⟩
/-- cut at the first instance -/
theorem cut_hit {s sep : List UInt8} {i : Nat} (hi : i ≤ s.length) (ho : Lib.occAt s sep i = true) (hn : ∀ j, j < i → Lib.occAt s sep j = false) : Lib.cut s sep = (s.take i, s.drop (i + sep.length), true) := by
  have h : Lib.index s sep = i := Lib.index_first hi ho hn
  unfold Lib.cut
  rw [h, if_pos (by omega)]
  simp
theorem cut_miss {s sep : List UInt8} (hn : ∀ j, j ≤ s.length → Lib.occAt s sep j = false) : Lib.cut s sep = (s, [], false) := by
  have h : Lib.index s sep = -1 := Lib.index_none hn
  unfold Lib.cut
  rw [h, if_neg (by omega)]
theorem cutN_of {a r : List UInt8} (h : ∀ c ∈ a, c ≠ 13) : cutN (a ++ 13 :: 10 :: r) = (a, r, true) := by
  unfold cutN
  rw [cut_hit (i := a.length) (by simp) ((occ_two _ _ _ _).2 ⟨by simp, by rw [List.getElem?_append_right (by omega)]; simp⟩) fun j hj => ?_]
  · simp
  · cases ho : Lib.occAt (a ++ 13 :: 10 :: r) [13, 10] j
    · rfl
    · have h1 := ((occ_two _ _ _ _).1 ho).1
      rw [List.getElem?_append_left hj, List.getElem?_eq_getElem hj] at h1
      exact absurd (Option.some.inj h1) (h _ (List.getElem_mem hj))
theorem cutC_of {a r : List UInt8} (h : ∀ c ∈ a, c ≠ 58) : Lib.cut (a ++ 58 :: r) [58] = (a, r, true) := by
  rw [cut_hit (i := a.length) (by simp) ((occ_one _ _ _).2 (by simp)) fun j hj => ?_]
  · simp
  · cases ho : Lib.occAt (a ++ 58 :: r) [58] j
    · rfl
    · have h1 := (occ_one _ _ _).1 ho
      rw [List.getElem?_append_left hj, List.getElem?_eq_getElem hj] at h1
      exact absurd (Option.some.inj h1) (h _ (List.getElem_mem hj))
theorem token_all {l : List UInt8} (h : token l = true) : ∀ c ∈ l, tokB c = true := by
  unfold token at h
  rw [Bool.and_eq_true] at h
  exact fun c hc => List.all_eq_true.1 h.2 c hc
theorem one_line {f : Fld} (h : chkF f = 0) : oneE (lineL f) = 0 ∧ oneF (lineL f) = f := by
  obtain ⟨h1, h2⟩ := chkF_zero h
  unfold mayF at h1
  rw [Bool.and_eq_true] at h1
  have hc : Lib.cut (lineL f) [58] = (f.1, 32 :: f.2, true) := by
    unfold lineL
    rw [List.append_assoc]
    exact cutC_of fun c hc => (tokB_no (token_all h1.1 c hc)).2
  have hv := h1.2
  unfold valV at hv
  rw [Bool.and_eq_true] at hv
  have ht : trim (32 :: f.2) = f.2 := by
    have : trim (32 :: f.2) = trim f.2 := by unfold trim ltrim; rfl
    rw [this]; exact beq_iff_eq.1 hv.2
  have hf : oneF (lineL f) = f := by unfold oneF; rw [hc]; show (f.1, trim (32 :: f.2)) = f; rw [ht]
  exact ⟨by unfold oneE; rw [hf, hc]; simpa using h, hf⟩
theorem line_no13 {f : Fld} (h : chkF f = 0) : ∀ c ∈ lineL f, c ≠ 13 := by
  obtain ⟨h1, h2⟩ := chkF_zero h
  unfold mayF at h1
  rw [Bool.and_eq_true] at h1
  have hv := h1.2
  unfold valV at hv
  rw [Bool.and_eq_true] at hv
  intro c hc
  unfold lineL at hc
  rcases List.mem_append.1 hc with hc | hc
  · rcases List.mem_append.1 hc with hc | hc
    · exact (tokB_no (token_all h1.1 c hc)).1
    · simp at hc; rcases hc with rfl | rfl <;> decide
  · exact mayB_no13 (List.all_eq_true.1 hv.1 c hc)
theorem parse_nil (out : List Fld) : parseW [] out = (out, 0) := by
  rw [parseW]
  have : (cutN []).2.2 = false := by decide
  simp [this]
theorem parse_lines : ∀ (l out : List Fld), out.length + l.length ≤ 64 → (∀ f ∈ l, chkF f = 0) → parseW (linesL l) out = (out ++ l, 0)
  | [], out, _, _ => by rw [List.append_nil]; exact parse_nil out
  | f :: r, out, hl, h => by
    have h0 := h f (by simp)
    have e : linesL (f :: r) = lineL f ++ 13 :: 10 :: linesL r := by simp [linesL]
    have hc := cutN_of (r := linesL r) (line_no13 h0)
    rw [← e] at hc
    have h3 := (chkF_zero h0).2
    obtain ⟨h4, h5⟩ := one_line h0
    rw [List.length_cons] at hl
    rw [parseW]
    simp only [hc, dite_true]
    rw [if_neg (by rw [line_len]; omega), if_pos h4, h5, parse_lines r _ (by simp; omega) (fun g hg => h g (by simp [hg]))]
    simp
theorem parse_put {l : List Fld} (h : checkL l = 0) : parseL (putL l) = (l, 0) := by
  obtain ⟨h1, h2⟩ := check_zero h
  unfold parseL putL
  rw [if_pos h, parse_lines l [] (by simpa using h1) h2]; rfl
theorem put_bad {l : List Fld} (h : ¬ checkL l = 0) : putL l = [] := by unfold putL; rw [if_neg h]
theorem oneE_zero {s : List UInt8} (h : oneE s = 0) : chkF (oneF s) = 0 := by
  unfold oneE at h; split at h
  · exact h
  · omega
/-- what is read may be; what can't be read is nothing -/
theorem parse_may : ∀ (n : Nat) (s : List UInt8) (out : List Fld), s.length ≤ n → out.length ≤ 64 → (∀ f ∈ out, chkF f = 0) →
    ((parseW s out).2 = 0 ∧ (parseW s out).1.length ≤ 64 ∧ ∀ f ∈ (parseW s out).1, chkF f = 0) ∨ (¬ (parseW s out).2 = 0 ∧ (parseW s out).1 = []) := by
  intro n
  induction n with
  | zero =>
    intro s out hs hl ho
    have : s = [] := List.eq_nil_of_length_eq_zero (by omega)
    subst this
    rw [parse_nil]; exact .inl ⟨rfl, hl, ho⟩
  | succ n ih =>
    intro s out hs hl ho
    rw [parseW]
    split
    · rename_i hc
      split
      · exact .inr ⟨by decide, rfl⟩
      · rename_i h1
        split
        · rename_i h2
          have hlt := cutN_lt hc
          exact ih _ _ (by omega) (by simp; omega) (fun f hf => by
            rcases List.mem_append.1 hf with hf | hf
            · exact ho f hf
            · rw [List.mem_singleton.1 hf]; exact oneE_zero h2)
        · rename_i h2
          exact .inr ⟨h2, rfl⟩
    · split
      · exact .inl ⟨rfl, hl, ho⟩
      · exact .inr ⟨by decide, rfl⟩
theorem parse_check (s : List UInt8) : checkL (parseL s).1 = 0 ∧ ((parseL s).2 = 0 ∨ (parseL s).1 = []) := by
  rcases parse_may s.length s [] (Nat.le_refl _) (by simp) (by simp) with ⟨h1, h2, h3⟩ | ⟨h1, h2⟩
  · exact ⟨check_of h2 h3, .inl h1⟩
  · refine ⟨?_, .inr h2⟩
    show checkL (parseW s []).1 = 0
    rw [h2]; rfl
end Go.Proofs.YtdaiielhohdgiaaDoor

/- An entry, plainly. -/
namespace Go.Proofs.YtdaiielhohdgiaaDoor
/-- an entry -/
structure En where
  st : Int
  re : List UInt8
  mi : Int
  fs : List Fld
  bo : List UInt8
  ak : Int
  gt : Int
  vy : List Fld
end Go.Proofs.YtdaiielhohdgiaaDoor

/- Plain: values that are kept by keys, the one that was used least lately first; what is put, asked for and dropped. No program is read here. -/
namespace Go.Proofs.YtdaiielhohdgiaaDoor
/-- a key, its size, its value -/
abbrev It (α : Type) := List UInt8 × Nat × α
section
variable {α : Type}
def keysK (l : List (It α)) : List (List UInt8) := l.map (·.1)
def totK : List (It α) → Nat
  | [] => 0
  | y :: r => y.2.1 + totK r
def hasK (k : List UInt8) (l : List (It α)) : Bool := l.any (fun y => y.1 == k)
def findK (k : List UInt8) (l : List (It α)) : Option (It α) := l.find? (fun y => y.1 == k)
def dropK (k : List UInt8) (l : List (It α)) : List (It α) := l.filter (fun y => !(y.1 == k))
/-- what goes ahead of one of size s, and what stays -/
def roomK (n m s : Nat) : List (It α) → List (List UInt8) × List (It α)
  | [] => ([], [])
  | y :: r => if n ≤ r.length + 1 ∨ m < y.2.1 + totK r + s then (y.1 :: (roomK n m s r).1, (roomK n m s r).2) else ([], y :: r)
/-- what goes in the document's way -/
def trimK (n m : Nat) : List (It α) → List (List UInt8) × List (It α)
  | [] => ([], [])
  | y :: r => if n < r.length + 1 ∨ m < y.2.1 + totK r then (y.1 :: (trimK n m r).1, (trimK n m r).2) else ([], y :: r)
def putK (n m : Nat) (k : List UInt8) (s : Nat) (x : α) (l : List (It α)) : List (List UInt8) × List (It α) :=
  if m < s then ((if hasK k l then [k] else []), dropK k l) else ((roomK n m s (dropK k l)).1, (roomK n m s (dropK k l)).2 ++ [(k, s, x)])
def getK (k : List UInt8) (l : List (It α)) : List (It α) := match findK k l with | none => l | some y => dropK k l ++ [y]
structure OkK (n m : Nat) (l : List (It α)) : Prop where
  nd : (keysK l).Nodup
  len : l.length ≤ n
  tot : totK l ≤ m

theorem keysK_append (a b : List (It α)) : keysK (a ++ b) = keysK a ++ keysK b := by simp [keysK]
theorem totK_append : ∀ a b : List (It α), totK (a ++ b) = totK a + totK b
  | [], b => by simp [totK]
  | y :: r, b => by
    show y.2.1 + totK (r ++ b) = y.2.1 + totK r + totK b
    rw [totK_append r b]; omega
theorem hasK_iff {k : List UInt8} {l : List (It α)} : hasK k l = true ↔ k ∈ keysK l := by
  unfold hasK keysK
  rw [List.any_eq_true, List.mem_map]
  constructor
  · rintro ⟨x, hx, h⟩; exact ⟨x, hx, beq_iff_eq.1 h⟩
  · rintro ⟨x, hx, h⟩; exact ⟨x, hx, beq_iff_eq.2 h⟩
theorem hasK_false {k : List UInt8} {l : List (It α)} : hasK k l = false ↔ k ∉ keysK l := by
  rw [← hasK_iff, Bool.not_eq_true]
theorem dropK_none {k : List UInt8} {l : List (It α)} (h : k ∉ keysK l) : dropK k l = l := by
  unfold dropK
  rw [List.filter_eq_self]
  intro y hy
  rw [Bool.not_eq_true', beq_eq_false_iff_ne]
  intro e
  exact h (by rw [← e]; exact List.mem_map.2 ⟨y, hy, rfl⟩)
theorem dropK_mid {k : List UInt8} {xs zs : List (It α)} {y : It α} (hy : y.1 = k) (h : (keysK (xs ++ y :: zs)).Nodup) : dropK k (xs ++ y :: zs) = xs ++ zs := by
  rw [keysK_append] at h
  have h2 := List.nodup_append.1 h
  have h3 : k ∉ keysK xs := fun hk => h2.2.2 k hk y.1 (by simp [keysK]) hy.symm
  have h4 : k ∉ keysK zs := by
    have h5 := h2.2.1
    rw [show keysK (y :: zs) = y.1 :: keysK zs from rfl, List.nodup_cons, hy] at h5
    exact h5.1
  unfold dropK
  rw [List.filter_append, List.filter_cons]
  have e1 := dropK_none h3
  have e2 := dropK_none h4
  unfold dropK at e1 e2
  rw [e1, e2, if_neg (by simp [hy])]
theorem findK_mid {k : List UInt8} {xs zs : List (It α)} {y : It α} (hy : y.1 = k) (h : k ∉ keysK xs) : findK k (xs ++ y :: zs) = some y := by
  unfold findK
  rw [List.find?_append, List.find?_eq_none.2 (fun x hx => by
    rw [beq_iff_eq]; intro e; exact h (by rw [← e]; exact List.mem_map.2 ⟨x, hx, rfl⟩))]
  simp [hy]
theorem findK_none {k : List UInt8} {l : List (It α)} (h : k ∉ keysK l) : findK k l = none := by
  unfold findK
  rw [List.find?_eq_none]
  intro x hx
  rw [beq_iff_eq]; intro e; exact h (by rw [← e]; exact List.mem_map.2 ⟨x, hx, rfl⟩)
/-- where a key stands -/
theorem splitK {k : List UInt8} : ∀ {l : List (It α)}, k ∈ keysK l → ∃ xs y zs, l = xs ++ y :: zs ∧ y.1 = k ∧ k ∉ keysK xs
  | [], h => by simp [keysK] at h
  | y :: r, h => by
    by_cases e : y.1 = k
    · exact ⟨[], y, r, rfl, e, by simp [keysK]⟩
    · rw [show keysK (y :: r) = y.1 :: keysK r from rfl] at h
      rcases List.mem_cons.1 h with h | h
      · exact absurd h.symm e
      · obtain ⟨xs, z, zs, rfl, h2, h3⟩ := splitK h
        refine ⟨y :: xs, z, zs, rfl, h2, ?_⟩
        rw [show keysK (y :: xs) = y.1 :: keysK xs from rfl]
        intro h4
        rcases List.mem_cons.1 h4 with h4 | h4
        · exact e h4.symm
        · exact h3 h4
theorem dropK_keys (k : List UInt8) (l : List (It α)) : k ∉ keysK (dropK k l) := by
  unfold keysK dropK
  rw [List.mem_map]
  rintro ⟨y, hy, h⟩
  have := (List.mem_filter.1 hy).2
  simp [h] at this
theorem dropK_sub (k : List UInt8) (l : List (It α)) : (dropK k l).Sublist l := List.filter_sublist
theorem totK_sub : ∀ {a b : List (It α)}, a.Sublist b → totK a ≤ totK b
  | _, _, .slnil => Nat.le_refl _
  | _, _, .cons y h => by have := totK_sub h; show _ ≤ y.2.1 + _; omega
  | _, _, .cons_cons y h => by have := totK_sub h; show y.2.1 + _ ≤ y.2.1 + _; omega
theorem keysK_sub {a b : List (It α)} (h : a.Sublist b) : (keysK a).Sublist (keysK b) := h.map _
theorem OkK.sub {n m : Nat} {a b : List (It α)} (h : OkK n m b) (hs : a.Sublist b) : OkK n m a :=
  ⟨h.nd.sublist (keysK_sub hs), Nat.le_trans hs.length_le h.len, Nat.le_trans (totK_sub hs) h.tot⟩

/-! ### room -/
theorem roomK_suffix (n m s : Nat) : ∀ l : List (It α), ∃ xs, l = xs ++ (roomK n m s l).2 ∧ (roomK n m s l).1 = keysK xs
  | [] => ⟨[], rfl, rfl⟩
  | y :: r => by
    unfold roomK
    split
    · obtain ⟨xs, h1, h2⟩ := roomK_suffix n m s r
      exact ⟨y :: xs, by rw [List.cons_append, ← h1], by rw [h2]; rfl⟩
    · exact ⟨[], rfl, rfl⟩
theorem roomK_ok {n m s : Nat} (hn : 1 ≤ n) (hs : s ≤ m) : ∀ l : List (It α), (roomK n m s l).2.length + 1 ≤ n ∧ totK (roomK n m s l).2 + s ≤ m
  | [] => ⟨by simpa [roomK] using hn, by simpa [roomK, totK] using hs⟩
  | y :: r => by
    unfold roomK
    split
    · exact roomK_ok hn hs r
    · rename_i h
      refine ⟨?_, ?_⟩
      · simp; omega
      · show y.2.1 + totK r + s ≤ m; omega
theorem roomK_done {n m s : Nat} {l : List (It α)} (h1 : l.length < n) (h2 : totK l + s ≤ m) : roomK n m s l = ([], l) := by
  cases l with
  | nil => rfl
  | cons y r =>
    unfold roomK
    rw [if_neg]
    have h3 : y.2.1 + totK r + s ≤ m := h2
    simp at h1
    omega
theorem roomK_step {n m s : Nat} {y : It α} {r : List (It α)} (h : n ≤ (y :: r).length ∨ m < totK (y :: r) + s) : roomK n m s (y :: r) = (y.1 :: (roomK n m s r).1, (roomK n m s r).2) := by
  rw [roomK, if_pos]
  exact h
theorem trim_room {n m s : Nat} (hn : 1 ≤ n) (hs : s ≤ m) (k : List UInt8) (x : α) : ∀ l : List (It α), trimK n m (l ++ [(k, s, x)]) = ((roomK n m s l).1, (roomK n m s l).2 ++ [(k, s, x)])
  | [] => by
    show (if n < 0 + 1 ∨ m < s + 0 then ((k :: (trimK n m ([] : List (It α))).1, (trimK n m ([] : List (It α))).2)) else ([], [(k, s, x)])) = ([], [(k, s, x)])
    exact if_neg (by omega)
  | y :: r => by
    have ih := trim_room hn hs k x r
    simp only [List.cons_append, trimK, roomK, ih, List.length_append, List.length_cons, List.length_nil, totK_append, totK]
    by_cases h : n ≤ r.length + 1 ∨ m < y.2.1 + totK r + s
    · rw [if_pos h, if_pos (by omega)]
    · rw [if_neg h, if_neg (by omega)]; rfl
theorem trimK_done {n m : Nat} {l : List (It α)} (h1 : l.length ≤ n) (h2 : totK l ≤ m) : trimK n m l = ([], l) := by
  cases l with
  | nil => rfl
  | cons y r =>
    rw [trimK, if_neg]
    have h3 : y.2.1 + totK r ≤ m := h2
    simp at h1
    omega
theorem trimK_step {n m : Nat} {y : It α} {r : List (It α)} (h : n < (y :: r).length ∨ m < totK (y :: r)) : trimK n m (y :: r) = (y.1 :: (trimK n m r).1, (trimK n m r).2) := by
  rw [trimK, if_pos]
  exact h

/-! ### what stays so -/
theorem OkK.drop {n m : Nat} {l : List (It α)} (h : OkK n m l) (k : List UInt8) : OkK n m (dropK k l) := h.sub (dropK_sub k l)
theorem OkK.put {n m : Nat} {l : List (It α)} (h : OkK n m l) (hn : 1 ≤ n) (k : List UInt8) (s : Nat) (x : α) : OkK n m (putK n m k s x l).2 := by
  unfold putK
  split
  · exact h.drop k
  · rename_i hs
    obtain ⟨xs, h1, h2⟩ := roomK_suffix n m s (dropK k l)
    obtain ⟨h3, h4⟩ := roomK_ok (α := α) hn (by omega : s ≤ m) (dropK k l)
    have h5 := h.drop k
    have h6 := dropK_keys k l
    generalize dropK k l = d at *
    simp only
    generalize (roomK n m s d).2 = q at *
    subst h1
    have h7 : OkK n m q := h5.sub (List.sublist_append_right xs q)
    rw [keysK_append] at h6
    refine ⟨?_, ?_, ?_⟩
    · rw [keysK_append, List.nodup_append]
      refine ⟨h7.nd, by simp [keysK], ?_⟩
      intro a ha b hb e
      have hbk : b = k := by simpa [keysK] using hb
      subst hbk
      exact h6 (List.mem_append_right _ (e ▸ ha))
    · simp; omega
    · rw [totK_append]; simp only [totK]; omega
theorem OkK.get {n m : Nat} {l : List (It α)} (h : OkK n m l) (k : List UInt8) : OkK n m (getK k l) := by
  unfold getK
  by_cases hk : k ∈ keysK l
  · obtain ⟨xs, y, zs, rfl, hy, hx⟩ := splitK hk
    rw [findK_mid hy hx, dropK_mid hy h.nd]
    have h1 := h.nd
    have h2 := h.len
    have h3 := h.tot
    refine ⟨?_, by simp at h2 ⊢; omega, ?_⟩
    · have hp : (keysK (xs ++ zs ++ [y])).Perm (keysK (xs ++ y :: zs)) := by
        unfold keysK
        apply List.Perm.map
        rw [List.append_assoc]
        exact List.Perm.append_left xs (List.perm_append_singleton y zs)
      exact hp.nodup_iff.2 h1
    · rw [totK_append] at h3 ⊢
      rw [totK_append]
      simp only [totK] at h3 ⊢
      omega
  · rw [findK_none hk]; exact h
theorem getK_found {k : List UInt8} {l : List (It α)} {y : It α} (h : findK k l = some y) : getK k l = dropK k l ++ [y] ∧ y.1 = k ∧ y ∈ l := by
  unfold getK
  rw [h]
  exact ⟨rfl, by have := List.find?_some h; simpa using this, List.mem_of_find?_eq_some h⟩
theorem find_snoc (k : List UInt8) (l : List (It α)) (y : It α) (hy : y.1 = k) (h : k ∉ keysK l) : findK k (l ++ [y]) = some y := findK_mid hy h
/-- what was put is found, and stands last -/
theorem put_finds {n m s : Nat} (k : List UInt8) (x : α) (l : List (It α)) (hs : s ≤ m) : findK k (putK n m k s x l).2 = some (k, s, x) ∧ ∃ q, (putK n m k s x l).2 = q ++ [(k, s, x)] := by
  unfold putK
  rw [if_neg (by omega)]
  obtain ⟨xs, h1, h2⟩ := roomK_suffix n m s (dropK k l)
  have h6 := dropK_keys k l
  refine ⟨find_snoc k _ _ rfl ?_, _, rfl⟩
  intro hk
  apply h6
  rw [h1, keysK_append]
  exact List.mem_append_right _ hk
theorem put_none {n m s : Nat} (k : List UInt8) (x : α) (l : List (It α)) (hs : m < s) : findK k (putK n m k s x l).2 = none := by
  unfold putK
  rw [if_pos hs]
  exact findK_none (dropK_keys k l)
theorem drop_none (k : List UInt8) (l : List (It α)) : findK k (dropK k l) = none := findK_none (dropK_keys k l)

/-! ### more entries -/
theorem roomK_zero {n m : Nat} (hn : 1 ≤ n) : ∀ l : List (It α), (∀ y ∈ l, y.2.1 = 0) → (roomK n m 0 l).2 = l.drop (l.length + 1 - n)
  | [], _ => by simp [roomK]
  | y :: r, h => by
    have hz : ∀ z ∈ r, z.2.1 = 0 := fun z hz => h z (by simp [hz])
    have ht : ∀ q : List (It α), (∀ z ∈ q, z.2.1 = 0) → totK q = 0 := by
      intro q
      induction q with
      | nil => intro _; rfl
      | cons a t ih => intro hq; show a.2.1 + totK t = 0; rw [hq a (by simp), ih (fun z hz => hq z (by simp [hz]))]
    rw [roomK]
    have e1 := h y (by simp)
    have e2 := ht r hz
    by_cases h1 : n ≤ r.length + 1
    · rw [if_pos (.inl h1)]
      simp only
      rw [roomK_zero hn r hz, List.length_cons, show r.length + 1 + 1 - n = (r.length + 1 - n) + 1 from by omega, List.drop_succ_cons]
    · rw [if_neg (by omega), List.length_cons, show r.length + 1 + 1 - n = 0 from by omega, List.drop_zero]
/-- one keeps what the other one keeps, and at most e more -/
structure MoreK (n e : Nat) (few many : List (It α)) : Prop where
  sub : few.Sublist many
  le : many.length ≤ few.length + e
  ndF : (keysK few).Nodup
  ndM : (keysK many).Nodup
  lF : few.length ≤ n
  lM : many.length ≤ n + e
  z : ∀ y ∈ many, y.2.1 = 0
theorem MoreK.zF {n e : Nat} {few many : List (It α)} (h : MoreK n e few many) : ∀ y ∈ few, y.2.1 = 0 := fun y hy => h.z y (h.sub.subset hy)
theorem nodup_mid {k : List UInt8} {xs zs : List (It α)} {y : It α} (hy : y.1 = k) (h : (keysK (xs ++ y :: zs)).Nodup) : k ∉ keysK (xs ++ zs) := by
  have := dropK_keys k (xs ++ y :: zs)
  rwa [dropK_mid hy h] at this
theorem MoreK.dropped {n e : Nat} {few many : List (It α)} (h : MoreK n e few many) (k : List UInt8) : MoreK n e (dropK k few) (dropK k many) := by
  refine ⟨h.sub.filter _, ?_, h.ndF.sublist (keysK_sub (dropK_sub k few)), h.ndM.sublist (keysK_sub (dropK_sub k many)), Nat.le_trans (dropK_sub k few).length_le h.lF, Nat.le_trans (dropK_sub k many).length_le h.lM, fun y hy => h.z y ((dropK_sub k many).subset hy)⟩
  have hle := h.le
  by_cases hk : k ∈ keysK few
  · have hm : k ∈ keysK many := (keysK_sub h.sub).subset hk
    obtain ⟨xs, y, zs, e1, hy, hx⟩ := splitK hk
    obtain ⟨us, v, vs, e2, hv, hu⟩ := splitK hm
    have hF := h.ndF
    have hM := h.ndM
    rw [e1] at hle hF ⊢
    rw [e2] at hle hM ⊢
    rw [dropK_mid hy hF, dropK_mid hv hM]
    simp at hle ⊢
    omega
  · rw [dropK_none hk]
    exact Nat.le_trans (dropK_sub k many).length_le hle
theorem tail_sub {a b : List (It α)} (h : a.Sublist b) : a.tail.Sublist b.tail := by
  cases h with
  | slnil => exact .slnil
  | cons y h => exact (List.tail_sublist _).trans h
  | cons_cons y h => exact h
theorem keysK_snoc_nd {l : List (It α)} {y : It α} (h : (keysK l).Nodup) (hk : y.1 ∉ keysK l) : (keysK (l ++ [y])).Nodup := by
  rw [keysK_append, List.nodup_append]
  refine ⟨h, by simp [keysK], ?_⟩
  intro a ha b hb e
  have : b = y.1 := by simpa [keysK] using hb
  subst this
  exact hk (e ▸ ha)
theorem MoreK.snoc {n e : Nat} {few many : List (It α)} (h : MoreK n e few many) (y : It α) (hk : y.1 ∉ keysK many) (h1 : few.length + 1 ≤ n) (h2 : many.length + 1 ≤ n + e) (hz : y.2.1 = 0) : MoreK n e (few ++ [y]) (many ++ [y]) := by
  have hkF : y.1 ∉ keysK few := fun hq => hk ((keysK_sub h.sub).subset hq)
  refine ⟨h.sub.append (List.Sublist.refl _), ?_, keysK_snoc_nd h.ndF hkF, keysK_snoc_nd h.ndM hk, by simpa using h1, by simpa using h2, ?_⟩
  · have := h.le; simp; omega
  · intro z hzm
    rcases List.mem_append.1 hzm with hzm | hzm
    · exact h.z z hzm
    · have : z = y := by simpa using hzm
      rw [this]; exact hz
theorem MoreK.put {n e m : Nat} {few many : List (It α)} (h : MoreK n e few many) (hn : 1 ≤ n) (k : List UInt8) (x : α) : MoreK n e (putK n m k 0 x few).2 (putK (n + e) m k 0 x many).2 := by
  have hd := h.dropped k
  have hkM := dropK_keys k many
  unfold putK
  rw [if_neg (by omega), if_neg (by omega)]
  simp only
  generalize dropK k few = F at *
  generalize dropK k many = M at *
  have hle := hd.le
  have hF := hd.lF
  have hM := hd.lM
  rw [roomK_zero hn F hd.zF, roomK_zero (by omega) M hd.z]
  by_cases hMN : M.length = n + e
  · have hFn : F.length = n := by omega
    rw [show F.length + 1 - n = 1 from by omega, show M.length + 1 - (n + e) = 1 from by omega, List.drop_one, List.drop_one]
    have hs := tail_sub hd.sub
    have l1 : F.tail.length = n - 1 := by simp [hFn]
    have l2 : M.tail.length = n + e - 1 := by simp [hMN]
    refine MoreK.snoc ⟨hs, by omega, hd.ndF.sublist (keysK_sub (List.tail_sublist _)), hd.ndM.sublist (keysK_sub (List.tail_sublist _)), by omega, by omega, fun y hy => hd.z y ((List.tail_sublist _).subset hy)⟩ _ (fun hq => hkM ((keysK_sub (List.tail_sublist _)).subset hq)) (by omega) (by omega) rfl
  · rw [show M.length + 1 - (n + e) = 0 from by omega, List.drop_zero]
    by_cases hFn : F.length = n
    · rw [show F.length + 1 - n = 1 from by omega, List.drop_one]
      have l1 : F.tail.length = n - 1 := by simp [hFn]
      refine MoreK.snoc ⟨(List.tail_sublist _).trans hd.sub, by omega, hd.ndF.sublist (keysK_sub (List.tail_sublist _)), hd.ndM, by omega, hM, hd.z⟩ _ hkM (by omega) (by omega) rfl
    · rw [show F.length + 1 - n = 0 from by omega, List.drop_zero]
      exact MoreK.snoc hd _ hkM (by omega) (by omega) rfl
theorem MoreK.found {n e : Nat} {few many : List (It α)} (h : MoreK n e few many) {y : It α} (hy : y ∈ few) : findK y.1 few = some y ∧ findK y.1 many = some y := by
  have key : ∀ l : List (It α), (keysK l).Nodup → y ∈ l → findK y.1 l = some y := by
    intro l hl hm
    obtain ⟨xs, zs, rfl⟩ := List.append_of_mem hm
    refine findK_mid rfl ?_
    rw [keysK_append, List.nodup_append] at hl
    exact fun hq => hl.2.2 y.1 hq y.1 (by simp [keysK]) rfl
  exact ⟨key _ h.ndF hy, key _ h.ndM (h.sub.subset hy)⟩
theorem MoreK.get {n e : Nat} {few many : List (It α)} (h : MoreK n e few many) (k : List UInt8) : MoreK n e (getK k few) (getK k many) := by
  by_cases hM : k ∈ keysK many
  · obtain ⟨us, v, vs, e2, hv, hu⟩ := splitK hM
    have hvm : v ∈ many := by rw [e2]; simp
    have h1 := h.dropped k
    have hg : getK k many = dropK k many ++ [v] := by unfold getK; rw [e2, findK_mid hv hu]
    have hkM := dropK_keys k many
    have hz := h.z v hvm
    have hlM : (dropK k many).length + 1 ≤ many.length := by
      have hM2 := h.ndM
      rw [e2] at hM2 ⊢
      rw [dropK_mid hv hM2]; simp; omega
    have hMl := h.lM
    by_cases hF : k ∈ keysK few
    · obtain ⟨xs, y, zs, e1, hy, hx⟩ := splitK hF
      have hym : y ∈ few := by rw [e1]; simp
      have hyv : y = v := by
        have a1 := (h.found hym).2
        rw [hy, e2, findK_mid hv hu] at a1
        exact (Option.some.inj a1).symm
      subst hyv
      have hgF : getK k few = dropK k few ++ [y] := by unfold getK; rw [e1, findK_mid hy hx]
      have hlF : (dropK k few).length + 1 ≤ few.length := by
        have hF2 := h.ndF
        rw [e1] at hF2 ⊢
        rw [dropK_mid hy hF2]; simp; omega
      have := h.lF
      rw [hg, hgF]
      exact h1.snoc y (by rw [hv]; exact hkM) (by omega) (by omega) hz
    · have hgF : getK k few = few := by unfold getK; rw [findK_none hF]
      have hdF : dropK k few = few := dropK_none hF
      have hs := h1.sub
      have hl1 := h.le
      rw [hdF] at hs
      have hdl : (dropK k many).length + 1 = many.length := by
        have hM2 := h.ndM
        rw [e2] at hM2 ⊢
        rw [dropK_mid hv hM2]; simp; omega
      rw [hg, hgF]
      refine ⟨hs.trans (List.sublist_append_left _ _), by simp; omega, h.ndF, keysK_snoc_nd h1.ndM (by rw [hv]; exact hkM), h.lF, by simp; omega, ?_⟩
      intro z hzm
      rcases List.mem_append.1 hzm with hzm | hzm
      · exact h1.z z hzm
      · have : z = v := by simpa using hzm
        rw [this]; exact hz
  · have hF : k ∉ keysK few := fun hq => hM ((keysK_sub h.sub).subset hq)
    have e1 : getK k few = few := by unfold getK; rw [findK_none hF]
    have e2 : getK k many = many := by unfold getK; rw [findK_none hM]
    rw [e1, e2]; exact h
end
end Go.Proofs.YtdaiielhohdgiaaDoor
