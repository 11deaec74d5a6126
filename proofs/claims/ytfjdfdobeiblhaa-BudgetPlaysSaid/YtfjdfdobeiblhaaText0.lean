/- Plain lists of bytes: what the text layer's functions come to. Nothing of the program is read here. -/
import Derived.Lib.Strings
import Derived.Lib.IndexBytes
import Derived.Lib.Split
namespace Go.Proofs.Ytfjdfdobeiblhaa
/-- a text of a list of bytes -/
def bs (l : List UInt8) : ByteArray := ⟨l.toArray⟩
@[simp] theorem bs_data (l : List UInt8) : (bs l).data.toList = l := by simp [bs]
@[simp] theorem bs_size (l : List UInt8) : (bs l).size = l.length := by unfold bs; rfl
@[simp] theorem bs_self (s : ByteArray) : bs s.data.toList = s := rfl
theorem bs_of {s : ByteArray} {l : List UInt8} (h : s.data.toList = l) : s = bs l := by
  subst h; rfl
theorem size_len (s : ByteArray) : s.size = s.data.toList.length := rfl

/-- a token's byte, as a number -/
def tokI (n : Int) : Bool := decide (n = 33 ∨ (35 ≤ n ∧ n ≤ 39) ∨ n = 42 ∨ n = 43 ∨ n = 45 ∨ n = 46 ∨ n = 94 ∨ n = 95 ∨ n = 96 ∨ n = 124 ∨ n = 126 ∨ (97 ≤ n ∧ n ≤ 122) ∨ (65 ≤ n ∧ n ≤ 90) ∨ (48 ≤ n ∧ n ≤ 57))
def tokB (c : UInt8) : Bool := tokI (c.toNat : Int)
def token (l : List UInt8) : Bool := !l.isEmpty && l.all tokB
def lettI (n : Int) : Bool := decide ((97 ≤ n ∧ n ≤ 122) ∨ (65 ≤ n ∧ n ≤ 90) ∨ (48 ≤ n ∧ n ≤ 57))
def inI (n : Int) (l : List UInt8) : Bool := l.any fun b => (b.toNat : Int) == n
def lowI (n : Int) : Int := if 65 ≤ n ∧ n ≤ 90 then n + 32 else n
def lowB (c : UInt8) : UInt8 := if 65 ≤ c.toNat ∧ c.toNat ≤ 90 then c + 32 else c
def lower (l : List UInt8) : List UInt8 := l.map lowB
def blankI (n : Int) : Bool := decide (n = 32 ∨ n = 9)
def blankB (c : UInt8) : Bool := blankI (c.toNat : Int)
def ltrim (l : List UInt8) : List UInt8 := l.dropWhile blankB
def rtrim (l : List UInt8) : List UInt8 := (l.reverse.dropWhile blankB).reverse
def trim (l : List UInt8) : List UInt8 := rtrim (ltrim l)

theorem ret_bool {a b : Bool} (h : a = b) : Ending.returned (.bool a) = .returned (.bool b) := by rw [h]
theorem ret_str {a b : ByteArray} (h : a = b) : Ending.returned (.string a) = .returned (.string b) := by rw [h]
theorem take_snoc (s : ByteArray) (k : Nat) (h : k < s.size) : s.data.toList.take (k + 1) = s.data.toList.take k ++ [s[k]] := by
  rw [List.take_succ_eq_append_getElem (by simpa using h)]; rfl
theorem mem_at (s : ByteArray) (k : Nat) (h : k < s.size) : s[k] ∈ s.data.toList := by simp [ByteArray.getElem_eq_getElem_data]
theorem all_snoc (s : ByteArray) (p : UInt8 → Bool) (k : Nat) (h : k < s.size) (hp : (s.data.toList.take k).all p = true) (hq : p s[k] = true) : (s.data.toList.take (k + 1)).all p = true := by
  rw [take_snoc s k h, List.all_append, hp]; simp [hq]
theorem all_not (s : ByteArray) (p : UInt8 → Bool) (k : Nat) (h : k < s.size) (hq : p s[k] = false) : s.data.toList.all p = false := by
  rw [← Bool.not_eq_true, List.all_eq_true]
  intro H
  have := H s[k] (mem_at s k h)
  rw [hq] at this; exact absurd this (by simp)
theorem take_all {s : ByteArray} {k : Nat} (h : ¬ k < s.size) : s.data.toList.take k = s.data.toList :=
  List.take_of_length_le (by have := size_len s; omega)
theorem any_snoc (s : ByteArray) (p : UInt8 → Bool) (k : Nat) (h : k < s.size) (hp : (s.data.toList.take k).any p = false) (hq : p s[k] = false) : (s.data.toList.take (k + 1)).any p = false := by
  rw [take_snoc s k h, List.any_append, hp]; simp [hq]
theorem any_is (s : ByteArray) (p : UInt8 → Bool) (k : Nat) (h : k < s.size) (hq : p s[k] = true) : s.data.toList.any p = true := by
  rw [List.any_eq_true]; exact ⟨s[k], mem_at s k h, hq⟩
theorem nil_of {s : ByteArray} (h : s.size = 0) : s.data.toList = [] := List.eq_nil_of_length_eq_zero (by rw [← size_len]; exact h)
theorem cons_of {s : ByteArray} (h : 0 < s.size) : s.data.toList = s[0] :: s.data.toList.drop 1 := by
  have h2 : 0 < s.data.toList.length := by rw [← size_len]; exact h
  rw [ByteArray.getElem_eq_getElem_data]
  exact (by simpa using (List.drop_eq_getElem_cons h2))
theorem snoc_of {s : ByteArray} (h : 0 < s.size) : s.data.toList = s.data.toList.take (s.size - 1) ++ [s[s.size - 1]] := by
  have := take_snoc s (s.size - 1) (by omega)
  rw [show s.size - 1 + 1 = s.size from by omega, take_all (by omega)] at this
  exact this
theorem ltrim_step {s : ByteArray} (h : 0 < s.size) (hb : blankB s[0] = true) : ltrim (s.data.toList.drop 1) = ltrim s.data.toList := by
  rw [cons_of h]; simp [ltrim, hb]
theorem ltrim_end {s : ByteArray} (h : 0 < s.size) (hb : blankB s[0] = false) : ltrim s.data.toList = s.data.toList := by
  rw [cons_of h]; simp [ltrim, hb]
theorem rtrim_snoc (l : List UInt8) (c : UInt8) : rtrim (l ++ [c]) = if blankB c then rtrim l else l ++ [c] := by
  unfold rtrim
  rw [List.reverse_append, List.reverse_singleton, List.singleton_append, List.dropWhile_cons]
  split <;> simp
theorem rtrim_step {s : ByteArray} (h : 0 < s.size) (hb : blankB s[s.size - 1] = true) : rtrim (s.data.toList.take (s.size - 1)) = rtrim s.data.toList :=
  ((congrArg rtrim (snoc_of h)).trans (by rw [rtrim_snoc, if_pos hb])).symm
theorem rtrim_end {s : ByteArray} (h : 0 < s.size) (hb : blankB s[s.size - 1] = false) : rtrim s.data.toList = s.data.toList :=
  (congrArg rtrim (snoc_of h)).trans (by rw [rtrim_snoc, if_neg (by simp [hb])]; exact (snoc_of h).symm)
/-- the bytes of a token that are no letters and no digits -/
def tokL : List UInt8 := [33, 35, 36, 37, 38, 39, 42, 43, 45, 46, 94, 95, 96, 124, 126]
theorem tok_cases (c : UInt8) : (tokB c = true ∧ lettI (c.toNat : Int) = true) ∨ (tokB c = true ∧ lettI (c.toNat : Int) = false ∧ inI (c.toNat : Int) tokL = true) ∨
    (tokB c = false ∧ lettI (c.toNat : Int) = false ∧ inI (c.toNat : Int) tokL = false) := by
  simp only [tokB, tokI, lettI, inI, tokL]
  simp
  omega
theorem len_pos (s : ByteArray) : decide ((0 : Int) < (s.size : Int)) = !s.data.toList.isEmpty := by
  rw [size_len]
  cases s.data.toList with
  | nil => rfl
  | cons a l => simp
theorem ltrim_cases (t : ByteArray) : (∃ h : 0 < t.size, blankI (t[0].toNat : Int) = true ∧ ltrim (t.data.toList.drop 1) = ltrim t.data.toList) ∨
    (∃ h : 0 < t.size, blankI (t[0].toNat : Int) = false ∧ ltrim t.data.toList = t.data.toList) ∨ (t.size = 0 ∧ ltrim t.data.toList = t.data.toList) := by
  rcases Nat.eq_zero_or_pos t.size with h | h
  · exact .inr (.inr ⟨h, by rw [nil_of h]; rfl⟩)
  · cases hb : blankB t[0]
    · exact .inr (.inl ⟨h, hb, ltrim_end h hb⟩)
    · exact .inl ⟨h, hb, ltrim_step h hb⟩
theorem rtrim_cases (t : ByteArray) : (∃ h : 0 < t.size, blankI (t[t.size - 1].toNat : Int) = true ∧ rtrim (t.data.toList.take (t.size - 1)) = rtrim t.data.toList) ∨
    (∃ h : 0 < t.size, blankI (t[t.size - 1].toNat : Int) = false ∧ rtrim t.data.toList = t.data.toList) ∨ (t.size = 0 ∧ rtrim t.data.toList = t.data.toList) := by
  rcases Nat.eq_zero_or_pos t.size with h | h
  · exact .inr (.inr ⟨h, by rw [nil_of h]; rfl⟩)
  · cases hb : blankB t[t.size - 1]
    · exact .inr (.inl ⟨h, hb, rtrim_end h hb⟩)
    · exact .inl ⟨h, hb, rtrim_step h hb⟩
theorem low_mid {s : ByteArray} {k : Nat} (h : k < s.size) : (lower (s.data.toList.take k) ++ s.data.toList.drop k).getD k 0 = s[k] := by
  have h1 : (lower (s.data.toList.take k)).length = k := by simp [lower]; omega
  rw [List.getD_eq_getElem?_getD, List.getElem?_append_right (by omega), h1]
  simp [List.getElem?_drop, ByteArray.getElem_eq_getElem_data, h]
theorem low_set {s : ByteArray} {k : Nat} (h : k < s.size) : (lower (s.data.toList.take k) ++ s.data.toList.drop k).set k (lowB s[k]) = lower (s.data.toList.take (k + 1)) ++ s.data.toList.drop (k + 1) := by
  have h1 : (lower (s.data.toList.take k)).length = k := by simp [lower]; omega
  have h2 : k < s.data.toList.length := h
  rw [List.set_append_right _ _ (by omega), h1, Nat.sub_self, take_snoc s k h, List.drop_eq_getElem_cons h2, List.set_cons_zero]
  simp [lower]
theorem low_same {c : UInt8} (h : ¬ (65 ≤ (c.toNat : Int) ∧ (c.toNat : Int) ≤ 90)) : lowB c = c := by
  unfold lowB; rw [if_neg (by omega)]
theorem low_up {c : UInt8} (h1 : 65 ≤ (c.toNat : Int)) (h2 : (c.toNat : Int) ≤ 90) : ((lowB c).toNat : Int) = (c.toNat : Int) + 32 := by
  unfold lowB; rw [if_pos (by omega)]
  rw [UInt8.toNat_add]; simp; omega
theorem dropWhile_le (p : UInt8 → Bool) (l : List UInt8) : (l.dropWhile p).length ≤ l.length := (List.dropWhile_sublist p).length_le
theorem trim_le (l : List UInt8) : (trim l).length ≤ l.length := by
  unfold trim rtrim ltrim
  rw [List.length_reverse]
  exact Nat.le_trans (dropWhile_le _ _) (by rw [List.length_reverse]; exact dropWhile_le _ _)
def mayI (n : Int) : Bool := decide (n = 9 ∨ (32 ≤ n ∧ n ≠ 127))
theorem blankI_or {n : Int} (h : blankI n = true) : (n == 32) = true ∨ ((n == 32) = false ∧ (n == 9) = true) := by
  unfold blankI at h; simp at h ⊢; omega
theorem blankI_no {n : Int} (h : blankI n = false) : (n == 32) = false ∧ (n == 9) = false := by
  unfold blankI at h; simp at h ⊢; omega
theorem ltrim_at (s : ByteArray) (k : Nat) (hk : k ≤ s.size) :
    (∃ h : k < s.size, (((s[k].toNat : Int) == 32) = true ∨ (((s[k].toNat : Int) == 32) = false ∧ ((s[k].toNat : Int) == 9) = true)) ∧ ltrim (s.data.toList.drop (k + 1)) = ltrim (s.data.toList.drop k)) ∨
    (∃ h : k < s.size, (((s[k].toNat : Int) == 32) = false ∧ ((s[k].toNat : Int) == 9) = false) ∧ ltrim (s.data.toList.drop k) = s.data.toList.drop k) ∨
    (¬ k < s.size ∧ ltrim (s.data.toList.drop k) = s.data.toList.drop k) := by
  rcases Nat.lt_or_ge k s.size with h | h
  · have hd : s.data.toList.drop k = s[k] :: s.data.toList.drop (k + 1) := List.drop_eq_getElem_cons (by exact h)
    cases hb : blankB s[k]
    · exact .inr (.inl ⟨h, blankI_no hb, by rw [hd]; simp [ltrim, hb]⟩)
    · exact .inl ⟨h, blankI_or hb, by rw [hd]; simp [ltrim, hb]⟩
  · obtain rfl : k = s.size := by omega
    exact .inr (.inr ⟨by omega, by rw [List.drop_of_length_le (by simp)]; rfl⟩)
theorem rtrim_at (s : ByteArray) (k m : Nat) (hkm : k ≤ m) (hm : m ≤ s.size) :
    (∃ h : k < m, (((s[m - 1].toNat : Int) == 32) = true ∨ (((s[m - 1].toNat : Int) == 32) = false ∧ ((s[m - 1].toNat : Int) == 9) = true)) ∧ rtrim ((s.data.toList.drop k).take (m - 1 - k)) = rtrim ((s.data.toList.drop k).take (m - k))) ∨
    (∃ h : k < m, (((s[m - 1].toNat : Int) == 32) = false ∧ ((s[m - 1].toNat : Int) == 9) = false) ∧ rtrim ((s.data.toList.drop k).take (m - k)) = (s.data.toList.drop k).take (m - k)) ∨
    (¬ k < m ∧ rtrim ((s.data.toList.drop k).take (m - k)) = (s.data.toList.drop k).take (m - k)) := by
  rcases Nat.lt_or_ge k m with h | h
  · have hd : (s.data.toList.drop k).take (m - k) = (s.data.toList.drop k).take (m - 1 - k) ++ [s[m - 1]] := by
      have h1 : m - 1 - k < (s.data.toList.drop k).length := by simp; omega
      rw [show m - k = (m - 1 - k) + 1 from by omega, List.take_succ_eq_append_getElem h1]
      congr 1
      simp [ByteArray.getElem_eq_getElem_data, show k + (m - 1 - k) = m - 1 from by omega]
    cases hb : blankB s[m - 1]
    · exact .inr (.inl ⟨h, blankI_no hb, by rw [hd, rtrim_snoc, if_neg (by simp [hb])]⟩)
    · exact .inl ⟨h, blankI_or hb, by rw [hd, rtrim_snoc, if_pos hb]⟩
  · obtain rfl : k = m := by omega
    exact .inr (.inr ⟨by omega, by simp [rtrim]⟩)
def mayB (c : UInt8) : Bool := mayI (c.toNat : Int)
/-- a text's bytes in quotes, without the quotes -/
def quoteB (l : List UInt8) : List UInt8 := l.flatMap fun c => if (c.toNat : Int) = 34 ∨ (c.toNat : Int) = 92 then [92, c] else [c]
def quoteS (l : List UInt8) : List UInt8 := if l.all mayB then 34 :: quoteB l ++ [34] else []
def quoteE (l : List UInt8) : Int := if l.all mayB then 0 else 4
theorem quoteB_len (l : List UInt8) : (quoteB l).length ≤ 2 * l.length := by
  induction l with
  | nil => simp [quoteB]
  | cons c l ih =>
    have : quoteB (c :: l) = (if (c.toNat : Int) = 34 ∨ (c.toNat : Int) = 92 then [92, c] else [c]) ++ quoteB l := by simp [quoteB]
    rw [this]; split <;> simp <;> omega
theorem quoteB_plain (l : List UInt8) (c : UInt8) (h1 : ¬ (c.toNat : Int) = 34) (h2 : ¬ (c.toNat : Int) = 92) : quoteB (l ++ [c]) = quoteB l ++ [c] := by
  unfold quoteB; rw [List.flatMap_append]; simp; omega
theorem quoteB_mark (l : List UInt8) (c : UInt8) (h : (c.toNat : Int) = 34 ∨ (c.toNat : Int) = 92) : quoteB (l ++ [c]) = quoteB l ++ [92] ++ [c] := by
  unfold quoteB; rw [List.flatMap_append]; simp; omega
/-- what the rest of a text in quotes says; e: a byte 92 stood just ahead -/
def unq : List UInt8 → Bool → List UInt8 → Option (List UInt8)
  | [], _, _ => none
  | c :: r, true, acc => if mayB c then unq r false (acc ++ [c]) else none
  | c :: r, false, acc =>
    if (c.toNat : Int) = 34 then (if r.isEmpty then some acc else none)
    else if (c.toNat : Int) = 92 then unq r true acc
    else if mayB c then unq r false (acc ++ [c]) else none
def unquote : List UInt8 → Option (List UInt8)
  | [] => none
  | c :: r => if (c.toNat : Int) = 34 then unq r false [] else none
def unqS (l : List UInt8) : List UInt8 := (unquote l).getD []
def unqE (l : List UInt8) : Int := if (unquote l).isSome then 0 else 4
theorem drop_at {s : ByteArray} {k : Nat} (h : k < s.size) : s.data.toList.drop k = s[k] :: s.data.toList.drop (k + 1) := List.drop_eq_getElem_cons (by exact h)
end Go.Proofs.Ytfjdfdobeiblhaa
