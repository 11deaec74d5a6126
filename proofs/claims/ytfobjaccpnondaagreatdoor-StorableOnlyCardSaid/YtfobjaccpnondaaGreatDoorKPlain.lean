/- Plain lists of bytes: what the text layer's functions come to. Nothing of the program is read here. -/
import Derived.Lib.Strings
import Derived.Lib.IndexBytes
import Derived.Lib.Split
import Derived.Lib.IndexMore
import Derived.Lib.IndexLaws
import Derived.Lib.Join
import Derived.Lib.ItoaNum
import Derived.Lib.FieldsP
import Derived.Lib.SlicesS
import Derived.Lib.SpaceUEq
import Derived.Lib.Fields
namespace Go.Proofs.YtfobjaccpnondaaGreatDoor
/-- a text of a list of bytes -/
def bs (l : List UInt8) : ByteArray := ⟨l.toArray⟩
@[simp] theorem bs_data (l : List UInt8) : (bs l).data.toList = l := by simp [bs]
@[simp] theorem bs_size (l : List UInt8) : (bs l).size = l.length := by unfold bs; rfl
@[simp] theorem bs_self (s : ByteArray) : bs s.data.toList = s := rfl
theorem bs_of {s : ByteArray} {l : List UInt8} (h : s.data.toList = l) : s = bs l := by
  subst h; rfl
theorem size_len (s : ByteArray) : s.size = s.data.toList.length := rfl

/-- a token's byte, as a number -/
def tokI (n : Int) : Bool := decide (n = 33 ∨ (35 ≤ n ∧ n ≤ 39) ∨ n = 42 ∨ n = 43 ∨ n = 45 ∨ n = 46 ∨ n = 94 ∨ n = 95 ∨ n = 96 ∨ n = 124 ∨ n = 126 ∨ (97 ≤ n ∧ n ≤ 122) ∨ (65 ≤ n ∧ n ≤ 90) ∨ (48 ≤ n ∧ n ≤ 57))
def tokB (c : UInt8) : Bool := tokI (c.toNat : Int)
def token (l : List UInt8) : Bool := !l.isEmpty && l.all tokB
def lettI (n : Int) : Bool := decide ((97 ≤ n ∧ n ≤ 122) ∨ (65 ≤ n ∧ n ≤ 90) ∨ (48 ≤ n ∧ n ≤ 57))
def inI (n : Int) (l : List UInt8) : Bool := l.any fun b => (b.toNat : Int) == n
def lowI (n : Int) : Int := if 65 ≤ n ∧ n ≤ 90 then n + 32 else n
def lowB (c : UInt8) : UInt8 := if 65 ≤ c.toNat ∧ c.toNat ≤ 90 then c + 32 else c
def lower (l : List UInt8) : List UInt8 := l.map lowB
def blankI (n : Int) : Bool := decide (n = 32 ∨ n = 9)
def blankB (c : UInt8) : Bool := blankI (c.toNat : Int)
def ltrim (l : List UInt8) : List UInt8 := l.dropWhile blankB
def rtrim (l : List UInt8) : List UInt8 := (l.reverse.dropWhile blankB).reverse
def trim (l : List UInt8) : List UInt8 := rtrim (ltrim l)

theorem ret_bool {a b : Bool} (h : a = b) : Ending.returned (.bool a) = .returned (.bool b) := by rw [h]
theorem ret_str {a b : ByteArray} (h : a = b) : Ending.returned (.string a) = .returned (.string b) := by rw [h]
theorem take_snoc (s : ByteArray) (k : Nat) (h : k < s.size) : s.data.toList.take (k + 1) = s.data.toList.take k ++ [s[k]] := by
  rw [List.take_succ_eq_append_getElem (by simpa using h)]; rfl
theorem mem_at (s : ByteArray) (k : Nat) (h : k < s.size) : s[k] ∈ s.data.toList := by simp [ByteArray.getElem_eq_getElem_data]
theorem all_snoc (s : ByteArray) (p : UInt8 → Bool) (k : Nat) (h : k < s.size) (hp : (s.data.toList.take k).all p = true) (hq : p s[k] = true) : (s.data.toList.take (k + 1)).all p = true := by
  rw [take_snoc s k h, List.all_append, hp]; simp [hq]
theorem all_not (s : ByteArray) (p : UInt8 → Bool) (k : Nat) (h : k < s.size) (hq : p s[k] = false) : s.data.toList.all p = false := by
  rw [← Bool.not_eq_true, List.all_eq_true]
  intro H
  have := H s[k] (mem_at s k h)
  rw [hq] at this; exact absurd this (by simp)
theorem take_all {s : ByteArray} {k : Nat} (h : ¬ k < s.size) : s.data.toList.take k = s.data.toList :=
  List.take_of_length_le (by have := size_len s; omega)
theorem any_snoc (s : ByteArray) (p : UInt8 → Bool) (k : Nat) (h : k < s.size) (hp : (s.data.toList.take k).any p = false) (hq : p s[k] = false) : (s.data.toList.take (k + 1)).any p = false := by
  rw [take_snoc s k h, List.any_append, hp]; simp [hq]
theorem any_is (s : ByteArray) (p : UInt8 → Bool) (k : Nat) (h : k < s.size) (hq : p s[k] = true) : s.data.toList.any p = true := by
  rw [List.any_eq_true]; exact ⟨s[k], mem_at s k h, hq⟩
theorem nil_of {s : ByteArray} (h : s.size = 0) : s.data.toList = [] := List.eq_nil_of_length_eq_zero (by rw [← size_len]; exact h)
theorem cons_of {s : ByteArray} (h : 0 < s.size) : s.data.toList = s[0] :: s.data.toList.drop 1 := by
  have h2 : 0 < s.data.toList.length := by rw [← size_len]; exact h
  rw [ByteArray.getElem_eq_getElem_data]
  exact (by simpa using (List.drop_eq_getElem_cons h2))
theorem snoc_of {s : ByteArray} (h : 0 < s.size) : s.data.toList = s.data.toList.take (s.size - 1) ++ [s[s.size - 1]] := by
  have := take_snoc s (s.size - 1) (by omega)
  rw [show s.size - 1 + 1 = s.size from by omega, take_all (by omega)] at this
  exact this
theorem ltrim_step {s : ByteArray} (h : 0 < s.size) (hb : blankB s[0] = true) : ltrim (s.data.toList.drop 1) = ltrim s.data.toList := by
  rw [cons_of h]; simp [ltrim, hb]
theorem ltrim_end {s : ByteArray} (h : 0 < s.size) (hb : blankB s[0] = false) : ltrim s.data.toList = s.data.toList := by
  rw [cons_of h]; simp [ltrim, hb]
theorem rtrim_snoc (l : List UInt8) (c : UInt8) : rtrim (l ++ [c]) = if blankB c then rtrim l else l ++ [c] := by
  unfold rtrim
  rw [List.reverse_append, List.reverse_singleton, List.singleton_append, List.dropWhile_cons]
  split <;> simp
theorem rtrim_step {s : ByteArray} (h : 0 < s.size) (hb : blankB s[s.size - 1] = true) : rtrim (s.data.toList.take (s.size - 1)) = rtrim s.data.toList :=
  ((congrArg rtrim (snoc_of h)).trans (by rw [rtrim_snoc, if_pos hb])).symm
theorem rtrim_end {s : ByteArray} (h : 0 < s.size) (hb : blankB s[s.size - 1] = false) : rtrim s.data.toList = s.data.toList :=
  (congrArg rtrim (snoc_of h)).trans (by rw [rtrim_snoc, if_neg (by simp [hb])]; exact (snoc_of h).symm)
/-- the bytes of a token that are no letters and no digits -/
def tokL : List UInt8 := [33, 35, 36, 37, 38, 39, 42, 43, 45, 46, 94, 95, 96, 124, 126]
theorem tok_cases (c : UInt8) : (tokB c = true ∧ lettI (c.toNat : Int) = true) ∨ (tokB c = true ∧ lettI (c.toNat : Int) = false ∧ inI (c.toNat : Int) tokL = true) ∨
    (tokB c = false ∧ lettI (c.toNat : Int) = false ∧ inI (c.toNat : Int) tokL = false) := by
  simp only [tokB, tokI, lettI, inI, tokL]
  simp
  omega
theorem len_pos (s : ByteArray) : decide ((0 : Int) < (s.size : Int)) = !s.data.toList.isEmpty := by
  rw [size_len]
  cases s.data.toList with
  | nil => rfl
  | cons a l => simp
theorem ltrim_cases (t : ByteArray) : (∃ h : 0 < t.size, blankI (t[0].toNat : Int) = true ∧ ltrim (t.data.toList.drop 1) = ltrim t.data.toList) ∨
    (∃ h : 0 < t.size, blankI (t[0].toNat : Int) = false ∧ ltrim t.data.toList = t.data.toList) ∨ (t.size = 0 ∧ ltrim t.data.toList = t.data.toList) := by
  rcases Nat.eq_zero_or_pos t.size with h | h
  · exact .inr (.inr ⟨h, by rw [nil_of h]; rfl⟩)
  · cases hb : blankB t[0]
    · exact .inr (.inl ⟨h, hb, ltrim_end h hb⟩)
    · exact .inl ⟨h, hb, ltrim_step h hb⟩
theorem rtrim_cases (t : ByteArray) : (∃ h : 0 < t.size, blankI (t[t.size - 1].toNat : Int) = true ∧ rtrim (t.data.toList.take (t.size - 1)) = rtrim t.data.toList) ∨
    (∃ h : 0 < t.size, blankI (t[t.size - 1].toNat : Int) = false ∧ rtrim t.data.toList = t.data.toList) ∨ (t.size = 0 ∧ rtrim t.data.toList = t.data.toList) := by
  rcases Nat.eq_zero_or_pos t.size with h | h
  · exact .inr (.inr ⟨h, by rw [nil_of h]; rfl⟩)
  · cases hb : blankB t[t.size - 1]
    · exact .inr (.inl ⟨h, hb, rtrim_end h hb⟩)
    · exact .inl ⟨h, hb, rtrim_step h hb⟩
theorem low_mid {s : ByteArray} {k : Nat} (h : k < s.size) : (lower (s.data.toList.take k) ++ s.data.toList.drop k).getD k 0 = s[k] := by
  have h1 : (lower (s.data.toList.take k)).length = k := by simp [lower]; omega
  rw [List.getD_eq_getElem?_getD, List.getElem?_append_right (by omega), h1]
  simp [List.getElem?_drop, ByteArray.getElem_eq_getElem_data, h]
theorem low_set {s : ByteArray} {k : Nat} (h : k < s.size) : (lower (s.data.toList.take k) ++ s.data.toList.drop k).set k (lowB s[k]) = lower (s.data.toList.take (k + 1)) ++ s.data.toList.drop (k + 1) := by
  have h1 : (lower (s.data.toList.take k)).length = k := by simp [lower]; omega
  have h2 : k < s.data.toList.length := h
  rw [List.set_append_right _ _ (by omega), h1, Nat.sub_self, take_snoc s k h, List.drop_eq_getElem_cons h2, List.set_cons_zero]
  simp [lower]
theorem low_same {c : UInt8} (h : ¬ (65 ≤ (c.toNat : Int) ∧ (c.toNat : Int) ≤ 90)) : lowB c = c := by
  unfold lowB; rw [if_neg (by omega)]
theorem low_up {c : UInt8} (h1 : 65 ≤ (c.toNat : Int)) (h2 : (c.toNat : Int) ≤ 90) : ((lowB c).toNat : Int) = (c.toNat : Int) + 32 := by
  unfold lowB; rw [if_pos (by omega)]
  rw [UInt8.toNat_add]; simp; omega
theorem dropWhile_le (p : UInt8 → Bool) (l : List UInt8) : (l.dropWhile p).length ≤ l.length := (List.dropWhile_sublist p).length_le
theorem trim_le (l : List UInt8) : (trim l).length ≤ l.length := by
  unfold trim rtrim ltrim
  rw [List.length_reverse]
  exact Nat.le_trans (dropWhile_le _ _) (by rw [List.length_reverse]; exact dropWhile_le _ _)
def mayI (n : Int) : Bool := decide (n = 9 ∨ (32 ≤ n ∧ n ≠ 127))
theorem blankI_or {n : Int} (h : blankI n = true) : (n == 32) = true ∨ ((n == 32) = false ∧ (n == 9) = true) := by
  unfold blankI at h; simp at h ⊢; omega
theorem blankI_no {n : Int} (h : blankI n = false) : (n == 32) = false ∧ (n == 9) = false := by
  unfold blankI at h; simp at h ⊢; omega
theorem ltrim_at (s : ByteArray) (k : Nat) (hk : k ≤ s.size) :
    (∃ h : k < s.size, (((s[k].toNat : Int) == 32) = true ∨ (((s[k].toNat : Int) == 32) = false ∧ ((s[k].toNat : Int) == 9) = true)) ∧ ltrim (s.data.toList.drop (k + 1)) = ltrim (s.data.toList.drop k)) ∨
    (∃ h : k < s.size, (((s[k].toNat : Int) == 32) = false ∧ ((s[k].toNat : Int) == 9) = false) ∧ ltrim (s.data.toList.drop k) = s.data.toList.drop k) ∨
    (¬ k < s.size ∧ ltrim (s.data.toList.drop k) = s.data.toList.drop k) := by
  rcases Nat.lt_or_ge k s.size with h | h
  · have hd : s.data.toList.drop k = s[k] :: s.data.toList.drop (k + 1) := List.drop_eq_getElem_cons (by exact h)
    cases hb : blankB s[k]
    · exact .inr (.inl ⟨h, blankI_no hb, by rw [hd]; simp [ltrim, hb]⟩)
    · exact .inl ⟨h, blankI_or hb, by rw [hd]; simp [ltrim, hb]⟩
  · obtain rfl : k = s.size := by omega
    exact .inr (.inr ⟨by omega, by rw [List.drop_of_length_le (by simp)]; rfl⟩)
theorem rtrim_at (s : ByteArray) (k m : Nat) (hkm : k ≤ m) (hm : m ≤ s.size) :
    (∃ h : k < m, (((s[m - 1].toNat : Int) == 32) = true ∨ (((s[m - 1].toNat : Int) == 32) = false ∧ ((s[m - 1].toNat : Int) == 9) = true)) ∧ rtrim ((s.data.toList.drop k).take (m - 1 - k)) = rtrim ((s.data.toList.drop k).take (m - k))) ∨
    (∃ h : k < m, (((s[m - 1].toNat : Int) == 32) = false ∧ ((s[m - 1].toNat : Int) == 9) = false) ∧ rtrim ((s.data.toList.drop k).take (m - k)) = (s.data.toList.drop k).take (m - k)) ∨
    (¬ k < m ∧ rtrim ((s.data.toList.drop k).take (m - k)) = (s.data.toList.drop k).take (m - k)) := by
  rcases Nat.lt_or_ge k m with h | h
  · have hd : (s.data.toList.drop k).take (m - k) = (s.data.toList.drop k).take (m - 1 - k) ++ [s[m - 1]] := by
      have h1 : m - 1 - k < (s.data.toList.drop k).length := by simp; omega
      rw [show m - k = (m - 1 - k) + 1 from by omega, List.take_succ_eq_append_getElem h1]
      congr 1
      simp [ByteArray.getElem_eq_getElem_data, show k + (m - 1 - k) = m - 1 from by omega]
    cases hb : blankB s[m - 1]
    · exact .inr (.inl ⟨h, blankI_no hb, by rw [hd, rtrim_snoc, if_neg (by simp [hb])]⟩)
    · exact .inl ⟨h, blankI_or hb, by rw [hd, rtrim_snoc, if_pos hb]⟩
  · obtain rfl : k = m := by omega
    exact .inr (.inr ⟨by omega, by simp [rtrim]⟩)
def mayB (c : UInt8) : Bool := mayI (c.toNat : Int)
/-- a text's bytes in quotes, without the quotes -/
def quoteB (l : List UInt8) : List UInt8 := l.flatMap fun c => if (c.toNat : Int) = 34 ∨ (c.toNat : Int) = 92 then [92, c] else [c]
def quoteS (l : List UInt8) : List UInt8 := if l.all mayB then 34 :: quoteB l ++ [34] else []
def quoteE (l : List UInt8) : Int := if l.all mayB then 0 else 4
theorem quoteB_len (l : List UInt8) : (quoteB l).length ≤ 2 * l.length := by
  induction l with
  | nil => simp [quoteB]
  | cons c l ih =>
    have : quoteB (c :: l) = (if (c.toNat : Int) = 34 ∨ (c.toNat : Int) = 92 then [92, c] else [c]) ++ quoteB l := by simp [quoteB]
    rw [this]; split <;> simp <;> omega
theorem quoteB_plain (l : List UInt8) (c : UInt8) (h1 : ¬ (c.toNat : Int) = 34) (h2 : ¬ (c.toNat : Int) = 92) : quoteB (l ++ [c]) = quoteB l ++ [c] := by
  unfold quoteB; rw [List.flatMap_append]; simp; omega
theorem quoteB_mark (l : List UInt8) (c : UInt8) (h : (c.toNat : Int) = 34 ∨ (c.toNat : Int) = 92) : quoteB (l ++ [c]) = quoteB l ++ [92] ++ [c] := by
  unfold quoteB; rw [List.flatMap_append]; simp; omega
/-- what the rest of a text in quotes says; e: a byte 92 stood just ahead -/
def unq : List UInt8 → Bool → List UInt8 → Option (List UInt8)
  | [], _, _ => none
  | c :: r, true, acc => if mayB c then unq r false (acc ++ [c]) else none
  | c :: r, false, acc =>
    if (c.toNat : Int) = 34 then (if r.isEmpty then some acc else none)
    else if (c.toNat : Int) = 92 then unq r true acc
    else if mayB c then unq r false (acc ++ [c]) else none
def unquote : List UInt8 → Option (List UInt8)
  | [] => none
  | c :: r => if (c.toNat : Int) = 34 then unq r false [] else none
def unqS (l : List UInt8) : List UInt8 := (unquote l).getD []
def unqE (l : List UInt8) : Int := if (unquote l).isSome then 0 else 4
theorem drop_at {s : ByteArray} {k : Nat} (h : k < s.size) : s.data.toList.drop k = s[k] :: s.data.toList.drop (k + 1) := List.drop_eq_getElem_cons (by exact h)
end Go.Proofs.YtfobjaccpnondaaGreatDoor

/- Plain lists of bytes, more: what is read of a text in quotes, byte by byte. -/
namespace Go.Proofs.YtfobjaccpnondaaGreatDoor
theorem cat_data (a b : ByteArray) : (a ++ b).data.toList = a.data.toList ++ b.data.toList := by simp [ByteArray.data_append]
theorem quote_size {t s : ByteArray} {k : Nat} (h : t.data.toList = 34 :: quoteB (s.data.toList.take k)) : t.size ≤ 2 * k + 1 := by
  rw [size_len, h, List.length_cons]
  have h1 := quoteB_len (s.data.toList.take k)
  have h2 : (s.data.toList.take k).length ≤ k := List.length_take_le _ _
  omega
theorem one_at (s : ByteArray) (k : Nat) (h : k < s.size) : (s.data.toList.drop k).take (k + 1 - k) = [s[k]] := by
  rw [drop_at h, show k + 1 - k = 1 from by omega]; rfl
theorem unq_start (s : ByteArray) : (s.size = 0 ∧ unquote s.data.toList = none) ∨ (∃ h : 0 < s.size, ¬ (s[0].toNat : Int) = 34 ∧ unquote s.data.toList = none) ∨
    (∃ h : 0 < s.size, (s[0].toNat : Int) = 34 ∧ unquote s.data.toList = unq (s.data.toList.drop 1) false []) := by
  rcases Nat.eq_zero_or_pos s.size with h | h
  · exact .inl ⟨h, by rw [nil_of h]; rfl⟩
  · by_cases hc : (s[0].toNat : Int) = 34
    · exact .inr (.inr ⟨h, hc, (congrArg unquote (cons_of h)).trans (if_pos hc)⟩)
    · exact .inr (.inl ⟨h, hc, (congrArg unquote (cons_of h)).trans (if_neg hc)⟩)
theorem drop_nil {s : ByteArray} {k : Nat} (h : s.size ≤ k) : s.data.toList.drop k = [] := List.drop_of_length_le h
theorem unq_byte (s : ByteArray) (k : Nat) (h : k < s.size) (acc : List UInt8) :
    (((s[k].toNat : Int) == 34) = true ∧ k + 1 = s.size ∧ unq (s.data.toList.drop k) false acc = some acc) ∨
    (((s[k].toNat : Int) == 34) = true ∧ ¬ k + 1 = s.size ∧ unq (s.data.toList.drop k) false acc = none) ∨
    (((s[k].toNat : Int) == 34) = false ∧ ((s[k].toNat : Int) == 92) = true ∧ k + 1 = s.size ∧ unq (s.data.toList.drop k) false acc = none) ∨
    (((s[k].toNat : Int) == 34) = false ∧ ((s[k].toNat : Int) == 92) = true ∧ (∃ h2 : k + 1 < s.size, mayI (s[k + 1].toNat : Int) = false) ∧ unq (s.data.toList.drop k) false acc = none) ∨
    (((s[k].toNat : Int) == 34) = false ∧ ((s[k].toNat : Int) == 92) = true ∧ ∃ h2 : k + 1 < s.size, mayI (s[k + 1].toNat : Int) = true ∧ unq (s.data.toList.drop k) false acc = unq (s.data.toList.drop (k + 2)) false (acc ++ [s[k + 1]])) ∨
    (((s[k].toNat : Int) == 34) = false ∧ ((s[k].toNat : Int) == 92) = false ∧ mayI (s[k].toNat : Int) = false ∧ unq (s.data.toList.drop k) false acc = none) ∨
    (((s[k].toNat : Int) == 34) = false ∧ ((s[k].toNat : Int) == 92) = false ∧ mayI (s[k].toNat : Int) = true ∧ unq (s.data.toList.drop k) false acc = unq (s.data.toList.drop (k + 1)) false (acc ++ [s[k]])) := by
  rw [drop_at h]
  by_cases h1 : (s[k].toNat : Int) = 34
  · have h1' : ((s[k].toNat : Int) == 34) = true := by simpa using h1
    by_cases h2 : k + 1 = s.size
    · exact .inl ⟨h1', h2, by rw [drop_nil (by omega)]; simp [unq, h1]⟩
    · refine .inr (.inl ⟨h1', h2, ?_⟩)
      have h3 : k + 1 < s.size := by omega
      rw [drop_at h3]; simp [unq, h1]
  · have h1' : ((s[k].toNat : Int) == 34) = false := by simpa using h1
    by_cases h2 : (s[k].toNat : Int) = 92
    · have h2' : ((s[k].toNat : Int) == 92) = true := by simpa using h2
      rcases Nat.lt_or_ge (k + 1) s.size with h3 | h3
      · rw [drop_at h3]
        cases hm : mayI (s[k + 1].toNat : Int)
        · exact .inr (.inr (.inr (.inl ⟨h1', h2', ⟨h3, hm⟩, by simp [unq, h2, mayB, hm]⟩)))
        · exact .inr (.inr (.inr (.inr (.inl ⟨h1', h2', h3, hm, by simp [unq, h2, mayB, hm]⟩))))
      · exact .inr (.inr (.inl ⟨h1', h2', by omega, by rw [drop_nil h3]; simp [unq, h2]⟩))
    · have h2' : ((s[k].toNat : Int) == 92) = false := by simpa using h2
      cases hm : mayI (s[k].toNat : Int)
      · exact .inr (.inr (.inr (.inr (.inr (.inl ⟨h1', h2', rfl, by simp [unq, h1, h2, mayB, hm]⟩)))))
      · exact .inr (.inr (.inr (.inr (.inr (.inr ⟨h1', h2', rfl, by simp [unq, h1, h2, mayB, hm]⟩)))))
theorem unq_in (s : ByteArray) (k : Nat) (h : k < s.size) (acc : List UInt8) :
    (((s[k].toNat : Int) == 92) = false ∧ ((s[k].toNat : Int) == 34) = true ∧ mayI (s[k].toNat : Int) = true ∧ s.size ≤ k + 1 ∧ unq (s.data.toList.drop k) false acc = some acc) ∨
    (((s[k].toNat : Int) == 92) = false ∧ ((s[k].toNat : Int) == 34) = true ∧ k + 1 < s.size ∧ unq (s.data.toList.drop k) false acc = none) ∨
    (((s[k].toNat : Int) == 92) = true ∧ mayI (s[k].toNat : Int) = true ∧ unq (s.data.toList.drop k) false acc = unq (s.data.toList.drop (k + 1)) true acc) ∨
    (((s[k].toNat : Int) == 92) = false ∧ ((s[k].toNat : Int) == 34) = false ∧ mayI (s[k].toNat : Int) = false ∧ unq (s.data.toList.drop k) false acc = none) ∨
    (((s[k].toNat : Int) == 92) = false ∧ ((s[k].toNat : Int) == 34) = false ∧ mayI (s[k].toNat : Int) = true ∧ unq (s.data.toList.drop k) false acc = unq (s.data.toList.drop (k + 1)) false (acc ++ [s[k]])) := by
  rw [drop_at h]
  by_cases h1 : (s[k].toNat : Int) = 34
  · have h1' : ((s[k].toNat : Int) == 34) = true := by simpa using h1
    have h2' : ((s[k].toNat : Int) == 92) = false := by rw [h1]; rfl
    rcases Nat.lt_or_ge (k + 1) s.size with h3 | h3
    · exact .inr (.inl ⟨h2', h1', h3, by rw [drop_at h3]; simp [unq, h1]⟩)
    · exact .inl ⟨h2', h1', by rw [h1]; rfl, h3, by rw [drop_nil h3]; simp [unq, h1]⟩
  · have h1' : ((s[k].toNat : Int) == 34) = false := by simpa using h1
    by_cases h2 : (s[k].toNat : Int) = 92
    · have h2' : ((s[k].toNat : Int) == 92) = true := by simpa using h2
      exact .inr (.inr (.inl ⟨h2', by rw [h2]; rfl, by simp [unq, h2]⟩))
    · have h2' : ((s[k].toNat : Int) == 92) = false := by simpa using h2
      cases hm : mayI (s[k].toNat : Int)
      · exact .inr (.inr (.inr (.inl ⟨h2', h1', rfl, by simp [unq, h1, h2, mayB, hm]⟩)))
      · exact .inr (.inr (.inr (.inr ⟨h2', h1', rfl, by simp [unq, h1, h2, mayB, hm]⟩)))
theorem unq_esc (s : ByteArray) (k : Nat) (h : k < s.size) (acc : List UInt8) :
    (mayI (s[k].toNat : Int) = false ∧ unq (s.data.toList.drop k) true acc = none) ∨
    (mayI (s[k].toNat : Int) = true ∧ unq (s.data.toList.drop k) true acc = unq (s.data.toList.drop (k + 1)) false (acc ++ [s[k]])) := by
  rw [drop_at h]
  cases hm : mayI (s[k].toNat : Int)
  · exact .inl ⟨rfl, by simp [unq, mayB, hm]⟩
  · exact .inr ⟨rfl, by simp [unq, mayB, hm]⟩
theorem unq_first (s : ByteArray) (h : 0 < s.size) :
    (((s[0].toNat : Int) != 34) = true ∧ unquote s.data.toList = none) ∨
    (((s[0].toNat : Int) != 34) = false ∧ mayI (s[0].toNat : Int) = true ∧ unquote s.data.toList = unq (s.data.toList.drop 1) false []) := by
  rcases unq_start s with ⟨h0, _⟩ | ⟨_, hc, hu⟩ | ⟨_, hc, hu⟩
  · omega
  · exact .inl ⟨bne_iff_ne.2 hc, hu⟩
  · exact .inr ⟨by rw [bne_eq_false_iff_eq]; exact hc, by rw [hc]; rfl, hu⟩
theorem unq_quote (l : List UInt8) (h : l.all mayB = true) : ∀ acc, unq (quoteB l ++ [34]) false acc = some (acc ++ l) := by
  induction l with
  | nil => intro acc; simp [quoteB, unq]
  | cons c l ih =>
    intro acc
    simp only [List.all_cons, Bool.and_eq_true] at h
    have hq : quoteB (c :: l) = (if (c.toNat : Int) = 34 ∨ (c.toNat : Int) = 92 then [92, c] else [c]) ++ quoteB l := by simp [quoteB]
    rw [hq]
    by_cases h1 : (c.toNat : Int) = 34 ∨ (c.toNat : Int) = 92
    · rw [if_pos h1]
      show unq (92 :: c :: (quoteB l ++ [34])) false acc = _
      simp only [unq, h.1, if_true]
      rw [if_neg (by decide), if_pos (by decide), ih h.2]
      simp
    · rw [if_neg h1]
      show unq (c :: (quoteB l ++ [34])) false acc = _
      simp only [unq, h.1, if_true]
      rw [if_neg (fun e => h1 (.inl e)), if_neg (fun e => h1 (.inr e)), ih h.2]
      simp
theorem unquote_quote (l : List UInt8) (h : l.all mayB = true) : unquote (quoteS l) = some l := by
  rw [quoteS, if_pos h]
  show unquote (34 :: (quoteB l ++ [34])) = _
  rw [unquote, if_pos (by decide), unq_quote l h]
  simp
theorem quoteS_len (l : List UInt8) : (quoteS l).length ≤ 2 * l.length + 2 := by
  unfold quoteS
  have := quoteB_len l
  split <;> simp
  omega
theorem bad_byte {n : Int} (h : mayI n = false) : (n < 32 ∧ (n != 9) = true) ∨ (¬ n < 32 ∧ (n == 127) = true) := by
  unfold mayI at h
  simp only [decide_eq_false_iff_not] at h
  by_cases h1 : n < 32
  · exact .inl ⟨h1, bne_iff_ne.2 (by omega)⟩
  · exact .inr ⟨h1, beq_iff_eq.2 (by omega)⟩
theorem good_byte {n : Int} (h : mayI n = true) : (n < 32 ∧ (n != 9) = false ∧ (n == 127) = false) ∨ (¬ n < 32 ∧ (n == 127) = false) := by
  unfold mayI at h
  simp only [decide_eq_true_iff] at h
  by_cases h1 : n < 32
  · exact .inl ⟨h1, by rw [bne_eq_false_iff_eq]; omega, beq_eq_false_iff_ne.2 (by omega)⟩
  · exact .inr ⟨h1, beq_eq_false_iff_ne.2 (by omega)⟩
end Go.Proofs.YtfobjaccpnondaaGreatDoor

/- Lists that are cut at a byte outside quotes: plain lists. -/
namespace Go.Proofs.YtfobjaccpnondaaGreatDoor
/-- how a byte turns what is open: outside; within; behind a byte 92 within -/
def qnext (o e : Bool) (c : UInt8) : Bool × Bool :=
  if o then (if e then (true, false) else if (c.toNat : Int) = 92 then (true, true) else if (c.toNat : Int) = 34 then (false, false) else (true, false))
  else if (c.toNat : Int) = 34 then (true, false) else (false, false)
def addP (acc : List (List UInt8)) (cur : List UInt8) : List (List UInt8) := if (trim cur).isEmpty then acc else acc ++ [trim cur]
/-- the pieces of a list: what is left of it, what is open, the piece so far, the pieces so far -/
def cutAt (sep : UInt8) : List UInt8 → Bool → Bool → List UInt8 → List (List UInt8) → Option (List (List UInt8))
  | [], o, _, cur, acc => if o then none else some (addP acc cur)
  | c :: r, o, e, cur, acc =>
    if o = false ∧ c = sep then cutAt sep r false false [] (addP acc cur)
    else cutAt sep r (qnext o e c).1 (qnext o e c).2 (cur ++ [c]) acc
def badSep (sep : UInt8) : Bool := sep == 34 || sep == 92
def splitL (l : List UInt8) (sep : UInt8) : List (List UInt8) :=
  if badSep sep then [] else match cutAt sep l false false [] [] with
  | none => []
  | some a => if 64 < a.length then [] else a
def splitE (l : List UInt8) (sep : UInt8) : Int :=
  if badSep sep then 2 else match cutAt sep l false false [] [] with
  | none => 4
  | some a => if 64 < a.length then 3 else 0
theorem addL_take (A : List (List UInt8)) (cur : List UInt8) : (if (trim cur).isEmpty then A.take 65 else if (A.take 65).length ≤ 64 then A.take 65 ++ [trim cur] else A.take 65) = (addP A cur).take 65 := by
  unfold addP
  cases h : (trim cur).isEmpty
  · simp only [Bool.false_eq_true, if_false]
    by_cases hl : A.length ≤ 64
    · rw [List.take_of_length_le (by omega), if_pos hl, List.take_of_length_le (by simp; omega)]
    · rw [if_neg (by rw [List.length_take]; omega), List.take_append_of_le_length (by omega)]
  · simp
/-- one byte on: within or at a mark, or outside and no separator -/
theorem cut_step {sep : UInt8} {s : ByteArray} {k f : Nat} {o e : Bool} {A : List (List UInt8)} (h : k < s.size) (hf : f ≤ k) (hn : ¬ (o = false ∧ s[k] = sep)) :
    cutAt sep (s.data.toList.drop k) o e ((s.data.toList.drop f).take (k - f)) A = cutAt sep (s.data.toList.drop (k + 1)) (qnext o e s[k]).1 (qnext o e s[k]).2 ((s.data.toList.drop f).take (k + 1 - f)) A := by
  rw [drop_at h]
  have h1 : k - f < (s.data.toList.drop f).length := by simp; omega
  have h2 : (s.data.toList.drop f).take (k + 1 - f) = (s.data.toList.drop f).take (k - f) ++ [s[k]] := by
    rw [show k + 1 - f = (k - f) + 1 from by omega, List.take_succ_eq_append_getElem h1]
    congr 1
    simp [ByteArray.getElem_eq_getElem_data, show f + (k - f) = k from by omega]
  rw [h2]
  rw [cutAt, if_neg hn]
theorem cut_sep {sep : UInt8} {s : ByteArray} {k f : Nat} {e : Bool} {A : List (List UInt8)} (h : k < s.size) (hs : s[k] = sep) :
    cutAt sep (s.data.toList.drop k) false e ((s.data.toList.drop f).take (k - f)) A = cutAt sep (s.data.toList.drop (k + 1)) false false ((s.data.toList.drop (k + 1)).take (k + 1 - (k + 1))) (addP A ((s.data.toList.drop f).take (k - f))) := by
  rw [drop_at h, cutAt, if_pos ⟨rfl, hs⟩]
  simp
theorem cut_end {sep : UInt8} {s : ByteArray} {k f : Nat} {o e : Bool} {A : List (List UInt8)} (h : ¬ k < s.size) :
    cutAt sep (s.data.toList.drop k) o e ((s.data.toList.drop f).take (k - f)) A = if o then none else some (addP A ((s.data.toList.drop f).take (s.size - f))) := by
  rw [drop_nil (by omega), cutAt, List.take_of_length_le (by simp; omega), List.take_of_length_le (l := s.data.toList.drop f) (by simp)]
theorem qn_out (e : Bool) {c : UInt8} (h : ((c.toNat : Int) != 34) = true) : qnext false e c = (false, false) := by
  have := bne_iff_ne.1 h; simp [qnext, this]
theorem qn_open (e : Bool) {c : UInt8} (h : ((c.toNat : Int) != 34) = false) : qnext false e c = (true, false) := by
  rw [bne_eq_false_iff_eq] at h; simp [qnext, h]
theorem qn_esc (c : UInt8) : qnext true true c = (true, false) := rfl
theorem qn_back {c : UInt8} (h : ((c.toNat : Int) == 92) = true) : qnext true false c = (true, true) := by
  have := beq_iff_eq.1 h; simp [qnext, this]
theorem qn_close {c : UInt8} (h : ((c.toNat : Int) == 92) = false) (h2 : ((c.toNat : Int) == 34) = true) : qnext true false c = (false, false) := by
  have a := beq_eq_false_iff_ne.1 h; have b := beq_iff_eq.1 h2; simp [qnext, b]
theorem qn_held {c : UInt8} (h : ((c.toNat : Int) == 92) = false) (h2 : ((c.toNat : Int) == 34) = false) : qnext true false c = (true, false) := by
  have a := beq_eq_false_iff_ne.1 h; have b := beq_eq_false_iff_ne.1 h2; simp [qnext, a, b]
end Go.Proofs.YtfobjaccpnondaaGreatDoor

/- Plain lists of bytes: what small letters, blanks and tokens are to the others. -/
namespace Go.Proofs.YtfobjaccpnondaaGreatDoor
theorem lowB_idem (c : UInt8) : lowB (lowB c) = lowB c := by
  by_cases h : 65 ≤ (c.toNat : Int) ∧ (c.toNat : Int) ≤ 90
  · exact low_same (by rw [low_up h.1 h.2]; omega)
  · rw [low_same h, low_same h]
theorem lower_idem (l : List UInt8) : lower (lower l) = lower l := by
  unfold lower; rw [List.map_map]; congr 1; funext c; exact lowB_idem c
theorem lower_len (l : List UInt8) : (lower l).length = l.length := by simp [lower]
theorem ltrim_idem_of {l : List UInt8} (h : ∀ c r, l = c :: r → blankB c = false) : ltrim l = l := by
  cases l with
  | nil => rfl
  | cons c r => simp [ltrim, h c r rfl]
theorem rtrim_idem_of {l : List UInt8} (h : ∀ r c, l = r ++ [c] → blankB c = false) : rtrim l = l := by
  rcases List.eq_nil_or_concat l with rfl | ⟨r, c, rfl⟩
  · rfl
  · rw [List.concat_eq_append] at h ⊢; rw [rtrim_snoc, if_neg (by simp [h r c rfl])]
theorem dropWhile_head {p : UInt8 → Bool} : ∀ {l : List UInt8} {c : UInt8} {r : List UInt8}, l.dropWhile p = c :: r → p c = false
  | [], _, _, h => by simp at h
  | a :: t, c, r, h => by
    rw [List.dropWhile_cons] at h
    split at h
    · exact dropWhile_head h
    · rename_i hp
      obtain ⟨rfl, _⟩ := List.cons.inj h
      simpa using hp
theorem rtrim_prefix (l : List UInt8) : rtrim l <+: l := by
  unfold rtrim
  have h := List.dropWhile_suffix (l := l.reverse) blankB
  have := List.reverse_prefix.2 h
  simpa using this
theorem trim_idem (l : List UInt8) : trim (trim l) = trim l := by
  have h1 : ltrim (trim l) = trim l := by
    refine ltrim_idem_of fun c r h => ?_
    obtain ⟨t, ht⟩ := rtrim_prefix (ltrim l)
    have h2 : ltrim l = c :: (r ++ t) := by rw [← ht]; show trim l ++ t = _; rw [h]; rfl
    exact dropWhile_head h2
  have h2 : rtrim (trim l) = trim l := by
    refine rtrim_idem_of fun r c h => ?_
    have h3 : (ltrim l).reverse.dropWhile blankB = c :: r.reverse := by
      have := congrArg List.reverse h
      unfold trim rtrim at this
      simpa using this
    exact dropWhile_head h3
  show rtrim (ltrim (trim l)) = _
  rw [h1, h2]
theorem contains_trim (l : List UInt8) : Lib.contains l (trim l) = true := by
  unfold Lib.contains
  rw [decide_eq_true_iff]
  obtain ⟨t, ht⟩ := rtrim_prefix (ltrim l)
  obtain ⟨a, ha⟩ := List.dropWhile_suffix (l := l) blankB
  have hd : l.drop a.length = ltrim l := by
    have := congrArg (List.drop a.length) ha
    rw [List.drop_left] at this
    exact this.symm
  rcases Lib.index_spec l (trim l) with ⟨_, h⟩ | ⟨i, h, _⟩
  · have h1 := h a.length (by have := congrArg List.length ha; simp only [List.length_append] at this; omega)
    unfold Lib.occAt at h1
    rw [hd] at h1
    have h2 : (trim l).isPrefixOf (ltrim l) = true := List.isPrefixOf_iff_prefix.2 ⟨t, ht⟩
    rw [h2] at h1; cases h1
  · rw [h]; omega
theorem tok_not {c : UInt8} (h : tokB c = true) : blankB c = false ∧ ¬ (c.toNat : Int) = 34 := by
  unfold tokB tokI at h
  rw [decide_eq_true_iff] at h
  unfold blankB blankI
  rw [decide_eq_false_iff_not]
  omega
theorem trim_token {l : List UInt8} (h : token l = true) : trim l = l := by
  unfold token at h
  simp only [Bool.and_eq_true, List.all_eq_true] at h
  have h1 : ltrim l = l := ltrim_idem_of fun c r hl => (tok_not (h.2 c (by rw [hl]; simp))).1
  show rtrim (ltrim l) = l
  rw [h1]
  exact rtrim_idem_of fun r c hl => (tok_not (h.2 c (by rw [hl]; simp))).1
theorem unq_token {l : List UInt8} (h : token l = true) : unquote l = none := by
  unfold token at h
  simp only [Bool.and_eq_true, List.all_eq_true] at h
  cases l with
  | nil => rfl
  | cons c r => rw [unquote, if_neg (tok_not (h.2 c (by simp))).2]
theorem cut_plain {sep : UInt8} : ∀ (l cur : List UInt8) (A : List (List UInt8)), (∀ c ∈ l, ¬ (c.toNat : Int) = 34 ∧ c ≠ sep) → cutAt sep l false false cur A = some (addP A (cur ++ l))
  | [], cur, A, _ => by simp [cutAt]
  | c :: r, cur, A, h => by
    have hc := h c (by simp)
    rw [cutAt, if_neg (fun e => hc.2 e.2), qn_out false (bne_iff_ne.2 hc.1), cut_plain r _ _ (fun x hx => h x (by simp [hx]))]
    simp
theorem split_token {l : List UInt8} {sep : UInt8} (h : token l = true) (hs : badSep sep = false) (hn : ∀ c ∈ l, c ≠ sep) : splitE l sep = 0 ∧ splitL l sep = [l] := by
  have ht := h
  unfold token at h
  simp only [Bool.and_eq_true, List.all_eq_true] at h
  have hc := cut_plain (sep := sep) l [] [] (fun c hc => ⟨(tok_not (h.2 c hc)).2, hn c hc⟩)
  rw [List.nil_append] at hc
  have hp : addP [] l = [l] := by
    unfold addP; rw [trim_token ht]
    cases l with
    | nil => simp at h
    | cons c r => rfl
  rw [hp] at hc
  constructor <;> simp [splitE, splitL, hs, hc]
end Go.Proofs.YtfobjaccpnondaaGreatDoor

/- Plain lists of bytes: a list put together of tokens and quoted texts, with blanks and commas, is cut into them. -/
namespace Go.Proofs.YtfobjaccpnondaaGreatDoor
/-- a piece: nothing of it is cut, nothing is trimmed of it, and it is not empty -/
structure Piece (x : List UInt8) : Prop where
  ne : x ≠ []
  head : ∀ c r, x = c :: r → blankB c = false
  last : ∀ r c, x = r ++ [c] → blankB c = false
  bal : ∀ r cur A, cutAt 44 (x ++ r) false false cur A = cutAt 44 r false false (cur ++ x) A

theorem cut_plain2 {sep : UInt8} : ∀ (l r cur : List UInt8) (A : List (List UInt8)), (∀ c ∈ l, ¬ (c.toNat : Int) = 34 ∧ c ≠ sep) → cutAt sep (l ++ r) false false cur A = cutAt sep r false false (cur ++ l) A
  | [], r, cur, A, _ => by simp
  | c :: t, r, cur, A, h => by
    have hc := h c (by simp)
    rw [List.cons_append, cutAt, if_neg (fun e => hc.2 e.2), qn_out false (bne_iff_ne.2 hc.1), cut_plain2 t r _ _ (fun x hx => h x (by simp [hx]))]
    simp
theorem cut_in {sep : UInt8} : ∀ (l r cur : List UInt8) (A : List (List UInt8)), cutAt sep (quoteB l ++ r) true false cur A = cutAt sep r true false (cur ++ quoteB l) A
  | [], r, cur, A => by simp [quoteB]
  | c :: t, r, cur, A => by
    have hq : quoteB (c :: t) = (if (c.toNat : Int) = 34 ∨ (c.toNat : Int) = 92 then [92, c] else [c]) ++ quoteB t := by simp [quoteB]
    rw [hq]
    by_cases h1 : (c.toNat : Int) = 34 ∨ (c.toNat : Int) = 92
    · rw [if_pos h1]
      show cutAt sep (92 :: c :: (quoteB t ++ r)) true false cur A = _
      rw [cutAt, if_neg (by simp), qn_back (by rfl)]
      show cutAt sep (c :: (quoteB t ++ r)) true true _ A = _
      rw [cutAt, if_neg (by simp), qn_esc]
      show cutAt sep (quoteB t ++ r) true false _ A = _
      rw [cut_in t r]
      simp
    · rw [if_neg h1]
      show cutAt sep (c :: (quoteB t ++ r)) true false cur A = _
      rw [cutAt, if_neg (by simp), qn_held (beq_eq_false_iff_ne.2 fun e => h1 (.inr e)) (beq_eq_false_iff_ne.2 fun e => h1 (.inl e))]
      show cutAt sep (quoteB t ++ r) true false _ A = _
      rw [cut_in t r]
      simp
theorem piece_token {x : List UInt8} (h : token x = true) : Piece x := by
  have h0 := h
  unfold token at h
  simp only [Bool.and_eq_true, List.all_eq_true] at h
  refine ⟨by rintro rfl; simp at h, fun c r e => (tok_not (h.2 c (by rw [e]; simp))).1, fun r c e => (tok_not (h.2 c (by rw [e]; simp))).1, fun r cur A => cut_plain2 x r cur A fun c hc => ⟨(tok_not (h.2 c hc)).2, ?_⟩⟩
  rintro rfl
  have := h.2 44 hc
  revert this; decide
theorem piece_quote {l : List UInt8} (h : l.all mayB = true) : Piece (quoteS l) := by
  rw [quoteS, if_pos h]
  refine ⟨by simp, fun c r e => ?_, fun r c e => ?_, fun r cur A => ?_⟩
  · have : c = 34 := (List.cons.inj e).1.symm
    rw [this]; decide
  · have e2 : [34] = [c] := (List.append_inj' (s₁ := 34 :: quoteB l) e rfl).2
    rw [← (List.cons.inj e2).1]; decide
  · show cutAt 44 (34 :: (quoteB l ++ [34] ++ r)) false false cur A = _
    rw [cutAt, if_neg (by decide), qn_open false (by rfl), List.append_assoc]
    show cutAt 44 (quoteB l ++ ([34] ++ r)) true false _ A = _
    rw [cut_in]
    show cutAt 44 (34 :: r) true false _ A = _
    rw [cutAt, if_neg (by simp), qn_close (by rfl) (by rfl)]
    simp

/-- blanks -/
def gaps (g : List UInt8) : Prop := ∀ c ∈ g, blankB c = true
theorem gap_plain {g : List UInt8} (h : gaps g) : ∀ c ∈ g, ¬ (c.toNat : Int) = 34 ∧ c ≠ (44 : UInt8) := fun c hc => by
  have hb := h c hc
  unfold blankB blankI at hb
  rw [decide_eq_true_iff] at hb
  exact ⟨by omega, by rintro rfl; revert hb; decide⟩
theorem ltrim_gap {g : List UInt8} (h : gaps g) (l : List UInt8) : ltrim (g ++ l) = ltrim l := by
  induction g with
  | nil => rfl
  | cons c t ih =>
    have hc : blankB c = true := h c (by simp)
    have := ih (fun x hx => h x (by simp [hx]))
    unfold ltrim at this ⊢
    rw [List.cons_append, List.dropWhile_cons, if_pos hc, this]
theorem rtrim_gap (l g : List UInt8) (h : gaps g) : rtrim (l ++ g) = rtrim l := by
  show (ltrim (l ++ g).reverse).reverse = (ltrim l.reverse).reverse
  rw [List.reverse_append, ltrim_gap (fun c hc => h c (by simpa using hc))]
theorem trim_gaps {g x : List UInt8} (hg : gaps g) (hx : Piece x) : trim (g ++ x ++ g) = x := by
  show rtrim (ltrim (g ++ x ++ g)) = x
  rw [List.append_assoc, ltrim_gap hg]
  have h1 : ltrim (x ++ g) = x ++ g := ltrim_idem_of fun c r e => by
    cases x with
    | nil => exact absurd rfl hx.ne
    | cons d t => exact (List.cons.inj e).1 ▸ hx.head d t rfl
  rw [h1, rtrim_gap x g hg]
  exact rtrim_idem_of hx.last
theorem trim_blank {g : List UInt8} (hg : gaps g) : trim g = [] := by
  have h := ltrim_gap hg []
  rw [List.append_nil] at h
  show rtrim (ltrim g) = []
  rw [h]; rfl
theorem cut_comma (r cur : List UInt8) (A : List (List UInt8)) : cutAt 44 (44 :: r) false false cur A = cutAt 44 r false false [] (addP A cur) := by
  rw [cutAt, if_pos ⟨rfl, rfl⟩]
theorem addP_piece {g x : List UInt8} (hg : gaps g) (hx : Piece x) (A : List (List UInt8)) : addP A (g ++ x ++ g) = A ++ [x] := by
  unfold addP
  rw [trim_gaps hg hx, if_neg (by have := hx.ne; simp [this])]
theorem cut_all {g : List UInt8} (hg : gaps g) : ∀ (W : List (List UInt8)) (A : List (List UInt8)), W ≠ [] → (∀ x ∈ W, Piece x) → cutAt 44 (Lib.join W (g ++ [44] ++ g) ++ g ++ [44]) false false g A = some (A ++ W)
  | [], _, h, _ => absurd rfl h
  | [x], A, _, h => by
    have hx := h x (by simp)
    have e : Lib.join [x] (g ++ [44] ++ g) ++ g ++ [44] = x ++ (g ++ (44 :: [])) := by simp [Lib.join, List.intercalate]
    rw [e, hx.bal, cut_plain2 g _ _ _ (gap_plain hg), cut_comma, addP_piece hg hx]
    simp [cutAt, addP, trim, ltrim, rtrim]
  | x :: y :: r, A, _, h => by
    have hx := h x (by simp)
    have e : Lib.join (x :: y :: r) (g ++ [44] ++ g) ++ g ++ [44] = x ++ (g ++ (44 :: (g ++ (Lib.join (y :: r) (g ++ [44] ++ g) ++ g ++ [44])))) := by simp [Lib.join, List.intercalate]
    rw [e, hx.bal, cut_plain2 g _ _ _ (gap_plain hg), cut_comma, addP_piece hg hx, cut_plain2 g _ _ _ (gap_plain hg), List.nil_append, cut_all hg (y :: r) _ (by simp) (fun z hz => h z (by simp [hz]))]
    simp
theorem split_all {g : List UInt8} (hg : gaps g) (W : List (List UInt8)) (hW : ∀ x ∈ W, Piece x) (hl : W.length ≤ 64) :
    splitE (g ++ Lib.join W (g ++ [44] ++ g) ++ g ++ [44]) 44 = 0 ∧ splitL (g ++ Lib.join W (g ++ [44] ++ g) ++ g ++ [44]) 44 = W := by
  have hc : cutAt 44 (g ++ Lib.join W (g ++ [44] ++ g) ++ g ++ [44]) false false [] [] = some W := by
    by_cases h0 : W = []
    · subst h0
      have e : g ++ Lib.join [] (g ++ [44] ++ g) ++ g ++ [44] = g ++ (g ++ (44 :: [])) := by simp [Lib.join, List.intercalate]
      rw [e, cut_plain2 g _ _ _ (gap_plain hg), cut_plain2 g _ _ _ (gap_plain hg), cut_comma]
      have hb : trim ([] ++ g ++ g) = [] := trim_blank (by intro c hc; simp at hc; exact hg c hc)
      unfold addP
      rw [hb]
      simp [cutAt, addP, trim, ltrim, rtrim]
    · have e : g ++ Lib.join W (g ++ [44] ++ g) ++ g ++ [44] = g ++ (Lib.join W (g ++ [44] ++ g) ++ g ++ [44]) := by simp
      rw [e, cut_plain2 g _ _ _ (gap_plain hg), List.nil_append, cut_all hg W [] h0 hW, List.nil_append]
  have hb : badSep 44 = false := by decide
  constructor <;> simp only [splitE, splitL, hb, hc]
  · rw [if_neg (by simp), if_neg (by omega)]
  · rw [if_neg (by simp), if_neg (by omega)]

/-- what the statement makes of the text at place k: nothing, the token, or the text in quotes -/
def wantAt (k : Nat) (x : List UInt8) : List (List UInt8) :=
  if 100 < x.length ∨ x.all mayB = false then [] else if token x = true ∧ k % 2 = 0 then [x] else [quoteS x]
def wantTo (f : Nat → List UInt8) : Nat → List (List UInt8)
  | 0 => []
  | k + 1 => wantTo f k ++ wantAt k (f k)
theorem wantAt_piece (k : Nat) (x : List UInt8) : ∀ y ∈ wantAt k x, Piece y := by
  unfold wantAt
  split
  · intro y hy; cases hy
  · rename_i h
    have hm : x.all mayB = true := by cases hh : x.all mayB with | true => rfl | false => exact absurd (.inr hh) h
    split
    · rename_i ht; intro y hy; rw [List.mem_singleton] at hy; subst hy; exact piece_token ht.1
    · intro y hy; rw [List.mem_singleton] at hy; subst hy; exact piece_quote hm
theorem wantTo_piece (f : Nat → List UInt8) : ∀ k, ∀ y ∈ wantTo f k, Piece y
  | 0 => by intro y hy; cases hy
  | k + 1 => by
    intro y hy
    rcases List.mem_append.1 hy with h | h
    · exact wantTo_piece f k y h
    · exact wantAt_piece k _ y h
theorem wantAt_len (k : Nat) (x : List UInt8) : (wantAt k x).length ≤ 1 ∧ (wantAt k x).flatten.length ≤ 202 := by
  unfold wantAt
  split
  · simp
  · rename_i h
    have hl : x.length ≤ 100 := by omega
    have := quoteS_len x
    split <;> simp <;> omega
theorem wantTo_len (f : Nat → List UInt8) : ∀ k, (wantTo f k).length ≤ k ∧ (wantTo f k).flatten.length ≤ 202 * k
  | 0 => by simp [wantTo]
  | k + 1 => by
    have h1 := wantTo_len f k
    have h2 := wantAt_len k (f k)
    simp only [wantTo, List.length_append, List.flatten_append]
    omega
theorem join_len (sep : List UInt8) : ∀ L : List (List UInt8), (Lib.join L sep).length ≤ L.flatten.length + L.length * sep.length
  | [] => by simp [Lib.join, List.intercalate]
  | [x] => by simp [Lib.join, List.intercalate]
  | x :: y :: r => by
    have h := join_len sep (y :: r)
    have e : Lib.join (x :: y :: r) sep = x ++ sep ++ Lib.join (y :: r) sep := by simp [Lib.join, List.intercalate]
    rw [e]
    simp only [List.length_append, List.flatten_cons, List.length_cons, Nat.add_mul, Nat.one_mul] at h ⊢
    omega
end Go.Proofs.YtfobjaccpnondaaGreatDoor

/- Lists of header fields, plainly: names, values, what is set and taken out, the names that go no further. Nothing of the program is read here. -/
namespace Go.Proofs.YtfobjaccpnondaaGreatDoor
/-- a field: its name, its value -/
abbrev Fld := List UInt8 × List UInt8
def sameN (a b : List UInt8) : Bool := lower a == lower b
def valsL (l : List Fld) (n : List UInt8) : List (List UInt8) := (l.filter fun f => sameN f.1 n).map (·.2)
def getL (l : List Fld) (n : List UInt8) : List UInt8 := Lib.join (valsL l n) [44, 32]
def hasN (names : List (List UInt8)) (n : List UInt8) : Bool := names.any fun x => sameN x n
def delL (l : List Fld) (names : List (List UInt8)) : List Fld := l.filter fun f => !hasN names f.1
def setL : List Fld → List UInt8 → List UInt8 → List Fld
  | [], n, v => [(n, v)]
  | f :: r, n, v => if sameN f.1 n then (f.1, v) :: delL r [n] else f :: setL r n v
/-- the nine names -/
def nine : List (List UInt8) :=
  [[99,111,110,110,101,99,116,105,111,110], [107,101,101,112,45,97,108,105,118,101], [112,114,111,120,121,45,99,111,110,110,101,99,116,105,111,110], [116,101],
   [116,114,97,105,108,101,114], [116,114,97,110,115,102,101,114,45,101,110,99,111,100,105,110,103], [117,112,103,114,97,100,101],
   [112,114,111,120,121,45,97,117,116,104,101,110,116,105,99,97,116,101], [112,114,111,120,121,45,97,117,116,104,111,114,105,122,97,116,105,111,110]]
def conn : List UInt8 := [99,111,110,110,101,99,116,105,111,110]
def addN (acc : List (List UInt8)) (x : List UInt8) : List (List UInt8) := if token x then (if hasN acc x then acc else acc ++ [lower x]) else acc
def addV (acc : List (List UInt8)) (v : List UInt8) : List (List UInt8) := (splitL v 44).foldl addN acc
def hopL (l : List Fld) : List (List UInt8) := (valsL l conn).foldl addV nine
def cleanL (l : List Fld) : List Fld := delL l (hopL l)

theorem sameN_refl (a : List UInt8) : sameN a a = true := by simp [sameN]
theorem sameN_symm (a b : List UInt8) : sameN a b = sameN b a := by simp [sameN, Bool.beq_comm]
theorem sameN_eq {a b : List UInt8} (h : sameN a b = true) (c : List UInt8) : sameN a c = sameN b c := by
  have : lower a = lower b := by simpa [sameN] using h
  simp [sameN, this]
theorem sameN_eqR {a b : List UInt8} (h : sameN a b = true) (c : List UInt8) : sameN c a = sameN c b := by
  rw [sameN_symm c a, sameN_symm c b]; exact sameN_eq h c
theorem sameN_lower (a b : List UInt8) : sameN (lower a) b = sameN a b := by simp [sameN, lower_idem]
theorem hasN_one (n x : List UInt8) : hasN [n] x = sameN n x := by simp [hasN]
theorem hasN_of_same {names : List (List UInt8)} {a b : List UInt8} (h : sameN a b = true) : hasN names a = hasN names b := by
  unfold hasN
  congr 1
  funext x
  exact sameN_eqR h x

theorem filter_none {α : Type} {p : α → Bool} {l : List α} (h : ∀ x ∈ l, p x = false) : l.filter p = [] := by
  rw [List.filter_eq_nil_iff]; intro x hx; rw [h x hx]; simp
theorem filter_same {α : Type} {p q : α → Bool} {l : List α} (h : ∀ x ∈ l, p x = q x) : l.filter p = l.filter q := List.filter_congr h

theorem vals_del {l : List Fld} {names : List (List UInt8)} {n : List UInt8} (h : hasN names n = true) : valsL (delL l names) n = [] := by
  unfold valsL delL
  rw [List.filter_filter, filter_none (fun f _ => ?_)]; rfl
  cases hs : sameN f.1 n
  · rfl
  · rw [hasN_of_same hs, h]; rfl
theorem vals_del_other {l : List Fld} {names : List (List UInt8)} {n : List UInt8} (h : hasN names n = false) : valsL (delL l names) n = valsL l n := by
  unfold valsL delL
  rw [List.filter_filter]
  congr 1
  refine filter_same fun f _ => ?_
  cases hs : sameN f.1 n
  · rfl
  · rw [hasN_of_same hs, h]; rfl
theorem vals_cons (f : Fld) (l : List Fld) (n : List UInt8) : valsL (f :: l) n = if sameN f.1 n then f.2 :: valsL l n else valsL l n := by
  unfold valsL; rw [List.filter_cons]; split <;> simp
theorem vals_set (l : List Fld) (n v : List UInt8) : valsL (setL l n v) n = [v] := by
  induction l with
  | nil => simp [setL, valsL, sameN_refl]
  | cons f r ih =>
    unfold setL
    cases h : sameN f.1 n
    · simp only [Bool.false_eq_true, if_false]; rw [vals_cons, h]; simpa using ih
    · simp only [if_true]; rw [vals_cons]; simp only [h, if_true]
      rw [vals_del (by rw [hasN_one]; exact sameN_refl n)]
theorem vals_set_other {l : List Fld} {n v o : List UInt8} (h : sameN n o = false) : valsL (setL l n v) o = valsL l o := by
  induction l with
  | nil => simp [setL, valsL, h]
  | cons f r ih =>
    unfold setL
    cases hs : sameN f.1 n
    · simp only [Bool.false_eq_true, if_false]; rw [vals_cons, vals_cons, ih]
    · simp only [if_true]
      have hf : sameN f.1 o = false := (sameN_eq hs o).trans h
      rw [vals_cons, vals_cons]
      simp only [hf, Bool.false_eq_true, if_false]
      exact vals_del_other (by rw [hasN_one]; exact h)
theorem del_le (l : List Fld) (names : List (List UInt8)) : (delL l names).length ≤ l.length := List.length_filter_le _ _

/-- what stands ahead of the first field of a name -/
def firstN (l : List Fld) (n : List UInt8) : List Fld := l.takeWhile fun f => !sameN f.1 n
theorem set_none {l : List Fld} {n : List UInt8} (v : List UInt8) (h : l.any (fun f => sameN f.1 n) = false) : setL l n v = delL l [n] ++ [(n, v)] := by
  induction l with
  | nil => rfl
  | cons f r ih =>
    simp only [List.any_cons, Bool.or_eq_false_iff] at h
    unfold setL
    simp only [h.1, Bool.false_eq_true, if_false]
    have hd : delL (f :: r) [n] = f :: delL r [n] := by unfold delL; rw [List.filter_cons, hasN_one, sameN_symm, h.1]; rfl
    rw [hd, ih h.2]; rfl
theorem set_at {l : List Fld} {n : List UInt8} (v : List UInt8) : ∀ {k : Nat} (hk : k < l.length), sameN l[k].1 n = true → (∀ j (hj : j < k), sameN (l[j]'(by omega)).1 n = false) →
    setL l n v = (delL l [n]).take k ++ (l[k].1, v) :: (delL l [n]).drop k ∧ k ≤ (delL l [n]).length := by
  induction l with
  | nil => intro k hk; exact absurd hk (by simp)
  | cons f r ih =>
    intro k hk hs hn
    cases k with
    | zero =>
      unfold setL
      have hs' : sameN f.1 n = true := hs
      simp only [hs', if_true]
      have hd : delL (f :: r) [n] = delL r [n] := by unfold delL; rw [List.filter_cons, hasN_one, sameN_symm, hs']; rfl
      rw [hd]; simp
    | succ k =>
      have h0 : sameN f.1 n = false := hn 0 (by omega)
      have hd : delL (f :: r) [n] = f :: delL r [n] := by unfold delL; rw [List.filter_cons, hasN_one, sameN_symm, h0]; rfl
      obtain ⟨h1, h2⟩ := ih (k := k) (by simpa using hk) hs (fun j hj => hn (j + 1) (by omega))
      unfold setL
      simp only [h0, Bool.false_eq_true, if_false]
      rw [hd, h1]
      simp only [List.getElem_cons_succ, List.take_succ_cons, List.drop_succ_cons, List.cons_append, List.length_cons]
      exact ⟨trivial, by omega⟩

theorem any_of_has {names : List (List UInt8)} {x y : List UInt8} (hx : x ∈ names) (h : sameN x y = true) : hasN names y = true := by
  unfold hasN; rw [List.any_eq_true]; exact ⟨x, hx, h⟩
theorem addN_sub (acc : List (List UInt8)) (x : List UInt8) : ∀ y ∈ acc, y ∈ addN acc x := fun y hy => by
  unfold addN; split
  · split
    · exact hy
    · exact List.mem_append_left _ hy
  · exact hy
theorem addV_sub (v : List UInt8) : ∀ (acc : List (List UInt8)), ∀ y ∈ acc, y ∈ addV acc v := by
  unfold addV
  generalize splitL v 44 = p
  induction p with
  | nil => intro acc y hy; exact hy
  | cons x r ih => intro acc y hy; exact ih _ y (addN_sub acc x y hy)
theorem hops_sub (vs : List (List UInt8)) : ∀ (acc : List (List UInt8)), ∀ y ∈ acc, y ∈ vs.foldl addV acc := by
  induction vs with
  | nil => intro acc y hy; exact hy
  | cons v r ih => intro acc y hy; exact ih _ y (addV_sub v acc y hy)
theorem nine_hop (l : List Fld) : ∀ y ∈ nine, y ∈ hopL l := hops_sub _ nine
theorem conn_nine : conn ∈ nine := by simp [conn, nine]
theorem clean_none {l : List Fld} {x : List UInt8} (hx : x ∈ hopL l) : valsL (cleanL l) x = [] := vals_del (any_of_has hx (sameN_refl x))
theorem hop_clean (l : List Fld) : hopL (cleanL l) = nine := by
  rw [hopL, clean_none (nine_hop l conn conn_nine)]; rfl
theorem clean_clean (l : List Fld) : cleanL (cleanL l) = cleanL l := by
  have h : cleanL (cleanL l) = delL (cleanL l) nine := by rw [cleanL, hop_clean]
  rw [h]
  unfold delL
  rw [List.filter_eq_self]
  intro f hf
  have h1 : f ∈ delL l (hopL l) := hf
  rw [delL, List.mem_filter] at h1
  have h2 := h1.2
  rw [Bool.not_eq_true'] at h2 ⊢
  unfold hasN at h2 ⊢
  rw [List.any_eq_false] at h2 ⊢
  exact fun x hx => h2 x (nine_hop l x hx)

/-- names in small letters alone -/
def lows (acc : List (List UInt8)) : Prop := ∀ x ∈ acc, lower x = x
theorem lows_nine : lows nine := by
  intro x hx
  have h : nine.all (fun y => lower y == y) = true := by decide
  simpa using List.all_eq_true.1 h x hx
theorem lows_addN {acc : List (List UInt8)} (h : lows acc) (x : List UInt8) : lows (addN acc x) := by
  unfold addN
  split
  · split
    · exact h
    · intro y hy
      rcases List.mem_append.1 hy with hy | hy
      · exact h y hy
      · rw [List.mem_singleton.1 hy, lower_idem]
  · exact h
theorem lows_mem {acc : List (List UInt8)} (h : lows acc) (x : List UInt8) : hasN acc x = acc.any (fun y => y == lower x) := by
  unfold hasN
  rw [Bool.eq_iff_iff, List.any_eq_true, List.any_eq_true]
  constructor
  · rintro ⟨y, hy, h1⟩; exact ⟨y, hy, by rw [sameN, h y hy] at h1; exact h1⟩
  · rintro ⟨y, hy, h1⟩; exact ⟨y, hy, by rw [sameN, h y hy]; exact h1⟩

theorem join_snoc (L : List (List UInt8)) (x sep : List UInt8) (h : L ≠ []) : Lib.join (L ++ [x]) sep = Lib.join L sep ++ sep ++ x := by
  cases L with
  | nil => exact absurd rfl h
  | cons a r =>
    rw [List.cons_append, Lib.join_cons, Lib.join_cons]
    simp [Lib.joinTail]

/-- may a list be gone through -/
def sizeL (l : List Fld) : Nat := (l.map fun f => f.1.length + f.2.length).sum
def fewB (l : List Fld) : Bool := decide (l.length ≤ 80) && decide (sizeL l ≤ 12000)
theorem sizeL_cons (f : Fld) (l : List Fld) : sizeL (f :: l) = f.1.length + f.2.length + sizeL l := by simp [sizeL]
theorem sizeL_append (a b : List Fld) : sizeL (a ++ b) = sizeL a + sizeL b := by simp [sizeL]
theorem sizeL_mem {l : List Fld} {f : Fld} (h : f ∈ l) : f.1.length + f.2.length ≤ sizeL l := by
  induction l with
  | nil => cases h
  | cons g r ih =>
    rw [sizeL_cons]
    rcases List.mem_cons.1 h with rfl | h
    · omega
    · have := ih h; omega
theorem sizeL_filter (p : Fld → Bool) (l : List Fld) : sizeL (l.filter p) ≤ sizeL l := by
  induction l with
  | nil => exact Nat.le_refl _
  | cons f r ih => rw [List.filter_cons, sizeL_cons]; split
                   · rw [sizeL_cons]; omega
                   · omega
theorem vals_flat (l : List Fld) (n : List UInt8) : (valsL l n).flatten.length ≤ sizeL l := by
  induction l with
  | nil => simp [valsL]
  | cons f r ih =>
    rw [vals_cons, sizeL_cons]; split
    · simp only [List.flatten_cons, List.length_append]; omega
    · omega
theorem vals_len (l : List Fld) (n : List UInt8) : (valsL l n).length ≤ l.length := by unfold valsL; rw [List.length_map]; exact List.length_filter_le _ _
theorem get_len (l : List Fld) (n : List UInt8) : (getL l n).length ≤ sizeL l + 2 * l.length := by
  unfold getL
  have h : ∀ L : List (List UInt8), (Lib.join L [44, 32]).length ≤ L.flatten.length + 2 * L.length := by
    intro L
    cases L with
    | nil => simp [Lib.join_nil]
    | cons x r =>
      rw [Lib.join_cons, List.length_append, List.flatten_cons, List.length_append, List.length_cons]
      have : (Lib.joinTail [44, 32] r).length = r.flatten.length + 2 * r.length := by
        unfold Lib.joinTail
        induction r with
        | nil => rfl
        | cons y r ih => simp only [List.map_cons, List.flatten_cons, List.length_append, List.length_cons, ih, List.length_nil]; omega
      omega
  have h1 := h (valsL l n)
  have h2 := vals_flat l n
  have h3 := vals_len l n
  omega
end Go.Proofs.YtfobjaccpnondaaGreatDoor

/- Lists of header fields, plainly: which may be, their text, and what a text is as fields. Nothing of the program is read here. -/
namespace Go.Proofs.YtfobjaccpnondaaGreatDoor
def valV (v : List UInt8) : Bool := v.all mayB && (trim v == v)
def lenF (f : Fld) : Nat := f.1.length + 2 + f.2.length
def mayF (f : Fld) : Bool := token f.1 && valV f.2
def longF (f : Fld) : Bool := decide (2048 < lenF f)
def chkF (f : Fld) : Int := if mayF f then (if longF f then 3 else 0) else 4
def firstE : List Fld → Int
  | [] => 0
  | f :: r => if chkF f = 0 then firstE r else chkF f
def checkL (l : List Fld) : Int := if 64 < l.length then 3 else firstE l
def lineL (f : Fld) : List UInt8 := f.1 ++ [58, 32] ++ f.2
def linesL (l : List Fld) : List UInt8 := l.flatMap fun f => lineL f ++ [13, 10]
def putL (l : List Fld) : List UInt8 := if checkL l = 0 then linesL l else []
/-- the field of a line (without its end), and why it is none -/
def oneF (s : List UInt8) : Fld := ((Lib.cut s [58]).1, trim (Lib.cut s [58]).2.1)
def oneE (s : List UInt8) : Int := if (Lib.cut s [58]).2.2 then chkF (oneF s) else 4
def cutN (s : List UInt8) : List UInt8 × List UInt8 × Bool := Lib.cut s [13, 10]
theorem cut_le (s sep : List UInt8) : (Lib.cut s sep).1.length ≤ s.length ∧ (Lib.cut s sep).2.1.length ≤ s.length := by
  unfold Lib.cut; split
  · exact ⟨List.length_take_le' _ _, by simp⟩
  · exact ⟨Nat.le_refl _, by simp⟩
theorem cutN_lt {s : List UInt8} (h : (cutN s).2.2 = true) : (cutN s).2.1.length < s.length := by
  unfold cutN Lib.cut at h ⊢
  split at h
  · rename_i h0
    rw [if_pos h0]
    have := Lib.index_room s [13, 10] h0
    simp only [List.length_drop, List.length_cons, List.length_nil] at this ⊢
    omega
  · cases h
/-- what a text is as fields, behind those that were read -/
def parseW (s : List UInt8) (out : List Fld) : List Fld × Int :=
  if _h : (cutN s).2.2 = true then
    if out.length = 64 ∨ 2048 < (cutN s).1.length then ([], 3)
    else if oneE (cutN s).1 = 0 then parseW (cutN s).2.1 (out ++ [oneF (cutN s).1]) else ([], oneE (cutN s).1)
  else if s = [] then (out, 0) else ([], 4)
termination_by s.length
decreasing_by exact cutN_lt (by assumption)
def parseL (s : List UInt8) : List Fld × Int := parseW s []

theorem chkF_cases (f : Fld) : (mayF f = false ∧ chkF f = 4) ∨ (mayF f = true ∧ longF f = true ∧ chkF f = 3) ∨ (mayF f = true ∧ longF f = false ∧ chkF f = 0) := by
  unfold chkF
  cases h1 : mayF f <;> cases h2 : longF f <;> simp
theorem chkF_zero {f : Fld} (h : chkF f = 0) : mayF f = true ∧ lenF f ≤ 2048 := by
  rcases chkF_cases f with ⟨_, h2⟩ | ⟨_, _, h2⟩ | ⟨h1, h2, _⟩
  · omega
  · omega
  · refine ⟨h1, ?_⟩
    unfold longF at h2
    have := of_decide_eq_false h2
    omega

/-- how far the document's reader of a field has come: its value's first bytes -/
def upTo (v : ByteArray) (k : Nat) : Prop := (v.data.toList.take k).all mayB = true ∧ (0 < k → ∃ h : 0 < v.size, blankB v[0] = false) ∧ (k = v.size → 0 < k → ∃ h : v.size - 1 < v.size, blankB v[v.size - 1] = false)
theorem upTo_zero (v : ByteArray) : upTo v 0 := ⟨rfl, fun h => absurd h (by omega), fun _ h => absurd h (by omega)⟩
theorem upTo_end {v : ByteArray} (h : upTo v v.size) : valV v.data.toList = true := by
  obtain ⟨h1, h2, h3⟩ := h
  rw [take_all (by omega)] at h1
  unfold valV
  rw [h1, Bool.true_and]
  rcases Nat.eq_zero_or_pos v.size with h0 | h0
  · rw [nil_of h0]; rfl
  · obtain ⟨_, hb⟩ := h2 h0
    obtain ⟨_, hc⟩ := h3 rfl h0
    have : trim v.data.toList = v.data.toList := by
      unfold trim
      rw [ltrim_end h0 hb, rtrim_end h0 hc]
    rw [this]; simp
theorem valV_byte {v : ByteArray} {k : Nat} (h : k < v.size) (hb : mayB v[k] = false) : valV v.data.toList = false := by
  unfold valV; rw [all_not v mayB k h hb]; rfl
theorem dropWhile_lt {p : UInt8 → Bool} {l : List UInt8} {c : UInt8} (h : p c = true) : ((c :: l).dropWhile p).length ≤ l.length := by
  rw [List.dropWhile_cons, h]; exact dropWhile_le p l
theorem valV_first {v : ByteArray} (h : 0 < v.size) (hb : blankB v[0] = true) : valV v.data.toList = false := by
  unfold valV
  have hne : trim v.data.toList ≠ v.data.toList := by
    intro e
    have h1 : (trim v.data.toList).length ≤ (ltrim v.data.toList).length := by
      unfold trim rtrim; rw [List.length_reverse]
      exact Nat.le_trans (dropWhile_le _ _) (by rw [List.length_reverse]; exact Nat.le_refl _)
    have h2 : (ltrim v.data.toList).length ≤ v.data.toList.length - 1 := by
      rw [cons_of h]; unfold ltrim
      have := dropWhile_lt (l := v.data.toList.drop 1) hb
      simpa using this
    rw [e] at h1
    have h3 : v.data.toList.length = v.size := (size_len v).symm
    omega
  have : (trim v.data.toList == v.data.toList) = false := beq_eq_false_iff_ne.2 hne
  rw [this, Bool.and_false]
theorem valV_last {v : ByteArray} (h : v.size - 1 < v.size) (hb : blankB v[v.size - 1] = true) : valV v.data.toList = false := by
  unfold valV
  have h0 : 0 < v.size := by omega
  have hne : trim v.data.toList ≠ v.data.toList := by
    intro e
    by_cases hf : blankB v[0] = true
    · have := valV_first h0 hf
      unfold valV at this
      rw [e] at this
      simp only [beq_self_eq_true, Bool.and_true] at this
      -- the first byte is blank: trimmed it is shorter
      have h1 : (trim v.data.toList).length ≤ (ltrim v.data.toList).length := by
        unfold trim rtrim; rw [List.length_reverse]
        exact Nat.le_trans (dropWhile_le _ _) (by rw [List.length_reverse]; exact Nat.le_refl _)
      have h2 : (ltrim v.data.toList).length ≤ v.data.toList.length - 1 := by
        rw [cons_of h0]; unfold ltrim
        have := dropWhile_lt (l := v.data.toList.drop 1) hf
        simpa using this
      rw [e] at h1
      have h3 : v.data.toList.length = v.size := (size_len v).symm
      omega
    · have hf' : blankB v[0] = false := by simpa using hf
      have h1 : trim v.data.toList = rtrim v.data.toList := by unfold trim; rw [ltrim_end h0 hf']
      have h2 : (rtrim v.data.toList).length ≤ v.size - 1 := by
        rw [← rtrim_step h0 hb]
        unfold rtrim
        rw [List.length_reverse]
        exact Nat.le_trans (dropWhile_le _ _) (by rw [List.length_reverse, List.length_take]; omega)
      rw [← h1, e] at h2
      have h3 : v.data.toList.length = v.size := (size_len v).symm
      omega
  have : (trim v.data.toList == v.data.toList) = false := beq_eq_false_iff_ne.2 hne
  rw [this, Bool.and_false]
/-- one byte on -/
theorem upTo_next {v : ByteArray} {k : Nat} (h : upTo v k) (hk : k < v.size) (hm : mayB v[k] = true) (h0 : k = 0 → blankB v[k] = false) (h1 : k + 1 = v.size → blankB v[k] = false) : upTo v (k + 1) := by
  refine ⟨all_snoc v mayB k hk h.1 hm, fun _ => ?_, fun he _ => ?_⟩
  · rcases Nat.eq_zero_or_pos k with rfl | hp
    · exact ⟨hk, h0 rfl⟩
    · exact h.2.1 hp
  · refine ⟨by omega, ?_⟩
    have e : v.size - 1 = k := by omega
    simp only [e]
    exact h1 he
theorem firstE_step {l : List Fld} {k : Nat} (h : k < l.length) (hz : chkF l[k] = 0) : firstE (l.drop k) = firstE (l.drop (k + 1)) := by
  rw [List.drop_eq_getElem_cons h, firstE, if_pos hz]
theorem firstE_stop {l : List Fld} {k : Nat} (h : k < l.length) (hz : ¬ chkF l[k] = 0) : firstE (l.drop k) = chkF l[k] := by
  rw [List.drop_eq_getElem_cons h, firstE, if_neg hz]
theorem firstE_all {l : List Fld} (h : firstE l = 0) : ∀ f ∈ l, chkF f = 0 := by
  induction l with
  | nil => intro f hf; cases hf
  | cons g r ih =>
    unfold firstE at h
    by_cases hg : chkF g = 0
    · rw [if_pos hg] at h
      intro f hf
      rcases List.mem_cons.1 hf with rfl | hf
      · exact hg
      · exact ih h f hf
    · rw [if_neg hg] at h; exact absurd h hg
theorem firstE_of {l : List Fld} (h : ∀ f ∈ l, chkF f = 0) : firstE l = 0 := by
  induction l with
  | nil => rfl
  | cons g r ih => rw [firstE, if_pos (h g (by simp))]; exact ih fun f hf => h f (by simp [hf])
theorem check_zero {l : List Fld} (h : checkL l = 0) : l.length ≤ 64 ∧ ∀ f ∈ l, chkF f = 0 := by
  unfold checkL at h
  by_cases h1 : 64 < l.length
  · rw [if_pos h1] at h; omega
  · rw [if_neg h1] at h; exact ⟨by omega, firstE_all h⟩
theorem check_of {l : List Fld} (h1 : l.length ≤ 64) (h2 : ∀ f ∈ l, chkF f = 0) : checkL l = 0 := by
  unfold checkL; rw [if_neg (by omega)]; exact firstE_of h2
theorem line_len (f : Fld) : (lineL f).length = lenF f := by unfold lineL lenF; simp; omega
theorem lines_len {l : List Fld} (h : ∀ f ∈ l, chkF f = 0) : (linesL l).length ≤ 2050 * l.length := by
  induction l with
  | nil => simp [linesL]
  | cons f r ih =>
    have h1 := (chkF_zero (h f (by simp))).2
    have h2 := ih fun g hg => h g (by simp [hg])
    have h3 : linesL (f :: r) = (lineL f ++ [13, 10]) ++ linesL r := by simp [linesL]
    rw [h3, List.length_append, List.length_append, line_len, List.length_cons, List.length_cons, List.length_cons, List.length_nil]
    omega
theorem put_len (l : List Fld) : (putL l).length ≤ 131200 := by
  unfold putL; split
  · rename_i h
    obtain ⟨h1, h2⟩ := check_zero h
    have := lines_len h2
    omega
  · simp
theorem lines_snoc (l : List Fld) (f : Fld) : linesL (l ++ [f]) = linesL l ++ (lineL f ++ [13, 10]) := by simp [linesL]

/-! ### what is put is read -/
theorem mayB_no13 {c : UInt8} (h : mayB c = true) : c ≠ 13 := by rintro rfl; revert h; decide
theorem tokB_no {c : UInt8} (h : tokB c = true) : c ≠ 13 ∧ c ≠ 58 := by
  constructor <;> (rintro rfl; revert h; decide)
theorem occ_two (s : List UInt8) (i : Nat) (a b : UInt8) : Lib.occAt s [a, b] i = true ↔ (s[i]? = some a ∧ s[i + 1]? = some b) := by
  unfold Lib.occAt
  have h1 : s[i]? = (s.drop i)[0]? := by simp
  have h2 : s[i + 1]? = (s.drop i)[1]? := by simp
  rw [h1, h2]
  generalize s.drop i = l
  match l with
  | [] => simp [List.isPrefixOf]
  | [x] => simp [List.isPrefixOf]
  | x :: y :: r =>
    simp only [List.isPrefixOf, Bool.and_true, Bool.and_eq_true, beq_iff_eq, List.getElem?_cons_zero, List.getElem?_cons_succ, Option.some.injEq]
    exact ⟨fun ⟨h1, h2⟩ => ⟨h1.symm, h2.symm⟩, fun ⟨h1, h2⟩ => ⟨h1.symm, h2.symm⟩⟩
theorem occ_one (s : List UInt8) (i : Nat) (a : UInt8) : Lib.occAt s [a] i = true ↔ s[i]? = some a := by
  unfold Lib.occAt
  have h1 : s[i]? = (s.drop i)[0]? := by simp
  rw [h1]
  generalize s.drop i = l
  match l with
  | [] => simp [List.isPrefixOf]
  | x :: r =>
    simp only [List.isPrefixOf, Bool.and_true, beq_iff_eq, List.getElem?_cons_zero, Option.some.injEq]
    exact ⟨fun h => h.symm, fun h => h.symm⟩
/-- cut at the first instance -/
theorem cut_hit {s sep : List UInt8} {i : Nat} (hi : i ≤ s.length) (ho : Lib.occAt s sep i = true) (hn : ∀ j, j < i → Lib.occAt s sep j = false) : Lib.cut s sep = (s.take i, s.drop (i + sep.length), true) := by
  have h : Lib.index s sep = i := Lib.index_first hi ho hn
  unfold Lib.cut
  rw [h, if_pos (by omega)]
  simp
theorem cut_miss {s sep : List UInt8} (hn : ∀ j, j ≤ s.length → Lib.occAt s sep j = false) : Lib.cut s sep = (s, [], false) := by
  have h : Lib.index s sep = -1 := Lib.index_none hn
  unfold Lib.cut
  rw [h, if_neg (by omega)]
theorem cutN_of {a r : List UInt8} (h : ∀ c ∈ a, c ≠ 13) : cutN (a ++ 13 :: 10 :: r) = (a, r, true) := by
  unfold cutN
  rw [cut_hit (i := a.length) (by simp) ((occ_two _ _ _ _).2 ⟨by simp, by rw [List.getElem?_append_right (by omega)]; simp⟩) fun j hj => ?_]
  · simp
  · cases ho : Lib.occAt (a ++ 13 :: 10 :: r) [13, 10] j
    · rfl
    · have h1 := ((occ_two _ _ _ _).1 ho).1
      rw [List.getElem?_append_left hj, List.getElem?_eq_getElem hj] at h1
      exact absurd (Option.some.inj h1) (h _ (List.getElem_mem hj))
theorem cutC_of {a r : List UInt8} (h : ∀ c ∈ a, c ≠ 58) : Lib.cut (a ++ 58 :: r) [58] = (a, r, true) := by
  rw [cut_hit (i := a.length) (by simp) ((occ_one _ _ _).2 (by simp)) fun j hj => ?_]
  · simp
  · cases ho : Lib.occAt (a ++ 58 :: r) [58] j
    · rfl
    · have h1 := (occ_one _ _ _).1 ho
      rw [List.getElem?_append_left hj, List.getElem?_eq_getElem hj] at h1
      exact absurd (Option.some.inj h1) (h _ (List.getElem_mem hj))
theorem token_all {l : List UInt8} (h : token l = true) : ∀ c ∈ l, tokB c = true := by
  unfold token at h
  rw [Bool.and_eq_true] at h
  exact fun c hc => List.all_eq_true.1 h.2 c hc
theorem one_line {f : Fld} (h : chkF f = 0) : oneE (lineL f) = 0 ∧ oneF (lineL f) = f := by
  obtain ⟨h1, h2⟩ := chkF_zero h
  unfold mayF at h1
  rw [Bool.and_eq_true] at h1
  have hc : Lib.cut (lineL f) [58] = (f.1, 32 :: f.2, true) := by
    unfold lineL
    rw [List.append_assoc]
    exact cutC_of fun c hc => (tokB_no (token_all h1.1 c hc)).2
  have hv := h1.2
  unfold valV at hv
  rw [Bool.and_eq_true] at hv
  have ht : trim (32 :: f.2) = f.2 := by
    have : trim (32 :: f.2) = trim f.2 := by unfold trim ltrim; rfl
    rw [this]; exact beq_iff_eq.1 hv.2
  have hf : oneF (lineL f) = f := by unfold oneF; rw [hc]; show (f.1, trim (32 :: f.2)) = f; rw [ht]
  exact ⟨by unfold oneE; rw [hf, hc]; simpa using h, hf⟩
theorem line_no13 {f : Fld} (h : chkF f = 0) : ∀ c ∈ lineL f, c ≠ 13 := by
  obtain ⟨h1, h2⟩ := chkF_zero h
  unfold mayF at h1
  rw [Bool.and_eq_true] at h1
  have hv := h1.2
  unfold valV at hv
  rw [Bool.and_eq_true] at hv
  intro c hc
  unfold lineL at hc
  rcases List.mem_append.1 hc with hc | hc
  · rcases List.mem_append.1 hc with hc | hc
    · exact (tokB_no (token_all h1.1 c hc)).1
    · simp at hc; rcases hc with rfl | rfl <;> decide
  · exact mayB_no13 (List.all_eq_true.1 hv.1 c hc)
theorem parse_nil (out : List Fld) : parseW [] out = (out, 0) := by
  rw [parseW]
  have : (cutN []).2.2 = false := by decide
  simp [this]
theorem parse_lines : ∀ (l out : List Fld), out.length + l.length ≤ 64 → (∀ f ∈ l, chkF f = 0) → parseW (linesL l) out = (out ++ l, 0)
  | [], out, _, _ => by rw [List.append_nil]; exact parse_nil out
  | f :: r, out, hl, h => by
    have h0 := h f (by simp)
    have e : linesL (f :: r) = lineL f ++ 13 :: 10 :: linesL r := by simp [linesL]
    have hc := cutN_of (r := linesL r) (line_no13 h0)
    rw [← e] at hc
    have h3 := (chkF_zero h0).2
    obtain ⟨h4, h5⟩ := one_line h0
    rw [List.length_cons] at hl
    rw [parseW]
    simp only [hc, dite_true]
    rw [if_neg (by rw [line_len]; omega), if_pos h4, h5, parse_lines r _ (by simp; omega) (fun g hg => h g (by simp [hg]))]
    simp
theorem parse_put {l : List Fld} (h : checkL l = 0) : parseL (putL l) = (l, 0) := by
  obtain ⟨h1, h2⟩ := check_zero h
  unfold parseL putL
  rw [if_pos h, parse_lines l [] (by simpa using h1) h2]; rfl
theorem put_bad {l : List Fld} (h : ¬ checkL l = 0) : putL l = [] := by unfold putL; rw [if_neg h]
theorem oneE_zero {s : List UInt8} (h : oneE s = 0) : chkF (oneF s) = 0 := by
  unfold oneE at h; split at h
  · exact h
  · omega
/-- what is read may be; what can't be read is nothing -/
theorem parse_may : ∀ (n : Nat) (s : List UInt8) (out : List Fld), s.length ≤ n → out.length ≤ 64 → (∀ f ∈ out, chkF f = 0) →
    ((parseW s out).2 = 0 ∧ (parseW s out).1.length ≤ 64 ∧ ∀ f ∈ (parseW s out).1, chkF f = 0) ∨ (¬ (parseW s out).2 = 0 ∧ (parseW s out).1 = []) := by
  intro n
  induction n with
  | zero =>
    intro s out hs hl ho
    have : s = [] := List.eq_nil_of_length_eq_zero (by omega)
    subst this
    rw [parse_nil]; exact .inl ⟨rfl, hl, ho⟩
  | succ n ih =>
    intro s out hs hl ho
    rw [parseW]
    split
    · rename_i hc
      split
      · exact .inr ⟨by decide, rfl⟩
      · rename_i h1
        split
        · rename_i h2
          have hlt := cutN_lt hc
          exact ih _ _ (by omega) (by simp; omega) (fun f hf => by
            rcases List.mem_append.1 hf with hf | hf
            · exact ho f hf
            · rw [List.mem_singleton.1 hf]; exact oneE_zero h2)
        · rename_i h2
          exact .inr ⟨h2, rfl⟩
    · split
      · exact .inl ⟨rfl, hl, ho⟩
      · exact .inr ⟨by decide, rfl⟩
theorem parse_check (s : List UInt8) : checkL (parseL s).1 = 0 ∧ ((parseL s).2 = 0 ∨ (parseL s).1 = []) := by
  rcases parse_may s.length s [] (Nat.le_refl _) (by simp) (by simp) with ⟨h1, h2, h3⟩ | ⟨h1, h2⟩
  · exact ⟨check_of h2 h3, .inl h1⟩
  · refine ⟨?_, .inr h2⟩
    show checkL (parseW s []).1 = 0
    rw [h2]; rfl
end Go.Proofs.YtfobjaccpnondaaGreatDoor

/- Directives, plainly: what an element says, the directives of a value and of values, two readings of an element; what directives that are put together are read as. Nothing of the program is read here. -/
namespace Go.Proofs.YtfobjaccpnondaaGreatDoor
/-- a directive: its name, its value, has it one, whom it is for -/
abbrev Dv := List UInt8 × List UInt8 × Bool × List UInt8
def dv0 : Dv := ([], [], false, [])
def noStore : Dv := ([110, 111, 45, 115, 116, 111, 114, 101], [], false, [])
/-- what an element says -/
def sayD (e : List UInt8) : Option Dv :=
  if token (Lib.cut e [61]).1 then
    if (Lib.cut e [61]).2.2 then
      if token (Lib.cut e [61]).2.1 then some (lower (Lib.cut e [61]).1, (Lib.cut e [61]).2.1, true, [])
      else match unquote (Lib.cut e [61]).2.1 with
        | some p => some (lower (Lib.cut e [61]).1, p, true, [])
        | none => none
    else some (lower (Lib.cut e [61]).1, [], false, [])
  else none
def dirs (l : List UInt8) : List Dv := if splitE l 44 = 0 then (splitL l 44).filterMap sayD else [noStore]
def dirsAll (L : List (List UInt8)) : List Dv := L.flatMap dirs
def findD (l : List Dv) (n : List UInt8) : Option Dv := l.find? fun d => lower d.1 == lower n

/-! What an element says: cut at the first byte 61. -/
theorem cutE_of {a r : List UInt8} (h : ∀ c ∈ a, c ≠ 61) : Lib.cut (a ++ 61 :: r) [61] = (a, r, true) := by
  rw [cut_hit (i := a.length) (by simp) ((occ_one _ _ _).2 (by simp)) fun j hj => ?_]
  · simp
  · cases ho : Lib.occAt (a ++ 61 :: r) [61] j
    · rfl
    · have h1 := (occ_one _ _ _).1 ho
      rw [List.getElem?_append_left hj, List.getElem?_eq_getElem hj] at h1
      exact absurd (Option.some.inj h1) (h _ (List.getElem_mem hj))
theorem cutE_none {a : List UInt8} (h : ∀ c ∈ a, c ≠ 61) : Lib.cut a [61] = (a, [], false) := by
  refine cut_miss fun j hj => ?_
  cases ho : Lib.occAt a [61] j
  · rfl
  · have h1 := (occ_one _ _ _).1 ho
    rcases Nat.lt_or_ge j a.length with h2 | h2
    · rw [List.getElem?_eq_getElem h2] at h1
      exact absurd (Option.some.inj h1) (h _ (List.getElem_mem h2))
    · rw [List.getElem?_eq_none h2] at h1; cases h1
/-- either no byte 61, or the first one -/
theorem cutE_cases (e : List UInt8) : ((∀ c ∈ e, c ≠ 61) ∧ Lib.cut e [61] = (e, [], false)) ∨ ∃ a r, e = a ++ 61 :: r ∧ (∀ c ∈ a, c ≠ 61) ∧ Lib.cut e [61] = (a, r, true) := by
  have key : ∀ e : List UInt8, (∀ c ∈ e, c ≠ 61) ∨ ∃ a r, e = a ++ 61 :: r ∧ (∀ c ∈ a, c ≠ 61) := by
    intro e
    induction e with
    | nil => exact .inl fun c hc => by cases hc
    | cons x t ih =>
      by_cases hx : x = 61
      · exact .inr ⟨[], t, by rw [hx]; rfl, fun c hc => by cases hc⟩
      · rcases ih with h | ⟨a, r, rfl, h⟩
        · exact .inl fun c hc => (List.mem_cons.1 hc).elim (fun e1 => by rw [e1]; exact hx) (h c)
        · exact .inr ⟨x :: a, r, rfl, fun c hc => (List.mem_cons.1 hc).elim (fun e1 => by rw [e1]; exact hx) (h c)⟩
  rcases key e with h | ⟨a, r, rfl, h⟩
  · exact .inl ⟨h, cutE_none h⟩
  · exact .inr ⟨a, r, rfl, h, cutE_of h⟩
theorem tok_ne61 {l : List UInt8} (h : token l = true) : ∀ c ∈ l, c ≠ 61 := by
  intro c hc
  unfold token at h
  simp only [Bool.and_eq_true, List.all_eq_true] at h
  rintro rfl
  have := h.2 61 hc
  revert this; decide
theorem cutE_le (e : List UInt8) : (Lib.cut e [61]).1.length ≤ e.length ∧ (Lib.cut e [61]).2.1.length ≤ e.length := cut_le e [61]
theorem token_lower {l : List UInt8} (h : token l = true) : token (lower l) = true := by
  unfold token at h ⊢
  simp only [Bool.and_eq_true, List.all_eq_true] at h ⊢
  refine ⟨by cases l with | nil => simp at h | cons c r => rfl, fun c hc => ?_⟩
  unfold lower at hc
  obtain ⟨x, hx, rfl⟩ := List.mem_map.1 hc
  have h1 := h.2 x hx
  unfold tokB tokI at h1 ⊢
  rw [decide_eq_true_iff] at h1 ⊢
  by_cases hb : 65 ≤ (x.toNat : Int) ∧ (x.toNat : Int) ≤ 90
  · have := low_up hb.1 hb.2
    omega
  · rw [low_same hb]; exact h1
theorem unq_len : ∀ (l : List UInt8) (e : Bool) (acc p : List UInt8), unq l e acc = some p → p.length ≤ acc.length + l.length
  | [], _, _, _, h => by simp [unq] at h
  | c :: r, true, acc, p, h => by
    rw [unq] at h
    split at h
    · have := unq_len r _ _ _ h; simp at this ⊢; omega
    · cases h
  | c :: r, false, acc, p, h => by
    rw [unq] at h
    split at h
    · split at h
      · cases h; simp
      · cases h
    · split at h
      · have := unq_len r _ _ _ h; simp at this ⊢; omega
      · split at h
        · have := unq_len r _ _ _ h; simp at this ⊢; omega
        · cases h
theorem unquote_len {l p : List UInt8} (h : unquote l = some p) : p.length ≤ l.length := by
  cases l with
  | nil => simp [unquote] at h
  | cons c r =>
    rw [unquote] at h
    split at h
    · have := unq_len r _ _ _ h; simp at this ⊢; omega
    · cases h
/-- what says something has a name that is a token, in small letters; without a byte 61 it has no value -/
theorem sayD_name {e : List UInt8} {d : Dv} (h : sayD e = some d) : token d.1 = true ∧ lower d.1 = d.1 ∧ (d.2.2.1 = false → d.2.1 = []) ∧ d.2.2.2 = [] := by
  unfold sayD at h
  split at h
  · rename_i ht
    have h1 := token_lower ht
    split at h
    · split at h
      · cases h; exact ⟨h1, lower_idem _, (fun h => by cases h), rfl⟩
      · split at h
        · cases h; exact ⟨h1, lower_idem _, (fun h => by cases h), rfl⟩
        · cases h
    · cases h; exact ⟨h1, lower_idem _, fun _ => rfl, rfl⟩
  · cases h
theorem sayD_len {e : List UInt8} {d : Dv} (h : sayD e = some d) : d.1.length ≤ e.length ∧ d.2.1.length ≤ e.length := by
  have hc := cutE_le e
  unfold sayD at h
  split at h
  · split at h
    · split at h
      · cases h; exact ⟨by rw [lower_len]; exact hc.1, hc.2⟩
      · split at h
        · rename_i p hp
          cases h
          refine ⟨by rw [lower_len]; exact hc.1, Nat.le_trans ?_ hc.2⟩
          exact unquote_len hp
        · cases h
    · cases h; exact ⟨by rw [lower_len]; exact hc.1, by simp⟩
  · cases h
/-! What is put together with blanks and commas. -/
theorem pieceD_plain {n r : List UInt8} (hn : token n = true) (hr : Piece r) : Piece (n ++ 61 :: r) := by
  have h0 := hn
  unfold token at hn
  simp only [Bool.and_eq_true, List.all_eq_true] at hn
  have hp : ∀ c ∈ n ++ [61], ¬ (c.toNat : Int) = 34 ∧ c ≠ (44 : UInt8) := by
    intro c hc
    rcases List.mem_append.1 hc with hc | hc
    · refine ⟨(tok_not (hn.2 c hc)).2, ?_⟩
      rintro rfl
      have := hn.2 44 hc
      revert this; decide
    · obtain rfl : c = 61 := by simpa using hc
      exact ⟨by decide, by decide⟩
  have e1 : n ++ 61 :: r = (n ++ [61]) ++ r := by simp
  refine ⟨by simp, fun c t e => ?_, fun t c e => ?_, fun t cur A => ?_⟩
  · cases n with
    | nil => simp at hn
    | cons x y =>
      have : x = c := by simpa using (List.cons.inj e).1
      subst this
      exact (tok_not (hn.2 x (by simp))).1
  · obtain ⟨r', c', hrc⟩ : ∃ r' c', r = r' ++ [c'] := ⟨r.dropLast, r.getLast hr.ne, (List.dropLast_concat_getLast hr.ne).symm⟩
    have h2 := hr.last r' c' hrc
    have e2 : (n ++ [61]) ++ r' ++ [c'] = t ++ [c] := by rw [← e, e1, hrc]; simp
    have e3 : [c'] = [c] := (List.append_inj' e2 rfl).2
    rw [← (List.cons.inj e3).1]; exact h2
  · rw [e1, List.append_assoc, cut_plain2 (n ++ [61]) _ _ _ hp, hr.bal]
    simp
/-- each piece, with blanks and a comma behind it -/
def glued (g : List UInt8) (W : List (List UInt8)) : List UInt8 := W.flatMap fun x => x ++ g ++ 44 :: g
theorem glued_snoc (g : List UInt8) (W : List (List UInt8)) (x : List UInt8) : glued g (W ++ [x]) = glued g W ++ (x ++ g ++ 44 :: g) := by simp [glued]
theorem cut_glued {g : List UInt8} (hg : gaps g) : ∀ (W : List (List UInt8)) (A : List (List UInt8)), (∀ x ∈ W, Piece x) → cutAt 44 (glued g W) false false g A = some (A ++ W)
  | [], A, _ => by
    have hb : trim g = [] := trim_blank hg
    simp [glued, cutAt, addP, hb]
  | x :: r, A, h => by
    have hx := h x (by simp)
    have e : glued g (x :: r) = x ++ (g ++ (44 :: (g ++ glued g r))) := by simp [glued]
    rw [e, hx.bal, cut_plain2 g _ _ _ (gap_plain hg), cut_comma, addP_piece hg hx, cut_plain2 g _ _ _ (gap_plain hg), List.nil_append, cut_glued hg r _ (fun z hz => h z (by simp [hz]))]
    simp
theorem split_glued {g : List UInt8} (hg : gaps g) (W : List (List UInt8)) (hW : ∀ x ∈ W, Piece x) (hl : W.length ≤ 64) : splitE (g ++ glued g W) 44 = 0 ∧ splitL (g ++ glued g W) 44 = W := by
  have hc : cutAt 44 (g ++ glued g W) false false [] [] = some W := by
    rw [cut_plain2 g _ _ _ (gap_plain hg), List.nil_append, cut_glued hg W [] hW, List.nil_append]
  have hb : badSep 44 = false := by decide
  constructor <;> simp only [splitE, splitL, hb, hc]
  · rw [if_neg (by simp), if_neg (by omega)]
  · rw [if_neg (by simp), if_neg (by omega)]
theorem filterMap_all {α β : Type} {f : α → Option β} : ∀ {L : List α} {M : List β}, L.length = M.length → (∀ j (h1 : j < L.length) (h2 : j < M.length), f L[j] = some M[j]) → L.filterMap f = M
  | [], [], _, _ => rfl
  | [], _ :: _, h, _ => by simp at h
  | _ :: _, [], h, _ => by simp at h
  | x :: r, y :: t, h, hp => by
    have h0 := hp 0 (by simp) (by simp)
    simp only [List.getElem_cons_zero] at h0
    rw [List.filterMap_cons, h0]
    simp only
    rw [filterMap_all (L := r) (M := t) (by simpa using h) fun j h1 h2 => by have := hp (j + 1) (by simpa using h1) (by simpa using h2); simpa using this]
end Go.Proofs.YtfobjaccpnondaaGreatDoor

/- Plain numbers and digits: what the tick layer's functions come to. Nothing of the program is read here. -/
namespace Go.Proofs.YtfobjaccpnondaaGreatDoor
/-- the delta of a number -/
def ofI (n : Int) : Int := if n < 0 then 0 else if 2147483648 < n then 2147483648 else n
def addI (a b : Int) : Int := ofI (ofI a + ofI b)
def lessI (a b : Int) : Int := ofI (ofI a - ofI b)
def sinceI (a b : Int) : Int := ofI (b - a)
theorem ofI_mm (n : Int) : ofI n = min (max n 0) 2147483648 := by unfold ofI; split <;> (try split) <;> omega
theorem ofI_lo (n : Int) : 0 ≤ ofI n := by unfold ofI; split <;> (try split) <;> omega
theorem ofI_hi (n : Int) : ofI n ≤ 2147483648 := by unfold ofI; split <;> (try split) <;> omega
theorem ofI_neg {n : Int} (h : n < 0) : ofI n = 0 := by unfold ofI; rw [if_pos h]
theorem ofI_big {n : Int} (h : 2147483648 < n) : ofI n = 2147483648 := by unfold ofI; rw [if_neg (by omega), if_pos h]
theorem ofI_mid {n : Int} (h0 : 0 ≤ n) (h1 : n ≤ 2147483648) : ofI n = n := by unfold ofI; rw [if_neg (by omega), if_neg (by omega)]
theorem ofI_top {n : Int} (h : 2147483648 ≤ n) : ofI n = 2147483648 := by unfold ofI; split <;> (try split) <;> omega
theorem ofI_ofI (n : Int) : ofI (ofI n) = ofI n := ofI_mid (ofI_lo n) (ofI_hi n)
theorem ofI_mono {a b : Int} (h : a ≤ b) : ofI a ≤ ofI b := by unfold ofI; split <;> split <;> (try split) <;> (try split) <;> omega

/-- a digit -/
def digC (c : UInt8) : Bool := decide (48 ≤ (c.toNat : Int) ∧ (c.toNat : Int) ≤ 57)
def num (l : List UInt8) : Nat := l.foldl (fun n c => 10 * n + (c.toNat - 48)) 0
def isDel (l : List UInt8) : Bool := !l.isEmpty && l.all digC
def delI (l : List UInt8) : Int := if isDel l then ofI (num l) else 0
def putTk (n : Int) : List UInt8 := Lib.decDigits (ofI n).toNat
theorem num_snoc (l : List UInt8) (c : UInt8) : num (l ++ [c]) = 10 * num l + (c.toNat - 48) := by unfold num; rw [List.foldl_append]; rfl
theorem num_append (a b : List UInt8) : num (a ++ b) = num a * 10 ^ b.length + num b := by
  suffices h : ∀ (b : List UInt8) (n : Nat), b.foldl (fun n c => 10 * n + (c.toNat - 48)) n = n * 10 ^ b.length + num b by
    unfold num; rw [List.foldl_append]; exact h b _
  intro b
  induction b with
  | nil => intro n; simp [num]
  | cons c b ih =>
    intro n
    rw [List.foldl_cons, ih, show num (c :: b) = (c.toNat - 48) * 10 ^ b.length + num b from by unfold num; rw [List.foldl_cons, ih]; simp [num], List.length_cons, Nat.pow_succ,
      show n * (10 ^ b.length * 10) = 10 * n * 10 ^ b.length from by rw [← Nat.mul_assoc, Nat.mul_comm (n * 10 ^ b.length) 10, Nat.mul_assoc], Nat.add_mul]
    omega
theorem ofI_step (m : Nat) (d : Int) (h0 : 0 ≤ d) : ofI (10 * ofI m + d) = ofI ((10 * m : Nat) + d) := by
  unfold ofI; repeat' split
  all_goals omega
theorem dig_bd {c : UInt8} (h : digC c = true) : 48 ≤ c.toNat ∧ c.toNat ≤ 57 := by
  unfold digC at h; have := of_decide_eq_true h; omega
theorem ofI_num (l : List UInt8) (c : UInt8) (h : digC c = true) : ofI (10 * ofI (num l) + ((c.toNat : Int) - 48)) = ofI (num (l ++ [c])) := by
  have := dig_bd h
  rw [ofI_step _ _ (by omega), num_snoc]
  congr 1; omega
theorem num_cons (c : UInt8) (l : List UInt8) : num (c :: l) = (c.toNat - 48) * 10 ^ l.length + num l := by
  have h := num_append [c] l
  rw [show num [c] = c.toNat - 48 from by unfold num; simp] at h
  exact h
theorem num_lt : ∀ (l : List UInt8), l.all digC = true → num l < 10 ^ l.length
  | [], _ => by simp [num]
  | c :: l, h => by
    rw [List.all_cons, Bool.and_eq_true] at h
    have h1 := num_lt l h.2
    have h2 := dig_bd h.1
    rw [num_cons, List.length_cons, Nat.pow_succ]
    have h3 : (c.toNat - 48) * 10 ^ l.length ≤ 9 * 10 ^ l.length := Nat.mul_le_mul_right _ (by omega)
    omega
/-- the leading noughts are nothing -/
theorem num_zeros (l : List UInt8) : num (48 :: l) = num l := by unfold num; rw [List.foldl_cons]; rfl
theorem num_big {c : UInt8} {l : List UInt8} (h0 : 49 ≤ c.toNat) (hl : 10 ≤ l.length) : 2147483648 < num (c :: l) := by
  have h3 : 10 ^ 10 ≤ 10 ^ l.length := Nat.pow_le_pow_right (by omega) hl
  have h4 : 10 ^ l.length ≤ (c.toNat - 48) * 10 ^ l.length := Nat.le_mul_of_pos_left _ (by omega)
  rw [num_cons]
  omega
theorem dig_of (d : Nat) (h : d < 10) : digC (UInt8.ofNat (48 + d)) = true ∧ (UInt8.ofNat (48 + d)).toNat = 48 + d := by
  have : (UInt8.ofNat (48 + d)).toNat = 48 + d := by simp; omega
  exact ⟨by unfold digC; rw [this]; exact decide_eq_true (by omega), this⟩
theorem dec_all (u : Nat) : (Lib.decDigits u).all digC = true ∧ num (Lib.decDigits u) = u ∧ Lib.decDigits u ≠ [] := by
  induction u using Nat.strongRecOn with
  | _ u ih =>
    rw [Lib.decDigits]
    split
    · rename_i h
      have := dig_of u h
      exact ⟨by rw [List.all_cons, this.1]; rfl, by unfold num; simp only [List.foldl_cons, List.foldl_nil]; rw [this.2]; omega, by simp⟩
    · rename_i h
      obtain ⟨h1, h2, h3⟩ := ih (u / 10) (by omega)
      have := dig_of (u % 10) (by omega)
      refine ⟨by rw [List.all_append, h1, List.all_cons, this.1]; rfl, by rw [num_snoc, h2, this.2]; omega, by simp⟩
theorem del_put (n : Int) : isDel (putTk n) = true ∧ delI (putTk n) = ofI n := by
  obtain ⟨h1, h2, h3⟩ := dec_all (ofI n).toNat
  have hd : isDel (putTk n) = true := by
    unfold isDel putTk; rw [h1]
    cases h : Lib.decDigits (ofI n).toNat with
    | nil => exact absurd h h3
    | cons a l => rfl
  refine ⟨hd, ?_⟩
  unfold delI; rw [if_pos hd]
  unfold putTk; rw [h2]
  have := ofI_lo n
  rw [show (((ofI n).toNat : Nat) : Int) = ofI n from by omega, ofI_ofI]
theorem itoa_put (n : Int) : Lib.itoa (ofI n) = putTk n := by
  unfold Lib.itoa putTk; rw [if_neg (by have := ofI_lo n; omega)]
end Go.Proofs.YtfobjaccpnondaaGreatDoor

/- What Surrogate-Control's values say, plainly: elements, their parts, the directives of a device, a control; as the program goes and as the document says, and that both are the same. Nothing of the program is read here. -/
namespace Go.Proofs.YtfobjaccpnondaaGreatDoor

/-! What a cut leaves of what is open. -/
def stq (l : List UInt8) (s : Bool × Bool) : Bool × Bool := l.foldl (fun s c => qnext s.1 s.2 c) s
theorem stq_append (a b : List UInt8) (s : Bool × Bool) : stq (a ++ b) s = stq b (stq a s) := by unfold stq; rw [List.foldl_append]
theorem stq_cons (c : UInt8) (r : List UInt8) (s : Bool × Bool) : stq (c :: r) s = stq r (qnext s.1 s.2 c) := rfl
theorem stq_snoc (a : List UInt8) (c : UInt8) (s : Bool × Bool) : stq (a ++ [c]) s = qnext (stq a s).1 (stq a s).2 c := by rw [stq_append]; rfl
/-- no byte t stands outside quotes -/
def noq (t : UInt8) (l : List UInt8) (s : Bool × Bool) : Prop := ∀ a c b, l = a ++ c :: b → (stq a s).1 = false → c ≠ t
theorem noq_nil (t : UInt8) (s : Bool × Bool) : noq t [] s := fun a c b h => by simp at h
theorem noq_snoc {t : UInt8} {l : List UInt8} {s : Bool × Bool} {c : UInt8} (h : noq t l s) (hc : (stq l s).1 = false → c ≠ t) : noq t (l ++ [c]) s := by
  intro a d b e hs
  rcases List.eq_nil_or_concat b with rfl | ⟨b', z, rfl⟩
  · have e2 : l ++ [c] = a ++ [d] := e
    obtain ⟨rfl, e3⟩ := List.append_inj' e2 rfl
    obtain rfl : c = d := by simpa using e3
    exact hc hs
  · have e2 : l ++ [c] = (a ++ d :: b') ++ [z] := by rw [e, List.concat_eq_append]; simp
    obtain ⟨rfl, _⟩ := List.append_inj' e2 rfl
    exact h a d b' rfl hs
theorem noq_left {t : UInt8} {a b : List UInt8} {s : Bool × Bool} (h : noq t (a ++ b) s) : noq t a s := by
  intro x c y e hs
  exact h x c (y ++ b) (by rw [e]; simp) hs
theorem noq_right {t : UInt8} {a b : List UInt8} {s : Bool × Bool} (h : noq t (a ++ b) s) : noq t b (stq a s) := by
  intro x c y e hs
  refine h (a ++ x) c y (by rw [e]; simp) ?_
  rw [stq_append]; exact hs
theorem qn_blank {c : UInt8} (hb : blankB c = true) (e : Bool) : qnext false e c = (false, false) := by
  refine qn_out e (bne_iff_ne.2 fun h => ?_)
  unfold blankB blankI at hb
  rw [decide_eq_true_iff] at hb
  omega
theorem qn_blank_in {c : UInt8} (hb : blankB c = true) (e : Bool) : (qnext true e c).1 = true := by
  unfold blankB blankI at hb
  rw [decide_eq_true_iff] at hb
  unfold qnext
  cases e
  · have h1 : ¬ (c.toNat : Int) = 92 := by omega
    have h2 : ¬ (c.toNat : Int) = 34 := by omega
    simp [h1, h2]
  · simp
theorem stq_gap : ∀ {g : List UInt8}, gaps g → stq g (false, false) = (false, false)
  | [], _ => rfl
  | c :: r, h => by
    rw [stq_cons, qn_blank (h c (by simp)) false]
    exact stq_gap fun x hx => h x (by simp [hx])
theorem stq_gap_in : ∀ {g : List UInt8} {s : Bool × Bool}, gaps g → s.1 = true → (stq g s).1 = true
  | [], _, _, h => h
  | c :: r, s, h, hs => by
    obtain ⟨o, e⟩ := s
    simp only at hs
    subst hs
    rw [stq_cons]
    exact stq_gap_in (fun x hx => h x (by simp [hx])) (qn_blank_in (h c (by simp)) e)
theorem stq_out : ∀ (l : List UInt8) (s : Bool × Bool), s.1 = false → s.2 = false → (stq l s).1 = false → (stq l s).2 = false := by
  have key : ∀ (l : List UInt8) (s : Bool × Bool), (s.1 = false → s.2 = false) → (stq l s).1 = false → (stq l s).2 = false := by
    intro l
    induction l with
    | nil => intro s h; exact h
    | cons c r ih =>
      intro s h
      rw [stq_cons]
      refine ih _ ?_
      obtain ⟨o, e⟩ := s
      unfold qnext
      cases o <;> cases e <;> simp only [Bool.false_eq_true, if_false, if_true] <;> (repeat' split) <;> simp
  exact fun l s _ h => key l s fun _ => h
theorem takeWhile_gaps : ∀ l : List UInt8, gaps (l.takeWhile blankB)
  | [] => fun c h => by cases h
  | x :: r => fun c h => by
    rw [List.takeWhile_cons] at h
    split at h
    · rename_i hx
      rcases List.mem_cons.1 h with rfl | h
      · exact hx
      · exact takeWhile_gaps r c h
    · cases h
theorem blanks_ltrim (l : List UInt8) : ∃ g, gaps g ∧ l = g ++ ltrim l :=
  ⟨l.takeWhile blankB, takeWhile_gaps l, (List.takeWhile_append_dropWhile).symm⟩
theorem blanks_rtrim (l : List UInt8) : ∃ g, gaps g ∧ l = rtrim l ++ g := by
  obtain ⟨g, h1, h2⟩ := blanks_ltrim l.reverse
  refine ⟨g.reverse, fun c hc => h1 c (by simpa using hc), ?_⟩
  have h3 := congrArg List.reverse h2
  rw [List.reverse_reverse, List.reverse_append] at h3
  exact h3
theorem blanks_trim (l : List UInt8) : ∃ g g', gaps g ∧ gaps g' ∧ l = g ++ trim l ++ g' := by
  obtain ⟨g, h1, h2⟩ := blanks_ltrim l
  obtain ⟨g', h3, h4⟩ := blanks_rtrim (ltrim l)
  refine ⟨g, g', h1, h3, ?_⟩
  show l = g ++ rtrim (ltrim l) ++ g'
  rw [List.append_assoc, ← h4]; exact h2
/-- a piece in which no byte t stands outside quotes -/
structure Shut (t : UInt8) (x : List UInt8) : Prop where
  ne : x ≠ []
  tr : trim x = x
  fin : (stq x (false, false)).1 = false
  no : noq t x (false, false)
theorem shut_trim {t : UInt8} {cur : List UInt8} (h1 : (stq cur (false, false)).1 = false) (h2 : noq t cur (false, false)) (h3 : ¬ (trim cur).isEmpty) : Shut t (trim cur) := by
  obtain ⟨g, g', hg, hg', e⟩ := blanks_trim cur
  have h4 : noq t (trim cur) (false, false) := by
    have h := h2
    rw [e] at h
    have h5 := noq_right (noq_left h)
    rwa [stq_gap hg] at h5
  refine ⟨fun h => h3 (by rw [h]; rfl), trim_idem cur, ?_, h4⟩
  have h := h1
  rw [e, stq_append, stq_append, stq_gap hg] at h
  cases hh : (stq (trim cur) (false, false)).1
  · rfl
  · rw [stq_gap_in hg' hh] at h; cases h
theorem cut_shut {sep t : UInt8} (hsep : ¬ (sep.toNat : Int) = 34) : ∀ (l : List UInt8) (o e : Bool) (cur : List UInt8) (A R : List (List UInt8)), stq cur (false, false) = (o, e) → noq t cur (false, false) →
    (∀ a c b, l = a ++ c :: b → (stq a (o, e)).1 = false → c ≠ sep → c ≠ t) → (∀ x ∈ A, Shut t x) → cutAt sep l o e cur A = some R → ∀ x ∈ R, Shut t x
  | [], o, e, cur, A, R, h1, h2, _, h4, h5 => by
    rw [cutAt] at h5
    cases o
    · obtain rfl : addP A cur = R := by simpa using h5
      unfold addP
      split
      · exact h4
      · rename_i hn
        intro x hx
        rcases List.mem_append.1 hx with hx | hx
        · exact h4 x hx
        · rw [List.mem_singleton.1 hx]
          exact shut_trim (by rw [h1]) h2 hn
    · simp at h5
  | c :: r, o, e, cur, A, R, h1, h2, h3, h4, h5 => by
    rw [cutAt] at h5
    split at h5
    · rename_i hs
      obtain ⟨rfl, hcs⟩ := hs
      subst hcs
      refine cut_shut hsep r false false [] (addP A cur) R rfl (noq_nil _ _) (fun a d b he hst => ?_) ?_ h5
      · refine h3 (c :: a) d b (by rw [he]; rfl) ?_
        have he2 : stq (c :: a) (false, e) = stq a (qnext false e c) := rfl
        rw [he2]
        rw [qn_out e (bne_iff_ne.2 hsep)]; exact hst
      · unfold addP
        split
        · exact h4
        · rename_i hn
          intro x hx
          rcases List.mem_append.1 hx with hx | hx
          · exact h4 x hx
          · rw [List.mem_singleton.1 hx]
            exact shut_trim (by rw [h1]) h2 hn
    · rename_i hs
      refine cut_shut hsep r (qnext o e c).1 (qnext o e c).2 (cur ++ [c]) A R (by rw [stq_snoc, h1]) (noq_snoc h2 fun ho => ?_) (fun a d b he hst => h3 (c :: a) d b (by rw [he]; rfl) hst) h4 h5
      rw [h1] at ho
      simp only at ho
      exact h3 [] c r rfl ho fun hc => hs ⟨ho, hc⟩
theorem cut_clean {t : UInt8} : ∀ (l : List UInt8) (o e : Bool) (cur : List UInt8) (A : List (List UInt8)), noq t l (o, e) → (stq l (o, e)).1 = false → cutAt t l o e cur A = some (addP A (cur ++ l))
  | [], o, e, cur, A, _, h => by
    have : o = false := h
    subst this
    simp [cutAt]
  | c :: r, o, e, cur, A, h1, h2 => by
    have hc : ¬ (o = false ∧ c = t) := fun h => h1 [] c r rfl h.1 h.2
    rw [cutAt, if_neg hc, cut_clean r (qnext o e c).1 (qnext o e c).2 _ _ (fun a d b he hs => h1 (c :: a) d b (by rw [he]; rfl) hs) h2]
    simp
theorem split_shut {t : UInt8} {x : List UInt8} (hb : badSep t = false) (h : Shut t x) : splitE x t = 0 ∧ splitL x t = [x] := by
  have hc := cut_clean x false false [] [] h.no h.fin
  have hp : addP [] ([] ++ x) = [x] := by
    unfold addP
    rw [List.nil_append, h.tr, if_neg (by have := h.ne; cases x with | nil => exact absurd rfl this | cons a b => simp)]
    rfl
  rw [hp] at hc
  constructor <;> simp [splitE, splitL, hb, hc]
theorem shut_of_split {t sep : UInt8} {l : List UInt8} (hb : badSep sep = false) (h3 : ∀ a c b, l = a ++ c :: b → (stq a (false, false)).1 = false → c ≠ sep → c ≠ t) : ∀ x ∈ splitL l sep, Shut t x := by
  have hsep : ¬ (sep.toNat : Int) = 34 := by
    intro h
    unfold badSep at hb
    rw [Bool.or_eq_false_iff] at hb
    exact beq_eq_false_iff_ne.1 hb.1 (UInt8.toNat_inj.1 (by simp; omega))
  intro x hx
  unfold splitL at hx
  rw [hb] at hx
  simp only [Bool.false_eq_true, if_false] at hx
  split at hx
  · cases hx
  · rename_i R hR
    split at hx
    · cases hx
    · exact cut_shut hsep l false false [] [] R rfl (noq_nil _ _) h3 (fun x h => by cases h) hR x hx
/-- a part of an element of a value is cut at no comma -/
theorem part_dirs {v e p : List UInt8} (he : e ∈ splitL v 44) (hp : p ∈ splitL e 59) : dirs p = (sayD p).toList := by
  have h1 : Shut 44 e := shut_of_split (by decide) (fun a c b _ _ h => h) e he
  have h2 : Shut 44 p := shut_of_split (by decide) (fun a c b hl hs _ => h1.no a c b hl hs) p hp
  obtain ⟨hE, hL⟩ := split_shut (by decide) h2
  unfold dirs
  rw [if_pos hE, hL]
  cases h : sayD p <;> simp [h]

/-! Directives for devices. -/
def forD (f : List UInt8) (d : Dv) : Dv := (d.1, d.2.1, d.2.2.1, f)
/-- what an element states, as the program goes: its parts are cut once more -/
def elemP (e : List UInt8) : List Dv :=
  if splitE e 59 = 0 then
    match splitL e 59 with
    | [p] => (dirs p).map (forD [])
    | [p, f] => if token f then (dirs p).map (forD f) else []
    | _ => []
  else [noStore]
/-- as the document says -/
def elemD (e : List UInt8) : List Dv :=
  if splitE e 59 = 0 then
    match splitL e 59 with
    | [p] => (sayD p).toList
    | [p, f] => if token f then (sayD p).toList.map (forD f) else []
    | _ => []
  else [noStore]
def valP (v : List UInt8) : List Dv := if splitE v 44 = 0 then (splitL v 44).flatMap elemP else [noStore]
def valD (v : List UInt8) : List Dv := if splitE v 44 = 0 then (splitL v 44).flatMap elemD else [noStore]
def listP (L : List (List UInt8)) : List Dv := L.flatMap valP
def listS (L : List (List UInt8)) : List Dv := L.flatMap valD
theorem forD_nil {p : List UInt8} : (sayD p).toList.map (forD []) = (sayD p).toList := by
  cases h : sayD p with
  | none => rfl
  | some d =>
    obtain ⟨a, b, c, f⟩ := d
    have := (sayD_name h).2.2.2
    simp only at this
    subst this
    rfl
theorem elem_eq {v e : List UInt8} (he : e ∈ splitL v 44) : elemP e = elemD e := by
  unfold elemP elemD
  split
  · split
    · rename_i p hp
      rw [part_dirs he (by rw [hp]; simp), forD_nil]
    · rename_i p f hp
      rw [part_dirs he (by rw [hp]; simp)]
    · rfl
  · rfl
theorem flatMap_eq {α β : Type} {f g : α → List β} : ∀ {L : List α}, (∀ x ∈ L, f x = g x) → L.flatMap f = L.flatMap g
  | [], _ => rfl
  | x :: r, h => by rw [List.flatMap_cons, List.flatMap_cons, h x (by simp), flatMap_eq fun y hy => h y (by simp [hy])]
theorem val_eq (v : List UInt8) : valP v = valD v := by
  unfold valP valD
  split
  · exact flatMap_eq fun e he => elem_eq he
  · rfl
theorem list_eq (L : List (List UInt8)) : listP L = listS L := flatMap_eq fun v _ => val_eq v
/-- every name is one in small letters -/
theorem elemD_name {e : List UInt8} {d : Dv} (h : d ∈ elemD e) : lower d.1 = d.1 := by
  have key : ∀ {p : List UInt8} {d : Dv}, d ∈ (sayD p).toList → lower d.1 = d.1 := fun {p d} h => by
    rw [Option.mem_toList] at h
    exact (sayD_name h).2.1
  unfold elemD at h
  split at h
  · split at h
    · exact key h
    · split at h
      · obtain ⟨d', h1, rfl⟩ := List.mem_map.1 h
        have h2 := key h1
        exact h2
      · cases h
    · cases h
  · rw [List.mem_singleton.1 h]; decide
theorem listS_name {L : List (List UInt8)} {d : Dv} (h : d ∈ listS L) : lower d.1 = d.1 := by
  obtain ⟨v, _, hv⟩ := List.mem_flatMap.1 h
  unfold valD at hv
  split at hv
  · obtain ⟨e, _, he⟩ := List.mem_flatMap.1 hv
    exact elemD_name he
  · rw [List.mem_singleton.1 hv]; decide
/-! How long. -/
theorem splitS_at {l : List UInt8} {sep : UInt8} {x : List UInt8} (h : x ∈ splitL l sep) : x.length ≤ l.length := by
  have key : ∀ (l : List UInt8) (o e : Bool) (cur : List UInt8) (A R : List (List UInt8)) (N : Nat), cur.length + l.length ≤ N → (∀ x ∈ A, x.length ≤ N) → cutAt sep l o e cur A = some R → ∀ x ∈ R, x.length ≤ N := by
    have hadd : ∀ (A : List (List UInt8)) (cur : List UInt8) (N : Nat), cur.length ≤ N → (∀ x ∈ A, x.length ≤ N) → ∀ x ∈ addP A cur, x.length ≤ N := by
      intro A cur N h1 h2 x hx
      unfold addP at hx
      split at hx
      · exact h2 x hx
      · rcases List.mem_append.1 hx with hx | hx
        · exact h2 x hx
        · rw [List.mem_singleton.1 hx]; exact Nat.le_trans (trim_le cur) h1
    intro l
    induction l with
    | nil =>
      intro o e cur A R N h1 h2 h3
      rw [cutAt] at h3
      cases o
      · obtain rfl : addP A cur = R := by simpa using h3
        exact hadd A cur N (by simpa using h1) h2
      · simp at h3
    | cons c r ih =>
      intro o e cur A R N h1 h2 h3
      rw [cutAt] at h3
      simp only [List.length_cons] at h1
      split at h3
      · exact ih _ _ _ _ _ N (by simp; omega) (hadd A cur N (by omega) h2) h3
      · exact ih _ _ _ _ _ N (by simp; omega) h2 h3
  unfold splitL at h
  split at h
  · cases h
  · split at h
    · cases h
    · rename_i R hR
      split at h
      · cases h
      · exact key l false false [] [] R l.length (by simp) (fun x h => by cases h) hR x h
theorem splitS_len (l : List UInt8) (sep : UInt8) : (splitL l sep).length ≤ 64 := by
  unfold splitL
  split
  · simp
  · split
    · simp
    · split
      · simp
      · omega
theorem dirsS_len (l : List UInt8) : (dirs l).length ≤ 64 := by
  unfold dirs
  split
  · exact Nat.le_trans (List.length_filterMap_le _ _) (splitS_len l 44)
  · simp
theorem elemP_len (e : List UInt8) : (elemP e).length ≤ 64 := by
  unfold elemP
  split
  · split
    · rw [List.length_map]; exact dirsS_len _
    · split
      · rw [List.length_map]; exact dirsS_len _
      · simp
    · simp
  · simp
theorem flatMap_len {α β : Type} {f : α → List β} {n : Nat} : ∀ {L : List α}, (∀ x ∈ L, (f x).length ≤ n) → (L.flatMap f).length ≤ L.length * n
  | [], _ => by simp
  | x :: r, h => by
    have h1 := h x (by simp)
    have h2 := flatMap_len (f := f) (n := n) (L := r) fun y hy => h y (by simp [hy])
    rw [List.flatMap_cons, List.length_append, List.length_cons, Nat.add_mul, Nat.one_mul]
    omega
theorem valP_len (v : List UInt8) : (valP v).length ≤ 4096 := by
  unfold valP
  split
  · have h1 := flatMap_len (f := elemP) (n := 64) (L := splitL v 44) fun x _ => elemP_len x
    have h2 := splitS_len v 44
    omega
  · simp
theorem listP_len (L : List (List UInt8)) : (listP L).length ≤ L.length * 4096 := flatMap_len fun x _ => valP_len x
/-- the texts of what is stated are no longer than what states it -/
def DvN (N : Nat) (d : Dv) : Prop := d.1.length ≤ N + 8 ∧ d.2.1.length ≤ N ∧ d.2.2.2.length ≤ N
theorem elemD_at {e : List UInt8} {d : Dv} {N : Nat} (hN : e.length ≤ N) (h : d ∈ elemD e) : DvN N d := by
  have key : ∀ {p : List UInt8} {d : Dv}, p ∈ splitL e 59 → d ∈ (sayD p).toList → DvN N d := fun {p d} hp h => by
    rw [Option.mem_toList] at h
    have h1 := sayD_len h
    have h2 := (sayD_name h).2.2.2
    have h3 := splitS_at hp
    exact ⟨by omega, by omega, by rw [h2]; simp⟩
  unfold elemD at h
  split at h
  · split at h
    · rename_i p hp
      exact key (by rw [hp]; simp) h
    · rename_i p f hp
      split at h
      · obtain ⟨d', h1, rfl⟩ := List.mem_map.1 h
        have h2 := key (p := p) (by rw [hp]; simp) h1
        exact ⟨h2.1, h2.2.1, Nat.le_trans (splitS_at (l := e) (sep := 59) (x := f) (by rw [hp]; simp)) hN⟩
      · cases h
    · cases h
  · rw [List.mem_singleton.1 h]
    exact ⟨by simp [noStore], by simp [noStore], by simp [noStore]⟩
theorem listS_at {L : List (List UInt8)} {N : Nat} (hN : ∀ v ∈ L, v.length ≤ N) {d : Dv} (h : d ∈ listS L) : DvN N d := by
  obtain ⟨v, hv, hd⟩ := List.mem_flatMap.1 h
  unfold valD at hd
  split at hd
  · obtain ⟨e, he, hd⟩ := List.mem_flatMap.1 hd
    exact elemD_at (Nat.le_trans (splitS_at he) (hN v hv)) hd
  · rw [List.mem_singleton.1 hd]
    exact ⟨by simp [noStore], by simp [noStore], by simp [noStore]⟩

/-! A device's directives. -/
def ownN (l : List Dv) (dev n : List UInt8) : Bool := l.any fun d => d.2.2.2 == dev && d.1 == n
def mineS (l : List Dv) (dev : List UInt8) : List Dv := l.filter fun d => d.2.2.2 == dev || (d.2.2.2 == [] && !ownN l dev d.1)
/-- the document's way: is one of a device's directives of this name; is a directive a device's -/
def ownR (l : List Dv) (dev n : List UInt8) : Bool := l.any fun d => dev != [] && d.2.2.2 == dev && d.1 == n
def isMine (l : List Dv) (dev : List UInt8) (d : Dv) : Bool := (dev != [] && d.2.2.2 == dev) || (d.2.2.2 == [] && !ownR l dev d.1)
theorem isMine_eq (l : List Dv) (dev : List UInt8) (d : Dv) : isMine l dev d = (d.2.2.2 == dev || (d.2.2.2 == [] && !ownN l dev d.1)) := by
  unfold isMine ownR ownN
  by_cases h : dev = []
  · subst h
    cases d.2.2.2 == [] <;> simp
  · have h1 : (dev != []) = true := by simpa using h
    simp only [h1, Bool.true_and]
theorem mineR_eq (l : List Dv) (dev : List UInt8) : l.filter (isMine l dev) = mineS l dev := by
  unfold mineS
  congr 1
  funext d
  exact isMine_eq l dev d
theorem mineS_mem {l : List Dv} {dev : List UInt8} {d : Dv} (h : d ∈ mineS l dev) : d ∈ l := (List.mem_filter.1 h).1
theorem mineS_len (l : List Dv) (dev : List UInt8) : (mineS l dev).length ≤ l.length := List.length_filter_le _ _
theorem ownN_mine (l : List Dv) (dev n : List UInt8) : ownN (mineS l dev) dev n = ownN l dev n := by
  cases h : ownN l dev n
  · cases h2 : ownN (mineS l dev) dev n
    · rfl
    · obtain ⟨d, hd, h3⟩ := List.any_eq_true.1 h2
      have h4 : ownN l dev n = true := List.any_eq_true.2 ⟨d, mineS_mem hd, h3⟩
      rw [h] at h4; cases h4
  · obtain ⟨d, hd, h3⟩ := List.any_eq_true.1 h
    refine List.any_eq_true.2 ⟨d, List.mem_filter.2 ⟨hd, ?_⟩, h3⟩
    rw [Bool.and_eq_true] at h3
    rw [h3.1, Bool.true_or]
theorem mine_mine (l : List Dv) (dev : List UInt8) : mineS (mineS l dev) dev = mineS l dev := by
  refine List.filter_eq_self.2 fun d hd => ?_
  rw [ownN_mine]
  exact (List.mem_filter.1 hd).2
/-- what is for another device is none of a device's -/
theorem mine_other {m l : List Dv} {dev f : List UInt8} (hm : ∀ d ∈ m, d.2.2.2 = f) (h0 : f ≠ []) (h1 : f ≠ dev) : mineS (m ++ l) dev = mineS l dev := by
  have ho : ∀ n, ownN (m ++ l) dev n = ownN l dev n := fun n => by
    unfold ownN
    rw [List.any_append, List.any_eq_false.2, Bool.false_or]
    intro d hd
    rw [hm d hd, beq_eq_false_iff_ne.2 h1]
    simp
  unfold mineS
  rw [List.filter_append, List.filter_eq_nil_iff.2, List.nil_append]
  · congr 1
    funext d
    rw [ho]
  · intro d hd
    rw [hm d hd, beq_eq_false_iff_ne.2 h1, beq_eq_false_iff_ne.2 h0]
    simp
end Go.Proofs.YtfobjaccpnondaaGreatDoor

/- What a control is, plainly: the words between blanks, one or two deltas, the first directive of a name, four rules one behind the other; what is for another device changes nothing. Nothing of the program is read here. -/
namespace Go.Proofs.YtfobjaccpnondaaGreatDoor
open Go.Lib (pieceU openPiece closeSpans spansFromP goFieldsP spansOfP)

/-! Words between blanks. -/
/-- the pieces between blanks -/
def wordL : List UInt8 → List UInt8 → List (List UInt8)
  | cur, [] => if cur = [] then [] else [cur]
  | cur, c :: r => if blankB c then (if cur = [] then wordL [] r else cur :: wordL [] r) else wordL (cur ++ [c]) r
/-- the document's way -/
def hasW (w : List UInt8) : List UInt8 → List UInt8 → Bool
  | cur, [] => cur == w
  | cur, c :: r => if blankB c then (cur == w || hasW w [] r) else hasW w (cur ++ [c]) r
theorem hasW_eq {w : List UInt8} (hw : w ≠ []) : ∀ (r cur : List UInt8), hasW w cur r = (wordL cur r).any (· == w)
  | [], cur => by
    rw [hasW, wordL]
    split
    · rename_i h; subst h; simp [hw]
    · simp
  | c :: r, cur => by
    rw [hasW, wordL]
    split
    · split
      · rename_i h
        subst h
        rw [hasW_eq hw r [], beq_eq_false_iff_ne.2 (Ne.symm hw), Bool.false_or]
      · rw [hasW_eq hw r [], List.any_cons]
    · exact hasW_eq hw r _
def isBlk (x : Nat) : Bool := x == 32 || x == 9
theorem word_skip : ∀ (l r cur : List UInt8), (∀ c ∈ l, blankB c = false) → wordL cur (l ++ r) = wordL (cur ++ l) r
  | [], r, cur, _ => by simp
  | c :: t, r, cur, h => by
    rw [List.cons_append, wordL, if_neg (by rw [h c (by simp)]; simp), word_skip t r _ fun x hx => h x (by simp [hx])]
    simp
theorem blank_nat (c : UInt8) : isBlk c.toNat = blankB c := by
  unfold isBlk blankB blankI
  rw [Bool.eq_iff_iff, Bool.or_eq_true, beq_iff_eq, beq_iff_eq, decide_eq_true_iff]
  omega
theorem high_no {c : UInt8} (h : 128 ≤ c.toNat) : blankB c = false := by
  unfold blankB blankI
  rw [decide_eq_false_iff_not]
  omega
theorem one_byte (s : ByteArray) (k : Nat) (h : k < s.size) : (s.data.toList.drop k).take 1 = [s[k]] := by
  rw [drop_at h]; rfl
theorem dec_blank (s : ByteArray) (pos : Nat) (h : pos < s.size) :
    (isBlk (Utf8.decode s pos).1 = true ∧ (Utf8.decode s pos).2 = 1 ∧ blankB s[pos] = true) ∨
    (isBlk (Utf8.decode s pos).1 = false ∧ pos + (Utf8.decode s pos).2 ≤ s.size ∧ ∀ c ∈ (s.data.toList.drop pos).take (Utf8.decode s pos).2, blankB c = false) := by
  have h0 : s.data.toList.getD pos 0 = s[pos] := by
    rw [List.getD_eq_getElem?_getD]; simp [ByteArray.getElem_eq_getElem_data, h]
  rw [Lib.decode_N]
  have hn : s.data.toList.length = s.size := (size_len s).symm
  have hc := Lib.decodeN_conts (s.data.toList.length - pos) (s.data.toList.getD pos 0).toNat (s.data.toList.getD (pos + 1) 0).toNat (s.data.toList.getD (pos + 2) 0).toNat (s.data.toList.getD (pos + 3) 0).toNat
  have hs := Lib.decodeN_cases (s.data.toList.length - pos) (s.data.toList.getD pos 0).toNat (s.data.toList.getD (pos + 1) 0).toNat (s.data.toList.getD (pos + 2) 0).toNat (s.data.toList.getD (pos + 3) 0).toNat
  have hw := Lib.decodeN_le_n' (s.data.toList.length - pos) (s.data.toList.getD pos 0).toNat (s.data.toList.getD (pos + 1) 0).toNat (s.data.toList.getD (pos + 2) 0).toNat (s.data.toList.getD (pos + 3) 0).toNat (by omega)
  by_cases ha : (s.data.toList.getD pos 0).toNat < 128
  · rw [Lib.decodeN_ascii _ _ _ _ _ ha]
    simp only
    have ht : (s.data.toList.drop pos).take 1 = [s[pos]] := one_byte s pos h
    rw [ht, h0, blank_nat]
    cases hb : blankB s[pos]
    · exact .inr ⟨rfl, by omega, fun c hc => by rw [List.mem_singleton.1 hc]; exact hb⟩
    · exact .inl (by simp)
  · refine .inr ⟨?_, by omega, fun c hcm => ?_⟩
    · have hr : 128 ≤ (Lib.decodeN (s.data.toList.length - pos) (s.data.toList.getD pos 0).toNat (s.data.toList.getD (pos + 1) 0).toNat (s.data.toList.getD (pos + 2) 0).toNat (s.data.toList.getD (pos + 3) 0).toNat).1 := by
        rcases hs with ⟨c, _⟩ | ⟨_, _, _, c, e⟩ | ⟨_, _, _, _, c, e⟩ | ⟨c, _⟩ | e
        · omega
        · rw [e]; exact c
        · rw [e]; simp only; omega
        · omega
        · rw [e]; simp only; omega
      unfold isBlk
      rw [Bool.or_eq_false_iff, beq_eq_false_iff_ne, beq_eq_false_iff_ne]
      omega
    · obtain ⟨j, hj, he⟩ := List.getElem_of_mem hcm
      have hj2 := hj
      rw [List.length_take, List.length_drop] at hj2
      have he2 : s.data.toList.getD (pos + j) 0 = c := by
        rw [← he, List.getElem_take, List.getElem_drop, List.getD_eq_getElem?_getD, List.getElem?_eq_getElem (by omega)]
        rfl
      refine high_no ?_
      rw [← he2]
      obtain ⟨c2, c3, c4, c5⟩ := hc
      rcases (by omega : j = 0 ∨ j = 1 ∨ j = 2 ∨ j = 3) with rfl | rfl | rfl | rfl
      · rw [Nat.add_zero]; omega
      · have := (c2 (by omega)).1; omega
      · have := (c3 (by omega)).1; omega
      · have := (c4 (by omega)).1; omega
theorem word_blank {c : UInt8} (h : blankB c = true) (cur r : List UInt8) : wordL cur (c :: r) = (if cur = [] then [] else [cur]) ++ wordL [] r := by
  rw [wordL, if_pos h]
  split <;> rfl
/-- at the text's end: what is open is the last piece -/
theorem word_end (s : ByteArray) {pos : Nat} (hp : pos = s.size) (st : Option Nat) (acc : List (Nat × Nat)) (hst : ∀ a, st = some a → a < pos) :
    acc.map (fun p => pieceU s.data.toList p.1 p.2) ++ wordL (openPiece s.data.toList st pos) (s.data.toList.drop pos) = (closeSpans s (acc, st)).map fun p => pieceU s.data.toList p.1 p.2 := by
  subst hp
  rw [drop_nil (Nat.le_refl _)]
  rcases st with _ | a
  · simp [closeSpans, openPiece, wordL]
  · have hne := Lib.pieceU_ne s.data.toList a s.size (hst a rfl) (Nat.le_of_eq (Lib.size_eq s))
    simp [closeSpans, openPiece, wordL, hne]
/-- the library's spans, from a place on, are the pieces of what is left -/
theorem spans_word (s : ByteArray) (f : Nat) : ∀ (pos : Nat) (st : Option Nat) (acc : List (Nat × Nat)), pos ≤ s.size → s.size ≤ pos + f → (∀ a, st = some a → a < pos) →
    acc.map (fun p => pieceU s.data.toList p.1 p.2) ++ wordL (openPiece s.data.toList st pos) (s.data.toList.drop pos) = (closeSpans s (spansFromP isBlk s f pos st acc)).map fun p => pieceU s.data.toList p.1 p.2 := by
  induction f with
  | zero => exact fun pos st acc h1 h2 hst => word_end s (by omega) st acc hst
  | succ f ih =>
    intro pos st acc h1 h2 hst
    rcases Nat.lt_or_ge pos s.size with hlt | hge
    · have hpos := Lib.width_pos s pos
      rcases dec_blank s pos hlt with ⟨hb, hw, hc⟩ | ⟨hb, hw, hc⟩
      · rw [drop_at hlt, word_blank hc]
        rcases st with _ | a
        · have h := ih (pos + 1) none acc hlt (by omega) (fun a e => by cases e)
          simpa [spansFromP, hlt, hb, hw, openPiece] using h
        · have hne := Lib.pieceU_ne s.data.toList a pos (hst a rfl) (Nat.le_trans h1 (Nat.le_of_eq (Lib.size_eq s)))
          have h := ih (pos + 1) none (acc ++ [(a, pos)]) hlt (by omega) (fun a e => by cases e)
          simpa [spansFromP, hlt, hb, hw, openPiece, hne] using h
      · rw [← List.take_append_drop (Utf8.decode s pos).2 (s.data.toList.drop pos), word_skip _ _ _ hc, List.drop_drop]
        rcases st with _ | a
        · have h := ih (pos + (Utf8.decode s pos).2) (some pos) acc hw (by omega) (fun a e => by cases e; omega)
          simpa [spansFromP, hlt, hb, openPiece, pieceU] using h
        · have ha := hst a rfl
          have h := ih (pos + (Utf8.decode s pos).2) (some a) acc hw (by omega) (fun b e => by cases e; omega)
          have hg : openPiece s.data.toList (some a) pos ++ (s.data.toList.drop pos).take (Utf8.decode s pos).2 = openPiece s.data.toList (some a) (pos + (Utf8.decode s pos).2) := Lib.pieceU_grow _ _ _ _ (Nat.le_of_lt ha)
          rw [hg]
          simpa [spansFromP, hlt, hb] using h
    · rw [Lib.spansFromP_end _ s _ _ _ _ (by omega)]
      exact word_end s (by omega) st acc hst
theorem words_eq (s : ByteArray) : (goFieldsP isBlk s).map (·.data.toList) = wordL [] s.data.toList := by
  have h := spans_word s s.size 0 none [] (Nat.zero_le _) (by omega) (fun a h => by cases h)
  simp only [List.map_nil, List.nil_append, openPiece, List.drop_zero] at h
  unfold goFieldsP spansOfP
  rw [h, List.map_map]
  congr 1
  funext p
  simp [pieceU]
theorem contains_words (s : ByteArray) {w : List UInt8} (hw : w ≠ []) : Lib.containsS (goFieldsP isBlk s) (bs w) = hasW w [] s.data.toList := by
  rw [hasW_eq hw, ← words_eq, List.any_map, Bool.eq_iff_iff, Lib.containsS_iff, List.any_eq_true]
  constructor
  · intro h; exact ⟨bs w, h, by simp⟩
  · rintro ⟨x, hx, h⟩
    have : x = bs w := bs_of (by simpa using h)
    rw [← this]; exact hx

/-! One or two deltas. -/
def agesP (s : List UInt8) : Int × Int :=
  if isDel (Lib.cut s [43]).1 then
    if (Lib.cut s [43]).2.2 then
      if isDel (Lib.cut s [43]).2.1 then (delI (Lib.cut s [43]).1, delI (Lib.cut s [43]).2.1) else (0, 0)
    else (delI (Lib.cut s [43]).1, 0)
  else (0, 0)
theorem cutX_of {x : UInt8} {a r : List UInt8} (h : ∀ c ∈ a, c ≠ x) : Lib.cut (a ++ x :: r) [x] = (a, r, true) := by
  rw [cut_hit (i := a.length) (by simp) ((occ_one _ _ _).2 (by simp)) fun j hj => ?_]
  · simp
  · cases ho : Lib.occAt (a ++ x :: r) [x] j
    · rfl
    · have h1 := (occ_one _ _ _).1 ho
      rw [List.getElem?_append_left hj, List.getElem?_eq_getElem hj] at h1
      exact absurd (Option.some.inj h1) (h _ (List.getElem_mem hj))
theorem cutX_none {x : UInt8} {a : List UInt8} (h : ∀ c ∈ a, c ≠ x) : Lib.cut a [x] = (a, [], false) := by
  refine cut_miss fun j hj => ?_
  cases ho : Lib.occAt a [x] j
  · rfl
  · have h1 := (occ_one _ _ _).1 ho
    rcases Nat.lt_or_ge j a.length with h2 | h2
    · rw [List.getElem?_eq_getElem h2] at h1
      exact absurd (Option.some.inj h1) (h _ (List.getElem_mem h2))
    · rw [List.getElem?_eq_none h2] at h1; cases h1
theorem cutX_cases (x : UInt8) (e : List UInt8) : ((∀ c ∈ e, c ≠ x) ∧ Lib.cut e [x] = (e, [], false)) ∨ ∃ a r, e = a ++ x :: r ∧ (∀ c ∈ a, c ≠ x) ∧ Lib.cut e [x] = (a, r, true) := by
  have key : ∀ e : List UInt8, (∀ c ∈ e, c ≠ x) ∨ ∃ a r, e = a ++ x :: r ∧ (∀ c ∈ a, c ≠ x) := by
    intro e
    induction e with
    | nil => exact .inl fun c hc => by cases hc
    | cons y t ih =>
      by_cases hx : y = x
      · exact .inr ⟨[], t, by rw [hx]; rfl, fun c hc => by cases hc⟩
      · rcases ih with h | ⟨a, r, rfl, h⟩
        · exact .inl fun c hc => (List.mem_cons.1 hc).elim (fun e1 => by rw [e1]; exact hx) (h c)
        · exact .inr ⟨y :: a, r, rfl, fun c hc => (List.mem_cons.1 hc).elim (fun e1 => by rw [e1]; exact hx) (h c)⟩
  rcases key e with h | ⟨a, r, rfl, h⟩
  · exact .inl ⟨h, cutX_none h⟩
  · exact .inr ⟨a, r, rfl, h, cutX_of h⟩
theorem del_no43 {l : List UInt8} (h : isDel l = true) : ∀ c ∈ l, c ≠ 43 := by
  rintro c hc rfl
  unfold isDel at h
  rw [Bool.and_eq_true, List.all_eq_true] at h
  have := h.2 43 hc
  revert this; decide
/-- both sides of the byte 43 at place k are deltas -/
def hit43 (s : List UInt8) (k : Nat) : Bool := isDel (s.take k) && isDel (s.drop (k + 1))
theorem ages_whole {s : List UInt8} (h : isDel s = true) : agesP s = (delI s, 0) := by
  unfold agesP
  rw [cutX_none (del_no43 h)]
  simp [h]
theorem ages_hit {s : List UInt8} {k : Nat} (hk : k < s.length) (hc : s[k] = 43) (h : hit43 s k = true) : agesP s = (delI (s.take k), delI (s.drop (k + 1))) := by
  unfold hit43 at h
  rw [Bool.and_eq_true] at h
  have e : s = s.take k ++ 43 :: s.drop (k + 1) := by rw [← hc, ← List.drop_eq_getElem_cons hk, List.take_append_drop]
  have hcut : Lib.cut s [43] = (s.take k, s.drop (k + 1), true) := by
    have h2 := cutX_of (r := s.drop (k + 1)) (del_no43 h.1)
    rw [← e] at h2; exact h2
  unfold agesP
  rw [hcut]
  simp [h.1, h.2]
theorem ages_none {s : List UInt8} (h0 : isDel s = false) (h : ∀ k (hk : k < s.length), s[k] = 43 → hit43 s k = false) : agesP s = (0, 0) := by
  rcases cutX_cases 43 s with ⟨_, e⟩ | ⟨a, r, rfl, ha, e⟩
  · unfold agesP; rw [e]; simp [h0]
  · have h1 := h a.length (by simp) (by simp)
    unfold hit43 at h1
    rw [List.take_left, show (a ++ 43 :: r).drop (a.length + 1) = r from by simp] at h1
    unfold agesP; rw [e]
    simp only [if_true]
    cases hd : isDel a
    · simp
    · rw [hd, Bool.true_and] at h1
      simp [h1]

/-! A control. -/
abbrev Ctl := Bool × Bool × Bool × Bool × Int × Int
def ctl0 : Ctl := (false, false, false, false, 0, 0)
def nosN : List UInt8 := [110, 111, 45, 115, 116, 111, 114, 101]
def remN : List UInt8 := [110, 111, 45, 115, 116, 111, 114, 101, 45, 114, 101, 109, 111, 116, 101]
def conN : List UInt8 := [99, 111, 110, 116, 101, 110, 116]
def maxN : List UInt8 := [109, 97, 120, 45, 97, 103, 101]
def esiN : List UInt8 := [69, 83, 73, 47, 49, 46, 48]
def esiB (v : List UInt8) : Bool := hasW esiN [] v
/-- the value of the first directive of a name -/
def firstS (l : List Dv) (n : List UInt8) : List UInt8 × Bool := match l.find? (fun d => d.1 == n) with | some d => (d.2.1, true) | none => ([], false)
def ctlOf (m : List Dv) : Ctl := ((firstS m nosN).2, (firstS m remN).2, esiB (firstS m conN).1, (firstS m maxN).2, (agesP (firstS m maxN).1).1, (agesP (firstS m maxN).1).2)
def ofC (L : List (List UInt8)) (dev : List UInt8) : Ctl := ctlOf (mineS (listS L) dev)
/-- the four rules: a name, and what its value makes of a control -/
def rulesL : List (List UInt8 × (Ctl → List UInt8 → Ctl)) :=
  [(nosN, fun c _ => (true, c.2)), (remN, fun c _ => (c.1, true, c.2.2)), (conN, fun c v => (c.1, c.2.1, esiB v, c.2.2.2)), (maxN, fun c v => (c.1, c.2.1, c.2.2.1, true, (agesP v).1, (agesP v).2))]
def ruled (m : List Dv) (c : Ctl) (r : List UInt8 × (Ctl → List UInt8 → Ctl)) : Ctl := match findD m r.1 with | some d => r.2 c d.2.1 | none => c
def runR (m : List Dv) (k : Nat) : Ctl := (rulesL.take k).foldl (ruled m) ctl0
theorem runR_step (m : List Dv) (k : Nat) (h : k < rulesL.length) : runR m (k + 1) = ruled m (runR m k) rulesL[k] := by
  unfold runR
  rw [List.take_succ_eq_append_getElem h, List.foldl_append]
  rfl
theorem find_low {m : List Dv} {n : List UInt8} (hm : ∀ d ∈ m, lower d.1 = d.1) (hn : lower n = n) : findD m n = m.find? fun d => d.1 == n := by
  unfold findD
  rw [hn]
  induction m with
  | nil => rfl
  | cons d r ih =>
    rw [List.find?_cons, List.find?_cons, hm d (by simp), ih fun x hx => hm x (by simp [hx])]
theorem run_all {m : List Dv} (hm : ∀ d ∈ m, lower d.1 = d.1) : runR m 4 = ctlOf m := by
  have h1 := find_low (n := nosN) hm (by decide)
  have h2 := find_low (n := remN) hm (by decide)
  have h3 := find_low (n := conN) hm (by decide)
  have h4 := find_low (n := maxN) hm (by decide)
  have e0 : esiB [] = false := by decide
  have e1 : agesP [] = (0, 0) := by
    unfold agesP
    rw [cutX_none (fun c hc => by cases hc)]
    rfl
  have e : runR m 4 = ruled m (ruled m (ruled m (ruled m ctl0 (nosN, fun c _ => (true, c.2))) (remN, fun c _ => (c.1, true, c.2.2))) (conN, fun c v => (c.1, c.2.1, esiB v, c.2.2.2))) (maxN, fun c v => (c.1, c.2.1, c.2.2.1, true, (agesP v).1, (agesP v).2)) := rfl
  rw [e]
  unfold ruled ctlOf firstS
  simp only [h1, h2, h3, h4]
  cases m.find? (fun d => d.1 == nosN) <;> cases m.find? (fun d => d.1 == remN) <;> cases m.find? (fun d => d.1 == conN) <;> cases m.find? (fun d => d.1 == maxN) <;> simp [ctl0, e0, e1]
theorem first_any (l : List Dv) (n : List UInt8) : (firstS l n).2 = l.any fun d => d.1 == n := by
  unfold firstS
  induction l with
  | nil => rfl
  | cons d r ih =>
    rw [List.find?_cons, List.any_cons]
    cases h : d.1 == n
    · rw [Bool.false_or]; exact ih
    · simp
theorem first_len {l : List Dv} {n : List UInt8} {N : Nat} (h : ∀ d ∈ l, d.2.1.length ≤ N) : (firstS l n).1.length ≤ N := by
  unfold firstS
  split
  · rename_i d hd; exact h d (List.mem_of_find?_eq_some hd)
  · simp

/-! The stage's theorem. -/
/-- max-age=1, and a quotation mark: what can't be read -/
def tornV : List UInt8 := [109, 97, 120, 45, 97, 103, 101, 61, 49, 44, 32, 34]
theorem torn_is : valD tornV = [noStore] := by decide +kernel
theorem torn_no (L : List (List UInt8)) (dev : List UInt8) : (ofC (L ++ [tornV]) dev).1 = true := by
  have e : listS (L ++ [tornV]) = listS L ++ [noStore] := by unfold listS; rw [List.flatMap_append]; simp [torn_is]
  show (firstS (mineS (listS (L ++ [tornV])) dev) nosN).2 = true
  rw [e, first_any]
  generalize listS L = l
  cases ho : ownN (l ++ [noStore]) dev nosN
  · refine List.any_eq_true.2 ⟨noStore, List.mem_filter.2 ⟨by simp, ?_⟩, by decide⟩
    have hq : ownN (l ++ [noStore]) dev noStore.1 = false := ho
    rw [hq]
    simp [noStore]
  · obtain ⟨d, hd, h⟩ := List.any_eq_true.1 ho
    rw [Bool.and_eq_true] at h
    exact List.any_eq_true.2 ⟨d, List.mem_filter.2 ⟨hd, by rw [h.1, Bool.true_or]⟩, h.2⟩
/-- one of the first k is a no-store for the device -/
def ownTo (m : List Dv) (dev : List UInt8) (k : Nat) : Bool := (m.take k).any fun d => d.1 == nosN && d.2.2.2 == dev
theorem ownTo_step (m : List Dv) (dev : List UInt8) (k : Nat) (h : k < m.length) : ownTo m dev (k + 1) = (ownTo m dev k || (m[k].1 == nosN && m[k].2.2.2 == dev)) := by
  unfold ownTo
  rw [List.take_succ_eq_append_getElem h, List.any_append]
  simp
theorem own_no {m : List Dv} {dev : List UInt8} {k : Nat} (h : ownTo m dev k = true) : (ctlOf m).1 = true := by
  obtain ⟨d, hd, h1⟩ := List.any_eq_true.1 h
  rw [Bool.and_eq_true] at h1
  show (firstS m nosN).2 = true
  rw [first_any]
  exact List.any_eq_true.2 ⟨d, List.mem_of_mem_take hd, h1.1⟩
theorem trim_ends {x : List UInt8} (h1 : ∀ c r, x = c :: r → blankB c = false) (h2 : ∀ r c, x = r ++ [c] → blankB c = false) : trim x = x := by
  show rtrim (ltrim x) = x
  rw [ltrim_idem_of h1]
  exact rtrim_idem_of h2
theorem tok_all {f : List UInt8} (h : token f = true) : f ≠ [] ∧ (∀ c ∈ f, blankB c = false ∧ ¬ (c.toNat : Int) = 34 ∧ c ≠ 44 ∧ c ≠ 59) := by
  unfold token at h
  simp only [Bool.and_eq_true, List.all_eq_true] at h
  refine ⟨by rintro rfl; simp at h, fun c hc => ⟨(tok_not (h.2 c hc)).1, (tok_not (h.2 c hc)).2, ?_, ?_⟩⟩
  · rintro rfl; have := h.2 44 hc; revert this; decide
  · rintro rfl; have := h.2 59 hc; revert this; decide
/-- an element of two parts, the second one a token -/
structure Head (a : List UInt8) : Prop where
  blank : trim a = a
  ne : a.isEmpty = false
  first : ∀ c r, a = c :: r → blankB c = false
  at44 : ∀ r cur A, cutAt 44 (a ++ r) false false cur A = cutAt 44 r false false (cur ++ a) A
  at59 : ∀ r cur A, cutAt 59 (a ++ r) false false cur A = cutAt 59 r false false (cur ++ a) A
theorem head_elem {a f : List UInt8} (ha : Head a) (hf : token f = true) : elemD (a ++ 59 :: f) = (sayD a).toList.map (forD f) := by
  obtain ⟨hne, hall⟩ := tok_all hf
  have hp : addP [] a = [a] := by unfold addP; rw [ha.blank, ha.ne]; rfl
  have hp2 : addP [a] f = [a, f] := by
    unfold addP
    rw [trim_token hf, if_neg (by cases f with | nil => exact absurd rfl hne | cons x y => simp)]
    rfl
  have hc : cutAt 59 (a ++ 59 :: f) false false [] [] = some [a, f] := by
    rw [ha.at59, List.nil_append, cutAt, if_pos ⟨rfl, rfl⟩, hp, cut_plain f [] [a] fun c hc => ⟨(hall c hc).2.1, (hall c hc).2.2.2⟩, List.nil_append, hp2]
  have hb : badSep 59 = false := by decide
  have hE : splitE (a ++ 59 :: f) 59 = 0 := by simp [splitE, hb, hc]
  have hL : splitL (a ++ 59 :: f) 59 = [a, f] := by simp [splitL, hb, hc]
  unfold elemD
  rw [if_pos hE, hL]
  simp only [hf, if_true]
theorem head_trim {a f : List UInt8} (ha : Head a) (hf : token f = true) : addP [] (a ++ 59 :: f) = [a ++ 59 :: f] ∧ ∀ A, addP A (32 :: (a ++ 59 :: f)) = A ++ [a ++ 59 :: f] := by
  obtain ⟨hne, hall⟩ := tok_all hf
  have h1 : trim (a ++ 59 :: f) = a ++ 59 :: f := by
    refine trim_ends (fun c r e => ?_) fun r c e => ?_
    · cases a with
      | nil => have := ha.ne; simp at this
      | cons x y => exact (List.cons.inj e).1 ▸ ha.first x y rfl
    · obtain ⟨t, z, hz⟩ : ∃ t z, f = t ++ [z] := ⟨f.dropLast, f.getLast hne, (List.dropLast_concat_getLast hne).symm⟩
      have e2 : (a ++ 59 :: t) ++ [z] = r ++ [c] := by rw [← e, hz]; simp
      have e3 : [z] = [c] := (List.append_inj' e2 rfl).2
      rw [← (List.cons.inj e3).1]
      exact (hall z (by rw [hz]; simp)).1
  have h2 : trim (32 :: (a ++ 59 :: f)) = a ++ 59 :: f := by
    have h3 : ltrim (32 :: (a ++ 59 :: f)) = ltrim (a ++ 59 :: f) := ltrim_gap (g := [32]) (fun c hc => by rw [List.mem_singleton.1 hc]; decide) _
    show rtrim (ltrim (32 :: (a ++ 59 :: f))) = _
    rw [h3]; exact h1
  have h0 : (a ++ 59 :: f).isEmpty = false := by simp
  constructor
  · unfold addP; rw [h1, h0]; rfl
  · intro A; unfold addP; rw [h2, h0]; rfl
def h1N : List UInt8 := nosN
def h2N : List UInt8 := [99, 111, 110, 116, 101, 110, 116, 61, 34, 69, 83, 73, 47, 49, 46, 48, 34]
def h3N : List UInt8 := [109, 97, 120, 45, 97, 103, 101, 61, 49]
theorem head1 : Head h1N := ⟨by decide +kernel, by decide, fun c r e => by cases e; decide, fun r cur A => by simp [h1N, nosN, cutAt, qnext], fun r cur A => by simp [h1N, nosN, cutAt, qnext]⟩
theorem head2 : Head h2N := ⟨by decide +kernel, by decide, fun c r e => by cases e; decide, fun r cur A => by simp [h2N, cutAt, qnext], fun r cur A => by simp [h2N, cutAt, qnext]⟩
theorem head3 : Head h3N := ⟨by decide +kernel, by decide, fun c r e => by cases e; decide, fun r cur A => by simp [h3N, cutAt, qnext], fun r cur A => by simp [h3N, cutAt, qnext]⟩
/-- three elements for one device -/
def moreV (f : List UInt8) : List UInt8 := h1N ++ (59 :: f ++ 44 :: 32 :: (h2N ++ (59 :: f ++ 44 :: 32 :: (h3N ++ (59 :: f)))))
theorem more_split {f : List UInt8} (hf : token f = true) : splitE (moreV f) 44 = 0 ∧ splitL (moreV f) 44 = [h1N ++ 59 :: f, h2N ++ 59 :: f, h3N ++ 59 :: f] := by
  obtain ⟨hne, hall⟩ := tok_all hf
  have hpl : ∀ c ∈ 59 :: f, ¬ (c.toNat : Int) = 34 ∧ c ≠ (44 : UInt8) := by
    intro c hc
    rcases List.mem_cons.1 hc with rfl | hc
    · exact ⟨by decide, by decide⟩
    · exact ⟨(hall c hc).2.1, (hall c hc).2.2.1⟩
  have hc : cutAt 44 (moreV f) false false [] [] = some [h1N ++ 59 :: f, h2N ++ 59 :: f, h3N ++ 59 :: f] := by
    have s32 : ∀ (r : List UInt8) (A : List (List UInt8)), cutAt 44 (32 :: r) false false [] A = cutAt 44 r false false [32] A := fun r A => by
      rw [cutAt, if_neg (by decide), qn_out false (by decide)]; rfl
    unfold moreV
    rw [head1.at44, cut_plain2 _ _ _ _ hpl, cut_comma, List.nil_append, (head_trim head1 hf).1, s32, head2.at44, cut_plain2 _ _ _ _ hpl, cut_comma,
      show [32] ++ h2N ++ 59 :: f = 32 :: (h2N ++ 59 :: f) from rfl, (head_trim head2 hf).2, s32, head3.at44, cut_plain _ _ _ hpl, show [32] ++ h3N ++ 59 :: f = 32 :: (h3N ++ 59 :: f) from rfl, (head_trim head3 hf).2]
    rfl
  have hb : badSep 44 = false := by decide
  exact ⟨by simp [splitE, hb, hc], by simp [splitL, hb, hc]⟩
theorem more_for {f : List UInt8} (hf : token f = true) : ∀ d ∈ valD (moreV f), d.2.2.2 = f := by
  obtain ⟨hE, hL⟩ := more_split hf
  have key : ∀ {a : List UInt8} {d : Dv}, Head a → d ∈ elemD (a ++ 59 :: f) → d.2.2.2 = f := fun {a d} ha h => by
    rw [head_elem ha hf] at h
    obtain ⟨d', _, rfl⟩ := List.mem_map.1 h
    rfl
  intro d hd
  unfold valD at hd
  rw [if_pos hE, hL] at hd
  obtain ⟨e, he, hd⟩ := List.mem_flatMap.1 hd
  simp only [List.mem_cons, List.not_mem_nil, or_false] at he
  rcases he with rfl | rfl | rfl
  · exact key head1 hd
  · exact key head2 hd
  · exact key head3 hd
theorem more_same {f dev : List UInt8} (hf : token f = true) (hne : f ≠ dev) (L : List (List UInt8)) : ofC (moreV f :: L) dev = ofC L dev := by
  unfold ofC listS
  rw [List.flatMap_cons, mine_other (more_for hf) (tok_all hf).1 hne]
theorem more_len (f : List UInt8) : (moreV f).length = 50 + 3 * f.length - 9 := by
  unfold moreV h1N h2N h3N nosN
  simp only [List.length_append, List.length_cons, List.length_nil]
  omega
end Go.Proofs.YtfobjaccpnondaaGreatDoor

/- Plain numbers: the calendar, as the date layer has it. Nothing of the program is read here. -/
namespace Go.Proofs.YtfobjaccpnondaaGreatDoor
/-- how many years from 1 up to y, without it, have a Feb 29 -/
def leapsI (y : Int) : Int := (y - 1) / 4 - (y - 1) / 100 + (y - 1) / 400
/-- 1 if y has a Feb 29, else 0 -/
def lpI (y : Int) : Int := leapsI (y + 1) - leapsI y
/-- days from Jan 1, 1970 to that of y -/
def aheadI (y : Int) : Int := 365 * (y - 1970) + leapsI y - 477
/-- days of a month, from 0 on -/
def domI (y m : Int) : Int := if m = 1 then 28 + lpI y else if m = 3 ∨ m = 5 ∨ m = 8 ∨ m = 10 then 30 else 31
def cum0 (m : Int) : Int := if m ≤ 0 then 0 else if m = 1 then 31 else if m = 2 then 59 else if m = 3 then 90 else if m = 4 then 120 else if m = 5 then 151 else if m = 6 then 181 else if m = 7 then 212 else if m = 8 then 243 else if m = 9 then 273 else if m = 10 then 304 else if m = 11 then 334 else 365
/-- days of the months ahead of m -/
def cumI (y m : Int) : Int := cum0 m + if 2 ≤ m then lpI y else 0
theorem leaps_1970 : leapsI 1970 = 477 := by decide
theorem lp_bd (y : Int) : 0 ≤ lpI y ∧ lpI y ≤ 1 := by unfold lpI leapsI; omega
theorem ahead_succ (y : Int) : aheadI (y + 1) = aheadI y + 365 + lpI y := by unfold aheadI lpI; omega
theorem ahead_1970 : aheadI 1970 = 0 := by decide
theorem ahead_10000 : aheadI 10000 = 2932897 := by decide
theorem ahead_lo (y : Int) (h : 1970 ≤ y) : 365 * (y - 1970) ≤ aheadI y := by unfold aheadI leapsI; omega
theorem ahead_hi (y : Int) (_h : 1970 ≤ y) : aheadI y ≤ 366 * (y - 1970) := by unfold aheadI leapsI; omega
theorem ahead_mono {a b : Int} (h : a < b) : aheadI (a + 1) ≤ aheadI b := by unfold aheadI leapsI; omega
theorem dom_bd (y m : Int) : 28 ≤ domI y m ∧ domI y m ≤ 31 := by
  have := lp_bd y
  unfold domI; split
  · omega
  · split <;> omega
theorem month_cases {m : Int} (h0 : 0 ≤ m) (h1 : m ≤ 11) : m = 0 ∨ m = 1 ∨ m = 2 ∨ m = 3 ∨ m = 4 ∨ m = 5 ∨ m = 6 ∨ m = 7 ∨ m = 8 ∨ m = 9 ∨ m = 10 ∨ m = 11 := by omega
theorem cum_succ (y : Int) {m : Int} (h0 : 0 ≤ m) (h1 : m ≤ 11) : cumI y (m + 1) = cumI y m + domI y m := by
  rcases month_cases h0 h1 with rfl | rfl | rfl | rfl | rfl | rfl | rfl | rfl | rfl | rfl | rfl | rfl <;> simp [cumI, cum0, domI] <;> omega
theorem cum_zero (y : Int) : cumI y 0 = 0 := by simp [cumI, cum0]
theorem cum_12 (y : Int) : cumI y 12 = 365 + lpI y := by simp [cumI, cum0]
theorem cum_bd (y : Int) {m : Int} (h0 : 0 ≤ m) (h1 : m ≤ 12) : 0 ≤ cumI y m ∧ cumI y m ≤ 365 + lpI y := by
  have := lp_bd y
  rcases Int.lt_or_le m 12 with h | h
  · rcases month_cases h0 (by omega) with rfl | rfl | rfl | rfl | rfl | rfl | rfl | rfl | rfl | rfl | rfl | rfl <;> simp [cumI, cum0] <;> omega
  · obtain rfl : m = 12 := by omega
    rw [cum_12]; omega
theorem cum_mono (y : Int) {m k : Int} (h0 : 0 ≤ m) (hmk : m < k) (h1 : k ≤ 12) : cumI y (m + 1) ≤ cumI y k := by
  have h : ∀ n : Nat, m + 1 + n ≤ 12 → cumI y (m + 1) ≤ cumI y (m + 1 + n) := by
    intro n
    induction n with
    | zero => intro _; simp
    | succ n ih =>
      intro hn
      have h2 := ih (by omega)
      have h3 := cum_succ y (m := m + 1 + n) (by omega) (by omega)
      have h4 := dom_bd y (m + 1 + n)
      rw [show m + 1 + ((n + 1 : Nat) : Int) = m + 1 + n + 1 from by omega]
      omega
  have := h (k - (m + 1)).toNat (by omega)
  rwa [show m + 1 + ((k - (m + 1)).toNat : Int) = k from by omega] at this

/-- day n (0: Jan 1, 1970) is day d of month m (from 0 on) of year y -/
def IsD (n y m d : Int) : Prop := 1970 ≤ y ∧ y ≤ 9999 ∧ 0 ≤ m ∧ m ≤ 11 ∧ 1 ≤ d ∧ d ≤ domI y m ∧ aheadI y + cumI y m + d - 1 = n
theorem IsD.in_year {n y m d : Int} (h : IsD n y m d) : aheadI y ≤ n ∧ n < aheadI (y + 1) := by
  obtain ⟨h1, h2, h3, h4, h5, h6, h7⟩ := h
  have := cum_succ y h3 h4
  have := cum_bd y (m := m + 1) (by omega) (by omega)
  have := cum_bd y h3 (by omega)
  rw [ahead_succ]; omega
theorem IsD.in_month {n y m d : Int} (h : IsD n y m d) : cumI y m ≤ n - aheadI y ∧ n - aheadI y < cumI y (m + 1) := by
  obtain ⟨h1, h2, h3, h4, h5, h6, h7⟩ := h
  have := cum_succ y h3 h4
  omega
theorem IsD.bd {n y m d : Int} (h : IsD n y m d) : 0 ≤ n ∧ n ≤ 2932896 := by
  obtain ⟨h0, h1⟩ := h.in_year
  have := ahead_lo y h.1
  have h2 : aheadI (y + 1) ≤ aheadI 10000 := by
    by_cases e : y = 9999
    · subst e; decide
    · have h3 : aheadI (y + 1) ≤ aheadI 9999 := ahead_mono (by have := h.2.1; omega)
      have : aheadI 9999 ≤ aheadI 10000 := by decide
      omega
  rw [ahead_10000] at h2
  have := h.1
  omega
theorem IsD.uniq {n y m d y' m' d' : Int} (h : IsD n y m d) (k : IsD n y' m' d') : y = y' ∧ m = m' ∧ d = d' := by
  obtain ⟨a0, a1⟩ := h.in_year
  obtain ⟨b0, b1⟩ := k.in_year
  have hy : y = y' := by
    rcases Int.lt_trichotomy y y' with g | g | g
    · have := ahead_mono g; omega
    · exact g
    · have := ahead_mono g; omega
  subst hy
  obtain ⟨c0, c1⟩ := h.in_month
  obtain ⟨d0, d1⟩ := k.in_month
  have hm : m = m' := by
    rcases Int.lt_trichotomy m m' with g | g | g
    · have := cum_mono y h.2.2.1 g (by have := k.2.2.2.1; omega); omega
    · exact g
    · have := cum_mono y k.2.2.1 g (by have := h.2.2.2.1; omega); omega
  subst hm
  refine ⟨rfl, rfl, ?_⟩
  have h1 := h.2.2.2.2.2.2
  have h2 := k.2.2.2.2.2.2
  omega
theorem year_of (n : Int) (h0 : 0 ≤ n) (h1 : n ≤ 2932896) : ∃ y, 1970 ≤ y ∧ y ≤ 9999 ∧ aheadI y ≤ n ∧ n < aheadI (y + 1) := by
  suffices h : ∀ k : Nat, ∀ y : Int, 1970 ≤ y → y + k = 10000 → aheadI y ≤ n → ∃ y, 1970 ≤ y ∧ y ≤ 9999 ∧ aheadI y ≤ n ∧ n < aheadI (y + 1) from
    h 8030 1970 (by omega) (by omega) (by rw [ahead_1970]; exact h0)
  intro k
  induction k with
  | zero => intro y hy hk ha; obtain rfl : y = 10000 := by omega
            rw [ahead_10000] at ha; omega
  | succ k ih =>
    intro y hy hk ha
    rcases Int.lt_or_le n (aheadI (y + 1)) with h | h
    · exact ⟨y, hy, by omega, ha, h⟩
    · exact ih (y + 1) (by omega) (by omega) h
theorem isD_ex (n : Int) (h0 : 0 ≤ n) (h1 : n ≤ 2932896) : ∃ y m d, IsD n y m d := by
  obtain ⟨y, hy0, hy1, ha0, ha1⟩ := year_of n h0 h1
  suffices h : ∀ k : Nat, ∀ m : Int, 0 ≤ m → m + k = 12 → cumI y m ≤ n - aheadI y → ∃ m, 0 ≤ m ∧ m ≤ 11 ∧ cumI y m ≤ n - aheadI y ∧ n - aheadI y < cumI y (m + 1) by
    obtain ⟨m, m0, m1, c0, c1⟩ := h 12 0 (by omega) (by omega) (by rw [cum_zero]; omega)
    have := cum_succ y m0 m1
    exact ⟨y, m, n - aheadI y - cumI y m + 1, hy0, hy1, m0, m1, by omega, by omega, by omega⟩
  intro k
  induction k with
  | zero => intro m hm hk hc; obtain rfl : m = 12 := by omega
            rw [cum_12] at hc; rw [ahead_succ] at ha1; omega
  | succ k ih =>
    intro m hm hk hc
    rcases Int.lt_or_le (n - aheadI y) (cumI y (m + 1)) with h | h
    · exact ⟨m, hm, by omega, hc, h⟩
    · exact ih (m + 1) (by omega) (by omega) h
def wdI (n : Int) : Int := (n + 3) % 7
theorem wd_bd (n : Int) : 0 ≤ wdI n ∧ wdI n ≤ 6 := by unfold wdI; omega

/-- tick t is that date -/
def IsT (t y m d h i s : Int) : Prop := IsD (t / 86400) y m d ∧ h = t % 86400 / 3600 ∧ i = t % 86400 / 60 % 60 ∧ s = t % 60
theorem IsT.time {t y m d h i s : Int} (H : IsT t y m d h i s) : 0 ≤ h ∧ h ≤ 23 ∧ 0 ≤ i ∧ i ≤ 59 ∧ 0 ≤ s ∧ s ≤ 59 := by
  obtain ⟨_, rfl, rfl, rfl⟩ := H; omega
theorem IsT.tick {t y m d h i s : Int} (H : IsT t y m d h i s) : (aheadI y + cumI y m + d - 1) * 86400 + (h * 3600 + i * 60 + s) = t := by
  obtain ⟨h1, h2, h3, h4⟩ := H
  rw [h1.2.2.2.2.2.2]; omega
theorem isT_of {n y m d h i s : Int} (H : IsD n y m d) (h0 : 0 ≤ h) (h1 : h ≤ 23) (i0 : 0 ≤ i) (i1 : i ≤ 59) (s0 : 0 ≤ s) (s1 : s ≤ 59) : IsT (n * 86400 + (h * 3600 + i * 60 + s)) y m d h i s := by
  refine ⟨?_, by omega, by omega, by omega⟩
  rw [show (n * 86400 + (h * 3600 + i * 60 + s)) / 86400 = n from by omega]; exact H
theorem isT_ex (t : Int) (h0 : 0 ≤ t) (h1 : t ≤ 253402300799) : ∃ y m d h i s, IsT t y m d h i s := by
  obtain ⟨y, m, d, h⟩ := isD_ex (t / 86400) (by omega) (by omega)
  exact ⟨y, m, d, _, _, _, h, rfl, rfl, rfl⟩
theorem IsT.bd {t y m d h i s : Int} (H : IsT t y m d h i s) : 0 ≤ t ∧ t ≤ 253402300799 := by
  have := H.1.bd; omega
theorem IsT.uniq {t y m d h i s y' m' d' h' i' s' : Int} (H : IsT t y m d h i s) (K : IsT t y' m' d' h' i' s') : y = y' ∧ m = m' ∧ d = d' ∧ h = h' ∧ i = i' ∧ s = s' := by
  obtain ⟨a, b, c⟩ := H.1.uniq K.1
  obtain ⟨_, rfl, rfl, rfl⟩ := H
  obtain ⟨_, rfl, rfl, rfl⟩ := K
  exact ⟨a, b, c, rfl, rfl, rfl⟩
end Go.Proofs.YtfobjaccpnondaaGreatDoor

/- Plain texts: what the date layer reads and writes. Nothing of the program is read here. -/
namespace Go.Proofs.YtfobjaccpnondaaGreatDoor
def sDays : List (List UInt8) := [[77, 111, 110], [84, 117, 101], [87, 101, 100], [84, 104, 117], [70, 114, 105], [83, 97, 116], [83, 117, 110]]
def lDays : List (List UInt8) := [[77, 111, 110, 100, 97, 121], [84, 117, 101, 115, 100, 97, 121], [87, 101, 100, 110, 101, 115, 100, 97, 121], [84, 104, 117, 114, 115, 100, 97, 121], [70, 114, 105, 100, 97, 121], [83, 97, 116, 117, 114, 100, 97, 121], [83, 117, 110, 100, 97, 121]]
def sMonths : List (List UInt8) := [[74, 97, 110], [70, 101, 98], [77, 97, 114], [65, 112, 114], [77, 97, 121], [74, 117, 110], [74, 117, 108], [65, 117, 103], [83, 101, 112], [79, 99, 116], [78, 111, 118], [68, 101, 99]]
/-- a digit's byte -/
def digO (n : Nat) : UInt8 := UInt8.ofNat (48 + n)
/-- a number below 100, by two digits -/
def pad2 (n : Int) : List UInt8 := [digO (n.toNat / 10), digO (n.toNat % 10)]
/-- the first of the names that l begins with, from number i on: its number, its length -/
def leadGo : Nat → List (List UInt8) → List UInt8 → Nat × Nat
  | _, [], _ => (0, 0)
  | i, n :: ns, l => if n.isPrefixOf l then (i, n.length) else leadGo (i + 1) ns l
def leadL (ns : List (List UInt8)) (l : List UInt8) : Nat × Nat := leadGo 0 ns l
theorem lead_step {ns : List (List UInt8)} {l : List UInt8} {k : Nat} (h : k < ns.length) (hb : ns[k].isPrefixOf l = false) : leadGo k (ns.drop k) l = leadGo (k + 1) (ns.drop (k + 1)) l := by
  rw [List.drop_eq_getElem_cons h, leadGo, if_neg (by rw [hb]; simp)]
theorem lead_hit {ns : List (List UInt8)} {l : List UInt8} {k : Nat} (h : k < ns.length) (hb : ns[k].isPrefixOf l = true) : leadGo k (ns.drop k) l = (k, ns[k].length) := by
  rw [List.drop_eq_getElem_cons h, leadGo, if_pos hb]
theorem lead_end {ns : List (List UInt8)} {l : List UInt8} {k : Nat} (h : ¬ k < ns.length) : leadGo k (ns.drop k) l = (0, 0) := by
  rw [List.drop_of_length_le (by omega)]; rfl
/-- do k digits stand ahead? -/
def numB (l : List UInt8) (k : Nat) : Bool := decide (k ≤ l.length) && (l.take k).all digC
def numV (l : List UInt8) (k : Nat) : Nat × Nat := if numB l k then (num (l.take k), k) else (0, 0)
def spdV (l : List UInt8) : Nat × Nat := if Lib.hasPrefix l [32] then (if numB (l.drop 1) 1 then (num ((l.drop 1).take 1), 2) else (0, 0)) else numV l 2
theorem numV_short {l : List UInt8} {k : Nat} (h : l.length < k) : numV l k = (0, 0) := by
  unfold numV numB; rw [decide_eq_false (by omega)]; rfl
theorem numV_no {l : List UInt8} {k : Nat} (h : (l.take k).all digC = false) : numV l k = (0, 0) := by
  unfold numV numB; rw [h, Bool.and_false]; rfl
theorem numV_yes {l : List UInt8} {k : Nat} (h0 : k ≤ l.length) (h : (l.take k).all digC = true) : numV l k = (num (l.take k), k) := by
  unfold numV numB; rw [h, decide_eq_true h0]; rfl
theorem num_lt10 {l : List UInt8} (h : l.all digC = true) {n : Nat} (hl : l.length ≤ n) (hn : n ≤ 4) : num l < 10000 :=
  Nat.lt_of_lt_of_le (num_lt l h) (by rw [show (10000 : Nat) = 10 ^ 4 from rfl]; exact Nat.pow_le_pow_right (by omega) (by omega))
theorem numV_bd (l : List UInt8) {k : Nat} (hk : k ≤ 4) : (numV l k).1 < 10000 ∧ (numV l k).2 ≤ k := by
  unfold numV
  split
  · rename_i h
    unfold numB at h
    rw [Bool.and_eq_true] at h
    exact ⟨num_lt10 h.2 (List.length_take_le _ _) hk, Nat.le_refl _⟩
  · exact ⟨by omega, by omega⟩

/-- what a text says of a date -/
structure Rd where
  (wd d m y h i s : Int)
def Rd.zero : Rd := ⟨0, 0, 0, 0, 0, 0, 0⟩
/-- one letter of a form: what is read ahead, and how long it is -/
def takeL (c : UInt8) (l : List UInt8) (nw : Int) (r : Rd) : Rd × Nat :=
  if c = 119 then ({ r with wd := (leadL sDays l).1 }, (leadL sDays l).2)
  else if c = 87 then ({ r with wd := (leadL lDays l).1 }, (leadL lDays l).2)
  else if c = 100 then ({ r with d := (numV l 2).1 }, (numV l 2).2)
  else if c = 101 then ({ r with d := (spdV l).1 }, (spdV l).2)
  else if c = 109 then ({ r with m := (leadL sMonths l).1 }, (leadL sMonths l).2)
  else if c = 89 then ({ r with y := (numV l 4).1 }, (numV l 4).2)
  else if c = 121 then ({ r with y := nw - (nw - (numV l 2).1) % 100 }, (numV l 2).2)
  else if c = 104 then ({ r with h := (numV l 2).1 }, (numV l 2).2)
  else if c = 105 then ({ r with i := (numV l 2).1 }, (numV l 2).2)
  else if c = 115 then ({ r with s := (numV l 2).1 }, (numV l 2).2)
  else (r, if Lib.hasPrefix l [c] then 1 else 0)
/-- a form -/
def runL (nw : Int) : List UInt8 → List UInt8 → Rd → Option (Rd × List UInt8)
  | [], l, r => some (r, l)
  | c :: cs, l, r => if (takeL c l nw r).2 = 0 then none else runL nw cs (l.drop (takeL c l nw r).2) (takeL c l nw r).1
def validL (r : Rd) : Bool := decide (1970 ≤ r.y ∧ r.y ≤ 9999 ∧ 1 ≤ r.d ∧ r.d ≤ domI r.y r.m ∧ r.h ≤ 23 ∧ r.i ≤ 59 ∧ r.s ≤ 59 ∧ r.wd = wdI (aheadI r.y + cumI r.y r.m + r.d - 1))
def tickL (r : Rd) : Int := (aheadI r.y + cumI r.y r.m + r.d - 1) * 86400 + (r.h * 3600 + r.i * 60 + r.s)
def formL (nw : Int) (f l : List UInt8) : Option Int :=
  match runL nw f l .zero with
  | some (r, []) => if validL r then some (tickL r) else none
  | _ => none
def fixF : List UInt8 := [119, 44, 32, 100, 32, 109, 32, 89, 32, 104, 58, 105, 58, 115, 32, 71, 77, 84]
def oldF : List UInt8 := [87, 44, 32, 100, 45, 109, 45, 121, 32, 104, 58, 105, 58, 115, 32, 71, 77, 84]
def ascF : List UInt8 := [119, 32, 109, 32, 101, 32, 104, 58, 105, 58, 115, 32, 89]
def parseDL (nw : Int) (l : List UInt8) : Option Int := (formL nw fixF l).or ((formL nw oldF l).or (formL nw ascF l))

theorem lead_bd (ns : List (List UInt8)) (l : List UInt8) : (leadL ns l).1 ≤ ns.length ∧ (leadL ns l).2 ≤ l.length ∧ (0 < ns.length → (leadL ns l).1 < ns.length) := by
  suffices h : ∀ (k : Nat) (ns : List (List UInt8)), (leadGo k ns l).1 ≤ k + ns.length ∧ (leadGo k ns l).2 ≤ l.length ∧ (0 < k + ns.length → (leadGo k ns l).1 < k + ns.length) by
    have := h 0 ns
    simp only [Nat.zero_add] at this
    exact this
  intro k ns
  induction ns generalizing k with
  | nil => simp [leadGo]
  | cons n ns ih =>
    rw [leadGo]; split
    · rename_i hp
      have := (List.isPrefixOf_iff_prefix.1 hp).length_le
      exact ⟨by simp, this, fun _ => by simp⟩
    · have := ih (k + 1)
      simp only [List.length_cons]
      exact ⟨by omega, this.2.1, fun _ => by omega⟩
theorem numV_le (l : List UInt8) (k : Nat) : (numV l k).2 ≤ l.length := by
  unfold numV numB
  split
  · rename_i h; rw [Bool.and_eq_true] at h; exact of_decide_eq_true h.1
  · omega
theorem prefix_one {l : List UInt8} {c : UInt8} (h : Lib.hasPrefix l [c] = true) : ∃ r, l = c :: r := by
  unfold Lib.hasPrefix at h
  obtain ⟨r, hr⟩ := List.isPrefixOf_iff_prefix.1 h
  exact ⟨r, hr.symm⟩
theorem spdV_le (l : List UInt8) : (spdV l).2 ≤ l.length := by
  unfold spdV
  split
  · rename_i h
    obtain ⟨r, rfl⟩ := prefix_one h
    split
    · rename_i h2
      unfold numB at h2; rw [Bool.and_eq_true] at h2
      have := of_decide_eq_true h2.1
      simp at this ⊢; omega
    · omega
  · exact numV_le _ _
theorem take_le (c : UInt8) (l : List UInt8) (nw : Int) (r : Rd) : (takeL c l nw r).2 ≤ l.length := by
  unfold takeL
  repeat' split
  all_goals first | exact (lead_bd _ _).2.1 | exact numV_le _ _ | exact spdV_le _ | skip
  · rename_i h
    obtain ⟨r, rfl⟩ := prefix_one h
    simp
  · exact Nat.zero_le _
end Go.Proofs.YtfobjaccpnondaaGreatDoor
