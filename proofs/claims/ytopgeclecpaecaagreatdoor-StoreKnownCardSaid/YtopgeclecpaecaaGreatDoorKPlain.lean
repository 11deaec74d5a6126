/- Plain lists of bytes: what the text layer's functions come to. Nothing of the program is read here. -/
import Derived.Lib.Strings
import Derived.Lib.IndexBytes
import Derived.Lib.Split
import Derived.Lib.IndexMore
import Derived.Lib.IndexLaws
import Derived.Lib.Join
namespace Go.Proofs.YtopgeclecpaecaaGreatDoor
/-- a text of a list of bytes -/
def bs (l : List UInt8) : ByteArray := ⟨l.toArray⟩
@[simp] theorem bs_data (l : List UInt8) : (bs l).data.toList = l := by simp [bs]
@[simp] theorem bs_size (l : List UInt8) : (bs l).size = l.length := by unfold bs; rfl
@[simp] theorem bs_self (s : ByteArray) : bs s.data.toList = s := rfl
theorem bs_of {s : ByteArray} {l : List UInt8} (h : s.data.toList = l) : s = bs l := by
  subst h; rfl
theorem size_len (s : ByteArray) : s.size = s.data.toList.length := rfl

/-- a token's byte, as a number -/
def tokI (n : Int) : Bool := decide (n = 33 ∨ (35 ≤ n ∧ n ≤ 39) ∨ n = 42 ∨ n = 43 ∨ n = 45 ∨ n = 46 ∨ n = 94 ∨ n = 95 ∨ n = 96 ∨ n = 124 ∨ n = 126 ∨ (97 ≤ n ∧ n ≤ 122) ∨ (65 ≤ n ∧ n ≤ 90) ∨ (48 ≤ n ∧ n ≤ 57))
def tokB (c : UInt8) : Bool := tokI (c.toNat : Int)
def token (l : List UInt8) : Bool := !l.isEmpty && l.all tokB
def lettI (n : Int) : Bool := decide ((97 ≤ n ∧ n ≤ 122) ∨ (65 ≤ n ∧ n ≤ 90) ∨ (48 ≤ n ∧ n ≤ 57))
def inI (n : Int) (l : List UInt8) : Bool := l.any fun b => (b.toNat : Int) == n
def lowI (n : Int) : Int := if 65 ≤ n ∧ n ≤ 90 then n + 32 else n
def lowB (c : UInt8) : UInt8 := if 65 ≤ c.toNat ∧ c.toNat ≤ 90 then c + 32 else c
def lower (l : List UInt8) : List UInt8 := l.map lowB
def blankI (n : Int) : Bool := decide (n = 32 ∨ n = 9)
def blankB (c : UInt8) : Bool := blankI (c.toNat : Int)
def ltrim (l : List UInt8) : List UInt8 := l.dropWhile blankB
def rtrim (l : List UInt8) : List UInt8 := (l.reverse.dropWhile blankB).reverse
def trim (l : List UInt8) : List UInt8 := rtrim (ltrim l)

theorem ret_bool {a b : Bool} (h : a = b) : Ending.returned (.bool a) = .returned (.bool b) := by rw [h]
theorem ret_str {a b : ByteArray} (h : a = b) : Ending.returned (.string a) = .returned (.string b) := by rw [h]
theorem take_snoc (s : ByteArray) (k : Nat) (h : k < s.size) : s.data.toList.take (k + 1) = s.data.toList.take k ++ [s[k]] := by
  rw [List.take_succ_eq_append_getElem (by simpa using h)]; rfl
theorem mem_at (s : ByteArray) (k : Nat) (h : k < s.size) : s[k] ∈ s.data.toList := by simp [ByteArray.getElem_eq_getElem_data]
theorem all_snoc (s : ByteArray) (p : UInt8 → Bool) (k : Nat) (h : k < s.size) (hp : (s.data.toList.take k).all p = true) (hq : p s[k] = true) : (s.data.toList.take (k + 1)).all p = true := by
  rw [take_snoc s k h, List.all_append, hp]; simp [hq]
theorem all_not (s : ByteArray) (p : UInt8 → Bool) (k : Nat) (h : k < s.size) (hq : p s[k] = false) : s.data.toList.all p = false := by
  rw [← Bool.not_eq_true, List.all_eq_true]
  intro H
  have := H s[k] (mem_at s k h)
  rw [hq] at this; exact absurd this (by simp)
theorem take_all {s : ByteArray} {k : Nat} (h : ¬ k < s.size) : s.data.toList.take k = s.data.toList :=
  List.take_of_length_le (by have := size_len s; omega)
theorem any_snoc (s : ByteArray) (p : UInt8 → Bool) (k : Nat) (h : k < s.size) (hp : (s.data.toList.take k).any p = false) (hq : p s[k] = false) : (s.data.toList.take (k + 1)).any p = false := by
  rw [take_snoc s k h, List.any_append, hp]; simp [hq]
theorem any_is (s : ByteArray) (p : UInt8 → Bool) (k : Nat) (h : k < s.size) (hq : p s[k] = true) : s.data.toList.any p = true := by
  rw [List.any_eq_true]; exact ⟨s[k], mem_at s k h, hq⟩
theorem nil_of {s : ByteArray} (h : s.size = 0) : s.data.toList = [] := List.eq_nil_of_length_eq_zero (by rw [← size_len]; exact h)
theorem cons_of {s : ByteArray} (h : 0 < s.size) : s.data.toList = s[0] :: s.data.toList.drop 1 := by
  have h2 : 0 < s.data.toList.length := by rw [← size_len]; exact h
  rw [ByteArray.getElem_eq_getElem_data]
  exact (by simpa using (List.drop_eq_getElem_cons h2))
theorem snoc_of {s : ByteArray} (h : 0 < s.size) : s.data.toList = s.data.toList.take (s.size - 1) ++ [s[s.size - 1]] := by
  have := take_snoc s (s.size - 1) (by omega)
  rw [show s.size - 1 + 1 = s.size from by omega, take_all (by omega)] at this
  exact this
theorem ltrim_step {s : ByteArray} (h : 0 < s.size) (hb : blankB s[0] = true) : ltrim (s.data.toList.drop 1) = ltrim s.data.toList := by
  rw [cons_of h]; simp [ltrim, hb]
theorem ltrim_end {s : ByteArray} (h : 0 < s.size) (hb : blankB s[0] = false) : ltrim s.data.toList = s.data.toList := by
  rw [cons_of h]; simp [ltrim, hb]
theorem rtrim_snoc (l : List UInt8) (c : UInt8) : rtrim (l ++ [c]) = if blankB c then rtrim l else l ++ [c] := by
  unfold rtrim
  rw [List.reverse_append, List.reverse_singleton, List.singleton_append, List.dropWhile_cons]
  split <;> simp
theorem rtrim_step {s : ByteArray} (h : 0 < s.size) (hb : blankB s[s.size - 1] = true) : rtrim (s.data.toList.take (s.size - 1)) = rtrim s.data.toList :=
  ((congrArg rtrim (snoc_of h)).trans (by rw [rtrim_snoc, if_pos hb])).symm
theorem rtrim_end {s : ByteArray} (h : 0 < s.size) (hb : blankB s[s.size - 1] = false) : rtrim s.data.toList = s.data.toList :=
  (congrArg rtrim (snoc_of h)).trans (by rw [rtrim_snoc, if_neg (by simp [hb])]; exact (snoc_of h).symm)
/-- the bytes of a token that are no letters and no digits -/
def tokL : List UInt8 := [33, 35, 36, 37, 38, 39, 42, 43, 45, 46, 94, 95, 96, 124, 126]
theorem tok_cases (c : UInt8) : (tokB c = true ∧ lettI (c.toNat : Int) = true) ∨ (tokB c = true ∧ lettI (c.toNat : Int) = false ∧ inI (c.toNat : Int) tokL = true) ∨
    (tokB c = false ∧ lettI (c.toNat : Int) = false ∧ inI (c.toNat : Int) tokL = false) := by
  simp only [tokB, tokI, lettI, inI, tokL]
  simp
  omega
theorem len_pos (s : ByteArray) : decide ((0 : Int) < (s.size : Int)) = !s.data.toList.isEmpty := by
  rw [size_len]
  cases s.data.toList with
  | nil => rfl
  | cons a l => simp
theorem ltrim_cases (t : ByteArray) : (∃ h : 0 < t.size, blankI (t[0].toNat : Int) = true ∧ ltrim (t.data.toList.drop 1) = ltrim t.data.toList) ∨
    (∃ h : 0 < t.size, blankI (t[0].toNat : Int) = false ∧ ltrim t.data.toList = t.data.toList) ∨ (t.size = 0 ∧ ltrim t.data.toList = t.data.toList) := by
  rcases Nat.eq_zero_or_pos t.size with h | h
  · exact .inr (.inr ⟨h, by rw [nil_of h]; rfl⟩)
  · cases hb : blankB t[0]
    · exact .inr (.inl ⟨h, hb, ltrim_end h hb⟩)
    · exact .inl ⟨h, hb, ltrim_step h hb⟩
theorem rtrim_cases (t : ByteArray) : (∃ h : 0 < t.size, blankI (t[t.size - 1].toNat : Int) = true ∧ rtrim (t.data.toList.take (t.size - 1)) = rtrim t.data.toList) ∨
    (∃ h : 0 < t.size, blankI (t[t.size - 1].toNat : Int) = false ∧ rtrim t.data.toList = t.data.toList) ∨ (t.size = 0 ∧ rtrim t.data.toList = t.data.toList) := by
  rcases Nat.eq_zero_or_pos t.size with h | h
  · exact .inr (.inr ⟨h, by rw [nil_of h]; rfl⟩)
  · cases hb : blankB t[t.size - 1]
    · exact .inr (.inl ⟨h, hb, rtrim_end h hb⟩)
    · exact .inl ⟨h, hb, rtrim_step h hb⟩
theorem low_mid {s : ByteArray} {k : Nat} (h : k < s.size) : (lower (s.data.toList.take k) ++ s.data.toList.drop k).getD k 0 = s[k] := by
  have h1 : (lower (s.data.toList.take k)).length = k := by simp [lower]; omega
  rw [List.getD_eq_getElem?_getD, List.getElem?_append_right (by omega), h1]
  simp [List.getElem?_drop, ByteArray.getElem_eq_getElem_data, h]
theorem low_set {s : ByteArray} {k : Nat} (h : k < s.size) : (lower (s.data.toList.take k) ++ s.data.toList.drop k).set k (lowB s[k]) = lower (s.data.toList.take (k + 1)) ++ s.data.toList.drop (k + 1) := by
  have h1 : (lower (s.data.toList.take k)).length = k := by simp [lower]; omega
  have h2 : k < s.data.toList.length := h
  rw [List.set_append_right _ _ (by omega), h1, Nat.sub_self, take_snoc s k h, List.drop_eq_getElem_cons h2, List.set_cons_zero]
  simp [lower]
theorem low_same {c : UInt8} (h : ¬ (65 ≤ (c.toNat : Int) ∧ (c.toNat : Int) ≤ 90)) : lowB c = c := by
  unfold lowB; rw [if_neg (by omega)]
theorem low_up {c : UInt8} (h1 : 65 ≤ (c.toNat : Int)) (h2 : (c.toNat : Int) ≤ 90) : ((lowB c).toNat : Int) = (c.toNat : Int) + 32 := by
  unfold lowB; rw [if_pos (by omega)]
  rw [UInt8.toNat_add]; simp; omega
theorem dropWhile_le (p : UInt8 → Bool) (l : List UInt8) : (l.dropWhile p).length ≤ l.length := (List.dropWhile_sublist p).length_le
theorem trim_le (l : List UInt8) : (trim l).length ≤ l.length := by
  unfold trim rtrim ltrim
  rw [List.length_reverse]
  exact Nat.le_trans (dropWhile_le _ _) (by rw [List.length_reverse]; exact dropWhile_le _ _)
def mayI (n : Int) : Bool := decide (n = 9 ∨ (32 ≤ n ∧ n ≠ 127))
theorem blankI_or {n : Int} (h : blankI n = true) : (n == 32) = true ∨ ((n == 32) = false ∧ (n == 9) = true) := by
  unfold blankI at h; simp at h ⊢; omega
theorem blankI_no {n : Int} (h : blankI n = false) : (n == 32) = false ∧ (n == 9) = false := by
  unfold blankI at h; simp at h ⊢; omega
theorem ltrim_at (s : ByteArray) (k : Nat) (hk : k ≤ s.size) :
    (∃ h : k < s.size, (((s[k].toNat : Int) == 32) = true ∨ (((s[k].toNat : Int) == 32) = false ∧ ((s[k].toNat : Int) == 9) = true)) ∧ ltrim (s.data.toList.drop (k + 1)) = ltrim (s.data.toList.drop k)) ∨
    (∃ h : k < s.size, (((s[k].toNat : Int) == 32) = false ∧ ((s[k].toNat : Int) == 9) = false) ∧ ltrim (s.data.toList.drop k) = s.data.toList.drop k) ∨
    (¬ k < s.size ∧ ltrim (s.data.toList.drop k) = s.data.toList.drop k) := by
  rcases Nat.lt_or_ge k s.size with h | h
  · have hd : s.data.toList.drop k = s[k] :: s.data.toList.drop (k + 1) := List.drop_eq_getElem_cons (by exact h)
    cases hb : blankB s[k]
    · exact .inr (.inl ⟨h, blankI_no hb, by rw [hd]; simp [ltrim, hb]⟩)
    · exact .inl ⟨h, blankI_or hb, by rw [hd]; simp [ltrim, hb]⟩
  · obtain rfl : k = s.size := by omega
    exact .inr (.inr ⟨by omega, by rw [List.drop_of_length_le (by simp)]; rfl⟩)
theorem rtrim_at (s : ByteArray) (k m : Nat) (hkm : k ≤ m) (hm : m ≤ s.size) :
    (∃ h : k < m, (((s[m - 1].toNat : Int) == 32) = true ∨ (((s[m - 1].toNat : Int) == 32) = false ∧ ((s[m - 1].toNat : Int) == 9) = true)) ∧ rtrim ((s.data.toList.drop k).take (m - 1 - k)) = rtrim ((s.data.toList.drop k).take (m - k))) ∨
    (∃ h : k < m, (((s[m - 1].toNat : Int) == 32) = false ∧ ((s[m - 1].toNat : Int) == 9) = false) ∧ rtrim ((s.data.toList.drop k).take (m - k)) = (s.data.toList.drop k).take (m - k)) ∨
    (¬ k < m ∧ rtrim ((s.data.toList.drop k).take (m - k)) = (s.data.toList.drop k).take (m - k)) := by
  rcases Nat.lt_or_ge k m with h | h
  · have hd : (s.data.toList.drop k).take (m - k) = (s.data.toList.drop k).take (m - 1 - k) ++ [s[m - 1]] := by
      have h1 : m - 1 - k < (s.data.toList.drop k).length := by simp; omega
      rw [show m - k = (m - 1 - k) + 1 from by omega, List.take_succ_eq_append_getElem h1]
      congr 1
      simp [ByteArray.getElem_eq_getElem_data, show k + (m - 1 - k) = m - 1 from by omega]
    cases hb : blankB s[m - 1]
    · exact .inr (.inl ⟨h, blankI_no hb, by rw [hd, rtrim_snoc, if_neg (by simp [hb])]⟩)
    · exact .inl ⟨h, blankI_or hb, by rw [hd, rtrim_snoc, if_pos hb]⟩
  · obtain rfl : k = m := by omega
    exact .inr (.inr ⟨by omega, by simp [rtrim]⟩)
def mayB (c : UInt8) : Bool := mayI (c.toNat : Int)
/-- a text's bytes in quotes, without the quotes -/
def quoteB (l : List UInt8) : List UInt8 := l.flatMap fun c => if (c.toNat : Int) = 34 ∨ (c.toNat : Int) = 92 then [92, c] else [c]
def quoteS (l : List UInt8) : List UInt8 := if l.all mayB then 34 :: quoteB l ++ [34] else []
def quoteE (l : List UInt8) : Int := if l.all mayB then 0 else 4
theorem quoteB_len (l : List UInt8) : (quoteB l).length ≤ 2 * l.length := by
  induction l with
  | nil => simp [quoteB]
  | cons c l ih =>
    have : quoteB (c :: l) = (if (c.toNat : Int) = 34 ∨ (c.toNat : Int) = 92 then [92, c] else [c]) ++ quoteB l := by simp [quoteB]
    rw [this]; split <;> simp <;> omega
theorem quoteB_plain (l : List UInt8) (c : UInt8) (h1 : ¬ (c.toNat : Int) = 34) (h2 : ¬ (c.toNat : Int) = 92) : quoteB (l ++ [c]) = quoteB l ++ [c] := by
  unfold quoteB; rw [List.flatMap_append]; simp; omega
theorem quoteB_mark (l : List UInt8) (c : UInt8) (h : (c.toNat : Int) = 34 ∨ (c.toNat : Int) = 92) : quoteB (l ++ [c]) = quoteB l ++ [92] ++ [c] := by
  unfold quoteB; rw [List.flatMap_append]; simp; omega
/-- what the rest of a text in quotes says; e: a byte 92 stood just ahead -/
def unq : List UInt8 → Bool → List UInt8 → Option (List UInt8)
  | [], _, _ => none
  | c :: r, true, acc => if mayB c then unq r false (acc ++ [c]) else none
  | c :: r, false, acc =>
    if (c.toNat : Int) = 34 then (if r.isEmpty then some acc else none)
    else if (c.toNat : Int) = 92 then unq r true acc
    else if mayB c then unq r false (acc ++ [c]) else none
def unquote : List UInt8 → Option (List UInt8)
  | [] => none
  | c :: r => if (c.toNat : Int) = 34 then unq r false [] else none
def unqS (l : List UInt8) : List UInt8 := (unquote l).getD []
def unqE (l : List UInt8) : Int := if (unquote l).isSome then 0 else 4
theorem drop_at {s : ByteArray} {k : Nat} (h : k < s.size) : s.data.toList.drop k = s[k] :: s.data.toList.drop (k + 1) := List.drop_eq_getElem_cons (by exact h)
end Go.Proofs.YtopgeclecpaecaaGreatDoor

/- Plain lists of bytes, more: what is read of a text in quotes, byte by byte. -/
namespace Go.Proofs.YtopgeclecpaecaaGreatDoor
theorem cat_data (a b : ByteArray) : (a ++ b).data.toList = a.data.toList ++ b.data.toList := by simp [ByteArray.data_append]
theorem quote_size {t s : ByteArray} {k : Nat} (h : t.data.toList = 34 :: quoteB (s.data.toList.take k)) : t.size ≤ 2 * k + 1 := by
  rw [size_len, h, List.length_cons]
  have h1 := quoteB_len (s.data.toList.take k)
  have h2 : (s.data.toList.take k).length ≤ k := List.length_take_le _ _
  omega
theorem one_at (s : ByteArray) (k : Nat) (h : k < s.size) : (s.data.toList.drop k).take (k + 1 - k) = [s[k]] := by
  rw [drop_at h, show k + 1 - k = 1 from by omega]; rfl
theorem unq_start (s : ByteArray) : (s.size = 0 ∧ unquote s.data.toList = none) ∨ (∃ h : 0 < s.size, ¬ (s[0].toNat : Int) = 34 ∧ unquote s.data.toList = none) ∨
    (∃ h : 0 < s.size, (s[0].toNat : Int) = 34 ∧ unquote s.data.toList = unq (s.data.toList.drop 1) false []) := by
  rcases Nat.eq_zero_or_pos s.size with h | h
  · exact .inl ⟨h, by rw [nil_of h]; rfl⟩
  · by_cases hc : (s[0].toNat : Int) = 34
    · exact .inr (.inr ⟨h, hc, (congrArg unquote (cons_of h)).trans (if_pos hc)⟩)
    · exact .inr (.inl ⟨h, hc, (congrArg unquote (cons_of h)).trans (if_neg hc)⟩)
theorem drop_nil {s : ByteArray} {k : Nat} (h : s.size ≤ k) : s.data.toList.drop k = [] := List.drop_of_length_le h
theorem unq_byte (s : ByteArray) (k : Nat) (h : k < s.size) (acc : List UInt8) :
    (((s[k].toNat : Int) == 34) = true ∧ k + 1 = s.size ∧ unq (s.data.toList.drop k) false acc = some acc) ∨
    (((s[k].toNat : Int) == 34) = true ∧ ¬ k + 1 = s.size ∧ unq (s.data.toList.drop k) false acc = none) ∨
    (((s[k].toNat : Int) == 34) = false ∧ ((s[k].toNat : Int) == 92) = true ∧ k + 1 = s.size ∧ unq (s.data.toList.drop k) false acc = none) ∨
    (((s[k].toNat : Int) == 34) = false ∧ ((s[k].toNat : Int) == 92) = true ∧ (∃ h2 : k + 1 < s.size, mayI (s[k + 1].toNat : Int) = false) ∧ unq (s.data.toList.drop k) false acc = none) ∨
    (((s[k].toNat : Int) == 34) = false ∧ ((s[k].toNat : Int) == 92) = true ∧ ∃ h2 : k + 1 < s.size, mayI (s[k + 1].toNat : Int) = true ∧ unq (s.data.toList.drop k) false acc = unq (s.data.toList.drop (k + 2)) false (acc ++ [s[k + 1]])) ∨
    (((s[k].toNat : Int) == 34) = false ∧ ((s[k].toNat : Int) == 92) = false ∧ mayI (s[k].toNat : Int) = false ∧ unq (s.data.toList.drop k) false acc = none) ∨
    (((s[k].toNat : Int) == 34) = false ∧ ((s[k].toNat : Int) == 92) = false ∧ mayI (s[k].toNat : Int) = true ∧ unq (s.data.toList.drop k) false acc = unq (s.data.toList.drop (k + 1)) false (acc ++ [s[k]])) := by
  rw [drop_at h]
  by_cases h1 : (s[k].toNat : Int) = 34
  · have h1' : ((s[k].toNat : Int) == 34) = true := by simpa using h1
    by_cases h2 : k + 1 = s.size
    · exact .inl ⟨h1', h2, by rw [drop_nil (by omega)]; simp [unq, h1]⟩
    · refine .inr (.inl ⟨h1', h2, ?_⟩)
      have h3 : k + 1 < s.size := by omega
      rw [drop_at h3]; simp [unq, h1]
  · have h1' : ((s[k].toNat : Int) == 34) = false := by simpa using h1
    by_cases h2 : (s[k].toNat : Int) = 92
    · have h2' : ((s[k].toNat : Int) == 92) = true := by simpa using h2
      rcases Nat.lt_or_ge (k + 1) s.size with h3 | h3
      · rw [drop_at h3]
        cases hm : mayI (s[k + 1].toNat : Int)
        · exact .inr (.inr (.inr (.inl ⟨h1', h2', ⟨h3, hm⟩, by simp [unq, h2, mayB, hm]⟩)))
        · exact .inr (.inr (.inr (.inr (.inl ⟨h1', h2', h3, hm, by simp [unq, h2, mayB, hm]⟩))))
      · exact .inr (.inr (.inl ⟨h1', h2', by omega, by rw [drop_nil h3]; simp [unq, h2]⟩))
    · have h2' : ((s[k].toNat : Int) == 92) = false := by simpa using h2
      cases hm : mayI (s[k].toNat : Int)
      · exact .inr (.inr (.inr (.inr (.inr (.inl ⟨h1', h2', rfl, by simp [unq, h1, h2, mayB, hm]⟩)))))
      · exact .inr (.inr (.inr (.inr (.inr (.inr ⟨h1', h2', rfl, by simp [unq, h1, h2, mayB, hm]⟩)))))
theorem unq_in (s : ByteArray) (k : Nat) (h : k < s.size) (acc : List UInt8) :
    (((s[k].toNat : Int) == 92) = false ∧ ((s[k].toNat : Int) == 34) = true ∧ mayI (s[k].toNat : Int) = true ∧ s.size ≤ k + 1 ∧ unq (s.data.toList.drop k) false acc = some acc) ∨
    (((s[k].toNat : Int) == 92) = false ∧ ((s[k].toNat : Int) == 34) = true ∧ k + 1 < s.size ∧ unq (s.data.toList.drop k) false acc = none) ∨
    (((s[k].toNat : Int) == 92) = true ∧ mayI (s[k].toNat : Int) = true ∧ unq (s.data.toList.drop k) false acc = unq (s.data.toList.drop (k + 1)) true acc) ∨
    (((s[k].toNat : Int) == 92) = false ∧ ((s[k].toNat : Int) == 34) = false ∧ mayI (s[k].toNat : Int) = false ∧ unq (s.data.toList.drop k) false acc = none) ∨
    (((s[k].toNat : Int) == 92) = false ∧ ((s[k].toNat : Int) == 34) = false ∧ mayI (s[k].toNat : Int) = true ∧ unq (s.data.toList.drop k) false acc = unq (s.data.toList.drop (k + 1)) false (acc ++ [s[k]])) := by
  rw [drop_at h]
  by_cases h1 : (s[k].toNat : Int) = 34
  · have h1' : ((s[k].toNat : Int) == 34) = true := by simpa using h1
    have h2' : ((s[k].toNat : Int) == 92) = false := by rw [h1]; rfl
    rcases Nat.lt_or_ge (k + 1) s.size with h3 | h3
    · exact .inr (.inl ⟨h2', h1', h3, by rw [drop_at h3]; simp [unq, h1]⟩)
    · exact .inl ⟨h2', h1', by rw [h1]; rfl, h3, by rw [drop_nil h3]; simp [unq, h1]⟩
  · have h1' : ((s[k].toNat : Int) == 34) = false := by simpa using h1
    by_cases h2 : (s[k].toNat : Int) = 92
    · have h2' : ((s[k].toNat : Int) == 92) = true := by simpa using h2
      exact .inr (.inr (.inl ⟨h2', by rw [h2]; rfl, by simp [unq, h2]⟩))
    · have h2' : ((s[k].toNat : Int) == 92) = false := by simpa using h2
      cases hm : mayI (s[k].toNat : Int)
      · exact .inr (.inr (.inr (.inl ⟨h2', h1', rfl, by simp [unq, h1, h2, mayB, hm]⟩)))
      · exact .inr (.inr (.inr (.inr ⟨h2', h1', rfl, by simp [unq, h1, h2, mayB, hm]⟩)))
theorem unq_esc (s : ByteArray) (k : Nat) (h : k < s.size) (acc : List UInt8) :
    (mayI (s[k].toNat : Int) = false ∧ unq (s.data.toList.drop k) true acc = none) ∨
    (mayI (s[k].toNat : Int) = true ∧ unq (s.data.toList.drop k) true acc = unq (s.data.toList.drop (k + 1)) false (acc ++ [s[k]])) := by
  rw [drop_at h]
  cases hm : mayI (s[k].toNat : Int)
  · exact .inl ⟨rfl, by simp [unq, mayB, hm]⟩
  · exact .inr ⟨rfl, by simp [unq, mayB, hm]⟩
theorem unq_first (s : ByteArray) (h : 0 < s.size) :
    (((s[0].toNat : Int) != 34) = true ∧ unquote s.data.toList = none) ∨
    (((s[0].toNat : Int) != 34) = false ∧ mayI (s[0].toNat : Int) = true ∧ unquote s.data.toList = unq (s.data.toList.drop 1) false []) := by
  rcases unq_start s with ⟨h0, _⟩ | ⟨_, hc, hu⟩ | ⟨_, hc, hu⟩
  · omega
  · exact .inl ⟨bne_iff_ne.2 hc, hu⟩
  · exact .inr ⟨by rw [bne_eq_false_iff_eq]; exact hc, by rw [hc]; rfl, hu⟩
theorem unq_quote (l : List UInt8) (h : l.all mayB = true) : ∀ acc, unq (quoteB l ++ [34]) false acc = some (acc ++ l) := by
  induction l with
  | nil => intro acc; simp [quoteB, unq]
  | cons c l ih =>
    intro acc
    simp only [List.all_cons, Bool.and_eq_true] at h
    have hq : quoteB (c :: l) = (if (c.toNat : Int) = 34 ∨ (c.toNat : Int) = 92 then [92, c] else [c]) ++ quoteB l := by simp [quoteB]
    rw [hq]
    by_cases h1 : (c.toNat : Int) = 34 ∨ (c.toNat : Int) = 92
    · rw [if_pos h1]
      show unq (92 :: c :: (quoteB l ++ [34])) false acc = _
      simp only [unq, h.1, if_true]
      rw [if_neg (by decide), if_pos (by decide), ih h.2]
      simp
    · rw [if_neg h1]
      show unq (c :: (quoteB l ++ [34])) false acc = _
      simp only [unq, h.1, if_true]
      rw [if_neg (fun e => h1 (.inl e)), if_neg (fun e => h1 (.inr e)), ih h.2]
      simp
theorem unquote_quote (l : List UInt8) (h : l.all mayB = true) : unquote (quoteS l) = some l := by
  rw [quoteS, if_pos h]
  show unquote (34 :: (quoteB l ++ [34])) = _
  rw [unquote, if_pos (by decide), unq_quote l h]
  simp
theorem quoteS_len (l : List UInt8) : (quoteS l).length ≤ 2 * l.length + 2 := by
  unfold quoteS
  have := quoteB_len l
  split <;> simp
  omega
theorem bad_byte {n : Int} (h : mayI n = false) : (n < 32 ∧ (n != 9) = true) ∨ (¬ n < 32 ∧ (n == 127) = true) := by
  unfold mayI at h
  simp only [decide_eq_false_iff_not] at h
  by_cases h1 : n < 32
  · exact .inl ⟨h1, bne_iff_ne.2 (by omega)⟩
  · exact .inr ⟨h1, beq_iff_eq.2 (by omega)⟩
theorem good_byte {n : Int} (h : mayI n = true) : (n < 32 ∧ (n != 9) = false ∧ (n == 127) = false) ∨ (¬ n < 32 ∧ (n == 127) = false) := by
  unfold mayI at h
  simp only [decide_eq_true_iff] at h
  by_cases h1 : n < 32
  · exact .inl ⟨h1, by rw [bne_eq_false_iff_eq]; omega, beq_eq_false_iff_ne.2 (by omega)⟩
  · exact .inr ⟨h1, beq_eq_false_iff_ne.2 (by omega)⟩
end Go.Proofs.YtopgeclecpaecaaGreatDoor

/- Lists that are cut at a byte outside quotes: plain lists. -/
namespace Go.Proofs.YtopgeclecpaecaaGreatDoor
/-- how a byte turns what is open: outside; within; behind a byte 92 within -/
def qnext (o e : Bool) (c : UInt8) : Bool × Bool :=
  if o then (if e then (true, false) else if (c.toNat : Int) = 92 then (true, true) else if (c.toNat : Int) = 34 then (false, false) else (true, false))
  else if (c.toNat : Int) = 34 then (true, false) else (false, false)
def addP (acc : List (List UInt8)) (cur : List UInt8) : List (List UInt8) := if (trim cur).isEmpty then acc else acc ++ [trim cur]
/-- the pieces of a list: what is left of it, what is open, the piece so far, the pieces so far -/
def cutAt (sep : UInt8) : List UInt8 → Bool → Bool → List UInt8 → List (List UInt8) → Option (List (List UInt8))
  | [], o, _, cur, acc => if o then none else some (addP acc cur)
  | c :: r, o, e, cur, acc =>
    if o = false ∧ c = sep then cutAt sep r false false [] (addP acc cur)
    else cutAt sep r (qnext o e c).1 (qnext o e c).2 (cur ++ [c]) acc
def badSep (sep : UInt8) : Bool := sep == 34 || sep == 92
def splitL (l : List UInt8) (sep : UInt8) : List (List UInt8) :=
  if badSep sep then [] else match cutAt sep l false false [] [] with
  | none => []
  | some a => if 64 < a.length then [] else a
def splitE (l : List UInt8) (sep : UInt8) : Int :=
  if badSep sep then 2 else match cutAt sep l false false [] [] with
  | none => 4
  | some a => if 64 < a.length then 3 else 0
theorem addL_take (A : List (List UInt8)) (cur : List UInt8) : (if (trim cur).isEmpty then A.take 65 else if (A.take 65).length ≤ 64 then A.take 65 ++ [trim cur] else A.take 65) = (addP A cur).take 65 := by
  unfold addP
  cases h : (trim cur).isEmpty
  · simp only [Bool.false_eq_true, if_false]
    by_cases hl : A.length ≤ 64
    · rw [List.take_of_length_le (by omega), if_pos hl, List.take_of_length_le (by simp; omega)]
    · rw [if_neg (by rw [List.length_take]; omega), List.take_append_of_le_length (by omega)]
  · simp
/-- one byte on: within or at a mark, or outside and no separator -/
theorem cut_step {sep : UInt8} {s : ByteArray} {k f : Nat} {o e : Bool} {A : List (List UInt8)} (h : k < s.size) (hf : f ≤ k) (hn : ¬ (o = false ∧ s[k] = sep)) :
    cutAt sep (s.data.toList.drop k) o e ((s.data.toList.drop f).take (k - f)) A = cutAt sep (s.data.toList.drop (k + 1)) (qnext o e s[k]).1 (qnext o e s[k]).2 ((s.data.toList.drop f).take (k + 1 - f)) A := by
  rw [drop_at h]
  have h1 : k - f < (s.data.toList.drop f).length := by simp; omega
  have h2 : (s.data.toList.drop f).take (k + 1 - f) = (s.data.toList.drop f).take (k - f) ++ [s[k]] := by
    rw [show k + 1 - f = (k - f) + 1 from by omega, List.take_succ_eq_append_getElem h1]
    congr 1
    simp [ByteArray.getElem_eq_getElem_data, show f + (k - f) = k from by omega]
  rw [h2]
  rw [cutAt, if_neg hn]
theorem cut_sep {sep : UInt8} {s : ByteArray} {k f : Nat} {e : Bool} {A : List (List UInt8)} (h : k < s.size) (hs : s[k] = sep) :
    cutAt sep (s.data.toList.drop k) false e ((s.data.toList.drop f).take (k - f)) A = cutAt sep (s.data.toList.drop (k + 1)) false false ((s.data.toList.drop (k + 1)).take (k + 1 - (k + 1))) (addP A ((s.data.toList.drop f).take (k - f))) := by
  rw [drop_at h, cutAt, if_pos ⟨rfl, hs⟩]
  simp
theorem cut_end {sep : UInt8} {s : ByteArray} {k f : Nat} {o e : Bool} {A : List (List UInt8)} (h : ¬ k < s.size) :
    cutAt sep (s.data.toList.drop k) o e ((s.data.toList.drop f).take (k - f)) A = if o then none else some (addP A ((s.data.toList.drop f).take (s.size - f))) := by
  rw [drop_nil (by omega), cutAt, List.take_of_length_le (by simp; omega), List.take_of_length_le (l := s.data.toList.drop f) (by simp)]
theorem qn_out (e : Bool) {c : UInt8} (h : ((c.toNat : Int) != 34) = true) : qnext false e c = (false, false) := by
  have := bne_iff_ne.1 h; simp [qnext, this]
theorem qn_open (e : Bool) {c : UInt8} (h : ((c.toNat : Int) != 34) = false) : qnext false e c = (true, false) := by
  rw [bne_eq_false_iff_eq] at h; simp [qnext, h]
theorem qn_esc (c : UInt8) : qnext true true c = (true, false) := rfl
theorem qn_back {c : UInt8} (h : ((c.toNat : Int) == 92) = true) : qnext true false c = (true, true) := by
  have := beq_iff_eq.1 h; simp [qnext, this]
theorem qn_close {c : UInt8} (h : ((c.toNat : Int) == 92) = false) (h2 : ((c.toNat : Int) == 34) = true) : qnext true false c = (false, false) := by
  have a := beq_eq_false_iff_ne.1 h; have b := beq_iff_eq.1 h2; simp [qnext, b]
theorem qn_held {c : UInt8} (h : ((c.toNat : Int) == 92) = false) (h2 : ((c.toNat : Int) == 34) = false) : qnext true false c = (true, false) := by
  have a := beq_eq_false_iff_ne.1 h; have b := beq_eq_false_iff_ne.1 h2; simp [qnext, a, b]
end Go.Proofs.YtopgeclecpaecaaGreatDoor

/- Plain lists of bytes: what small letters, blanks and tokens are to the others. -/
namespace Go.Proofs.YtopgeclecpaecaaGreatDoor
theorem lowB_idem (c : UInt8) : lowB (lowB c) = lowB c := by
  by_cases h : 65 ≤ (c.toNat : Int) ∧ (c.toNat : Int) ≤ 90
  · exact low_same (by rw [low_up h.1 h.2]; omega)
  · rw [low_same h, low_same h]
theorem lower_idem (l : List UInt8) : lower (lower l) = lower l := by
  unfold lower; rw [List.map_map]; congr 1; funext c; exact lowB_idem c
theorem lower_len (l : List UInt8) : (lower l).length = l.length := by simp [lower]
theorem ltrim_idem_of {l : List UInt8} (h : ∀ c r, l = c :: r → blankB c = false) : ltrim l = l := by
  cases l with
  | nil => rfl
  | cons c r => simp [ltrim, h c r rfl]
theorem rtrim_idem_of {l : List UInt8} (h : ∀ r c, l = r ++ [c] → blankB c = false) : rtrim l = l := by
  rcases List.eq_nil_or_concat l with rfl | ⟨r, c, rfl⟩
  · rfl
  · rw [List.concat_eq_append] at h ⊢; rw [rtrim_snoc, if_neg (by simp [h r c rfl])]
theorem dropWhile_head {p : UInt8 → Bool} : ∀ {l : List UInt8} {c : UInt8} {r : List UInt8}, l.dropWhile p = c :: r → p c = false
  | [], _, _, h => by simp at h
  | a :: t, c, r, h => by
    rw [List.dropWhile_cons] at h
    split at h
    · exact dropWhile_head h
    · rename_i hp
      obtain ⟨rfl, _⟩ := List.cons.inj h
      simpa using hp
theorem rtrim_prefix (l : List UInt8) : rtrim l <+: l := by
  unfold rtrim
  have h := List.dropWhile_suffix (l := l.reverse) blankB
  have := List.reverse_prefix.2 h
  simpa using this
theorem trim_idem (l : List UInt8) : trim (trim l) = trim l := by
  have h1 : ltrim (trim l) = trim l := by
    refine ltrim_idem_of fun c r h => ?_
    obtain ⟨t, ht⟩ := rtrim_prefix (ltrim l)
    have h2 : ltrim l = c :: (r ++ t) := by rw [← ht]; show trim l ++ t = _; rw [h]; rfl
    exact dropWhile_head h2
  have h2 : rtrim (trim l) = trim l := by
    refine rtrim_idem_of fun r c h => ?_
    have h3 : (ltrim l).reverse.dropWhile blankB = c :: r.reverse := by
      have := congrArg List.reverse h
      unfold trim rtrim at this
      simpa using this
    exact dropWhile_head h3
  show rtrim (ltrim (trim l)) = _
  rw [h1, h2]
theorem contains_trim (l : List UInt8) : Lib.contains l (trim l) = true := by
  unfold Lib.contains
  rw [decide_eq_true_iff]
  obtain ⟨t, ht⟩ := rtrim_prefix (ltrim l)
  obtain ⟨a, ha⟩ := List.dropWhile_suffix (l := l) blankB
  have hd : l.drop a.length = ltrim l := by
    have := congrArg (List.drop a.length) ha
    rw [List.drop_left] at this
    exact this.symm
  rcases Lib.index_spec l (trim l) with ⟨_, h⟩ | ⟨i, h, _⟩
  · have h1 := h a.length (by have := congrArg List.length ha; simp only [List.length_append] at this; omega)
    unfold Lib.occAt at h1
    rw [hd] at h1
    have h2 : (trim l).isPrefixOf (ltrim l) = true := List.isPrefixOf_iff_prefix.2 ⟨t, ht⟩
    rw [h2] at h1; cases h1
  · rw [h]; omega
theorem tok_not {c : UInt8} (h : tokB c = true) : blankB c = false ∧ ¬ (c.toNat : Int) = 34 := by
  unfold tokB tokI at h
  rw [decide_eq_true_iff] at h
  unfold blankB blankI
  rw [decide_eq_false_iff_not]
  omega
theorem trim_token {l : List UInt8} (h : token l = true) : trim l = l := by
  unfold token at h
  simp only [Bool.and_eq_true, List.all_eq_true] at h
  have h1 : ltrim l = l := ltrim_idem_of fun c r hl => (tok_not (h.2 c (by rw [hl]; simp))).1
  show rtrim (ltrim l) = l
  rw [h1]
  exact rtrim_idem_of fun r c hl => (tok_not (h.2 c (by rw [hl]; simp))).1
theorem unq_token {l : List UInt8} (h : token l = true) : unquote l = none := by
  unfold token at h
  simp only [Bool.and_eq_true, List.all_eq_true] at h
  cases l with
  | nil => rfl
  | cons c r => rw [unquote, if_neg (tok_not (h.2 c (by simp))).2]
theorem cut_plain {sep : UInt8} : ∀ (l cur : List UInt8) (A : List (List UInt8)), (∀ c ∈ l, ¬ (c.toNat : Int) = 34 ∧ c ≠ sep) → cutAt sep l false false cur A = some (addP A (cur ++ l))
  | [], cur, A, _ => by simp [cutAt]
  | c :: r, cur, A, h => by
    have hc := h c (by simp)
    rw [cutAt, if_neg (fun e => hc.2 e.2), qn_out false (bne_iff_ne.2 hc.1), cut_plain r _ _ (fun x hx => h x (by simp [hx]))]
    simp
theorem split_token {l : List UInt8} {sep : UInt8} (h : token l = true) (hs : badSep sep = false) (hn : ∀ c ∈ l, c ≠ sep) : splitE l sep = 0 ∧ splitL l sep = [l] := by
  have ht := h
  unfold token at h
  simp only [Bool.and_eq_true, List.all_eq_true] at h
  have hc := cut_plain (sep := sep) l [] [] (fun c hc => ⟨(tok_not (h.2 c hc)).2, hn c hc⟩)
  rw [List.nil_append] at hc
  have hp : addP [] l = [l] := by
    unfold addP; rw [trim_token ht]
    cases l with
    | nil => simp at h
    | cons c r => rfl
  rw [hp] at hc
  constructor <;> simp [splitE, splitL, hs, hc]
end Go.Proofs.YtopgeclecpaecaaGreatDoor

/- Lists of header fields, plainly: names, values, what is set and taken out, the names that go no further. Nothing of the program is read here. -/
namespace Go.Proofs.YtopgeclecpaecaaGreatDoor
/-- a field: its name, its value -/
abbrev Fld := List UInt8 × List UInt8
def sameN (a b : List UInt8) : Bool := lower a == lower b
def valsL (l : List Fld) (n : List UInt8) : List (List UInt8) := (l.filter fun f => sameN f.1 n).map (·.2)
def getL (l : List Fld) (n : List UInt8) : List UInt8 := Lib.join (valsL l n) [44, 32]
def hasN (names : List (List UInt8)) (n : List UInt8) : Bool := names.any fun x => sameN x n
def delL (l : List Fld) (names : List (List UInt8)) : List Fld := l.filter fun f => !hasN names f.1
def setL : List Fld → List UInt8 → List UInt8 → List Fld
  | [], n, v => [(n, v)]
  | f :: r, n, v => if sameN f.1 n then (f.1, v) :: delL r [n] else f :: setL r n v
/-- the nine names -/
def nine : List (List UInt8) :=
  [[99,111,110,110,101,99,116,105,111,110], [107,101,101,112,45,97,108,105,118,101], [112,114,111,120,121,45,99,111,110,110,101,99,116,105,111,110], [116,101],
   [116,114,97,105,108,101,114], [116,114,97,110,115,102,101,114,45,101,110,99,111,100,105,110,103], [117,112,103,114,97,100,101],
   [112,114,111,120,121,45,97,117,116,104,101,110,116,105,99,97,116,101], [112,114,111,120,121,45,97,117,116,104,111,114,105,122,97,116,105,111,110]]
def conn : List UInt8 := [99,111,110,110,101,99,116,105,111,110]
def addN (acc : List (List UInt8)) (x : List UInt8) : List (List UInt8) := if token x then (if hasN acc x then acc else acc ++ [lower x]) else acc
def addV (acc : List (List UInt8)) (v : List UInt8) : List (List UInt8) := (splitL v 44).foldl addN acc
def hopL (l : List Fld) : List (List UInt8) := (valsL l conn).foldl addV nine
def cleanL (l : List Fld) : List Fld := delL l (hopL l)

theorem sameN_refl (a : List UInt8) : sameN a a = true := by simp [sameN]
theorem sameN_symm (a b : List UInt8) : sameN a b = sameN b a := by simp [sameN, Bool.beq_comm]
theorem sameN_eq {a b : List UInt8} (h : sameN a b = true) (c : List UInt8) : sameN a c = sameN b c := by
  have : lower a = lower b := by simpa [sameN] using h
  simp [sameN, this]
theorem sameN_eqR {a b : List UInt8} (h : sameN a b = true) (c : List UInt8) : sameN c a = sameN c b := by
  rw [sameN_symm c a, sameN_symm c b]; exact sameN_eq h c
theorem sameN_lower (a b : List UInt8) : sameN (lower a) b = sameN a b := by simp [sameN, lower_idem]
theorem hasN_one (n x : List UInt8) : hasN [n] x = sameN n x := by simp [hasN]
theorem hasN_of_same {names : List (List UInt8)} {a b : List UInt8} (h : sameN a b = true) : hasN names a = hasN names b := by
  unfold hasN
  congr 1
  funext x
  exact sameN_eqR h x

theorem filter_none {α : Type} {p : α → Bool} {l : List α} (h : ∀ x ∈ l, p x = false) : l.filter p = [] := by
  rw [List.filter_eq_nil_iff]; intro x hx; rw [h x hx]; simp
theorem filter_same {α : Type} {p q : α → Bool} {l : List α} (h : ∀ x ∈ l, p x = q x) : l.filter p = l.filter q := List.filter_congr h

theorem vals_del {l : List Fld} {names : List (List UInt8)} {n : List UInt8} (h : hasN names n = true) : valsL (delL l names) n = [] := by
  unfold valsL delL
  rw [List.filter_filter, filter_none (fun f _ => ?_)]; rfl
  cases hs : sameN f.1 n
  · rfl
  · rw [hasN_of_same hs, h]; rfl
theorem vals_del_other {l : List Fld} {names : List (List UInt8)} {n : List UInt8} (h : hasN names n = false) : valsL (delL l names) n = valsL l n := by
  unfold valsL delL
  rw [List.filter_filter]
  congr 1
  refine filter_same fun f _ => ?_
  cases hs : sameN f.1 n
  · rfl
  · rw [hasN_of_same hs, h]; rfl
theorem vals_cons (f : Fld) (l : List Fld) (n : List UInt8) : valsL (f :: l) n = if sameN f.1 n then f.2 :: valsL l n else valsL l n := by
  unfold valsL; rw [List.filter_cons]; split <;> simp
theorem vals_set (l : List Fld) (n v : List UInt8) : valsL (setL l n v) n = [v] := by
  induction l with
  | nil => simp [setL, valsL, sameN_refl]
  | cons f r ih =>
    unfold setL
    cases h : sameN f.1 n
    · simp only [Bool.false_eq_true, if_false]; rw [vals_cons, h]; simpa using ih
    · simp only [if_true]; rw [vals_cons]; simp only [h, if_true]
      rw [vals_del (by rw [hasN_one]; exact sameN_refl n)]
theorem vals_set_other {l : List Fld} {n v o : List UInt8} (h : sameN n o = false) : valsL (setL l n v) o = valsL l o := by
  induction l with
  | nil => simp [setL, valsL, h]
  | cons f r ih =>
    unfold setL
    cases hs : sameN f.1 n
    · simp only [Bool.false_eq_true, if_false]; rw [vals_cons, vals_cons, ih]
    · simp only [if_true]
      have hf : sameN f.1 o = false := (sameN_eq hs o).trans h
      rw [vals_cons, vals_cons]
      simp only [hf, Bool.false_eq_true, if_false]
      exact vals_del_other (by rw [hasN_one]; exact h)
theorem del_le (l : List Fld) (names : List (List UInt8)) : (delL l names).length ≤ l.length := List.length_filter_le _ _

/-- what stands ahead of the first field of a name -/
def firstN (l : List Fld) (n : List UInt8) : List Fld := l.takeWhile fun f => !sameN f.1 n
theorem set_none {l : List Fld} {n : List UInt8} (v : List UInt8) (h : l.any (fun f => sameN f.1 n) = false) : setL l n v = delL l [n] ++ [(n, v)] := by
  induction l with
  | nil => rfl
  | cons f r ih =>
    simp only [List.any_cons, Bool.or_eq_false_iff] at h
    unfold setL
    simp only [h.1, Bool.false_eq_true, if_false]
    have hd : delL (f :: r) [n] = f :: delL r [n] := by unfold delL; rw [List.filter_cons, hasN_one, sameN_symm, h.1]; rfl
    rw [hd, ih h.2]; rfl
theorem set_at {l : List Fld} {n : List UInt8} (v : List UInt8) : ∀ {k : Nat} (hk : k < l.length), sameN l[k].1 n = true → (∀ j (hj : j < k), sameN (l[j]'(by omega)).1 n = false) →
    setL l n v = (delL l [n]).take k ++ (l[k].1, v) :: (delL l [n]).drop k ∧ k ≤ (delL l [n]).length := by
  induction l with
  | nil => intro k hk; exact absurd hk (by simp)
  | cons f r ih =>
    intro k hk hs hn
    cases k with
    | zero =>
      unfold setL
      have hs' : sameN f.1 n = true := hs
      simp only [hs', if_true]
      have hd : delL (f :: r) [n] = delL r [n] := by unfold delL; rw [List.filter_cons, hasN_one, sameN_symm, hs']; rfl
      rw [hd]; simp
    | succ k =>
      have h0 : sameN f.1 n = false := hn 0 (by omega)
      have hd : delL (f :: r) [n] = f :: delL r [n] := by unfold delL; rw [List.filter_cons, hasN_one, sameN_symm, h0]; rfl
      obtain ⟨h1, h2⟩ := ih (k := k) (by simpa using hk) hs (fun j hj => hn (j + 1) (by omega))
      unfold setL
      simp only [h0, Bool.false_eq_true, if_false]
      rw [hd, h1]
      simp only [List.getElem_cons_succ, List.take_succ_cons, List.drop_succ_cons, List.cons_append, List.length_cons]
      exact ⟨trivial, by omega⟩

theorem any_of_has {names : List (List UInt8)} {x y : List UInt8} (hx : x ∈ names) (h : sameN x y = true) : hasN names y = true := by
  unfold hasN; rw [List.any_eq_true]; exact ⟨x, hx, h⟩
theorem addN_sub (acc : List (List UInt8)) (x : List UInt8) : ∀ y ∈ acc, y ∈ addN acc x := fun y hy => by
  unfold addN; split
  · split
    · exact hy
    · exact List.mem_append_left _ hy
  · exact hy
theorem addV_sub (v : List UInt8) : ∀ (acc : List (List UInt8)), ∀ y ∈ acc, y ∈ addV acc v := by
  unfold addV
  generalize splitL v 44 = p
  induction p with
  | nil => intro acc y hy; exact hy
  | cons x r ih => intro acc y hy; exact ih _ y (addN_sub acc x y hy)
theorem hops_sub (vs : List (List UInt8)) : ∀ (acc : List (List UInt8)), ∀ y ∈ acc, y ∈ vs.foldl addV acc := by
  induction vs with
  | nil => intro acc y hy; exact hy
  | cons v r ih => intro acc y hy; exact ih _ y (addV_sub v acc y hy)
theorem nine_hop (l : List Fld) : ∀ y ∈ nine, y ∈ hopL l := hops_sub _ nine
theorem conn_nine : conn ∈ nine := by simp [conn, nine]
theorem clean_none {l : List Fld} {x : List UInt8} (hx : x ∈ hopL l) : valsL (cleanL l) x = [] := vals_del (any_of_has hx (sameN_refl x))
theorem hop_clean (l : List Fld) : hopL (cleanL l) = nine := by
  rw [hopL, clean_none (nine_hop l conn conn_nine)]; rfl
theorem clean_clean (l : List Fld) : cleanL (cleanL l) = cleanL l := by
  have h : cleanL (cleanL l) = delL (cleanL l) nine := by rw [cleanL, hop_clean]
  rw [h]
  unfold delL
  rw [List.filter_eq_self]
  intro f hf
  have h1 : f ∈ delL l (hopL l) := hf
  rw [delL, List.mem_filter] at h1
  have h2 := h1.2
  rw [Bool.not_eq_true'] at h2 ⊢
  unfold hasN at h2 ⊢
  rw [List.any_eq_false] at h2 ⊢
  exact fun x hx => h2 x (nine_hop l x hx)

/-- names in small letters alone -/
def lows (acc : List (List UInt8)) : Prop := ∀ x ∈ acc, lower x = x
theorem lows_nine : lows nine := by
  intro x hx
  have h : nine.all (fun y => lower y == y) = true := by decide
  simpa using List.all_eq_true.1 h x hx
theorem lows_addN {acc : List (List UInt8)} (h : lows acc) (x : List UInt8) : lows (addN acc x) := by
  unfold addN
  split
  · split
    · exact h
    · intro y hy
      rcases List.mem_append.1 hy with hy | hy
      · exact h y hy
      · rw [List.mem_singleton.1 hy, lower_idem]
  · exact h
theorem lows_mem {acc : List (List UInt8)} (h : lows acc) (x : List UInt8) : hasN acc x = acc.any (fun y => y == lower x) := by
  unfold hasN
  rw [Bool.eq_iff_iff, List.any_eq_true, List.any_eq_true]
  constructor
  · rintro ⟨y, hy, h1⟩; exact ⟨y, hy, by rw [sameN, h y hy] at h1; exact h1⟩
  · rintro ⟨y, hy, h1⟩; exact ⟨y, hy, by rw [sameN, h y hy]; exact h1⟩

theorem join_snoc (L : List (List UInt8)) (x sep : List UInt8) (h : L ≠ []) : Lib.join (L ++ [x]) sep = Lib.join L sep ++ sep ++ x := by
  cases L with
  | nil => exact absurd rfl h
  | cons a r =>
    rw [List.cons_append, Lib.join_cons, Lib.join_cons]
    simp [Lib.joinTail]

/-- may a list be gone through -/
def sizeL (l : List Fld) : Nat := (l.map fun f => f.1.length + f.2.length).sum
def fewB (l : List Fld) : Bool := decide (l.length ≤ 80) && decide (sizeL l ≤ 12000)
theorem sizeL_cons (f : Fld) (l : List Fld) : sizeL (f :: l) = f.1.length + f.2.length + sizeL l := by simp [sizeL]
theorem sizeL_append (a b : List Fld) : sizeL (a ++ b) = sizeL a + sizeL b := by simp [sizeL]
theorem sizeL_mem {l : List Fld} {f : Fld} (h : f ∈ l) : f.1.length + f.2.length ≤ sizeL l := by
  induction l with
  | nil => cases h
  | cons g r ih =>
    rw [sizeL_cons]
    rcases List.mem_cons.1 h with rfl | h
    · omega
    · have := ih h; omega
theorem sizeL_filter (p : Fld → Bool) (l : List Fld) : sizeL (l.filter p) ≤ sizeL l := by
  induction l with
  | nil => exact Nat.le_refl _
  | cons f r ih => rw [List.filter_cons, sizeL_cons]; split
                   · rw [sizeL_cons]; omega
                   · omega
theorem vals_flat (l : List Fld) (n : List UInt8) : (valsL l n).flatten.length ≤ sizeL l := by
  induction l with
  | nil => simp [valsL]
  | cons f r ih =>
    rw [vals_cons, sizeL_cons]; split
    · simp only [List.flatten_cons, List.length_append]; omega
    · omega
theorem vals_len (l : List Fld) (n : List UInt8) : (valsL l n).length ≤ l.length := by unfold valsL; rw [List.length_map]; exact List.length_filter_le _ _
theorem get_len (l : List Fld) (n : List UInt8) : (getL l n).length ≤ sizeL l + 2 * l.length := by
  unfold getL
  have h : ∀ L : List (List UInt8), (Lib.join L [44, 32]).length ≤ L.flatten.length + 2 * L.length := by
    intro L
    cases L with
    | nil => simp [Lib.join_nil]
    | cons x r =>
      rw [Lib.join_cons, List.length_append, List.flatten_cons, List.length_append, List.length_cons]
      have : (Lib.joinTail [44, 32] r).length = r.flatten.length + 2 * r.length := by
        unfold Lib.joinTail
        induction r with
        | nil => rfl
        | cons y r ih => simp only [List.map_cons, List.flatten_cons, List.length_append, List.length_cons, ih, List.length_nil]; omega
      omega
  have h1 := h (valsL l n)
  have h2 := vals_flat l n
  have h3 := vals_len l n
  omega
end Go.Proofs.YtopgeclecpaecaaGreatDoor

/- Plain lists of bytes: a list put together of tokens and quoted texts, with blanks and commas, is cut into them. -/
namespace Go.Proofs.YtopgeclecpaecaaGreatDoor
/-- a piece: nothing of it is cut, nothing is trimmed of it, and it is not empty -/
structure Piece (x : List UInt8) : Prop where
  ne : x ≠ []
  head : ∀ c r, x = c :: r → blankB c = false
  last : ∀ r c, x = r ++ [c] → blankB c = false
  bal : ∀ r cur A, cutAt 44 (x ++ r) false false cur A = cutAt 44 r false false (cur ++ x) A

theorem cut_plain2 {sep : UInt8} : ∀ (l r cur : List UInt8) (A : List (List UInt8)), (∀ c ∈ l, ¬ (c.toNat : Int) = 34 ∧ c ≠ sep) → cutAt sep (l ++ r) false false cur A = cutAt sep r false false (cur ++ l) A
  | [], r, cur, A, _ => by simp
  | c :: t, r, cur, A, h => by
    have hc := h c (by simp)
    rw [List.cons_append, cutAt, if_neg (fun e => hc.2 e.2), qn_out false (bne_iff_ne.2 hc.1), cut_plain2 t r _ _ (fun x hx => h x (by simp [hx]))]
    simp
theorem cut_in {sep : UInt8} : ∀ (l r cur : List UInt8) (A : List (List UInt8)), cutAt sep (quoteB l ++ r) true false cur A = cutAt sep r true false (cur ++ quoteB l) A
  | [], r, cur, A => by simp [quoteB]
  | c :: t, r, cur, A => by
    have hq : quoteB (c :: t) = (if (c.toNat : Int) = 34 ∨ (c.toNat : Int) = 92 then [92, c] else [c]) ++ quoteB t := by simp [quoteB]
    rw [hq]
    by_cases h1 : (c.toNat : Int) = 34 ∨ (c.toNat : Int) = 92
    · rw [if_pos h1]
      show cutAt sep (92 :: c :: (quoteB t ++ r)) true false cur A = _
      rw [cutAt, if_neg (by simp), qn_back (by rfl)]
      show cutAt sep (c :: (quoteB t ++ r)) true true _ A = _
      rw [cutAt, if_neg (by simp), qn_esc]
      show cutAt sep (quoteB t ++ r) true false _ A = _
      rw [cut_in t r]
      simp
    · rw [if_neg h1]
      show cutAt sep (c :: (quoteB t ++ r)) true false cur A = _
      rw [cutAt, if_neg (by simp), qn_held (beq_eq_false_iff_ne.2 fun e => h1 (.inr e)) (beq_eq_false_iff_ne.2 fun e => h1 (.inl e))]
      show cutAt sep (quoteB t ++ r) true false _ A = _
      rw [cut_in t r]
      simp
theorem piece_token {x : List UInt8} (h : token x = true) : Piece x := by
  have h0 := h
  unfold token at h
  simp only [Bool.and_eq_true, List.all_eq_true] at h
  refine ⟨by rintro rfl; simp at h, fun c r e => (tok_not (h.2 c (by rw [e]; simp))).1, fun r c e => (tok_not (h.2 c (by rw [e]; simp))).1, fun r cur A => cut_plain2 x r cur A fun c hc => ⟨(tok_not (h.2 c hc)).2, ?_⟩⟩
  rintro rfl
  have := h.2 44 hc
  revert this; decide
theorem piece_quote {l : List UInt8} (h : l.all mayB = true) : Piece (quoteS l) := by
  rw [quoteS, if_pos h]
  refine ⟨by simp, fun c r e => ?_, fun r c e => ?_, fun r cur A => ?_⟩
  · have : c = 34 := (List.cons.inj e).1.symm
    rw [this]; decide
  · have e2 : [34] = [c] := (List.append_inj' (s₁ := 34 :: quoteB l) e rfl).2
    rw [← (List.cons.inj e2).1]; decide
  · show cutAt 44 (34 :: (quoteB l ++ [34] ++ r)) false false cur A = _
    rw [cutAt, if_neg (by decide), qn_open false (by rfl), List.append_assoc]
    show cutAt 44 (quoteB l ++ ([34] ++ r)) true false _ A = _
    rw [cut_in]
    show cutAt 44 (34 :: r) true false _ A = _
    rw [cutAt, if_neg (by simp), qn_close (by rfl) (by rfl)]
    simp

/-- blanks -/
def gaps (g : List UInt8) : Prop := ∀ c ∈ g, blankB c = true
theorem gap_plain {g : List UInt8} (h : gaps g) : ∀ c ∈ g, ¬ (c.toNat : Int) = 34 ∧ c ≠ (44 : UInt8) := fun c hc => by
  have hb := h c hc
  unfold blankB blankI at hb
  rw [decide_eq_true_iff] at hb
  exact ⟨by omega, by rintro rfl; revert hb; decide⟩
theorem ltrim_gap {g : List UInt8} (h : gaps g) (l : List UInt8) : ltrim (g ++ l) = ltrim l := by
  induction g with
  | nil => rfl
  | cons c t ih =>
    have hc : blankB c = true := h c (by simp)
    have := ih (fun x hx => h x (by simp [hx]))
    unfold ltrim at this ⊢
    rw [List.cons_append, List.dropWhile_cons, if_pos hc, this]
theorem rtrim_gap (l g : List UInt8) (h : gaps g) : rtrim (l ++ g) = rtrim l := by
  show (ltrim (l ++ g).reverse).reverse = (ltrim l.reverse).reverse
  rw [List.reverse_append, ltrim_gap (fun c hc => h c (by simpa using hc))]
theorem trim_gaps {g x : List UInt8} (hg : gaps g) (hx : Piece x) : trim (g ++ x ++ g) = x := by
  show rtrim (ltrim (g ++ x ++ g)) = x
  rw [List.append_assoc, ltrim_gap hg]
  have h1 : ltrim (x ++ g) = x ++ g := ltrim_idem_of fun c r e => by
    cases x with
    | nil => exact absurd rfl hx.ne
    | cons d t => exact (List.cons.inj e).1 ▸ hx.head d t rfl
  rw [h1, rtrim_gap x g hg]
  exact rtrim_idem_of hx.last
theorem trim_blank {g : List UInt8} (hg : gaps g) : trim g = [] := by
  have h := ltrim_gap hg []
  rw [List.append_nil] at h
  show rtrim (ltrim g) = []
  rw [h]; rfl
theorem cut_comma (r cur : List UInt8) (A : List (List UInt8)) : cutAt 44 (44 :: r) false false cur A = cutAt 44 r false false [] (addP A cur) := by
  rw [cutAt, if_pos ⟨rfl, rfl⟩]
theorem addP_piece {g x : List UInt8} (hg : gaps g) (hx : Piece x) (A : List (List UInt8)) : addP A (g ++ x ++ g) = A ++ [x] := by
  unfold addP
  rw [trim_gaps hg hx, if_neg (by have := hx.ne; simp [this])]
theorem cut_all {g : List UInt8} (hg : gaps g) : ∀ (W : List (List UInt8)) (A : List (List UInt8)), W ≠ [] → (∀ x ∈ W, Piece x) → cutAt 44 (Lib.join W (g ++ [44] ++ g) ++ g ++ [44]) false false g A = some (A ++ W)
  | [], _, h, _ => absurd rfl h
  | [x], A, _, h => by
    have hx := h x (by simp)
    have e : Lib.join [x] (g ++ [44] ++ g) ++ g ++ [44] = x ++ (g ++ (44 :: [])) := by simp [Lib.join, List.intercalate]
    rw [e, hx.bal, cut_plain2 g _ _ _ (gap_plain hg), cut_comma, addP_piece hg hx]
    simp [cutAt, addP, trim, ltrim, rtrim]
  | x :: y :: r, A, _, h => by
    have hx := h x (by simp)
    have e : Lib.join (x :: y :: r) (g ++ [44] ++ g) ++ g ++ [44] = x ++ (g ++ (44 :: (g ++ (Lib.join (y :: r) (g ++ [44] ++ g) ++ g ++ [44])))) := by simp [Lib.join, List.intercalate]
    rw [e, hx.bal, cut_plain2 g _ _ _ (gap_plain hg), cut_comma, addP_piece hg hx, cut_plain2 g _ _ _ (gap_plain hg), List.nil_append, cut_all hg (y :: r) _ (by simp) (fun z hz => h z (by simp [hz]))]
    simp
theorem split_all {g : List UInt8} (hg : gaps g) (W : List (List UInt8)) (hW : ∀ x ∈ W, Piece x) (hl : W.length ≤ 64) :
    splitE (g ++ Lib.join W (g ++ [44] ++ g) ++ g ++ [44]) 44 = 0 ∧ splitL (g ++ Lib.join W (g ++ [44] ++ g) ++ g ++ [44]) 44 = W := by
  have hc : cutAt 44 (g ++ Lib.join W (g ++ [44] ++ g) ++ g ++ [44]) false false [] [] = some W := by
    by_cases h0 : W = []
    · subst h0
      have e : g ++ Lib.join [] (g ++ [44] ++ g) ++ g ++ [44] = g ++ (g ++ (44 :: [])) := by simp [Lib.join, List.intercalate]
      rw [e, cut_plain2 g _ _ _ (gap_plain hg), cut_plain2 g _ _ _ (gap_plain hg), cut_comma]
      have hb : trim ([] ++ g ++ g) = [] := trim_blank (by intro c hc; simp at hc; exact hg c hc)
      unfold addP
      rw [hb]
      simp [cutAt, addP, trim, ltrim, rtrim]
    · have e : g ++ Lib.join W (g ++ [44] ++ g) ++ g ++ [44] = g ++ (Lib.join W (g ++ [44] ++ g) ++ g ++ [44]) := by simp
      rw [e, cut_plain2 g _ _ _ (gap_plain hg), List.nil_append, cut_all hg W [] h0 hW, List.nil_append]
  have hb : badSep 44 = false := by decide
  constructor <;> simp only [splitE, splitL, hb, hc]
  · rw [if_neg (by simp), if_neg (by omega)]
  · rw [if_neg (by simp), if_neg (by omega)]

/-- what the statement makes of the text at place k: nothing, the token, or the text in quotes -/
def wantAt (k : Nat) (x : List UInt8) : List (List UInt8) :=
  if 100 < x.length ∨ x.all mayB = false then [] else if token x = true ∧ k % 2 = 0 then [x] else [quoteS x]
def wantTo (f : Nat → List UInt8) : Nat → List (List UInt8)
  | 0 => []
  | k + 1 => wantTo f k ++ wantAt k (f k)
theorem wantAt_piece (k : Nat) (x : List UInt8) : ∀ y ∈ wantAt k x, Piece y := by
  unfold wantAt
  split
  · intro y hy; cases hy
  · rename_i h
    have hm : x.all mayB = true := by cases hh : x.all mayB with | true => rfl | false => exact absurd (.inr hh) h
    split
    · rename_i ht; intro y hy; rw [List.mem_singleton] at hy; subst hy; exact piece_token ht.1
    · intro y hy; rw [List.mem_singleton] at hy; subst hy; exact piece_quote hm
theorem wantTo_piece (f : Nat → List UInt8) : ∀ k, ∀ y ∈ wantTo f k, Piece y
  | 0 => by intro y hy; cases hy
  | k + 1 => by
    intro y hy
    rcases List.mem_append.1 hy with h | h
    · exact wantTo_piece f k y h
    · exact wantAt_piece k _ y h
theorem wantAt_len (k : Nat) (x : List UInt8) : (wantAt k x).length ≤ 1 ∧ (wantAt k x).flatten.length ≤ 202 := by
  unfold wantAt
  split
  · simp
  · rename_i h
    have hl : x.length ≤ 100 := by omega
    have := quoteS_len x
    split <;> simp <;> omega
theorem wantTo_len (f : Nat → List UInt8) : ∀ k, (wantTo f k).length ≤ k ∧ (wantTo f k).flatten.length ≤ 202 * k
  | 0 => by simp [wantTo]
  | k + 1 => by
    have h1 := wantTo_len f k
    have h2 := wantAt_len k (f k)
    simp only [wantTo, List.length_append, List.flatten_append]
    omega
theorem join_len (sep : List UInt8) : ∀ L : List (List UInt8), (Lib.join L sep).length ≤ L.flatten.length + L.length * sep.length
  | [] => by simp [Lib.join, List.intercalate]
  | [x] => by simp [Lib.join, List.intercalate]
  | x :: y :: r => by
    have h := join_len sep (y :: r)
    have e : Lib.join (x :: y :: r) sep = x ++ sep ++ Lib.join (y :: r) sep := by simp [Lib.join, List.intercalate]
    rw [e]
    simp only [List.length_append, List.flatten_cons, List.length_cons, Nat.add_mul, Nat.one_mul] at h ⊢
    omega
end Go.Proofs.YtopgeclecpaecaaGreatDoor

/- Lists of header fields, plainly: which may be, their text, and what a text is as fields. Nothing of the program is read here. -/
namespace Go.Proofs.YtopgeclecpaecaaGreatDoor
def valV (v : List UInt8) : Bool := v.all mayB && (trim v == v)
def lenF (f : Fld) : Nat := f.1.length + 2 + f.2.length
def mayF (f : Fld) : Bool := token f.1 && valV f.2
def longF (f : Fld) : Bool := decide (2048 < lenF f)
def chkF (f : Fld) : Int := if mayF f then (if longF f then 3 else 0) else 4
def firstE : List Fld → Int
  | [] => 0
  | f :: r => if chkF f = 0 then firstE r else chkF f
def checkL (l : List Fld) : Int := if 64 < l.length then 3 else firstE l
def lineL (f : Fld) : List UInt8 := f.1 ++ [58, 32] ++ f.2
def linesL (l : List Fld) : List UInt8 := l.flatMap fun f => lineL f ++ [13, 10]
def putL (l : List Fld) : List UInt8 := if checkL l = 0 then linesL l else []
/-- the field of a line (without its end), and why it is none -/
def oneF (s : List UInt8) : Fld := ((Lib.cut s [58]).1, trim (Lib.cut s [58]).2.1)
def oneE (s : List UInt8) : Int := if (Lib.cut s [58]).2.2 then chkF (oneF s) else 4
def cutN (s : List UInt8) : List UInt8 × List UInt8 × Bool := Lib.cut s [13, 10]
theorem cut_le (s sep : List UInt8) : (Lib.cut s sep).1.length ≤ s.length ∧ (Lib.cut s sep).2.1.length ≤ s.length := by
  unfold Lib.cut; split
  · exact ⟨List.length_take_le' _ _, by simp⟩
  · exact ⟨Nat.le_refl _, by simp⟩
theorem cutN_lt {s : List UInt8} (h : (cutN s).2.2 = true) : (cutN s).2.1.length < s.length := by
  unfold cutN Lib.cut at h ⊢
  split at h
  · rename_i h0
    rw [if_pos h0]
    have := Lib.index_room s [13, 10] h0
    simp only [List.length_drop, List.length_cons, List.length_nil] at this ⊢
    omega
  · cases h
/-- what a text is as fields, behind those that were read -/
def parseW (s : List UInt8) (out : List Fld) : List Fld × Int :=
  if _h : (cutN s).2.2 = true then
    if out.length = 64 ∨ 2048 < (cutN s).1.length then ([], 3)
    else if oneE (cutN s).1 = 0 then parseW (cutN s).2.1 (out ++ [oneF (cutN s).1]) else ([], oneE (cutN s).1)
  else if s = [] then (out, 0) else ([], 4)
termination_by s.length
decreasing_by exact cutN_lt (by assumption)
def parseL (s : List UInt8) : List Fld × Int := parseW s []

theorem chkF_cases (f : Fld) : (mayF f = false ∧ chkF f = 4) ∨ (mayF f = true ∧ longF f = true ∧ chkF f = 3) ∨ (mayF f = true ∧ longF f = false ∧ chkF f = 0) := by
  unfold chkF
  cases h1 : mayF f <;> cases h2 : longF f <;> simp
theorem chkF_zero {f : Fld} (h : chkF f = 0) : mayF f = true ∧ lenF f ≤ 2048 := by
  rcases chkF_cases f with ⟨_, h2⟩ | ⟨_, _, h2⟩ | ⟨h1, h2, _⟩
  · omega
  · omega
  · refine ⟨h1, ?_⟩
    unfold longF at h2
    have := of_decide_eq_false h2
    omega

/-- how far the document's reader of a field has come: its value's first bytes -/
def upTo (v : ByteArray) (k : Nat) : Prop := (v.data.toList.take k).all mayB = true ∧ (0 < k → ∃ h : 0 < v.size, blankB v[0] = false) ∧ (k = v.size → 0 < k → ∃ h : v.size - 1 < v.size, blankB v[v.size - 1] = false)
theorem upTo_zero (v : ByteArray) : upTo v 0 := ⟨rfl, fun h => absurd h (by omega), fun _ h => absurd h (by omega)⟩
theorem upTo_end {v : ByteArray} (h : upTo v v.size) : valV v.data.toList = true := by
  obtain ⟨h1, h2, h3⟩ := h
  rw [take_all (by omega)] at h1
  unfold valV
  rw [h1, Bool.true_and]
  rcases Nat.eq_zero_or_pos v.size with h0 | h0
  · rw [nil_of h0]; rfl
  · obtain ⟨_, hb⟩ := h2 h0
    obtain ⟨_, hc⟩ := h3 rfl h0
    have : trim v.data.toList = v.data.toList := by
      unfold trim
      rw [ltrim_end h0 hb, rtrim_end h0 hc]
    rw [this]; simp
theorem valV_byte {v : ByteArray} {k : Nat} (h : k < v.size) (hb : mayB v[k] = false) : valV v.data.toList = false := by
  unfold valV; rw [all_not v mayB k h hb]; rfl
theorem dropWhile_lt {p : UInt8 → Bool} {l : List UInt8} {c : UInt8} (h : p c = true) : ((c :: l).dropWhile p).length ≤ l.length := by
  rw [List.dropWhile_cons, h]; exact dropWhile_le p l
theorem valV_first {v : ByteArray} (h : 0 < v.size) (hb : blankB v[0] = true) : valV v.data.toList = false := by
  unfold valV
  have hne : trim v.data.toList ≠ v.data.toList := by
    intro e
    have h1 : (trim v.data.toList).length ≤ (ltrim v.data.toList).length := by
      unfold trim rtrim; rw [List.length_reverse]
      exact Nat.le_trans (dropWhile_le _ _) (by rw [List.length_reverse]; exact Nat.le_refl _)
    have h2 : (ltrim v.data.toList).length ≤ v.data.toList.length - 1 := by
      rw [cons_of h]; unfold ltrim
      have := dropWhile_lt (l := v.data.toList.drop 1) hb
      simpa using this
    rw [e] at h1
    have h3 : v.data.toList.length = v.size := (size_len v).symm
    omega
  have : (trim v.data.toList == v.data.toList) = false := beq_eq_false_iff_ne.2 hne
  rw [this, Bool.and_false]
theorem valV_last {v : ByteArray} (h : v.size - 1 < v.size) (hb : blankB v[v.size - 1] = true) : valV v.data.toList = false := by
  unfold valV
  have h0 : 0 < v.size := by omega
  have hne : trim v.data.toList ≠ v.data.toList := by
    intro e
    by_cases hf : blankB v[0] = true
    · have := valV_first h0 hf
      unfold valV at this
      rw [e] at this
      simp only [beq_self_eq_true, Bool.and_true] at this
      -- the first byte is blank: trimmed it is shorter
      have h1 : (trim v.data.toList).length ≤ (ltrim v.data.toList).length := by
        unfold trim rtrim; rw [List.length_reverse]
        exact Nat.le_trans (dropWhile_le _ _) (by rw [List.length_reverse]; exact Nat.le_refl _)
      have h2 : (ltrim v.data.toList).length ≤ v.data.toList.length - 1 := by
        rw [cons_of h0]; unfold ltrim
        have := dropWhile_lt (l := v.data.toList.drop 1) hf
        simpa using this
      rw [e] at h1
      have h3 : v.data.toList.length = v.size := (size_len v).symm
      omega
    · have hf' : blankB v[0] = false := by simpa using hf
      have h1 : trim v.data.toList = rtrim v.data.toList := by unfold trim; rw [ltrim_end h0 hf']
      have h2 : (rtrim v.data.toList).length ≤ v.size - 1 := by
        rw [← rtrim_step h0 hb]
        unfold rtrim
        rw [List.length_reverse]
        exact Nat.le_trans (dropWhile_le _ _) (by rw [List.length_reverse, List.length_take]; omega)
      rw [← h1, e] at h2
      have h3 : v.data.toList.length = v.size := (size_len v).symm
      omega
  have : (trim v.data.toList == v.data.toList) = false := beq_eq_false_iff_ne.2 hne
  rw [this, Bool.and_false]
/-- one byte on -/
theorem upTo_next {v : ByteArray} {k : Nat} (h : upTo v k) (hk : k < v.size) (hm : mayB v[k] = true) (h0 : k = 0 → blankB v[k] = false) (h1 : k + 1 = v.size → blankB v[k] = false) : upTo v (k + 1) := by
  refine ⟨all_snoc v mayB k hk h.1 hm, fun _ => ?_, fun he _ => ?_⟩
  · rcases Nat.eq_zero_or_pos k with rfl | hp
    · exact ⟨hk, h0 rfl⟩
    · exact h.2.1 hp
  · refine ⟨by omega, ?_⟩
    have e : v.size - 1 = k := by omega
    simp only [e]
    exact h1 he
theorem firstE_step {l : List Fld} {k : Nat} (h : k < l.length) (hz : chkF l[k] = 0) : firstE (l.drop k) = firstE (l.drop (k + 1)) := by
  rw [List.drop_eq_getElem_cons h, firstE, if_pos hz]
theorem firstE_stop {l : List Fld} {k : Nat} (h : k < l.length) (hz : ¬ chkF l[k] = 0) : firstE (l.drop k) = chkF l[k] := by
  rw [List.drop_eq_getElem_cons h, firstE, if_neg hz]
theorem firstE_all {l : List Fld} (h : firstE l = 0) : ∀ f ∈ l, chkF f = 0 := by
  induction l with
  | nil => intro f hf; cases hf
  | cons g r ih =>
    unfold firstE at h
    by_cases hg : chkF g = 0
    · rw [if_pos hg] at h
      intro f hf
      rcases List.mem_cons.1 hf with rfl | hf
      · exact hg
      · exact ih h f hf
    · rw [if_neg hg] at h; exact absurd h hg
theorem firstE_of {l : List Fld} (h : ∀ f ∈ l, chkF f = 0) : firstE l = 0 := by
  induction l with
  | nil => rfl
  | cons g r ih => rw [firstE, if_pos (h g (by simp))]; exact ih fun f hf => h f (by simp [hf])
theorem check_zero {l : List Fld} (h : checkL l = 0) : l.length ≤ 64 ∧ ∀ f ∈ l, chkF f = 0 := by
  unfold checkL at h
  by_cases h1 : 64 < l.length
  · rw [if_pos h1] at h; omega
  · rw [if_neg h1] at h; exact ⟨by omega, firstE_all h⟩
theorem check_of {l : List Fld} (h1 : l.length ≤ 64) (h2 : ∀ f ∈ l, chkF f = 0) : checkL l = 0 := by
  unfold checkL; rw [if_neg (by omega)]; exact firstE_of h2
theorem line_len (f : Fld) : (lineL f).length = lenF f := by unfold lineL lenF; simp; omega
theorem lines_len {l : List Fld} (h : ∀ f ∈ l, chkF f = 0) : (linesL l).length ≤ 2050 * l.length := by
  induction l with
  | nil => simp [linesL]
  | cons f r ih =>
    have h1 := (chkF_zero (h f (by simp))).2
    have h2 := ih fun g hg => h g (by simp [hg])
    have h3 : linesL (f :: r) = (lineL f ++ [13, 10]) ++ linesL r := by simp [linesL]
    rw [h3, List.length_append, List.length_append, line_len, List.length_cons, List.length_cons, List.length_cons, List.length_nil]
    omega
theorem put_len (l : List Fld) : (putL l).length ≤ 131200 := by
  unfold putL; split
  · rename_i h
    obtain ⟨h1, h2⟩ := check_zero h
    have := lines_len h2
    omega
  · simp
theorem lines_snoc (l : List Fld) (f : Fld) : linesL (l ++ [f]) = linesL l ++ (lineL f ++ [13, 10]) := by simp [linesL]

/-! ### what is put is read -/
theorem mayB_no13 {c : UInt8} (h : mayB c = true) : c ≠ 13 := by rintro rfl; revert h; decide
theorem tokB_no {c : UInt8} (h : tokB c = true) : c ≠ 13 ∧ c ≠ 58 := by
  constructor <;> (rintro rfl; revert h; decide)
theorem occ_two (s : List UInt8) (i : Nat) (a b : UInt8) : Lib.occAt s [a, b] i = true ↔ (s[i]? = some a ∧ s[i + 1]? = some b) := by
  unfold Lib.occAt
  have h1 : s[i]? = (s.drop i)[0]? := by simp
  have h2 : s[i + 1]? = (s.drop i)[1]? := by simp
  rw [h1, h2]
  generalize s.drop i = l
  match l with
  | [] => simp [List.isPrefixOf]
  | [x] => simp [List.isPrefixOf]
  | x :: y :: r =>
    simp only [List.isPrefixOf, Bool.and_true, Bool.and_eq_true, beq_iff_eq, List.getElem?_cons_zero, List.getElem?_cons_succ, Option.some.injEq]
    exact ⟨fun ⟨h1, h2⟩ => ⟨h1.symm, h2.symm⟩, fun ⟨h1, h2⟩ => ⟨h1.symm, h2.symm⟩⟩
theorem occ_one (s : List UInt8) (i : Nat) (a : UInt8) : Lib.occAt s [a] i = true ↔ s[i]? = some a := by
  unfold Lib.occAt
  have h1 : s[i]? = (s.drop i)[0]? := by simp
  rw [h1]
  generalize s.drop i = l
  match l with
  | [] => simp [List.isPrefixOf]
  | x :: r =>
    simp only [List.isPrefixOf, Bool.and_true, beq_iff_eq, List.getElem?_cons_zero, Option.some.injEq]
    exact ⟨fun h => h.symm, fun h => h.symm⟩
/-- cut at the first instance -/
theorem cut_hit {s sep : List UInt8} {i : Nat} (hi : i ≤ s.length) (ho : Lib.occAt s sep i = true) (hn : ∀ j, j < i → Lib.occAt s sep j = false) : Lib.cut s sep = (s.take i, s.drop (i + sep.length), true) := by
  have h : Lib.index s sep = i := Lib.index_first hi ho hn
  unfold Lib.cut
  rw [h, if_pos (by omega)]
  simp
theorem cut_miss {s sep : List UInt8} (hn : ∀ j, j ≤ s.length → Lib.occAt s sep j = false) : Lib.cut s sep = (s, [], false) := by
  have h : Lib.index s sep = -1 := Lib.index_none hn
  unfold Lib.cut
  rw [h, if_neg (by omega)]
theorem cutN_of {a r : List UInt8} (h : ∀ c ∈ a, c ≠ 13) : cutN (a ++ 13 :: 10 :: r) = (a, r, true) := by
  unfold cutN
  rw [cut_hit (i := a.length) (by simp) ((occ_two _ _ _ _).2 ⟨by simp, by rw [List.getElem?_append_right (by omega)]; simp⟩) fun j hj => ?_]
  · simp
  · cases ho : Lib.occAt (a ++ 13 :: 10 :: r) [13, 10] j
    · rfl
    · have h1 := ((occ_two _ _ _ _).1 ho).1
      rw [List.getElem?_append_left hj, List.getElem?_eq_getElem hj] at h1
      exact absurd (Option.some.inj h1) (h _ (List.getElem_mem hj))
theorem cutC_of {a r : List UInt8} (h : ∀ c ∈ a, c ≠ 58) : Lib.cut (a ++ 58 :: r) [58] = (a, r, true) := by
  rw [cut_hit (i := a.length) (by simp) ((occ_one _ _ _).2 (by simp)) fun j hj => ?_]
  · simp
  · cases ho : Lib.occAt (a ++ 58 :: r) [58] j
    · rfl
    · have h1 := (occ_one _ _ _).1 ho
      rw [List.getElem?_append_left hj, List.getElem?_eq_getElem hj] at h1
      exact absurd (Option.some.inj h1) (h _ (List.getElem_mem hj))
theorem token_all {l : List UInt8} (h : token l = true) : ∀ c ∈ l, tokB c = true := by
  unfold token at h
  rw [Bool.and_eq_true] at h
  exact fun c hc => List.all_eq_true.1 h.2 c hc
theorem one_line {f : Fld} (h : chkF f = 0) : oneE (lineL f) = 0 ∧ oneF (lineL f) = f := by
  obtain ⟨h1, h2⟩ := chkF_zero h
  unfold mayF at h1
  rw [Bool.and_eq_true] at h1
  have hc : Lib.cut (lineL f) [58] = (f.1, 32 :: f.2, true) := by
    unfold lineL
    rw [List.append_assoc]
    exact cutC_of fun c hc => (tokB_no (token_all h1.1 c hc)).2
  have hv := h1.2
  unfold valV at hv
  rw [Bool.and_eq_true] at hv
  have ht : trim (32 :: f.2) = f.2 := by
    have : trim (32 :: f.2) = trim f.2 := by unfold trim ltrim; rfl
    rw [this]; exact beq_iff_eq.1 hv.2
  have hf : oneF (lineL f) = f := by unfold oneF; rw [hc]; show (f.1, trim (32 :: f.2)) = f; rw [ht]
  exact ⟨by unfold oneE; rw [hf, hc]; simpa using h, hf⟩
theorem line_no13 {f : Fld} (h : chkF f = 0) : ∀ c ∈ lineL f, c ≠ 13 := by
  obtain ⟨h1, h2⟩ := chkF_zero h
  unfold mayF at h1
  rw [Bool.and_eq_true] at h1
  have hv := h1.2
  unfold valV at hv
  rw [Bool.and_eq_true] at hv
  intro c hc
  unfold lineL at hc
  rcases List.mem_append.1 hc with hc | hc
  · rcases List.mem_append.1 hc with hc | hc
    · exact (tokB_no (token_all h1.1 c hc)).1
    · simp at hc; rcases hc with rfl | rfl <;> decide
  · exact mayB_no13 (List.all_eq_true.1 hv.1 c hc)
theorem parse_nil (out : List Fld) : parseW [] out = (out, 0) := by
  rw [parseW]
  have : (cutN []).2.2 = false := by decide
  simp [this]
theorem parse_lines : ∀ (l out : List Fld), out.length + l.length ≤ 64 → (∀ f ∈ l, chkF f = 0) → parseW (linesL l) out = (out ++ l, 0)
  | [], out, _, _ => by rw [List.append_nil]; exact parse_nil out
  | f :: r, out, hl, h => by
    have h0 := h f (by simp)
    have e : linesL (f :: r) = lineL f ++ 13 :: 10 :: linesL r := by simp [linesL]
    have hc := cutN_of (r := linesL r) (line_no13 h0)
    rw [← e] at hc
    have h3 := (chkF_zero h0).2
    obtain ⟨h4, h5⟩ := one_line h0
    rw [List.length_cons] at hl
    rw [parseW]
    simp only [hc, dite_true]
    rw [if_neg (by rw [line_len]; omega), if_pos h4, h5, parse_lines r _ (by simp; omega) (fun g hg => h g (by simp [hg]))]
    simp
theorem parse_put {l : List Fld} (h : checkL l = 0) : parseL (putL l) = (l, 0) := by
  obtain ⟨h1, h2⟩ := check_zero h
  unfold parseL putL
  rw [if_pos h, parse_lines l [] (by simpa using h1) h2]; rfl
theorem put_bad {l : List Fld} (h : ¬ checkL l = 0) : putL l = [] := by unfold putL; rw [if_neg h]
theorem oneE_zero {s : List UInt8} (h : oneE s = 0) : chkF (oneF s) = 0 := by
  unfold oneE at h; split at h
  · exact h
  · omega
/-- what is read may be; what can't be read is nothing -/
theorem parse_may : ∀ (n : Nat) (s : List UInt8) (out : List Fld), s.length ≤ n → out.length ≤ 64 → (∀ f ∈ out, chkF f = 0) →
    ((parseW s out).2 = 0 ∧ (parseW s out).1.length ≤ 64 ∧ ∀ f ∈ (parseW s out).1, chkF f = 0) ∨ (¬ (parseW s out).2 = 0 ∧ (parseW s out).1 = []) := by
  intro n
  induction n with
  | zero =>
    intro s out hs hl ho
    have : s = [] := List.eq_nil_of_length_eq_zero (by omega)
    subst this
    rw [parse_nil]; exact .inl ⟨rfl, hl, ho⟩
  | succ n ih =>
    intro s out hs hl ho
    rw [parseW]
    split
    · rename_i hc
      split
      · exact .inr ⟨by decide, rfl⟩
      · rename_i h1
        split
        · rename_i h2
          have hlt := cutN_lt hc
          exact ih _ _ (by omega) (by simp; omega) (fun f hf => by
            rcases List.mem_append.1 hf with hf | hf
            · exact ho f hf
            · rw [List.mem_singleton.1 hf]; exact oneE_zero h2)
        · rename_i h2
          exact .inr ⟨h2, rfl⟩
    · split
      · exact .inl ⟨rfl, hl, ho⟩
      · exact .inr ⟨by decide, rfl⟩
theorem parse_check (s : List UInt8) : checkL (parseL s).1 = 0 ∧ ((parseL s).2 = 0 ∨ (parseL s).1 = []) := by
  rcases parse_may s.length s [] (Nat.le_refl _) (by simp) (by simp) with ⟨h1, h2, h3⟩ | ⟨h1, h2⟩
  · exact ⟨check_of h2 h3, .inl h1⟩
  · refine ⟨?_, .inr h2⟩
    show checkL (parseW s []).1 = 0
    rw [h2]; rfl
end Go.Proofs.YtopgeclecpaecaaGreatDoor

/- Directives, plainly: what an element says, the directives of a value and of values, two readings of an element; what directives that are put together are read as. Nothing of the program is read here. -/
namespace Go.Proofs.YtopgeclecpaecaaGreatDoor
/-- a directive: its name, its value, has it one, whom it is for -/
abbrev Dv := List UInt8 × List UInt8 × Bool × List UInt8
def dv0 : Dv := ([], [], false, [])
def noStore : Dv := ([110, 111, 45, 115, 116, 111, 114, 101], [], false, [])
/-- what an element says -/
def sayD (e : List UInt8) : Option Dv :=
  if token (Lib.cut e [61]).1 then
    if (Lib.cut e [61]).2.2 then
      if token (Lib.cut e [61]).2.1 then some (lower (Lib.cut e [61]).1, (Lib.cut e [61]).2.1, true, [])
      else match unquote (Lib.cut e [61]).2.1 with
        | some p => some (lower (Lib.cut e [61]).1, p, true, [])
        | none => none
    else some (lower (Lib.cut e [61]).1, [], false, [])
  else none
def dirs (l : List UInt8) : List Dv := if splitE l 44 = 0 then (splitL l 44).filterMap sayD else [noStore]
def dirsAll (L : List (List UInt8)) : List Dv := L.flatMap dirs
def findD (l : List Dv) (n : List UInt8) : Option Dv := l.find? fun d => lower d.1 == lower n

/-! What an element says: cut at the first byte 61. -/
theorem cutE_of {a r : List UInt8} (h : ∀ c ∈ a, c ≠ 61) : Lib.cut (a ++ 61 :: r) [61] = (a, r, true) := by
  rw [cut_hit (i := a.length) (by simp) ((occ_one _ _ _).2 (by simp)) fun j hj => ?_]
  · simp
  · cases ho : Lib.occAt (a ++ 61 :: r) [61] j
    · rfl
    · have h1 := (occ_one _ _ _).1 ho
      rw [List.getElem?_append_left hj, List.getElem?_eq_getElem hj] at h1
      exact absurd (Option.some.inj h1) (h _ (List.getElem_mem hj))
theorem cutE_none {a : List UInt8} (h : ∀ c ∈ a, c ≠ 61) : Lib.cut a [61] = (a, [], false) := by
  refine cut_miss fun j hj => ?_
  cases ho : Lib.occAt a [61] j
  · rfl
  · have h1 := (occ_one _ _ _).1 ho
    rcases Nat.lt_or_ge j a.length with h2 | h2
    · rw [List.getElem?_eq_getElem h2] at h1
      exact absurd (Option.some.inj h1) (h _ (List.getElem_mem h2))
    · rw [List.getElem?_eq_none h2] at h1; cases h1
/-- either no byte 61, or the first one -/
theorem cutE_cases (e : List UInt8) : ((∀ c ∈ e, c ≠ 61) ∧ Lib.cut e [61] = (e, [], false)) ∨ ∃ a r, e = a ++ 61 :: r ∧ (∀ c ∈ a, c ≠ 61) ∧ Lib.cut e [61] = (a, r, true) := by
  have key : ∀ e : List UInt8, (∀ c ∈ e, c ≠ 61) ∨ ∃ a r, e = a ++ 61 :: r ∧ (∀ c ∈ a, c ≠ 61) := by
    intro e
    induction e with
    | nil => exact .inl fun c hc => by cases hc
    | cons x t ih =>
      by_cases hx : x = 61
      · exact .inr ⟨[], t, by rw [hx]; rfl, fun c hc => by cases hc⟩
      · rcases ih with h | ⟨a, r, rfl, h⟩
        · exact .inl fun c hc => (List.mem_cons.1 hc).elim (fun e1 => by rw [e1]; exact hx) (h c)
        · exact .inr ⟨x :: a, r, rfl, fun c hc => (List.mem_cons.1 hc).elim (fun e1 => by rw [e1]; exact hx) (h c)⟩
  rcases key e with h | ⟨a, r, rfl, h⟩
  · exact .inl ⟨h, cutE_none h⟩
  · exact .inr ⟨a, r, rfl, h, cutE_of h⟩
theorem tok_ne61 {l : List UInt8} (h : token l = true) : ∀ c ∈ l, c ≠ 61 := by
  intro c hc
  unfold token at h
  simp only [Bool.and_eq_true, List.all_eq_true] at h
  rintro rfl
  have := h.2 61 hc
  revert this; decide
theorem cutE_le (e : List UInt8) : (Lib.cut e [61]).1.length ≤ e.length ∧ (Lib.cut e [61]).2.1.length ≤ e.length := cut_le e [61]
theorem token_lower {l : List UInt8} (h : token l = true) : token (lower l) = true := by
  unfold token at h ⊢
  simp only [Bool.and_eq_true, List.all_eq_true] at h ⊢
  refine ⟨by cases l with | nil => simp at h | cons c r => rfl, fun c hc => ?_⟩
  unfold lower at hc
  obtain ⟨x, hx, rfl⟩ := List.mem_map.1 hc
  have h1 := h.2 x hx
  unfold tokB tokI at h1 ⊢
  rw [decide_eq_true_iff] at h1 ⊢
  by_cases hb : 65 ≤ (x.toNat : Int) ∧ (x.toNat : Int) ≤ 90
  · have := low_up hb.1 hb.2
    omega
  · rw [low_same hb]; exact h1
theorem unq_len : ∀ (l : List UInt8) (e : Bool) (acc p : List UInt8), unq l e acc = some p → p.length ≤ acc.length + l.length
  | [], _, _, _, h => by simp [unq] at h
  | c :: r, true, acc, p, h => by
    rw [unq] at h
    split at h
    · have := unq_len r _ _ _ h; simp at this ⊢; omega
    · cases h
  | c :: r, false, acc, p, h => by
    rw [unq] at h
    split at h
    · split at h
      · cases h; simp
      · cases h
    · split at h
      · have := unq_len r _ _ _ h; simp at this ⊢; omega
      · split at h
        · have := unq_len r _ _ _ h; simp at this ⊢; omega
        · cases h
theorem unquote_len {l p : List UInt8} (h : unquote l = some p) : p.length ≤ l.length := by
  cases l with
  | nil => simp [unquote] at h
  | cons c r =>
    rw [unquote] at h
    split at h
    · have := unq_len r _ _ _ h; simp at this ⊢; omega
    · cases h
/-- what says something has a name that is a token, in small letters; without a byte 61 it has no value -/
theorem sayD_name {e : List UInt8} {d : Dv} (h : sayD e = some d) : token d.1 = true ∧ lower d.1 = d.1 ∧ (d.2.2.1 = false → d.2.1 = []) ∧ d.2.2.2 = [] := by
  unfold sayD at h
  split at h
  · rename_i ht
    have h1 := token_lower ht
    split at h
    · split at h
      · cases h; exact ⟨h1, lower_idem _, (fun h => by cases h), rfl⟩
      · split at h
        · cases h; exact ⟨h1, lower_idem _, (fun h => by cases h), rfl⟩
        · cases h
    · cases h; exact ⟨h1, lower_idem _, fun _ => rfl, rfl⟩
  · cases h
theorem sayD_len {e : List UInt8} {d : Dv} (h : sayD e = some d) : d.1.length ≤ e.length ∧ d.2.1.length ≤ e.length := by
  have hc := cutE_le e
  unfold sayD at h
  split at h
  · split at h
    · split at h
      · cases h; exact ⟨by rw [lower_len]; exact hc.1, hc.2⟩
      · split at h
        · rename_i p hp
          cases h
          refine ⟨by rw [lower_len]; exact hc.1, Nat.le_trans ?_ hc.2⟩
          exact unquote_len hp
        · cases h
    · cases h; exact ⟨by rw [lower_len]; exact hc.1, by simp⟩
  · cases h
/-! What is put together with blanks and commas. -/
theorem pieceD_plain {n r : List UInt8} (hn : token n = true) (hr : Piece r) : Piece (n ++ 61 :: r) := by
  have h0 := hn
  unfold token at hn
  simp only [Bool.and_eq_true, List.all_eq_true] at hn
  have hp : ∀ c ∈ n ++ [61], ¬ (c.toNat : Int) = 34 ∧ c ≠ (44 : UInt8) := by
    intro c hc
    rcases List.mem_append.1 hc with hc | hc
    · refine ⟨(tok_not (hn.2 c hc)).2, ?_⟩
      rintro rfl
      have := hn.2 44 hc
      revert this; decide
    · obtain rfl : c = 61 := by simpa using hc
      exact ⟨by decide, by decide⟩
  have e1 : n ++ 61 :: r = (n ++ [61]) ++ r := by simp
  refine ⟨by simp, fun c t e => ?_, fun t c e => ?_, fun t cur A => ?_⟩
  · cases n with
    | nil => simp at hn
    | cons x y =>
      have : x = c := by simpa using (List.cons.inj e).1
      subst this
      exact (tok_not (hn.2 x (by simp))).1
  · obtain ⟨r', c', hrc⟩ : ∃ r' c', r = r' ++ [c'] := ⟨r.dropLast, r.getLast hr.ne, (List.dropLast_concat_getLast hr.ne).symm⟩
    have h2 := hr.last r' c' hrc
    have e2 : (n ++ [61]) ++ r' ++ [c'] = t ++ [c] := by rw [← e, e1, hrc]; simp
    have e3 : [c'] = [c] := (List.append_inj' e2 rfl).2
    rw [← (List.cons.inj e3).1]; exact h2
  · rw [e1, List.append_assoc, cut_plain2 (n ++ [61]) _ _ _ hp, hr.bal]
    simp
/-- each piece, with blanks and a comma behind it -/
def glued (g : List UInt8) (W : List (List UInt8)) : List UInt8 := W.flatMap fun x => x ++ g ++ 44 :: g
theorem glued_snoc (g : List UInt8) (W : List (List UInt8)) (x : List UInt8) : glued g (W ++ [x]) = glued g W ++ (x ++ g ++ 44 :: g) := by simp [glued]
theorem cut_glued {g : List UInt8} (hg : gaps g) : ∀ (W : List (List UInt8)) (A : List (List UInt8)), (∀ x ∈ W, Piece x) → cutAt 44 (glued g W) false false g A = some (A ++ W)
  | [], A, _ => by
    have hb : trim g = [] := trim_blank hg
    simp [glued, cutAt, addP, hb]
  | x :: r, A, h => by
    have hx := h x (by simp)
    have e : glued g (x :: r) = x ++ (g ++ (44 :: (g ++ glued g r))) := by simp [glued]
    rw [e, hx.bal, cut_plain2 g _ _ _ (gap_plain hg), cut_comma, addP_piece hg hx, cut_plain2 g _ _ _ (gap_plain hg), List.nil_append, cut_glued hg r _ (fun z hz => h z (by simp [hz]))]
    simp
theorem split_glued {g : List UInt8} (hg : gaps g) (W : List (List UInt8)) (hW : ∀ x ∈ W, Piece x) (hl : W.length ≤ 64) : splitE (g ++ glued g W) 44 = 0 ∧ splitL (g ++ glued g W) 44 = W := by
  have hc : cutAt 44 (g ++ glued g W) false false [] [] = some W := by
    rw [cut_plain2 g _ _ _ (gap_plain hg), List.nil_append, cut_glued hg W [] hW, List.nil_append]
  have hb : badSep 44 = false := by decide
  constructor <;> simp only [splitE, splitL, hb, hc]
  · rw [if_neg (by simp), if_neg (by omega)]
  · rw [if_neg (by simp), if_neg (by omega)]
theorem filterMap_all {α β : Type} {f : α → Option β} : ∀ {L : List α} {M : List β}, L.length = M.length → (∀ j (h1 : j < L.length) (h2 : j < M.length), f L[j] = some M[j]) → L.filterMap f = M
  | [], [], _, _ => rfl
  | [], _ :: _, h, _ => by simp at h
  | _ :: _, [], h, _ => by simp at h
  | x :: r, y :: t, h, hp => by
    have h0 := hp 0 (by simp) (by simp)
    simp only [List.getElem_cons_zero] at h0
    rw [List.filterMap_cons, h0]
    simp only
    rw [filterMap_all (L := r) (M := t) (by simpa using h) fun j h1 h2 => by have := hp (j + 1) (by simpa using h1) (by simpa using h2); simpa using this]
end Go.Proofs.YtopgeclecpaecaaGreatDoor

/- Which fields of a request select a reply, plainly: names, values, matches; what the laws say of them. -/
namespace Go.Proofs.YtopgeclecpaecaaGreatDoor

/-- an element that names no field -/
def namelessB (x : List UInt8) : Bool := x == [42] || !token x
/-- a value by which a reply varies by everything -/
def badV (v : List UInt8) : Bool := splitE v 44 != 0 || (splitL v 44).any namelessB
def putN (a : List (List UInt8)) (x : List UInt8) : List (List UInt8) := if a.any (· == lower x) then a else a ++ [lower x]
def putV (a : List (List UInt8)) (v : List UInt8) : List (List UInt8) := (splitL v 44).foldl putN a
def namesOf (vs : List (List UInt8)) : List (List UInt8) := vs.foldl putV []
def allB (vs : List (List UInt8)) : Bool := vs.any badV
def namesA (vs : List (List UInt8)) : List (List UInt8) := if allB vs then [] else namesOf vs
/-- what a value comes to -/
def partsV (v : List UInt8) : List (List UInt8) := if splitE v 44 = 0 then splitL v 44 else [trim v]
def partsN (l : List Fld) (n : List UInt8) : List (List UInt8) := (valsL l n).flatMap partsV
def valueL (l : List Fld) (n : List UInt8) : List UInt8 := Lib.join (partsN l n) [44, 32]
def selectL (names : List (List UInt8)) (l : List Fld) : List Fld := names.map fun n => (n, valueL l n)
def matchB (vary l : List Fld) : Bool := vary.all fun f => f.2 == valueL l f.1

/-! No part is empty. -/
theorem dropWhile_nil {p : UInt8 → Bool} : ∀ {l : List UInt8}, l.dropWhile p = [] → ∀ x ∈ l, p x = true
  | [], _, _, h => by cases h
  | c :: r, h, x, hx => by
    cases hc : p c with
    | false => rw [List.dropWhile_cons, hc] at h; cases h
    | true =>
      rw [List.dropWhile_cons, hc, if_pos rfl] at h
      rcases List.mem_cons.1 hx with rfl | hx
      · exact hc
      · exact dropWhile_nil h x hx
theorem trim_nil {v : List UInt8} (h : trim v = []) : gaps v := by
  have h1 : (ltrim v).reverse.dropWhile blankB = [] := by
    have h2 : ((ltrim v).reverse.dropWhile blankB).reverse = [] := h
    simpa using h2
  replace h1 := dropWhile_nil h1
  have h3 : ltrim v = [] := by
    cases hl : ltrim v with
    | nil => rfl
    | cons c r =>
      have := dropWhile_head (p := blankB) (l := v) hl
      rw [hl] at h1
      have h4 := h1 c (by simp)
      rw [this] at h4; cases h4
  unfold ltrim at h3
  exact dropWhile_nil h3
theorem trim_ne {v : List UInt8} (h : ¬ splitE v 44 = 0) : trim v ≠ [] := fun e => by
  have hg := trim_nil e
  apply h
  have hc := cut_plain (sep := 44) v [] [] (gap_plain hg)
  have hb : badSep 44 = false := by decide
  unfold splitE
  rw [if_neg (by rw [hb]; simp), hc]
  simp [addP, trim_blank hg]
theorem addP_ne {A : List (List UInt8)} {cur : List UInt8} (h : ∀ x ∈ A, x ≠ []) : ∀ x ∈ addP A cur, x ≠ [] := by
  unfold addP
  split
  · exact h
  · rename_i hc
    intro x hx
    rcases List.mem_append.1 hx with hx | hx
    · exact h x hx
    · obtain rfl : x = trim cur := by simpa using hx
      intro e; rw [e] at hc; exact hc rfl
theorem cutAt_ne {sep : UInt8} : ∀ (l : List UInt8) (o e : Bool) (cur : List UInt8) (A R : List (List UInt8)), (∀ x ∈ A, x ≠ []) → cutAt sep l o e cur A = some R → ∀ x ∈ R, x ≠ []
  | [], o, e, cur, A, R, hA, h => by
    unfold cutAt at h
    split at h
    · cases h
    · cases h; exact addP_ne hA
  | c :: r, o, e, cur, A, R, hA, h => by
    unfold cutAt at h
    split at h
    · exact cutAt_ne r _ _ _ _ _ (addP_ne hA) h
    · exact cutAt_ne r _ _ _ _ _ hA h
theorem splitL_ne (l : List UInt8) (sep : UInt8) : ∀ x ∈ splitL l sep, x ≠ [] := by
  unfold splitL
  split
  · simp
  · split
    · simp
    · rename_i a h
      split
      · simp
      · exact cutAt_ne _ _ _ _ _ _ (by simp) h
theorem partsV_ne (v : List UInt8) : ∀ x ∈ partsV v, x ≠ [] := by
  unfold partsV
  split
  · exact splitL_ne v 44
  · rename_i h
    intro x hx
    obtain rfl : x = trim v := by simpa using hx
    exact trim_ne h
theorem partsN_ne (l : List Fld) (n : List UInt8) : ∀ x ∈ partsN l n, x ≠ [] := by
  intro x hx
  obtain ⟨v, _, hv⟩ := List.mem_flatMap.1 hx
  exact partsV_ne v x hv

/-! Parts put together one by one. -/
def glueP (s x : List UInt8) : List UInt8 := (if x ≠ [] ∧ s ≠ [] then s ++ [44, 32] else s) ++ x
theorem join_ne {L : List (List UInt8)} (h : ∀ x ∈ L, x ≠ []) (hL : L ≠ []) : Lib.join L [44, 32] ≠ [] := by
  cases L with
  | nil => exact absurd rfl hL
  | cons x r =>
    cases r with
    | nil => simpa [Lib.join, List.intercalate] using h x (by simp)
    | cons y t => simp [Lib.join, List.intercalate]
theorem glue_step {L : List (List UInt8)} {x : List UInt8} (h : ∀ y ∈ L, y ≠ []) (hx : x ≠ []) : Lib.join (L ++ [x]) [44, 32] = glueP (Lib.join L [44, 32]) x := by
  unfold glueP
  by_cases hL : L = []
  · subst hL
    simp [Lib.join, List.intercalate]
  · rw [join_snoc L x [44, 32] hL, if_pos ⟨hx, join_ne h hL⟩]

/-! Names. -/
theorem lower_star {x : List UInt8} (h : lower x = [42]) : x = [42] := by
  unfold lower at h
  match x, h with
  | [], h => cases h
  | [c], h =>
    have h1 : lowB c = 42 := by simpa using h
    have h2 : c = 42 := by
      unfold lowB at h1
      split at h1
      · rename_i hc
        have h3 := congrArg UInt8.toNat h1
        rw [UInt8.toNat_add] at h3
        have e1 : (32 : UInt8).toNat = 32 := rfl
        have e2 : (42 : UInt8).toNat = 42 := rfl
        rw [e1, e2] at h3
        omega
      · exact h1
    rw [h2]
  | c :: d :: r, h => simp at h
/-- a name that a reply may tell -/
def NameB (x : List UInt8) : Prop := token x = true ∧ lower x = x ∧ x ≠ [42]
theorem name_of {x : List UInt8} (h : namelessB x = false) : NameB (lower x) := by
  unfold namelessB at h
  rw [Bool.or_eq_false_iff] at h
  have h1 : x ≠ [42] := by simpa using h.1
  have h2 : token x = true := by simpa using h.2
  exact ⟨token_lower h2, lower_idem x, fun e => h1 (lower_star e)⟩
theorem putN_mem {a : List (List UInt8)} {x : List UInt8} (ha : ∀ y ∈ a, NameB y) (hx : namelessB x = false) : ∀ y ∈ putN a x, NameB y := by
  unfold putN
  split
  · exact ha
  · intro y hy
    rcases List.mem_append.1 hy with hy | hy
    · exact ha y hy
    · obtain rfl : y = lower x := by simpa using hy
      exact name_of hx
theorem foldN_mem : ∀ (L : List (List UInt8)) {a : List (List UInt8)}, (∀ y ∈ a, NameB y) → (∀ x ∈ L, namelessB x = false) → ∀ y ∈ L.foldl putN a, NameB y
  | [], _, ha, _ => ha
  | x :: r, _, ha, h => foldN_mem r (putN_mem ha (h x (by simp))) (fun z hz => h z (by simp [hz]))
theorem badV_false {v : List UInt8} (h : badV v = false) : splitE v 44 = 0 ∧ ∀ x ∈ splitL v 44, namelessB x = false := by
  unfold badV at h
  rw [Bool.or_eq_false_iff] at h
  refine ⟨by simpa using h.1, fun x hx => ?_⟩
  have := h.2
  rw [List.any_eq_false] at this
  simpa using this x hx
theorem foldV_mem : ∀ (vs : List (List UInt8)) {a : List (List UInt8)}, (∀ y ∈ a, NameB y) → (∀ v ∈ vs, badV v = false) → ∀ y ∈ vs.foldl putV a, NameB y
  | [], _, ha, _ => ha
  | v :: r, _, ha, h => foldV_mem r (foldN_mem _ ha (badV_false (h v (by simp))).2) (fun z hz => h z (by simp [hz]))
theorem allB_false {vs : List (List UInt8)} (h : allB vs = false) : ∀ v ∈ vs, badV v = false := by
  unfold allB at h
  rw [List.any_eq_false] at h
  intro v hv
  simpa using h v hv
theorem names_mem {vs : List (List UInt8)} (h : allB vs = false) : ∀ y ∈ namesA vs, NameB y := by
  unfold namesA
  rw [h]
  exact foldV_mem vs (by simp) (allB_false h)

/-! How many names, how long. -/
theorem putN_len (a : List (List UInt8)) (x : List UInt8) : (putN a x).length ≤ a.length + 1 := by
  unfold putN; split <;> simp
theorem foldN_len : ∀ (L a : List (List UInt8)), (L.foldl putN a).length ≤ a.length + L.length
  | [], _ => by simp
  | x :: r, a => by
    have h1 := foldN_len r (putN a x)
    have h2 := putN_len a x
    simp only [List.foldl_cons, List.length_cons]
    omega
theorem foldN_size {B : Nat} : ∀ (L : List (List UInt8)) {a : List (List UInt8)}, (∀ y ∈ a, y.length ≤ B) → (∀ x ∈ L, x.length ≤ B) → ∀ y ∈ L.foldl putN a, y.length ≤ B
  | [], _, ha, _ => ha
  | x :: r, a, ha, h => by
    refine foldN_size r ?_ (fun z hz => h z (by simp [hz]))
    unfold putN
    split
    · exact ha
    · intro y hy
      rcases List.mem_append.1 hy with hy | hy
      · exact ha y hy
      · obtain rfl : y = lower x := by simpa using hy
        rw [lower_len]; exact h x (by simp)

/-! An entry whose fields were selected. -/
theorem match_select (names : List (List UInt8)) (a b : List Fld) : matchB (selectL names a) b = (selectL names a == selectL names b) := by
  unfold matchB selectL
  rw [List.all_map]
  induction names with
  | nil => rfl
  | cons n r ih =>
    rw [List.all_cons, ih, List.map_cons, List.map_cons, List.cons_beq_cons]
    congr 1
    show (valueL a n == valueL b n) = ((n == n) && (valueL a n == valueL b n))
    simp
theorem match_self (names : List (List UInt8)) (a : List Fld) : matchB (selectL names a) a = true := by
  rw [match_select]; simp
theorem select_len (names : List (List UInt8)) (a : List Fld) : (selectL names a).length = names.length := by simp [selectL]

/-! A line of a list: tokens, blanks around each, a comma behind each. -/
/-- x stands for the tokens P: whatever stands behind it -/
def lineP (x : List UInt8) (P : List (List UInt8)) : Prop := ∀ (r : List UInt8) (A : List (List UInt8)), cutAt 44 (x ++ r) false false [] A = cutAt 44 r false false [] (A ++ P)
theorem lineP_nil : lineP [] [] := fun r A => by rw [List.nil_append, List.append_nil]
theorem trim_wide {g h t : List UInt8} (hg : gaps g) (hh : gaps h) (ht : token t = true) : trim (g ++ t ++ h) = t := by
  have hx := piece_token ht
  show rtrim (ltrim (g ++ t ++ h)) = t
  rw [List.append_assoc, ltrim_gap hg]
  have h1 : ltrim (t ++ h) = t ++ h := ltrim_idem_of fun c r e => by
    cases t with
    | nil => exact absurd rfl hx.ne
    | cons d q => exact (List.cons.inj e).1 ▸ hx.head d q rfl
  rw [h1, rtrim_gap t h hh]
  exact rtrim_idem_of hx.last
theorem lineP_put {x : List UInt8} {P : List (List UInt8)} (hx : lineP x P) {g h t : List UInt8} (hg : gaps g) (hh : gaps h) (ht : token t = true) : lineP (x ++ g ++ t ++ h ++ [44]) (P ++ [t]) := fun r A => by
  have hp := piece_token ht
  have e : x ++ g ++ t ++ h ++ [44] ++ r = x ++ (g ++ (t ++ (h ++ (44 :: r)))) := by simp
  rw [e, hx, cut_plain2 g _ _ _ (gap_plain hg), hp.bal, cut_plain2 h _ _ _ (gap_plain hh), cut_comma]
  rw [List.nil_append, show addP (A ++ P) (g ++ t ++ h) = A ++ (P ++ [t]) from by
    unfold addP
    rw [trim_wide hg hh ht, if_neg (by have := hp.ne; simp [this]), List.append_assoc]]
theorem lineP_split {x : List UInt8} {P : List (List UInt8)} (hx : lineP x P) (hl : P.length ≤ 64) : splitE x 44 = 0 ∧ splitL x 44 = P := by
  have hc : cutAt 44 x false false [] [] = some P := by
    have h := hx [] []
    rw [List.append_nil, List.nil_append] at h
    rw [h]
    simp [cutAt, addP, trim, ltrim, rtrim]
  have hb : badSep 44 = false := by decide
  refine ⟨?_, ?_⟩
  · unfold splitE; rw [if_neg (by rw [hb]; simp), hc]; simp only; rw [if_neg (by omega)]
  · unfold splitL; rw [if_neg (by rw [hb]; simp), hc]; simp only; rw [if_neg (by omega)]
theorem lineP_parts {x : List UInt8} {P : List (List UInt8)} (hx : lineP x P) (hl : P.length ≤ 64) : partsV x = P := by
  obtain ⟨h1, h2⟩ := lineP_split hx hl
  unfold partsV; rw [if_pos h1, h2]
theorem partsN_app (a b : List Fld) (n : List UInt8) : partsN (a ++ b) n = partsN a n ++ partsN b n := by
  unfold partsN valsL
  rw [List.filter_append, List.map_append, List.flatMap_append]
theorem partsN_one (f : Fld) (n : List UInt8) : partsN [f] n = if sameN f.1 n then partsV f.2 else [] := by
  unfold partsN valsL
  cases h : sameN f.1 n <;> simp [h]
end Go.Proofs.YtopgeclecpaecaaGreatDoor
