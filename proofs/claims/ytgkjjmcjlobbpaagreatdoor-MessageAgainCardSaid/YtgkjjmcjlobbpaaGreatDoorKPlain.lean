/- Plain lists of bytes: what the text layer's functions come to. Nothing of the program is read here. -/
import Derived.Lib.Strings
import Derived.Lib.IndexBytes
import Derived.Lib.Split
import Derived.Lib.AtoiAll
import Derived.Lib.ItoaNum
import Derived.Lib.IndexMore
import Derived.Lib.IndexLaws
import Derived.Lib.Join
import Derived.Lib.AtoiTie
namespace Go.Proofs.YtgkjjmcjlobbpaaGreatDoor
/-- a text of a list of bytes -/
def bs (l : List UInt8) : ByteArray := ⟨l.toArray⟩
@[simp] theorem bs_data (l : List UInt8) : (bs l).data.toList = l := by simp [bs]
@[simp] theorem bs_size (l : List UInt8) : (bs l).size = l.length := by unfold bs; rfl
@[simp] theorem bs_self (s : ByteArray) : bs s.data.toList = s := rfl
theorem bs_of {s : ByteArray} {l : List UInt8} (h : s.data.toList = l) : s = bs l := by
  subst h; rfl
theorem size_len (s : ByteArray) : s.size = s.data.toList.length := rfl

/-- a token's byte, as a number -/
def tokI (n : Int) : Bool := decide (n = 33 ∨ (35 ≤ n ∧ n ≤ 39) ∨ n = 42 ∨ n = 43 ∨ n = 45 ∨ n = 46 ∨ n = 94 ∨ n = 95 ∨ n = 96 ∨ n = 124 ∨ n = 126 ∨ (97 ≤ n ∧ n ≤ 122) ∨ (65 ≤ n ∧ n ≤ 90) ∨ (48 ≤ n ∧ n ≤ 57))
def tokB (c : UInt8) : Bool := tokI (c.toNat : Int)
def token (l : List UInt8) : Bool := !l.isEmpty && l.all tokB
def lettI (n : Int) : Bool := decide ((97 ≤ n ∧ n ≤ 122) ∨ (65 ≤ n ∧ n ≤ 90) ∨ (48 ≤ n ∧ n ≤ 57))
def inI (n : Int) (l : List UInt8) : Bool := l.any fun b => (b.toNat : Int) == n
def lowI (n : Int) : Int := if 65 ≤ n ∧ n ≤ 90 then n + 32 else n
def lowB (c : UInt8) : UInt8 := if 65 ≤ c.toNat ∧ c.toNat ≤ 90 then c + 32 else c
def lower (l : List UInt8) : List UInt8 := l.map lowB
def blankI (n : Int) : Bool := decide (n = 32 ∨ n = 9)
def blankB (c : UInt8) : Bool := blankI (c.toNat : Int)
def ltrim (l : List UInt8) : List UInt8 := l.dropWhile blankB
def rtrim (l : List UInt8) : List UInt8 := (l.reverse.dropWhile blankB).reverse
def trim (l : List UInt8) : List UInt8 := rtrim (ltrim l)

theorem ret_bool {a b : Bool} (h : a = b) : Ending.returned (.bool a) = .returned (.bool b) := by rw [h]
theorem ret_str {a b : ByteArray} (h : a = b) : Ending.returned (.string a) = .returned (.string b) := by rw [h]
theorem take_snoc (s : ByteArray) (k : Nat) (h : k < s.size) : s.data.toList.take (k + 1) = s.data.toList.take k ++ [s[k]] := by
  rw [List.take_succ_eq_append_getElem (by simpa using h)]; rfl
theorem mem_at (s : ByteArray) (k : Nat) (h : k < s.size) : s[k] ∈ s.data.toList := by simp [ByteArray.getElem_eq_getElem_data]
theorem all_snoc (s : ByteArray) (p : UInt8 → Bool) (k : Nat) (h : k < s.size) (hp : (s.data.toList.take k).all p = true) (hq : p s[k] = true) : (s.data.toList.take (k + 1)).all p = true := by
  rw [take_snoc s k h, List.all_append, hp]; simp [hq]
theorem all_not (s : ByteArray) (p : UInt8 → Bool) (k : Nat) (h : k < s.size) (hq : p s[k] = false) : s.data.toList.all p = false := by
  rw [← Bool.not_eq_true, List.all_eq_true]
  intro H
  have := H s[k] (mem_at s k h)
  rw [hq] at this; exact absurd this (by simp)
theorem take_all {s : ByteArray} {k : Nat} (h : ¬ k < s.size) : s.data.toList.take k = s.data.toList :=
  List.take_of_length_le (by have := size_len s; omega)
theorem any_snoc (s : ByteArray) (p : UInt8 → Bool) (k : Nat) (h : k < s.size) (hp : (s.data.toList.take k).any p = false) (hq : p s[k] = false) : (s.data.toList.take (k + 1)).any p = false := by
  rw [take_snoc s k h, List.any_append, hp]; simp [hq]
theorem any_is (s : ByteArray) (p : UInt8 → Bool) (k : Nat) (h : k < s.size) (hq : p s[k] = true) : s.data.toList.any p = true := by
  rw [List.any_eq_true]; exact ⟨s[k], mem_at s k h, hq⟩
theorem nil_of {s : ByteArray} (h : s.size = 0) : s.data.toList = [] := List.eq_nil_of_length_eq_zero (by rw [← size_len]; exact h)
theorem cons_of {s : ByteArray} (h : 0 < s.size) : s.data.toList = s[0] :: s.data.toList.drop 1 := by
  have h2 : 0 < s.data.toList.length := by rw [← size_len]; exact h
  rw [ByteArray.getElem_eq_getElem_data]
  exact (by simpa using (List.drop_eq_getElem_cons h2))
theorem snoc_of {s : ByteArray} (h : 0 < s.size) : s.data.toList = s.data.toList.take (s.size - 1) ++ [s[s.size - 1]] := by
  have := take_snoc s (s.size - 1) (by omega)
  rw [show s.size - 1 + 1 = s.size from by omega, take_all (by omega)] at this
  exact this
theorem ltrim_step {s : ByteArray} (h : 0 < s.size) (hb : blankB s[0] = true) : ltrim (s.data.toList.drop 1) = ltrim s.data.toList := by
  rw [cons_of h]; simp [ltrim, hb]
theorem ltrim_end {s : ByteArray} (h : 0 < s.size) (hb : blankB s[0] = false) : ltrim s.data.toList = s.data.toList := by
  rw [cons_of h]; simp [ltrim, hb]
theorem rtrim_snoc (l : List UInt8) (c : UInt8) : rtrim (l ++ [c]) = if blankB c then rtrim l else l ++ [c] := by
  unfold rtrim
  rw [List.reverse_append, List.reverse_singleton, List.singleton_append, List.dropWhile_cons]
  split <;> simp
theorem rtrim_step {s : ByteArray} (h : 0 < s.size) (hb : blankB s[s.size - 1] = true) : rtrim (s.data.toList.take (s.size - 1)) = rtrim s.data.toList :=
  ((congrArg rtrim (snoc_of h)).trans (by rw [rtrim_snoc, if_pos hb])).symm
theorem rtrim_end {s : ByteArray} (h : 0 < s.size) (hb : blankB s[s.size - 1] = false) : rtrim s.data.toList = s.data.toList :=
  (congrArg rtrim (snoc_of h)).trans (by rw [rtrim_snoc, if_neg (by simp [hb])]; exact (snoc_of h).symm)
/-- the bytes of a token that are no letters and no digits -/
def tokL : List UInt8 := [33, 35, 36, 37, 38, 39, 42, 43, 45, 46, 94, 95, 96, 124, 126]
theorem tok_cases (c : UInt8) : (tokB c = true ∧ lettI (c.toNat : Int) = true) ∨ (tokB c = true ∧ lettI (c.toNat : Int) = false ∧ inI (c.toNat : Int) tokL = true) ∨
    (tokB c = false ∧ lettI (c.toNat : Int) = false ∧ inI (c.toNat : Int) tokL = false) := by
  simp only [tokB, tokI, lettI, inI, tokL]
  simp
  omega
theorem len_pos (s : ByteArray) : decide ((0 : Int) < (s.size : Int)) = !s.data.toList.isEmpty := by
  rw [size_len]
  cases s.data.toList with
  | nil => rfl
  | cons a l => simp
theorem ltrim_cases (t : ByteArray) : (∃ h : 0 < t.size, blankI (t[0].toNat : Int) = true ∧ ltrim (t.data.toList.drop 1) = ltrim t.data.toList) ∨
    (∃ h : 0 < t.size, blankI (t[0].toNat : Int) = false ∧ ltrim t.data.toList = t.data.toList) ∨ (t.size = 0 ∧ ltrim t.data.toList = t.data.toList) := by
  rcases Nat.eq_zero_or_pos t.size with h | h
  · exact .inr (.inr ⟨h, by rw [nil_of h]; rfl⟩)
  · cases hb : blankB t[0]
    · exact .inr (.inl ⟨h, hb, ltrim_end h hb⟩)
    · exact .inl ⟨h, hb, ltrim_step h hb⟩
theorem rtrim_cases (t : ByteArray) : (∃ h : 0 < t.size, blankI (t[t.size - 1].toNat : Int) = true ∧ rtrim (t.data.toList.take (t.size - 1)) = rtrim t.data.toList) ∨
    (∃ h : 0 < t.size, blankI (t[t.size - 1].toNat : Int) = false ∧ rtrim t.data.toList = t.data.toList) ∨ (t.size = 0 ∧ rtrim t.data.toList = t.data.toList) := by
  rcases Nat.eq_zero_or_pos t.size with h | h
  · exact .inr (.inr ⟨h, by rw [nil_of h]; rfl⟩)
  · cases hb : blankB t[t.size - 1]
    · exact .inr (.inl ⟨h, hb, rtrim_end h hb⟩)
    · exact .inl ⟨h, hb, rtrim_step h hb⟩
theorem low_mid {s : ByteArray} {k : Nat} (h : k < s.size) : (lower (s.data.toList.take k) ++ s.data.toList.drop k).getD k 0 = s[k] := by
  have h1 : (lower (s.data.toList.take k)).length = k := by simp [lower]; omega
  rw [List.getD_eq_getElem?_getD, List.getElem?_append_right (by omega), h1]
  simp [List.getElem?_drop, ByteArray.getElem_eq_getElem_data, h]
theorem low_set {s : ByteArray} {k : Nat} (h : k < s.size) : (lower (s.data.toList.take k) ++ s.data.toList.drop k).set k (lowB s[k]) = lower (s.data.toList.take (k + 1)) ++ s.data.toList.drop (k + 1) := by
  have h1 : (lower (s.data.toList.take k)).length = k := by simp [lower]; omega
  have h2 : k < s.data.toList.length := h
  rw [List.set_append_right _ _ (by omega), h1, Nat.sub_self, take_snoc s k h, List.drop_eq_getElem_cons h2, List.set_cons_zero]
  simp [lower]
theorem low_same {c : UInt8} (h : ¬ (65 ≤ (c.toNat : Int) ∧ (c.toNat : Int) ≤ 90)) : lowB c = c := by
  unfold lowB; rw [if_neg (by omega)]
theorem low_up {c : UInt8} (h1 : 65 ≤ (c.toNat : Int)) (h2 : (c.toNat : Int) ≤ 90) : ((lowB c).toNat : Int) = (c.toNat : Int) + 32 := by
  unfold lowB; rw [if_pos (by omega)]
  rw [UInt8.toNat_add]; simp; omega
theorem dropWhile_le (p : UInt8 → Bool) (l : List UInt8) : (l.dropWhile p).length ≤ l.length := (List.dropWhile_sublist p).length_le
theorem trim_le (l : List UInt8) : (trim l).length ≤ l.length := by
  unfold trim rtrim ltrim
  rw [List.length_reverse]
  exact Nat.le_trans (dropWhile_le _ _) (by rw [List.length_reverse]; exact dropWhile_le _ _)
def mayI (n : Int) : Bool := decide (n = 9 ∨ (32 ≤ n ∧ n ≠ 127))
theorem blankI_or {n : Int} (h : blankI n = true) : (n == 32) = true ∨ ((n == 32) = false ∧ (n == 9) = true) := by
  unfold blankI at h; simp at h ⊢; omega
theorem blankI_no {n : Int} (h : blankI n = false) : (n == 32) = false ∧ (n == 9) = false := by
  unfold blankI at h; simp at h ⊢; omega
theorem ltrim_at (s : ByteArray) (k : Nat) (hk : k ≤ s.size) :
    (∃ h : k < s.size, (((s[k].toNat : Int) == 32) = true ∨ (((s[k].toNat : Int) == 32) = false ∧ ((s[k].toNat : Int) == 9) = true)) ∧ ltrim (s.data.toList.drop (k + 1)) = ltrim (s.data.toList.drop k)) ∨
    (∃ h : k < s.size, (((s[k].toNat : Int) == 32) = false ∧ ((s[k].toNat : Int) == 9) = false) ∧ ltrim (s.data.toList.drop k) = s.data.toList.drop k) ∨
    (¬ k < s.size ∧ ltrim (s.data.toList.drop k) = s.data.toList.drop k) := by
  rcases Nat.lt_or_ge k s.size with h | h
  · have hd : s.data.toList.drop k = s[k] :: s.data.toList.drop (k + 1) := List.drop_eq_getElem_cons (by exact h)
    cases hb : blankB s[k]
    · exact .inr (.inl ⟨h, blankI_no hb, by rw [hd]; simp [ltrim, hb]⟩)
    · exact .inl ⟨h, blankI_or hb, by rw [hd]; simp [ltrim, hb]⟩
  · obtain rfl : k = s.size := by omega
    exact .inr (.inr ⟨by omega, by rw [List.drop_of_length_le (by simp)]; rfl⟩)
theorem rtrim_at (s : ByteArray) (k m : Nat) (hkm : k ≤ m) (hm : m ≤ s.size) :
    (∃ h : k < m, (((s[m - 1].toNat : Int) == 32) = true ∨ (((s[m - 1].toNat : Int) == 32) = false ∧ ((s[m - 1].toNat : Int) == 9) = true)) ∧ rtrim ((s.data.toList.drop k).take (m - 1 - k)) = rtrim ((s.data.toList.drop k).take (m - k))) ∨
    (∃ h : k < m, (((s[m - 1].toNat : Int) == 32) = false ∧ ((s[m - 1].toNat : Int) == 9) = false) ∧ rtrim ((s.data.toList.drop k).take (m - k)) = (s.data.toList.drop k).take (m - k)) ∨
    (¬ k < m ∧ rtrim ((s.data.toList.drop k).take (m - k)) = (s.data.toList.drop k).take (m - k)) := by
  rcases Nat.lt_or_ge k m with h | h
  · have hd : (s.data.toList.drop k).take (m - k) = (s.data.toList.drop k).take (m - 1 - k) ++ [s[m - 1]] := by
      have h1 : m - 1 - k < (s.data.toList.drop k).length := by simp; omega
      rw [show m - k = (m - 1 - k) + 1 from by omega, List.take_succ_eq_append_getElem h1]
      congr 1
      simp [ByteArray.getElem_eq_getElem_data, show k + (m - 1 - k) = m - 1 from by omega]
    cases hb : blankB s[m - 1]
    · exact .inr (.inl ⟨h, blankI_no hb, by rw [hd, rtrim_snoc, if_neg (by simp [hb])]⟩)
    · exact .inl ⟨h, blankI_or hb, by rw [hd, rtrim_snoc, if_pos hb]⟩
  · obtain rfl : k = m := by omega
    exact .inr (.inr ⟨by omega, by simp [rtrim]⟩)
def mayB (c : UInt8) : Bool := mayI (c.toNat : Int)
/-- a text's bytes in quotes, without the quotes -/
def quoteB (l : List UInt8) : List UInt8 := l.flatMap fun c => if (c.toNat : Int) = 34 ∨ (c.toNat : Int) = 92 then [92, c] else [c]
def quoteS (l : List UInt8) : List UInt8 := if l.all mayB then 34 :: quoteB l ++ [34] else []
def quoteE (l : List UInt8) : Int := if l.all mayB then 0 else 4
theorem quoteB_len (l : List UInt8) : (quoteB l).length ≤ 2 * l.length := by
  induction l with
  | nil => simp [quoteB]
  | cons c l ih =>
    have : quoteB (c :: l) = (if (c.toNat : Int) = 34 ∨ (c.toNat : Int) = 92 then [92, c] else [c]) ++ quoteB l := by simp [quoteB]
    rw [this]; split <;> simp <;> omega
theorem quoteB_plain (l : List UInt8) (c : UInt8) (h1 : ¬ (c.toNat : Int) = 34) (h2 : ¬ (c.toNat : Int) = 92) : quoteB (l ++ [c]) = quoteB l ++ [c] := by
  unfold quoteB; rw [List.flatMap_append]; simp; omega
theorem quoteB_mark (l : List UInt8) (c : UInt8) (h : (c.toNat : Int) = 34 ∨ (c.toNat : Int) = 92) : quoteB (l ++ [c]) = quoteB l ++ [92] ++ [c] := by
  unfold quoteB; rw [List.flatMap_append]; simp; omega
/-- what the rest of a text in quotes says; e: a byte 92 stood just ahead -/
def unq : List UInt8 → Bool → List UInt8 → Option (List UInt8)
  | [], _, _ => none
  | c :: r, true, acc => if mayB c then unq r false (acc ++ [c]) else none
  | c :: r, false, acc =>
    if (c.toNat : Int) = 34 then (if r.isEmpty then some acc else none)
    else if (c.toNat : Int) = 92 then unq r true acc
    else if mayB c then unq r false (acc ++ [c]) else none
def unquote : List UInt8 → Option (List UInt8)
  | [] => none
  | c :: r => if (c.toNat : Int) = 34 then unq r false [] else none
def unqS (l : List UInt8) : List UInt8 := (unquote l).getD []
def unqE (l : List UInt8) : Int := if (unquote l).isSome then 0 else 4
theorem drop_at {s : ByteArray} {k : Nat} (h : k < s.size) : s.data.toList.drop k = s[k] :: s.data.toList.drop (k + 1) := List.drop_eq_getElem_cons (by exact h)
end Go.Proofs.YtgkjjmcjlobbpaaGreatDoor

/- Plain lists of bytes: what the lines' reader comes to, step by step, and what a request's line and a reply's line are. Nothing of the program is read here. -/
namespace Go.Proofs.YtgkjjmcjlobbpaaGreatDoor
def visI (n : Int) : Bool := decide (33 ≤ n ∧ n ≤ 126)
def digI (n : Int) : Bool := decide (48 ≤ n ∧ n ≤ 57)
def visB (c : UInt8) : Bool := visI (c.toNat : Int)
def digB (c : UInt8) : Bool := digI (c.toNat : Int)
/-- what strconv.Atoi hands back beside its error -/
def atoiV (l : List UInt8) : Int := match Lib.atoiAll l with | .ok v => v | .range => Lib.atoiSat l | _ => 0
/-- a reader's state -/
structure Rs where
  rest : List UInt8
  amiss : Bool
  major : Int
def Rs.expect (r : Rs) (ok : Bool) : Rs := ⟨r.rest, r.amiss || !ok, r.major⟩
def Rs.fixed (r : Rs) (p : List UInt8) : Rs := ⟨Lib.trimPrefix r.rest p, r.amiss || !Lib.hasPrefix r.rest p, r.major⟩
def Rs.got (r : Rs) (p : UInt8 → Bool) : List UInt8 := r.rest.takeWhile p
def Rs.skip (r : Rs) (p : UInt8 → Bool) : Rs := ⟨r.rest.dropWhile p, r.amiss, r.major⟩
def Rs.num (r : Rs) (k : Int) : Rs := (r.skip digB).expect (((r.got digB).length : Int) == k)
def Rs.numV (r : Rs) : Int := atoiV (r.got digB)
def Rs.setMajor (r : Rs) (n : Int) : Rs := ⟨r.rest, r.amiss, n⟩
def httpL : List UInt8 := [72, 84, 84, 80, 47]
def Rs.ver3 (r : Rs) : Rs := ((((r.fixed httpL).num 1).setMajor (r.fixed httpL).numV)).fixed [46]
def Rs.ver (r : Rs) : Rs := r.ver3.num 1
def Rs.verV (r : Rs) : Int := min r.ver3.numV 1
def Rs.fault (whole : List UInt8) (r : Rs) : Int := if 2048 < whole.length then 3 else if r.amiss || !r.rest.isEmpty then 4 else if r.major = 1 then 0 else 9

def rs0 (s : List UInt8) : Rs := ⟨s, false, 0⟩
def reqA (s : List UInt8) : Rs := (((rs0 s).skip visB).expect (token ((rs0 s).got visB))).fixed [32]
def reqB (s : List UInt8) : Rs := (((reqA s).skip visB).expect (!((reqA s).got visB).isEmpty)).fixed [32]
def reqZ (s : List UInt8) : Rs := (reqB s).ver
def reqE (s : List UInt8) : Int := if (reqZ s).fault s = 0 then (if 1024 < ((reqA s).got visB).length then 3 else 0) else (reqZ s).fault s
def reqM (s : List UInt8) : List UInt8 := if reqE s = 0 then (rs0 s).got visB else []
def reqT (s : List UInt8) : List UInt8 := if reqE s = 0 then (reqA s).got visB else []
def reqN (s : List UInt8) : Int := if reqE s = 0 then (reqB s).verV else 0

def staA (s : List UInt8) : Rs := (rs0 s).ver.fixed [32]
def validS (n : Int) : Bool := decide (100 ≤ n ∧ n ≤ 599)
def staB (s : List UInt8) : Rs := (((staA s).num 3).expect (validS (staA s).numV)).fixed [32]
def staZ (s : List UInt8) : Rs := (staB s).skip mayB
def staE (s : List UInt8) : Int := (staZ s).fault s
def staC (s : List UInt8) : Int := if staE s = 0 then (staA s).numV else 0
def staR (s : List UInt8) : List UInt8 := if staE s = 0 then (staB s).got mayB else []
def staN (s : List UInt8) : Int := if staE s = 0 then (rs0 s).verV else 0

theorem takeWhile_append {p : UInt8 → Bool} {a b : List UInt8} (ha : a.all p = true) (hb : b.takeWhile p = []) : (a ++ b).takeWhile p = a := by
  induction a with
  | nil => simpa using hb
  | cons c l ih =>
    simp only [List.all_cons, Bool.and_eq_true] at ha
    rw [List.cons_append, List.takeWhile_cons, if_pos ha.1, ih ha.2]
theorem dropWhile_append {p : UInt8 → Bool} {a b : List UInt8} (ha : a.all p = true) (hb : b.takeWhile p = []) : (a ++ b).dropWhile p = b := by
  have h1 := List.takeWhile_append_dropWhile (p := p) (l := a ++ b)
  rw [takeWhile_append ha hb] at h1
  exact List.append_cancel_left h1
theorem all_takeWhile (p : UInt8 → Bool) (l : List UInt8) : (l.takeWhile p).all p = true := by
  induction l with
  | nil => rfl
  | cons c l ih =>
    rw [List.takeWhile_cons]
    split
    · rename_i h; simp only [List.all_cons, h, ih, Bool.and_self]
    · rfl
theorem tok_vis {c : UInt8} (h : tokB c = true) : visB c = true := by
  unfold tokB tokI at h
  unfold visB visI
  simp at h ⊢
  omega
theorem token_vis {l : List UInt8} (h : token l = true) : l.all visB = true := by
  unfold token at h
  rw [Bool.and_eq_true] at h
  rw [List.all_eq_true]
  exact fun c hc => tok_vis (List.all_eq_true.1 h.2 c hc)

/-- a version's bytes -/
def verL (d1 d2 : UInt8) : List UInt8 := httpL ++ [d1, 46, d2]
structure IsReq (s m t : List UInt8) (d1 d2 : UInt8) : Prop where
  eq : s = m ++ 32 :: (t ++ 32 :: verL d1 d2)
  tok : token m = true
  vis : t.all visB = true
  ne : t ≠ []
  dig1 : digB d1 = true
  dig2 : digB d2 = true
structure IsSta (s : List UInt8) (d1 d2 a b c : UInt8) (r : List UInt8) : Prop where
  eq : s = verL d1 d2 ++ 32 :: a :: b :: c :: 32 :: r
  dig1 : digB d1 = true
  dig2 : digB d2 = true
  one : 49 ≤ a.toNat ∧ a.toNat ≤ 53
  dig3 : digB b = true
  dig4 : digB c = true
  may : r.all mayB = true

theorem digB_iff {c : UInt8} : digB c = true ↔ 48 ≤ c.toNat ∧ c.toNat ≤ 57 := by
  unfold digB digI; simp; omega
theorem digB_not {c : UInt8} : digB c = false ↔ ¬ (48 ≤ c.toNat ∧ c.toNat ≤ 57) := by
  rw [← digB_iff]; simp
theorem atoi1 {a : UInt8} (h : digB a = true) : atoiV [a] = (a.toNat : Int) - 48 := by
  have g := digB_iff.1 h
  unfold atoiV Lib.atoiAll
  simp only
  rw [if_neg (by omega)]
  simp only [Lib.parseMag, Lib.parseUint10, reduceCtorEq, if_false, if_pos g]
  rw [if_neg (by omega), if_neg (by omega)]
  simp only
  rw [if_neg (by omega), if_neg (by omega)]
  simp only
  rw [if_neg (by omega)]; omega
theorem atoi3 {a b c : UInt8} (h : digB a = true) (hb : digB b = true) (hc : digB c = true) : atoiV [a, b, c] = 100 * ((a.toNat : Int) - 48) + 10 * ((b.toNat : Int) - 48) + ((c.toNat : Int) - 48) := by
  have g := digB_iff.1 h
  have g2 := digB_iff.1 hb
  have g3 := digB_iff.1 hc
  unfold atoiV Lib.atoiAll
  simp only
  rw [if_neg (by omega)]
  simp only [Lib.parseMag, Lib.parseUint10, reduceCtorEq, if_false, if_pos g]
  rw [if_neg (by omega), if_neg (by omega)]
  simp only [if_pos g2]
  rw [if_neg (by omega), if_neg (by omega)]
  simp only [if_pos g3]
  rw [if_neg (by omega), if_neg (by omega)]
  simp only
  rw [if_neg (by omega), if_neg (by omega)]
  simp only
  rw [if_neg (by omega)]; omega
end Go.Proofs.YtgkjjmcjlobbpaaGreatDoor

/- The reader's steps, forth and back: a text is a request's line just if nothing is amiss at its end. Nothing of the program is read here. -/
namespace Go.Proofs.YtgkjjmcjlobbpaaGreatDoor
theorem take_end (s : ByteArray) (p : UInt8 → Bool) (k : Nat) (hk : k ≤ s.size) (hp : (s.data.toList.take k).all p = true) (h : ¬ k < s.size ∨ ∃ h : k < s.size, p s[k] = false) :
    s.data.toList.takeWhile p = s.data.toList.take k ∧ s.data.toList.dropWhile p = s.data.toList.drop k := by
  have hb : (s.data.toList.drop k).takeWhile p = [] := by
    rcases h with h | ⟨h, h2⟩
    · rw [List.drop_of_length_le (by rw [← size_len]; omega)]; rfl
    · rw [drop_at h, List.takeWhile_cons, if_neg (by simp [h2])]
  have h1 := takeWhile_append hp hb
  have h2 := dropWhile_append hp hb
  rw [List.take_append_drop] at h1 h2
  exact ⟨h1, h2⟩
theorem hasPrefix_append (p r : List UInt8) : Lib.hasPrefix (p ++ r) p = true := by
  unfold Lib.hasPrefix
  rw [List.isPrefixOf_iff_prefix]
  exact List.prefix_append p r
theorem trimPrefix_append (p r : List UInt8) : Lib.trimPrefix (p ++ r) p = r := by
  unfold Lib.trimPrefix
  rw [if_pos (hasPrefix_append p r)]
  simp
theorem hasPrefix_inv {s p : List UInt8} (h : Lib.hasPrefix s p = true) : s = p ++ Lib.trimPrefix s p := by
  unfold Lib.trimPrefix
  rw [if_pos h]
  unfold Lib.hasPrefix at h
  rw [List.isPrefixOf_iff_prefix] at h
  obtain ⟨r, rfl⟩ := h
  simp
theorem Rs.fixed_hit {p z : List UInt8} {x : Bool} {n : Int} : Rs.fixed ⟨p ++ z, x, n⟩ p = ⟨z, x, n⟩ := by
  simp only [Rs.fixed, hasPrefix_append, trimPrefix_append, Bool.not_true, Bool.or_false]
theorem Rs.fixed_inv {r : Rs} {p : List UInt8} (h : (r.fixed p).amiss = false) : r.amiss = false ∧ r.rest = p ++ (r.fixed p).rest := by
  simp only [Rs.fixed, Bool.or_eq_false_iff, Bool.not_eq_false'] at h ⊢
  exact ⟨h.1, hasPrefix_inv h.2⟩
theorem Rs.expect_inv {r : Rs} {b : Bool} (h : (r.expect b).amiss = false) : r.amiss = false ∧ b = true := by
  simpa only [Rs.expect, Bool.or_eq_false_iff, Bool.not_eq_false'] using h
theorem Rs.skip_got (r : Rs) (p : UInt8 → Bool) : r.rest = r.got p ++ (r.skip p).rest := (List.takeWhile_append_dropWhile (p := p) (l := r.rest)).symm
theorem Rs.num_inv {r : Rs} {k : Int} (h : (r.num k).amiss = false) : r.amiss = false ∧ ((r.got digB).length : Int) = k ∧ r.rest = r.got digB ++ (r.num k).rest := by
  obtain ⟨h1, h2⟩ := Rs.expect_inv h
  exact ⟨h1, by simpa using h2, r.skip_got digB⟩
theorem Rs.num1_inv {r : Rs} (h : (r.num 1).amiss = false) : r.amiss = false ∧ ∃ d, digB d = true ∧ r.got digB = [d] ∧ r.rest = d :: (r.num 1).rest := by
  obtain ⟨h1, h2, h3⟩ := Rs.num_inv h
  have h4 : (r.got digB).length = 1 := by omega
  obtain ⟨d, hd⟩ := List.length_eq_one_iff.1 h4
  have h5 := all_takeWhile digB r.rest
  rw [show r.rest.takeWhile digB = r.got digB from rfl, hd] at h5
  rw [hd] at h3
  exact ⟨h1, d, by simpa using h5, hd, h3⟩
theorem Rs.num1_hit {d : UInt8} {z : List UInt8} {x : Bool} {n : Int} (hd : digB d = true) (hz : z.takeWhile digB = []) : Rs.num ⟨d :: z, x, n⟩ 1 = ⟨z, x, n⟩ ∧ Rs.numV ⟨d :: z, x, n⟩ = (d.toNat : Int) - 48 := by
  have h1 : (d :: z).takeWhile digB = [d] := takeWhile_append (a := [d]) (by simpa using hd) hz
  have h2 : (d :: z).dropWhile digB = z := dropWhile_append (a := [d]) (by simpa using hd) hz
  constructor
  · simp only [Rs.num, Rs.skip, Rs.got, Rs.expect, h1, h2]; simp
  · simp only [Rs.numV, Rs.got, h1]; exact atoi1 hd
theorem Rs.num3_hit {a b c : UInt8} {z : List UInt8} {x : Bool} {n : Int} (ha : digB a = true) (hb : digB b = true) (hc : digB c = true) (hz : z.takeWhile digB = []) :
    Rs.num ⟨a :: b :: c :: z, x, n⟩ 3 = ⟨z, x, n⟩ ∧ Rs.numV ⟨a :: b :: c :: z, x, n⟩ = 100 * ((a.toNat : Int) - 48) + 10 * ((b.toNat : Int) - 48) + ((c.toNat : Int) - 48) := by
  have h1 : (a :: b :: c :: z).takeWhile digB = [a, b, c] := takeWhile_append (a := [a, b, c]) (by simp [ha, hb, hc]) hz
  have h2 : (a :: b :: c :: z).dropWhile digB = z := dropWhile_append (a := [a, b, c]) (by simp [ha, hb, hc]) hz
  constructor
  · simp only [Rs.num, Rs.skip, Rs.got, Rs.expect, h1, h2]; simp
  · simp only [Rs.numV, Rs.got, h1]; exact atoi3 ha hb hc
theorem three_of {l : List UInt8} (h : l.length = 3) : ∃ a b c, l = [a, b, c] := by
  match l, h with
  | [a, b, c], _ => exact ⟨a, b, c, rfl⟩
theorem Rs.num3_inv {r : Rs} (h : (r.num 3).amiss = false) : r.amiss = false ∧ ∃ a b c, digB a = true ∧ digB b = true ∧ digB c = true ∧ r.got digB = [a, b, c] ∧ r.rest = a :: b :: c :: (r.num 3).rest := by
  obtain ⟨h1, h2, h3⟩ := Rs.num_inv h
  have h4 : (r.got digB).length = 3 := by omega
  obtain ⟨a, b, c, hd⟩ := three_of h4
  have h5 := all_takeWhile digB r.rest
  rw [show r.rest.takeWhile digB = r.got digB from rfl, hd] at h5
  rw [hd] at h3
  simp only [List.all_cons, List.all_nil, Bool.and_true, Bool.and_eq_true] at h5
  exact ⟨h1, a, b, c, h5.1, h5.2.1, h5.2.2, hd, h3⟩
theorem not_dig46 : digB 46 = false := by decide
theorem not_dig32 : digB 32 = false := by decide
theorem not_vis32 : visB 32 = false := by decide
theorem nil_dig {c : UInt8} {l : List UInt8} (h : digB c = false) : (c :: l).takeWhile digB = [] := by rw [List.takeWhile_cons, if_neg (by simp [h])]
theorem nil_vis (l : List UInt8) : (32 :: l).takeWhile visB = [] := by rw [List.takeWhile_cons, if_neg (by simp [not_vis32])]

theorem Rs.ver_hit {d1 d2 : UInt8} {z : List UInt8} {x : Bool} {n : Int} (h1 : digB d1 = true) (h2 : digB d2 = true) (hz : z.takeWhile digB = []) :
    Rs.ver ⟨verL d1 d2 ++ z, x, n⟩ = ⟨z, x, (d1.toNat : Int) - 48⟩ ∧ Rs.verV ⟨verL d1 d2 ++ z, x, n⟩ = min ((d2.toNat : Int) - 48) 1 := by
  have e1 : Rs.fixed ⟨verL d1 d2 ++ z, x, n⟩ httpL = ⟨d1 :: 46 :: d2 :: z, x, n⟩ := by
    unfold verL; rw [List.append_assoc]; exact Rs.fixed_hit
  obtain ⟨e2, e3⟩ := Rs.num1_hit (x := x) (n := n) h1 (nil_dig (l := d2 :: z) not_dig46)
  have e4 : Rs.ver3 ⟨verL d1 d2 ++ z, x, n⟩ = ⟨d2 :: z, x, (d1.toNat : Int) - 48⟩ := by
    unfold Rs.ver3; rw [e1, e2, e3]
    exact Rs.fixed_hit (p := [46])
  obtain ⟨e5, e6⟩ := Rs.num1_hit (x := x) (n := (d1.toNat : Int) - 48) h2 hz
  constructor
  · unfold Rs.ver; rw [e4, e5]
  · unfold Rs.verV; rw [e4, e6]
theorem Rs.ver_inv {r : Rs} (h : r.ver.amiss = false) : r.amiss = false ∧ ∃ d1 d2, digB d1 = true ∧ digB d2 = true ∧ r.rest = verL d1 d2 ++ r.ver.rest := by
  obtain ⟨g1, d2, hd2, _, g2⟩ := Rs.num1_inv h
  obtain ⟨g3, g4⟩ := Rs.fixed_inv g1
  obtain ⟨g5, d1, hd1, _, g6⟩ := Rs.num1_inv (r := r.fixed httpL) g3
  obtain ⟨g7, g8⟩ := Rs.fixed_inv g5
  refine ⟨g7, d1, d2, hd1, hd2, ?_⟩
  have g4' : ((r.fixed httpL).num 1).rest = [46] ++ r.ver3.rest := g4
  rw [g8, g6, g4', g2]
  simp [verL, Rs.ver]

theorem req_is {s m t : List UInt8} {d1 d2 : UInt8} (h : IsReq s m t d1 d2) :
    (rs0 s).got visB = m ∧ (reqA s).got visB = t ∧ reqZ s = ⟨[], false, (d1.toNat : Int) - 48⟩ ∧ (reqB s).verV = min ((d2.toNat : Int) - 48) 1 := by
  have a1 : (rs0 s).got visB = m := by
    unfold rs0 Rs.got; rw [h.eq]; exact takeWhile_append (token_vis h.tok) (nil_vis _)
  have a2 : (rs0 s).skip visB = ⟨32 :: (t ++ 32 :: verL d1 d2), false, 0⟩ := by
    unfold rs0 Rs.skip; rw [h.eq]; simp only; rw [dropWhile_append (token_vis h.tok) (nil_vis _)]
  have a3 : reqA s = ⟨t ++ 32 :: verL d1 d2, false, 0⟩ := by
    unfold reqA; rw [a1, a2, h.tok]; exact Rs.fixed_hit (p := [32])
  have b1 : (reqA s).got visB = t := by
    rw [a3]; exact takeWhile_append h.vis (nil_vis _)
  have b2 : (reqA s).skip visB = ⟨32 :: verL d1 d2, false, 0⟩ := by
    rw [a3]; unfold Rs.skip; simp only; rw [dropWhile_append h.vis (nil_vis _)]
  have b3 : reqB s = ⟨verL d1 d2 ++ [], false, 0⟩ := by
    unfold reqB; rw [b1, b2, List.append_nil]
    have : t.isEmpty = false := by simpa using h.ne
    rw [this]; exact Rs.fixed_hit (p := [32])
  have b4 := Rs.ver_hit (x := false) (n := 0) h.dig1 h.dig2 (z := []) rfl
  refine ⟨a1, b1, ?_, ?_⟩
  · unfold reqZ; rw [b3]; exact b4.1
  · rw [b3]; exact b4.2
theorem req_of {s : List UInt8} (h : (reqZ s).amiss = false) (hr : (reqZ s).rest = []) : ∃ m t d1 d2, IsReq s m t d1 d2 := by
  obtain ⟨g1, d1, d2, hd1, hd2, g2⟩ := Rs.ver_inv h
  obtain ⟨g3, g4⟩ := Rs.fixed_inv (r := ((reqA s).skip visB).expect (!((reqA s).got visB).isEmpty)) g1
  obtain ⟨g5, g6⟩ := Rs.expect_inv g3
  obtain ⟨g7, g8⟩ := Rs.fixed_inv (r := ((rs0 s).skip visB).expect (token ((rs0 s).got visB))) g5
  obtain ⟨_, g9⟩ := Rs.expect_inv g7
  refine ⟨(rs0 s).got visB, (reqA s).got visB, d1, d2, ?_, g9, all_takeWhile _ _, by simpa using g6, hd1, hd2⟩
  have e1 : s = (rs0 s).got visB ++ ((rs0 s).skip visB).rest := (rs0 s).skip_got visB
  have e2 : ((rs0 s).skip visB).rest = [32] ++ (reqA s).rest := g8
  have e3 : (reqA s).rest = (reqA s).got visB ++ ((reqA s).skip visB).rest := (reqA s).skip_got visB
  have e4 : ((reqA s).skip visB).rest = [32] ++ (reqB s).rest := g4
  have e5 : (reqB s).rest = verL d1 d2 := by
    have : (reqB s).rest = verL d1 d2 ++ (reqZ s).rest := g2
    rw [this, hr, List.append_nil]
  rw [e5] at e4
  rw [e4] at e3
  rw [e3] at e2
  rw [e2] at e1
  exact e1

theorem sta_is {s r : List UInt8} {d1 d2 a b c : UInt8} (h : IsSta s d1 d2 a b c r) :
    (rs0 s).verV = min ((d2.toNat : Int) - 48) 1 ∧ (staA s).numV = 100 * ((a.toNat : Int) - 48) + 10 * ((b.toNat : Int) - 48) + ((c.toNat : Int) - 48) ∧ (staB s).got mayB = r ∧ staZ s = ⟨[], false, (d1.toNat : Int) - 48⟩ := by
  have ha : digB a = true := digB_iff.2 (by have := h.one; omega)
  have hb := digB_iff.1 h.dig3
  have hc := digB_iff.1 h.dig4
  have h1 := h.one
  have e0 : rs0 s = ⟨verL d1 d2 ++ 32 :: a :: b :: c :: 32 :: r, false, 0⟩ := by unfold rs0; rw [h.eq]
  have e1 := Rs.ver_hit (x := false) (n := 0) h.dig1 h.dig2 (z := 32 :: a :: b :: c :: 32 :: r) (nil_dig not_dig32)
  rw [← e0] at e1
  have e2 : staA s = ⟨a :: b :: c :: 32 :: r, false, (d1.toNat : Int) - 48⟩ := by
    unfold staA; rw [e1.1]; exact Rs.fixed_hit (p := [32])
  have e3 := Rs.num3_hit (x := false) (n := (d1.toNat : Int) - 48) ha h.dig3 h.dig4 (z := 32 :: r) (nil_dig not_dig32)
  rw [← e2] at e3
  have hv : validS (staA s).numV = true := by rw [e3.2]; unfold validS; simp; omega
  have e4 : staB s = ⟨r, false, (d1.toNat : Int) - 48⟩ := by
    unfold staB; rw [e3.1, hv]; exact Rs.fixed_hit (p := [32])
  have e5 : r.takeWhile mayB = r := by have := takeWhile_append (b := []) h.may rfl; rwa [List.append_nil] at this
  have e6 : r.dropWhile mayB = [] := by have := dropWhile_append (b := []) h.may rfl; rwa [List.append_nil] at this
  refine ⟨e1.2, e3.2, ?_, ?_⟩
  · rw [e4]; exact e5
  · unfold staZ; rw [e4]; unfold Rs.skip; simp only; rw [e6]
theorem sta_of {s : List UInt8} (h : (staZ s).amiss = false) (hr : (staZ s).rest = []) : ∃ d1 d2 a b c r, IsSta s d1 d2 a b c r := by
  have g0 : (staB s).amiss = false := h
  obtain ⟨g1, g2⟩ := Rs.fixed_inv (r := ((staA s).num 3).expect (validS (staA s).numV)) g0
  obtain ⟨g3, g4⟩ := Rs.expect_inv g1
  obtain ⟨g5, a, b, c, ha, hb, hc, g6, g7⟩ := Rs.num3_inv g3
  obtain ⟨g8, g9⟩ := Rs.fixed_inv (r := (rs0 s).ver) g5
  obtain ⟨_, d1, d2, hd1, hd2, g10⟩ := Rs.ver_inv g8
  have e1 : (staB s).rest = (staB s).got mayB := by
    have h1 := (staB s).skip_got mayB
    have h2 : ((staB s).skip mayB).rest = [] := hr
    rwa [h2, List.append_nil] at h1
  have e2 : ((staA s).num 3).rest = [32] ++ (staB s).rest := g2
  have e3 : (rs0 s).ver.rest = [32] ++ (staA s).rest := g9
  have e4 : s = verL d1 d2 ++ (rs0 s).ver.rest := g10
  have hv : (staA s).numV = 100 * ((a.toNat : Int) - 48) + 10 * ((b.toNat : Int) - 48) + ((c.toNat : Int) - 48) := by
    unfold Rs.numV; rw [g6]; exact atoi3 ha hb hc
  have ha' := digB_iff.1 ha
  have hb' := digB_iff.1 hb
  have hc' := digB_iff.1 hc
  have hone : 49 ≤ a.toNat ∧ a.toNat ≤ 53 := by
    rw [hv] at g4; unfold validS at g4; simp at g4; omega
  refine ⟨d1, d2, a, b, c, (staB s).got mayB, ?_, hd1, hd2, hone, hb, hc, all_takeWhile _ _⟩
  rw [e2, e1] at g7
  rw [g7] at e3
  rw [e3] at e4
  exact e4
end Go.Proofs.YtgkjjmcjlobbpaaGreatDoor

/- Lines that are put: plain lists of bytes, and what they are read as. Nothing of the program is read here. -/
namespace Go.Proofs.YtgkjjmcjlobbpaaGreatDoor
def bitB (n : Int) : UInt8 := if n = 0 then 48 else 49
def verN (n : Int) : List UInt8 := [72, 84, 84, 80, 47, 49, 46] ++ [bitB n]
def reqLine (m t : List UInt8) (n : Int) : List UInt8 := m ++ [32] ++ t ++ [32] ++ verN n
def validM (n : Int) : Bool := decide (n = 0 ∨ n = 1)
def target (l : List UInt8) : Bool := l.all visB && !l.isEmpty
def putRQ (m t : List UInt8) (n : Int) : Int := if token m && target t && validM n then (if 1024 < t.length ∨ 2048 < (reqLine m t n).length then 3 else 0) else 4
def putRL (m t : List UInt8) (n : Int) : List UInt8 := if putRQ m t n = 0 then reqLine m t n else []
def code3 (n : Int) : List UInt8 := [UInt8.ofNat (48 + n.toNat / 100), UInt8.ofNat (48 + n.toNat / 10 % 10), UInt8.ofNat (48 + n.toNat % 10)]
def staLine (c : Int) (r : List UInt8) (n : Int) : List UInt8 := verN n ++ [32] ++ code3 c ++ [32] ++ r
def putSQ (c : Int) (r : List UInt8) (n : Int) : Int := if validS c && r.all mayB && validM n then (if 2048 < (staLine c r n).length then 3 else 0) else 4
def putSL (c : Int) (r : List UInt8) (n : Int) : List UInt8 := if putSQ c r n = 0 then staLine c r n else []
theorem dec3 {n : Nat} (h1 : 100 ≤ n) (h2 : n ≤ 999) : Lib.decDigits n = [UInt8.ofNat (48 + n / 100), UInt8.ofNat (48 + n / 10 % 10), UInt8.ofNat (48 + n % 10)] := by
  rw [Lib.decDigits, dif_neg (by omega), Lib.decDigits, dif_neg (by omega), Lib.decDigits, dif_pos (by omega)]
  have : n / 10 / 10 = n / 100 := by omega
  rw [this]; rfl
theorem itoa3 {n : Int} (h1 : 100 ≤ n) (h2 : n ≤ 599) : Lib.itoa n = code3 n := by
  unfold Lib.itoa
  rw [if_neg (by omega)]
  exact dec3 (n := n.toNat) (by omega) (by omega)
theorem drop_all (p : UInt8 → Bool) (l : List UInt8) : (l.dropWhile p).isEmpty = l.all p := by
  induction l with
  | nil => rfl
  | cons c l ih =>
    rw [List.dropWhile_cons, List.all_cons]
    cases h : p c
    · rfl
    · simpa using ih
end Go.Proofs.YtgkjjmcjlobbpaaGreatDoor

/- What a request's line and a reply's line are answered with, by what they are; how the document cuts them. Nothing of the program is read here. -/
namespace Go.Proofs.YtgkjjmcjlobbpaaGreatDoor
def minB (d : UInt8) : Int := if d.toNat = 48 then 0 else 1
theorem min_dig {d : UInt8} (h : digB d = true) : min ((d.toNat : Int) - 48) 1 = minB d := by
  have := digB_iff.1 h
  unfold minB; split <;> omega
theorem fault_of (s : List UInt8) (r : Rs) (h : s.length ≤ 2048) : r.fault s = if r.amiss || !r.rest.isEmpty then 4 else if r.major = 1 then 0 else 9 := by
  unfold Rs.fault; rw [if_neg (by omega)]
theorem req_zero {s : List UInt8} (h : reqE s ≠ 0) : reqM s = [] ∧ reqT s = [] ∧ reqN s = 0 := by
  unfold reqM reqT reqN; rw [if_neg h, if_neg h, if_neg h]; exact ⟨rfl, rfl, rfl⟩
theorem req_long {s : List UInt8} (h : 2048 < s.length) : reqE s = 3 := by
  have : (reqZ s).fault s = 3 := by unfold Rs.fault; rw [if_pos h]
  unfold reqE; rw [this]; rfl
theorem req_none {s : List UInt8} (h : s.length ≤ 2048) (hn : ∀ m t d1 d2, ¬ IsReq s m t d1 d2) : reqE s = 4 := by
  have : (reqZ s).fault s = 4 := by
    rw [fault_of s _ h]
    by_cases ha : (reqZ s).amiss = true
    · rw [ha]; rfl
    · have ha := Bool.eq_false_iff.2 ha
      cases hr : (reqZ s).rest with
      | nil => obtain ⟨m, t, d1, d2, hh⟩ := req_of ha hr; exact absurd hh (hn m t d1 d2)
      | cons c l => rw [ha]; rfl
  unfold reqE; rw [this]; rfl
section
variable {s m t : List UInt8} {d1 d2 : UInt8} (h : s.length ≤ 2048) (hr : IsReq s m t d1 d2)
include h hr
theorem req_fault : (reqZ s).fault s = if d1.toNat = 49 then 0 else 9 := by
  rw [fault_of s _ h, (req_is hr).2.2.1]
  simp only [Bool.false_or, List.isEmpty_nil, Bool.not_true, Bool.false_eq_true, if_false]
  by_cases g : d1.toNat = 49
  · rw [if_pos g, if_pos (by omega)]
  · rw [if_neg g, if_neg (by omega)]
theorem req_ver (g : d1.toNat ≠ 49) : reqE s = 9 := by
  have := req_fault h hr
  rw [if_neg g] at this
  unfold reqE; rw [this]; rfl
theorem req_uri (g : d1.toNat = 49) (hl : 1024 < t.length) : reqE s = 3 := by
  have := req_fault h hr
  rw [if_pos g] at this
  unfold reqE; rw [this, (req_is hr).2.1, if_pos rfl, if_pos hl]
theorem req_ok (g : d1.toNat = 49) (hl : t.length ≤ 1024) : reqE s = 0 ∧ reqM s = m ∧ reqT s = t ∧ reqN s = minB d2 := by
  have h1 := req_fault h hr
  rw [if_pos g] at h1
  have h0 : reqE s = 0 := by unfold reqE; rw [h1, (req_is hr).2.1, if_pos rfl, if_neg (by omega)]
  refine ⟨h0, ?_, ?_, ?_⟩
  · unfold reqM; rw [if_pos h0]; exact (req_is hr).1
  · unfold reqT; rw [if_pos h0]; exact (req_is hr).2.1
  · unfold reqN; rw [if_pos h0, (req_is hr).2.2.2]; exact min_dig hr.dig2
end
theorem sta_zero {s : List UInt8} (h : staE s ≠ 0) : staC s = 0 ∧ staR s = [] ∧ staN s = 0 := by
  unfold staC staR staN; rw [if_neg h, if_neg h, if_neg h]; exact ⟨rfl, rfl, rfl⟩
theorem sta_long {s : List UInt8} (h : 2048 < s.length) : staE s = 3 := by
  unfold staE Rs.fault; rw [if_pos h]
theorem sta_none {s : List UInt8} (h : s.length ≤ 2048) (hn : ∀ d1 d2 a b c r, ¬ IsSta s d1 d2 a b c r) : staE s = 4 := by
  unfold staE
  rw [fault_of s _ h]
  by_cases ha : (staZ s).amiss = true
  · rw [ha]; rfl
  · have ha := Bool.eq_false_iff.2 ha
    cases hr : (staZ s).rest with
    | nil => obtain ⟨d1, d2, a, b, c, r, hh⟩ := sta_of ha hr; exact absurd hh (hn d1 d2 a b c r)
    | cons c l => rw [ha]; rfl
section
variable {s r : List UInt8} {d1 d2 a b c : UInt8} (h : s.length ≤ 2048) (hr : IsSta s d1 d2 a b c r)
include h hr
theorem sta_fault : staE s = if d1.toNat = 49 then 0 else 9 := by
  unfold staE
  rw [fault_of s _ h, (sta_is hr).2.2.2]
  simp only [Bool.false_or, List.isEmpty_nil, Bool.not_true, Bool.false_eq_true, if_false]
  by_cases g : d1.toNat = 49
  · rw [if_pos g, if_pos (by omega)]
  · rw [if_neg g, if_neg (by omega)]
theorem sta_ver (g : d1.toNat ≠ 49) : staE s = 9 := by rw [sta_fault h hr, if_neg g]
theorem sta_ok (g : d1.toNat = 49) : staE s = 0 ∧ staC s = 100 * ((a.toNat : Int) - 48) + 10 * ((b.toNat : Int) - 48) + ((c.toNat : Int) - 48) ∧ staR s = r ∧ staN s = minB d2 := by
  have h0 : staE s = 0 := by rw [sta_fault h hr, if_pos g]
  refine ⟨h0, ?_, ?_, ?_⟩
  · unfold staC; rw [if_pos h0]; exact (sta_is hr).2.1
  · unfold staR; rw [if_pos h0]; exact (sta_is hr).2.2.1
  · unfold staN; rw [if_pos h0, (sta_is hr).1]; exact min_dig hr.dig2
end

/-- is a text a version? -/
def isVer (l : List UInt8) : Bool := (l.length == 8) && (l.take 5 == httpL) && digB (l.getD 5 0) && (((l.getD 6 0).toNat : Int) == 46) && digB (l.getD 7 0)
theorem isVer_mk {d1 d2 : UInt8} (h1 : digB d1 = true) (h2 : digB d2 = true) : isVer (verL d1 d2) = true := by
  unfold isVer verL httpL; simp [h1, h2]
theorem isVer_inv {l : List UInt8} (h : isVer l = true) : l = verL (l.getD 5 0) (l.getD 7 0) ∧ digB (l.getD 5 0) = true ∧ digB (l.getD 7 0) = true := by
  unfold isVer at h
  simp only [Bool.and_eq_true] at h
  obtain ⟨⟨⟨⟨h1, h2⟩, h3⟩, h4⟩, h5⟩ := h
  refine ⟨?_, h3, h5⟩
  have h1 := beq_iff_eq.1 h1
  match l, h1 with
  | [a, b, c, d, e, f, g, i], _ =>
    have h2 := beq_iff_eq.1 h2
    have h4 := beq_iff_eq.1 h4
    simp at h2 h4
    have hg : g = 46 := UInt8.toNat_inj.1 (by have : (46 : UInt8).toNat = 46 := rfl; omega)
    subst hg
    simp [httpL] at h2
    simp [verL, httpL, h2]
/-- may byte j part a request's method from its target, byte n the target from the version? -/
def cutAtL (s : List UInt8) (n j : Nat) : Bool := (((s.getD j 0).toNat : Int) == 32) && token (s.take j) && target ((s.drop (j + 1)).take (n - (j + 1)))
theorem u8_eq {c d : UInt8} (h : (c.toNat : Int) = d.toNat) : c = d := UInt8.toNat_inj.1 (by omega)
theorem isReq_at {s : List UInt8} {n j : Nat} (hn : s.length = n + 9) (hj : j < n) (h1 : ((s.getD n 0).toNat : Int) = 32) (h2 : isVer (s.drop (n + 1)) = true) (h3 : cutAtL s n j = true) :
    IsReq s (s.take j) ((s.drop (j + 1)).take (n - (j + 1))) (s.getD (n + 6) 0) (s.getD (n + 8) 0) := by
  unfold cutAtL at h3
  simp only [Bool.and_eq_true] at h3
  obtain ⟨⟨g1, g2⟩, g3⟩ := h3
  have g1 : s.getD j 0 = 32 := u8_eq (by simpa using beq_iff_eq.1 g1)
  have e1 : s.getD n 0 = 32 := u8_eq (by simpa using h1)
  unfold target at g3
  rw [Bool.and_eq_true] at g3
  obtain ⟨v1, v2, v3⟩ := isVer_inv h2
  have k1 : (s.drop (n + 1)).getD 5 0 = s.getD (n + 6) 0 := by simp [List.getD_eq_getElem?_getD]
  have k2 : (s.drop (n + 1)).getD 7 0 = s.getD (n + 8) 0 := by simp [List.getD_eq_getElem?_getD]
  rw [k1] at v1 v2
  rw [k2] at v1 v3
  refine ⟨?_, g2, g3.1, by simpa using g3.2, v2, v3⟩
  have d1 : s.drop n = 32 :: s.drop (n + 1) := by
    rw [List.drop_eq_getElem_cons (by omega)]
    congr 1
    rw [← e1]; simp [List.getD_eq_getElem?_getD, show n < s.length from by omega]
  have d2 : s.drop j = 32 :: s.drop (j + 1) := by
    rw [List.drop_eq_getElem_cons (by omega)]
    congr 1
    rw [← g1]; simp [List.getD_eq_getElem?_getD, show j < s.length from by omega]
  have d3 : s.drop (j + 1) = (s.drop (j + 1)).take (n - (j + 1)) ++ s.drop n := by
    have := List.take_append_drop (n - (j + 1)) (s.drop (j + 1))
    rw [List.drop_drop, show j + 1 + (n - (j + 1)) = n from by omega] at this
    exact this.symm
  rw [← v1, ← d1, ← d3, ← d2, List.take_append_drop]
theorem isReq_cut {s m t : List UInt8} {d1 d2 : UInt8} (h : IsReq s m t d1 d2) : ∃ n, s.length = n + 9 ∧ ((s.getD n 0).toNat : Int) = 32 ∧ isVer (s.drop (n + 1)) = true ∧ m.length < n ∧ cutAtL s n m.length = true := by
  refine ⟨m.length + 1 + t.length, ?_, ?_, ?_, ?_, ?_⟩
  · rw [h.eq]; simp [verL, httpL]; omega
  · have : s.getD (m.length + 1 + t.length) 0 = 32 := by
      rw [h.eq, List.getD_eq_getElem?_getD, List.getElem?_append_right (by omega), show m.length + 1 + t.length - m.length = t.length + 1 from by omega, List.getElem?_cons_succ, List.getElem?_append_right (by omega)]
      simp
    rw [this]; rfl
  · have : s.drop (m.length + 1 + t.length + 1) = verL d1 d2 := by
      rw [h.eq, List.drop_append, List.drop_of_length_le (by omega), show m.length + 1 + t.length + 1 - m.length = t.length + 1 + 1 from by omega, List.drop_succ_cons, List.drop_append, List.drop_of_length_le (by omega), show t.length + 1 - t.length = 1 from by omega]
      rfl
    rw [this]; exact isVer_mk h.dig1 h.dig2
  · have := List.length_pos_iff.2 h.ne; omega
  · unfold cutAtL
    have e1 : s.getD m.length 0 = 32 := by rw [h.eq, List.getD_eq_getElem?_getD, List.getElem?_append_right (by omega)]; simp
    have e2 : s.take m.length = m := by rw [h.eq]; simp
    have e3 : (s.drop (m.length + 1)).take (m.length + 1 + t.length - (m.length + 1)) = t := by
      rw [h.eq, List.drop_append, List.drop_of_length_le (by omega), show m.length + 1 - m.length = 1 from by omega, show m.length + 1 + t.length - (m.length + 1) = t.length from by omega]
      simp
    rw [e1, e2, e3, h.tok]
    have := h.ne
    unfold target; rw [h.vis]; simpa using h.ne

/-- is a text a reply's line, by its places? -/
def isSt (s : List UInt8) : Bool := decide (13 ≤ s.length) && isVer (s.take 8) && (((s.getD 8 0).toNat : Int) == 32) && decide (49 ≤ ((s.getD 9 0).toNat : Int)) && decide (((s.getD 9 0).toNat : Int) ≤ 53) && digB (s.getD 10 0) && digB (s.getD 11 0) && (((s.getD 12 0).toNat : Int) == 32) && (s.drop 13).all mayB
theorem isSta_of {s : List UInt8} (h : isSt s = true) : IsSta s (s.getD 5 0) (s.getD 7 0) (s.getD 9 0) (s.getD 10 0) (s.getD 11 0) (s.drop 13) := by
  unfold isSt at h
  simp only [Bool.and_eq_true] at h
  obtain ⟨⟨⟨⟨⟨⟨⟨⟨h0, h1⟩, h2⟩, h3⟩, h4⟩, h5⟩, h6⟩, h7⟩, h8⟩ := h
  have h0 : 13 ≤ s.length := of_decide_eq_true h0
  have h3 : 49 ≤ ((s.getD 9 0).toNat : Int) := of_decide_eq_true h3
  have h4 : ((s.getD 9 0).toNat : Int) ≤ 53 := of_decide_eq_true h4
  have g2 : s.getD 8 0 = 32 := u8_eq (by simpa using beq_iff_eq.1 h2)
  have g7 : s.getD 12 0 = 32 := u8_eq (by simpa using beq_iff_eq.1 h7)
  obtain ⟨v1, v2, v3⟩ := isVer_inv h1
  have k1 : (s.take 8).getD 5 0 = s.getD 5 0 := by simp [List.getD_eq_getElem?_getD]
  have k2 : (s.take 8).getD 7 0 = s.getD 7 0 := by simp [List.getD_eq_getElem?_getD]
  rw [k1] at v1 v2
  rw [k2] at v1 v3
  refine ⟨?_, v2, v3, by omega, h5, h6, h8⟩
  have d : ∀ k, k < 13 → s.drop k = s.getD k 0 :: s.drop (k + 1) := fun k hk => by
    rw [List.drop_eq_getElem_cons (by omega)]
    congr 1
    simp [List.getD_eq_getElem?_getD, show k < s.length from by omega]
  have e : s = s.take 8 ++ s.drop 8 := (List.take_append_drop 8 s).symm
  rw [v1, d 8 (by omega), d 9 (by omega), d 10 (by omega), d 11 (by omega), d 12 (by omega), g2, g7] at e
  exact e
theorem isSt_of {s r : List UInt8} {d1 d2 a b c : UInt8} (h : IsSta s d1 d2 a b c r) : isSt s = true := by
  have := h.one
  have h3 : (49 : Int) ≤ a.toNat := by omega
  have h4 : (a.toNat : Int) ≤ 53 := by omega
  have e : s = [72, 84, 84, 80, 47, d1, 46, d2, 32, a, b, c, 32] ++ r := by rw [h.eq]; rfl
  have hv := isVer_mk h.dig1 h.dig2
  have e8 : s.take 8 = verL d1 d2 := by rw [e]; rfl
  unfold isSt
  rw [e8, hv, e]
  simp [h.dig3, h.dig4, h3, h4, h.may]
end Go.Proofs.YtgkjjmcjlobbpaaGreatDoor

/- What is put is read as it was made of; what is read may be put; no text is both kinds of line. Nothing of the program is read here. -/
namespace Go.Proofs.YtgkjjmcjlobbpaaGreatDoor
theorem bit_dig (n : Int) : digB (bitB n) = true := by unfold bitB; split <;> decide
theorem min_bit {n : Int} (h : validM n = true) : minB (bitB n) = n := by
  unfold validM at h; simp at h
  rcases h with rfl | rfl <;> rfl
theorem minB_valid (d : UInt8) : validM (minB d) = true := by
  unfold validM minB; split <;> rfl
theorem verN_eq (n : Int) : verN n = verL 49 (bitB n) := rfl
theorem reqLine_is {m t : List UInt8} {n : Int} (hm : token m = true) (ht : target t = true) : IsReq (reqLine m t n) m t 49 (bitB n) := by
  unfold target at ht
  rw [Bool.and_eq_true] at ht
  refine ⟨?_, hm, ht.1, by simpa using ht.2, by decide, bit_dig n⟩
  unfold reqLine; rw [verN_eq]; simp
theorem code_dig {k : Nat} (h : k ≤ 9) : digB (UInt8.ofNat (48 + k)) = true ∧ ((UInt8.ofNat (48 + k)).toNat : Int) - 48 = k := by
  have : (UInt8.ofNat (48 + k)).toNat = 48 + k := by rw [UInt8.toNat_ofNat']; omega
  exact ⟨digB_iff.2 (by omega), by omega⟩
theorem staLine_is {c n : Int} {r : List UInt8} (hc : validS c = true) (hr : r.all mayB = true) :
    IsSta (staLine c r n) 49 (bitB n) (UInt8.ofNat (48 + c.toNat / 100)) (UInt8.ofNat (48 + c.toNat / 10 % 10)) (UInt8.ofNat (48 + c.toNat % 10)) r := by
  have hc' : 100 ≤ c ∧ c ≤ 599 := by unfold validS at hc; simpa using hc
  have h1 : (UInt8.ofNat (48 + c.toNat / 100)).toNat = 48 + c.toNat / 100 := by rw [UInt8.toNat_ofNat']; omega
  refine ⟨?_, by decide, bit_dig n, by omega, (code_dig (by omega)).1, (code_dig (by omega)).1, hr⟩
  unfold staLine code3; rw [verN_eq]; simp
theorem code_val {c : Int} (hc : validS c = true) :
    100 * (((UInt8.ofNat (48 + c.toNat / 100)).toNat : Int) - 48) + 10 * (((UInt8.ofNat (48 + c.toNat / 10 % 10)).toNat : Int) - 48) + (((UInt8.ofNat (48 + c.toNat % 10)).toNat : Int) - 48) = c := by
  have hc' : 100 ≤ c ∧ c ≤ 599 := by unfold validS at hc; simpa using hc
  rw [(code_dig (k := c.toNat / 100) (by omega)).2, (code_dig (k := c.toNat / 10 % 10) (by omega)).2, (code_dig (k := c.toNat % 10) (by omega)).2]
  omega
theorem not_tok47 : tokB 47 = false := by decide
theorem not_both {s m t r : List UInt8} {d1 d2 e1 e2 a b c : UInt8} (h1 : IsReq s m t d1 d2) (h2 : IsSta s e1 e2 a b c r) : False := by
  have e : s = [72, 84, 84, 80, 47] ++ (e1 :: 46 :: e2 :: 32 :: a :: b :: c :: 32 :: r) := by rw [h2.eq]; rfl
  rcases Nat.lt_or_ge m.length 5 with hl | hl
  · have g : s[m.length]? = some 32 := by rw [h1.eq, List.getElem?_append_right (by omega)]; simp
    have g2 : s[m.length]? = [72, 84, 84, 80, 47][m.length]? := by rw [e, List.getElem?_append_left (by simpa using hl)]
    rw [g] at g2
    have : m.length = 0 ∨ m.length = 1 ∨ m.length = 2 ∨ m.length = 3 ∨ m.length = 4 := by omega
    rcases this with h | h | h | h | h <;> · rw [h] at g2; simp at g2
  · have g : s[4]? = m[4]? := by rw [h1.eq, List.getElem?_append_left (by omega)]
    have g2 : s[4]? = some 47 := by rw [e]; rfl
    rw [g2] at g
    have hm : (47 : UInt8) ∈ m := List.mem_of_getElem? g.symm
    have := h1.tok
    unfold token at this
    rw [Bool.and_eq_true, List.all_eq_true] at this
    have := this.2 47 hm
    rw [not_tok47] at this; cases this

/-- what a text that may be a request's line was read as -/
theorem req_read {s : List UInt8} (h : reqE s = 0) : s.length ≤ 2048 ∧ ∃ m t d2, IsReq s m t 49 d2 ∧ t.length ≤ 1024 ∧ reqM s = m ∧ reqT s = t ∧ reqN s = minB d2 := by
  have hl : s.length ≤ 2048 := by
    rcases Nat.lt_or_ge 2048 s.length with g | g
    · rw [req_long g] at h; cases h
    · exact g
  refine ⟨hl, ?_⟩
  by_cases hn : ∃ m t d1 d2, IsReq s m t d1 d2
  · obtain ⟨m, t, d1, d2, hr⟩ := hn
    by_cases g : d1.toNat = 49
    · have hd : d1 = 49 := UInt8.toNat_inj.1 g
      subst hd
      rcases Nat.lt_or_ge 1024 t.length with g2 | g2
      · rw [req_uri hl hr g g2] at h; cases h
      · obtain ⟨_, a, b, c⟩ := req_ok hl hr g g2
        exact ⟨m, t, d2, hr, g2, a, b, c⟩
    · rw [req_ver hl hr g] at h; cases h
  · rw [req_none hl fun m t d1 d2 hr => hn ⟨m, t, d1, d2, hr⟩] at h; cases h
theorem sta_read {s : List UInt8} (h : staE s = 0) : s.length ≤ 2048 ∧ ∃ d2 a b c r, IsSta s 49 d2 a b c r ∧ staC s = 100 * ((a.toNat : Int) - 48) + 10 * ((b.toNat : Int) - 48) + ((c.toNat : Int) - 48) ∧ staR s = r ∧ staN s = minB d2 := by
  have hl : s.length ≤ 2048 := by
    rcases Nat.lt_or_ge 2048 s.length with g | g
    · rw [sta_long g] at h; cases h
    · exact g
  refine ⟨hl, ?_⟩
  by_cases hn : ∃ d1 d2 a b c r, IsSta s d1 d2 a b c r
  · obtain ⟨d1, d2, a, b, c, r, hr⟩ := hn
    by_cases g : d1.toNat = 49
    · have hd : d1 = 49 := UInt8.toNat_inj.1 g
      subst hd
      obtain ⟨_, p, q, z⟩ := sta_ok hl hr g
      exact ⟨d2, a, b, c, r, hr, p, q, z⟩
    · rw [sta_ver hl hr g] at h; cases h
  · rw [sta_none hl fun d1 d2 a b c r hr => hn ⟨d1, d2, a, b, c, r, hr⟩] at h; cases h
/-- not both kinds -/
theorem read_one {s : List UInt8} (h : reqE s = 0) : staE s ≠ 0 := fun h2 => by
  obtain ⟨_, m, t, d2, hr, _⟩ := req_read h
  obtain ⟨_, e2, a, b, c, r, hs, _⟩ := sta_read h2
  exact not_both hr hs

theorem putRQ_0 {m t : List UInt8} {n : Int} (h : putRQ m t n = 0) : token m = true ∧ target t = true ∧ validM n = true ∧ t.length ≤ 1024 ∧ (reqLine m t n).length ≤ 2048 := by
  unfold putRQ at h
  split at h
  · rename_i g
    rw [Bool.and_eq_true, Bool.and_eq_true] at g
    split at h
    · cases h
    · exact ⟨g.1.1, g.1.2, g.2, by omega, by omega⟩
  · cases h
theorem putSQ_0 {c n : Int} {r : List UInt8} (h : putSQ c r n = 0) : validS c = true ∧ r.all mayB = true ∧ validM n = true ∧ (staLine c r n).length ≤ 2048 := by
  unfold putSQ at h
  split at h
  · rename_i g
    rw [Bool.and_eq_true, Bool.and_eq_true] at g
    split at h
    · cases h
    · exact ⟨g.1.1, g.1.2, g.2, by omega⟩
  · cases h
/-- a request's line that is put: what it is read as, and as a reply's -/
theorem back_req {m t : List UInt8} {n : Int} (h : putRQ m t n = 0) : (reqE (putRL m t n) = 0 ∧ reqM (putRL m t n) = m ∧ reqT (putRL m t n) = t ∧ reqN (putRL m t n) = n) ∧ staE (putRL m t n) = 4 ∧ (putRL m t n).length ≤ 2048 := by
  obtain ⟨h1, h2, h3, h4, h5⟩ := putRQ_0 h
  have e : putRL m t n = reqLine m t n := by unfold putRL; rw [if_pos h]
  rw [e]
  have hr := reqLine_is (n := n) h1 h2
  obtain ⟨a, b, c, d⟩ := req_ok h5 hr (by decide) h4
  exact ⟨⟨a, b, c, by rw [d, min_bit h3]⟩, sta_none h5 fun _ _ _ _ _ _ hs => not_both hr hs, h5⟩
theorem back_sta {c n : Int} {r : List UInt8} (h : putSQ c r n = 0) : (staE (putSL c r n) = 0 ∧ staC (putSL c r n) = c ∧ staR (putSL c r n) = r ∧ staN (putSL c r n) = n) ∧ reqE (putSL c r n) = 4 ∧ (putSL c r n).length ≤ 2048 := by
  obtain ⟨h1, h2, h3, h5⟩ := putSQ_0 h
  have e : putSL c r n = staLine c r n := by unfold putSL; rw [if_pos h]
  rw [e]
  have hr := staLine_is (n := n) h1 h2
  obtain ⟨a, b, c', d⟩ := sta_ok h5 hr (by decide)
  exact ⟨⟨a, by rw [b, code_val h1], c', by rw [d, min_bit h3]⟩, req_none h5 fun _ _ _ _ hs => not_both hs hr, h5⟩
/-- what was read as a request's line may be put -/
theorem again_req {s : List UInt8} (h : reqE s = 0) :
    putRQ (reqM s) (reqT s) (reqN s) = 0 ∧ (putRL (reqM s) (reqT s) (reqN s)).length = s.length ∧ (putRL (reqM s) (reqT s) (reqN s)).take (s.length - 1) = s.take (s.length - 1) ∧ 1 ≤ s.length ∧ s.length ≤ 2048 := by
  obtain ⟨hl, m, t, d2, hr, h4, e1, e2, e3⟩ := req_read h
  have ht : target t = true := by unfold target; rw [hr.vis]; simpa using hr.ne
  have el : reqLine m t (minB d2) = m ++ 32 :: (t ++ 32 :: verL 49 (bitB (minB d2))) := (reqLine_is (n := minB d2) hr.tok ht).eq
  have es : s = (m ++ 32 :: (t ++ 32 :: [72, 84, 84, 80, 47, 49, 46])) ++ [d2] := by rw [hr.eq]; simp [verL, httpL]
  have el' : reqLine m t (minB d2) = (m ++ 32 :: (t ++ 32 :: [72, 84, 84, 80, 47, 49, 46])) ++ [bitB (minB d2)] := by rw [el]; simp [verL, httpL]
  have hlen : (reqLine m t (minB d2)).length = s.length := by rw [es, el']; simp
  have hq : putRQ m t (minB d2) = 0 := by
    unfold putRQ
    rw [hr.tok, ht, minB_valid]
    simp only [Bool.and_self, if_true]
    rw [if_neg (by omega)]
  have hp : putRL m t (minB d2) = reqLine m t (minB d2) := by unfold putRL; rw [if_pos hq]
  rw [e1, e2, e3, hp]
  have h1 : 1 ≤ s.length := by rw [es]; simp; omega
  refine ⟨hq, hlen, ?_, h1, hl⟩
  have key : ∀ (A : List UInt8) (x : UInt8), (A ++ [x]).take A.length = A := fun A x => by simp
  have hA : s.length - 1 = (m ++ 32 :: (t ++ 32 :: [72, 84, 84, 80, 47, 49, 46])).length := by rw [es]; simp
  rw [hA, el', key]
  conv => rhs; rw [es]
  rw [key]
theorem dig3 {a b c : UInt8} (ha : 49 ≤ a.toNat ∧ a.toNat ≤ 53) (hb : digB b = true) (hc : digB c = true) :
    code3 (100 * ((a.toNat : Int) - 48) + 10 * ((b.toNat : Int) - 48) + ((c.toNat : Int) - 48)) = [a, b, c] ∧ validS (100 * ((a.toNat : Int) - 48) + 10 * ((b.toNat : Int) - 48) + ((c.toNat : Int) - 48)) = true := by
  have hb := digB_iff.1 hb
  have hc := digB_iff.1 hc
  constructor
  · unfold code3
    have e : ∀ (x : UInt8) (k : Nat), 48 + k = x.toNat → UInt8.ofNat (48 + k) = x := fun x k h => by rw [h]; exact UInt8.ofNat_toNat
    rw [e a _ (by omega), e b _ (by omega), e c _ (by omega)]
  · unfold validS; simp; omega
theorem again_sta {s : List UInt8} (h : staE s = 0) :
    putSQ (staC s) (staR s) (staN s) = 0 ∧ (putSL (staC s) (staR s) (staN s)).length = s.length ∧ (putSL (staC s) (staR s) (staN s)).drop 8 = s.drop 8 ∧ 8 ≤ s.length ∧ s.length ≤ 2048 := by
  obtain ⟨hl, d2, a, b, c, r, hr, e1, e2, e3⟩ := sta_read h
  obtain ⟨g1, g2⟩ := dig3 hr.one hr.dig3 hr.dig4
  have es : s = verL 49 d2 ++ 32 :: a :: b :: c :: 32 :: r := hr.eq
  have el : staLine (100 * ((a.toNat : Int) - 48) + 10 * ((b.toNat : Int) - 48) + ((c.toNat : Int) - 48)) r (minB d2) = verL 49 (bitB (minB d2)) ++ 32 :: a :: b :: c :: 32 :: r := by
    unfold staLine; rw [g1, verN_eq]; simp
  have hlen : (staLine (100 * ((a.toNat : Int) - 48) + 10 * ((b.toNat : Int) - 48) + ((c.toNat : Int) - 48)) r (minB d2)).length = s.length := by rw [es, el]; simp [verL]
  have hq : putSQ (100 * ((a.toNat : Int) - 48) + 10 * ((b.toNat : Int) - 48) + ((c.toNat : Int) - 48)) r (minB d2) = 0 := by
    unfold putSQ
    rw [g2, hr.may, minB_valid]
    simp only [Bool.and_self, if_true]
    rw [if_neg (by omega)]
  have hp : putSL (100 * ((a.toNat : Int) - 48) + 10 * ((b.toNat : Int) - 48) + ((c.toNat : Int) - 48)) r (minB d2) = staLine (100 * ((a.toNat : Int) - 48) + 10 * ((b.toNat : Int) - 48) + ((c.toNat : Int) - 48)) r (minB d2) := by unfold putSL; rw [if_pos hq]
  rw [e1, e2, e3, hp]
  refine ⟨hq, hlen, ?_, by rw [es]; simp [verL, httpL], hl⟩
  rw [el]
  conv => rhs; rw [es]
  rfl
end Go.Proofs.YtgkjjmcjlobbpaaGreatDoor

/- Plain lists of bytes, more: what is read of a text in quotes, byte by byte. -/
namespace Go.Proofs.YtgkjjmcjlobbpaaGreatDoor
theorem cat_data (a b : ByteArray) : (a ++ b).data.toList = a.data.toList ++ b.data.toList := by simp [ByteArray.data_append]
theorem quote_size {t s : ByteArray} {k : Nat} (h : t.data.toList = 34 :: quoteB (s.data.toList.take k)) : t.size ≤ 2 * k + 1 := by
  rw [size_len, h, List.length_cons]
  have h1 := quoteB_len (s.data.toList.take k)
  have h2 : (s.data.toList.take k).length ≤ k := List.length_take_le _ _
  omega
theorem one_at (s : ByteArray) (k : Nat) (h : k < s.size) : (s.data.toList.drop k).take (k + 1 - k) = [s[k]] := by
  rw [drop_at h, show k + 1 - k = 1 from by omega]; rfl
theorem unq_start (s : ByteArray) : (s.size = 0 ∧ unquote s.data.toList = none) ∨ (∃ h : 0 < s.size, ¬ (s[0].toNat : Int) = 34 ∧ unquote s.data.toList = none) ∨
    (∃ h : 0 < s.size, (s[0].toNat : Int) = 34 ∧ unquote s.data.toList = unq (s.data.toList.drop 1) false []) := by
  rcases Nat.eq_zero_or_pos s.size with h | h
  · exact .inl ⟨h, by rw [nil_of h]; rfl⟩
  · by_cases hc : (s[0].toNat : Int) = 34
    · exact .inr (.inr ⟨h, hc, (congrArg unquote (cons_of h)).trans (if_pos hc)⟩)
    · exact .inr (.inl ⟨h, hc, (congrArg unquote (cons_of h)).trans (if_neg hc)⟩)
theorem drop_nil {s : ByteArray} {k : Nat} (h : s.size ≤ k) : s.data.toList.drop k = [] := List.drop_of_length_le h
theorem unq_byte (s : ByteArray) (k : Nat) (h : k < s.size) (acc : List UInt8) :
    (((s[k].toNat : Int) == 34) = true ∧ k + 1 = s.size ∧ unq (s.data.toList.drop k) false acc = some acc) ∨
    (((s[k].toNat : Int) == 34) = true ∧ ¬ k + 1 = s.size ∧ unq (s.data.toList.drop k) false acc = none) ∨
    (((s[k].toNat : Int) == 34) = false ∧ ((s[k].toNat : Int) == 92) = true ∧ k + 1 = s.size ∧ unq (s.data.toList.drop k) false acc = none) ∨
    (((s[k].toNat : Int) == 34) = false ∧ ((s[k].toNat : Int) == 92) = true ∧ (∃ h2 : k + 1 < s.size, mayI (s[k + 1].toNat : Int) = false) ∧ unq (s.data.toList.drop k) false acc = none) ∨
    (((s[k].toNat : Int) == 34) = false ∧ ((s[k].toNat : Int) == 92) = true ∧ ∃ h2 : k + 1 < s.size, mayI (s[k + 1].toNat : Int) = true ∧ unq (s.data.toList.drop k) false acc = unq (s.data.toList.drop (k + 2)) false (acc ++ [s[k + 1]])) ∨
    (((s[k].toNat : Int) == 34) = false ∧ ((s[k].toNat : Int) == 92) = false ∧ mayI (s[k].toNat : Int) = false ∧ unq (s.data.toList.drop k) false acc = none) ∨
    (((s[k].toNat : Int) == 34) = false ∧ ((s[k].toNat : Int) == 92) = false ∧ mayI (s[k].toNat : Int) = true ∧ unq (s.data.toList.drop k) false acc = unq (s.data.toList.drop (k + 1)) false (acc ++ [s[k]])) := by
  rw [drop_at h]
  by_cases h1 : (s[k].toNat : Int) = 34
  · have h1' : ((s[k].toNat : Int) == 34) = true := by simpa using h1
    by_cases h2 : k + 1 = s.size
    · exact .inl ⟨h1', h2, by rw [drop_nil (by omega)]; simp [unq, h1]⟩
    · refine .inr (.inl ⟨h1', h2, ?_⟩)
      have h3 : k + 1 < s.size := by omega
      rw [drop_at h3]; simp [unq, h1]
  · have h1' : ((s[k].toNat : Int) == 34) = false := by simpa using h1
    by_cases h2 : (s[k].toNat : Int) = 92
    · have h2' : ((s[k].toNat : Int) == 92) = true := by simpa using h2
      rcases Nat.lt_or_ge (k + 1) s.size with h3 | h3
      · rw [drop_at h3]
        cases hm : mayI (s[k + 1].toNat : Int)
        · exact .inr (.inr (.inr (.inl ⟨h1', h2', ⟨h3, hm⟩, by simp [unq, h2, mayB, hm]⟩)))
        · exact .inr (.inr (.inr (.inr (.inl ⟨h1', h2', h3, hm, by simp [unq, h2, mayB, hm]⟩))))
      · exact .inr (.inr (.inl ⟨h1', h2', by omega, by rw [drop_nil h3]; simp [unq, h2]⟩))
    · have h2' : ((s[k].toNat : Int) == 92) = false := by simpa using h2
      cases hm : mayI (s[k].toNat : Int)
      · exact .inr (.inr (.inr (.inr (.inr (.inl ⟨h1', h2', rfl, by simp [unq, h1, h2, mayB, hm]⟩)))))
      · exact .inr (.inr (.inr (.inr (.inr (.inr ⟨h1', h2', rfl, by simp [unq, h1, h2, mayB, hm]⟩)))))
theorem unq_in (s : ByteArray) (k : Nat) (h : k < s.size) (acc : List UInt8) :
    (((s[k].toNat : Int) == 92) = false ∧ ((s[k].toNat : Int) == 34) = true ∧ mayI (s[k].toNat : Int) = true ∧ s.size ≤ k + 1 ∧ unq (s.data.toList.drop k) false acc = some acc) ∨
    (((s[k].toNat : Int) == 92) = false ∧ ((s[k].toNat : Int) == 34) = true ∧ k + 1 < s.size ∧ unq (s.data.toList.drop k) false acc = none) ∨
    (((s[k].toNat : Int) == 92) = true ∧ mayI (s[k].toNat : Int) = true ∧ unq (s.data.toList.drop k) false acc = unq (s.data.toList.drop (k + 1)) true acc) ∨
    (((s[k].toNat : Int) == 92) = false ∧ ((s[k].toNat : Int) == 34) = false ∧ mayI (s[k].toNat : Int) = false ∧ unq (s.data.toList.drop k) false acc = none) ∨
    (((s[k].toNat : Int) == 92) = false ∧ ((s[k].toNat : Int) == 34) = false ∧ mayI (s[k].toNat : Int) = true ∧ unq (s.data.toList.drop k) false acc = unq (s.data.toList.drop (k + 1)) false (acc ++ [s[k]])) := by
  rw [drop_at h]
  by_cases h1 : (s[k].toNat : Int) = 34
  · have h1' : ((s[k].toNat : Int) == 34) = true := by simpa using h1
    have h2' : ((s[k].toNat : Int) == 92) = false := by rw [h1]; rfl
    rcases Nat.lt_or_ge (k + 1) s.size with h3 | h3
    · exact .inr (.inl ⟨h2', h1', h3, by rw [drop_at h3]; simp [unq, h1]⟩)
    · exact .inl ⟨h2', h1', by rw [h1]; rfl, h3, by rw [drop_nil h3]; simp [unq, h1]⟩
  · have h1' : ((s[k].toNat : Int) == 34) = false := by simpa using h1
    by_cases h2 : (s[k].toNat : Int) = 92
    · have h2' : ((s[k].toNat : Int) == 92) = true := by simpa using h2
      exact .inr (.inr (.inl ⟨h2', by rw [h2]; rfl, by simp [unq, h2]⟩))
    · have h2' : ((s[k].toNat : Int) == 92) = false := by simpa using h2
      cases hm : mayI (s[k].toNat : Int)
      · exact .inr (.inr (.inr (.inl ⟨h2', h1', rfl, by simp [unq, h1, h2, mayB, hm]⟩)))
      · exact .inr (.inr (.inr (.inr ⟨h2', h1', rfl, by simp [unq, h1, h2, mayB, hm]⟩)))
theorem unq_esc (s : ByteArray) (k : Nat) (h : k < s.size) (acc : List UInt8) :
    (mayI (s[k].toNat : Int) = false ∧ unq (s.data.toList.drop k) true acc = none) ∨
    (mayI (s[k].toNat : Int) = true ∧ unq (s.data.toList.drop k) true acc = unq (s.data.toList.drop (k + 1)) false (acc ++ [s[k]])) := by
  rw [drop_at h]
  cases hm : mayI (s[k].toNat : Int)
  · exact .inl ⟨rfl, by simp [unq, mayB, hm]⟩
  · exact .inr ⟨rfl, by simp [unq, mayB, hm]⟩
theorem unq_first (s : ByteArray) (h : 0 < s.size) :
    (((s[0].toNat : Int) != 34) = true ∧ unquote s.data.toList = none) ∨
    (((s[0].toNat : Int) != 34) = false ∧ mayI (s[0].toNat : Int) = true ∧ unquote s.data.toList = unq (s.data.toList.drop 1) false []) := by
  rcases unq_start s with ⟨h0, _⟩ | ⟨_, hc, hu⟩ | ⟨_, hc, hu⟩
  · omega
  · exact .inl ⟨bne_iff_ne.2 hc, hu⟩
  · exact .inr ⟨by rw [bne_eq_false_iff_eq]; exact hc, by rw [hc]; rfl, hu⟩
theorem unq_quote (l : List UInt8) (h : l.all mayB = true) : ∀ acc, unq (quoteB l ++ [34]) false acc = some (acc ++ l) := by
  induction l with
  | nil => intro acc; simp [quoteB, unq]
  | cons c l ih =>
    intro acc
    simp only [List.all_cons, Bool.and_eq_true] at h
    have hq : quoteB (c :: l) = (if (c.toNat : Int) = 34 ∨ (c.toNat : Int) = 92 then [92, c] else [c]) ++ quoteB l := by simp [quoteB]
    rw [hq]
    by_cases h1 : (c.toNat : Int) = 34 ∨ (c.toNat : Int) = 92
    · rw [if_pos h1]
      show unq (92 :: c :: (quoteB l ++ [34])) false acc = _
      simp only [unq, h.1, if_true]
      rw [if_neg (by decide), if_pos (by decide), ih h.2]
      simp
    · rw [if_neg h1]
      show unq (c :: (quoteB l ++ [34])) false acc = _
      simp only [unq, h.1, if_true]
      rw [if_neg (fun e => h1 (.inl e)), if_neg (fun e => h1 (.inr e)), ih h.2]
      simp
theorem unquote_quote (l : List UInt8) (h : l.all mayB = true) : unquote (quoteS l) = some l := by
  rw [quoteS, if_pos h]
  show unquote (34 :: (quoteB l ++ [34])) = _
  rw [unquote, if_pos (by decide), unq_quote l h]
  simp
theorem quoteS_len (l : List UInt8) : (quoteS l).length ≤ 2 * l.length + 2 := by
  unfold quoteS
  have := quoteB_len l
  split <;> simp
  omega
theorem bad_byte {n : Int} (h : mayI n = false) : (n < 32 ∧ (n != 9) = true) ∨ (¬ n < 32 ∧ (n == 127) = true) := by
  unfold mayI at h
  simp only [decide_eq_false_iff_not] at h
  by_cases h1 : n < 32
  · exact .inl ⟨h1, bne_iff_ne.2 (by omega)⟩
  · exact .inr ⟨h1, beq_iff_eq.2 (by omega)⟩
theorem good_byte {n : Int} (h : mayI n = true) : (n < 32 ∧ (n != 9) = false ∧ (n == 127) = false) ∨ (¬ n < 32 ∧ (n == 127) = false) := by
  unfold mayI at h
  simp only [decide_eq_true_iff] at h
  by_cases h1 : n < 32
  · exact .inl ⟨h1, by rw [bne_eq_false_iff_eq]; omega, beq_eq_false_iff_ne.2 (by omega)⟩
  · exact .inr ⟨h1, beq_eq_false_iff_ne.2 (by omega)⟩
end Go.Proofs.YtgkjjmcjlobbpaaGreatDoor

/- Lists that are cut at a byte outside quotes: plain lists. -/
namespace Go.Proofs.YtgkjjmcjlobbpaaGreatDoor
/-- how a byte turns what is open: outside; within; behind a byte 92 within -/
def qnext (o e : Bool) (c : UInt8) : Bool × Bool :=
  if o then (if e then (true, false) else if (c.toNat : Int) = 92 then (true, true) else if (c.toNat : Int) = 34 then (false, false) else (true, false))
  else if (c.toNat : Int) = 34 then (true, false) else (false, false)
def addP (acc : List (List UInt8)) (cur : List UInt8) : List (List UInt8) := if (trim cur).isEmpty then acc else acc ++ [trim cur]
/-- the pieces of a list: what is left of it, what is open, the piece so far, the pieces so far -/
def cutAt (sep : UInt8) : List UInt8 → Bool → Bool → List UInt8 → List (List UInt8) → Option (List (List UInt8))
  | [], o, _, cur, acc => if o then none else some (addP acc cur)
  | c :: r, o, e, cur, acc =>
    if o = false ∧ c = sep then cutAt sep r false false [] (addP acc cur)
    else cutAt sep r (qnext o e c).1 (qnext o e c).2 (cur ++ [c]) acc
def badSep (sep : UInt8) : Bool := sep == 34 || sep == 92
def splitL (l : List UInt8) (sep : UInt8) : List (List UInt8) :=
  if badSep sep then [] else match cutAt sep l false false [] [] with
  | none => []
  | some a => if 64 < a.length then [] else a
def splitE (l : List UInt8) (sep : UInt8) : Int :=
  if badSep sep then 2 else match cutAt sep l false false [] [] with
  | none => 4
  | some a => if 64 < a.length then 3 else 0
theorem addL_take (A : List (List UInt8)) (cur : List UInt8) : (if (trim cur).isEmpty then A.take 65 else if (A.take 65).length ≤ 64 then A.take 65 ++ [trim cur] else A.take 65) = (addP A cur).take 65 := by
  unfold addP
  cases h : (trim cur).isEmpty
  · simp only [Bool.false_eq_true, if_false]
    by_cases hl : A.length ≤ 64
    · rw [List.take_of_length_le (by omega), if_pos hl, List.take_of_length_le (by simp; omega)]
    · rw [if_neg (by rw [List.length_take]; omega), List.take_append_of_le_length (by omega)]
  · simp
/-- one byte on: within or at a mark, or outside and no separator -/
theorem cut_step {sep : UInt8} {s : ByteArray} {k f : Nat} {o e : Bool} {A : List (List UInt8)} (h : k < s.size) (hf : f ≤ k) (hn : ¬ (o = false ∧ s[k] = sep)) :
    cutAt sep (s.data.toList.drop k) o e ((s.data.toList.drop f).take (k - f)) A = cutAt sep (s.data.toList.drop (k + 1)) (qnext o e s[k]).1 (qnext o e s[k]).2 ((s.data.toList.drop f).take (k + 1 - f)) A := by
  rw [drop_at h]
  have h1 : k - f < (s.data.toList.drop f).length := by simp; omega
  have h2 : (s.data.toList.drop f).take (k + 1 - f) = (s.data.toList.drop f).take (k - f) ++ [s[k]] := by
    rw [show k + 1 - f = (k - f) + 1 from by omega, List.take_succ_eq_append_getElem h1]
    congr 1
    simp [ByteArray.getElem_eq_getElem_data, show f + (k - f) = k from by omega]
  rw [h2]
  rw [cutAt, if_neg hn]
theorem cut_sep {sep : UInt8} {s : ByteArray} {k f : Nat} {e : Bool} {A : List (List UInt8)} (h : k < s.size) (hs : s[k] = sep) :
    cutAt sep (s.data.toList.drop k) false e ((s.data.toList.drop f).take (k - f)) A = cutAt sep (s.data.toList.drop (k + 1)) false false ((s.data.toList.drop (k + 1)).take (k + 1 - (k + 1))) (addP A ((s.data.toList.drop f).take (k - f))) := by
  rw [drop_at h, cutAt, if_pos ⟨rfl, hs⟩]
  simp
theorem cut_end {sep : UInt8} {s : ByteArray} {k f : Nat} {o e : Bool} {A : List (List UInt8)} (h : ¬ k < s.size) :
    cutAt sep (s.data.toList.drop k) o e ((s.data.toList.drop f).take (k - f)) A = if o then none else some (addP A ((s.data.toList.drop f).take (s.size - f))) := by
  rw [drop_nil (by omega), cutAt, List.take_of_length_le (by simp; omega), List.take_of_length_le (l := s.data.toList.drop f) (by simp)]
theorem qn_out (e : Bool) {c : UInt8} (h : ((c.toNat : Int) != 34) = true) : qnext false e c = (false, false) := by
  have := bne_iff_ne.1 h; simp [qnext, this]
theorem qn_open (e : Bool) {c : UInt8} (h : ((c.toNat : Int) != 34) = false) : qnext false e c = (true, false) := by
  rw [bne_eq_false_iff_eq] at h; simp [qnext, h]
theorem qn_esc (c : UInt8) : qnext true true c = (true, false) := rfl
theorem qn_back {c : UInt8} (h : ((c.toNat : Int) == 92) = true) : qnext true false c = (true, true) := by
  have := beq_iff_eq.1 h; simp [qnext, this]
theorem qn_close {c : UInt8} (h : ((c.toNat : Int) == 92) = false) (h2 : ((c.toNat : Int) == 34) = true) : qnext true false c = (false, false) := by
  have a := beq_eq_false_iff_ne.1 h; have b := beq_iff_eq.1 h2; simp [qnext, b]
theorem qn_held {c : UInt8} (h : ((c.toNat : Int) == 92) = false) (h2 : ((c.toNat : Int) == 34) = false) : qnext true false c = (true, false) := by
  have a := beq_eq_false_iff_ne.1 h; have b := beq_eq_false_iff_ne.1 h2; simp [qnext, a, b]
end Go.Proofs.YtgkjjmcjlobbpaaGreatDoor

/- Plain lists of bytes: what small letters, blanks and tokens are to the others. -/
namespace Go.Proofs.YtgkjjmcjlobbpaaGreatDoor
theorem lowB_idem (c : UInt8) : lowB (lowB c) = lowB c := by
  by_cases h : 65 ≤ (c.toNat : Int) ∧ (c.toNat : Int) ≤ 90
  · exact low_same (by rw [low_up h.1 h.2]; omega)
  · rw [low_same h, low_same h]
theorem lower_idem (l : List UInt8) : lower (lower l) = lower l := by
  unfold lower; rw [List.map_map]; congr 1; funext c; exact lowB_idem c
theorem lower_len (l : List UInt8) : (lower l).length = l.length := by simp [lower]
theorem ltrim_idem_of {l : List UInt8} (h : ∀ c r, l = c :: r → blankB c = false) : ltrim l = l := by
  cases l with
  | nil => rfl
  | cons c r => simp [ltrim, h c r rfl]
theorem rtrim_idem_of {l : List UInt8} (h : ∀ r c, l = r ++ [c] → blankB c = false) : rtrim l = l := by
  rcases List.eq_nil_or_concat l with rfl | ⟨r, c, rfl⟩
  · rfl
  · rw [List.concat_eq_append] at h ⊢; rw [rtrim_snoc, if_neg (by simp [h r c rfl])]
theorem dropWhile_head {p : UInt8 → Bool} : ∀ {l : List UInt8} {c : UInt8} {r : List UInt8}, l.dropWhile p = c :: r → p c = false
  | [], _, _, h => by simp at h
  | a :: t, c, r, h => by
    rw [List.dropWhile_cons] at h
    split at h
    · exact dropWhile_head h
    · rename_i hp
      obtain ⟨rfl, _⟩ := List.cons.inj h
      simpa using hp
theorem rtrim_prefix (l : List UInt8) : rtrim l <+: l := by
  unfold rtrim
  have h := List.dropWhile_suffix (l := l.reverse) blankB
  have := List.reverse_prefix.2 h
  simpa using this
theorem trim_idem (l : List UInt8) : trim (trim l) = trim l := by
  have h1 : ltrim (trim l) = trim l := by
    refine ltrim_idem_of fun c r h => ?_
    obtain ⟨t, ht⟩ := rtrim_prefix (ltrim l)
    have h2 : ltrim l = c :: (r ++ t) := by rw [← ht]; show trim l ++ t = _; rw [h]; rfl
    exact dropWhile_head h2
  have h2 : rtrim (trim l) = trim l := by
    refine rtrim_idem_of fun r c h => ?_
    have h3 : (ltrim l).reverse.dropWhile blankB = c :: r.reverse := by
      have := congrArg List.reverse h
      unfold trim rtrim at this
      simpa using this
    exact dropWhile_head h3
  show rtrim (ltrim (trim l)) = _
  rw [h1, h2]
theorem contains_trim (l : List UInt8) : Lib.contains l (trim l) = true := by
  unfold Lib.contains
  rw [decide_eq_true_iff]
  obtain ⟨t, ht⟩ := rtrim_prefix (ltrim l)
  obtain ⟨a, ha⟩ := List.dropWhile_suffix (l := l) blankB
  have hd : l.drop a.length = ltrim l := by
    have := congrArg (List.drop a.length) ha
    rw [List.drop_left] at this
    exact this.symm
  rcases Lib.index_spec l (trim l) with ⟨_, h⟩ | ⟨i, h, _⟩
  · have h1 := h a.length (by have := congrArg List.length ha; simp only [List.length_append] at this; omega)
    unfold Lib.occAt at h1
    rw [hd] at h1
    have h2 : (trim l).isPrefixOf (ltrim l) = true := List.isPrefixOf_iff_prefix.2 ⟨t, ht⟩
    rw [h2] at h1; cases h1
  · rw [h]; omega
theorem tok_not {c : UInt8} (h : tokB c = true) : blankB c = false ∧ ¬ (c.toNat : Int) = 34 := by
  unfold tokB tokI at h
  rw [decide_eq_true_iff] at h
  unfold blankB blankI
  rw [decide_eq_false_iff_not]
  omega
theorem trim_token {l : List UInt8} (h : token l = true) : trim l = l := by
  unfold token at h
  simp only [Bool.and_eq_true, List.all_eq_true] at h
  have h1 : ltrim l = l := ltrim_idem_of fun c r hl => (tok_not (h.2 c (by rw [hl]; simp))).1
  show rtrim (ltrim l) = l
  rw [h1]
  exact rtrim_idem_of fun r c hl => (tok_not (h.2 c (by rw [hl]; simp))).1
theorem unq_token {l : List UInt8} (h : token l = true) : unquote l = none := by
  unfold token at h
  simp only [Bool.and_eq_true, List.all_eq_true] at h
  cases l with
  | nil => rfl
  | cons c r => rw [unquote, if_neg (tok_not (h.2 c (by simp))).2]
theorem cut_plain {sep : UInt8} : ∀ (l cur : List UInt8) (A : List (List UInt8)), (∀ c ∈ l, ¬ (c.toNat : Int) = 34 ∧ c ≠ sep) → cutAt sep l false false cur A = some (addP A (cur ++ l))
  | [], cur, A, _ => by simp [cutAt]
  | c :: r, cur, A, h => by
    have hc := h c (by simp)
    rw [cutAt, if_neg (fun e => hc.2 e.2), qn_out false (bne_iff_ne.2 hc.1), cut_plain r _ _ (fun x hx => h x (by simp [hx]))]
    simp
theorem split_token {l : List UInt8} {sep : UInt8} (h : token l = true) (hs : badSep sep = false) (hn : ∀ c ∈ l, c ≠ sep) : splitE l sep = 0 ∧ splitL l sep = [l] := by
  have ht := h
  unfold token at h
  simp only [Bool.and_eq_true, List.all_eq_true] at h
  have hc := cut_plain (sep := sep) l [] [] (fun c hc => ⟨(tok_not (h.2 c hc)).2, hn c hc⟩)
  rw [List.nil_append] at hc
  have hp : addP [] l = [l] := by
    unfold addP; rw [trim_token ht]
    cases l with
    | nil => simp at h
    | cons c r => rfl
  rw [hp] at hc
  constructor <;> simp [splitE, splitL, hs, hc]
end Go.Proofs.YtgkjjmcjlobbpaaGreatDoor

/- Lists of header fields, plainly: names, values, what is set and taken out, the names that go no further. Nothing of the program is read here. -/
namespace Go.Proofs.YtgkjjmcjlobbpaaGreatDoor
/-- a field: its name, its value -/
abbrev Fld := List UInt8 × List UInt8
def sameN (a b : List UInt8) : Bool := lower a == lower b
def valsL (l : List Fld) (n : List UInt8) : List (List UInt8) := (l.filter fun f => sameN f.1 n).map (·.2)
def getL (l : List Fld) (n : List UInt8) : List UInt8 := Lib.join (valsL l n) [44, 32]
def hasN (names : List (List UInt8)) (n : List UInt8) : Bool := names.any fun x => sameN x n
def delL (l : List Fld) (names : List (List UInt8)) : List Fld := l.filter fun f => !hasN names f.1
def setL : List Fld → List UInt8 → List UInt8 → List Fld
  | [], n, v => [(n, v)]
  | f :: r, n, v => if sameN f.1 n then (f.1, v) :: delL r [n] else f :: setL r n v
/-- the nine names -/
def nine : List (List UInt8) :=
  [[99,111,110,110,101,99,116,105,111,110], [107,101,101,112,45,97,108,105,118,101], [112,114,111,120,121,45,99,111,110,110,101,99,116,105,111,110], [116,101],
   [116,114,97,105,108,101,114], [116,114,97,110,115,102,101,114,45,101,110,99,111,100,105,110,103], [117,112,103,114,97,100,101],
   [112,114,111,120,121,45,97,117,116,104,101,110,116,105,99,97,116,101], [112,114,111,120,121,45,97,117,116,104,111,114,105,122,97,116,105,111,110]]
def conn : List UInt8 := [99,111,110,110,101,99,116,105,111,110]
def addN (acc : List (List UInt8)) (x : List UInt8) : List (List UInt8) := if token x then (if hasN acc x then acc else acc ++ [lower x]) else acc
def addV (acc : List (List UInt8)) (v : List UInt8) : List (List UInt8) := (splitL v 44).foldl addN acc
def hopL (l : List Fld) : List (List UInt8) := (valsL l conn).foldl addV nine
def cleanL (l : List Fld) : List Fld := delL l (hopL l)

theorem sameN_refl (a : List UInt8) : sameN a a = true := by simp [sameN]
theorem sameN_symm (a b : List UInt8) : sameN a b = sameN b a := by simp [sameN, Bool.beq_comm]
theorem sameN_eq {a b : List UInt8} (h : sameN a b = true) (c : List UInt8) : sameN a c = sameN b c := by
  have : lower a = lower b := by simpa [sameN] using h
  simp [sameN, this]
theorem sameN_eqR {a b : List UInt8} (h : sameN a b = true) (c : List UInt8) : sameN c a = sameN c b := by
  rw [sameN_symm c a, sameN_symm c b]; exact sameN_eq h c
theorem sameN_lower (a b : List UInt8) : sameN (lower a) b = sameN a b := by simp [sameN, lower_idem]
theorem hasN_one (n x : List UInt8) : hasN [n] x = sameN n x := by simp [hasN]
theorem hasN_of_same {names : List (List UInt8)} {a b : List UInt8} (h : sameN a b = true) : hasN names a = hasN names b := by
  unfold hasN
  congr 1
  funext x
  exact sameN_eqR h x

theorem filter_none {α : Type} {p : α → Bool} {l : List α} (h : ∀ x ∈ l, p x = false) : l.filter p = [] := by
  rw [List.filter_eq_nil_iff]; intro x hx; rw [h x hx]; simp
theorem filter_same {α : Type} {p q : α → Bool} {l : List α} (h : ∀ x ∈ l, p x = q x) : l.filter p = l.filter q := List.filter_congr h

theorem vals_del {l : List Fld} {names : List (List UInt8)} {n : List UInt8} (h : hasN names n = true) : valsL (delL l names) n = [] := by
  unfold valsL delL
  rw [List.filter_filter, filter_none (fun f _ => ?_)]; rfl
  cases hs : sameN f.1 n
  · rfl
  · rw [hasN_of_same hs, h]; rfl
theorem vals_del_other {l : List Fld} {names : List (List UInt8)} {n : List UInt8} (h : hasN names n = false) : valsL (delL l names) n = valsL l n := by
  unfold valsL delL
  rw [List.filter_filter]
  congr 1
  refine filter_same fun f _ => ?_
  cases hs : sameN f.1 n
  · rfl
  · rw [hasN_of_same hs, h]; rfl
theorem vals_cons (f : Fld) (l : List Fld) (n : List UInt8) : valsL (f :: l) n = if sameN f.1 n then f.2 :: valsL l n else valsL l n := by
  unfold valsL; rw [List.filter_cons]; split <;> simp
theorem vals_set (l : List Fld) (n v : List UInt8) : valsL (setL l n v) n = [v] := by
  induction l with
  | nil => simp [setL, valsL, sameN_refl]
  | cons f r ih =>
    unfold setL
    cases h : sameN f.1 n
    · simp only [Bool.false_eq_true, if_false]; rw [vals_cons, h]; simpa using ih
    · simp only [if_true]; rw [vals_cons]; simp only [h, if_true]
      rw [vals_del (by rw [hasN_one]; exact sameN_refl n)]
theorem vals_set_other {l : List Fld} {n v o : List UInt8} (h : sameN n o = false) : valsL (setL l n v) o = valsL l o := by
  induction l with
  | nil => simp [setL, valsL, h]
  | cons f r ih =>
    unfold setL
    cases hs : sameN f.1 n
    · simp only [Bool.false_eq_true, if_false]; rw [vals_cons, vals_cons, ih]
    · simp only [if_true]
      have hf : sameN f.1 o = false := (sameN_eq hs o).trans h
      rw [vals_cons, vals_cons]
      simp only [hf, Bool.false_eq_true, if_false]
      exact vals_del_other (by rw [hasN_one]; exact h)
theorem del_le (l : List Fld) (names : List (List UInt8)) : (delL l names).length ≤ l.length := List.length_filter_le _ _

/-- what stands ahead of the first field of a name -/
def firstN (l : List Fld) (n : List UInt8) : List Fld := l.takeWhile fun f => !sameN f.1 n
theorem set_none {l : List Fld} {n : List UInt8} (v : List UInt8) (h : l.any (fun f => sameN f.1 n) = false) : setL l n v = delL l [n] ++ [(n, v)] := by
  induction l with
  | nil => rfl
  | cons f r ih =>
    simp only [List.any_cons, Bool.or_eq_false_iff] at h
    unfold setL
    simp only [h.1, Bool.false_eq_true, if_false]
    have hd : delL (f :: r) [n] = f :: delL r [n] := by unfold delL; rw [List.filter_cons, hasN_one, sameN_symm, h.1]; rfl
    rw [hd, ih h.2]; rfl
theorem set_at {l : List Fld} {n : List UInt8} (v : List UInt8) : ∀ {k : Nat} (hk : k < l.length), sameN l[k].1 n = true → (∀ j (hj : j < k), sameN (l[j]'(by omega)).1 n = false) →
    setL l n v = (delL l [n]).take k ++ (l[k].1, v) :: (delL l [n]).drop k ∧ k ≤ (delL l [n]).length := by
  induction l with
  | nil => intro k hk; exact absurd hk (by simp)
  | cons f r ih =>
    intro k hk hs hn
    cases k with
    | zero =>
      unfold setL
      have hs' : sameN f.1 n = true := hs
      simp only [hs', if_true]
      have hd : delL (f :: r) [n] = delL r [n] := by unfold delL; rw [List.filter_cons, hasN_one, sameN_symm, hs']; rfl
      rw [hd]; simp
    | succ k =>
      have h0 : sameN f.1 n = false := hn 0 (by omega)
      have hd : delL (f :: r) [n] = f :: delL r [n] := by unfold delL; rw [List.filter_cons, hasN_one, sameN_symm, h0]; rfl
      obtain ⟨h1, h2⟩ := ih (k := k) (by simpa using hk) hs (fun j hj => hn (j + 1) (by omega))
      unfold setL
      simp only [h0, Bool.false_eq_true, if_false]
      rw [hd, h1]
      simp only [List.getElem_cons_succ, List.take_succ_cons, List.drop_succ_cons, List.cons_append, List.length_cons]
      exact ⟨trivial, by omega⟩

theorem any_of_has {names : List (List UInt8)} {x y : List UInt8} (hx : x ∈ names) (h : sameN x y = true) : hasN names y = true := by
  unfold hasN; rw [List.any_eq_true]; exact ⟨x, hx, h⟩
theorem addN_sub (acc : List (List UInt8)) (x : List UInt8) : ∀ y ∈ acc, y ∈ addN acc x := fun y hy => by
  unfold addN; split
  · split
    · exact hy
    · exact List.mem_append_left _ hy
  · exact hy
theorem addV_sub (v : List UInt8) : ∀ (acc : List (List UInt8)), ∀ y ∈ acc, y ∈ addV acc v := by
  unfold addV
  generalize splitL v 44 = p
  induction p with
  | nil => intro acc y hy; exact hy
  | cons x r ih => intro acc y hy; exact ih _ y (addN_sub acc x y hy)
theorem hops_sub (vs : List (List UInt8)) : ∀ (acc : List (List UInt8)), ∀ y ∈ acc, y ∈ vs.foldl addV acc := by
  induction vs with
  | nil => intro acc y hy; exact hy
  | cons v r ih => intro acc y hy; exact ih _ y (addV_sub v acc y hy)
theorem nine_hop (l : List Fld) : ∀ y ∈ nine, y ∈ hopL l := hops_sub _ nine
theorem conn_nine : conn ∈ nine := by simp [conn, nine]
theorem clean_none {l : List Fld} {x : List UInt8} (hx : x ∈ hopL l) : valsL (cleanL l) x = [] := vals_del (any_of_has hx (sameN_refl x))
theorem hop_clean (l : List Fld) : hopL (cleanL l) = nine := by
  rw [hopL, clean_none (nine_hop l conn conn_nine)]; rfl
theorem clean_clean (l : List Fld) : cleanL (cleanL l) = cleanL l := by
  have h : cleanL (cleanL l) = delL (cleanL l) nine := by rw [cleanL, hop_clean]
  rw [h]
  unfold delL
  rw [List.filter_eq_self]
  intro f hf
  have h1 : f ∈ delL l (hopL l) := hf
  rw [delL, List.mem_filter] at h1
  have h2 := h1.2
  rw [Bool.not_eq_true'] at h2 ⊢
  unfold hasN at h2 ⊢
  rw [List.any_eq_false] at h2 ⊢
  exact fun x hx => h2 x (nine_hop l x hx)

/-- names in small letters alone -/
def lows (acc : List (List UInt8)) : Prop := ∀ x ∈ acc, lower x = x
theorem lows_nine : lows nine := by
  intro x hx
  have h : nine.all (fun y => lower y == y) = true := by decide
  simpa using List.all_eq_true.1 h x hx
theorem lows_addN {acc : List (List UInt8)} (h : lows acc) (x : List UInt8) : lows (addN acc x) := by
  unfold addN
  split
  · split
    · exact h
    · intro y hy
      rcases List.mem_append.1 hy with hy | hy
      · exact h y hy
      · rw [List.mem_singleton.1 hy, lower_idem]
  · exact h
theorem lows_mem {acc : List (List UInt8)} (h : lows acc) (x : List UInt8) : hasN acc x = acc.any (fun y => y == lower x) := by
  unfold hasN
  rw [Bool.eq_iff_iff, List.any_eq_true, List.any_eq_true]
  constructor
  · rintro ⟨y, hy, h1⟩; exact ⟨y, hy, by rw [sameN, h y hy] at h1; exact h1⟩
  · rintro ⟨y, hy, h1⟩; exact ⟨y, hy, by rw [sameN, h y hy]; exact h1⟩

theorem join_snoc (L : List (List UInt8)) (x sep : List UInt8) (h : L ≠ []) : Lib.join (L ++ [x]) sep = Lib.join L sep ++ sep ++ x := by
  cases L with
  | nil => exact absurd rfl h
  | cons a r =>
    rw [List.cons_append, Lib.join_cons, Lib.join_cons]
    simp [Lib.joinTail]

/-- may a list be gone through -/
def sizeL (l : List Fld) : Nat := (l.map fun f => f.1.length + f.2.length).sum
def fewB (l : List Fld) : Bool := decide (l.length ≤ 80) && decide (sizeL l ≤ 12000)
theorem sizeL_cons (f : Fld) (l : List Fld) : sizeL (f :: l) = f.1.length + f.2.length + sizeL l := by simp [sizeL]
theorem sizeL_append (a b : List Fld) : sizeL (a ++ b) = sizeL a + sizeL b := by simp [sizeL]
theorem sizeL_mem {l : List Fld} {f : Fld} (h : f ∈ l) : f.1.length + f.2.length ≤ sizeL l := by
  induction l with
  | nil => cases h
  | cons g r ih =>
    rw [sizeL_cons]
    rcases List.mem_cons.1 h with rfl | h
    · omega
    · have := ih h; omega
theorem sizeL_filter (p : Fld → Bool) (l : List Fld) : sizeL (l.filter p) ≤ sizeL l := by
  induction l with
  | nil => exact Nat.le_refl _
  | cons f r ih => rw [List.filter_cons, sizeL_cons]; split
                   · rw [sizeL_cons]; omega
                   · omega
theorem vals_flat (l : List Fld) (n : List UInt8) : (valsL l n).flatten.length ≤ sizeL l := by
  induction l with
  | nil => simp [valsL]
  | cons f r ih =>
    rw [vals_cons, sizeL_cons]; split
    · simp only [List.flatten_cons, List.length_append]; omega
    · omega
theorem vals_len (l : List Fld) (n : List UInt8) : (valsL l n).length ≤ l.length := by unfold valsL; rw [List.length_map]; exact List.length_filter_le _ _
theorem get_len (l : List Fld) (n : List UInt8) : (getL l n).length ≤ sizeL l + 2 * l.length := by
  unfold getL
  have h : ∀ L : List (List UInt8), (Lib.join L [44, 32]).length ≤ L.flatten.length + 2 * L.length := by
    intro L
    cases L with
    | nil => simp [Lib.join_nil]
    | cons x r =>
      rw [Lib.join_cons, List.length_append, List.flatten_cons, List.length_append, List.length_cons]
      have : (Lib.joinTail [44, 32] r).length = r.flatten.length + 2 * r.length := by
        unfold Lib.joinTail
        induction r with
        | nil => rfl
        | cons y r ih => simp only [List.map_cons, List.flatten_cons, List.length_append, List.length_cons, ih, List.length_nil]; omega
      omega
  have h1 := h (valsL l n)
  have h2 := vals_flat l n
  have h3 := vals_len l n
  omega
end Go.Proofs.YtgkjjmcjlobbpaaGreatDoor

/- Where a body ends, plainly: what the fields of the two names say, element by element. Nothing of the program is read here. -/
namespace Go.Proofs.YtgkjjmcjlobbpaaGreatDoor
def clN : List UInt8 := [99,111,110,116,101,110,116,45,108,101,110,103,116,104]
def teN : List UInt8 := [116,114,97,110,115,102,101,114,45,101,110,99,111,100,105,110,103]
def chN : List UInt8 := [99,104,117,110,107,101,100]
/-- does one of the values have an error of the cut; the elements of all of them -/
def amissB (vs : List (List UInt8)) : Bool := vs.any fun v => splitE v 44 != 0
def elemsL (vs : List (List UInt8)) : List (List UInt8) := vs.flatMap fun v => splitL v 44
/-- the number that digits spell -/
def decV (l : List UInt8) : Nat := l.foldl (fun n c => 10 * n + (c.toNat - 48)) 0
def lenB (l : List UInt8) : Bool := decide (1 ≤ l.length ∧ l.length ≤ 18) && l.all digB
def chB (l : List UInt8) : Bool := sameN l chN
/-- the first of the elements -/
def headE (vs : List (List UInt8)) : List UInt8 := (elemsL vs).headD []
def unlikeB (vs : List (List UInt8)) : Bool := (elemsL vs).any fun s => decV s != decV (headE vs)
/-- what is wrong, the kind, the number: of the values of the one name and of the other -/
def endE (a b : List (List UInt8)) : Int :=
  if !a.isEmpty && !b.isEmpty then 8
  else if !b.isEmpty then (if amissB b || !((elemsL b).length == 1 && chB (headE b)) then 4 else 0)
  else if !a.isEmpty then (if amissB a || (elemsL a).isEmpty || !(elemsL a).all lenB then 4 else if unlikeB a then 8 else 0)
  else 0
def endK (a b : List (List UInt8)) : Int := if endE a b = 0 then (if !b.isEmpty then 2 else if !a.isEmpty then 1 else 0) else 0
def endN (a b : List (List UInt8)) : Int := if endE a b = 0 ∧ a.isEmpty = false then decV (headE a) else 0
def bareB (n : Int) : Bool := (decide (100 ≤ n) && decide (n ≤ 199)) || (n == 204 || n == 304)
/-- a request's answer: kind, number, error -/
def askV (a b : List (List UInt8)) : Int × Int × Int :=
  if endE a b ≠ 0 then (0, 0, endE a b) else if 65536 < endN a b then (0, 0, 3) else (endK a b, endN a b, 0)
/-- a reply's -/
def tellV (a b : List (List UInt8)) (status : Int) (head : Bool) : Int × Int × Int :=
  if endE a b ≠ 0 then (0, 0, endE a b) else if head || bareB status then (0, 0, 0) else if 262144 < endN a b then (0, 0, 3)
  else if a.isEmpty && b.isEmpty then (3, 0, 0) else (endK a b, endN a b, 0)
def askR (l : List Fld) : Int × Int × Int := askV (valsL l clN) (valsL l teN)
def tellR (l : List Fld) (status : Int) (head : Bool) : Int × Int × Int := tellV (valsL l clN) (valsL l teN) status head

/-! ### the program's steps -/
def allP (vs : List (List UInt8)) (p : List UInt8 → Bool) : Bool := (elemsL vs).all p && (!amissB vs && decide (0 < (elemsL vs).length))
def singleE (a b : List (List UInt8)) : Int := if !a.isEmpty && !b.isEmpty then 8 else 0
def formedE (a b : List (List UInt8)) : Int := if (!a.isEmpty && !allP a lenB) || (!b.isEmpty && !allP b chB) then 4 else if 1 < (elemsL b).length then 4 else 0
def numV (s : List UInt8) : Int := atoiV s
def agreedE (a : List (List UInt8)) : Int := if (elemsL a).any (fun s => numV s != numV (headE a)) then 8 else 0
def readE (a b : List (List UInt8)) : Int := if singleE a b ≠ 0 then singleE a b else if formedE a b ≠ 0 then formedE a b else agreedE a

theorem elems_nil : elemsL [] = [] := rfl
theorem decFrom_dig : ∀ (l : List UInt8) (n : Nat), l.all digB = true → Lib.decFrom n l = some (l.foldl (fun n c => 10 * n + (c.toNat - 48)) n)
  | [], n, _ => rfl
  | c :: r, n, h => by
    rw [List.all_cons, Bool.and_eq_true] at h
    have g := digB_iff.1 h.1
    simp only [Lib.decFrom, Lib.digitVal, if_pos g, List.foldl_cons]
    rw [decFrom_dig r _ h.2, Nat.mul_comm]
theorem atoiV_len {s : List UInt8} (h : lenB s = true) : atoiV s = (decV s : Int) := by
  unfold lenB at h
  rw [Bool.and_eq_true, decide_eq_true_eq] at h
  obtain ⟨⟨h1, h2⟩, h3⟩ := h
  cases s with
  | nil => simp at h1
  | cons c r =>
    have hc : digB c = true := by rw [List.all_cons, Bool.and_eq_true] at h3; exact h3.1
    have g := digB_iff.1 hc
    have h45 : (c == 45) = false := by rw [beq_eq_false_iff_ne]; rintro rfl; exact absurd g (by decide)
    have h43 : (c == 43) = false := by rw [beq_eq_false_iff_ne]; rintro rfl; exact absurd g (by decide)
    unfold atoiV
    rw [Lib.atoiAll_short _ h2]
    simp only [Lib.atoi, h45, h43, Lib.decNat, List.isEmpty_cons, Bool.false_eq_true, if_false, decFrom_dig _ 0 h3, Option.map, Lib.NumEnd.ofOption]
    rfl
theorem decV_lt {s : List UInt8} (h : lenB s = true) : decV s < 9223372036854775808 := by
  unfold lenB at h
  rw [Bool.and_eq_true, decide_eq_true_eq] at h
  refine Lib.decNat_small (l := s) h.1.2 ?_
  unfold Lib.decNat
  rw [decFrom_dig _ 0 h.2]
  cases s with
  | nil => simp at h
  | cons c r => rfl
theorem head_mem {vs : List (List UInt8)} (h : elemsL vs ≠ []) : headE vs ∈ elemsL vs := by
  unfold headE
  cases h2 : elemsL vs with
  | nil => exact absurd h2 h
  | cons x r => simp
theorem agreed_eq {a : List (List UInt8)} (h : (elemsL a).all lenB = true) : agreedE a = if unlikeB a then 8 else 0 := by
  unfold agreedE unlikeB numV
  by_cases hn : elemsL a = []
  · rw [hn]; rfl
  · rw [List.all_eq_true] at h
    have hh := atoiV_len (h _ (head_mem hn))
    rw [show ((elemsL a).any fun s => atoiV s != atoiV (headE a)) = (elemsL a).any fun s => decV s != decV (headE a) from ?_]
    refine Bool.eq_iff_iff.2 ?_
    rw [List.any_eq_true, List.any_eq_true]
    constructor
    · rintro ⟨s, hs, he⟩
      refine ⟨s, hs, ?_⟩
      rw [bne_iff_ne] at he ⊢
      rw [hh, atoiV_len (h s hs)] at he
      omega
    · rintro ⟨s, hs, he⟩
      refine ⟨s, hs, ?_⟩
      rw [bne_iff_ne] at he ⊢
      rw [hh, atoiV_len (h s hs)]
      omega
theorem one_elem {E : List (List UInt8)} (h0 : 0 < E.length) (h1 : ¬ 1 < E.length) : E = [E.headD []] := by
  cases E with
  | nil => simp at h0
  | cons x r => cases r with
    | nil => rfl
    | cons y r => simp at h1
/-- THE PROGRAM'S READER FINDS WHAT IS WRONG BY THE DOCUMENT. -/
theorem read_eq (a b : List (List UInt8)) : readE a b = endE a b := by
  unfold readE singleE
  cases a with
  | nil =>
    cases b with
    | nil => simp [formedE, agreedE, endE, elemsL]
    | cons y q =>
      have hag : agreedE [] = 0 := rfl
      simp only [List.isEmpty_nil, List.isEmpty_cons, Bool.not_true, Bool.not_false, Bool.false_and, Bool.and_true, Bool.true_and, Bool.false_or, Bool.false_eq_true, if_false, if_true, endE, formedE, hag, ne_eq, not_true_eq_false]
      generalize hE : elemsL (y :: q) = E
      unfold allP headE
      rw [hE]
      cases hm : amissB (y :: q)
      · by_cases h0 : 0 < E.length
        · by_cases h1 : 1 < E.length
          · have h2 : (E.length == 1) = false := by rw [beq_eq_false_iff_ne]; omega
            rw [h2]
            cases E.all chB <;> simp [h0, h1]
          · have h2 : (E.length == 1) = true := by rw [beq_iff_eq]; omega
            have h3 := one_elem h0 h1
            have h4 : E.all chB = chB (E.headD []) := by rw [h3]; simp
            rw [h2, h4]
            cases chB (E.headD []) <;> simp [h0, h1]
        · have h2 : (E.length == 1) = false := by rw [beq_eq_false_iff_ne]; omega
          rw [h2]; simp [h0]
      · simp
  | cons x r =>
    cases b with
    | nil =>
      simp only [List.isEmpty_nil, List.isEmpty_cons, Bool.not_true, Bool.not_false, Bool.false_and, Bool.true_and, Bool.or_false, Bool.and_false, Bool.false_eq_true, if_false, if_true, endE, formedE, ne_eq, not_true_eq_false, elems_nil, List.length_nil]
      have hag := agreed_eq (a := x :: r)
      unfold allP
      generalize agreedE (x :: r) = G at *
      generalize unlikeB (x :: r) = U at *
      generalize elemsL (x :: r) = E at *
      cases hm : amissB (x :: r)
      · cases hl : E.all lenB
        · simp
        · rw [hag hl]
          cases E with
          | nil => simp
          | cons z t => cases U <;> simp
      · simp
    | cons y q => simp [endE]
theorem end_len {a b : List (List UInt8)} (h : endE a b = 0) (ha : a.isEmpty = false) : b.isEmpty = true ∧ elemsL a ≠ [] ∧ lenB (headE a) = true ∧ numV (headE a) = endN a b := by
  have hN : endN a b = decV (headE a) := by unfold endN; rw [if_pos ⟨h, ha⟩]
  cases hb : b.isEmpty
  · unfold endE at h; rw [ha, hb] at h; simp at h
  · unfold endE at h
    rw [ha, hb] at h
    simp only [Bool.not_true, Bool.not_false, Bool.and_false, Bool.false_eq_true, if_false, if_true] at h
    by_cases hc : (amissB a || (elemsL a).isEmpty || !(elemsL a).all lenB) = true
    · rw [if_pos hc] at h; simp at h
    · rw [Bool.not_eq_true, Bool.or_eq_false_iff, Bool.or_eq_false_iff, Bool.not_eq_false'] at hc
      have hne : elemsL a ≠ [] := by have := hc.1.2; intro e; rw [e] at this; simp at this
      have hl := (List.all_eq_true.1 hc.2) _ (head_mem hne)
      exact ⟨rfl, hne, hl, by rw [hN]; exact atoiV_len hl⟩
theorem end_one {a b : List (List UInt8)} (h : endE a b = 0) (hb : b.isEmpty = false) : a.isEmpty = true ∧ endK a b = 2 ∧ endN a b = 0 := by
  cases ha : a.isEmpty
  · unfold endE at h; rw [ha, hb] at h; simp at h
  · refine ⟨rfl, ?_, ?_⟩
    · unfold endK; rw [if_pos h, hb]; rfl
    · unfold endN; rw [if_neg (by rw [ha]; simp)]

/-! ### once more, and fields of other names -/
theorem vals_app (l m : List Fld) (n : List UInt8) : valsL (l ++ m) n = valsL l n ++ valsL m n := by unfold valsL; rw [List.filter_append, List.map_append]
theorem vals_ins (l : List Fld) (f : Fld) (k : Nat) {n : List UInt8} (h : sameN f.1 n = false) : valsL (l.take k ++ f :: l.drop k) n = valsL l n := by
  rw [vals_app, vals_cons, h]
  simp only [Bool.false_eq_true, if_false]
  rw [← vals_app, List.take_append_drop]
theorem elems_app (a b : List (List UInt8)) : elemsL (a ++ b) = elemsL a ++ elemsL b := by simp [elemsL]
theorem elems_one (v : List UInt8) : elemsL [v] = splitL v 44 := by simp [elemsL]
theorem elems_sub {a : List (List UInt8)} {v : List UInt8} (h : v ∈ a) : ∀ s ∈ splitL v 44, s ∈ elemsL a := fun s hs => by
  unfold elemsL; rw [List.mem_flatMap]; exact ⟨v, h, hs⟩
theorem any_app_sub {α : Type} {E F : List α} (p : α → Bool) (h : ∀ s ∈ F, s ∈ E) : (E ++ F).any p = E.any p := by
  rw [List.any_append]
  cases hF : F.any p
  · rw [Bool.or_false]
  · obtain ⟨s, h1, h2⟩ := List.any_eq_true.1 hF
    rw [List.any_eq_true.2 ⟨s, h s h1, h2⟩]; rfl
theorem all_app_sub {α : Type} {E F : List α} (p : α → Bool) (h : ∀ s ∈ F, s ∈ E) : (E ++ F).all p = E.all p := by
  rw [List.all_append]
  cases hE : E.all p
  · rfl
  · rw [Bool.true_and, List.all_eq_true]; exact fun s hs => (List.all_eq_true.1 hE) s (h s hs)
theorem again_end {a b : List (List UInt8)} {v : List UInt8} (h : v ∈ a) : endE (a ++ [v]) b = endE a b ∧ endK (a ++ [v]) b = endK a b ∧ endN (a ++ [v]) b = endN a b := by
  have ha : a.isEmpty = false := by cases a with | nil => simp at h | cons x r => rfl
  have ha2 : (a ++ [v]).isEmpty = false := by cases a <;> rfl
  have hsub := elems_sub h
  have hE : elemsL (a ++ [v]) = elemsL a ++ splitL v 44 := by rw [elems_app, elems_one]
  have hm : amissB (a ++ [v]) = amissB a := any_app_sub _ (fun s hs => by rw [List.mem_singleton.1 hs]; exact h)
  have hemp : (elemsL (a ++ [v])).isEmpty = (elemsL a).isEmpty := by
    rw [hE]
    cases he : elemsL a with
    | nil =>
      rw [he] at hsub
      cases hs : splitL v 44 with
      | nil => rfl
      | cons x r => exact absurd (hsub x (by rw [hs]; simp)) (by simp)
    | cons x r => rfl
  have hh : headE (a ++ [v]) = headE a := by
    unfold headE
    cases he : elemsL a with
    | nil =>
      have : elemsL (a ++ [v]) = [] := by
        have h3 := hemp
        rw [he] at h3
        exact List.isEmpty_iff.1 h3
      rw [this]
    | cons x r => rw [hE, he]; rfl
  have hl : (elemsL (a ++ [v])).all lenB = (elemsL a).all lenB := by rw [hE]; exact all_app_sub _ hsub
  have hu : unlikeB (a ++ [v]) = unlikeB a := by unfold unlikeB; rw [hh, hE]; exact any_app_sub _ hsub
  have h1 : endE (a ++ [v]) b = endE a b := by unfold endE; rw [ha, ha2, hm, hemp, hl, hu]
  refine ⟨h1, ?_, ?_⟩
  · unfold endK; rw [h1, ha, ha2]
  · unfold endN; rw [h1, ha, ha2, hh]
theorem ask_ins (l : List Fld) (f : Fld) (k : Nat) (h1 : sameN f.1 clN = false) (h2 : sameN f.1 teN = false) : askR (l.take k ++ f :: l.drop k) = askR l := by
  unfold askR; rw [vals_ins l f k h1, vals_ins l f k h2]
theorem tell_ins (l : List Fld) (f : Fld) (k : Nat) (s : Int) (d : Bool) (h1 : sameN f.1 clN = false) (h2 : sameN f.1 teN = false) : tellR (l.take k ++ f :: l.drop k) s d = tellR l s d := by
  unfold tellR; rw [vals_ins l f k h1, vals_ins l f k h2]
def clU : List UInt8 := [67,79,78,84,69,78,84,45,76,69,78,71,84,72]
theorem cl_same : sameN clU clN = true := by decide
theorem cl_other : sameN clU teN = false := by decide
theorem ask_again (l : List Fld) (v : List UInt8) (h : v ∈ valsL l clN) : askR (l ++ [(clU, v)]) = askR l := by
  have h1 : valsL (l ++ [(clU, v)]) clN = valsL l clN ++ [v] := by rw [vals_app, vals_cons]; simp only [cl_same, if_true]; rfl
  have h2 : valsL (l ++ [(clU, v)]) teN = valsL l teN := by rw [vals_app, vals_cons]; simp only [cl_other, Bool.false_eq_true, if_false]; simp [valsL]
  obtain ⟨g1, g2, g3⟩ := again_end (b := valsL l teN) h
  unfold askR askV
  rw [h1, h2, g1, g2, g3]

/-! ### how long, how many -/
theorem splitF_len (l : List UInt8) (sep : UInt8) : (splitL l sep).length ≤ 64 := by
  unfold splitL
  split
  · simp
  · split
    · simp
    · split
      · simp
      · omega
theorem cutF_len {sep : UInt8} : ∀ (l : List UInt8) (o e : Bool) (cur : List UInt8) (A R : List (List UInt8)), cutAt sep l o e cur A = some R → R.flatten.length ≤ A.flatten.length + cur.length + l.length
  | [], o, e, cur, A, R, h => by
    unfold cutAt at h
    split at h
    · cases h
    · cases h
      unfold addP
      have := trim_le cur
      split <;> simp <;> omega
  | c :: r, o, e, cur, A, R, h => by
    unfold cutAt at h
    split at h
    · have h1 := cutF_len r _ _ _ _ _ h
      have h2 : (addP A cur).flatten.length ≤ A.flatten.length + cur.length := by
        unfold addP
        have := trim_le cur
        split <;> simp <;> omega
      simp only [List.length_nil, List.length_cons] at h1 ⊢
      omega
    · have h1 := cutF_len r _ _ _ _ _ h
      simp only [List.length_append, List.length_cons, List.length_nil] at h1 ⊢
      omega
theorem memF_flat {L : List (List UInt8)} {x : List UInt8} (h : x ∈ L) : x.length ≤ L.flatten.length := by
  induction L with
  | nil => exact absurd h (by simp)
  | cons y r ih =>
    rw [List.flatten_cons, List.length_append]
    rcases List.mem_cons.1 h with rfl | h
    · omega
    · have := ih h; omega
theorem splitF_mem {l : List UInt8} {sep : UInt8} {x : List UInt8} (h : x ∈ splitL l sep) : x.length ≤ l.length := by
  refine Nat.le_trans (memF_flat h) ?_
  unfold splitL
  split
  · simp
  · split
    · simp
    · rename_i a h
      split
      · simp
      · have := cutF_len _ _ _ _ _ _ h; simpa using this
theorem elems_snoc {vs : List (List UInt8)} {k : Nat} (h : k < vs.length) : elemsL (vs.take (k + 1)) = elemsL (vs.take k) ++ splitL vs[k] 44 := by
  rw [List.take_succ_eq_append_getElem h, elems_app, elems_one]
theorem amiss_snoc {vs : List (List UInt8)} {k : Nat} (h : k < vs.length) : amissB (vs.take (k + 1)) = (amissB (vs.take k) || splitE vs[k] 44 != 0) := by
  unfold amissB
  rw [List.take_succ_eq_append_getElem h, List.any_append]
  simp only [List.any_cons, List.any_nil, Bool.or_false]
theorem elems_len (vs : List (List UInt8)) : (elemsL vs).length ≤ 64 * vs.length := by
  induction vs with
  | nil => simp [elemsL]
  | cons v r ih =>
    have h1 := splitF_len v 44
    rw [show v :: r = [v] ++ r from rfl, elems_app, elems_one, List.length_append, List.length_append]
    simp only [List.length_cons, List.length_nil]; omega
theorem elems_mem {vs : List (List UInt8)} {n : Nat} (h : ∀ v ∈ vs, v.length ≤ n) : ∀ s ∈ elemsL vs, s.length ≤ n := fun s hs => by
  unfold elemsL at hs
  rw [List.mem_flatMap] at hs
  obtain ⟨v, h1, h2⟩ := hs
  exact Nat.le_trans (splitF_mem h2) (h v h1)
end Go.Proofs.YtgkjjmcjlobbpaaGreatDoor

/- Lists of header fields, plainly: which may be, their text, and what a text is as fields. Nothing of the program is read here. -/
namespace Go.Proofs.YtgkjjmcjlobbpaaGreatDoor
def valV (v : List UInt8) : Bool := v.all mayB && (trim v == v)
def lenF (f : Fld) : Nat := f.1.length + 2 + f.2.length
def mayF (f : Fld) : Bool := token f.1 && valV f.2
def longF (f : Fld) : Bool := decide (2048 < lenF f)
def chkF (f : Fld) : Int := if mayF f then (if longF f then 3 else 0) else 4
def firstE : List Fld → Int
  | [] => 0
  | f :: r => if chkF f = 0 then firstE r else chkF f
def checkL (l : List Fld) : Int := if 64 < l.length then 3 else firstE l
def lineL (f : Fld) : List UInt8 := f.1 ++ [58, 32] ++ f.2
def linesL (l : List Fld) : List UInt8 := l.flatMap fun f => lineL f ++ [13, 10]
def putL (l : List Fld) : List UInt8 := if checkL l = 0 then linesL l else []
/-- the field of a line (without its end), and why it is none -/
def oneF (s : List UInt8) : Fld := ((Lib.cut s [58]).1, trim (Lib.cut s [58]).2.1)
def oneE (s : List UInt8) : Int := if (Lib.cut s [58]).2.2 then chkF (oneF s) else 4
def cutN (s : List UInt8) : List UInt8 × List UInt8 × Bool := Lib.cut s [13, 10]
theorem cut_le (s sep : List UInt8) : (Lib.cut s sep).1.length ≤ s.length ∧ (Lib.cut s sep).2.1.length ≤ s.length := by
  unfold Lib.cut; split
  · exact ⟨List.length_take_le' _ _, by simp⟩
  · exact ⟨Nat.le_refl _, by simp⟩
theorem cutN_lt {s : List UInt8} (h : (cutN s).2.2 = true) : (cutN s).2.1.length < s.length := by
  unfold cutN Lib.cut at h ⊢
  split at h
  · rename_i h0
    rw [if_pos h0]
    have := Lib.index_room s [13, 10] h0
    simp only [List.length_drop, List.length_cons, List.length_nil] at this ⊢
    omega
  · cases h
/-- what a text is as fields, behind those that were read -/
def parseW (s : List UInt8) (out : List Fld) : List Fld × Int :=
  if _h : (cutN s).2.2 = true then
    if out.length = 64 ∨ 2048 < (cutN s).1.length then ([], 3)
    else if oneE (cutN s).1 = 0 then parseW (cutN s).2.1 (out ++ [oneF (cutN s).1]) else ([], oneE (cutN s).1)
  else if s = [] then (out, 0) else ([], 4)
termination_by s.length
decreasing_by exact cutN_lt (by assumption)
def parseL (s : List UInt8) : List Fld × Int := parseW s []

theorem chkF_cases (f : Fld) : (mayF f = false ∧ chkF f = 4) ∨ (mayF f = true ∧ longF f = true ∧ chkF f = 3) ∨ (mayF f = true ∧ longF f = false ∧ chkF f = 0) := by
  unfold chkF
  cases h1 : mayF f <;> cases h2 : longF f <;> simp
theorem chkF_zero {f : Fld} (h : chkF f = 0) : mayF f = true ∧ lenF f ≤ 2048 := by
  rcases chkF_cases f with ⟨_, h2⟩ | ⟨_, _, h2⟩ | ⟨h1, h2, _⟩
  · omega
  · omega
  · refine ⟨h1, ?_⟩
    unfold longF at h2
    have := of_decide_eq_false h2
    omega

/-- how far the document's reader of a field has come: its value's first bytes -/
def upTo (v : ByteArray) (k : Nat) : Prop := (v.data.toList.take k).all mayB = true ∧ (0 < k → ∃ h : 0 < v.size, blankB v[0] = false) ∧ (k = v.size → 0 < k → ∃ h : v.size - 1 < v.size, blankB v[v.size - 1] = false)
theorem upTo_zero (v : ByteArray) : upTo v 0 := ⟨rfl, fun h => absurd h (by omega), fun _ h => absurd h (by omega)⟩
theorem upTo_end {v : ByteArray} (h : upTo v v.size) : valV v.data.toList = true := by
  obtain ⟨h1, h2, h3⟩ := h
  rw [take_all (by omega)] at h1
  unfold valV
  rw [h1, Bool.true_and]
  rcases Nat.eq_zero_or_pos v.size with h0 | h0
  · rw [nil_of h0]; rfl
  · obtain ⟨_, hb⟩ := h2 h0
    obtain ⟨_, hc⟩ := h3 rfl h0
    have : trim v.data.toList = v.data.toList := by
      unfold trim
      rw [ltrim_end h0 hb, rtrim_end h0 hc]
    rw [this]; simp
theorem valV_byte {v : ByteArray} {k : Nat} (h : k < v.size) (hb : mayB v[k] = false) : valV v.data.toList = false := by
  unfold valV; rw [all_not v mayB k h hb]; rfl
theorem dropWhile_lt {p : UInt8 → Bool} {l : List UInt8} {c : UInt8} (h : p c = true) : ((c :: l).dropWhile p).length ≤ l.length := by
  rw [List.dropWhile_cons, h]; exact dropWhile_le p l
theorem valV_first {v : ByteArray} (h : 0 < v.size) (hb : blankB v[0] = true) : valV v.data.toList = false := by
  unfold valV
  have hne : trim v.data.toList ≠ v.data.toList := by
    intro e
    have h1 : (trim v.data.toList).length ≤ (ltrim v.data.toList).length := by
      unfold trim rtrim; rw [List.length_reverse]
      exact Nat.le_trans (dropWhile_le _ _) (by rw [List.length_reverse]; exact Nat.le_refl _)
    have h2 : (ltrim v.data.toList).length ≤ v.data.toList.length - 1 := by
      rw [cons_of h]; unfold ltrim
      have := dropWhile_lt (l := v.data.toList.drop 1) hb
      simpa using this
    rw [e] at h1
    have h3 : v.data.toList.length = v.size := (size_len v).symm
    omega
  have : (trim v.data.toList == v.data.toList) = false := beq_eq_false_iff_ne.2 hne
  rw [this, Bool.and_false]
theorem valV_last {v : ByteArray} (h : v.size - 1 < v.size) (hb : blankB v[v.size - 1] = true) : valV v.data.toList = false := by
  unfold valV
  have h0 : 0 < v.size := by omega
  have hne : trim v.data.toList ≠ v.data.toList := by
    intro e
    by_cases hf : blankB v[0] = true
    · have := valV_first h0 hf
      unfold valV at this
      rw [e] at this
      simp only [beq_self_eq_true, Bool.and_true] at this
      -- the first byte is blank: trimmed it is shorter
      have h1 : (trim v.data.toList).length ≤ (ltrim v.data.toList).length := by
        unfold trim rtrim; rw [List.length_reverse]
        exact Nat.le_trans (dropWhile_le _ _) (by rw [List.length_reverse]; exact Nat.le_refl _)
      have h2 : (ltrim v.data.toList).length ≤ v.data.toList.length - 1 := by
        rw [cons_of h0]; unfold ltrim
        have := dropWhile_lt (l := v.data.toList.drop 1) hf
        simpa using this
      rw [e] at h1
      have h3 : v.data.toList.length = v.size := (size_len v).symm
      omega
    · have hf' : blankB v[0] = false := by simpa using hf
      have h1 : trim v.data.toList = rtrim v.data.toList := by unfold trim; rw [ltrim_end h0 hf']
      have h2 : (rtrim v.data.toList).length ≤ v.size - 1 := by
        rw [← rtrim_step h0 hb]
        unfold rtrim
        rw [List.length_reverse]
        exact Nat.le_trans (dropWhile_le _ _) (by rw [List.length_reverse, List.length_take]; omega)
      rw [← h1, e] at h2
      have h3 : v.data.toList.length = v.size := (size_len v).symm
      omega
  have : (trim v.data.toList == v.data.toList) = false := beq_eq_false_iff_ne.2 hne
  rw [this, Bool.and_false]
/-- one byte on -/
theorem upTo_next {v : ByteArray} {k : Nat} (h : upTo v k) (hk : k < v.size) (hm : mayB v[k] = true) (h0 : k = 0 → blankB v[k] = false) (h1 : k + 1 = v.size → blankB v[k] = false) : upTo v (k + 1) := by
  refine ⟨all_snoc v mayB k hk h.1 hm, fun _ => ?_, fun he _ => ?_⟩
  · rcases Nat.eq_zero_or_pos k with rfl | hp
    · exact ⟨hk, h0 rfl⟩
    · exact h.2.1 hp
  · refine ⟨by omega, ?_⟩
    have e : v.size - 1 = k := by omega
    simp only [e]
    exact h1 he
theorem firstE_step {l : List Fld} {k : Nat} (h : k < l.length) (hz : chkF l[k] = 0) : firstE (l.drop k) = firstE (l.drop (k + 1)) := by
  rw [List.drop_eq_getElem_cons h, firstE, if_pos hz]
theorem firstE_stop {l : List Fld} {k : Nat} (h : k < l.length) (hz : ¬ chkF l[k] = 0) : firstE (l.drop k) = chkF l[k] := by
  rw [List.drop_eq_getElem_cons h, firstE, if_neg hz]
theorem firstE_all {l : List Fld} (h : firstE l = 0) : ∀ f ∈ l, chkF f = 0 := by
  induction l with
  | nil => intro f hf; cases hf
  | cons g r ih =>
    unfold firstE at h
    by_cases hg : chkF g = 0
    · rw [if_pos hg] at h
      intro f hf
      rcases List.mem_cons.1 hf with rfl | hf
      · exact hg
      · exact ih h f hf
    · rw [if_neg hg] at h; exact absurd h hg
theorem firstE_of {l : List Fld} (h : ∀ f ∈ l, chkF f = 0) : firstE l = 0 := by
  induction l with
  | nil => rfl
  | cons g r ih => rw [firstE, if_pos (h g (by simp))]; exact ih fun f hf => h f (by simp [hf])
theorem check_zero {l : List Fld} (h : checkL l = 0) : l.length ≤ 64 ∧ ∀ f ∈ l, chkF f = 0 := by
  unfold checkL at h
  by_cases h1 : 64 < l.length
  · rw [if_pos h1] at h; omega
  · rw [if_neg h1] at h; exact ⟨by omega, firstE_all h⟩
theorem check_of {l : List Fld} (h1 : l.length ≤ 64) (h2 : ∀ f ∈ l, chkF f = 0) : checkL l = 0 := by
  unfold checkL; rw [if_neg (by omega)]; exact firstE_of h2
theorem line_len (f : Fld) : (lineL f).length = lenF f := by unfold lineL lenF; simp; omega
theorem lines_len {l : List Fld} (h : ∀ f ∈ l, chkF f = 0) : (linesL l).length ≤ 2050 * l.length := by
  induction l with
  | nil => simp [linesL]
  | cons f r ih =>
    have h1 := (chkF_zero (h f (by simp))).2
    have h2 := ih fun g hg => h g (by simp [hg])
    have h3 : linesL (f :: r) = (lineL f ++ [13, 10]) ++ linesL r := by simp [linesL]
    rw [h3, List.length_append, List.length_append, line_len, List.length_cons, List.length_cons, List.length_cons, List.length_nil]
    omega
theorem put_len (l : List Fld) : (putL l).length ≤ 131200 := by
  unfold putL; split
  · rename_i h
    obtain ⟨h1, h2⟩ := check_zero h
    have := lines_len h2
    omega
  · simp
theorem lines_snoc (l : List Fld) (f : Fld) : linesL (l ++ [f]) = linesL l ++ (lineL f ++ [13, 10]) := by simp [linesL]

/-! ### what is put is read -/
theorem mayB_no13 {c : UInt8} (h : mayB c = true) : c ≠ 13 := by rintro rfl; revert h; decide
theorem tokB_no {c : UInt8} (h : tokB c = true) : c ≠ 13 ∧ c ≠ 58 := by
  constructor <;> (rintro rfl; revert h; decide)
theorem occ_two (s : List UInt8) (i : Nat) (a b : UInt8) : Lib.occAt s [a, b] i = true ↔ (s[i]? = some a ∧ s[i + 1]? = some b) := by
  unfold Lib.occAt
  have h1 : s[i]? = (s.drop i)[0]? := by simp
  have h2 : s[i + 1]? = (s.drop i)[1]? := by simp
  rw [h1, h2]
  generalize s.drop i = l
  match l with
  | [] => simp [List.isPrefixOf]
  | [x] => simp [List.isPrefixOf]
  | x :: y :: r =>
    simp only [List.isPrefixOf, Bool.and_true, Bool.and_eq_true, beq_iff_eq, List.getElem?_cons_zero, List.getElem?_cons_succ, Option.some.injEq]
    exact ⟨fun ⟨h1, h2⟩ => ⟨h1.symm, h2.symm⟩, fun ⟨h1, h2⟩ => ⟨h1.symm, h2.symm⟩⟩
theorem occ_one (s : List UInt8) (i : Nat) (a : UInt8) : Lib.occAt s [a] i = true ↔ s[i]? = some a := by
  unfold Lib.occAt
  have h1 : s[i]? = (s.drop i)[0]? := by simp
  rw [h1]
  generalize s.drop i = l
  match l with
  | [] => simp [List.isPrefixOf]
  | x :: r =>
    simp only [List.isPrefixOf, Bool.and_true, beq_iff_eq, List.getElem?_cons_zero, Option.some.injEq]
    exact ⟨fun h => h.symm, fun h => h.symm⟩
/-- cut at the first instance -/
theorem cut_hit {s sep : List UInt8} {i : Nat} (hi : i ≤ s.length) (ho : Lib.occAt s sep i = true) (hn : ∀ j, j < i → Lib.occAt s sep j = false) : Lib.cut s sep = (s.take i, s.drop (i + sep.length), true) := by
  have h : Lib.index s sep = i := Lib.index_first hi ho hn
  unfold Lib.cut
  rw [h, if_pos (by omega)]
  simp
theorem cut_miss {s sep : List UInt8} (hn : ∀ j, j ≤ s.length → Lib.occAt s sep j = false) : Lib.cut s sep = (s, [], false) := by
  have h : Lib.index s sep = -1 := Lib.index_none hn
  unfold Lib.cut
  rw [h, if_neg (by omega)]
theorem cutN_of {a r : List UInt8} (h : ∀ c ∈ a, c ≠ 13) : cutN (a ++ 13 :: 10 :: r) = (a, r, true) := by
  unfold cutN
  rw [cut_hit (i := a.length) (by simp) ((occ_two _ _ _ _).2 ⟨by simp, by rw [List.getElem?_append_right (by omega)]; simp⟩) fun j hj => ?_]
  · simp
  · cases ho : Lib.occAt (a ++ 13 :: 10 :: r) [13, 10] j
    · rfl
    · have h1 := ((occ_two _ _ _ _).1 ho).1
      rw [List.getElem?_append_left hj, List.getElem?_eq_getElem hj] at h1
      exact absurd (Option.some.inj h1) (h _ (List.getElem_mem hj))
theorem cutC_of {a r : List UInt8} (h : ∀ c ∈ a, c ≠ 58) : Lib.cut (a ++ 58 :: r) [58] = (a, r, true) := by
  rw [cut_hit (i := a.length) (by simp) ((occ_one _ _ _).2 (by simp)) fun j hj => ?_]
  · simp
  · cases ho : Lib.occAt (a ++ 58 :: r) [58] j
    · rfl
    · have h1 := (occ_one _ _ _).1 ho
      rw [List.getElem?_append_left hj, List.getElem?_eq_getElem hj] at h1
      exact absurd (Option.some.inj h1) (h _ (List.getElem_mem hj))
theorem token_all {l : List UInt8} (h : token l = true) : ∀ c ∈ l, tokB c = true := by
  unfold token at h
  rw [Bool.and_eq_true] at h
  exact fun c hc => List.all_eq_true.1 h.2 c hc
theorem one_line {f : Fld} (h : chkF f = 0) : oneE (lineL f) = 0 ∧ oneF (lineL f) = f := by
  obtain ⟨h1, h2⟩ := chkF_zero h
  unfold mayF at h1
  rw [Bool.and_eq_true] at h1
  have hc : Lib.cut (lineL f) [58] = (f.1, 32 :: f.2, true) := by
    unfold lineL
    rw [List.append_assoc]
    exact cutC_of fun c hc => (tokB_no (token_all h1.1 c hc)).2
  have hv := h1.2
  unfold valV at hv
  rw [Bool.and_eq_true] at hv
  have ht : trim (32 :: f.2) = f.2 := by
    have : trim (32 :: f.2) = trim f.2 := by unfold trim ltrim; rfl
    rw [this]; exact beq_iff_eq.1 hv.2
  have hf : oneF (lineL f) = f := by unfold oneF; rw [hc]; show (f.1, trim (32 :: f.2)) = f; rw [ht]
  exact ⟨by unfold oneE; rw [hf, hc]; simpa using h, hf⟩
theorem line_no13 {f : Fld} (h : chkF f = 0) : ∀ c ∈ lineL f, c ≠ 13 := by
  obtain ⟨h1, h2⟩ := chkF_zero h
  unfold mayF at h1
  rw [Bool.and_eq_true] at h1
  have hv := h1.2
  unfold valV at hv
  rw [Bool.and_eq_true] at hv
  intro c hc
  unfold lineL at hc
  rcases List.mem_append.1 hc with hc | hc
  · rcases List.mem_append.1 hc with hc | hc
    · exact (tokB_no (token_all h1.1 c hc)).1
    · simp at hc; rcases hc with rfl | rfl <;> decide
  · exact mayB_no13 (List.all_eq_true.1 hv.1 c hc)
theorem parse_nil (out : List Fld) : parseW [] out = (out, 0) := by
  rw [parseW]
  have : (cutN []).2.2 = false := by decide
  simp [this]
theorem parse_lines : ∀ (l out : List Fld), out.length + l.length ≤ 64 → (∀ f ∈ l, chkF f = 0) → parseW (linesL l) out = (out ++ l, 0)
  | [], out, _, _ => by rw [List.append_nil]; exact parse_nil out
  | f :: r, out, hl, h => by
    have h0 := h f (by simp)
    have e : linesL (f :: r) = lineL f ++ 13 :: 10 :: linesL r := by simp [linesL]
    have hc := cutN_of (r := linesL r) (line_no13 h0)
    rw [← e] at hc
    have h3 := (chkF_zero h0).2
    obtain ⟨h4, h5⟩ := one_line h0
    rw [List.length_cons] at hl
    rw [parseW]
    simp only [hc, dite_true]
    rw [if_neg (by rw [line_len]; omega), if_pos h4, h5, parse_lines r _ (by simp; omega) (fun g hg => h g (by simp [hg]))]
    simp
theorem parse_put {l : List Fld} (h : checkL l = 0) : parseL (putL l) = (l, 0) := by
  obtain ⟨h1, h2⟩ := check_zero h
  unfold parseL putL
  rw [if_pos h, parse_lines l [] (by simpa using h1) h2]; rfl
theorem put_bad {l : List Fld} (h : ¬ checkL l = 0) : putL l = [] := by unfold putL; rw [if_neg h]
theorem oneE_zero {s : List UInt8} (h : oneE s = 0) : chkF (oneF s) = 0 := by
  unfold oneE at h; split at h
  · exact h
  · omega
/-- what is read may be; what can't be read is nothing -/
theorem parse_may : ∀ (n : Nat) (s : List UInt8) (out : List Fld), s.length ≤ n → out.length ≤ 64 → (∀ f ∈ out, chkF f = 0) →
    ((parseW s out).2 = 0 ∧ (parseW s out).1.length ≤ 64 ∧ ∀ f ∈ (parseW s out).1, chkF f = 0) ∨ (¬ (parseW s out).2 = 0 ∧ (parseW s out).1 = []) := by
  intro n
  induction n with
  | zero =>
    intro s out hs hl ho
    have : s = [] := List.eq_nil_of_length_eq_zero (by omega)
    subst this
    rw [parse_nil]; exact .inl ⟨rfl, hl, ho⟩
  | succ n ih =>
    intro s out hs hl ho
    rw [parseW]
    split
    · rename_i hc
      split
      · exact .inr ⟨by decide, rfl⟩
      · rename_i h1
        split
        · rename_i h2
          have hlt := cutN_lt hc
          exact ih _ _ (by omega) (by simp; omega) (fun f hf => by
            rcases List.mem_append.1 hf with hf | hf
            · exact ho f hf
            · rw [List.mem_singleton.1 hf]; exact oneE_zero h2)
        · rename_i h2
          exact .inr ⟨h2, rfl⟩
    · split
      · exact .inl ⟨rfl, hl, ho⟩
      · exact .inr ⟨by decide, rfl⟩
theorem parse_check (s : List UInt8) : checkL (parseL s).1 = 0 ∧ ((parseL s).2 = 0 ∨ (parseL s).1 = []) := by
  rcases parse_may s.length s [] (Nat.le_refl _) (by simp) (by simp) with ⟨h1, h2, h3⟩ | ⟨h1, h2⟩
  · exact ⟨check_of h2 h3, .inl h1⟩
  · refine ⟨?_, .inr h2⟩
    show checkL (parseW s []).1 = 0
    rw [h2]; rfl
end Go.Proofs.YtgkjjmcjlobbpaaGreatDoor

/- Bodies in chunks, plainly: a size line, a chunk, the last lines, the whole; what a body is in chunks. Nothing of the program is read here. -/
namespace Go.Proofs.YtgkjjmcjlobbpaaGreatDoor
/-- a hexadecimal digit: is it one, its value -/
def hexI (n : Int) : Int := if 48 ≤ n ∧ n ≤ 57 then n - 48 else if 97 ≤ n ∧ n ≤ 102 then n - 87 else if 65 ≤ n ∧ n ≤ 70 then n - 55 else -1
def hexB (c : UInt8) : Bool := decide (0 ≤ hexI (c.toNat : Int))
def hexD (c : UInt8) : Nat := (hexI (c.toNat : Int)).toNat
def hexN (l : List UInt8) : Nat := l.foldl (fun n c => 16 * n + hexD c) 0
def ignI (n : Int) : Bool := decide (n = 9 ∨ (32 ≤ n ∧ n ≤ 126))
def ignB (c : UInt8) : Bool := ignI (c.toNat : Int)
/-- a size line's size -/
def sizeN (s : List UInt8) : Option Nat :=
  if (Lib.cut s [59]).1 ≠ [] ∧ (Lib.cut s [59]).1.length ≤ 8 ∧ (Lib.cut s [59]).1.all hexB = true ∧ (Lib.cut s [59]).2.1.all ignB = true then some (hexN (Lib.cut s [59]).1) else none
/-- where a mark begins that ends within so many bytes; the error, if none does -/
def findL (s mark : List UInt8) (most : Nat) : Nat × Int :=
  if 0 ≤ Lib.index (s.take most) mark then ((Lib.index (s.take most) mark).toNat, 0) else if most ≤ s.length then (0, 3) else (0, 6)
/-- what a text is: the body, the bytes used, the trailers, the error -/
abbrev Dec := List UInt8 × Nat × List Fld × Int
def bad (e : Int) : Dec := ([], 0, [], e)
def behind (c : List UInt8) (k : Nat) (d : Dec) : Dec := if d.2.2.2 = 0 then (c ++ d.1, k + d.2.1, d.2.2.1, 0) else bad d.2.2.2
def endEC (a : List UInt8) : Int := if Lib.hasPrefix a [13, 10] then 0 else if Lib.hasPrefix [13, 10] a then 6 else 4
/-- the size line at the head: the size, the bytes used, the error -/
def headL (r : List UInt8) (room : Nat) : Nat × Nat × Int :=
  if (findL r [13, 10] 2050).2 = 0 then
    match sizeN (r.take (findL r [13, 10] 2050).1) with
    | none => (0, 0, 4)
    | some n => if room < n then (0, 0, 3) else (n, (findL r [13, 10] 2050).1 + 2, 0)
  else (0, 0, (findL r [13, 10] 2050).2)
/-- so many bytes at the head: they, the bytes used, the error -/
def chunkL (t : List UInt8) (n : Nat) : List UInt8 × Nat × Int :=
  if t.length < n then ([], 0, 6) else if endEC (t.drop n) = 0 then (t.take n, n + 2, 0) else ([], 0, endEC (t.drop n))
/-- the last lines at the head: the fields, the bytes used, the error -/
def lastsL (t : List UInt8) : List Fld × Nat × Int :=
  if (findL (13 :: 10 :: t) [13, 10, 13, 10] 8194).2 = 0 then
    if (parseL (t.take (findL (13 :: 10 :: t) [13, 10, 13, 10] 8194).1)).2 = 0 then
      ((parseL (t.take (findL (13 :: 10 :: t) [13, 10, 13, 10] 8194).1)).1, (findL (13 :: 10 :: t) [13, 10, 13, 10] 8194).1 + 2, 0)
    else ([], 0, (parseL (t.take (findL (13 :: 10 :: t) [13, 10, 13, 10] 8194).1)).2)
  else ([], 0, (findL (13 :: 10 :: t) [13, 10, 13, 10] 8194).2)
def lastsD (t : List UInt8) : Dec := if (lastsL t).2.2 = 0 then ([], (lastsL t).2.1, (lastsL t).1, 0) else bad (lastsL t).2.2
/-- the whole, by a number of chunks that is not reached -/
def decF : Nat → List UInt8 → Nat → Dec
  | 0, _, _ => bad 6
  | k + 1, r, room =>
    if (headL r room).2.2 = 0 then
      if (headL r room).1 = 0 then behind [] (headL r room).2.1 (lastsD (r.drop (headL r room).2.1))
      else
        behind [] (headL r room).2.1 (
          if (chunkL (r.drop (headL r room).2.1) (headL r room).1).2.2 = 0 then
            behind (chunkL (r.drop (headL r room).2.1) (headL r room).1).1 (chunkL (r.drop (headL r room).2.1) (headL r room).1).2.1
              (decF k ((r.drop (headL r room).2.1).drop (chunkL (r.drop (headL r room).2.1) (headL r room).1).2.1) (room - (headL r room).1))
          else bad (chunkL (r.drop (headL r room).2.1) (headL r room).1).2.2)
    else bad (headL r room).2.2
def decL (r : List UInt8) (room : Nat) : Dec := decF (r.length + 1) r room
def bytesD (t : List UInt8) (n room : Nat) : Dec :=
  if (chunkL t n).2.2 = 0 then behind (chunkL t n).1 (chunkL t n).2.1 (decL (t.drop (chunkL t n).2.1) (room - n)) else bad (chunkL t n).2.2
def roomOf (most : Int) : Nat := (min (max most 0) 262144).toNat
def decodeL (s : List UInt8) (most : Int) : Dec := decL s (roomOf most)

theorem behind_bad {c : List UInt8} {k : Nat} {e : Int} (h : e ≠ 0) : behind c k (bad e) = bad e := by unfold behind bad; rw [if_neg h]
theorem behind_nil (d : Dec) (h : d.2.2.2 ≠ 0 → d = bad d.2.2.2) : behind [] 0 d = d := by
  unfold behind
  split
  · rename_i h0; obtain ⟨a, b, c, e⟩ := d; simp at h0 ⊢; exact h0.symm
  · rename_i h0; exact (h h0).symm
theorem behind_behind (a b : List UInt8) (j k : Nat) (d : Dec) : behind a j (behind b k d) = behind (a ++ b) (j + k) d := by
  unfold behind
  by_cases h : d.2.2.2 = 0
  · simp [h, Nat.add_assoc]
  · simp [h, bad]
theorem behind_err (c : List UInt8) (k : Nat) (d : Dec) : (behind c k d).2.2.2 = d.2.2.2 := by
  unfold behind; split
  · rename_i h; exact h.symm
  · rfl

theorem occ_iff (s sub : List UInt8) (i : Nat) : Lib.occAt s sub i = true ↔ ∀ j (h : j < sub.length), s[i + j]? = some sub[j] := by
  unfold Lib.occAt
  rw [List.isPrefixOf_iff_prefix, List.prefix_iff_getElem?]
  simp only [List.getElem?_drop]
theorem occ_room {s sub : List UInt8} {i : Nat} (h : Lib.occAt s sub i = true) (hs : sub ≠ []) : i + sub.length ≤ s.length := by
  rcases Lib.occAt_room h with h | h
  · exact h
  · exact absurd h hs
/-- an occurrence hangs on its own bytes -/
theorem occ_same {s t sub : List UInt8} {i m : Nat} (hm : i + sub.length ≤ m) (h : s.take m = t.take m) : Lib.occAt s sub i = Lib.occAt t sub i := by
  have key : ∀ (u v : List UInt8), u.take m = v.take m → Lib.occAt u sub i = true → Lib.occAt v sub i = true := by
    intro u v huv hu
    rw [occ_iff] at hu ⊢
    intro j hj
    have h1 := hu j hj
    have h2 : (u.take m)[i + j]? = some sub[j] := by rw [List.getElem?_take, if_pos (by omega)]; exact h1
    rw [huv, List.getElem?_take, if_pos (by omega)] at h2
    exact h2
  rw [Bool.eq_iff_iff]
  exact ⟨key _ _ h, key _ _ h.symm⟩
theorem occ_take {s sub : List UInt8} {i m : Nat} (hm : i + sub.length ≤ m) : Lib.occAt (s.take m) sub i = Lib.occAt s sub i :=
  occ_same hm (by rw [List.take_take]; simp)
theorem find_hit {s mark : List UInt8} {most : Nat} (hm : mark ≠ []) (h : (findL s mark most).2 = 0) :
    (findL s mark most).1 + mark.length ≤ most ∧ (findL s mark most).1 + mark.length ≤ s.length ∧ Lib.occAt s mark (findL s mark most).1 = true ∧ ∀ j, j < (findL s mark most).1 → Lib.occAt s mark j = false := by
  unfold findL at h ⊢
  split at h
  · rename_i h0
    rw [if_pos h0]
    rcases Lib.index_spec (s.take most) mark with ⟨h1, _⟩ | ⟨i, h1, h2, h3, h4⟩
    · omega
    · rw [h1]
      simp only [Int.toNat_natCast]
      have hr := occ_room h3 hm
      rw [List.length_take] at hr
      have h5 : i + mark.length ≤ most := by omega
      refine ⟨h5, by omega, ?_, fun j hj => ?_⟩
      · rw [← occ_take (m := most) h5]; exact h3
      · rw [← occ_take (m := most) (by omega)]; exact h4 j hj
  · split at h
    · exact absurd h (by decide)
    · exact absurd h (by decide)
theorem find_of {s mark : List UInt8} {most n : Nat} (hm : mark ≠ []) (h1 : n + mark.length ≤ most) (h2 : Lib.occAt s mark n = true) (h3 : ∀ j, j < n → Lib.occAt s mark j = false) : findL s mark most = (n, 0) := by
  have hr := occ_room h2 hm
  have h : Lib.index (s.take most) mark = n := Lib.index_first (by rw [List.length_take]; omega) (by rw [occ_take h1]; exact h2) (fun j hj => by rw [occ_take (by omega)]; exact h3 j hj)
  unfold findL
  rw [h, if_pos (by omega)]
  simp
theorem find_none {s mark : List UInt8} {most : Nat} (hm : mark ≠ []) (h : ∀ j, j + mark.length ≤ most → Lib.occAt s mark j = false) : findL s mark most = if most ≤ s.length then (0, 3) else (0, 6) := by
  have h0 : Lib.index (s.take most) mark = -1 := Lib.index_none fun j hj => by
    cases ho : Lib.occAt (s.take most) mark j
    · rfl
    · have hr := occ_room ho hm
      rw [List.length_take] at hr
      rw [occ_take (by omega), h j (by omega)] at ho
      exact absurd ho (by decide)
  unfold findL
  rw [h0, if_neg (by decide)]
theorem find_cases (s mark : List UInt8) (most : Nat) : (findL s mark most).2 = 0 ∨ (findL s mark most = (0, 3) ∧ most ≤ s.length) ∨ (findL s mark most = (0, 6) ∧ s.length < most) := by
  unfold findL
  split
  · exact .inl rfl
  · split
    · rename_i h; exact .inr (.inl ⟨rfl, h⟩)
    · rename_i h; exact .inr (.inr ⟨rfl, by omega⟩)

theorem hexI_lt (n : Int) : hexI n < 16 := by
  unfold hexI
  split
  · omega
  · split
    · omega
    · split <;> omega
theorem hexN_lt (l : List UInt8) : hexN l < 16 ^ l.length := by
  have key : ∀ (l : List UInt8) (n : Nat), l.foldl (fun n c => 16 * n + hexD c) n < (n + 1) * 16 ^ l.length := by
    intro l
    induction l with
    | nil => intro n; simp
    | cons c r ih =>
      intro n
      rw [List.foldl_cons, List.length_cons, Nat.pow_succ]
      have h : hexD c < 16 := by have := hexI_lt (c.toNat : Int); unfold hexD; omega
      have h1 := ih (16 * n + hexD c)
      have h2 : (16 * n + hexD c + 1) * 16 ^ r.length ≤ (16 * (n + 1)) * 16 ^ r.length := Nat.mul_le_mul_right _ (by omega)
      have h3 : (n + 1) * (16 ^ r.length * 16) = (16 * (n + 1)) * 16 ^ r.length := by rw [Nat.mul_comm (16 ^ r.length) 16, ← Nat.mul_assoc, Nat.mul_comm (n + 1) 16]
      rw [h3]
      exact Nat.lt_of_lt_of_le h1 h2
  have := key l 0
  simpa [hexN] using this
theorem sizeN_lt {s : List UInt8} {n : Nat} (h : sizeN s = some n) : n < 4294967296 := by
  unfold sizeN at h
  split at h
  · rename_i hc
    have h1 := hexN_lt (Lib.cut s [59]).1
    have h2 : 16 ^ (Lib.cut s [59]).1.length ≤ 16 ^ 8 := Nat.pow_le_pow_right (by decide) hc.2.1
    have h3 := Option.some.inj h
    have h4 : (16 : Nat) ^ 8 = 4294967296 := by decide
    omega
  · cases h
theorem sizeN_nil : sizeN [] = none := by decide

theorem head_ok {r : List UInt8} {room : Nat} (h : (headL r room).2.2 = 0) : 3 ≤ (headL r room).2.1 ∧ (headL r room).2.1 ≤ r.length ∧ (headL r room).1 ≤ room ∧
    ∃ f, findL r [13, 10] 2050 = (f, 0) ∧ sizeN (r.take f) = some (headL r room).1 ∧ (headL r room).2.1 = f + 2 := by
  unfold headL at h ⊢
  by_cases h0 : (findL r [13, 10] 2050).2 = 0
  · rw [if_pos h0] at h ⊢
    obtain ⟨f1, f2, f3, f4⟩ := find_hit (by simp) h0
    cases hs : sizeN (r.take (findL r [13, 10] 2050).1) with
    | none => rw [hs] at h; simp at h
    | some n =>
      rw [hs] at h
      simp only at h ⊢
      by_cases hr : room < n
      · rw [if_pos hr] at h; exact absurd h (by decide)
      · rw [if_neg hr]
        simp only [List.length_cons, List.length_nil] at f1 f2
        refine ⟨?_, by simp only; omega, by simp only; omega, _, Prod.ext rfl h0, hs, rfl⟩
        have : (findL r [13, 10] 2050).1 ≠ 0 := fun e => by rw [e, List.take_zero, sizeN_nil] at hs; cases hs
        simp only; omega
  · rw [if_neg h0] at h; exact absurd h h0
theorem chunk_ok {t : List UInt8} {n : Nat} (h : (chunkL t n).2.2 = 0) : (chunkL t n).1 = t.take n ∧ (chunkL t n).2.1 = n + 2 ∧ n + 2 ≤ t.length ∧ endEC (t.drop n) = 0 := by
  unfold chunkL at h ⊢
  split at h
  · exact absurd h (by decide)
  · rename_i hl
    rw [if_neg hl]
    split at h
    · rename_i he
      rw [if_pos he]
      refine ⟨rfl, rfl, ?_, he⟩
      unfold endEC at he
      split at he
      · rename_i hp
        have := (List.isPrefixOf_iff_prefix.1 hp).length_le
        rw [List.length_drop] at this
        simp only [List.length_cons, List.length_nil] at this
        omega
      · split at he <;> exact absurd he (by decide)
    · rename_i he; exact absurd h he
theorem lasts_ok {t : List UInt8} (h : (lastsL t).2.2 = 0) : 2 ≤ (lastsL t).2.1 ∧ (lastsL t).2.1 ≤ t.length := by
  unfold lastsL at h ⊢
  by_cases h0 : (findL (13 :: 10 :: t) [13, 10, 13, 10] 8194).2 = 0
  · rw [if_pos h0] at h ⊢
    obtain ⟨f1, f2, f3, f4⟩ := find_hit (by simp) h0
    simp only [List.length_cons, List.length_nil] at f1 f2
    split at h
    · rename_i hp
      rw [if_pos hp]
      exact ⟨by simp only; omega, by simp only; omega⟩
    · rename_i hp; exact absurd h hp
  · rw [if_neg h0] at h; exact absurd h h0

/-- the number makes no difference, if it is not reached -/
theorem decF_same : ∀ (k m : Nat) (r : List UInt8) (room : Nat), r.length < k → r.length < m → decF k r room = decF m r room := by
  intro k
  induction k with
  | zero => intro m r room h; omega
  | succ k ih =>
    intro m r room h hm
    obtain ⟨m, rfl⟩ : ∃ j, m = j + 1 := ⟨m - 1, by omega⟩
    unfold decF
    by_cases h1 : (headL r room).2.2 = 0
    · rw [if_pos h1, if_pos h1]
      obtain ⟨a1, a2, _⟩ := head_ok h1
      by_cases h2 : (headL r room).1 = 0
      · rw [if_pos h2, if_pos h2]
      · rw [if_neg h2, if_neg h2]
        by_cases h3 : (chunkL (r.drop (headL r room).2.1) (headL r room).1).2.2 = 0
        · rw [if_pos h3, if_pos h3]
          rw [ih m _ _ (by simp only [List.length_drop]; omega) (by simp only [List.length_drop]; omega)]
        · rw [if_neg h3, if_neg h3]
    · rw [if_neg h1, if_neg h1]
theorem decL_eq (r : List UInt8) (room : Nat) : decL r room = if (headL r room).2.2 = 0 then
      (if (headL r room).1 = 0 then behind [] (headL r room).2.1 (lastsD (r.drop (headL r room).2.1)) else behind [] (headL r room).2.1 (bytesD (r.drop (headL r room).2.1) (headL r room).1 room))
    else bad (headL r room).2.2 := by
  unfold decL
  rw [decF]
  by_cases h1 : (headL r room).2.2 = 0
  · rw [if_pos h1, if_pos h1]
    obtain ⟨a1, a2, _⟩ := head_ok h1
    by_cases h2 : (headL r room).1 = 0
    · rw [if_pos h2, if_pos h2]
    · rw [if_neg h2, if_neg h2]
      unfold bytesD decL
      by_cases h3 : (chunkL (r.drop (headL r room).2.1) (headL r room).1).2.2 = 0
      · rw [if_pos h3, if_pos h3]
        rw [decF_same r.length _ _ _ (by simp only [List.length_drop]; omega) (Nat.lt_succ_self _)]
      · rw [if_neg h3, if_neg h3]
  · rw [if_neg h1, if_neg h1]
/-- an error is all that there is -/
def plainD (d : Dec) : Prop := d.2.2.2 ≠ 0 → d = bad d.2.2.2
theorem plain_bad (e : Int) : plainD (bad e) := fun _ => rfl
theorem plain_behind (c : List UInt8) (k : Nat) (d : Dec) : plainD (behind c k d) := by
  intro h
  unfold behind at h ⊢
  split
  · rename_i h0; rw [if_pos h0] at h; exact absurd rfl h
  · rename_i h0; rfl
theorem plain_decL (r : List UInt8) (room : Nat) : plainD (decL r room) := by
  rw [decL_eq]
  split
  · split
    · exact plain_behind _ _ _
    · exact plain_behind _ _ _
  · exact plain_bad _
theorem plain_lastsD (t : List UInt8) : plainD (lastsD t) := by
  unfold lastsD
  split
  · intro h; exact absurd rfl h
  · exact plain_bad _
end Go.Proofs.YtgkjjmcjlobbpaaGreatDoor

/- Whole messages, plainly: where a head ends, its first line and its fields, the body behind it. Nothing of the program is read here. -/
namespace Go.Proofs.YtgkjjmcjlobbpaaGreatDoor
def endM : List UInt8 := [13, 10, 13, 10]
/-- where the head's end begins; the error, if none does -/
def headF (s : List UInt8) : Nat × Int := findL s [13, 10, 13, 10] 8192
def headN (s : List UInt8) : Nat := (headF s).1 + 4
def topM (s : List UInt8) : List UInt8 := s.take (headN s - 2)
def startM (s : List UInt8) : List UInt8 := (cutN (topM s)).1
def fieldM (s : List UInt8) : List UInt8 := (cutN (topM s)).2.1
def restM (s : List UInt8) : List UInt8 := s.drop (headN s)
/-- the body, its bytes, the error: by the kind of its end and a number -/
def bodyM (s : List UInt8) (f : Int × Int) (most : Int) : List UInt8 × Int × Int :=
  if f.1 = 1 then (if most < f.2 then ([], 0, 3) else if (s.length : Int) < f.2 then ([], 0, 6) else (s.take f.2.toNat, f.2, 0))
  else if f.1 = 2 then ((decodeL s most).1, ((decodeL s most).2.1 : Int), (decodeL s most).2.2.2)
  else if f.1 = 3 then (if most < (s.length : Int) then ([], 0, 3) else (s, (s.length : Int), 0))
  else ([], 0, 0)
/-- fields, body, bytes, error -/
abbrev Msg := List Fld × List UInt8 × Int × Int
def badM (e : Int) : Msg := ([], [], 0, e)
/-- behind the first line: the rest of a message, by what its fields say of its end -/
def behindM (fr : List Fld → Int × Int × Int) (most : Int) (s : List UInt8) : Msg :=
  if (parseL (fieldM s)).2 ≠ 0 then badM (parseL (fieldM s)).2
  else if (fr (parseL (fieldM s)).1).2.2 ≠ 0 then badM (fr (parseL (fieldM s)).1).2.2
  else if (bodyM (restM s) ((fr (parseL (fieldM s)).1).1, (fr (parseL (fieldM s)).1).2.1) most).2.2 ≠ 0 then badM (bodyM (restM s) ((fr (parseL (fieldM s)).1).1, (fr (parseL (fieldM s)).1).2.1) most).2.2
  else ((parseL (fieldM s)).1, (bodyM (restM s) ((fr (parseL (fieldM s)).1).1, (fr (parseL (fieldM s)).1).2.1) most).1, headN s + (bodyM (restM s) ((fr (parseL (fieldM s)).1).1, (fr (parseL (fieldM s)).1).2.1) most).2.1, 0)
def msgL (se : Int) (fr : List Fld → Int × Int × Int) (most : Int) (s : List UInt8) : Msg :=
  if (headF s).2 ≠ 0 then badM (headF s).2 else if se ≠ 0 then badM se else behindM fr most s
def askM (s : List UInt8) : Msg := msgL (reqE (startM s)) askR 65536 s
def tellM (s : List UInt8) (d : Bool) : Msg := msgL (staE (startM s)) (fun l => tellR l (staC (startM s)) d) 262144 s
/-- a request's first line, if there is no error -/
def mM (s : List UInt8) : List UInt8 := if (askM s).2.2.2 = 0 then reqM (startM s) else []
def tM (s : List UInt8) : List UInt8 := if (askM s).2.2.2 = 0 then reqT (startM s) else []
def nM (s : List UInt8) : Int := if (askM s).2.2.2 = 0 then reqN (startM s) else 0
def cM (s : List UInt8) (d : Bool) : Int := if (tellM s d).2.2.2 = 0 then staC (startM s) else 0
def rM (s : List UInt8) (d : Bool) : List UInt8 := if (tellM s d).2.2.2 = 0 then staR (startM s) else []
def oM (s : List UInt8) (d : Bool) : Int := if (tellM s d).2.2.2 = 0 then staN (startM s) else 0

theorem msg_plain (se : Int) (fr : List Fld → Int × Int × Int) (most : Int) (s : List UInt8) : (msgL se fr most s).2.2.2 ≠ 0 → msgL se fr most s = badM (msgL se fr most s).2.2.2 := by
  intro h
  unfold msgL behindM at h ⊢
  split
  · rfl
  · rename_i h1
    rw [if_neg h1] at h
    split
    · rfl
    · rename_i h2
      rw [if_neg h2] at h
      split
      · rfl
      · rename_i h3
        rw [if_neg h3] at h
        split
        · rfl
        · rename_i h4
          rw [if_neg h4] at h
          split
          · rfl
          · rename_i h5
            rw [if_neg h5] at h
            exact absurd rfl h
theorem headF_hit {s : List UInt8} (h : (headF s).2 = 0) : headN s ≤ 8192 ∧ headN s ≤ s.length ∧ 4 ≤ headN s ∧ Lib.occAt s [13, 10, 13, 10] (headF s).1 = true ∧ ∀ j, j < (headF s).1 → Lib.occAt s [13, 10, 13, 10] j = false := by
  obtain ⟨h1, h2, h3, h4⟩ := find_hit (mark := [13, 10, 13, 10]) (by simp) h
  exact ⟨h1, h2, by unfold headN; omega, h3, h4⟩
theorem topM_len {s : List UInt8} (h : (headF s).2 = 0) : (topM s).length = headN s - 2 ∧ (topM s).length ≤ 8190 := by
  obtain ⟨h1, h2, h3, _⟩ := headF_hit h
  have : (topM s).length = headN s - 2 := by unfold topM; rw [List.length_take]; omega
  exact ⟨this, by omega⟩
theorem startM_len {s : List UInt8} (h : (headF s).2 = 0) : (startM s).length ≤ 8190 ∧ (fieldM s).length ≤ 8190 := by
  have h1 := (topM_len h).2
  have h2 := cut_le (topM s) [13, 10]
  exact ⟨Nat.le_trans h2.1 h1, Nat.le_trans h2.2 h1⟩
theorem restM_len (s : List UInt8) : (restM s).length ≤ s.length := by unfold restM; simp
end Go.Proofs.YtgkjjmcjlobbpaaGreatDoor

/- Whole messages, plainly: what is written of a request and of a reply. Nothing of the program is read here. -/
namespace Go.Proofs.YtgkjjmcjlobbpaaGreatDoor
def lenN : List UInt8 := [67, 111, 110, 116, 101, 110, 116, 45, 76, 101, 110, 103, 116, 104]
def codN : List UInt8 := [84, 114, 97, 110, 115, 102, 101, 114, 45, 69, 110, 99, 111, 100, 105, 110, 103]
/-- the fields that are written -/
def writL (l : List Fld) (n : Nat) (tells : Bool) : List Fld := delL l [clN, teN] ++ (if tells then [(lenN, Lib.itoa n)] else [])
def headB (st : List UInt8) (L : List Fld) : List UInt8 := st ++ [13, 10] ++ putL L ++ [13, 10]
/-- a head: its bytes, the error -/
def headP (st : List UInt8) (l : List Fld) (n : Nat) (most : Int) (tells : Bool) : List UInt8 × Int :=
  if most < (n : Int) then ([], 3)
  else if checkL (writL l n tells) ≠ 0 then ([], checkL (writL l n tells))
  else if 8192 < (headB st (writL l n tells)).length then ([], 3) else (headB st (writL l n tells), 0)
def postL : List UInt8 := [80, 79, 83, 84]
def putN : List UInt8 := [80, 85, 84]
def patchL : List UInt8 := [80, 65, 84, 67, 72]
def tellQ (m b : List UInt8) : Bool := (m == postL || (m == putN || m == patchL)) || !b.isEmpty
/-- a request's bytes, the error -/
def putQ (m t : List UInt8) (n : Int) (l : List Fld) (b : List UInt8) : List UInt8 × Int :=
  if putRQ m t n ≠ 0 then ([], putRQ m t n)
  else if (headP (putRL m t n) l b.length 65536 (tellQ m b)).2 ≠ 0 then ([], (headP (putRL m t n) l b.length 65536 (tellQ m b)).2)
  else ((headP (putRL m t n) l b.length 65536 (tellQ m b)).1 ++ b, 0)
/-- a reply's -/
def putY (c : Int) (r : List UInt8) (n : Int) (l : List Fld) (b : List UInt8) (d : Bool) : List UInt8 × Int :=
  if putSQ c r n ≠ 0 then ([], putSQ c r n)
  else if (!b.isEmpty && bareB c) = true then ([], 2)
  else if (headP (putSL c r n) l b.length 262144 (!bareB c)).2 ≠ 0 then ([], (headP (putSL c r n) l b.length 262144 (!bareB c)).2)
  else if d then ((headP (putSL c r n) l b.length 262144 (!bareB c)).1, 0)
  else ((headP (putSL c r n) l b.length 262144 (!bareB c)).1 ++ b, 0)

theorem low_len : lower lenN = clN ∧ lower codN = teN := by decide
theorem del_names (l : List Fld) : delL l [lenN, codN] = delL l [clN, teN] := by
  unfold delL hasN sameN
  rw [show (fun f : Fld => !([lenN, codN].any fun x => lower x == lower f.1)) = fun f : Fld => !([clN, teN].any fun x => lower x == lower f.1) from ?_]
  funext f
  simp only [List.any_cons, List.any_nil, low_len.1, low_len.2]
  rw [show lower clN = clN from by decide, show lower teN = teN from by decide]
theorem del_len (l : List Fld) (L : List (List UInt8)) : (delL l L).length ≤ l.length := List.length_filter_le _ _
theorem writ_len (l : List Fld) (n : Nat) (t : Bool) : (writL l n t).length ≤ l.length + 1 := by
  unfold writL
  have := del_len l [clN, teN]
  cases t <;> simp <;> omega
theorem headB_len (st : List UInt8) (L : List Fld) : (headB st L).length = st.length + 2 + (putL L).length + 2 := by
  unfold headB; simp; omega
theorem headP_plain (st : List UInt8) (l : List Fld) (n : Nat) (most : Int) (t : Bool) : (headP st l n most t).2 ≠ 0 → (headP st l n most t).1 = [] := by
  unfold headP
  split
  · intro _; rfl
  · split
    · intro _; rfl
    · split
      · intro _; rfl
      · intro h; exact absurd rfl h
theorem headP_len (st : List UInt8) (l : List Fld) (n : Nat) (most : Int) (t : Bool) : (headP st l n most t).1.length ≤ 8192 := by
  unfold headP
  split
  · simp
  · split
    · simp
    · split
      · simp
      · simp only; omega
end Go.Proofs.YtgkjjmcjlobbpaaGreatDoor
