/- Lists that are cut at a byte outside quotes: plain lists. -/
import Derived.Test.YtjbkjmceabilaaaText2
namespace Go.Proofs.Ytjbkjmceabilaaa
/-- how a byte turns what is open: outside; within; behind a byte 92 within -/
def qnext (o e : Bool) (c : UInt8) : Bool × Bool :=
  if o then (if e then (true, false) else if (c.toNat : Int) = 92 then (true, true) else if (c.toNat : Int) = 34 then (false, false) else (true, false))
  else if (c.toNat : Int) = 34 then (true, false) else (false, false)
def addP (acc : List (List UInt8)) (cur : List UInt8) : List (List UInt8) := if (trim cur).isEmpty then acc else acc ++ [trim cur]
/-- the pieces of a list: what is left of it, what is open, the piece so far, the pieces so far -/
def cutAt (sep : UInt8) : List UInt8 → Bool → Bool → List UInt8 → List (List UInt8) → Option (List (List UInt8))
  | [], o, _, cur, acc => if o then none else some (addP acc cur)
  | c :: r, o, e, cur, acc =>
    if o = false ∧ c = sep then cutAt sep r false false [] (addP acc cur)
    else cutAt sep r (qnext o e c).1 (qnext o e c).2 (cur ++ [c]) acc
def badSep (sep : UInt8) : Bool := sep == 34 || sep == 92
def splitL (l : List UInt8) (sep : UInt8) : List (List UInt8) :=
  if badSep sep then [] else match cutAt sep l false false [] [] with
  | none => []
  | some a => if 64 < a.length then [] else a
def splitE (l : List UInt8) (sep : UInt8) : Int :=
  if badSep sep then 2 else match cutAt sep l false false [] [] with
  | none => 4
  | some a => if 64 < a.length then 3 else 0
theorem addL_take (A : List (List UInt8)) (cur : List UInt8) : (if (trim cur).isEmpty then A.take 65 else if (A.take 65).length ≤ 64 then A.take 65 ++ [trim cur] else A.take 65) = (addP A cur).take 65 := by
  unfold addP
  cases h : (trim cur).isEmpty
  · simp only [Bool.false_eq_true, if_false]
    by_cases hl : A.length ≤ 64
    · rw [List.take_of_length_le (by omega), if_pos hl, List.take_of_length_le (by simp; omega)]
    · rw [if_neg (by rw [List.length_take]; omega), List.take_append_of_le_length (by omega)]
  · simp
/-- one byte on: within or at a mark, or outside and no separator -/
theorem cut_step {sep : UInt8} {s : ByteArray} {k f : Nat} {o e : Bool} {A : List (List UInt8)} (h : k < s.size) (hf : f ≤ k) (hn : ¬ (o = false ∧ s[k] = sep)) :
    cutAt sep (s.data.toList.drop k) o e ((s.data.toList.drop f).take (k - f)) A = cutAt sep (s.data.toList.drop (k + 1)) (qnext o e s[k]).1 (qnext o e s[k]).2 ((s.data.toList.drop f).take (k + 1 - f)) A := by
  rw [drop_at h]
  have h1 : k - f < (s.data.toList.drop f).length := by simp; omega
  have h2 : (s.data.toList.drop f).take (k + 1 - f) = (s.data.toList.drop f).take (k - f) ++ [s[k]] := by
    rw [show k + 1 - f = (k - f) + 1 from by omega, List.take_succ_eq_append_getElem h1]
    congr 1
    simp [ByteArray.getElem_eq_getElem_data, show f + (k - f) = k from by omega]
  rw [h2]
  rw [cutAt, if_neg hn]
theorem cut_sep {sep : UInt8} {s : ByteArray} {k f : Nat} {e : Bool} {A : List (List UInt8)} (h : k < s.size) (hs : s[k] = sep) :
    cutAt sep (s.data.toList.drop k) false e ((s.data.toList.drop f).take (k - f)) A = cutAt sep (s.data.toList.drop (k + 1)) false false ((s.data.toList.drop (k + 1)).take (k + 1 - (k + 1))) (addP A ((s.data.toList.drop f).take (k - f))) := by
  rw [drop_at h, cutAt, if_pos ⟨rfl, hs⟩]
  simp
theorem cut_end {sep : UInt8} {s : ByteArray} {k f : Nat} {o e : Bool} {A : List (List UInt8)} (h : ¬ k < s.size) :
    cutAt sep (s.data.toList.drop k) o e ((s.data.toList.drop f).take (k - f)) A = if o then none else some (addP A ((s.data.toList.drop f).take (s.size - f))) := by
  rw [drop_nil (by omega), cutAt, List.take_of_length_le (by simp; omega), List.take_of_length_le (l := s.data.toList.drop f) (by simp)]
theorem qn_out (e : Bool) {c : UInt8} (h : ((c.toNat : Int) != 34) = true) : qnext false e c = (false, false) := by
  have := bne_iff_ne.1 h; simp [qnext, this]
theorem qn_open (e : Bool) {c : UInt8} (h : ((c.toNat : Int) != 34) = false) : qnext false e c = (true, false) := by
  rw [bne_eq_false_iff_eq] at h; simp [qnext, h]
theorem qn_esc (c : UInt8) : qnext true true c = (true, false) := rfl
theorem qn_back {c : UInt8} (h : ((c.toNat : Int) == 92) = true) : qnext true false c = (true, true) := by
  have := beq_iff_eq.1 h; simp [qnext, this]
theorem qn_close {c : UInt8} (h : ((c.toNat : Int) == 92) = false) (h2 : ((c.toNat : Int) == 34) = true) : qnext true false c = (false, false) := by
  have a := beq_eq_false_iff_ne.1 h; have b := beq_iff_eq.1 h2; simp [qnext, b]
theorem qn_held {c : UInt8} (h : ((c.toNat : Int) == 92) = false) (h2 : ((c.toNat : Int) == 34) = false) : qnext true false c = (true, false) := by
  have a := beq_eq_false_iff_ne.1 h; have b := beq_eq_false_iff_ne.1 h2; simp [qnext, a, b]
end Go.Proofs.Ytjbkjmceabilaaa
