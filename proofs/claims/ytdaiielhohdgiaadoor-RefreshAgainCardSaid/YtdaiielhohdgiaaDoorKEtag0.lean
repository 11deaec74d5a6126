/- Entity tags, plainly: what a text is as one, by the program's steps and by the document's; which are the same; lists of them. Nothing of the program is read here. -/
import Derived.Test.YtdaiielhohdgiaaDoorKPlain
namespace Go.Proofs.YtdaiielhohdgiaaDoor

/-- may a byte stand in a tag -/
def tgI (n : Int) : Bool := decide (32 < n ∧ n ≠ 34 ∧ n ≠ 127)
def tgB (c : UInt8) : Bool := tgI (c.toNat : Int)
def wkE (l : List UInt8) : Bool := Lib.hasPrefix l [87, 47]
def bdE (l : List UInt8) : List UInt8 := Lib.trimPrefix l [87, 47]
def rsE (l : List UInt8) : List UInt8 := Lib.trimPrefix l [34]
def tgE (l : List UInt8) : List UInt8 := Lib.trimSuffix (rsE l) [34]
def qtE (l : List UInt8) : Bool := Lib.hasPrefix l [34] && (Lib.hasSuffix (rsE l) [34] && (tgE l).all tgB)
/-- is it an entity tag; its tag; is it weak; the error -/
def isE (l : List UInt8) : Bool := qtE (bdE l)
def tagE (l : List UInt8) : List UInt8 := if isE l then tgE (bdE l) else []
def weE (l : List UInt8) : Bool := isE l && wkE l
def erE (l : List UInt8) : Int := if isE l then 0 else 4
def weakE (a b : List UInt8) : Bool := isE a && (isE b && (tagE a == tagE b))
def strongE (a b : List UInt8) : Bool := weakE a b && (!weE a && !weE b)
/-- the list of tags that a text is; the error -/
def lsB (l : List UInt8) : Bool := decide (splitE l 44 = 0) && (!(splitL l 44).isEmpty && (splitL l 44).all isE)
def lsL (l : List UInt8) : List (List UInt8) := if lsB l then splitL l 44 else []
def lsE (l : List UInt8) : Int := if lsB l then 0 else 4

theorem pre1 (a : UInt8) (r : List UInt8) : Lib.hasPrefix (a :: r) [34] = (a == 34) := by
  unfold Lib.hasPrefix
  simp only [List.isPrefixOf, Bool.and_true]
  exact BEq.comm
theorem suf1 (m : List UInt8) (z : UInt8) : Lib.hasSuffix (m ++ [z]) [34] = (z == 34) := by
  unfold Lib.hasSuffix
  simp only [List.isSuffixOf, List.reverse_append, List.reverse_cons, List.reverse_nil, List.nil_append, List.cons_append, List.isPrefixOf, Bool.and_true]
  exact BEq.comm
theorem qtE_mk (a z : UInt8) (m : List UInt8) : qtE (a :: (m ++ [z])) = (a == 34 && (z == 34 && m.all tgB)) := by
  unfold qtE tgE rsE Lib.trimPrefix Lib.trimSuffix
  rw [pre1]
  cases ha : a == 34
  · rfl
  · simp only [if_true, List.length_cons, List.length_nil, List.drop_succ_cons, List.drop_zero, Bool.true_and]
    rw [suf1]
    cases hz : z == 34
    · rfl
    · simp
theorem tgE_mk (m : List UInt8) : tgE (34 :: (m ++ [34])) = m := by
  unfold tgE rsE Lib.trimPrefix Lib.trimSuffix
  rw [pre1]
  simp only [beq_self_eq_true, if_true, List.length_cons, List.length_nil, List.drop_succ_cons, List.drop_zero]
  rw [suf1]
  simp
theorem qtE_short {l : List UInt8} (h : l.length < 2) : qtE l = false := by
  match l, h with
  | [], _ => rfl
  | [a], _ =>
    unfold qtE rsE Lib.trimPrefix
    rw [pre1]
    cases ha : a == 34
    · rfl
    · rfl
theorem two_ends {l : List UInt8} (h : 2 ≤ l.length) : ∃ a m z, l = a :: (m ++ [z]) := by
  match l, h with
  | a :: b :: r, _ =>
    refine ⟨a, (b :: r).dropLast, (b :: r).getLast (by simp), ?_⟩
    rw [List.dropLast_concat_getLast]
/-- what the document asks of each byte -/
def okC (n k : Nat) (c : UInt8) : Bool := if k = 0 ∨ k + 1 = n then c == 34 else tgB c
theorem qtE_iff {l : List UInt8} (h : 2 ≤ l.length) : qtE l = true ↔ ∀ i (hi : i < l.length), okC l.length i l[i] = true := by
  obtain ⟨a, m, z, rfl⟩ := two_ends h
  rw [qtE_mk]
  have hlen : (a :: (m ++ [z])).length = m.length + 2 := by simp
  constructor
  · intro hq i hi
    simp only [Bool.and_eq_true, beq_iff_eq, List.all_eq_true] at hq
    obtain ⟨rfl, rfl, hm⟩ := hq
    unfold okC
    cases i with
    | zero => rw [if_pos (.inl rfl)]; rfl
    | succ i =>
      rw [List.getElem_cons_succ]
      by_cases he : i = m.length
      · subst he
        rw [if_pos (.inr (by rw [hlen]))]
        simp
      · have hi2 : i < m.length := by rw [hlen] at hi; omega
        rw [if_neg (by rw [hlen]; omega), List.getElem_append_left hi2]
        exact hm _ (List.getElem_mem hi2)
  · intro hq
    have h0 := hq 0 (by rw [hlen]; omega)
    have hz := hq (m.length + 1) (by rw [hlen]; omega)
    unfold okC at h0 hz
    rw [if_pos (.inl rfl)] at h0
    rw [if_pos (.inr (by rw [hlen]))] at hz
    simp only [List.getElem_cons_zero] at h0
    rw [List.getElem_cons_succ, List.getElem_append_right (Nat.le_refl _)] at hz
    simp only [Nat.sub_self, List.getElem_cons_zero] at hz
    rw [h0, hz]
    simp only [Bool.true_and, List.all_eq_true]
    intro x hx
    obtain ⟨i, hi, rfl⟩ := List.getElem_of_mem hx
    have hm := hq (i + 1) (by rw [hlen]; omega)
    unfold okC at hm
    rw [if_neg (by rw [hlen]; omega), List.getElem_cons_succ, List.getElem_append_left hi] at hm
    exact hm
theorem qtE_no {l : List UInt8} (h : 2 ≤ l.length) {k : Nat} (hk : k < l.length) (hn : okC l.length k l[k] = false) : qtE l = false := by
  rw [← Bool.not_eq_true, qtE_iff h]
  intro H
  have := H k hk
  rw [hn] at this
  cases this
theorem tgE_mid {l : List UInt8} (h : 2 ≤ l.length) (hq : qtE l = true) : (l.drop 1).take (l.length - 1 - 1) = tgE l := by
  obtain ⟨a, m, z, rfl⟩ := two_ends h
  rw [qtE_mk] at hq
  simp only [Bool.and_eq_true, beq_iff_eq] at hq
  obtain ⟨rfl, rfl, -⟩ := hq
  rw [tgE_mk]
  simp
theorem tgE_len (l : List UInt8) : (tgE l).length ≤ l.length := by
  unfold tgE rsE Lib.trimPrefix Lib.trimSuffix
  split <;> split <;> simp <;> omega
theorem bdE_len (l : List UInt8) : (bdE l).length ≤ l.length := by
  unfold bdE Lib.trimPrefix
  split <;> simp
theorem tagE_len (l : List UInt8) : (tagE l).length ≤ l.length := by
  unfold tagE
  have h1 := tgE_len (bdE l); have h2 := bdE_len l
  split
  · omega
  · simp
/-- the document's test for W/ ahead -/
theorem wkE_iff (l : List UInt8) : wkE l = true ↔ ∃ r, l = 87 :: 47 :: r := by
  unfold wkE Lib.hasPrefix
  match l with
  | [] => simp [List.isPrefixOf]
  | [a] => simp [List.isPrefixOf]
  | a :: b :: r =>
    simp only [List.isPrefixOf, Bool.and_true, Bool.and_eq_true, beq_iff_eq]
    constructor
    · rintro ⟨h1, h2⟩; exact ⟨r, by rw [← h1, ← h2]⟩
    · rintro ⟨s, hs⟩
      simp only [List.cons.injEq] at hs
      exact ⟨hs.1.symm, hs.2.1.symm⟩
theorem bdE_wk (r : List UInt8) : bdE (87 :: 47 :: r) = r := rfl
theorem bdE_no {l : List UInt8} (h : wkE l = false) : bdE l = l := by
  unfold wkE at h
  unfold bdE Lib.trimPrefix
  rw [h]; rfl
theorem wkE_no {l : List UInt8} (h : ∀ (h0 : 0 < l.length) (h1 : 1 < l.length), ¬ (l[0] = 87 ∧ l[1] = 47)) : wkE l = false := by
  rw [← Bool.not_eq_true, wkE_iff]
  rintro ⟨r, rfl⟩
  exact h (by simp) (by simp) ⟨rfl, rfl⟩

theorem weakE_comm (a b : List UInt8) : weakE a b = weakE b a := by
  unfold weakE
  rw [show (tagE a == tagE b) = (tagE b == tagE a) from BEq.comm]
  cases isE a <;> cases isE b <;> rfl
theorem strongE_comm (a b : List UInt8) : strongE a b = strongE b a := by
  unfold strongE
  rw [weakE_comm a b]
  cases weE a <;> cases weE b <;> rfl
theorem weakE_trans {a b c : List UInt8} (h1 : weakE a b = true) (h2 : weakE b c = true) : weakE a c = true := by
  unfold weakE at *
  simp only [Bool.and_eq_true, beq_iff_eq] at *
  exact ⟨h1.1, h2.2.1, h1.2.2.trans h2.2.2⟩
theorem strongE_trans {a b c : List UInt8} (h1 : strongE a b = true) (h2 : strongE b c = true) : strongE a c = true := by
  unfold strongE at *
  simp only [Bool.and_eq_true] at *
  exact ⟨weakE_trans h1.1 h2.1, h1.2.1, h2.2.2⟩
theorem strongE_weak {a b : List UInt8} (h : strongE a b = true) : weakE a b = true := by
  unfold strongE at h
  simp only [Bool.and_eq_true] at h
  exact h.1
theorem weakE_self (a : List UInt8) : weakE a a = isE a := by
  unfold weakE
  rw [beq_self_eq_true]
  cases isE a <;> rfl
theorem strongE_self {a : List UInt8} (h : isE a = true) : strongE a a = !weE a := by
  unfold strongE
  rw [weakE_self, h]
  cases weE a <;> rfl
/-- W/ ahead of what is not weak -/
theorem ahead_wk {a : List UInt8} (h : isE a = true) (hw : weE a = false) : isE (87 :: 47 :: a) = true ∧ weE (87 :: 47 :: a) = true ∧ tagE (87 :: 47 :: a) = tagE a := by
  have hk : wkE a = false := by unfold weE at hw; rw [h] at hw; exact hw
  have hi : isE (87 :: 47 :: a) = true := by
    unfold isE at h ⊢
    rw [bdE_wk]
    rw [bdE_no hk] at h
    exact h
  refine ⟨hi, ?_, ?_⟩
  · unfold weE; rw [hi]; rfl
  · unfold tagE
    rw [hi, h, bdE_wk, bdE_no hk]
theorem ahead_weak {a : List UInt8} (h : isE a = true) (hw : weE a = false) (b : List UInt8) : weakE (87 :: 47 :: a) b = weakE a b := by
  obtain ⟨h1, -, h3⟩ := ahead_wk h hw
  unfold weakE
  rw [h1, h, h3]
theorem ahead_strong {a : List UInt8} (h : isE a = true) (hw : weE a = false) : strongE (87 :: 47 :: a) a = false := by
  obtain ⟨-, h2, -⟩ := ahead_wk h hw
  unfold strongE
  rw [h2]
  simp
end Go.Proofs.YtdaiielhohdgiaaDoor
