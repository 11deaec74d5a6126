/- Plain lists of bytes, more: what is read of a text in quotes, byte by byte. -/
import Derived.Test.YtjbkjmceabilaaaText0
namespace Go.Proofs.Ytjbkjmceabilaaa
theorem cat_data (a b : ByteArray) : (a ++ b).data.toList = a.data.toList ++ b.data.toList := by simp [ByteArray.data_append]
theorem quote_size {t s : ByteArray} {k : Nat} (h : t.data.toList = 34 :: quoteB (s.data.toList.take k)) : t.size ≤ 2 * k + 1 := by
  rw [size_len, h, List.length_cons]
  have h1 := quoteB_len (s.data.toList.take k)
  have h2 : (s.data.toList.take k).length ≤ k := List.length_take_le _ _
  omega
theorem one_at (s : ByteArray) (k : Nat) (h : k < s.size) : (s.data.toList.drop k).take (k + 1 - k) = [s[k]] := by
  rw [drop_at h, show k + 1 - k = 1 from by omega]; rfl
theorem unq_start (s : ByteArray) : (s.size = 0 ∧ unquote s.data.toList = none) ∨ (∃ h : 0 < s.size, ¬ (s[0].toNat : Int) = 34 ∧ unquote s.data.toList = none) ∨
    (∃ h : 0 < s.size, (s[0].toNat : Int) = 34 ∧ unquote s.data.toList = unq (s.data.toList.drop 1) false []) := by
  rcases Nat.eq_zero_or_pos s.size with h | h
  · exact .inl ⟨h, by rw [nil_of h]; rfl⟩
  · by_cases hc : (s[0].toNat : Int) = 34
    · exact .inr (.inr ⟨h, hc, (congrArg unquote (cons_of h)).trans (if_pos hc)⟩)
    · exact .inr (.inl ⟨h, hc, (congrArg unquote (cons_of h)).trans (if_neg hc)⟩)
theorem drop_nil {s : ByteArray} {k : Nat} (h : s.size ≤ k) : s.data.toList.drop k = [] := List.drop_of_length_le h
theorem unq_byte (s : ByteArray) (k : Nat) (h : k < s.size) (acc : List UInt8) :
    (((s[k].toNat : Int) == 34) = true ∧ k + 1 = s.size ∧ unq (s.data.toList.drop k) false acc = some acc) ∨
    (((s[k].toNat : Int) == 34) = true ∧ ¬ k + 1 = s.size ∧ unq (s.data.toList.drop k) false acc = none) ∨
    (((s[k].toNat : Int) == 34) = false ∧ ((s[k].toNat : Int) == 92) = true ∧ k + 1 = s.size ∧ unq (s.data.toList.drop k) false acc = none) ∨
    (((s[k].toNat : Int) == 34) = false ∧ ((s[k].toNat : Int) == 92) = true ∧ (∃ h2 : k + 1 < s.size, mayI (s[k + 1].toNat : Int) = false) ∧ unq (s.data.toList.drop k) false acc = none) ∨
    (((s[k].toNat : Int) == 34) = false ∧ ((s[k].toNat : Int) == 92) = true ∧ ∃ h2 : k + 1 < s.size, mayI (s[k + 1].toNat : Int) = true ∧ unq (s.data.toList.drop k) false acc = unq (s.data.toList.drop (k + 2)) false (acc ++ [s[k + 1]])) ∨
    (((s[k].toNat : Int) == 34) = false ∧ ((s[k].toNat : Int) == 92) = false ∧ mayI (s[k].toNat : Int) = false ∧ unq (s.data.toList.drop k) false acc = none) ∨
    (((s[k].toNat : Int) == 34) = false ∧ ((s[k].toNat : Int) == 92) = false ∧ mayI (s[k].toNat : Int) = true ∧ unq (s.data.toList.drop k) false acc = unq (s.data.toList.drop (k + 1)) false (acc ++ [s[k]])) := by
  rw [drop_at h]
  by_cases h1 : (s[k].toNat : Int) = 34
  · have h1' : ((s[k].toNat : Int) == 34) = true := by simpa using h1
    by_cases h2 : k + 1 = s.size
    · exact .inl ⟨h1', h2, by rw [drop_nil (by omega)]; simp [unq, h1]⟩
    · refine .inr (.inl ⟨h1', h2, ?_⟩)
      have h3 : k + 1 < s.size := by omega
      rw [drop_at h3]; simp [unq, h1]
  · have h1' : ((s[k].toNat : Int) == 34) = false := by simpa using h1
    by_cases h2 : (s[k].toNat : Int) = 92
    · have h2' : ((s[k].toNat : Int) == 92) = true := by simpa using h2
      rcases Nat.lt_or_ge (k + 1) s.size with h3 | h3
      · rw [drop_at h3]
        cases hm : mayI (s[k + 1].toNat : Int)
        · exact .inr (.inr (.inr (.inl ⟨h1', h2', ⟨h3, hm⟩, by simp [unq, h2, mayB, hm]⟩)))
        · exact .inr (.inr (.inr (.inr (.inl ⟨h1', h2', h3, hm, by simp [unq, h2, mayB, hm]⟩))))
      · exact .inr (.inr (.inl ⟨h1', h2', by omega, by rw [drop_nil h3]; simp [unq, h2]⟩))
    · have h2' : ((s[k].toNat : Int) == 92) = false := by simpa using h2
      cases hm : mayI (s[k].toNat : Int)
      · exact .inr (.inr (.inr (.inr (.inr (.inl ⟨h1', h2', rfl, by simp [unq, h1, h2, mayB, hm]⟩)))))
      · exact .inr (.inr (.inr (.inr (.inr (.inr ⟨h1', h2', rfl, by simp [unq, h1, h2, mayB, hm]⟩)))))
theorem unq_in (s : ByteArray) (k : Nat) (h : k < s.size) (acc : List UInt8) :
    (((s[k].toNat : Int) == 92) = false ∧ ((s[k].toNat : Int) == 34) = true ∧ mayI (s[k].toNat : Int) = true ∧ s.size ≤ k + 1 ∧ unq (s.data.toList.drop k) false acc = some acc) ∨
    (((s[k].toNat : Int) == 92) = false ∧ ((s[k].toNat : Int) == 34) = true ∧ k + 1 < s.size ∧ unq (s.data.toList.drop k) false acc = none) ∨
    (((s[k].toNat : Int) == 92) = true ∧ mayI (s[k].toNat : Int) = true ∧ unq (s.data.toList.drop k) false acc = unq (s.data.toList.drop (k + 1)) true acc) ∨
    (((s[k].toNat : Int) == 92) = false ∧ ((s[k].toNat : Int) == 34) = false ∧ mayI (s[k].toNat : Int) = false ∧ unq (s.data.toList.drop k) false acc = none) ∨
    (((s[k].toNat : Int) == 92) = false ∧ ((s[k].toNat : Int) == 34) = false ∧ mayI (s[k].toNat : Int) = true ∧ unq (s.data.toList.drop k) false acc = unq (s.data.toList.drop (k + 1)) false (acc ++ [s[k]])) := by
  rw [drop_at h]
  by_cases h1 : (s[k].toNat : Int) = 34
  · have h1' : ((s[k].toNat : Int) == 34) = true := by simpa using h1
    have h2' : ((s[k].toNat : Int) == 92) = false := by rw [h1]; rfl
    rcases Nat.lt_or_ge (k + 1) s.size with h3 | h3
    · exact .inr (.inl ⟨h2', h1', h3, by rw [drop_at h3]; simp [unq, h1]⟩)
    · exact .inl ⟨h2', h1', by rw [h1]; rfl, h3, by rw [drop_nil h3]; simp [unq, h1]⟩
  · have h1' : ((s[k].toNat : Int) == 34) = false := by simpa using h1
    by_cases h2 : (s[k].toNat : Int) = 92
    · have h2' : ((s[k].toNat : Int) == 92) = true := by simpa using h2
      exact .inr (.inr (.inl ⟨h2', by rw [h2]; rfl, by simp [unq, h2]⟩))
    · have h2' : ((s[k].toNat : Int) == 92) = false := by simpa using h2
      cases hm : mayI (s[k].toNat : Int)
      · exact .inr (.inr (.inr (.inl ⟨h2', h1', rfl, by simp [unq, h1, h2, mayB, hm]⟩)))
      · exact .inr (.inr (.inr (.inr ⟨h2', h1', rfl, by simp [unq, h1, h2, mayB, hm]⟩)))
theorem unq_esc (s : ByteArray) (k : Nat) (h : k < s.size) (acc : List UInt8) :
    (mayI (s[k].toNat : Int) = false ∧ unq (s.data.toList.drop k) true acc = none) ∨
    (mayI (s[k].toNat : Int) = true ∧ unq (s.data.toList.drop k) true acc = unq (s.data.toList.drop (k + 1)) false (acc ++ [s[k]])) := by
  rw [drop_at h]
  cases hm : mayI (s[k].toNat : Int)
  · exact .inl ⟨rfl, by simp [unq, mayB, hm]⟩
  · exact .inr ⟨rfl, by simp [unq, mayB, hm]⟩
theorem unq_first (s : ByteArray) (h : 0 < s.size) :
    (((s[0].toNat : Int) != 34) = true ∧ unquote s.data.toList = none) ∨
    (((s[0].toNat : Int) != 34) = false ∧ mayI (s[0].toNat : Int) = true ∧ unquote s.data.toList = unq (s.data.toList.drop 1) false []) := by
  rcases unq_start s with ⟨h0, _⟩ | ⟨_, hc, hu⟩ | ⟨_, hc, hu⟩
  · omega
  · exact .inl ⟨bne_iff_ne.2 hc, hu⟩
  · exact .inr ⟨by rw [bne_eq_false_iff_eq]; exact hc, by rw [hc]; rfl, hu⟩
theorem unq_quote (l : List UInt8) (h : l.all mayB = true) : ∀ acc, unq (quoteB l ++ [34]) false acc = some (acc ++ l) := by
  induction l with
  | nil => intro acc; simp [quoteB, unq]
  | cons c l ih =>
    intro acc
    simp only [List.all_cons, Bool.and_eq_true] at h
    have hq : quoteB (c :: l) = (if (c.toNat : Int) = 34 ∨ (c.toNat : Int) = 92 then [92, c] else [c]) ++ quoteB l := by simp [quoteB]
    rw [hq]
    by_cases h1 : (c.toNat : Int) = 34 ∨ (c.toNat : Int) = 92
    · rw [if_pos h1]
      show unq (92 :: c :: (quoteB l ++ [34])) false acc = _
      simp only [unq, h.1, if_true]
      rw [if_neg (by decide), if_pos (by decide), ih h.2]
      simp
    · rw [if_neg h1]
      show unq (c :: (quoteB l ++ [34])) false acc = _
      simp only [unq, h.1, if_true]
      rw [if_neg (fun e => h1 (.inl e)), if_neg (fun e => h1 (.inr e)), ih h.2]
      simp
theorem unquote_quote (l : List UInt8) (h : l.all mayB = true) : unquote (quoteS l) = some l := by
  rw [quoteS, if_pos h]
  show unquote (34 :: (quoteB l ++ [34])) = _
  rw [unquote, if_pos (by decide), unq_quote l h]
  simp
theorem quoteS_len (l : List UInt8) : (quoteS l).length ≤ 2 * l.length + 2 := by
  unfold quoteS
  have := quoteB_len l
  split <;> simp
  omega
theorem bad_byte {n : Int} (h : mayI n = false) : (n < 32 ∧ (n != 9) = true) ∨ (¬ n < 32 ∧ (n == 127) = true) := by
  unfold mayI at h
  simp only [decide_eq_false_iff_not] at h
  by_cases h1 : n < 32
  · exact .inl ⟨h1, bne_iff_ne.2 (by omega)⟩
  · exact .inr ⟨h1, beq_iff_eq.2 (by omega)⟩
theorem good_byte {n : Int} (h : mayI n = true) : (n < 32 ∧ (n != 9) = false ∧ (n == 127) = false) ∨ (¬ n < 32 ∧ (n == 127) = false) := by
  unfold mayI at h
  simp only [decide_eq_true_iff] at h
  by_cases h1 : n < 32
  · exact .inl ⟨h1, by rw [bne_eq_false_iff_eq]; omega, beq_eq_false_iff_ne.2 (by omega)⟩
  · exact .inr ⟨h1, beq_eq_false_iff_ne.2 (by omega)⟩
end Go.Proofs.Ytjbkjmceabilaaa
