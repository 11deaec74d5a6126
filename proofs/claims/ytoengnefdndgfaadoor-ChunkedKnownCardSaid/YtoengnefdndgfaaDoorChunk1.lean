/- A body as chunks, plainly. Nothing of the program is read here. -/
import Derived.Test.YtoengnefdndgfaaDoorChunkF
import Derived.Test.YtoengnefdndgfaaDoorChunkI
namespace Go.Proofs.YtoengnefdndgfaaDoor
theorem hexL_len : ∀ (k n : Nat), n < 16 ^ (k + 1) → (hexL n).length ≤ k + 1 := by
  intro k
  induction k with
  | zero => intro n h; rw [hexL_small (by simpa using h)]; simp
  | succ k ih =>
    intro n h
    by_cases h16 : n < 16
    · rw [hexL_small h16]; simp
    · rw [hexL_step h16, List.length_append]
      have := ih (n / 16) (Nat.div_lt_of_lt_mul (by rw [Nat.pow_succ] at h; rw [Nat.mul_comm]; exact h))
      simp only [List.length_cons, List.length_nil]
      omega
theorem hexL_len8 {n : Nat} (h : n < 4294967296) : (hexL n).length ≤ 8 := hexL_len 7 n (Nat.lt_of_lt_of_le h (by decide))
def chunkT (c : List UInt8) : List UInt8 := hexL c.length ++ [13, 10] ++ c ++ [13, 10]
theorem chunkT_len {c : List UInt8} (h : c.length < 4294967296) : (chunkT c).length ≤ c.length + 12 := by
  unfold chunkT
  have := hexL_len8 h
  simp only [List.length_append, List.length_cons, List.length_nil]
  omega
def useL (l : List Int) (whole : Int) : List Int := if posL l = [] then [whole] else posL l
def szAt (l : List Int) (k : Nat) : Nat := (l.getD (k % l.length) 0).toNat
def cutF : Nat → List Int → Nat → List UInt8 → List (List UInt8)
  | 0, _, _, _ => []
  | f + 1, l, k, b => if b = [] then [] else b.take (szAt l k) :: cutF f l (k + 1) (b.drop (szAt l k))
/-- may sizes be cycled through -/
def okS (l : List Int) : Prop := l ≠ [] ∧ ∀ n ∈ l, 0 < n
theorem useL_ne (l : List Int) (whole : Int) : useL l whole ≠ [] := by
  unfold useL; split
  · simp
  · assumption
theorem useL_ok (l : List Int) {whole : Int} (h : 0 < whole) : okS (useL l whole) := by
  refine ⟨useL_ne l whole, ?_⟩
  unfold useL; split
  · simpa using h
  · intro n hn
    have := (List.mem_filter.1 hn).2
    simpa using this
theorem sz_pos {l : List Int} (h : okS l) (k : Nat) : 0 < szAt l k := by
  have hl : 0 < l.length := List.length_pos_iff.2 h.1
  have hm : k % l.length < l.length := Nat.mod_lt _ hl
  unfold szAt
  rw [List.getD_eq_getElem?_getD, List.getElem?_eq_getElem hm, Option.getD_some]
  have := h.2 _ (List.getElem_mem hm)
  omega
theorem cutF_same {l : List Int} (h : okS l) : ∀ (f g k : Nat) (b : List UInt8), b.length ≤ f → b.length ≤ g → cutF f l k b = cutF g l k b := by
  intro f
  induction f with
  | zero =>
    intro g k b hf hg
    have : b = [] := List.eq_nil_of_length_eq_zero (by omega)
    subst this
    cases g <;> simp [cutF]
  | succ f ih =>
    intro g k b hf hg
    by_cases hb : b = []
    · subst hb
      cases g <;> simp [cutF]
    · have h0 : 0 < b.length := List.length_pos_iff.2 hb
      obtain ⟨g, rfl⟩ : ∃ j, g = j + 1 := ⟨g - 1, by omega⟩
      have hs := sz_pos h k
      unfold cutF
      rw [if_neg hb, if_neg hb, ih g (k + 1) (b.drop (szAt l k)) (by rw [List.length_drop]; omega) (by rw [List.length_drop]; omega)]
def lastT : List UInt8 := [48, 13, 10, 13, 10]
/-- what is still to be written -/
def tailE (l : List Int) (k : Nat) (b : List UInt8) : List UInt8 := (cutF b.length l k b).flatMap chunkT ++ lastT
theorem tailE_nil (l : List Int) (k : Nat) : tailE l k [] = lastT := rfl
theorem tailE_step {l : List Int} (h : okS l) (k : Nat) {b : List UInt8} (hb : b ≠ []) : tailE l k b = chunkT (b.take (szAt l k)) ++ tailE l (k + 1) (b.drop (szAt l k)) := by
  have h0 : 0 < b.length := List.length_pos_iff.2 hb
  have hs := sz_pos h k
  unfold tailE
  rw [cutF_same h b.length (b.length - 1 + 1) k b (Nat.le_refl _) (by omega), cutF, if_neg hb, List.flatMap_cons, List.append_assoc,
    cutF_same h (b.length - 1) (b.drop (szAt l k)).length (k + 1) _ (by rw [List.length_drop]; omega) (Nat.le_refl _)]
def encodeL (body : List UInt8) (sizes : List Int) : List UInt8 := tailE (useL sizes body.length) 0 body
/-- the size that a turn takes, no more than is left -/
theorem sz_min {l : List Int} (h : okS l) (k : Nat) (b : List UInt8) : ∃ m : Nat, min ((l.getD (k % l.length) 0)) (b.length : Int) = (m : Int) ∧ m ≤ b.length ∧ b.take (szAt l k) = b.take m ∧ b.drop (szAt l k) = b.drop m ∧ (b ≠ [] → 0 < m) := by
  have hs := sz_pos h k
  unfold szAt at *
  generalize l.getD (k % l.length) 0 = a at *
  by_cases hm : a.toNat ≤ b.length
  · exact ⟨a.toNat, by omega, hm, rfl, rfl, fun _ => hs⟩
  · refine ⟨b.length, by omega, Nat.le_refl _, ?_, ?_, fun hb => List.length_pos_iff.2 hb⟩
    · rw [List.take_of_length_le (by omega), List.take_length]
    · rw [List.drop_of_length_le (by omega), List.drop_length]
end Go.Proofs.YtoengnefdndgfaaDoor
