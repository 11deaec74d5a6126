/- What a line is as a field, what a text is as fields, by the document. -/
import Derived.Test.YtilaalfehnngcaaDoorFieldsU
namespace Go.Proofs.YtilaalfehnngcaaDoor
open Go.RowKit

/-- the field and the reason by the document, that looks at the line's length first -/
def roneE (s : List UInt8) : Int := if 2048 < s.length then 3 else oneE s
def roneR (s : List UInt8) : Fld := if roneE s = 0 then oneF s else ([], [])
theorem roneR_cases (s : List UInt8) : (roneE s = 0 → roneR s = oneF s) ∧ (¬ roneE s = 0 → roneR s = ([], [])) := by
  unfold roneR
  exact ⟨fun h => if_pos h, fun h => if_neg h⟩
/-- no colon so far -/
def noCol (s : ByteArray) (k : Nat) : Prop := ∀ j (hj : j < k) (hk : k ≤ s.size), ¬ s[j] = 58
theorem noCol_next {s : ByteArray} {k : Nat} (h : noCol s k) (hk : k < s.size) (hc : ¬ s[k] = 58) : noCol s (k + 1) := fun j hj hk2 => by
  rcases Nat.lt_or_eq_of_le (Nat.le_of_lt_succ hj) with h1 | h1
  · exact h j h1 (by omega)
  · subst h1; exact hc
theorem at_list (s : ByteArray) (k : Nat) (h : k < s.size) : s.data.toList[k]? = some s[k] := by
  have h2 : k < s.data.toList.length := h
  rw [List.getElem?_eq_getElem h2]; rfl
theorem noCol_occ {s : ByteArray} {k : Nat} (h : noCol s k) (hk : k ≤ s.size) : ∀ j, j < k → Lib.occAt s.data.toList [58] j = false := fun j hj => by
  cases ho : Lib.occAt s.data.toList [58] j
  · rfl
  · have h1 := (occ_one _ _ _).1 ho
    rw [at_list s j (by omega)] at h1
    exact absurd (Option.some.inj h1) (h j hj hk)
theorem cut_colon {s : ByteArray} {k : Nat} (h : noCol s k) (hk : k < s.size) (hc : s[k] = 58) : Lib.cut s.data.toList [58] = (s.data.toList.take k, s.data.toList.drop (k + 1), true) :=
  cut_hit (by have := size_len s; omega) ((occ_one _ _ _).2 (by rw [at_list s k hk, hc])) (noCol_occ h (by omega))
theorem cut_nocolon {s : ByteArray} (h : noCol s s.size) : Lib.cut s.data.toList [58] = (s.data.toList, [], false) :=
  cut_miss fun j hj => by
    rcases Nat.lt_or_eq_of_le hj with h1 | h1
    · exact noCol_occ h (Nat.le_refl _) j h1
    · cases ho : Lib.occAt s.data.toList [58] j
      · rfl
      · have h2 := (occ_one _ _ _).1 ho
        rw [List.getElem?_eq_none (by omega)] at h2; cases h2


/-! ### the document's Parse -/
/-- the document's reader at byte i: what stands from 'from' on has no end of a line ahead of i -/
def noEnd (s : ByteArray) (f i : Nat) : Prop := ∀ j, f ≤ j → j < i → ¬ (s.data.toList[j]? = some 13 ∧ s.data.toList[j + 1]? = some 10)
theorem noEnd_occ {s : ByteArray} {f i : Nat} (h : noEnd s f i) : ∀ j, j < i - f → Lib.occAt (s.data.toList.drop f) [13, 10] j = false := fun j hj => by
  cases ho : Lib.occAt (s.data.toList.drop f) [13, 10] j
  · rfl
  · obtain ⟨h1, h2⟩ := (occ_two _ _ _ _).1 ho
    rw [List.getElem?_drop] at h1 h2
    exact absurd ⟨h1, by rw [show f + j + 1 = f + (j + 1) from by omega]; exact h2⟩ (h (f + j) (by omega) (by omega))
theorem cut_line {s : ByteArray} {f i : Nat} (h : noEnd s f i) (hf : f ≤ i) (hi : i + 1 < s.size) (h1 : s[i] = 13) (h2 : s[i + 1] = 10) :
    cutN (s.data.toList.drop f) = ((s.data.toList.drop f).take (i - f), s.data.toList.drop (i + 2), true) := by
  have hz := size_len s
  unfold cutN
  rw [cut_hit (i := i - f) (by rw [List.length_drop]; omega) ((occ_two _ _ _ _).2 ⟨by rw [List.getElem?_drop, show f + (i - f) = i from by omega, at_list s i (by omega), h1], by rw [List.getElem?_drop, show f + (i - f + 1) = i + 1 from by omega, at_list s (i + 1) hi, h2]⟩) (noEnd_occ h)]
  have e : f + (i - f + ([13, 10] : List UInt8).length) = i + 2 := by simp only [List.length_cons, List.length_nil]; omega
  rw [List.drop_drop, e]
theorem cut_last {s : ByteArray} {f i : Nat} (h : noEnd s f i) (hi : s.size ≤ i + 1) : (cutN (s.data.toList.drop f)).2.2 = false ∧ (cutN (s.data.toList.drop f)).1 = s.data.toList.drop f := by
  have hz := size_len s
  have hm : Lib.cut (s.data.toList.drop f) [13, 10] = (s.data.toList.drop f, [], false) := by
    refine cut_miss fun j _ => ?_
    by_cases hj2 : j < i - f
    · exact noEnd_occ h j hj2
    · cases ho : Lib.occAt (s.data.toList.drop f) [13, 10] j
      · rfl
      · obtain ⟨_, h2⟩ := (occ_two _ _ _ _).1 ho
        rw [List.getElem?_drop] at h2
        rw [List.getElem?_eq_none (by omega)] at h2; cases h2
  unfold cutN
  rw [hm]
  exact ⟨rfl, rfl⟩
theorem noEnd_next {s : ByteArray} {f i : Nat} (h : noEnd s f i) (hi : i + 1 < s.size) (hn : ¬ (f ≤ i ∧ s[i] = 13 ∧ s[i + 1] = 10)) : noEnd s f (i + 1) := fun j h1 h2 => by
  rcases Nat.lt_or_eq_of_le (Nat.le_of_lt_succ h2) with h3 | h3
  · exact h j h1 h3
  · subst h3
    rw [at_list s j (by omega), at_list s (j + 1) hi]
    intro he
    exact hn ⟨h1, Option.some.inj he.1, Option.some.inj he.2⟩
theorem noEnd_fresh (s : ByteArray) (f i : Nat) (h : i ≤ f) : noEnd s f i := fun j h1 h2 => absurd h2 (by omega)
/-- the document's reader and the other one's first error are the same -/
theorem parse_one {l : List UInt8} (out : List Fld) (X : List Fld × Int) (Y : List Fld × Int) (hY : oneE l = 0 → X = Y) : (if out.length = 64 ∨ 2048 < l.length then ([], 3) else if oneE l = 0 then X else ([], oneE l)) = if out.length = 64 then ([], 3) else if roneE l = 0 then Y else (([] : List Fld), roneE l) := by
  unfold roneE
  by_cases h1 : out.length = 64
  · simp [h1]
  · by_cases h2 : 2048 < l.length
    · simp [h1, h2]
    · by_cases h3 : oneE l = 0
      · simp [h1, h2, h3, hY h3]
      · simp [h1, h2, h3]
end Go.Proofs.YtilaalfehnngcaaDoor
