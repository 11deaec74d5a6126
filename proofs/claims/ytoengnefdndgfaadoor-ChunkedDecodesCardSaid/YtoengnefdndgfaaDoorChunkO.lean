/- How the document's decoder sees the same steps. Nothing of the program is read here. -/
import Derived.Test.YtoengnefdndgfaaDoorChunkN
namespace Go.Proofs.YtoengnefdndgfaaDoor
section
variable {L acc : List UInt8} {u r : Nat}
theorem dec_noLine (h : (findL (L.drop u) [13, 10] 2050).2 ≠ 0) : behind acc u (decL (L.drop u) r) = bad (findL (L.drop u) [13, 10] 2050).2 := by
  have hh : headL (L.drop u) r = (0, 0, (findL (L.drop u) [13, 10] 2050).2) := by unfold headL; rw [if_neg h]
  rw [decL_eq, hh, if_neg h, behind_bad h]
theorem dec_noSize {f : Nat} (hf : findL (L.drop u) [13, 10] 2050 = (f, 0)) (h : sizeN ((L.drop u).take f) = none) : behind acc u (decL (L.drop u) r) = bad 4 := by
  have hh : headL (L.drop u) r = (0, 0, 4) := by unfold headL; rw [hf]; simp only [if_true, h]
  rw [decL_eq, hh, if_neg (by decide), behind_bad (by decide)]
theorem dec_room {f n : Nat} (hf : findL (L.drop u) [13, 10] 2050 = (f, 0)) (h : sizeN ((L.drop u).take f) = some n) (hr : r < n) : behind acc u (decL (L.drop u) r) = bad 3 := by
  have hh : headL (L.drop u) r = (0, 0, 3) := by unfold headL; rw [hf]; simp only [if_true, h, if_pos hr]
  rw [decL_eq, hh, if_neg (by decide), behind_bad (by decide)]
theorem dec_last {f : Nat} (hf : findL (L.drop u) [13, 10] 2050 = (f, 0)) (h : sizeN ((L.drop u).take f) = some 0) : behind acc u (decL (L.drop u) r) = behind acc (u + f + 2) (lastsD (L.drop (u + f + 2))) := by
  have hh : headL (L.drop u) r = (0, f + 2, 0) := by unfold headL; rw [hf]; simp only [if_true, h]; rw [if_neg (by omega)]
  rw [decL_eq, hh, if_pos rfl, if_pos rfl, behind_behind, List.append_nil, List.drop_drop, show u + (f + 2) = u + f + 2 from by omega]
theorem dec_chunk {f n : Nat} (hf : findL (L.drop u) [13, 10] 2050 = (f, 0)) (h : sizeN ((L.drop u).take f) = some n) (h0 : n ≠ 0) (hr : ¬ r < n) :
    behind acc u (decL (L.drop u) r) = behind acc (u + f + 2) (bytesD (L.drop (u + f + 2)) n r) := by
  have hh : headL (L.drop u) r = (n, f + 2, 0) := by unfold headL; rw [hf]; simp only [if_true, h, if_neg hr]
  rw [decL_eq, hh, if_pos rfl, if_neg h0, behind_behind, List.append_nil, List.drop_drop, show u + (f + 2) = u + f + 2 from by omega]
theorem dec_short {n : Nat} (h : (L.drop u).length < n) : behind acc u (bytesD (L.drop u) n r) = bad 6 := by
  have hh : chunkL (L.drop u) n = ([], 0, 6) := by unfold chunkL; rw [if_pos h]
  unfold bytesD
  rw [hh, if_neg (by decide), behind_bad (by decide)]
theorem dec_badEnd {n : Nat} (h : ¬ (L.drop u).length < n) (he : endE (L.drop (u + n)) ≠ 0) : behind acc u (bytesD (L.drop u) n r) = bad (endE (L.drop (u + n))) := by
  have hh : chunkL (L.drop u) n = ([], 0, endE (L.drop (u + n))) := by unfold chunkL; rw [if_neg h, List.drop_drop, if_neg he]
  unfold bytesD
  rw [hh, if_neg he, behind_bad he]
theorem dec_next {n : Nat} (h : ¬ (L.drop u).length < n) (he : endE (L.drop (u + n)) = 0) :
    behind acc u (bytesD (L.drop u) n r) = behind (acc ++ (L.drop u).take n) (u + n + 2) (decL (L.drop (u + n + 2)) (r - n)) := by
  have hh : chunkL (L.drop u) n = ((L.drop u).take n, n + 2, 0) := by unfold chunkL; rw [if_neg h, List.drop_drop, if_pos he]
  unfold bytesD
  rw [hh, if_pos rfl, behind_behind, List.drop_drop, show u + (n + 2) = u + n + 2 from by omega]
theorem dec_noTail (h : (findL (13 :: 10 :: L.drop u) [13, 10, 13, 10] 8194).2 ≠ 0) : behind acc u (lastsD (L.drop u)) = bad (findL (13 :: 10 :: L.drop u) [13, 10, 13, 10] 8194).2 := by
  have hh : lastsL (L.drop u) = ([], 0, (findL (13 :: 10 :: L.drop u) [13, 10, 13, 10] 8194).2) := by unfold lastsL; rw [if_neg h]
  unfold lastsD
  rw [hh, if_neg h, behind_bad h]
theorem dec_noFields {n : Nat} (hf : findL (13 :: 10 :: L.drop u) [13, 10, 13, 10] 8194 = (n, 0)) (h : (parseL ((L.drop u).take n)).2 ≠ 0) : behind acc u (lastsD (L.drop u)) = bad (parseL ((L.drop u).take n)).2 := by
  have hh : lastsL (L.drop u) = ([], 0, (parseL ((L.drop u).take n)).2) := by unfold lastsL; rw [hf]; simp only [if_true]; rw [if_neg h]
  unfold lastsD
  rw [hh, if_neg h, behind_bad h]
theorem dec_fields {n : Nat} (hf : findL (13 :: 10 :: L.drop u) [13, 10, 13, 10] 8194 = (n, 0)) (h : (parseL ((L.drop u).take n)).2 = 0) : behind acc u (lastsD (L.drop u)) = (acc, u + n + 2, (parseL ((L.drop u).take n)).1, 0) := by
  have hh : lastsL (L.drop u) = ((parseL ((L.drop u).take n)).1, n + 2, 0) := by unfold lastsL; rw [hf]; simp only [if_true]; rw [if_pos h]
  unfold lastsD behind
  rw [hh]
  simp [Nat.add_assoc]
end
/-- what stands behind a chunk, in the document's words -/
theorem end_at (s : ByteArray) (q : Nat) (hq : q ≤ s.size) :
    (q = s.size ∧ endE (s.data.toList.drop q) = 6) ∨ (∃ h : q + 1 = s.size, s[q] = 13 ∧ endE (s.data.toList.drop q) = 6) ∨
    (q + 2 ≤ s.size ∧ Lib.occAt s.data.toList [13, 10] q = true ∧ endE (s.data.toList.drop q) = 0) ∨
    (q + 2 ≤ s.size ∧ Lib.occAt s.data.toList [13, 10] q = false ∧ endE (s.data.toList.drop q) = 4) ∨
    (∃ h : q + 1 = s.size, s[q] ≠ 13 ∧ Lib.occAt s.data.toList [13, 10] q = false ∧ endE (s.data.toList.drop q) = 4) := by
  have hz := size_len s
  have key : ∀ a : List UInt8, endE a = if Lib.hasPrefix a [13, 10] then 0 else if Lib.hasPrefix [13, 10] a then 6 else 4 := fun _ => rfl
  have ho : Lib.occAt s.data.toList [13, 10] q = Lib.hasPrefix (s.data.toList.drop q) [13, 10] := rfl
  rcases Nat.lt_or_ge q s.size with h | h
  · have hd : s.data.toList.drop q = s[q] :: s.data.toList.drop (q + 1) := List.drop_eq_getElem_cons (by exact h)
    rcases Nat.lt_or_ge (q + 1) s.size with h1 | h1
    · have hd1 : s.data.toList.drop (q + 1) = s[q + 1] :: s.data.toList.drop (q + 2) := List.drop_eq_getElem_cons (by exact h1)
      rw [ho]
      cases hb : Lib.hasPrefix (s.data.toList.drop q) [13, 10]
      · refine .inr (.inr (.inr (.inl ⟨h1, rfl, ?_⟩)))
        rw [key, hb]
        have h2 : Lib.hasPrefix [13, 10] (s.data.toList.drop q) = false := by
          rw [hd, hd1] at hb ⊢
          unfold Lib.hasPrefix at hb ⊢
          cases hr : s.data.toList.drop (q + 2) with
          | nil =>
            simp only [List.isPrefixOf, Bool.and_true, Bool.and_eq_false_iff, beq_eq_false_iff_ne] at hb ⊢
            rcases hb with hb | hb
            · exact .inl (fun e => hb e.symm)
            · exact .inr (fun e => hb e.symm)
          | cons y t => simp [List.isPrefixOf]
        rw [h2]; rfl
      · exact .inr (.inr (.inl ⟨h1, rfl, by rw [key, hb]; rfl⟩))
    · have hq1 : q + 1 = s.size := by omega
      have hd1 : s.data.toList.drop (q + 1) = [] := List.drop_of_length_le (by omega)
      rw [ho, hd, hd1, key]
      by_cases h13 : s[q] = 13
      · exact .inr (.inl ⟨hq1, h13, by rw [h13]; decide⟩)
      · refine .inr (.inr (.inr (.inr ⟨hq1, h13, by simp [Lib.hasPrefix, List.isPrefixOf], ?_⟩)))
        have e1 : Lib.hasPrefix [s[q]] [13, 10] = false := by simp [Lib.hasPrefix, List.isPrefixOf]
        have e2 : Lib.hasPrefix [13, 10] [s[q]] = false := by simp [Lib.hasPrefix, List.isPrefixOf, h13]
        rw [e1, e2]; rfl
  · have hq1 : q = s.size := by omega
    have hd : s.data.toList.drop q = [] := List.drop_of_length_le (by omega)
    exact .inl ⟨hq1, by rw [hd]; decide⟩
end Go.Proofs.YtoengnefdndgfaaDoor
