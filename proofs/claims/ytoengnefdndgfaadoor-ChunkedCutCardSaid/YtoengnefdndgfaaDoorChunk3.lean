/- What is decoded hangs on the bytes used alone; a beginning of them lacks bytes. Nothing of the program is read here. -/
import Derived.Test.YtoengnefdndgfaaDoorChunk2
namespace Go.Proofs.YtoengnefdndgfaaDoor
theorem take_le {α : Type} {s t : List α} {m k : Nat} (h : s.take m = t.take m) (hk : k ≤ m) : s.take k = t.take k := by
  have := congrArg (List.take k) h
  rwa [List.take_take, List.take_take, Nat.min_eq_left hk] at this
theorem find_same {r t mark : List UInt8} {most n : Nat} (hm : mark ≠ []) (h : findL r mark most = (n, 0)) (ht : t.take (n + mark.length) = r.take (n + mark.length)) : findL t mark most = (n, 0) := by
  obtain ⟨h1, h2, h3, h4⟩ := find_hit (s := r) (mark := mark) (most := most) hm (by rw [h])
  rw [h] at h1 h2 h3 h4
  simp only at h1 h2 h3 h4
  exact find_of hm h1 (by rw [occ_same (Nat.le_refl _) ht]; exact h3) (fun j hj => by rw [occ_same (t := r) (m := n + mark.length) (by omega) ht]; exact h4 j hj)
theorem find_less {r mark : List UInt8} {most n j : Nat} (hm : mark ≠ []) (h : findL r mark most = (n, 0)) (hj : j < n + mark.length) : findL (r.take j) mark most = (0, 6) := by
  obtain ⟨h1, h2, h3, h4⟩ := find_hit (s := r) (mark := mark) (most := most) hm (by rw [h])
  rw [h] at h1 h2 h3 h4
  simp only at h1 h2 h3 h4
  rw [find_none hm fun i _ => ?_, if_neg]
  · rw [List.length_take]; omega
  · cases ho : Lib.occAt (r.take j) mark i
    · rfl
    · have hr := occ_room ho hm
      rw [List.length_take] at hr
      rw [occ_take (by omega), h4 i (by omega)] at ho
      exact absurd ho (by decide)

theorem head_same {r t : List UInt8} {room m u : Nat} (h : headL r room = (m, u, 0)) (ht : t.take u = r.take u) : headL t room = (m, u, 0) := by
  obtain ⟨h1, h2, h3, f, hf, hs, hu⟩ := head_ok (r := r) (room := room) (by rw [h])
  rw [h] at hs hu h3
  simp only at hs hu h3
  subst hu
  have hft := find_same (by simp) hf (t := t) ht
  unfold headL
  rw [hft]
  simp only [if_true]
  rw [take_le ht (by omega), hs]
  simp only
  rw [if_neg (by omega)]
theorem head_less {r : List UInt8} {room m u j : Nat} (h : headL r room = (m, u, 0)) (hj : j < u) : headL (r.take j) room = (0, 0, 6) := by
  obtain ⟨h1, h2, h3, f, hf, hs, hu⟩ := head_ok (r := r) (room := room) (by rw [h])
  rw [h] at hu
  simp only at hu
  subst hu
  have := find_less (j := j) (by simp) hf hj
  unfold headL
  rw [this, if_neg (by decide)]
theorem chunk_same {r t c : List UInt8} {n m : Nat} (h : chunkL r n = (c, m, 0)) (ht : t.take m = r.take m) : chunkL t n = (c, m, 0) := by
  obtain ⟨h1, h2, h3, h4⟩ := chunk_ok (t := r) (n := n) (by rw [h])
  rw [h] at h1 h2
  simp only at h1 h2
  subst h1 h2
  have hl : n + 2 ≤ t.length := by
    have := congrArg List.length ht
    rw [List.length_take, List.length_take] at this
    omega
  have he : endE (t.drop n) = 0 := by
    have ho : Lib.occAt t [13, 10] n = Lib.occAt r [13, 10] n := occ_same (m := n + 2) (Nat.le_refl _) ht
    unfold endE at h4 ⊢
    have e1 : Lib.hasPrefix (t.drop n) [13, 10] = Lib.hasPrefix (r.drop n) [13, 10] := ho
    rw [e1]
    split at h4
    · rename_i hp; rw [if_pos hp]
    · split at h4 <;> exact absurd h4 (by decide)
  unfold chunkL
  rw [if_neg (by omega), if_pos he, take_le ht (by omega)]
theorem chunk_less {r c : List UInt8} {n m j : Nat} (h : chunkL r n = (c, m, 0)) (hj : j < m) : chunkL (r.take j) n = ([], 0, 6) := by
  obtain ⟨h1, h2, h3, h4⟩ := chunk_ok (t := r) (n := n) (by rw [h])
  rw [h] at h2
  simp only at h2
  subst h2
  unfold chunkL
  by_cases hn : (r.take j).length < n
  · rw [if_pos hn]
  · rw [if_neg hn]
    rw [List.length_take] at hn
    have he : endE ((r.take j).drop n) = 6 := by
      have hp : (r.drop n)[0]? = some 13 := by
        unfold endE at h4
        split at h4
        · rename_i hp
          have ho : Lib.occAt r [13, 10] n = true := hp
          have := ((occ_two _ _ _ _).1 ho).1
          rw [List.getElem?_drop]; simpa using this
        · split at h4 <;> exact absurd h4 (by decide)
      rw [List.drop_take]
      rcases Nat.lt_or_ge n j with h5 | h5
      · have e : j - n = 1 := by omega
        rw [e]
        cases hd : r.drop n with
        | nil => rw [hd] at hp; cases hp
        | cons y ys =>
          rw [hd] at hp
          have : y = 13 := by simpa using hp
          rw [this]
          show endE [13] = 6
          decide
      · rw [show j - n = 0 from by omega, List.take_zero]; decide
    rw [he, if_neg (by decide)]
theorem lasts_same {r t : List UInt8} {l : List Fld} {m : Nat} (h : lastsL r = (l, m, 0)) (ht : t.take m = r.take m) : lastsL t = (l, m, 0) := by
  have h0 : (findL (13 :: 10 :: r) [13, 10, 13, 10] 8194).2 = 0 := by
    unfold lastsL at h
    split at h
    · assumption
    · rename_i hn; rw [Prod.mk.injEq, Prod.mk.injEq] at h; exact absurd h.2.2 hn
  obtain ⟨g, hg⟩ : ∃ g, findL (13 :: 10 :: r) [13, 10, 13, 10] 8194 = (g, 0) := ⟨_, Prod.ext rfl h0⟩
  have hp : (parseL (r.take g)).2 = 0 ∧ l = (parseL (r.take g)).1 ∧ m = g + 2 := by
    unfold lastsL at h
    rw [hg] at h
    simp only [if_true] at h
    split at h
    · rename_i hp
      rw [Prod.mk.injEq, Prod.mk.injEq] at h
      exact ⟨hp, h.1.symm, h.2.1.symm⟩
    · rename_i hn; rw [Prod.mk.injEq, Prod.mk.injEq] at h; exact absurd h.2.2 hn
  obtain ⟨hp1, rfl, rfl⟩ := hp
  have hft : findL (13 :: 10 :: t) [13, 10, 13, 10] 8194 = (g, 0) := find_same (by simp) hg (by
    show List.take (g + 2 + 1 + 1) (13 :: 10 :: t) = List.take (g + 2 + 1 + 1) (13 :: 10 :: r)
    rw [List.take_succ_cons, List.take_succ_cons, List.take_succ_cons, List.take_succ_cons, ht])
  unfold lastsL
  rw [hft]
  simp only [if_true]
  rw [take_le ht (by omega), if_pos hp1]
theorem lasts_less {r : List UInt8} {l : List Fld} {m j : Nat} (h : lastsL r = (l, m, 0)) (hj : j < m) : lastsL (r.take j) = ([], 0, 6) := by
  have h0 : (findL (13 :: 10 :: r) [13, 10, 13, 10] 8194).2 = 0 := by
    unfold lastsL at h
    split at h
    · assumption
    · rename_i hn; rw [Prod.mk.injEq, Prod.mk.injEq] at h; exact absurd h.2.2 hn
  obtain ⟨g, hg⟩ : ∃ g, findL (13 :: 10 :: r) [13, 10, 13, 10] 8194 = (g, 0) := ⟨_, Prod.ext rfl h0⟩
  have hm : m = g + 2 := by
    unfold lastsL at h
    rw [hg] at h
    simp only [if_true] at h
    split at h
    · rw [Prod.mk.injEq, Prod.mk.injEq] at h
      exact h.2.1.symm
    · rename_i hn; rw [Prod.mk.injEq, Prod.mk.injEq] at h; exact absurd h.2.2 hn
  subst hm
  have := find_less (j := j + 1 + 1) (by simp) hg (by show j + 1 + 1 < g + 4; omega)
  rw [List.take_succ_cons, List.take_succ_cons] at this
  exact lasts_none this (by decide)

theorem dec_local : ∀ (k : Nat) (r : List UInt8) (room : Nat) (b : List UInt8) (u : Nat) (l : List Fld), r.length ≤ k → decL r room = (b, u, l, 0) →
    5 ≤ u ∧ u ≤ r.length ∧ (∀ j, j < u → decL (r.take j) room = bad 6) ∧ (∀ t, t.take u = r.take u → decL t room = (b, u, l, 0)) := by
  intro k
  induction k with
  | zero =>
    intro r room b u l hk h
    have : r = [] := List.eq_nil_of_length_eq_zero (by omega)
    subst this
    exfalso
    have : decL [] room = bad 6 := ex_bad (n := 0) (k := 0) (show headL [] room = (0, 0, 6) from rfl) (by decide)
    rw [this] at h
    simp [bad] at h
  | succ k ih =>
    intro r room b u l hk h
    obtain ⟨H, hH⟩ : ∃ H, headL r room = H := ⟨_, rfl⟩
    obtain ⟨m, v, e⟩ := H
    by_cases he : e = 0
    · subst he
      obtain ⟨v3, vl, mr, -⟩ := head_ok (r := r) (room := room) (by rw [hH])
      rw [hH] at v3 vl mr
      simp only at v3 vl mr
      by_cases hm : m = 0
      · subst hm
        have hd : decL r room = behind [] v (lastsD (r.drop v)) := by rw [decL_eq, hH, if_pos rfl, if_pos rfl]
        obtain ⟨LS, hL⟩ : ∃ LS, lastsL (r.drop v) = LS := ⟨_, rfl⟩
        obtain ⟨l', g, x⟩ := LS
        by_cases hx : x = 0
        · subst hx
          have hgo := lasts_ok (t := r.drop v) (by rw [hL])
          rw [hL, List.length_drop] at hgo
          simp only at hgo
          have e2 := ex_last hH rfl hL
          rw [e2] at h
          rw [Prod.mk.injEq, Prod.mk.injEq, Prod.mk.injEq] at h
          obtain ⟨rfl, rfl, rfl, -⟩ := h
          refine ⟨by omega, by omega, fun j hj => ?_, fun t ht => ?_⟩
          · by_cases hjv : j < v
            · exact ex_bad (head_less hH hjv) (by decide)
            · have hh := head_same (t := r.take j) hH (by rw [List.take_take, Nat.min_eq_left (by omega)])
              exact ex_lastBad (e := 6) hh (List.drop_take (i := v) (j := j) (l := r)) (lasts_less hL (by omega)) (by decide)
          · have hh := head_same (t := t) hH (take_le ht (by omega))
            refine ex_last hh rfl (lasts_same hL ?_)
            have := congrArg (List.drop v) ht
            rw [List.drop_take, List.drop_take, show v + g - v = g from by omega] at this
            exact this
        · exfalso
          have e2 := ex_lastBad hH rfl hL hx
          rw [e2] at h
          simp only [bad, Prod.mk.injEq] at h
          exact hx h.2.2.2
      · obtain ⟨C, hC⟩ : ∃ C, chunkL (r.drop v) m = C := ⟨_, rfl⟩
        obtain ⟨c, g, x⟩ := C
        by_cases hx : x = 0
        · subst hx
          obtain ⟨c1, c2, c3, -⟩ := chunk_ok (t := r.drop v) (n := m) (by rw [hC])
          rw [hC] at c1 c2
          simp only at c1 c2
          rw [List.length_drop] at c3
          have e2 := ex_chunk hH hm rfl hC
          rw [e2] at h
          obtain ⟨D, hD⟩ : ∃ D, decL ((r.drop v).drop g) (room - m) = D := ⟨_, rfl⟩
          obtain ⟨b', u', l', x'⟩ := D
          rw [hD] at h
          unfold behind at h
          simp only at h
          split at h
          · rename_i hx'
            subst hx'
            rw [Prod.mk.injEq, Prod.mk.injEq, Prod.mk.injEq] at h
            obtain ⟨rfl, rfl, rfl, -⟩ := h
            obtain ⟨i1, i2, i3, i4⟩ := ih _ _ _ _ _ (by rw [List.length_drop, List.length_drop]; omega) hD
            rw [List.length_drop, List.length_drop] at i2
            refine ⟨by omega, by omega, fun j hj => ?_, fun t ht => ?_⟩
            · by_cases hjv : j < v
              · exact ex_bad (head_less hH hjv) (by decide)
              · have hh := head_same (t := r.take j) hH (by rw [List.take_take, Nat.min_eq_left (by omega)])
                by_cases hjg : j < v + g
                · exact ex_chunkBad (e := 6) hh hm (List.drop_take (i := v) (j := j) (l := r)) (chunk_less hC (by omega)) (by decide)
                · have hc := chunk_same (t := (r.drop v).take (j - v)) hC (by rw [List.take_take, Nat.min_eq_left (by omega)])
                  rw [ex_chunk hh hm (List.drop_take (i := v) (j := j) (l := r)) hc, List.drop_take, i3 _ (by omega), behind_bad (by decide)]
            · have hh := head_same (t := t) hH (take_le ht (by omega))
              have ht2 := congrArg (List.drop v) ht
              rw [List.drop_take, List.drop_take, show v + g + u' - v = g + u' from by omega] at ht2
              have hc := chunk_same (t := t.drop v) hC (take_le ht2 (by omega))
              have ht3 := congrArg (List.drop g) ht2
              rw [List.drop_take, List.drop_take, show g + u' - g = u' from by omega] at ht3
              rw [ex_chunk hh hm rfl hc, i4 _ ht3]
              unfold behind
              simp
          · rename_i hx'
            exfalso
            simp only [bad, Prod.mk.injEq] at h
            exact hx' h.2.2.2
        · exfalso
          have e2 := ex_chunkBad hH hm rfl hC hx
          rw [e2] at h
          simp only [bad, Prod.mk.injEq] at h
          exact hx h.2.2.2
    · exfalso
      have e2 := ex_bad hH he
      rw [e2] at h
      simp only [bad, Prod.mk.injEq] at h
      exact he h.2.2.2
end Go.Proofs.YtoengnefdndgfaaDoor
