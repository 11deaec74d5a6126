/- A path's segments, plainly: cut at slashes, joined again, kept. Nothing of the program is read here. -/
import Derived.Test.YtekaiafhnnpkgaaGreatDoorUri0
namespace Go.Proofs.YtekaiafhnnpkgaaGreatDoor
theorem segs_ne : ∀ s : List UInt8, segs s ≠ []
  | [] => by simp [segs]
  | c :: r => by
    unfold segs
    split
    · simp
    · split <;> simp
theorem segs_slash (r : List UInt8) : segs (47 :: r) = [] :: segs r := rfl
theorem segs_other {c : UInt8} (h : c ≠ 47) (r : List UInt8) : ∃ x t, segs r = x :: t ∧ segs (c :: r) = (c :: x) :: t := by
  have hc : (c == 47) = false := beq_eq_false_iff_ne.2 h
  match hs : segs r with
  | [] => exact absurd hs (segs_ne r)
  | x :: t => exact ⟨x, t, rfl, by simp [segs, hc, hs]⟩
theorem segs_miss : ∀ {a : List UInt8}, (∀ c ∈ a, c ≠ 47) → segs a = [a]
  | [], _ => rfl
  | c :: r, h => by
    obtain ⟨x, t, h1, h2⟩ := segs_other (h c (by simp)) r
    rw [segs_miss (fun d hd => h d (by simp [hd]))] at h1
    injection h1 with h3 h4
    rw [h2, ← h3, ← h4]
theorem segs_hit : ∀ {a : List UInt8} (r : List UInt8), (∀ c ∈ a, c ≠ 47) → segs (a ++ 47 :: r) = a :: segs r
  | [], r, _ => rfl
  | c :: a, r, h => by
    obtain ⟨x, t, h1, h2⟩ := segs_other (h c (by simp)) (a ++ 47 :: r)
    rw [segs_hit r (fun d hd => h d (by simp [hd]))] at h1
    injection h1 with h3 h4
    rw [List.cons_append, h2, ← h3, ← h4]
theorem segs_clean : ∀ (s : List UInt8), ∀ x ∈ segs s, ∀ c ∈ x, c ≠ 47
  | [], x, hx, c, hc => by simp [segs] at hx; subst hx; cases hc
  | d :: r, x, hx, c, hc => by
    by_cases hd : d = 47
    · subst hd
      rw [segs_slash] at hx
      rcases List.mem_cons.1 hx with rfl | hx
      · cases hc
      · exact segs_clean r x hx c hc
    · obtain ⟨y, t, h1, h2⟩ := segs_other hd r
      rw [h2] at hx
      rcases List.mem_cons.1 hx with rfl | hx
      · rcases List.mem_cons.1 hc with rfl | hc
        · exact hd
        · exact segs_clean r y (by rw [h1]; simp) c hc
      · exact segs_clean r x (by rw [h1]; simp [hx]) c hc
theorem join_cons2 (x y : List UInt8) (t : List (List UInt8)) : Lib.join (x :: y :: t) [47] = x ++ 47 :: Lib.join (y :: t) [47] := by
  simp [Lib.join, List.intercalate, List.intersperse]
theorem join_hd (c : UInt8) (x : List UInt8) (t : List (List UInt8)) : Lib.join ((c :: x) :: t) [47] = c :: Lib.join (x :: t) [47] := by
  rw [Lib.join_cons, Lib.join_cons]; rfl
theorem segs_join : ∀ s : List UInt8, Lib.join (segs s) [47] = s
  | [] => rfl
  | c :: r => by
    have ih := segs_join r
    by_cases hc : c = 47
    · subst hc
      rw [segs_slash]
      match hs : segs r with
      | [] => exact absurd hs (segs_ne r)
      | x :: t => rw [join_cons2, ← hs, ih]; rfl
    · obtain ⟨x, t, h1, h2⟩ := segs_other hc r
      rw [h1] at ih
      rw [h2, join_hd, ih]
theorem segs_of_join : ∀ {L : List (List UInt8)}, L ≠ [] → (∀ x ∈ L, ∀ c ∈ x, c ≠ 47) → segs (Lib.join L [47]) = L
  | [x], _, h => by rw [Lib.join_one]; exact segs_miss (h x (by simp))
  | x :: y :: t, _, h => by
    rw [join_cons2, segs_hit _ (h x (by simp)), segs_of_join (by simp) (fun z hz => h z (by simp [hz]))]

/-- the bytes of texts, and one more for each -/
def jl (L : List (List UInt8)) : Nat := (L.map fun x => x.length + 1).sum
theorem jl_cons (x : List UInt8) (L : List (List UInt8)) : jl (x :: L) = x.length + 1 + jl L := by simp [jl]
theorem jl_append (A B : List (List UInt8)) : jl (A ++ B) = jl A + jl B := by simp [jl]
theorem jl_sub {A B : List (List UInt8)} (h : A.Sublist B) : jl A ≤ jl B := by
  induction h with
  | slnil => exact Nat.le_refl _
  | cons x _ ih => rw [jl_cons]; omega
  | cons_cons x _ ih => rw [jl_cons, jl_cons]; omega
theorem jl_join : ∀ {L : List (List UInt8)}, L ≠ [] → (Lib.join L [47]).length + 1 = jl L
  | [x], _ => by rw [Lib.join_one, jl_cons]; rfl
  | x :: y :: t, _ => by
    have ih := jl_join (L := y :: t) (by simp)
    rw [join_cons2, jl_cons, List.length_append, List.length_cons]
    omega
theorem join_le (L : List (List UInt8)) : (Lib.join L [47]).length ≤ jl L := by
  by_cases h : L = []
  · subst h; exact Nat.zero_le _
  · have := jl_join h; omega
theorem jl_segs (s : List UInt8) : jl (segs s) = s.length + 1 := by rw [← jl_join (segs_ne s), segs_join]
theorem segs_len (s : List UInt8) : (segs s).length ≤ s.length + 1 := by
  rw [← jl_segs s]
  generalize segs s = L
  induction L with
  | nil => exact Nat.zero_le _
  | cons x L ih => rw [jl_cons, List.length_cons]; omega

theorem keepS_sub {K L : List (List UInt8)} (h : K.Sublist L) (s : List UInt8) : (keepS K s).Sublist (L ++ [s]) := by
  unfold keepS
  split
  · exact h.trans (List.sublist_append_left _ _)
  · split
    · exact (List.dropLast_sublist _).trans (h.trans (List.sublist_append_left _ _))
    · exact h.append (List.Sublist.refl _)
theorem foldl_sub : ∀ (L : List (List UInt8)) (K M : List (List UInt8)), K.Sublist M → (L.foldl keepS K).Sublist (M ++ L)
  | [], K, M, h => by simpa using h
  | s :: L, K, M, h => by
    have := foldl_sub L (keepS K s) (M ++ [s]) (keepS_sub h s)
    simpa using this
theorem kept_sub (L : List (List UInt8)) : (keptL L).Sublist L := foldl_sub L [] [] (List.Sublist.refl _)
theorem kept_snoc (L : List (List UInt8)) (s : List UInt8) : keptL (L ++ [s]) = keepS (keptL L) s := by simp [keptL]
theorem kept_take {S : List (List UInt8)} {k : Nat} (h : k < S.length) : keptL (S.take (k + 1)) = keepS (keptL (S.take k)) S[k] := by
  rw [List.take_succ_eq_append_getElem h, kept_snoc]
theorem kept_len {S : List (List UInt8)} (k : Nat) : (keptL (S.take k)).length ≤ k := Nat.le_trans (kept_sub _).length_le (List.length_take_le _ _)

/-- the library's Split at a slash -/
theorem split_segs : ∀ (n : Nat) (s : ByteArray), s.size ≤ n → (Lib.splitB ⟨#[47]⟩ 0 (Lib.countB s ⟨#[47]⟩) s).map (fun x => x.data.toList) = segs s.data.toList := by
  intro n
  induction n with
  | zero =>
    intro s hs
    have h0 : s.data.toList = [] := nil_of (by omega)
    have hi : Lib.indexB s ⟨#[47]⟩ = -1 := by
      show Lib.index s.data.toList [47] = -1
      rw [h0]; rfl
    rw [Lib.splitB_miss _ _ _ _ hi, List.map_singleton, h0]; rfl
  | succ n ih =>
    intro s hs
    rcases Lib.index_spec s.data.toList [47] with ⟨hi, hno⟩ | ⟨i, hi, hil, ho, hno⟩
    · have hi2 : Lib.indexB s ⟨#[47]⟩ = -1 := hi
      rw [Lib.splitB_miss _ _ _ _ hi2, List.map_singleton]
      refine (segs_miss fun c hc => ?_).symm
      obtain ⟨j, hj, rfl⟩ := List.getElem_of_mem hc
      intro he
      have := hno j (by omega)
      have h2 := (occ_one s.data.toList j 47).2 (by rw [List.getElem?_eq_getElem hj, he])
      rw [this] at h2; cases h2
    · have hi2 : Lib.indexB s ⟨#[47]⟩ = i := hi
      have hoc := (occ_one s.data.toList i 47).1 ho
      have hlt : i < s.data.toList.length := (List.getElem?_eq_some_iff.1 hoc).1
      rw [Lib.countB_hit s _ i (by decide) hi2, Nat.add_comm, Lib.splitB_hit _ _ _ _ i hi2]
      have hsz : (s.extract (i + (⟨#[47]⟩ : ByteArray).size) s.size).size ≤ n := by
        rw [ByteArray.size_extract]
        have : (⟨#[47]⟩ : ByteArray).size = 1 := rfl
        omega
      have hsplit : s.data.toList = s.data.toList.take i ++ 47 :: s.data.toList.drop (i + 1) := by
        have h3 : s.data.toList[i] = 47 := by
          have := hoc; rw [List.getElem?_eq_getElem hlt] at this; exact Option.some.inj this
        rw [← h3, ← List.drop_eq_getElem_cons hlt, List.take_append_drop]
      rw [List.map_cons, ih _ hsz, Lib.extract_to_end, Lib.extract_from_zero]
      conv => rhs; rw [hsplit]
      rw [segs_hit]
      · rfl
      · intro c hc he
        obtain ⟨j, hj, rfl⟩ := List.getElem_of_mem hc
        rw [List.length_take] at hj
        have h2 := (occ_one s.data.toList j 47).2 (by rw [List.getElem?_eq_getElem (by omega)]; rw [List.getElem_take] at he; rw [he])
        rw [hno j (by omega)] at h2; cases h2
end Go.Proofs.YtekaiafhnnpkgaaGreatDoor
