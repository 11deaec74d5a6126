/- Directives, plainly: what an element says, the directives of a value and of values, two readings of an element; what directives that are put together are read as. Nothing of the program is read here. -/
import Derived.Test.YtonioemenjjajaaText4
import Derived.Test.YtonioemenjjajaaFields1
namespace Go.Proofs.Ytonioemenjjajaa
/-- a directive: its name, its value, has it one, whom it is for -/
abbrev Dv := List UInt8 × List UInt8 × Bool × List UInt8
def dv0 : Dv := ([], [], false, [])
def noStore : Dv := ([110, 111, 45, 115, 116, 111, 114, 101], [], false, [])
/-- what an element says -/
def sayD (e : List UInt8) : Option Dv :=
  if token (Lib.cut e [61]).1 then
    if (Lib.cut e [61]).2.2 then
      if token (Lib.cut e [61]).2.1 then some (lower (Lib.cut e [61]).1, (Lib.cut e [61]).2.1, true, [])
      else match unquote (Lib.cut e [61]).2.1 with
        | some p => some (lower (Lib.cut e [61]).1, p, true, [])
        | none => none
    else some (lower (Lib.cut e [61]).1, [], false, [])
  else none
def dirs (l : List UInt8) : List Dv := if splitE l 44 = 0 then (splitL l 44).filterMap sayD else [noStore]
def dirsAll (L : List (List UInt8)) : List Dv := L.flatMap dirs
def findD (l : List Dv) (n : List UInt8) : Option Dv := l.find? fun d => lower d.1 == lower n

/-! What an element says: cut at the first byte 61. -/
theorem cutE_of {a r : List UInt8} (h : ∀ c ∈ a, c ≠ 61) : Lib.cut (a ++ 61 :: r) [61] = (a, r, true) := by
  rw [cut_hit (i := a.length) (by simp) ((occ_one _ _ _).2 (by simp)) fun j hj => ?_]
  · simp
  · cases ho : Lib.occAt (a ++ 61 :: r) [61] j
    · rfl
    · have h1 := (occ_one _ _ _).1 ho
      rw [List.getElem?_append_left hj, List.getElem?_eq_getElem hj] at h1
      exact absurd (Option.some.inj h1) (h _ (List.getElem_mem hj))
theorem cutE_none {a : List UInt8} (h : ∀ c ∈ a, c ≠ 61) : Lib.cut a [61] = (a, [], false) := by
  refine cut_miss fun j hj => ?_
  cases ho : Lib.occAt a [61] j
  · rfl
  · have h1 := (occ_one _ _ _).1 ho
    rcases Nat.lt_or_ge j a.length with h2 | h2
    · rw [List.getElem?_eq_getElem h2] at h1
      exact absurd (Option.some.inj h1) (h _ (List.getElem_mem h2))
    · rw [List.getElem?_eq_none h2] at h1; cases h1
/-- either no byte 61, or the first one -/
theorem cutE_cases (e : List UInt8) : ((∀ c ∈ e, c ≠ 61) ∧ Lib.cut e [61] = (e, [], false)) ∨ ∃ a r, e = a ++ 61 :: r ∧ (∀ c ∈ a, c ≠ 61) ∧ Lib.cut e [61] = (a, r, true) := by
  have key : ∀ e : List UInt8, (∀ c ∈ e, c ≠ 61) ∨ ∃ a r, e = a ++ 61 :: r ∧ (∀ c ∈ a, c ≠ 61) := by
    intro e
    induction e with
    | nil => exact .inl fun c hc => by cases hc
    | cons x t ih =>
      by_cases hx : x = 61
      · exact .inr ⟨[], t, by rw [hx]; rfl, fun c hc => by cases hc⟩
      · rcases ih with h | ⟨a, r, rfl, h⟩
        · exact .inl fun c hc => (List.mem_cons.1 hc).elim (fun e1 => by rw [e1]; exact hx) (h c)
        · exact .inr ⟨x :: a, r, rfl, fun c hc => (List.mem_cons.1 hc).elim (fun e1 => by rw [e1]; exact hx) (h c)⟩
  rcases key e with h | ⟨a, r, rfl, h⟩
  · exact .inl ⟨h, cutE_none h⟩
  · exact .inr ⟨a, r, rfl, h, cutE_of h⟩
theorem tok_ne61 {l : List UInt8} (h : token l = true) : ∀ c ∈ l, c ≠ 61 := by
  intro c hc
  unfold token at h
  simp only [Bool.and_eq_true, List.all_eq_true] at h
  rintro rfl
  have := h.2 61 hc
  revert this; decide
theorem cutE_le (e : List UInt8) : (Lib.cut e [61]).1.length ≤ e.length ∧ (Lib.cut e [61]).2.1.length ≤ e.length := cut_le e [61]
theorem token_lower {l : List UInt8} (h : token l = true) : token (lower l) = true := by
  unfold token at h ⊢
  simp only [Bool.and_eq_true, List.all_eq_true] at h ⊢
  refine ⟨by cases l with | nil => simp at h | cons c r => rfl, fun c hc => ?_⟩
  unfold lower at hc
  obtain ⟨x, hx, rfl⟩ := List.mem_map.1 hc
  have h1 := h.2 x hx
  unfold tokB tokI at h1 ⊢
  rw [decide_eq_true_iff] at h1 ⊢
  by_cases hb : 65 ≤ (x.toNat : Int) ∧ (x.toNat : Int) ≤ 90
  · have := low_up hb.1 hb.2
    omega
  · rw [low_same hb]; exact h1
theorem unq_len : ∀ (l : List UInt8) (e : Bool) (acc p : List UInt8), unq l e acc = some p → p.length ≤ acc.length + l.length
  | [], _, _, _, h => by simp [unq] at h
  | c :: r, true, acc, p, h => by
    rw [unq] at h
    split at h
    · have := unq_len r _ _ _ h; simp at this ⊢; omega
    · cases h
  | c :: r, false, acc, p, h => by
    rw [unq] at h
    split at h
    · split at h
      · cases h; simp
      · cases h
    · split at h
      · have := unq_len r _ _ _ h; simp at this ⊢; omega
      · split at h
        · have := unq_len r _ _ _ h; simp at this ⊢; omega
        · cases h
theorem unquote_len {l p : List UInt8} (h : unquote l = some p) : p.length ≤ l.length := by
  cases l with
  | nil => simp [unquote] at h
  | cons c r =>
    rw [unquote] at h
    split at h
    · have := unq_len r _ _ _ h; simp at this ⊢; omega
    · cases h
/-- what says something has a name that is a token, in small letters; without a byte 61 it has no value -/
theorem sayD_name {e : List UInt8} {d : Dv} (h : sayD e = some d) : token d.1 = true ∧ lower d.1 = d.1 ∧ (d.2.2.1 = false → d.2.1 = []) ∧ d.2.2.2 = [] := by
  unfold sayD at h
  split at h
  · rename_i ht
    have h1 := token_lower ht
    split at h
    · split at h
      · cases h; exact ⟨h1, lower_idem _, (fun h => by cases h), rfl⟩
      · split at h
        · cases h; exact ⟨h1, lower_idem _, (fun h => by cases h), rfl⟩
        · cases h
    · cases h; exact ⟨h1, lower_idem _, fun _ => rfl, rfl⟩
  · cases h
theorem sayD_len {e : List UInt8} {d : Dv} (h : sayD e = some d) : d.1.length ≤ e.length ∧ d.2.1.length ≤ e.length := by
  have hc := cutE_le e
  unfold sayD at h
  split at h
  · split at h
    · split at h
      · cases h; exact ⟨by rw [lower_len]; exact hc.1, hc.2⟩
      · split at h
        · rename_i p hp
          cases h
          refine ⟨by rw [lower_len]; exact hc.1, Nat.le_trans ?_ hc.2⟩
          exact unquote_len hp
        · cases h
    · cases h; exact ⟨by rw [lower_len]; exact hc.1, by simp⟩
  · cases h
/-! What is put together with blanks and commas. -/
theorem pieceD_plain {n r : List UInt8} (hn : token n = true) (hr : Piece r) : Piece (n ++ 61 :: r) := by
  have h0 := hn
  unfold token at hn
  simp only [Bool.and_eq_true, List.all_eq_true] at hn
  have hp : ∀ c ∈ n ++ [61], ¬ (c.toNat : Int) = 34 ∧ c ≠ (44 : UInt8) := by
    intro c hc
    rcases List.mem_append.1 hc with hc | hc
    · refine ⟨(tok_not (hn.2 c hc)).2, ?_⟩
      rintro rfl
      have := hn.2 44 hc
      revert this; decide
    · obtain rfl : c = 61 := by simpa using hc
      exact ⟨by decide, by decide⟩
  have e1 : n ++ 61 :: r = (n ++ [61]) ++ r := by simp
  refine ⟨by simp, fun c t e => ?_, fun t c e => ?_, fun t cur A => ?_⟩
  · cases n with
    | nil => simp at hn
    | cons x y =>
      have : x = c := by simpa using (List.cons.inj e).1
      subst this
      exact (tok_not (hn.2 x (by simp))).1
  · obtain ⟨r', c', hrc⟩ : ∃ r' c', r = r' ++ [c'] := ⟨r.dropLast, r.getLast hr.ne, (List.dropLast_concat_getLast hr.ne).symm⟩
    have h2 := hr.last r' c' hrc
    have e2 : (n ++ [61]) ++ r' ++ [c'] = t ++ [c] := by rw [← e, e1, hrc]; simp
    have e3 : [c'] = [c] := (List.append_inj' e2 rfl).2
    rw [← (List.cons.inj e3).1]; exact h2
  · rw [e1, List.append_assoc, cut_plain2 (n ++ [61]) _ _ _ hp, hr.bal]
    simp
/-- each piece, with blanks and a comma behind it -/
def glued (g : List UInt8) (W : List (List UInt8)) : List UInt8 := W.flatMap fun x => x ++ g ++ 44 :: g
theorem glued_snoc (g : List UInt8) (W : List (List UInt8)) (x : List UInt8) : glued g (W ++ [x]) = glued g W ++ (x ++ g ++ 44 :: g) := by simp [glued]
theorem cut_glued {g : List UInt8} (hg : gaps g) : ∀ (W : List (List UInt8)) (A : List (List UInt8)), (∀ x ∈ W, Piece x) → cutAt 44 (glued g W) false false g A = some (A ++ W)
  | [], A, _ => by
    have hb : trim g = [] := trim_blank hg
    simp [glued, cutAt, addP, hb]
  | x :: r, A, h => by
    have hx := h x (by simp)
    have e : glued g (x :: r) = x ++ (g ++ (44 :: (g ++ glued g r))) := by simp [glued]
    rw [e, hx.bal, cut_plain2 g _ _ _ (gap_plain hg), cut_comma, addP_piece hg hx, cut_plain2 g _ _ _ (gap_plain hg), List.nil_append, cut_glued hg r _ (fun z hz => h z (by simp [hz]))]
    simp
theorem split_glued {g : List UInt8} (hg : gaps g) (W : List (List UInt8)) (hW : ∀ x ∈ W, Piece x) (hl : W.length ≤ 64) : splitE (g ++ glued g W) 44 = 0 ∧ splitL (g ++ glued g W) 44 = W := by
  have hc : cutAt 44 (g ++ glued g W) false false [] [] = some W := by
    rw [cut_plain2 g _ _ _ (gap_plain hg), List.nil_append, cut_glued hg W [] hW, List.nil_append]
  have hb : badSep 44 = false := by decide
  constructor <;> simp only [splitE, splitL, hb, hc]
  · rw [if_neg (by simp), if_neg (by omega)]
  · rw [if_neg (by simp), if_neg (by omega)]
theorem filterMap_all {α β : Type} {f : α → Option β} : ∀ {L : List α} {M : List β}, L.length = M.length → (∀ j (h1 : j < L.length) (h2 : j < M.length), f L[j] = some M[j]) → L.filterMap f = M
  | [], [], _, _ => rfl
  | [], _ :: _, h, _ => by simp at h
  | _ :: _, [], h, _ => by simp at h
  | x :: r, y :: t, h, hp => by
    have h0 := hp 0 (by simp) (by simp)
    simp only [List.getElem_cons_zero] at h0
    rw [List.filterMap_cons, h0]
    simp only
    rw [filterMap_all (L := r) (M := t) (by simpa using h) fun j h1 h2 => by have := hp (j + 1) (by simpa using h1) (by simpa using h2); simpa using this]
end Go.Proofs.Ytonioemenjjajaa
