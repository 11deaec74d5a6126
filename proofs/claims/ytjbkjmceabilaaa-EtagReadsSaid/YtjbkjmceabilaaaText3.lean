/- Plain lists of bytes: what small letters, blanks and tokens are to the others. -/
import Derived.Test.YtjbkjmceabilaaaSplit0
import Derived.Lib.IndexMore
import Derived.Lib.IndexLaws
import Derived.Lib.Join
namespace Go.Proofs.Ytjbkjmceabilaaa
theorem lowB_idem (c : UInt8) : lowB (lowB c) = lowB c := by
  by_cases h : 65 ≤ (c.toNat : Int) ∧ (c.toNat : Int) ≤ 90
  · exact low_same (by rw [low_up h.1 h.2]; omega)
  · rw [low_same h, low_same h]
theorem lower_idem (l : List UInt8) : lower (lower l) = lower l := by
  unfold lower; rw [List.map_map]; congr 1; funext c; exact lowB_idem c
theorem lower_len (l : List UInt8) : (lower l).length = l.length := by simp [lower]
theorem ltrim_idem_of {l : List UInt8} (h : ∀ c r, l = c :: r → blankB c = false) : ltrim l = l := by
  cases l with
  | nil => rfl
  | cons c r => simp [ltrim, h c r rfl]
theorem rtrim_idem_of {l : List UInt8} (h : ∀ r c, l = r ++ [c] → blankB c = false) : rtrim l = l := by
  rcases List.eq_nil_or_concat l with rfl | ⟨r, c, rfl⟩
  · rfl
  · rw [List.concat_eq_append] at h ⊢; rw [rtrim_snoc, if_neg (by simp [h r c rfl])]
theorem dropWhile_head {p : UInt8 → Bool} : ∀ {l : List UInt8} {c : UInt8} {r : List UInt8}, l.dropWhile p = c :: r → p c = false
  | [], _, _, h => by simp at h
  | a :: t, c, r, h => by
    rw [List.dropWhile_cons] at h
    split at h
    · exact dropWhile_head h
    · rename_i hp
      obtain ⟨rfl, _⟩ := List.cons.inj h
      simpa using hp
theorem rtrim_prefix (l : List UInt8) : rtrim l <+: l := by
  unfold rtrim
  have h := List.dropWhile_suffix (l := l.reverse) blankB
  have := List.reverse_prefix.2 h
  simpa using this
theorem trim_idem (l : List UInt8) : trim (trim l) = trim l := by
  have h1 : ltrim (trim l) = trim l := by
    refine ltrim_idem_of fun c r h => ?_
    obtain ⟨t, ht⟩ := rtrim_prefix (ltrim l)
    have h2 : ltrim l = c :: (r ++ t) := by rw [← ht]; show trim l ++ t = _; rw [h]; rfl
    exact dropWhile_head h2
  have h2 : rtrim (trim l) = trim l := by
    refine rtrim_idem_of fun r c h => ?_
    have h3 : (ltrim l).reverse.dropWhile blankB = c :: r.reverse := by
      have := congrArg List.reverse h
      unfold trim rtrim at this
      simpa using this
    exact dropWhile_head h3
  show rtrim (ltrim (trim l)) = _
  rw [h1, h2]
theorem contains_trim (l : List UInt8) : Lib.contains l (trim l) = true := by
  unfold Lib.contains
  rw [decide_eq_true_iff]
  obtain ⟨t, ht⟩ := rtrim_prefix (ltrim l)
  obtain ⟨a, ha⟩ := List.dropWhile_suffix (l := l) blankB
  have hd : l.drop a.length = ltrim l := by
    have := congrArg (List.drop a.length) ha
    rw [List.drop_left] at this
    exact this.symm
  rcases Lib.index_spec l (trim l) with ⟨_, h⟩ | ⟨i, h, _⟩
  · have h1 := h a.length (by have := congrArg List.length ha; simp only [List.length_append] at this; omega)
    unfold Lib.occAt at h1
    rw [hd] at h1
    have h2 : (trim l).isPrefixOf (ltrim l) = true := List.isPrefixOf_iff_prefix.2 ⟨t, ht⟩
    rw [h2] at h1; cases h1
  · rw [h]; omega
theorem tok_not {c : UInt8} (h : tokB c = true) : blankB c = false ∧ ¬ (c.toNat : Int) = 34 := by
  unfold tokB tokI at h
  rw [decide_eq_true_iff] at h
  unfold blankB blankI
  rw [decide_eq_false_iff_not]
  omega
theorem trim_token {l : List UInt8} (h : token l = true) : trim l = l := by
  unfold token at h
  simp only [Bool.and_eq_true, List.all_eq_true] at h
  have h1 : ltrim l = l := ltrim_idem_of fun c r hl => (tok_not (h.2 c (by rw [hl]; simp))).1
  show rtrim (ltrim l) = l
  rw [h1]
  exact rtrim_idem_of fun r c hl => (tok_not (h.2 c (by rw [hl]; simp))).1
theorem unq_token {l : List UInt8} (h : token l = true) : unquote l = none := by
  unfold token at h
  simp only [Bool.and_eq_true, List.all_eq_true] at h
  cases l with
  | nil => rfl
  | cons c r => rw [unquote, if_neg (tok_not (h.2 c (by simp))).2]
theorem cut_plain {sep : UInt8} : ∀ (l cur : List UInt8) (A : List (List UInt8)), (∀ c ∈ l, ¬ (c.toNat : Int) = 34 ∧ c ≠ sep) → cutAt sep l false false cur A = some (addP A (cur ++ l))
  | [], cur, A, _ => by simp [cutAt]
  | c :: r, cur, A, h => by
    have hc := h c (by simp)
    rw [cutAt, if_neg (fun e => hc.2 e.2), qn_out false (bne_iff_ne.2 hc.1), cut_plain r _ _ (fun x hx => h x (by simp [hx]))]
    simp
theorem split_token {l : List UInt8} {sep : UInt8} (h : token l = true) (hs : badSep sep = false) (hn : ∀ c ∈ l, c ≠ sep) : splitE l sep = 0 ∧ splitL l sep = [l] := by
  have ht := h
  unfold token at h
  simp only [Bool.and_eq_true, List.all_eq_true] at h
  have hc := cut_plain (sep := sep) l [] [] (fun c hc => ⟨(tok_not (h.2 c hc)).2, hn c hc⟩)
  rw [List.nil_append] at hc
  have hp : addP [] l = [l] := by
    unfold addP; rw [trim_token ht]
    cases l with
    | nil => simp at h
    | cons c r => rfl
  rw [hp] at hc
  constructor <;> simp [splitE, splitL, hs, hc]
end Go.Proofs.Ytjbkjmceabilaaa
