/- Plain lists of bytes: a list put together of tokens and quoted texts, with blanks and commas, is cut into them. -/
import Derived.Test.YtonioemenjjajaaText3
namespace Go.Proofs.Ytonioemenjjajaa
/-- a piece: nothing of it is cut, nothing is trimmed of it, and it is not empty -/
structure Piece (x : List UInt8) : Prop where
  ne : x ≠ []
  head : ∀ c r, x = c :: r → blankB c = false
  last : ∀ r c, x = r ++ [c] → blankB c = false
  bal : ∀ r cur A, cutAt 44 (x ++ r) false false cur A = cutAt 44 r false false (cur ++ x) A

theorem cut_plain2 {sep : UInt8} : ∀ (l r cur : List UInt8) (A : List (List UInt8)), (∀ c ∈ l, ¬ (c.toNat : Int) = 34 ∧ c ≠ sep) → cutAt sep (l ++ r) false false cur A = cutAt sep r false false (cur ++ l) A
  | [], r, cur, A, _ => by simp
  | c :: t, r, cur, A, h => by
    have hc := h c (by simp)
    rw [List.cons_append, cutAt, if_neg (fun e => hc.2 e.2), qn_out false (bne_iff_ne.2 hc.1), cut_plain2 t r _ _ (fun x hx => h x (by simp [hx]))]
    simp
theorem cut_in {sep : UInt8} : ∀ (l r cur : List UInt8) (A : List (List UInt8)), cutAt sep (quoteB l ++ r) true false cur A = cutAt sep r true false (cur ++ quoteB l) A
  | [], r, cur, A => by simp [quoteB]
  | c :: t, r, cur, A => by
    have hq : quoteB (c :: t) = (if (c.toNat : Int) = 34 ∨ (c.toNat : Int) = 92 then [92, c] else [c]) ++ quoteB t := by simp [quoteB]
    rw [hq]
    by_cases h1 : (c.toNat : Int) = 34 ∨ (c.toNat : Int) = 92
    · rw [if_pos h1]
      show cutAt sep (92 :: c :: (quoteB t ++ r)) true false cur A = _
      rw [cutAt, if_neg (by simp), qn_back (by rfl)]
      show cutAt sep (c :: (quoteB t ++ r)) true true _ A = _
      rw [cutAt, if_neg (by simp), qn_esc]
      show cutAt sep (quoteB t ++ r) true false _ A = _
      rw [cut_in t r]
      simp
    · rw [if_neg h1]
      show cutAt sep (c :: (quoteB t ++ r)) true false cur A = _
      rw [cutAt, if_neg (by simp), qn_held (beq_eq_false_iff_ne.2 fun e => h1 (.inr e)) (beq_eq_false_iff_ne.2 fun e => h1 (.inl e))]
      show cutAt sep (quoteB t ++ r) true false _ A = _
      rw [cut_in t r]
      simp
theorem piece_token {x : List UInt8} (h : token x = true) : Piece x := by
  have h0 := h
  unfold token at h
  simp only [Bool.and_eq_true, List.all_eq_true] at h
  refine ⟨by rintro rfl; simp at h, fun c r e => (tok_not (h.2 c (by rw [e]; simp))).1, fun r c e => (tok_not (h.2 c (by rw [e]; simp))).1, fun r cur A => cut_plain2 x r cur A fun c hc => ⟨(tok_not (h.2 c hc)).2, ?_⟩⟩
  rintro rfl
  have := h.2 44 hc
  revert this; decide
theorem piece_quote {l : List UInt8} (h : l.all mayB = true) : Piece (quoteS l) := by
  rw [quoteS, if_pos h]
  refine ⟨by simp, fun c r e => ?_, fun r c e => ?_, fun r cur A => ?_⟩
  · have : c = 34 := (List.cons.inj e).1.symm
    rw [this]; decide
  · have e2 : [34] = [c] := (List.append_inj' (s₁ := 34 :: quoteB l) e rfl).2
    rw [← (List.cons.inj e2).1]; decide
  · show cutAt 44 (34 :: (quoteB l ++ [34] ++ r)) false false cur A = _
    rw [cutAt, if_neg (by decide), qn_open false (by rfl), List.append_assoc]
    show cutAt 44 (quoteB l ++ ([34] ++ r)) true false _ A = _
    rw [cut_in]
    show cutAt 44 (34 :: r) true false _ A = _
    rw [cutAt, if_neg (by simp), qn_close (by rfl) (by rfl)]
    simp

/-- blanks -/
def gaps (g : List UInt8) : Prop := ∀ c ∈ g, blankB c = true
theorem gap_plain {g : List UInt8} (h : gaps g) : ∀ c ∈ g, ¬ (c.toNat : Int) = 34 ∧ c ≠ (44 : UInt8) := fun c hc => by
  have hb := h c hc
  unfold blankB blankI at hb
  rw [decide_eq_true_iff] at hb
  exact ⟨by omega, by rintro rfl; revert hb; decide⟩
theorem ltrim_gap {g : List UInt8} (h : gaps g) (l : List UInt8) : ltrim (g ++ l) = ltrim l := by
  induction g with
  | nil => rfl
  | cons c t ih =>
    have hc : blankB c = true := h c (by simp)
    have := ih (fun x hx => h x (by simp [hx]))
    unfold ltrim at this ⊢
    rw [List.cons_append, List.dropWhile_cons, if_pos hc, this]
theorem rtrim_gap (l g : List UInt8) (h : gaps g) : rtrim (l ++ g) = rtrim l := by
  show (ltrim (l ++ g).reverse).reverse = (ltrim l.reverse).reverse
  rw [List.reverse_append, ltrim_gap (fun c hc => h c (by simpa using hc))]
theorem trim_gaps {g x : List UInt8} (hg : gaps g) (hx : Piece x) : trim (g ++ x ++ g) = x := by
  show rtrim (ltrim (g ++ x ++ g)) = x
  rw [List.append_assoc, ltrim_gap hg]
  have h1 : ltrim (x ++ g) = x ++ g := ltrim_idem_of fun c r e => by
    cases x with
    | nil => exact absurd rfl hx.ne
    | cons d t => exact (List.cons.inj e).1 ▸ hx.head d t rfl
  rw [h1, rtrim_gap x g hg]
  exact rtrim_idem_of hx.last
theorem trim_blank {g : List UInt8} (hg : gaps g) : trim g = [] := by
  have h := ltrim_gap hg []
  rw [List.append_nil] at h
  show rtrim (ltrim g) = []
  rw [h]; rfl
theorem cut_comma (r cur : List UInt8) (A : List (List UInt8)) : cutAt 44 (44 :: r) false false cur A = cutAt 44 r false false [] (addP A cur) := by
  rw [cutAt, if_pos ⟨rfl, rfl⟩]
theorem addP_piece {g x : List UInt8} (hg : gaps g) (hx : Piece x) (A : List (List UInt8)) : addP A (g ++ x ++ g) = A ++ [x] := by
  unfold addP
  rw [trim_gaps hg hx, if_neg (by have := hx.ne; simp [this])]
theorem cut_all {g : List UInt8} (hg : gaps g) : ∀ (W : List (List UInt8)) (A : List (List UInt8)), W ≠ [] → (∀ x ∈ W, Piece x) → cutAt 44 (Lib.join W (g ++ [44] ++ g) ++ g ++ [44]) false false g A = some (A ++ W)
  | [], _, h, _ => absurd rfl h
  | [x], A, _, h => by
    have hx := h x (by simp)
    have e : Lib.join [x] (g ++ [44] ++ g) ++ g ++ [44] = x ++ (g ++ (44 :: [])) := by simp [Lib.join, List.intercalate]
    rw [e, hx.bal, cut_plain2 g _ _ _ (gap_plain hg), cut_comma, addP_piece hg hx]
    simp [cutAt, addP, trim, ltrim, rtrim]
  | x :: y :: r, A, _, h => by
    have hx := h x (by simp)
    have e : Lib.join (x :: y :: r) (g ++ [44] ++ g) ++ g ++ [44] = x ++ (g ++ (44 :: (g ++ (Lib.join (y :: r) (g ++ [44] ++ g) ++ g ++ [44])))) := by simp [Lib.join, List.intercalate]
    rw [e, hx.bal, cut_plain2 g _ _ _ (gap_plain hg), cut_comma, addP_piece hg hx, cut_plain2 g _ _ _ (gap_plain hg), List.nil_append, cut_all hg (y :: r) _ (by simp) (fun z hz => h z (by simp [hz]))]
    simp
theorem split_all {g : List UInt8} (hg : gaps g) (W : List (List UInt8)) (hW : ∀ x ∈ W, Piece x) (hl : W.length ≤ 64) :
    splitE (g ++ Lib.join W (g ++ [44] ++ g) ++ g ++ [44]) 44 = 0 ∧ splitL (g ++ Lib.join W (g ++ [44] ++ g) ++ g ++ [44]) 44 = W := by
  have hc : cutAt 44 (g ++ Lib.join W (g ++ [44] ++ g) ++ g ++ [44]) false false [] [] = some W := by
    by_cases h0 : W = []
    · subst h0
      have e : g ++ Lib.join [] (g ++ [44] ++ g) ++ g ++ [44] = g ++ (g ++ (44 :: [])) := by simp [Lib.join, List.intercalate]
      rw [e, cut_plain2 g _ _ _ (gap_plain hg), cut_plain2 g _ _ _ (gap_plain hg), cut_comma]
      have hb : trim ([] ++ g ++ g) = [] := trim_blank (by intro c hc; simp at hc; exact hg c hc)
      unfold addP
      rw [hb]
      simp [cutAt, addP, trim, ltrim, rtrim]
    · have e : g ++ Lib.join W (g ++ [44] ++ g) ++ g ++ [44] = g ++ (Lib.join W (g ++ [44] ++ g) ++ g ++ [44]) := by simp
      rw [e, cut_plain2 g _ _ _ (gap_plain hg), List.nil_append, cut_all hg W [] h0 hW, List.nil_append]
  have hb : badSep 44 = false := by decide
  constructor <;> simp only [splitE, splitL, hb, hc]
  · rw [if_neg (by simp), if_neg (by omega)]
  · rw [if_neg (by simp), if_neg (by omega)]

/-- what the statement makes of the text at place k: nothing, the token, or the text in quotes -/
def wantAt (k : Nat) (x : List UInt8) : List (List UInt8) :=
  if 100 < x.length ∨ x.all mayB = false then [] else if token x = true ∧ k % 2 = 0 then [x] else [quoteS x]
def wantTo (f : Nat → List UInt8) : Nat → List (List UInt8)
  | 0 => []
  | k + 1 => wantTo f k ++ wantAt k (f k)
theorem wantAt_piece (k : Nat) (x : List UInt8) : ∀ y ∈ wantAt k x, Piece y := by
  unfold wantAt
  split
  · intro y hy; cases hy
  · rename_i h
    have hm : x.all mayB = true := by cases hh : x.all mayB with | true => rfl | false => exact absurd (.inr hh) h
    split
    · rename_i ht; intro y hy; rw [List.mem_singleton] at hy; subst hy; exact piece_token ht.1
    · intro y hy; rw [List.mem_singleton] at hy; subst hy; exact piece_quote hm
theorem wantTo_piece (f : Nat → List UInt8) : ∀ k, ∀ y ∈ wantTo f k, Piece y
  | 0 => by intro y hy; cases hy
  | k + 1 => by
    intro y hy
    rcases List.mem_append.1 hy with h | h
    · exact wantTo_piece f k y h
    · exact wantAt_piece k _ y h
theorem wantAt_len (k : Nat) (x : List UInt8) : (wantAt k x).length ≤ 1 ∧ (wantAt k x).flatten.length ≤ 202 := by
  unfold wantAt
  split
  · simp
  · rename_i h
    have hl : x.length ≤ 100 := by omega
    have := quoteS_len x
    split <;> simp <;> omega
theorem wantTo_len (f : Nat → List UInt8) : ∀ k, (wantTo f k).length ≤ k ∧ (wantTo f k).flatten.length ≤ 202 * k
  | 0 => by simp [wantTo]
  | k + 1 => by
    have h1 := wantTo_len f k
    have h2 := wantAt_len k (f k)
    simp only [wantTo, List.length_append, List.flatten_append]
    omega
theorem join_len (sep : List UInt8) : ∀ L : List (List UInt8), (Lib.join L sep).length ≤ L.flatten.length + L.length * sep.length
  | [] => by simp [Lib.join, List.intercalate]
  | [x] => by simp [Lib.join, List.intercalate]
  | x :: y :: r => by
    have h := join_len sep (y :: r)
    have e : Lib.join (x :: y :: r) sep = x ++ sep ++ Lib.join (y :: r) sep := by simp [Lib.join, List.intercalate]
    rw [e]
    simp only [List.length_append, List.flatten_cons, List.length_cons, Nat.add_mul, Nat.one_mul] at h ⊢
    omega
end Go.Proofs.Ytonioemenjjajaa
