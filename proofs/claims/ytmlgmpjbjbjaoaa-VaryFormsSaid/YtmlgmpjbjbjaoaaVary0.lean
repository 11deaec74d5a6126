/- Which fields of a request select a reply, plainly: names, values, matches; what the laws say of them. -/
import Derived.Test.YtmlgmpjbjbjaoaaKPlain
namespace Go.Proofs.Ytmlgmpjbjbjaoaa

/-- an element that names no field -/
def namelessB (x : List UInt8) : Bool := x == [42] || !token x
/-- a value by which a reply varies by everything -/
def badV (v : List UInt8) : Bool := splitE v 44 != 0 || (splitL v 44).any namelessB
def putN (a : List (List UInt8)) (x : List UInt8) : List (List UInt8) := if a.any (· == lower x) then a else a ++ [lower x]
def putV (a : List (List UInt8)) (v : List UInt8) : List (List UInt8) := (splitL v 44).foldl putN a
def namesOf (vs : List (List UInt8)) : List (List UInt8) := vs.foldl putV []
def allB (vs : List (List UInt8)) : Bool := vs.any badV
def namesA (vs : List (List UInt8)) : List (List UInt8) := if allB vs then [] else namesOf vs
/-- what a value comes to -/
def partsV (v : List UInt8) : List (List UInt8) := if splitE v 44 = 0 then splitL v 44 else [trim v]
def partsN (l : List Fld) (n : List UInt8) : List (List UInt8) := (valsL l n).flatMap partsV
def valueL (l : List Fld) (n : List UInt8) : List UInt8 := Lib.join (partsN l n) [44, 32]
def selectL (names : List (List UInt8)) (l : List Fld) : List Fld := names.map fun n => (n, valueL l n)
def matchB (vary l : List Fld) : Bool := vary.all fun f => f.2 == valueL l f.1

/-! No part is empty. -/
theorem dropWhile_nil {p : UInt8 → Bool} : ∀ {l : List UInt8}, l.dropWhile p = [] → ∀ x ∈ l, p x = true
  | [], _, _, h => by cases h
  | c :: r, h, x, hx => by
    cases hc : p c with
    | false => rw [List.dropWhile_cons, hc] at h; cases h
    | true =>
      rw [List.dropWhile_cons, hc, if_pos rfl] at h
      rcases List.mem_cons.1 hx with rfl | hx
      · exact hc
      · exact dropWhile_nil h x hx
theorem trim_nil {v : List UInt8} (h : trim v = []) : gaps v := by
  have h1 : (ltrim v).reverse.dropWhile blankB = [] := by
    have h2 : ((ltrim v).reverse.dropWhile blankB).reverse = [] := h
    simpa using h2
  replace h1 := dropWhile_nil h1
  have h3 : ltrim v = [] := by
    cases hl : ltrim v with
    | nil => rfl
    | cons c r =>
      have := dropWhile_head (p := blankB) (l := v) hl
      rw [hl] at h1
      have h4 := h1 c (by simp)
      rw [this] at h4; cases h4
  unfold ltrim at h3
  exact dropWhile_nil h3
theorem trim_ne {v : List UInt8} (h : ¬ splitE v 44 = 0) : trim v ≠ [] := fun e => by
  have hg := trim_nil e
  apply h
  have hc := cut_plain (sep := 44) v [] [] (gap_plain hg)
  have hb : badSep 44 = false := by decide
  unfold splitE
  rw [if_neg (by rw [hb]; simp), hc]
  simp [addP, trim_blank hg]
theorem addP_ne {A : List (List UInt8)} {cur : List UInt8} (h : ∀ x ∈ A, x ≠ []) : ∀ x ∈ addP A cur, x ≠ [] := by
  unfold addP
  split
  · exact h
  · rename_i hc
    intro x hx
    rcases List.mem_append.1 hx with hx | hx
    · exact h x hx
    · obtain rfl : x = trim cur := by simpa using hx
      intro e; rw [e] at hc; exact hc rfl
theorem cutAt_ne {sep : UInt8} : ∀ (l : List UInt8) (o e : Bool) (cur : List UInt8) (A R : List (List UInt8)), (∀ x ∈ A, x ≠ []) → cutAt sep l o e cur A = some R → ∀ x ∈ R, x ≠ []
  | [], o, e, cur, A, R, hA, h => by
    unfold cutAt at h
    split at h
    · cases h
    · cases h; exact addP_ne hA
  | c :: r, o, e, cur, A, R, hA, h => by
    unfold cutAt at h
    split at h
    · exact cutAt_ne r _ _ _ _ _ (addP_ne hA) h
    · exact cutAt_ne r _ _ _ _ _ hA h
theorem splitL_ne (l : List UInt8) (sep : UInt8) : ∀ x ∈ splitL l sep, x ≠ [] := by
  unfold splitL
  split
  · simp
  · split
    · simp
    · rename_i a h
      split
      · simp
      · exact cutAt_ne _ _ _ _ _ _ (by simp) h
theorem partsV_ne (v : List UInt8) : ∀ x ∈ partsV v, x ≠ [] := by
  unfold partsV
  split
  · exact splitL_ne v 44
  · rename_i h
    intro x hx
    obtain rfl : x = trim v := by simpa using hx
    exact trim_ne h
theorem partsN_ne (l : List Fld) (n : List UInt8) : ∀ x ∈ partsN l n, x ≠ [] := by
  intro x hx
  obtain ⟨v, _, hv⟩ := List.mem_flatMap.1 hx
  exact partsV_ne v x hv

/-! Parts put together one by one. -/
def glueP (s x : List UInt8) : List UInt8 := (if x ≠ [] ∧ s ≠ [] then s ++ [44, 32] else s) ++ x
theorem join_ne {L : List (List UInt8)} (h : ∀ x ∈ L, x ≠ []) (hL : L ≠ []) : Lib.join L [44, 32] ≠ [] := by
  cases L with
  | nil => exact absurd rfl hL
  | cons x r =>
    cases r with
    | nil => simpa [Lib.join, List.intercalate] using h x (by simp)
    | cons y t => simp [Lib.join, List.intercalate]
theorem glue_step {L : List (List UInt8)} {x : List UInt8} (h : ∀ y ∈ L, y ≠ []) (hx : x ≠ []) : Lib.join (L ++ [x]) [44, 32] = glueP (Lib.join L [44, 32]) x := by
  unfold glueP
  by_cases hL : L = []
  · subst hL
    simp [Lib.join, List.intercalate]
  · rw [join_snoc L x [44, 32] hL, if_pos ⟨hx, join_ne h hL⟩]

/-! Names. -/
theorem lower_star {x : List UInt8} (h : lower x = [42]) : x = [42] := by
  unfold lower at h
  match x, h with
  | [], h => cases h
  | [c], h =>
    have h1 : lowB c = 42 := by simpa using h
    have h2 : c = 42 := by
      unfold lowB at h1
      split at h1
      · rename_i hc
        have h3 := congrArg UInt8.toNat h1
        rw [UInt8.toNat_add] at h3
        have e1 : (32 : UInt8).toNat = 32 := rfl
        have e2 : (42 : UInt8).toNat = 42 := rfl
        rw [e1, e2] at h3
        omega
      · exact h1
    rw [h2]
  | c :: d :: r, h => simp at h
/-- a name that a reply may tell -/
def NameB (x : List UInt8) : Prop := token x = true ∧ lower x = x ∧ x ≠ [42]
theorem name_of {x : List UInt8} (h : namelessB x = false) : NameB (lower x) := by
  unfold namelessB at h
  rw [Bool.or_eq_false_iff] at h
  have h1 : x ≠ [42] := by simpa using h.1
  have h2 : token x = true := by simpa using h.2
  exact ⟨token_lower h2, lower_idem x, fun e => h1 (lower_star e)⟩
theorem putN_mem {a : List (List UInt8)} {x : List UInt8} (ha : ∀ y ∈ a, NameB y) (hx : namelessB x = false) : ∀ y ∈ putN a x, NameB y := by
  unfold putN
  split
  · exact ha
  · intro y hy
    rcases List.mem_append.1 hy with hy | hy
    · exact ha y hy
    · obtain rfl : y = lower x := by simpa using hy
      exact name_of hx
theorem foldN_mem : ∀ (L : List (List UInt8)) {a : List (List UInt8)}, (∀ y ∈ a, NameB y) → (∀ x ∈ L, namelessB x = false) → ∀ y ∈ L.foldl putN a, NameB y
  | [], _, ha, _ => ha
  | x :: r, _, ha, h => foldN_mem r (putN_mem ha (h x (by simp))) (fun z hz => h z (by simp [hz]))
theorem badV_false {v : List UInt8} (h : badV v = false) : splitE v 44 = 0 ∧ ∀ x ∈ splitL v 44, namelessB x = false := by
  unfold badV at h
  rw [Bool.or_eq_false_iff] at h
  refine ⟨by simpa using h.1, fun x hx => ?_⟩
  have := h.2
  rw [List.any_eq_false] at this
  simpa using this x hx
theorem foldV_mem : ∀ (vs : List (List UInt8)) {a : List (List UInt8)}, (∀ y ∈ a, NameB y) → (∀ v ∈ vs, badV v = false) → ∀ y ∈ vs.foldl putV a, NameB y
  | [], _, ha, _ => ha
  | v :: r, _, ha, h => foldV_mem r (foldN_mem _ ha (badV_false (h v (by simp))).2) (fun z hz => h z (by simp [hz]))
theorem allB_false {vs : List (List UInt8)} (h : allB vs = false) : ∀ v ∈ vs, badV v = false := by
  unfold allB at h
  rw [List.any_eq_false] at h
  intro v hv
  simpa using h v hv
theorem names_mem {vs : List (List UInt8)} (h : allB vs = false) : ∀ y ∈ namesA vs, NameB y := by
  unfold namesA
  rw [h]
  exact foldV_mem vs (by simp) (allB_false h)

/-! How many names, how long. -/
theorem putN_len (a : List (List UInt8)) (x : List UInt8) : (putN a x).length ≤ a.length + 1 := by
  unfold putN; split <;> simp
theorem foldN_len : ∀ (L a : List (List UInt8)), (L.foldl putN a).length ≤ a.length + L.length
  | [], _ => by simp
  | x :: r, a => by
    have h1 := foldN_len r (putN a x)
    have h2 := putN_len a x
    simp only [List.foldl_cons, List.length_cons]
    omega
theorem foldN_size {B : Nat} : ∀ (L : List (List UInt8)) {a : List (List UInt8)}, (∀ y ∈ a, y.length ≤ B) → (∀ x ∈ L, x.length ≤ B) → ∀ y ∈ L.foldl putN a, y.length ≤ B
  | [], _, ha, _ => ha
  | x :: r, a, ha, h => by
    refine foldN_size r ?_ (fun z hz => h z (by simp [hz]))
    unfold putN
    split
    · exact ha
    · intro y hy
      rcases List.mem_append.1 hy with hy | hy
      · exact ha y hy
      · obtain rfl : y = lower x := by simpa using hy
        rw [lower_len]; exact h x (by simp)

/-! An entry whose fields were selected. -/
theorem match_select (names : List (List UInt8)) (a b : List Fld) : matchB (selectL names a) b = (selectL names a == selectL names b) := by
  unfold matchB selectL
  rw [List.all_map]
  induction names with
  | nil => rfl
  | cons n r ih =>
    rw [List.all_cons, ih, List.map_cons, List.map_cons, List.cons_beq_cons]
    congr 1
    show (valueL a n == valueL b n) = ((n == n) && (valueL a n == valueL b n))
    simp
theorem match_self (names : List (List UInt8)) (a : List Fld) : matchB (selectL names a) a = true := by
  rw [match_select]; simp
theorem select_len (names : List (List UInt8)) (a : List Fld) : (selectL names a).length = names.length := by simp [selectL]

/-! A line of a list: tokens, blanks around each, a comma behind each. -/
/-- x stands for the tokens P: whatever stands behind it -/
def lineP (x : List UInt8) (P : List (List UInt8)) : Prop := ∀ (r : List UInt8) (A : List (List UInt8)), cutAt 44 (x ++ r) false false [] A = cutAt 44 r false false [] (A ++ P)
theorem lineP_nil : lineP [] [] := fun r A => by rw [List.nil_append, List.append_nil]
theorem trim_wide {g h t : List UInt8} (hg : gaps g) (hh : gaps h) (ht : token t = true) : trim (g ++ t ++ h) = t := by
  have hx := piece_token ht
  show rtrim (ltrim (g ++ t ++ h)) = t
  rw [List.append_assoc, ltrim_gap hg]
  have h1 : ltrim (t ++ h) = t ++ h := ltrim_idem_of fun c r e => by
    cases t with
    | nil => exact absurd rfl hx.ne
    | cons d q => exact (List.cons.inj e).1 ▸ hx.head d q rfl
  rw [h1, rtrim_gap t h hh]
  exact rtrim_idem_of hx.last
theorem lineP_put {x : List UInt8} {P : List (List UInt8)} (hx : lineP x P) {g h t : List UInt8} (hg : gaps g) (hh : gaps h) (ht : token t = true) : lineP (x ++ g ++ t ++ h ++ [44]) (P ++ [t]) := fun r A => by
  have hp := piece_token ht
  have e : x ++ g ++ t ++ h ++ [44] ++ r = x ++ (g ++ (t ++ (h ++ (44 :: r)))) := by simp
  rw [e, hx, cut_plain2 g _ _ _ (gap_plain hg), hp.bal, cut_plain2 h _ _ _ (gap_plain hh), cut_comma]
  rw [List.nil_append, show addP (A ++ P) (g ++ t ++ h) = A ++ (P ++ [t]) from by
    unfold addP
    rw [trim_wide hg hh ht, if_neg (by have := hp.ne; simp [this]), List.append_assoc]]
theorem lineP_split {x : List UInt8} {P : List (List UInt8)} (hx : lineP x P) (hl : P.length ≤ 64) : splitE x 44 = 0 ∧ splitL x 44 = P := by
  have hc : cutAt 44 x false false [] [] = some P := by
    have h := hx [] []
    rw [List.append_nil, List.nil_append] at h
    rw [h]
    simp [cutAt, addP, trim, ltrim, rtrim]
  have hb : badSep 44 = false := by decide
  refine ⟨?_, ?_⟩
  · unfold splitE; rw [if_neg (by rw [hb]; simp), hc]; simp only; rw [if_neg (by omega)]
  · unfold splitL; rw [if_neg (by rw [hb]; simp), hc]; simp only; rw [if_neg (by omega)]
theorem lineP_parts {x : List UInt8} {P : List (List UInt8)} (hx : lineP x P) (hl : P.length ≤ 64) : partsV x = P := by
  obtain ⟨h1, h2⟩ := lineP_split hx hl
  unfold partsV; rw [if_pos h1, h2]
theorem partsN_app (a b : List Fld) (n : List UInt8) : partsN (a ++ b) n = partsN a n ++ partsN b n := by
  unfold partsN valsL
  rw [List.filter_append, List.map_append, List.flatMap_append]
theorem partsN_one (f : Fld) (n : List UInt8) : partsN [f] n = if sameN f.1 n then partsV f.2 else [] := by
  unfold partsN valsL
  cases h : sameN f.1 n <;> simp [h]
end Go.Proofs.Ytmlgmpjbjbjaoaa
