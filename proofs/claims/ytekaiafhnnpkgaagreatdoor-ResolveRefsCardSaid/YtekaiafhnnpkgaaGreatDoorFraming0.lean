/- Where a body ends, plainly: what the fields of the two names say, element by element. Nothing of the program is read here. -/
import Derived.Test.YtekaiafhnnpkgaaGreatDoorFields0
import Derived.Test.YtekaiafhnnpkgaaGreatDoorLine0
import Derived.Lib.AtoiTie
namespace Go.Proofs.YtekaiafhnnpkgaaGreatDoor
def clN : List UInt8 := [99,111,110,116,101,110,116,45,108,101,110,103,116,104]
def teN : List UInt8 := [116,114,97,110,115,102,101,114,45,101,110,99,111,100,105,110,103]
def chN : List UInt8 := [99,104,117,110,107,101,100]
/-- does one of the values have an error of the cut; the elements of all of them -/
def amissB (vs : List (List UInt8)) : Bool := vs.any fun v => splitE v 44 != 0
def elemsL (vs : List (List UInt8)) : List (List UInt8) := vs.flatMap fun v => splitL v 44
/-- the number that digits spell -/
def decV (l : List UInt8) : Nat := l.foldl (fun n c => 10 * n + (c.toNat - 48)) 0
def lenB (l : List UInt8) : Bool := decide (1 ≤ l.length ∧ l.length ≤ 18) && l.all digB
def chB (l : List UInt8) : Bool := sameN l chN
/-- the first of the elements -/
def headE (vs : List (List UInt8)) : List UInt8 := (elemsL vs).headD []
def unlikeB (vs : List (List UInt8)) : Bool := (elemsL vs).any fun s => decV s != decV (headE vs)
/-- what is wrong, the kind, the number: of the values of the one name and of the other -/
def endE (a b : List (List UInt8)) : Int :=
  if !a.isEmpty && !b.isEmpty then 8
  else if !b.isEmpty then (if amissB b || !((elemsL b).length == 1 && chB (headE b)) then 4 else 0)
  else if !a.isEmpty then (if amissB a || (elemsL a).isEmpty || !(elemsL a).all lenB then 4 else if unlikeB a then 8 else 0)
  else 0
def endK (a b : List (List UInt8)) : Int := if endE a b = 0 then (if !b.isEmpty then 2 else if !a.isEmpty then 1 else 0) else 0
def endN (a b : List (List UInt8)) : Int := if endE a b = 0 ∧ a.isEmpty = false then decV (headE a) else 0
def bareB (n : Int) : Bool := (decide (100 ≤ n) && decide (n ≤ 199)) || (n == 204 || n == 304)
/-- a request's answer: kind, number, error -/
def askV (a b : List (List UInt8)) : Int × Int × Int :=
  if endE a b ≠ 0 then (0, 0, endE a b) else if 65536 < endN a b then (0, 0, 3) else (endK a b, endN a b, 0)
/-- a reply's -/
def tellV (a b : List (List UInt8)) (status : Int) (head : Bool) : Int × Int × Int :=
  if endE a b ≠ 0 then (0, 0, endE a b) else if head || bareB status then (0, 0, 0) else if 262144 < endN a b then (0, 0, 3)
  else if a.isEmpty && b.isEmpty then (3, 0, 0) else (endK a b, endN a b, 0)
def askR (l : List Fld) : Int × Int × Int := askV (valsL l clN) (valsL l teN)
def tellR (l : List Fld) (status : Int) (head : Bool) : Int × Int × Int := tellV (valsL l clN) (valsL l teN) status head

/-! ### the program's steps -/
def allP (vs : List (List UInt8)) (p : List UInt8 → Bool) : Bool := (elemsL vs).all p && (!amissB vs && decide (0 < (elemsL vs).length))
def singleE (a b : List (List UInt8)) : Int := if !a.isEmpty && !b.isEmpty then 8 else 0
def formedE (a b : List (List UInt8)) : Int := if (!a.isEmpty && !allP a lenB) || (!b.isEmpty && !allP b chB) then 4 else if 1 < (elemsL b).length then 4 else 0
def numV (s : List UInt8) : Int := atoiV s
def agreedE (a : List (List UInt8)) : Int := if (elemsL a).any (fun s => numV s != numV (headE a)) then 8 else 0
def readE (a b : List (List UInt8)) : Int := if singleE a b ≠ 0 then singleE a b else if formedE a b ≠ 0 then formedE a b else agreedE a

theorem elems_nil : elemsL [] = [] := rfl
theorem decFrom_dig : ∀ (l : List UInt8) (n : Nat), l.all digB = true → Lib.decFrom n l = some (l.foldl (fun n c => 10 * n + (c.toNat - 48)) n)
  | [], n, _ => rfl
  | c :: r, n, h => by
    rw [List.all_cons, Bool.and_eq_true] at h
    have g := digB_iff.1 h.1
    simp only [Lib.decFrom, Lib.digitVal, if_pos g, List.foldl_cons]
    rw [decFrom_dig r _ h.2, Nat.mul_comm]
theorem atoiV_len {s : List UInt8} (h : lenB s = true) : atoiV s = (decV s : Int) := by
  unfold lenB at h
  rw [Bool.and_eq_true, decide_eq_true_eq] at h
  obtain ⟨⟨h1, h2⟩, h3⟩ := h
  cases s with
  | nil => simp at h1
  | cons c r =>
    have hc : digB c = true := by rw [List.all_cons, Bool.and_eq_true] at h3; exact h3.1
    have g := digB_iff.1 hc
    have h45 : (c == 45) = false := by rw [beq_eq_false_iff_ne]; rintro rfl; exact absurd g (by decide)
    have h43 : (c == 43) = false := by rw [beq_eq_false_iff_ne]; rintro rfl; exact absurd g (by decide)
    unfold atoiV
    rw [Lib.atoiAll_short _ h2]
    simp only [Lib.atoi, h45, h43, Lib.decNat, List.isEmpty_cons, Bool.false_eq_true, if_false, decFrom_dig _ 0 h3, Option.map, Lib.NumEnd.ofOption]
    rfl
theorem decV_lt {s : List UInt8} (h : lenB s = true) : decV s < 9223372036854775808 := by
  unfold lenB at h
  rw [Bool.and_eq_true, decide_eq_true_eq] at h
  refine Lib.decNat_small (l := s) h.1.2 ?_
  unfold Lib.decNat
  rw [decFrom_dig _ 0 h.2]
  cases s with
  | nil => simp at h
  | cons c r => rfl
theorem head_mem {vs : List (List UInt8)} (h : elemsL vs ≠ []) : headE vs ∈ elemsL vs := by
  unfold headE
  cases h2 : elemsL vs with
  | nil => exact absurd h2 h
  | cons x r => simp
theorem agreed_eq {a : List (List UInt8)} (h : (elemsL a).all lenB = true) : agreedE a = if unlikeB a then 8 else 0 := by
  unfold agreedE unlikeB numV
  by_cases hn : elemsL a = []
  · rw [hn]; rfl
  · rw [List.all_eq_true] at h
    have hh := atoiV_len (h _ (head_mem hn))
    rw [show ((elemsL a).any fun s => atoiV s != atoiV (headE a)) = (elemsL a).any fun s => decV s != decV (headE a) from ?_]
    refine Bool.eq_iff_iff.2 ?_
    rw [List.any_eq_true, List.any_eq_true]
    constructor
    · rintro ⟨s, hs, he⟩
      refine ⟨s, hs, ?_⟩
      rw [bne_iff_ne] at he ⊢
      rw [hh, atoiV_len (h s hs)] at he
      omega
    · rintro ⟨s, hs, he⟩
      refine ⟨s, hs, ?_⟩
      rw [bne_iff_ne] at he ⊢
      rw [hh, atoiV_len (h s hs)]
      omega
theorem one_elem {E : List (List UInt8)} (h0 : 0 < E.length) (h1 : ¬ 1 < E.length) : E = [E.headD []] := by
  cases E with
  | nil => simp at h0
  | cons x r => cases r with
    | nil => rfl
    | cons y r => simp at h1
/-- THE PROGRAM'S READER FINDS WHAT IS WRONG BY THE DOCUMENT. -/
theorem read_eq (a b : List (List UInt8)) : readE a b = endE a b := by
  unfold readE singleE
  cases a with
  | nil =>
    cases b with
    | nil => simp [formedE, agreedE, endE, elemsL]
    | cons y q =>
      have hag : agreedE [] = 0 := rfl
      simp only [List.isEmpty_nil, List.isEmpty_cons, Bool.not_true, Bool.not_false, Bool.false_and, Bool.and_true, Bool.true_and, Bool.false_or, Bool.false_eq_true, if_false, if_true, endE, formedE, hag, ne_eq, not_true_eq_false]
      generalize hE : elemsL (y :: q) = E
      unfold allP headE
      rw [hE]
      cases hm : amissB (y :: q)
      · by_cases h0 : 0 < E.length
        · by_cases h1 : 1 < E.length
          · have h2 : (E.length == 1) = false := by rw [beq_eq_false_iff_ne]; omega
            rw [h2]
            cases E.all chB <;> simp [h0, h1]
          · have h2 : (E.length == 1) = true := by rw [beq_iff_eq]; omega
            have h3 := one_elem h0 h1
            have h4 : E.all chB = chB (E.headD []) := by rw [h3]; simp
            rw [h2, h4]
            cases chB (E.headD []) <;> simp [h0, h1]
        · have h2 : (E.length == 1) = false := by rw [beq_eq_false_iff_ne]; omega
          rw [h2]; simp [h0]
      · simp
  | cons x r =>
    cases b with
    | nil =>
      simp only [List.isEmpty_nil, List.isEmpty_cons, Bool.not_true, Bool.not_false, Bool.false_and, Bool.true_and, Bool.or_false, Bool.and_false, Bool.false_eq_true, if_false, if_true, endE, formedE, ne_eq, not_true_eq_false, elems_nil, List.length_nil]
      have hag := agreed_eq (a := x :: r)
      unfold allP
      generalize agreedE (x :: r) = G at *
      generalize unlikeB (x :: r) = U at *
      generalize elemsL (x :: r) = E at *
      cases hm : amissB (x :: r)
      · cases hl : E.all lenB
        · simp
        · rw [hag hl]
          cases E with
          | nil => simp
          | cons z t => cases U <;> simp
      · simp
    | cons y q => simp [endE]
theorem end_len {a b : List (List UInt8)} (h : endE a b = 0) (ha : a.isEmpty = false) : b.isEmpty = true ∧ elemsL a ≠ [] ∧ lenB (headE a) = true ∧ numV (headE a) = endN a b := by
  have hN : endN a b = decV (headE a) := by unfold endN; rw [if_pos ⟨h, ha⟩]
  cases hb : b.isEmpty
  · unfold endE at h; rw [ha, hb] at h; simp at h
  · unfold endE at h
    rw [ha, hb] at h
    simp only [Bool.not_true, Bool.not_false, Bool.and_false, Bool.false_eq_true, if_false, if_true] at h
    by_cases hc : (amissB a || (elemsL a).isEmpty || !(elemsL a).all lenB) = true
    · rw [if_pos hc] at h; simp at h
    · rw [Bool.not_eq_true, Bool.or_eq_false_iff, Bool.or_eq_false_iff, Bool.not_eq_false'] at hc
      have hne : elemsL a ≠ [] := by have := hc.1.2; intro e; rw [e] at this; simp at this
      have hl := (List.all_eq_true.1 hc.2) _ (head_mem hne)
      exact ⟨rfl, hne, hl, by rw [hN]; exact atoiV_len hl⟩
theorem end_one {a b : List (List UInt8)} (h : endE a b = 0) (hb : b.isEmpty = false) : a.isEmpty = true ∧ endK a b = 2 ∧ endN a b = 0 := by
  cases ha : a.isEmpty
  · unfold endE at h; rw [ha, hb] at h; simp at h
  · refine ⟨rfl, ?_, ?_⟩
    · unfold endK; rw [if_pos h, hb]; rfl
    · unfold endN; rw [if_neg (by rw [ha]; simp)]

/-! ### once more, and fields of other names -/
theorem vals_app (l m : List Fld) (n : List UInt8) : valsL (l ++ m) n = valsL l n ++ valsL m n := by unfold valsL; rw [List.filter_append, List.map_append]
theorem vals_ins (l : List Fld) (f : Fld) (k : Nat) {n : List UInt8} (h : sameN f.1 n = false) : valsL (l.take k ++ f :: l.drop k) n = valsL l n := by
  rw [vals_app, vals_cons, h]
  simp only [Bool.false_eq_true, if_false]
  rw [← vals_app, List.take_append_drop]
theorem elems_app (a b : List (List UInt8)) : elemsL (a ++ b) = elemsL a ++ elemsL b := by simp [elemsL]
theorem elems_one (v : List UInt8) : elemsL [v] = splitL v 44 := by simp [elemsL]
theorem elems_sub {a : List (List UInt8)} {v : List UInt8} (h : v ∈ a) : ∀ s ∈ splitL v 44, s ∈ elemsL a := fun s hs => by
  unfold elemsL; rw [List.mem_flatMap]; exact ⟨v, h, hs⟩
theorem any_app_sub {α : Type} {E F : List α} (p : α → Bool) (h : ∀ s ∈ F, s ∈ E) : (E ++ F).any p = E.any p := by
  rw [List.any_append]
  cases hF : F.any p
  · rw [Bool.or_false]
  · obtain ⟨s, h1, h2⟩ := List.any_eq_true.1 hF
    rw [List.any_eq_true.2 ⟨s, h s h1, h2⟩]; rfl
theorem all_app_sub {α : Type} {E F : List α} (p : α → Bool) (h : ∀ s ∈ F, s ∈ E) : (E ++ F).all p = E.all p := by
  rw [List.all_append]
  cases hE : E.all p
  · rfl
  · rw [Bool.true_and, List.all_eq_true]; exact fun s hs => (List.all_eq_true.1 hE) s (h s hs)
theorem again_end {a b : List (List UInt8)} {v : List UInt8} (h : v ∈ a) : endE (a ++ [v]) b = endE a b ∧ endK (a ++ [v]) b = endK a b ∧ endN (a ++ [v]) b = endN a b := by
  have ha : a.isEmpty = false := by cases a with | nil => simp at h | cons x r => rfl
  have ha2 : (a ++ [v]).isEmpty = false := by cases a <;> rfl
  have hsub := elems_sub h
  have hE : elemsL (a ++ [v]) = elemsL a ++ splitL v 44 := by rw [elems_app, elems_one]
  have hm : amissB (a ++ [v]) = amissB a := any_app_sub _ (fun s hs => by rw [List.mem_singleton.1 hs]; exact h)
  have hemp : (elemsL (a ++ [v])).isEmpty = (elemsL a).isEmpty := by
    rw [hE]
    cases he : elemsL a with
    | nil =>
      rw [he] at hsub
      cases hs : splitL v 44 with
      | nil => rfl
      | cons x r => exact absurd (hsub x (by rw [hs]; simp)) (by simp)
    | cons x r => rfl
  have hh : headE (a ++ [v]) = headE a := by
    unfold headE
    cases he : elemsL a with
    | nil =>
      have : elemsL (a ++ [v]) = [] := by
        have h3 := hemp
        rw [he] at h3
        exact List.isEmpty_iff.1 h3
      rw [this]
    | cons x r => rw [hE, he]; rfl
  have hl : (elemsL (a ++ [v])).all lenB = (elemsL a).all lenB := by rw [hE]; exact all_app_sub _ hsub
  have hu : unlikeB (a ++ [v]) = unlikeB a := by unfold unlikeB; rw [hh, hE]; exact any_app_sub _ hsub
  have h1 : endE (a ++ [v]) b = endE a b := by unfold endE; rw [ha, ha2, hm, hemp, hl, hu]
  refine ⟨h1, ?_, ?_⟩
  · unfold endK; rw [h1, ha, ha2]
  · unfold endN; rw [h1, ha, ha2, hh]
theorem ask_ins (l : List Fld) (f : Fld) (k : Nat) (h1 : sameN f.1 clN = false) (h2 : sameN f.1 teN = false) : askR (l.take k ++ f :: l.drop k) = askR l := by
  unfold askR; rw [vals_ins l f k h1, vals_ins l f k h2]
theorem tell_ins (l : List Fld) (f : Fld) (k : Nat) (s : Int) (d : Bool) (h1 : sameN f.1 clN = false) (h2 : sameN f.1 teN = false) : tellR (l.take k ++ f :: l.drop k) s d = tellR l s d := by
  unfold tellR; rw [vals_ins l f k h1, vals_ins l f k h2]
def clU : List UInt8 := [67,79,78,84,69,78,84,45,76,69,78,71,84,72]
theorem cl_same : sameN clU clN = true := by decide
theorem cl_other : sameN clU teN = false := by decide
theorem ask_again (l : List Fld) (v : List UInt8) (h : v ∈ valsL l clN) : askR (l ++ [(clU, v)]) = askR l := by
  have h1 : valsL (l ++ [(clU, v)]) clN = valsL l clN ++ [v] := by rw [vals_app, vals_cons]; simp only [cl_same, if_true]; rfl
  have h2 : valsL (l ++ [(clU, v)]) teN = valsL l teN := by rw [vals_app, vals_cons]; simp only [cl_other, Bool.false_eq_true, if_false]; simp [valsL]
  obtain ⟨g1, g2, g3⟩ := again_end (b := valsL l teN) h
  unfold askR askV
  rw [h1, h2, g1, g2, g3]

/-! ### how long, how many -/
theorem splitF_len (l : List UInt8) (sep : UInt8) : (splitL l sep).length ≤ 64 := by
  unfold splitL
  split
  · simp
  · split
    · simp
    · split
      · simp
      · omega
theorem cutF_len {sep : UInt8} : ∀ (l : List UInt8) (o e : Bool) (cur : List UInt8) (A R : List (List UInt8)), cutAt sep l o e cur A = some R → R.flatten.length ≤ A.flatten.length + cur.length + l.length
  | [], o, e, cur, A, R, h => by
    unfold cutAt at h
    split at h
    · cases h
    · cases h
      unfold addP
      have := trim_le cur
      split <;> simp <;> omega
  | c :: r, o, e, cur, A, R, h => by
    unfold cutAt at h
    split at h
    · have h1 := cutF_len r _ _ _ _ _ h
      have h2 : (addP A cur).flatten.length ≤ A.flatten.length + cur.length := by
        unfold addP
        have := trim_le cur
        split <;> simp <;> omega
      simp only [List.length_nil, List.length_cons] at h1 ⊢
      omega
    · have h1 := cutF_len r _ _ _ _ _ h
      simp only [List.length_append, List.length_cons, List.length_nil] at h1 ⊢
      omega
theorem memF_flat {L : List (List UInt8)} {x : List UInt8} (h : x ∈ L) : x.length ≤ L.flatten.length := by
  induction L with
  | nil => exact absurd h (by simp)
  | cons y r ih =>
    rw [List.flatten_cons, List.length_append]
    rcases List.mem_cons.1 h with rfl | h
    · omega
    · have := ih h; omega
theorem splitF_mem {l : List UInt8} {sep : UInt8} {x : List UInt8} (h : x ∈ splitL l sep) : x.length ≤ l.length := by
  refine Nat.le_trans (memF_flat h) ?_
  unfold splitL
  split
  · simp
  · split
    · simp
    · rename_i a h
      split
      · simp
      · have := cutF_len _ _ _ _ _ _ h; simpa using this
theorem elems_snoc {vs : List (List UInt8)} {k : Nat} (h : k < vs.length) : elemsL (vs.take (k + 1)) = elemsL (vs.take k) ++ splitL vs[k] 44 := by
  rw [List.take_succ_eq_append_getElem h, elems_app, elems_one]
theorem amiss_snoc {vs : List (List UInt8)} {k : Nat} (h : k < vs.length) : amissB (vs.take (k + 1)) = (amissB (vs.take k) || splitE vs[k] 44 != 0) := by
  unfold amissB
  rw [List.take_succ_eq_append_getElem h, List.any_append]
  simp only [List.any_cons, List.any_nil, Bool.or_false]
theorem elems_len (vs : List (List UInt8)) : (elemsL vs).length ≤ 64 * vs.length := by
  induction vs with
  | nil => simp [elemsL]
  | cons v r ih =>
    have h1 := splitF_len v 44
    rw [show v :: r = [v] ++ r from rfl, elems_app, elems_one, List.length_append, List.length_append]
    simp only [List.length_cons, List.length_nil]; omega
theorem elems_mem {vs : List (List UInt8)} {n : Nat} (h : ∀ v ∈ vs, v.length ≤ n) : ∀ s ∈ elemsL vs, s.length ≤ n := fun s hs => by
  unfold elemsL at hs
  rw [List.mem_flatMap] at hs
  obtain ⟨v, h1, h2⟩ := hs
  exact Nat.le_trans (splitF_mem h2) (h v h1)
end Go.Proofs.YtekaiafhnnpkgaaGreatDoor
