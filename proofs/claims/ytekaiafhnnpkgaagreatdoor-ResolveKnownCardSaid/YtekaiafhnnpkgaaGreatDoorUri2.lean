/- A path without dots, as the document goes about it: from an input to an output, plainly. Nothing of the program is read here. -/
import Derived.Test.YtekaiafhnnpkgaaGreatDoorUri1
namespace Go.Proofs.YtekaiafhnnpkgaaGreatDoor
/-- segments, a slash ahead of each -/
def outD (K : List (List UInt8)) : List UInt8 := K.flatMap fun x => 47 :: x
def dotS (s : List UInt8) : Bool := decide (s = [46]) || decide (s = [46, 46])
/-- what is kept in the end, of segments that are kept and segments that are left -/
def endD (K : List (List UInt8)) : List (List UInt8) → List (List UInt8)
  | [] => K
  | [s] => if dotS s then keepS K s ++ [[]] else K ++ [s]
  | s :: t => endD (keepS K s) t
theorem outD_nil : outD [] = [] := rfl
theorem outD_cons (x : List UInt8) (L : List (List UInt8)) : outD (x :: L) = 47 :: x ++ outD L := rfl
theorem outD_append (A B : List (List UInt8)) : outD (A ++ B) = outD A ++ outD B := by simp [outD]
theorem outD_one (x : List UInt8) : outD [x] = 47 :: x := by simp [outD]
theorem outD_join : ∀ {L : List (List UInt8)}, L ≠ [] → outD L = 47 :: Lib.join L [47]
  | [x], _ => by rw [Lib.join_one, outD_one]
  | x :: y :: t, _ => by rw [outD_cons, outD_join (L := y :: t) (by simp), join_cons2]; rfl
theorem outD_len (L : List (List UInt8)) : (outD L).length = jl L := by
  induction L with
  | nil => rfl
  | cons x L ih => rw [outD_cons, List.length_append, List.length_cons, jl_cons, ih]
theorem keepS_not {s : List UInt8} (h : dotS s = false) (K : List (List UInt8)) : keepS K s = K ++ [s] := by
  unfold dotS at h
  simp only [Bool.or_eq_false_iff, decide_eq_false_iff_not] at h
  unfold keepS
  rw [if_neg h.1, if_neg h.2]
theorem endD_two (K : List (List UInt8)) (s x : List UInt8) (t : List (List UInt8)) : endD K (s :: x :: t) = endD (keepS K s) (x :: t) := rfl
theorem endD_foldl : ∀ (S : List (List UInt8)) (K : List (List UInt8)), S ≠ [] → endD K S = S.foldl keepS K ++ (if (S.getLast?.map dotS) = some true then [[]] else [])
  | [s], K, _ => by
    unfold endD
    cases h : dotS s
    · simp [h, keepS_not h]
    · simp [h]
  | s :: x :: t, K, _ => by
    rw [endD_two, endD_foldl (x :: t) _ (by simp)]
    simp
theorem suffix_last : ∀ (d p : List UInt8), (∀ c ∈ d, c ≠ 47) → (47 :: d).isSuffixOf (47 :: p) = decide ((segs p).getLast? = some d)
  | d, p, hd => by
    rw [Bool.eq_iff_iff, decide_eq_true_eq, List.isSuffixOf_iff_suffix]
    have hp : p = Lib.join (segs p) [47] := (segs_join p).symm
    constructor
    · rintro ⟨t, ht⟩
      match t with
      | [] =>
        have : d = p := by simpa using ht
        subst this
        rw [segs_miss hd]; rfl
      | c :: t =>
        have h2 : t ++ 47 :: d = p := by simp at ht; exact ht.2
        rw [← h2]
        clear ht h2 hp
        induction t with
        | nil => rw [List.nil_append, segs_slash, segs_miss hd]; rfl
        | cons e t ih =>
          rw [List.cons_append]
          by_cases he : e = 47
          · subst he
            rw [segs_slash]
            match hs : segs (t ++ 47 :: d) with
            | [] => exact absurd hs (segs_ne _)
            | y :: u => rw [hs] at ih; rw [List.getLast?_cons_cons]; exact ih
          · obtain ⟨y, u, h1, h2⟩ := segs_other he (t ++ 47 :: d)
            rw [h1] at ih
            rw [h2]
            match u with
            | [] =>
              exfalso
              have h3 : Lib.join (segs (t ++ 47 :: d)) [47] = t ++ 47 :: d := segs_join _
              have h4 := segs_clean (t ++ 47 :: d) y (by rw [h1]; simp) 47
              rw [h1, Lib.join_one] at h3
              rw [h3] at h4
              exact h4 (by simp) rfl
            | z :: u => rw [List.getLast?_cons_cons] at ih ⊢; exact ih
    · intro h
      match hs : segs p with
      | [] => exact absurd hs (segs_ne p)
      | x :: t =>
        rw [hs] at h hp
        have key : ∀ (t : List (List UInt8)) (x : List UInt8), (x :: t).getLast? = some d → (47 :: d) <:+ (47 :: Lib.join (x :: t) [47]) := by
          intro t
          induction t with
          | nil => intro x h; rw [Lib.join_one]; simp at h; subst h; exact List.suffix_refl _
          | cons y t ih =>
            intro x h
            rw [List.getLast?_cons_cons] at h
            rw [join_cons2]
            exact (ih y h).trans ⟨47 :: x, by simp⟩
        rw [hp]
        exact key t x h
/-- a path without dots: what is kept, a slash ahead of each -/
theorem dots_out (p : List UInt8) : dotsL (47 :: p) = outD (endD [] (segs p)) := by
  have h1 : dotsL (47 :: p) = 47 :: Lib.join (keptL (segs p)) [47] ++ (if (!(keptL (segs p)).isEmpty) && (Lib.hasSuffix (47 :: p) [47, 46] || Lib.hasSuffix (47 :: p) [47, 46, 46]) then [47] else []) := rfl
  have e1 : Lib.hasSuffix (47 :: p) [47, 46] = decide ((segs p).getLast? = some [46]) := suffix_last [46] p (by decide)
  have e2 : Lib.hasSuffix (47 :: p) [47, 46, 46] = decide ((segs p).getLast? = some [46, 46]) := suffix_last [46, 46] p (by decide)
  have e3 : (Lib.hasSuffix (47 :: p) [47, 46] || Lib.hasSuffix (47 :: p) [47, 46, 46]) = decide (((segs p).getLast?.map dotS) = some true) := by
    rw [e1, e2]
    match (segs p).getLast? with
    | none => rfl
    | some d => simp [dotS]
  rw [h1, e3, endD_foldl _ _ (segs_ne p)]
  show _ = outD (keptL (segs p) ++ _)
  generalize hk : keptL (segs p) = K
  by_cases hd : ((segs p).getLast?.map dotS) = some true
  · rw [if_pos hd]
    match K with
    | [] => simp [hd, outD, Lib.join_nil]
    | x :: t => rw [outD_append, outD_join (by simp)]; simp [hd, outD]
  · rw [if_neg hd, List.append_nil]
    have hne : K ≠ [] := by
      intro h0
      match hl : (segs p).getLast? with
      | none => exact absurd (List.getLast?_eq_none_iff.1 hl) (segs_ne p)
      | some d =>
        have hl2 := List.getLast?_eq_some_iff.1 hl
        have hdd : dotS d = false := by
          rw [hl] at hd
          cases h : dotS d
          · rfl
          · exact absurd (by rw [Option.map_some, h]) hd
        obtain ⟨L, hL⟩ := hl2
        rw [hL, kept_snoc, keepS_not hdd] at hk
        rw [h0] at hk
        simp at hk
    rw [outD_join hne]
    simp [hd]
theorem endD_keep {x : List UInt8} (h : dotS x = false) (K L : List (List UInt8)) : endD K (x :: L) = endD (K ++ [x]) L := by
  match L with
  | [] => simp [endD, h]
  | y :: M => rw [endD_two, keepS_not h]
theorem endD_dot {x : List UInt8} (K : List (List UInt8)) {L : List (List UInt8)} (hL : L ≠ []) : endD K (x :: L) = endD (keepS K x) L := by
  match L with
  | [] => exact absurd rfl hL
  | y :: M => rw [endD_two]
theorem endD_dot1 {x : List UInt8} (h : dotS x = true) (K : List (List UInt8)) : endD K [x] = endD (keepS K x) [[]] := by
  have h2 : dotS [] = false := rfl
  simp [endD, h, h2]
/-- the last slash of what is kept -/
theorem outD_last (K : List (List UInt8)) (x : List UInt8) : outD (K ++ [x]) = outD K ++ 47 :: x := by rw [outD_append, outD_one]
end Go.Proofs.YtekaiafhnnpkgaaGreatDoor
