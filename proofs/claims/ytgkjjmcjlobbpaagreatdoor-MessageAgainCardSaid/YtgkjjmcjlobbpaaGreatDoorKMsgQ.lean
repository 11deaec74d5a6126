/- What is written of a message is read as it was, whatever stands behind it; a beginning of it is told to be one. Lists of bytes alone. -/
import Derived.Test.YtgkjjmcjlobbpaaGreatDoorKChunkL
import Derived.Test.YtgkjjmcjlobbpaaGreatDoorKMsgA
import Derived.Test.YtgkjjmcjlobbpaaGreatDoorKPlain
namespace Go.Proofs.YtgkjjmcjlobbpaaGreatDoor

theorem findM_same {r t mark : List UInt8} {most n : Nat} (hm : mark ≠ []) (h : findL r mark most = (n, 0)) (ht : t.take (n + mark.length) = r.take (n + mark.length)) : findL t mark most = (n, 0) := by
  obtain ⟨h1, h2, h3, h4⟩ := find_hit (s := r) (mark := mark) (most := most) hm (by rw [h])
  rw [h] at h1 h2 h3 h4
  simp only at h1 h2 h3 h4
  exact find_of hm h1 (by rw [occ_same (Nat.le_refl _) ht]; exact h3) (fun j hj => by rw [occ_same (t := r) (m := n + mark.length) (by omega) ht]; exact h4 j hj)
theorem findM_less {r mark : List UInt8} {most n j : Nat} (hm : mark ≠ []) (h : findL r mark most = (n, 0)) (hj : j < n + mark.length) : findL (r.take j) mark most = (0, 6) := by
  obtain ⟨h1, h2, h3, h4⟩ := find_hit (s := r) (mark := mark) (most := most) hm (by rw [h])
  rw [h] at h1 h2 h3 h4
  simp only at h1 h2 h3 h4
  rw [find_none hm fun i _ => ?_, if_neg]
  · rw [List.length_take]; omega
  · cases ho : Lib.occAt (r.take j) mark i
    · rfl
    · have hr := occ_room ho hm
      rw [List.length_take] at hr
      rw [occ_take (by omega), h4 i (by omega)] at ho
      exact absurd ho (by decide)

/-! ### a number's digits -/
theorem decV_snoc (l : List UInt8) (c : UInt8) : decV (l ++ [c]) = 10 * decV l + (c.toNat - 48) := by unfold decV; rw [List.foldl_append]; rfl
theorem dig8_of (d : Nat) (h : d < 10) : digB (UInt8.ofNat (48 + d)) = true ∧ (UInt8.ofNat (48 + d)).toNat = 48 + d := by
  have : (UInt8.ofNat (48 + d)).toNat = 48 + d := by simp; omega
  exact ⟨digB_iff.2 (by omega), this⟩
theorem dec8_all (u : Nat) : (Lib.decDigits u).all digB = true ∧ decV (Lib.decDigits u) = u ∧ Lib.decDigits u ≠ [] := by
  induction u using Nat.strongRecOn with
  | _ u ih =>
    rw [Lib.decDigits]
    split
    · rename_i h
      have := dig8_of u h
      exact ⟨by rw [List.all_cons, this.1]; rfl, by unfold decV; simp only [List.foldl_cons, List.foldl_nil]; rw [this.2]; omega, by simp⟩
    · rename_i h
      obtain ⟨h1, h2, h3⟩ := ih (u / 10) (by omega)
      have := dig8_of (u % 10) (by omega)
      refine ⟨by rw [List.all_append, h1, List.all_cons, this.1]; rfl, by rw [decV_snoc, h2, this.2]; omega, by simp⟩
theorem dec8_len : ∀ (k u : Nat), u < 10 ^ (k + 1) → (Lib.decDigits u).length ≤ k + 1
  | 0, u, h => by rw [Lib.decDigits, dif_pos (by simpa using h)]; simp
  | k + 1, u, h => by
    rw [Lib.decDigits]
    split
    · simp
    · rw [List.length_append]
      have := dec8_len k (u / 10) (by rw [Nat.pow_succ] at h; omega)
      simp only [List.length_cons, List.length_nil]
      omega
theorem itoa_nat (n : Nat) : Lib.itoa (n : Int) = Lib.decDigits n := by unfold Lib.itoa; rw [if_neg (by omega)]; rfl
theorem dig_tok {c : UInt8} (h : digB c = true) : tokB c = true := by
  have := digB_iff.1 h
  unfold tokB tokI
  simp
  omega
theorem itoa_token (n : Nat) : token (Lib.itoa (n : Int)) = true := by
  rw [itoa_nat]
  obtain ⟨h1, _, h3⟩ := dec8_all n
  unfold token
  rw [Bool.and_eq_true]
  refine ⟨by simpa using h3, ?_⟩
  rw [List.all_eq_true] at h1 ⊢
  exact fun c hc => dig_tok (h1 c hc)
theorem itoa_lenB {n : Nat} (h : n ≤ 1048576) : lenB (Lib.itoa (n : Int)) = true := by
  rw [itoa_nat]
  obtain ⟨h1, _, h3⟩ := dec8_all n
  have := dec8_len 6 n (by omega)
  unfold lenB
  rw [h1, Bool.and_true, decide_eq_true_eq]
  have : (Lib.decDigits n).length ≠ 0 := fun e => h3 (List.eq_nil_of_length_eq_zero e)
  omega
theorem itoa_split (n : Nat) : splitE (Lib.itoa (n : Int)) 44 = 0 ∧ splitL (Lib.itoa (n : Int)) 44 = [Lib.itoa (n : Int)] := by
  refine split_token (itoa_token n) (by decide) ?_
  rw [itoa_nat]
  intro c hc
  have := digB_iff.1 (List.all_eq_true.1 (dec8_all n).1 c hc)
  rintro rfl
  revert this
  decide

/-! ### the fields that are written -/
theorem valsM_app (a b : List Fld) (n : List UInt8) : valsL (a ++ b) n = valsL a n ++ valsL b n := by unfold valsL; simp
theorem valsM_len (l : List Fld) (n : Nat) (t : Bool) : valsL (writL l n t) clN = if t then [Lib.itoa (n : Int)] else [] := by
  unfold writL
  rw [valsM_app, vals_del (by decide)]
  cases t
  · rfl
  · show [] ++ valsL [(lenN, Lib.itoa (n : Int))] clN = _
    unfold valsL
    rw [List.filter_cons, if_pos (show sameN lenN clN = true by decide)]
    rfl
theorem valsM_cod (l : List Fld) (n : Nat) (t : Bool) : valsL (writL l n t) teN = [] := by
  unfold writL
  rw [valsM_app, vals_del (by decide)]
  cases t
  · rfl
  · show [] ++ valsL [(lenN, Lib.itoa (n : Int))] teN = _
    unfold valsL
    rw [List.filter_cons, if_neg (by show ¬ (sameN lenN teN = true); decide)]
    rfl
theorem elems_itoa (n : Nat) : elemsL [Lib.itoa (n : Int)] = [Lib.itoa (n : Int)] ∧ amissB [Lib.itoa (n : Int)] = false := by
  obtain ⟨h1, h2⟩ := itoa_split n
  constructor
  · unfold elemsL; simp [h2]
  · unfold amissB; simp [h1]
theorem end_itoa {n : Nat} (h : n ≤ 1048576) : endE [Lib.itoa (n : Int)] [] = 0 ∧ endK [Lib.itoa (n : Int)] [] = 1 ∧ endN [Lib.itoa (n : Int)] [] = n := by
  obtain ⟨h1, h2⟩ := elems_itoa n
  have hu : unlikeB [Lib.itoa (n : Int)] = false := by unfold unlikeB headE; rw [h1]; simp
  have he : endE [Lib.itoa (n : Int)] [] = 0 := by
    unfold endE
    rw [h1, h2, hu]
    simp [itoa_lenB h]
  refine ⟨he, ?_, ?_⟩
  · unfold endK; rw [if_pos he]; rfl
  · unfold endN headE
    rw [if_pos ⟨he, rfl⟩, h1]
    show ((decV (Lib.itoa (n : Int)) : Nat) : Int) = n
    rw [itoa_nat, (dec8_all n).2.1]
theorem end_none : endE [] [] = 0 ∧ endK [] [] = 0 ∧ endN [] [] = 0 := by decide
theorem ask_writ {l : List Fld} {n : Nat} (h : n ≤ 65536) : askR (writL l n true) = (1, (n : Int), 0) ∧ askR (writL l n false) = (0, 0, 0) := by
  obtain ⟨h1, h2, h3⟩ := end_itoa (n := n) (by omega)
  constructor
  · unfold askR askV
    rw [valsM_len, valsM_cod]
    simp only [if_true, h1, h2, h3]
    rw [if_neg (by decide), if_neg (by omega)]
  · unfold askR
    rw [valsM_len, valsM_cod]
    show askV [] [] = _
    decide
theorem tell_writ {l : List Fld} {n : Nat} {c : Int} (h : n ≤ 262144) : (bareB c = false → tellR (writL l n true) c false = (1, (n : Int), 0)) ∧ (bareB c = true → tellR (writL l n false) c false = (0, 0, 0)) := by
  obtain ⟨h1, h2, h3⟩ := end_itoa (n := n) (by omega)
  constructor
  · intro hc
    unfold tellR tellV
    rw [valsM_len, valsM_cod, hc]
    simp only [if_true, h1, h2, h3]
    rw [if_neg (by decide), if_neg (by decide), if_neg (by omega), if_neg (by simp)]
  · intro hc
    unfold tellR tellV
    rw [valsM_len, valsM_cod, hc]
    rfl
theorem plain_writ (l : List Fld) (n : Nat) (t : Bool) : delL (writL l n t) [clN, teN] = delL l [clN, teN] := by
  unfold writL
  have h1 : delL (delL l [clN, teN]) [clN, teN] = delL l [clN, teN] := by unfold delL; rw [List.filter_filter]; simp
  have h2 : ∀ a b : List Fld, delL (a ++ b) [clN, teN] = delL a [clN, teN] ++ delL b [clN, teN] := fun a b => by unfold delL; simp
  rw [h2, h1]
  cases t
  · simp [delL]
  · show _ ++ delL [(lenN, Lib.itoa (n : Int))] [clN, teN] = _
    unfold delL
    rw [List.filter_cons, if_neg (by show ¬ ((!hasN [clN, teN] lenN) = true); decide)]
    simp

/-! ### where a head ends -/
theorem occ4_iff (s : List UInt8) (i : Nat) : Lib.occAt s [13, 10, 13, 10] i = true ↔ (s[i]? = some 13 ∧ s[i + 1]? = some 10) ∧ s[i + 2]? = some 13 ∧ s[i + 3]? = some 10 := by
  rw [occ_iff]
  constructor
  · intro h
    exact ⟨⟨h 0 (by decide), h 1 (by decide)⟩, h 2 (by decide), h 3 (by decide)⟩
  · rintro ⟨⟨h0, h1⟩, h2, h3⟩ j hj
    have : j < 4 := by simpa using hj
    match j, this with
    | 0, _ => exact h0
    | 1, _ => exact h1
    | 2, _ => exact h2
    | 3, _ => exact h3
theorem occ4_off {s : List UInt8} {i : Nat} (h : s[i]? ≠ some 13 ∨ s[i + 2]? ≠ some 13) : Lib.occAt s [13, 10, 13, 10] i = false := by
  cases ho : Lib.occAt s [13, 10, 13, 10] i
  · rfl
  · obtain ⟨⟨h0, _⟩, h2, _⟩ := (occ4_iff s i).1 ho
    rcases h with h | h
    · exact absurd h0 h
    · exact absurd h2 h
theorem occ_app (a t sub : List UInt8) (i : Nat) : Lib.occAt (a ++ t) sub (a.length + i) = Lib.occAt t sub i := by
  rw [← occ_drop, List.drop_append_of_le_length (Nat.le_refl _), List.drop_length, List.nil_append]
/-- lines, each with its end -/
def rowsL (P : List (List UInt8)) : List UInt8 := P.flatMap fun a => a ++ [13, 10]
def goodP (P : List (List UInt8)) : Prop := ∀ a ∈ P, a ≠ [] ∧ ∀ c ∈ a, c ≠ 13
theorem first4 : ∀ (P : List (List UInt8)) (Y : List UInt8), P ≠ [] → goodP P →
    2 ≤ (rowsL P).length ∧ Lib.occAt (rowsL P ++ 13 :: 10 :: Y) [13, 10, 13, 10] ((rowsL P).length - 2) = true ∧ ∀ j, j < (rowsL P).length - 2 → Lib.occAt (rowsL P ++ 13 :: 10 :: Y) [13, 10, 13, 10] j = false
  | [], _, h, _ => absurd rfl h
  | [a], Y, _, hg => by
    obtain ⟨h1, h2⟩ := hg a (by simp)
    have e : rowsL [a] = a ++ [13, 10] := by simp [rowsL]
    rw [e, List.length_append]
    simp only [List.length_cons, List.length_nil, List.append_assoc, List.cons_append, List.nil_append]
    refine ⟨by omega, ?_, ?_⟩
    · rw [show a.length + (0 + 1 + 1) - 2 = a.length + 0 from by omega, occ_app]
      exact (occ4_iff _ _).2 ⟨⟨rfl, rfl⟩, rfl, rfl⟩
    · intro j hj
      refine occ4_off (.inl ?_)
      rw [List.getElem?_append_left (by omega), List.getElem?_eq_getElem (by omega)]
      intro h
      exact h2 _ (List.getElem_mem (by omega)) (Option.some.inj h)
  | a :: b :: P, Y, _, hg => by
    obtain ⟨h1, h2⟩ := hg a (by simp)
    obtain ⟨hb1, hb2⟩ := hg b (by simp)
    obtain ⟨i1, i2, i3⟩ := first4 (b :: P) Y (by simp) (fun x hx => hg x (by simp at hx ⊢; exact .inr hx))
    have e : rowsL (a :: b :: P) = (a ++ [13, 10]) ++ rowsL (b :: P) := by simp [rowsL]
    have hl : (rowsL (a :: b :: P)).length - 2 = (a ++ [13, 10]).length + ((rowsL (b :: P)).length - 2) := by rw [e, List.length_append]; omega
    have hal : (a ++ [13, 10]).length = a.length + 2 := by simp
    have e3 : rowsL (a :: b :: P) ++ 13 :: 10 :: Y = (a ++ [13, 10]) ++ (rowsL (b :: P) ++ 13 :: 10 :: Y) := by rw [e, List.append_assoc]
    rw [hl, e3]
    refine ⟨by rw [e, List.length_append]; omega, by rw [occ_app]; exact i2, ?_⟩
    intro j hj
    rcases Nat.lt_or_ge j (a.length + 2) with hja | hja
    · rcases Nat.lt_or_ge j a.length with h3 | h3
      · refine occ4_off (.inl ?_)
        rw [List.getElem?_append_left (by rw [hal]; omega), List.getElem?_append_left h3, List.getElem?_eq_getElem h3]
        intro h
        exact h2 _ (List.getElem_mem h3) (Option.some.inj h)
      · rcases Nat.lt_or_eq_of_le h3 with h4 | h4
        · obtain rfl : j = a.length + 1 := by omega
          refine occ4_off (.inl ?_)
          rw [List.getElem?_append_left (by rw [hal]; omega), List.getElem?_append_right (by omega), show a.length + 1 - a.length = 1 from by omega]
          simp
        · subst h4
          refine occ4_off (.inr ?_)
          rw [List.getElem?_append_right (by rw [hal]; omega), hal, Nat.sub_self]
          have eb : rowsL (b :: P) = b ++ ([13, 10] ++ rowsL P) := by simp [rowsL]
          have hbl : 0 < b.length := List.length_pos_iff.2 hb1
          rw [eb, List.append_assoc, List.getElem?_append_left hbl, List.getElem?_eq_getElem hbl]
          intro h
          exact hb2 _ (List.getElem_mem hbl) (Option.some.inj h)
    · obtain ⟨i, rfl⟩ : ∃ i, j = (a ++ [13, 10]).length + i := ⟨j - (a.length + 2), by omega⟩
      rw [occ_app]
      exact i3 i (by omega)
theorem line_ne (f : Fld) : lineL f ≠ [] := by unfold lineL; simp
theorem rows_lines (st : List UInt8) (L : List Fld) : rowsL (st :: L.map lineL) = st ++ [13, 10] ++ linesL L := by
  unfold rowsL linesL
  rw [List.flatMap_cons, List.flatMap_map]
theorem head_back {st : List UInt8} {L : List Fld} (Y : List UInt8) (hs : st ≠ [] ∧ ∀ c ∈ st, c ≠ 13) (hc : checkL L = 0) (hl : (headB st L).length ≤ 8192) :
    headF (headB st L ++ Y) = ((headB st L).length - 4, 0) ∧ headN (headB st L ++ Y) = (headB st L).length ∧ startM (headB st L ++ Y) = st ∧ fieldM (headB st L ++ Y) = putL L ∧ restM (headB st L ++ Y) = Y := by
  have hp : putL L = linesL L := by unfold putL; rw [if_pos hc]
  have hck := (check_zero hc).2
  have hg : goodP (st :: L.map lineL) := by
    intro a ha
    rcases List.mem_cons.1 ha with rfl | ha
    · exact hs
    · obtain ⟨f, hf, rfl⟩ := List.mem_map.1 ha
      exact ⟨line_ne f, line_no13 (hck f hf)⟩
  obtain ⟨h1, h2, h3⟩ := first4 _ Y (by simp) hg
  have e : headB st L = rowsL (st :: L.map lineL) ++ [13, 10] := by unfold headB; rw [rows_lines, hp]
  have e2 : headB st L ++ Y = rowsL (st :: L.map lineL) ++ 13 :: 10 :: Y := by rw [e]; simp
  have el : (headB st L).length = (rowsL (st :: L.map lineL)).length + 2 := by rw [e, List.length_append]; rfl
  have hF : headF (headB st L ++ Y) = ((headB st L).length - 4, 0) := by
    rw [el, show (rowsL (st :: L.map lineL)).length + 2 - 4 = (rowsL (st :: L.map lineL)).length - 2 from by omega, e2]
    exact find_of (by simp) (by simp only [List.length_cons, List.length_nil]; omega) h2 h3
  have hN : headN (headB st L ++ Y) = (headB st L).length := by unfold headN; rw [hF]; simp only; omega
  have hT : topM (headB st L ++ Y) = rowsL (st :: L.map lineL) := by
    unfold topM
    rw [hN, el, Nat.add_sub_cancel, e2, List.take_append_of_le_length (Nat.le_refl _), List.take_length]
  have hcut : cutN (topM (headB st L ++ Y)) = (st, linesL L, true) := by
    rw [hT, rows_lines, List.append_assoc]
    exact cutN_of hs.2
  refine ⟨hF, hN, ?_, ?_, ?_⟩
  · unfold startM; rw [hcut]
  · unfold fieldM; rw [hcut, hp]
  · unfold restM
    rw [hN, List.drop_append_of_le_length (Nat.le_refl _), List.drop_length, List.nil_append]
end Go.Proofs.YtgkjjmcjlobbpaaGreatDoor

/- A request and a reply that are written are read again; what was read, and is written, is read again. Lists of bytes alone. -/
namespace Go.Proofs.YtgkjjmcjlobbpaaGreatDoor

theorem no13_vis {l : List UInt8} (h : l.all visB = true) : ∀ c ∈ l, c ≠ 13 := by
  intro c hc
  have := List.all_eq_true.1 h c hc
  rintro rfl
  revert this
  decide
theorem no13_may {l : List UInt8} (h : l.all mayB = true) : ∀ c ∈ l, c ≠ 13 := fun c hc => mayB_no13 (List.all_eq_true.1 h c hc)
theorem no13_ver (n : Int) : ∀ c ∈ verN n, c ≠ 13 := by
  unfold verN bitB
  intro c hc
  split at hc
  · revert c; decide
  · revert c; decide
theorem no13_app {a b : List UInt8} (ha : ∀ c ∈ a, c ≠ 13) (hb : ∀ c ∈ b, c ≠ 13) : ∀ c ∈ a ++ b, c ≠ 13 := fun c hc => (List.mem_append.1 hc).elim (ha c) (hb c)
theorem no13_dig {k : Nat} (h : k < 10) : UInt8.ofNat (48 + k) ≠ 13 := by
  intro e
  have := (dig8_of k h).2
  rw [e] at this
  have h2 : (13 : UInt8).toNat = 13 := rfl
  omega
theorem start_req {m t : List UInt8} {n : Int} (h : putRQ m t n = 0) : putRL m t n ≠ [] ∧ ∀ c ∈ putRL m t n, c ≠ 13 := by
  obtain ⟨h1, h2, h3, _, _⟩ := putRQ_0 h
  unfold putRL
  rw [if_pos h]
  unfold reqLine
  refine ⟨by simp, ?_⟩
  have ht : t.all visB = true := by unfold target at h2; rw [Bool.and_eq_true] at h2; exact h2.1
  exact no13_app (no13_app (no13_app (no13_app (no13_vis (token_vis h1)) (by decide)) (no13_vis ht)) (by decide)) (no13_ver n)
theorem start_sta {c n : Int} {r : List UInt8} (h : putSQ c r n = 0) : putSL c r n ≠ [] ∧ ∀ x ∈ putSL c r n, x ≠ 13 := by
  obtain ⟨h1, h2, h3, _⟩ := putSQ_0 h
  unfold putSL
  rw [if_pos h]
  unfold staLine
  refine ⟨by unfold verN; simp, ?_⟩
  have hc : 100 ≤ c ∧ c ≤ 599 := of_decide_eq_true h1
  refine no13_app (no13_app (no13_app (no13_app (no13_ver n) (by decide)) ?_) (by decide)) (no13_may h2)
  unfold code3
  intro x hx
  simp only [List.mem_cons, List.not_mem_nil, or_false] at hx
  rcases hx with rfl | rfl | rfl
  · exact no13_dig (by omega)
  · exact no13_dig (by omega)
  · exact no13_dig (by omega)

/-- what a head that is written is -/
theorem headP_ok {st : List UInt8} {l : List Fld} {n : Nat} {most : Int} {t : Bool} (h : (headP st l n most t).2 = 0) :
    (n : Int) ≤ most ∧ checkL (writL l n t) = 0 ∧ (headB st (writL l n t)).length ≤ 8192 ∧ (headP st l n most t).1 = headB st (writL l n t) := by
  unfold headP at h ⊢
  split at h
  · cases h
  · rename_i h1
    rw [if_neg h1]
    split at h
    · rename_i h2; exact absurd h h2
    · rename_i h2
      rw [if_neg h2]
      split at h
      · cases h
      · rename_i h3
        rw [if_neg h3]
        exact ⟨by omega, by simpa using h2, by omega, rfl⟩
theorem putQ_ok {m t b : List UInt8} {n : Int} {l : List Fld} (h : (putQ m t n l b).2 = 0) : putRQ m t n = 0 ∧ (b.length : Int) ≤ 65536 ∧ checkL (writL l b.length (tellQ m b)) = 0 ∧ (headB (putRL m t n) (writL l b.length (tellQ m b))).length ≤ 8192 ∧
    (putQ m t n l b).1 = headB (putRL m t n) (writL l b.length (tellQ m b)) ++ b := by
  unfold putQ at h ⊢
  split at h
  · rename_i h1; exact absurd h h1
  · rename_i h1
    rw [if_neg h1]
    split at h
    · rename_i h2; exact absurd h h2
    · rename_i h2
      rw [if_neg h2]
      obtain ⟨a, b', c, d⟩ := headP_ok (by simpa using h2)
      exact ⟨by simpa using h1, a, b', c, by rw [d]⟩
theorem putY_ok {c n : Int} {r b : List UInt8} {l : List Fld} (h : (putY c r n l b false).2 = 0) : putSQ c r n = 0 ∧ (!b.isEmpty && bareB c) = false ∧ (b.length : Int) ≤ 262144 ∧ checkL (writL l b.length (!bareB c)) = 0 ∧ (headB (putSL c r n) (writL l b.length (!bareB c))).length ≤ 8192 ∧
    (putY c r n l b false).1 = headB (putSL c r n) (writL l b.length (!bareB c)) ++ b := by
  unfold putY at h ⊢
  split at h
  · rename_i h1; exact absurd h h1
  · rename_i h1
    rw [if_neg h1]
    split at h
    · cases h
    · rename_i h0
      rw [if_neg h0]
      split at h
      · rename_i h2; exact absurd h h2
      · rename_i h2
        rw [if_neg h2]
        obtain ⟨a, b', c', d⟩ := headP_ok (by simpa using h2)
        exact ⟨by simpa using h1, by simpa using h0, a, b', c', by rw [d]; rfl⟩
theorem putQ_bad {m t b : List UInt8} {n : Int} {l : List Fld} (h : (putQ m t n l b).2 ≠ 0) : (putQ m t n l b).1 = [] := by
  unfold putQ at h ⊢
  split
  · rfl
  · rename_i h1
    rw [if_neg h1] at h
    split
    · rfl
    · rename_i h2; rw [if_neg h2] at h; exact absurd rfl h
theorem putY_bad {c n : Int} {r b : List UInt8} {l : List Fld} {d : Bool} (h : (putY c r n l b d).2 ≠ 0) : (putY c r n l b d).1 = [] := by
  unfold putY at h ⊢
  split
  · rfl
  · rename_i h1
    rw [if_neg h1] at h
    split
    · rfl
    · rename_i h0
      rw [if_neg h0] at h
      split
      · rfl
      · rename_i h2
        rw [if_neg h2] at h
        split
        · rename_i h3; rw [if_pos h3] at h; exact absurd rfl h
        · rename_i h3; rw [if_neg h3] at h; exact absurd rfl h
theorem headB_ne (st : List UInt8) (L : List Fld) (b : List UInt8) : headB st L ++ b ≠ [] := by
  intro h
  have := congrArg List.length h
  rw [List.length_append, headB_len] at this
  simp only [List.length_nil] at this
  omega
/-- the rest of a message, by how its body is told -/
theorem body_len {b X : List UInt8} {most : Int} (h : (b.length : Int) ≤ most) : bodyM (b ++ X) (1, (b.length : Int)) most = (b, (b.length : Int), 0) := by
  unfold bodyM
  simp only [if_true]
  rw [if_neg (by omega), if_neg (by rw [List.length_append]; omega)]
  simp
theorem body_less {b Y : List UInt8} {most : Int} (h : (b.length : Int) ≤ most) (hy : Y.length < b.length) : bodyM Y (1, (b.length : Int)) most = ([], 0, 6) := by
  unfold bodyM
  simp only [if_true]
  rw [if_neg (by omega), if_pos (by omega)]

section
variable {fr : List Fld → Int × Int × Int} {most : Int} {st b : List UInt8} {L : List Fld}
/-- WHAT IS WRITTEN WITH A LENGTH IS READ -/
theorem msg_len (X : List UInt8) (hs : st ≠ [] ∧ ∀ c ∈ st, c ≠ 13) (hc : checkL L = 0) (hl : (headB st L).length ≤ 8192) (hf : fr L = (1, (b.length : Int), 0)) (hb : (b.length : Int) ≤ most) :
    msgL 0 fr most (headB st L ++ b ++ X) = (L, b, ((headB st L ++ b).length : Int), 0) := by
  rw [List.append_assoc]
  obtain ⟨h1, h2, h3, h4, h5⟩ := head_back (b ++ X) hs hc hl
  unfold msgL
  rw [h1, if_neg (by simp), if_neg (by simp)]
  rw [behind_all (B := (b, (b.length : Int), 0)) (by rw [h4]; exact parse_put hc) hf (by rw [h5]; exact body_len hb) rfl, h2]
  simp
theorem msg_lenless (j : Nat) (hs : st ≠ [] ∧ ∀ c ∈ st, c ≠ 13) (hc : checkL L = 0) (hl : (headB st L).length ≤ 8192) (hf : fr L = (1, (b.length : Int), 0)) (hb : (b.length : Int) ≤ most) (hj : j < (headB st L ++ b).length) :
    msgL 0 fr most ((headB st L ++ b).take j) = badM 6 := by
  rcases Nat.lt_or_ge j (headB st L).length with h | h
  · obtain ⟨h1, _⟩ := head_back b hs hc hl
    have h4 := headB_len st L
    have hF : headF ((headB st L ++ b).take j) = (0, 6) := findM_less (by simp) h1 (by simp only [List.length_cons, List.length_nil]; omega)
    unfold msgL
    rw [hF, if_pos (by simp)]
  · rw [List.length_append] at hj
    have e : (headB st L ++ b).take j = headB st L ++ b.take (j - (headB st L).length) := by
      rw [List.take_append, List.take_of_length_le h]
    rw [e]
    obtain ⟨h1, h2, h3, h4, h5⟩ := head_back (b.take (j - (headB st L).length)) hs hc hl
    unfold msgL
    rw [h1, if_neg (by simp), if_neg (by simp)]
    exact behind_body (B := ([], 0, 6)) (by rw [h4]; exact parse_put hc) hf (by rw [h5]; exact body_less hb (by rw [List.length_take]; omega)) (by decide)
/-- WITHOUT ONE, AND NO BODY -/
theorem msg_bare (X : List UInt8) (hs : st ≠ [] ∧ ∀ c ∈ st, c ≠ 13) (hc : checkL L = 0) (hl : (headB st L).length ≤ 8192) (hf : fr L = (0, 0, 0)) :
    msgL 0 fr most (headB st L ++ X) = (L, [], ((headB st L).length : Int), 0) := by
  obtain ⟨h1, h2, h3, h4, h5⟩ := head_back X hs hc hl
  unfold msgL
  rw [h1, if_neg (by simp), if_neg (by simp)]
  rw [behind_all (B := ([], 0, 0)) (by rw [h4]; exact parse_put hc) hf (by rfl) rfl, h2]
  simp
theorem msg_bareless (j : Nat) (hs : st ≠ [] ∧ ∀ c ∈ st, c ≠ 13) (hc : checkL L = 0) (hl : (headB st L).length ≤ 8192) (hj : j < (headB st L).length) (se : Int) : msgL se fr most ((headB st L).take j) = badM 6 := by
  obtain ⟨h1, _⟩ := head_back [] hs hc hl
  rw [List.append_nil] at h1
  have h4 := headB_len st L
  have hF : headF ((headB st L).take j) = (0, 6) := findM_less (by simp) h1 (by simp only [List.length_cons, List.length_nil]; omega)
  unfold msgL
  rw [hF, if_pos (by simp)]
theorem msg_short (j : Nat) (hs : st ≠ [] ∧ ∀ c ∈ st, c ≠ 13) (hc : checkL L = 0) (hl : (headB st L).length ≤ 8192) (hj : j < (headB st L).length) (se : Int) : msgL se fr most ((headB st L ++ b).take j) = badM 6 := by
  rw [List.take_append_of_le_length (by omega)]
  exact msg_bareless j hs hc hl hj se
end
theorem tellQ_no {m b : List UInt8} (h : tellQ m b = false) : b = [] := by
  unfold tellQ at h
  rw [Bool.or_eq_false_iff] at h
  simpa using h.2
/-- A REQUEST THAT IS WRITTEN -/
theorem back_ask {m t b S : List UInt8} {n : Int} {l : List Fld} (h : putQ m t n l b = (S, 0)) : S ≠ [] ∧ S.length ≤ 8192 + b.length ∧
    (∀ X, askM (S ++ X) = (writL l b.length (tellQ m b), b, (S.length : Int), 0) ∧ mM (S ++ X) = m ∧ tM (S ++ X) = t ∧ nM (S ++ X) = n) ∧ ∀ j, j < S.length → askM (S.take j) = badM 6 := by
  obtain ⟨h1, h2, h3, h4, h5⟩ := putQ_ok (m := m) (t := t) (b := b) (n := n) (l := l) (by rw [h])
  rw [h] at h5
  simp only at h5
  subst h5
  obtain ⟨⟨g1, g2, g3, g4⟩, _, _⟩ := back_req h1
  have hs := start_req h1
  have hA : ∀ X, startM (headB (putRL m t n) (writL l b.length (tellQ m b)) ++ b ++ X) = putRL m t n := fun X => by
    rw [List.append_assoc]; exact (head_back (b ++ X) hs h3 h4).2.2.1
  have hE : ∀ X, askM (headB (putRL m t n) (writL l b.length (tellQ m b)) ++ b ++ X) = (writL l b.length (tellQ m b), b, ((headB (putRL m t n) (writL l b.length (tellQ m b)) ++ b).length : Int), 0) := by
    intro X
    unfold askM
    rw [hA, g1]
    cases hq : tellQ m b
    · have := tellQ_no hq
      subst this
      rw [hq] at h3 h4
      rw [List.append_nil]
      exact msg_bare X hs h3 h4 (ask_writ (by omega)).2
    · rw [hq] at h3 h4
      exact msg_len X hs h3 h4 (ask_writ (by omega)).1 h2
  refine ⟨headB_ne _ _ _, by rw [List.length_append]; omega, fun X => ⟨hE X, ?_⟩, fun j hj => ?_⟩
  · have hq : (askM (headB (putRL m t n) (writL l b.length (tellQ m b)) ++ b ++ X)).2.2.2 = 0 := by rw [hE]
    unfold mM tM nM
    rw [if_pos hq, if_pos hq, if_pos hq, hA]
    exact ⟨g2, g3, g4⟩
  · rcases Nat.lt_or_ge j (headB (putRL m t n) (writL l b.length (tellQ m b))).length with hh | hh
    · exact msg_short j hs h3 h4 hh _
    · have hst : startM ((headB (putRL m t n) (writL l b.length (tellQ m b)) ++ b).take j) = putRL m t n := by
        rw [List.take_append, List.take_of_length_le hh]
        exact (head_back _ hs h3 h4).2.2.1
      unfold askM
      rw [hst, g1]
      cases hq : tellQ m b
      · have := tellQ_no hq
        subst this
        rw [List.append_nil] at hj
        omega
      · rw [hq] at h3 h4 hj
        exact msg_lenless j hs h3 h4 (ask_writ (by omega)).1 h2 hj
/-- A REPLY THAT IS WRITTEN -/
theorem back_tell {r b S : List UInt8} {c n : Int} {l : List Fld} (h : putY c r n l b false = (S, 0)) : S ≠ [] ∧ S.length ≤ 8192 + b.length ∧
    (∀ X, tellM (S ++ X) false = (writL l b.length (!bareB c), b, (S.length : Int), 0) ∧ cM (S ++ X) false = c ∧ rM (S ++ X) false = r ∧ oM (S ++ X) false = n) ∧ ∀ j, j < S.length → tellM (S.take j) false = badM 6 := by
  obtain ⟨h1, h0, h2, h3, h4, h5⟩ := putY_ok (c := c) (r := r) (b := b) (n := n) (l := l) (by rw [h])
  rw [h] at h5
  simp only at h5
  subst h5
  obtain ⟨⟨g1, g2, g3, g4⟩, _, _⟩ := back_sta h1
  have hs := start_sta h1
  have hA : ∀ X, startM (headB (putSL c r n) (writL l b.length (!bareB c)) ++ b ++ X) = putSL c r n := fun X => by
    rw [List.append_assoc]; exact (head_back (b ++ X) hs h3 h4).2.2.1
  have hE : ∀ X, tellM (headB (putSL c r n) (writL l b.length (!bareB c)) ++ b ++ X) false = (writL l b.length (!bareB c), b, ((headB (putSL c r n) (writL l b.length (!bareB c)) ++ b).length : Int), 0) := by
    intro X
    unfold tellM
    rw [hA, g1, g2]
    cases hq : bareB c
    · rw [hq] at h3 h4
      exact msg_len X hs h3 h4 ((tell_writ (by omega)).1 hq) h2
    · rw [hq, Bool.and_true] at h0
      have hb : b = [] := by simpa using h0
      subst hb
      rw [hq] at h3 h4
      rw [List.append_nil]
      exact msg_bare X hs h3 h4 ((tell_writ (by omega)).2 hq)
  refine ⟨headB_ne _ _ _, by rw [List.length_append]; omega, fun X => ⟨hE X, ?_⟩, fun j hj => ?_⟩
  · have hq : (tellM (headB (putSL c r n) (writL l b.length (!bareB c)) ++ b ++ X) false).2.2.2 = 0 := by rw [hE]
    unfold cM rM oM
    rw [if_pos hq, if_pos hq, if_pos hq, hA]
    exact ⟨g2, g3, g4⟩
  · rcases Nat.lt_or_ge j (headB (putSL c r n) (writL l b.length (!bareB c))).length with hh | hh
    · exact msg_short j hs h3 h4 hh _
    · have hst : startM ((headB (putSL c r n) (writL l b.length (!bareB c)) ++ b).take j) = putSL c r n := by
        rw [List.take_append, List.take_of_length_le hh]
        exact (head_back _ hs h3 h4).2.2.1
      unfold tellM
      rw [hst, g1, g2]
      cases hq : bareB c
      · rw [hq] at h3 h4 hj
        exact msg_lenless j hs h3 h4 ((tell_writ (by omega)).1 hq) h2 hj
      · rw [hq, Bool.and_true] at h0
        have hb : b = [] := by simpa using h0
        subst hb
        rw [List.append_nil] at hj
        omega
end Go.Proofs.YtgkjjmcjlobbpaaGreatDoor
