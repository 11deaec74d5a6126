/- What a control is, plainly: the words between blanks, one or two deltas, the first directive of a name, four rules one behind the other; what is for another device changes nothing. Nothing of the program is read here. -/
import Derived.Test.YtonioemenjjajaaSur0
import Derived.Lib.FieldsP
import Derived.Lib.SlicesS
import Derived.Lib.SpaceUEq
namespace Go.Proofs.Ytonioemenjjajaa
open Go.Lib (pieceU openPiece closeSpans spansFromP goFieldsP spansOfP)

/-! Words between blanks. -/
/-- the pieces between blanks -/
def wordL : List UInt8 → List UInt8 → List (List UInt8)
  | cur, [] => if cur = [] then [] else [cur]
  | cur, c :: r => if blankB c then (if cur = [] then wordL [] r else cur :: wordL [] r) else wordL (cur ++ [c]) r
/-- the document's way -/
def hasW (w : List UInt8) : List UInt8 → List UInt8 → Bool
  | cur, [] => cur == w
  | cur, c :: r => if blankB c then (cur == w || hasW w [] r) else hasW w (cur ++ [c]) r
theorem hasW_eq {w : List UInt8} (hw : w ≠ []) : ∀ (r cur : List UInt8), hasW w cur r = (wordL cur r).any (· == w)
  | [], cur => by
    rw [hasW, wordL]
    split
    · rename_i h; subst h; simp [hw]
    · simp
  | c :: r, cur => by
    rw [hasW, wordL]
    split
    · split
      · rename_i h
        subst h
        rw [hasW_eq hw r [], beq_eq_false_iff_ne.2 (Ne.symm hw), Bool.false_or]
      · rw [hasW_eq hw r [], List.any_cons]
    · exact hasW_eq hw r _
def isBlk (x : Nat) : Bool := x == 32 || x == 9
theorem word_skip : ∀ (l r cur : List UInt8), (∀ c ∈ l, blankB c = false) → wordL cur (l ++ r) = wordL (cur ++ l) r
  | [], r, cur, _ => by simp
  | c :: t, r, cur, h => by
    rw [List.cons_append, wordL, if_neg (by rw [h c (by simp)]; simp), word_skip t r _ fun x hx => h x (by simp [hx])]
    simp
theorem blank_nat (c : UInt8) : isBlk c.toNat = blankB c := by
  unfold isBlk blankB blankI
  rw [Bool.eq_iff_iff, Bool.or_eq_true, beq_iff_eq, beq_iff_eq, decide_eq_true_iff]
  omega
theorem high_no {c : UInt8} (h : 128 ≤ c.toNat) : blankB c = false := by
  unfold blankB blankI
  rw [decide_eq_false_iff_not]
  omega
theorem one_byte (s : ByteArray) (k : Nat) (h : k < s.size) : (s.data.toList.drop k).take 1 = [s[k]] := by
  rw [drop_at h]; rfl
theorem dec_blank (s : ByteArray) (pos : Nat) (h : pos < s.size) :
    (isBlk (Utf8.decode s pos).1 = true ∧ (Utf8.decode s pos).2 = 1 ∧ blankB s[pos] = true) ∨
    (isBlk (Utf8.decode s pos).1 = false ∧ pos + (Utf8.decode s pos).2 ≤ s.size ∧ ∀ c ∈ (s.data.toList.drop pos).take (Utf8.decode s pos).2, blankB c = false) := by
  have h0 : s.data.toList.getD pos 0 = s[pos] := by
    rw [List.getD_eq_getElem?_getD]; simp [ByteArray.getElem_eq_getElem_data, h]
  rw [Lib.decode_N]
  have hn : s.data.toList.length = s.size := (size_len s).symm
  have hc := Lib.decodeN_conts (s.data.toList.length - pos) (s.data.toList.getD pos 0).toNat (s.data.toList.getD (pos + 1) 0).toNat (s.data.toList.getD (pos + 2) 0).toNat (s.data.toList.getD (pos + 3) 0).toNat
  have hs := Lib.decodeN_cases (s.data.toList.length - pos) (s.data.toList.getD pos 0).toNat (s.data.toList.getD (pos + 1) 0).toNat (s.data.toList.getD (pos + 2) 0).toNat (s.data.toList.getD (pos + 3) 0).toNat
  have hw := Lib.decodeN_le_n' (s.data.toList.length - pos) (s.data.toList.getD pos 0).toNat (s.data.toList.getD (pos + 1) 0).toNat (s.data.toList.getD (pos + 2) 0).toNat (s.data.toList.getD (pos + 3) 0).toNat (by omega)
  by_cases ha : (s.data.toList.getD pos 0).toNat < 128
  · rw [Lib.decodeN_ascii _ _ _ _ _ ha]
    simp only
    have ht : (s.data.toList.drop pos).take 1 = [s[pos]] := one_byte s pos h
    rw [ht, h0, blank_nat]
    cases hb : blankB s[pos]
    · exact .inr ⟨rfl, by omega, fun c hc => by rw [List.mem_singleton.1 hc]; exact hb⟩
    · exact .inl (by simp)
  · refine .inr ⟨?_, by omega, fun c hcm => ?_⟩
    · have hr : 128 ≤ (Lib.decodeN (s.data.toList.length - pos) (s.data.toList.getD pos 0).toNat (s.data.toList.getD (pos + 1) 0).toNat (s.data.toList.getD (pos + 2) 0).toNat (s.data.toList.getD (pos + 3) 0).toNat).1 := by
        rcases hs with ⟨c, _⟩ | ⟨_, _, _, c, e⟩ | ⟨_, _, _, _, c, e⟩ | ⟨c, _⟩ | e
        · omega
        · rw [e]; exact c
        · rw [e]; simp only; omega
        · omega
        · rw [e]; simp only; omega
      unfold isBlk
      rw [Bool.or_eq_false_iff, beq_eq_false_iff_ne, beq_eq_false_iff_ne]
      omega
    · obtain ⟨j, hj, he⟩ := List.getElem_of_mem hcm
      have hj2 := hj
      rw [List.length_take, List.length_drop] at hj2
      have he2 : s.data.toList.getD (pos + j) 0 = c := by
        rw [← he, List.getElem_take, List.getElem_drop, List.getD_eq_getElem?_getD, List.getElem?_eq_getElem (by omega)]
        rfl
      refine high_no ?_
      rw [← he2]
      obtain ⟨c2, c3, c4, c5⟩ := hc
      rcases (by omega : j = 0 ∨ j = 1 ∨ j = 2 ∨ j = 3) with rfl | rfl | rfl | rfl
      · rw [Nat.add_zero]; omega
      · have := (c2 (by omega)).1; omega
      · have := (c3 (by omega)).1; omega
      · have := (c4 (by omega)).1; omega
theorem word_blank {c : UInt8} (h : blankB c = true) (cur r : List UInt8) : wordL cur (c :: r) = (if cur = [] then [] else [cur]) ++ wordL [] r := by
  rw [wordL, if_pos h]
  split <;> rfl
/-- at the text's end: what is open is the last piece -/
theorem word_end (s : ByteArray) {pos : Nat} (hp : pos = s.size) (st : Option Nat) (acc : List (Nat × Nat)) (hst : ∀ a, st = some a → a < pos) :
    acc.map (fun p => pieceU s.data.toList p.1 p.2) ++ wordL (openPiece s.data.toList st pos) (s.data.toList.drop pos) = (closeSpans s (acc, st)).map fun p => pieceU s.data.toList p.1 p.2 := by
  subst hp
  rw [drop_nil (Nat.le_refl _)]
  rcases st with _ | a
  · simp [closeSpans, openPiece, wordL]
  · have hne := Lib.pieceU_ne s.data.toList a s.size (hst a rfl) (Nat.le_of_eq (Lib.size_eq s))
    simp [closeSpans, openPiece, wordL, hne]
/-- the library's spans, from a place on, are the pieces of what is left -/
theorem spans_word (s : ByteArray) (f : Nat) : ∀ (pos : Nat) (st : Option Nat) (acc : List (Nat × Nat)), pos ≤ s.size → s.size ≤ pos + f → (∀ a, st = some a → a < pos) →
    acc.map (fun p => pieceU s.data.toList p.1 p.2) ++ wordL (openPiece s.data.toList st pos) (s.data.toList.drop pos) = (closeSpans s (spansFromP isBlk s f pos st acc)).map fun p => pieceU s.data.toList p.1 p.2 := by
  induction f with
  | zero => exact fun pos st acc h1 h2 hst => word_end s (by omega) st acc hst
  | succ f ih =>
    intro pos st acc h1 h2 hst
    rcases Nat.lt_or_ge pos s.size with hlt | hge
    · have hpos := Lib.width_pos s pos
      rcases dec_blank s pos hlt with ⟨hb, hw, hc⟩ | ⟨hb, hw, hc⟩
      · rw [drop_at hlt, word_blank hc]
        rcases st with _ | a
        · have h := ih (pos + 1) none acc hlt (by omega) (fun a e => by cases e)
          simpa [spansFromP, hlt, hb, hw, openPiece] using h
        · have hne := Lib.pieceU_ne s.data.toList a pos (hst a rfl) (Nat.le_trans h1 (Nat.le_of_eq (Lib.size_eq s)))
          have h := ih (pos + 1) none (acc ++ [(a, pos)]) hlt (by omega) (fun a e => by cases e)
          simpa [spansFromP, hlt, hb, hw, openPiece, hne] using h
      · rw [← List.take_append_drop (Utf8.decode s pos).2 (s.data.toList.drop pos), word_skip _ _ _ hc, List.drop_drop]
        rcases st with _ | a
        · have h := ih (pos + (Utf8.decode s pos).2) (some pos) acc hw (by omega) (fun a e => by cases e; omega)
          simpa [spansFromP, hlt, hb, openPiece, pieceU] using h
        · have ha := hst a rfl
          have h := ih (pos + (Utf8.decode s pos).2) (some a) acc hw (by omega) (fun b e => by cases e; omega)
          have hg : openPiece s.data.toList (some a) pos ++ (s.data.toList.drop pos).take (Utf8.decode s pos).2 = openPiece s.data.toList (some a) (pos + (Utf8.decode s pos).2) := Lib.pieceU_grow _ _ _ _ (Nat.le_of_lt ha)
          rw [hg]
          simpa [spansFromP, hlt, hb] using h
    · rw [Lib.spansFromP_end _ s _ _ _ _ (by omega)]
      exact word_end s (by omega) st acc hst
theorem words_eq (s : ByteArray) : (goFieldsP isBlk s).map (·.data.toList) = wordL [] s.data.toList := by
  have h := spans_word s s.size 0 none [] (Nat.zero_le _) (by omega) (fun a h => by cases h)
  simp only [List.map_nil, List.nil_append, openPiece, List.drop_zero] at h
  unfold goFieldsP spansOfP
  rw [h, List.map_map]
  congr 1
  funext p
  simp [pieceU]
theorem contains_words (s : ByteArray) {w : List UInt8} (hw : w ≠ []) : Lib.containsS (goFieldsP isBlk s) (bs w) = hasW w [] s.data.toList := by
  rw [hasW_eq hw, ← words_eq, List.any_map, Bool.eq_iff_iff, Lib.containsS_iff, List.any_eq_true]
  constructor
  · intro h; exact ⟨bs w, h, by simp⟩
  · rintro ⟨x, hx, h⟩
    have : x = bs w := bs_of (by simpa using h)
    rw [← this]; exact hx

/-! One or two deltas. -/
def agesP (s : List UInt8) : Int × Int :=
  if isDel (Lib.cut s [43]).1 then
    if (Lib.cut s [43]).2.2 then
      if isDel (Lib.cut s [43]).2.1 then (delI (Lib.cut s [43]).1, delI (Lib.cut s [43]).2.1) else (0, 0)
    else (delI (Lib.cut s [43]).1, 0)
  else (0, 0)
theorem cutX_of {x : UInt8} {a r : List UInt8} (h : ∀ c ∈ a, c ≠ x) : Lib.cut (a ++ x :: r) [x] = (a, r, true) := by
  rw [cut_hit (i := a.length) (by simp) ((occ_one _ _ _).2 (by simp)) fun j hj => ?_]
  · simp
  · cases ho : Lib.occAt (a ++ x :: r) [x] j
    · rfl
    · have h1 := (occ_one _ _ _).1 ho
      rw [List.getElem?_append_left hj, List.getElem?_eq_getElem hj] at h1
      exact absurd (Option.some.inj h1) (h _ (List.getElem_mem hj))
theorem cutX_none {x : UInt8} {a : List UInt8} (h : ∀ c ∈ a, c ≠ x) : Lib.cut a [x] = (a, [], false) := by
  refine cut_miss fun j hj => ?_
  cases ho : Lib.occAt a [x] j
  · rfl
  · have h1 := (occ_one _ _ _).1 ho
    rcases Nat.lt_or_ge j a.length with h2 | h2
    · rw [List.getElem?_eq_getElem h2] at h1
      exact absurd (Option.some.inj h1) (h _ (List.getElem_mem h2))
    · rw [List.getElem?_eq_none h2] at h1; cases h1
theorem cutX_cases (x : UInt8) (e : List UInt8) : ((∀ c ∈ e, c ≠ x) ∧ Lib.cut e [x] = (e, [], false)) ∨ ∃ a r, e = a ++ x :: r ∧ (∀ c ∈ a, c ≠ x) ∧ Lib.cut e [x] = (a, r, true) := by
  have key : ∀ e : List UInt8, (∀ c ∈ e, c ≠ x) ∨ ∃ a r, e = a ++ x :: r ∧ (∀ c ∈ a, c ≠ x) := by
    intro e
    induction e with
    | nil => exact .inl fun c hc => by cases hc
    | cons y t ih =>
      by_cases hx : y = x
      · exact .inr ⟨[], t, by rw [hx]; rfl, fun c hc => by cases hc⟩
      · rcases ih with h | ⟨a, r, rfl, h⟩
        · exact .inl fun c hc => (List.mem_cons.1 hc).elim (fun e1 => by rw [e1]; exact hx) (h c)
        · exact .inr ⟨y :: a, r, rfl, fun c hc => (List.mem_cons.1 hc).elim (fun e1 => by rw [e1]; exact hx) (h c)⟩
  rcases key e with h | ⟨a, r, rfl, h⟩
  · exact .inl ⟨h, cutX_none h⟩
  · exact .inr ⟨a, r, rfl, h, cutX_of h⟩
theorem del_no43 {l : List UInt8} (h : isDel l = true) : ∀ c ∈ l, c ≠ 43 := by
  rintro c hc rfl
  unfold isDel at h
  rw [Bool.and_eq_true, List.all_eq_true] at h
  have := h.2 43 hc
  revert this; decide
/-- both sides of the byte 43 at place k are deltas -/
def hit43 (s : List UInt8) (k : Nat) : Bool := isDel (s.take k) && isDel (s.drop (k + 1))
theorem ages_whole {s : List UInt8} (h : isDel s = true) : agesP s = (delI s, 0) := by
  unfold agesP
  rw [cutX_none (del_no43 h)]
  simp [h]
theorem ages_hit {s : List UInt8} {k : Nat} (hk : k < s.length) (hc : s[k] = 43) (h : hit43 s k = true) : agesP s = (delI (s.take k), delI (s.drop (k + 1))) := by
  unfold hit43 at h
  rw [Bool.and_eq_true] at h
  have e : s = s.take k ++ 43 :: s.drop (k + 1) := by rw [← hc, ← List.drop_eq_getElem_cons hk, List.take_append_drop]
  have hcut : Lib.cut s [43] = (s.take k, s.drop (k + 1), true) := by
    have h2 := cutX_of (r := s.drop (k + 1)) (del_no43 h.1)
    rw [← e] at h2; exact h2
  unfold agesP
  rw [hcut]
  simp [h.1, h.2]
theorem ages_none {s : List UInt8} (h0 : isDel s = false) (h : ∀ k (hk : k < s.length), s[k] = 43 → hit43 s k = false) : agesP s = (0, 0) := by
  rcases cutX_cases 43 s with ⟨_, e⟩ | ⟨a, r, rfl, ha, e⟩
  · unfold agesP; rw [e]; simp [h0]
  · have h1 := h a.length (by simp) (by simp)
    unfold hit43 at h1
    rw [List.take_left, show (a ++ 43 :: r).drop (a.length + 1) = r from by simp] at h1
    unfold agesP; rw [e]
    simp only [if_true]
    cases hd : isDel a
    · simp
    · rw [hd, Bool.true_and] at h1
      simp [h1]

/-! A control. -/
abbrev Ctl := Bool × Bool × Bool × Bool × Int × Int
def ctl0 : Ctl := (false, false, false, false, 0, 0)
def nosN : List UInt8 := [110, 111, 45, 115, 116, 111, 114, 101]
def remN : List UInt8 := [110, 111, 45, 115, 116, 111, 114, 101, 45, 114, 101, 109, 111, 116, 101]
def conN : List UInt8 := [99, 111, 110, 116, 101, 110, 116]
def maxN : List UInt8 := [109, 97, 120, 45, 97, 103, 101]
def esiN : List UInt8 := [69, 83, 73, 47, 49, 46, 48]
def esiB (v : List UInt8) : Bool := hasW esiN [] v
/-- the value of the first directive of a name -/
def firstS (l : List Dv) (n : List UInt8) : List UInt8 × Bool := match l.find? (fun d => d.1 == n) with | some d => (d.2.1, true) | none => ([], false)
def ctlOf (m : List Dv) : Ctl := ((firstS m nosN).2, (firstS m remN).2, esiB (firstS m conN).1, (firstS m maxN).2, (agesP (firstS m maxN).1).1, (agesP (firstS m maxN).1).2)
def ofC (L : List (List UInt8)) (dev : List UInt8) : Ctl := ctlOf (mineS (listS L) dev)
/-- the four rules: a name, and what its value makes of a control -/
def rulesL : List (List UInt8 × (Ctl → List UInt8 → Ctl)) :=
  [(nosN, fun c _ => (true, c.2)), (remN, fun c _ => (c.1, true, c.2.2)), (conN, fun c v => (c.1, c.2.1, esiB v, c.2.2.2)), (maxN, fun c v => (c.1, c.2.1, c.2.2.1, true, (agesP v).1, (agesP v).2))]
def ruled (m : List Dv) (c : Ctl) (r : List UInt8 × (Ctl → List UInt8 → Ctl)) : Ctl := match findD m r.1 with | some d => r.2 c d.2.1 | none => c
def runR (m : List Dv) (k : Nat) : Ctl := (rulesL.take k).foldl (ruled m) ctl0
theorem runR_step (m : List Dv) (k : Nat) (h : k < rulesL.length) : runR m (k + 1) = ruled m (runR m k) rulesL[k] := by
  unfold runR
  rw [List.take_succ_eq_append_getElem h, List.foldl_append]
  rfl
theorem find_low {m : List Dv} {n : List UInt8} (hm : ∀ d ∈ m, lower d.1 = d.1) (hn : lower n = n) : findD m n = m.find? fun d => d.1 == n := by
  unfold findD
  rw [hn]
  induction m with
  | nil => rfl
  | cons d r ih =>
    rw [List.find?_cons, List.find?_cons, hm d (by simp), ih fun x hx => hm x (by simp [hx])]
theorem run_all {m : List Dv} (hm : ∀ d ∈ m, lower d.1 = d.1) : runR m 4 = ctlOf m := by
  have h1 := find_low (n := nosN) hm (by decide)
  have h2 := find_low (n := remN) hm (by decide)
  have h3 := find_low (n := conN) hm (by decide)
  have h4 := find_low (n := maxN) hm (by decide)
  have e0 : esiB [] = false := by decide
  have e1 : agesP [] = (0, 0) := by
    unfold agesP
    rw [cutX_none (fun c hc => by cases hc)]
    rfl
  have e : runR m 4 = ruled m (ruled m (ruled m (ruled m ctl0 (nosN, fun c _ => (true, c.2))) (remN, fun c _ => (c.1, true, c.2.2))) (conN, fun c v => (c.1, c.2.1, esiB v, c.2.2.2))) (maxN, fun c v => (c.1, c.2.1, c.2.2.1, true, (agesP v).1, (agesP v).2)) := rfl
  rw [e]
  unfold ruled ctlOf firstS
  simp only [h1, h2, h3, h4]
  cases m.find? (fun d => d.1 == nosN) <;> cases m.find? (fun d => d.1 == remN) <;> cases m.find? (fun d => d.1 == conN) <;> cases m.find? (fun d => d.1 == maxN) <;> simp [ctl0, e0, e1]
theorem first_any (l : List Dv) (n : List UInt8) : (firstS l n).2 = l.any fun d => d.1 == n := by
  unfold firstS
  induction l with
  | nil => rfl
  | cons d r ih =>
    rw [List.find?_cons, List.any_cons]
    cases h : d.1 == n
    · rw [Bool.false_or]; exact ih
    · simp
theorem first_len {l : List Dv} {n : List UInt8} {N : Nat} (h : ∀ d ∈ l, d.2.1.length ≤ N) : (firstS l n).1.length ≤ N := by
  unfold firstS
  split
  · rename_i d hd; exact h d (List.mem_of_find?_eq_some hd)
  · simp

/-! The stage's theorem. -/
/-- max-age=1, and a quotation mark: what can't be read -/
def tornV : List UInt8 := [109, 97, 120, 45, 97, 103, 101, 61, 49, 44, 32, 34]
theorem torn_is : valD tornV = [noStore] := by decide +kernel
theorem torn_no (L : List (List UInt8)) (dev : List UInt8) : (ofC (L ++ [tornV]) dev).1 = true := by
  have e : listS (L ++ [tornV]) = listS L ++ [noStore] := by unfold listS; rw [List.flatMap_append]; simp [torn_is]
  show (firstS (mineS (listS (L ++ [tornV])) dev) nosN).2 = true
  rw [e, first_any]
  generalize listS L = l
  cases ho : ownN (l ++ [noStore]) dev nosN
  · refine List.any_eq_true.2 ⟨noStore, List.mem_filter.2 ⟨by simp, ?_⟩, by decide⟩
    have hq : ownN (l ++ [noStore]) dev noStore.1 = false := ho
    rw [hq]
    simp [noStore]
  · obtain ⟨d, hd, h⟩ := List.any_eq_true.1 ho
    rw [Bool.and_eq_true] at h
    exact List.any_eq_true.2 ⟨d, List.mem_filter.2 ⟨hd, by rw [h.1, Bool.true_or]⟩, h.2⟩
/-- one of the first k is a no-store for the device -/
def ownTo (m : List Dv) (dev : List UInt8) (k : Nat) : Bool := (m.take k).any fun d => d.1 == nosN && d.2.2.2 == dev
theorem ownTo_step (m : List Dv) (dev : List UInt8) (k : Nat) (h : k < m.length) : ownTo m dev (k + 1) = (ownTo m dev k || (m[k].1 == nosN && m[k].2.2.2 == dev)) := by
  unfold ownTo
  rw [List.take_succ_eq_append_getElem h, List.any_append]
  simp
theorem own_no {m : List Dv} {dev : List UInt8} {k : Nat} (h : ownTo m dev k = true) : (ctlOf m).1 = true := by
  obtain ⟨d, hd, h1⟩ := List.any_eq_true.1 h
  rw [Bool.and_eq_true] at h1
  show (firstS m nosN).2 = true
  rw [first_any]
  exact List.any_eq_true.2 ⟨d, List.mem_of_mem_take hd, h1.1⟩
theorem trim_ends {x : List UInt8} (h1 : ∀ c r, x = c :: r → blankB c = false) (h2 : ∀ r c, x = r ++ [c] → blankB c = false) : trim x = x := by
  show rtrim (ltrim x) = x
  rw [ltrim_idem_of h1]
  exact rtrim_idem_of h2
theorem tok_all {f : List UInt8} (h : token f = true) : f ≠ [] ∧ (∀ c ∈ f, blankB c = false ∧ ¬ (c.toNat : Int) = 34 ∧ c ≠ 44 ∧ c ≠ 59) := by
  unfold token at h
  simp only [Bool.and_eq_true, List.all_eq_true] at h
  refine ⟨by rintro rfl; simp at h, fun c hc => ⟨(tok_not (h.2 c hc)).1, (tok_not (h.2 c hc)).2, ?_, ?_⟩⟩
  · rintro rfl; have := h.2 44 hc; revert this; decide
  · rintro rfl; have := h.2 59 hc; revert this; decide
/-- an element of two parts, the second one a token -/
structure Head (a : List UInt8) : Prop where
  blank : trim a = a
  ne : a.isEmpty = false
  first : ∀ c r, a = c :: r → blankB c = false
  at44 : ∀ r cur A, cutAt 44 (a ++ r) false false cur A = cutAt 44 r false false (cur ++ a) A
  at59 : ∀ r cur A, cutAt 59 (a ++ r) false false cur A = cutAt 59 r false false (cur ++ a) A
theorem head_elem {a f : List UInt8} (ha : Head a) (hf : token f = true) : elemD (a ++ 59 :: f) = (sayD a).toList.map (forD f) := by
  obtain ⟨hne, hall⟩ := tok_all hf
  have hp : addP [] a = [a] := by unfold addP; rw [ha.blank, ha.ne]; rfl
  have hp2 : addP [a] f = [a, f] := by
    unfold addP
    rw [trim_token hf, if_neg (by cases f with | nil => exact absurd rfl hne | cons x y => simp)]
    rfl
  have hc : cutAt 59 (a ++ 59 :: f) false false [] [] = some [a, f] := by
    rw [ha.at59, List.nil_append, cutAt, if_pos ⟨rfl, rfl⟩, hp, cut_plain f [] [a] fun c hc => ⟨(hall c hc).2.1, (hall c hc).2.2.2⟩, List.nil_append, hp2]
  have hb : badSep 59 = false := by decide
  have hE : splitE (a ++ 59 :: f) 59 = 0 := by simp [splitE, hb, hc]
  have hL : splitL (a ++ 59 :: f) 59 = [a, f] := by simp [splitL, hb, hc]
  unfold elemD
  rw [if_pos hE, hL]
  simp only [hf, if_true]
theorem head_trim {a f : List UInt8} (ha : Head a) (hf : token f = true) : addP [] (a ++ 59 :: f) = [a ++ 59 :: f] ∧ ∀ A, addP A (32 :: (a ++ 59 :: f)) = A ++ [a ++ 59 :: f] := by
  obtain ⟨hne, hall⟩ := tok_all hf
  have h1 : trim (a ++ 59 :: f) = a ++ 59 :: f := by
    refine trim_ends (fun c r e => ?_) fun r c e => ?_
    · cases a with
      | nil => have := ha.ne; simp at this
      | cons x y => exact (List.cons.inj e).1 ▸ ha.first x y rfl
    · obtain ⟨t, z, hz⟩ : ∃ t z, f = t ++ [z] := ⟨f.dropLast, f.getLast hne, (List.dropLast_concat_getLast hne).symm⟩
      have e2 : (a ++ 59 :: t) ++ [z] = r ++ [c] := by rw [← e, hz]; simp
      have e3 : [z] = [c] := (List.append_inj' e2 rfl).2
      rw [← (List.cons.inj e3).1]
      exact (hall z (by rw [hz]; simp)).1
  have h2 : trim (32 :: (a ++ 59 :: f)) = a ++ 59 :: f := by
    have h3 : ltrim (32 :: (a ++ 59 :: f)) = ltrim (a ++ 59 :: f) := ltrim_gap (g := [32]) (fun c hc => by rw [List.mem_singleton.1 hc]; decide) _
    show rtrim (ltrim (32 :: (a ++ 59 :: f))) = _
    rw [h3]; exact h1
  have h0 : (a ++ 59 :: f).isEmpty = false := by simp
  constructor
  · unfold addP; rw [h1, h0]; rfl
  · intro A; unfold addP; rw [h2, h0]; rfl
def h1N : List UInt8 := nosN
def h2N : List UInt8 := [99, 111, 110, 116, 101, 110, 116, 61, 34, 69, 83, 73, 47, 49, 46, 48, 34]
def h3N : List UInt8 := [109, 97, 120, 45, 97, 103, 101, 61, 49]
theorem head1 : Head h1N := ⟨by decide +kernel, by decide, fun c r e => by cases e; decide, fun r cur A => by simp [h1N, nosN, cutAt, qnext], fun r cur A => by simp [h1N, nosN, cutAt, qnext]⟩
theorem head2 : Head h2N := ⟨by decide +kernel, by decide, fun c r e => by cases e; decide, fun r cur A => by simp [h2N, cutAt, qnext], fun r cur A => by simp [h2N, cutAt, qnext]⟩
theorem head3 : Head h3N := ⟨by decide +kernel, by decide, fun c r e => by cases e; decide, fun r cur A => by simp [h3N, cutAt, qnext], fun r cur A => by simp [h3N, cutAt, qnext]⟩
/-- three elements for one device -/
def moreV (f : List UInt8) : List UInt8 := h1N ++ (59 :: f ++ 44 :: 32 :: (h2N ++ (59 :: f ++ 44 :: 32 :: (h3N ++ (59 :: f)))))
theorem more_split {f : List UInt8} (hf : token f = true) : splitE (moreV f) 44 = 0 ∧ splitL (moreV f) 44 = [h1N ++ 59 :: f, h2N ++ 59 :: f, h3N ++ 59 :: f] := by
  obtain ⟨hne, hall⟩ := tok_all hf
  have hpl : ∀ c ∈ 59 :: f, ¬ (c.toNat : Int) = 34 ∧ c ≠ (44 : UInt8) := by
    intro c hc
    rcases List.mem_cons.1 hc with rfl | hc
    · exact ⟨by decide, by decide⟩
    · exact ⟨(hall c hc).2.1, (hall c hc).2.2.1⟩
  have hc : cutAt 44 (moreV f) false false [] [] = some [h1N ++ 59 :: f, h2N ++ 59 :: f, h3N ++ 59 :: f] := by
    have s32 : ∀ (r : List UInt8) (A : List (List UInt8)), cutAt 44 (32 :: r) false false [] A = cutAt 44 r false false [32] A := fun r A => by
      rw [cutAt, if_neg (by decide), qn_out false (by decide)]; rfl
    unfold moreV
    rw [head1.at44, cut_plain2 _ _ _ _ hpl, cut_comma, List.nil_append, (head_trim head1 hf).1, s32, head2.at44, cut_plain2 _ _ _ _ hpl, cut_comma,
      show [32] ++ h2N ++ 59 :: f = 32 :: (h2N ++ 59 :: f) from rfl, (head_trim head2 hf).2, s32, head3.at44, cut_plain _ _ _ hpl, show [32] ++ h3N ++ 59 :: f = 32 :: (h3N ++ 59 :: f) from rfl, (head_trim head3 hf).2]
    rfl
  have hb : badSep 44 = false := by decide
  exact ⟨by simp [splitE, hb, hc], by simp [splitL, hb, hc]⟩
theorem more_for {f : List UInt8} (hf : token f = true) : ∀ d ∈ valD (moreV f), d.2.2.2 = f := by
  obtain ⟨hE, hL⟩ := more_split hf
  have key : ∀ {a : List UInt8} {d : Dv}, Head a → d ∈ elemD (a ++ 59 :: f) → d.2.2.2 = f := fun {a d} ha h => by
    rw [head_elem ha hf] at h
    obtain ⟨d', _, rfl⟩ := List.mem_map.1 h
    rfl
  intro d hd
  unfold valD at hd
  rw [if_pos hE, hL] at hd
  obtain ⟨e, he, hd⟩ := List.mem_flatMap.1 hd
  simp only [List.mem_cons, List.not_mem_nil, or_false] at he
  rcases he with rfl | rfl | rfl
  · exact key head1 hd
  · exact key head2 hd
  · exact key head3 hd
theorem more_same {f dev : List UInt8} (hf : token f = true) (hne : f ≠ dev) (L : List (List UInt8)) : ofC (moreV f :: L) dev = ofC L dev := by
  unfold ofC listS
  rw [List.flatMap_cons, mine_other (more_for hf) (tok_all hf).1 hne]
theorem more_len (f : List UInt8) : (moreV f).length = 50 + 3 * f.length - 9 := by
  unfold moreV h1N h2N h3N nosN
  simp only [List.length_append, List.length_cons, List.length_nil]
  omega
end Go.Proofs.Ytonioemenjjajaa
