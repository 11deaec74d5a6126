/- A URI's text is read as the URI; what is read has that text, but for the path that was none. Plainly: nothing of the program is read here. -/
import Derived.Test.YtekaiafhnnpkgaaGreatDoorUri3
namespace Go.Proofs.YtekaiafhnnpkgaaGreatDoor
theorem occ_headU {s : List UInt8} {c : UInt8} {m : List UInt8} {j : Nat} (h : Lib.occAt s (c :: m) j = true) : s[j]? = some c := by
  have h2 : (c :: m).isPrefixOf (s.drop j) = true := h
  obtain ⟨r, hr⟩ := List.isPrefixOf_iff_prefix.1 h2
  have h3 : (s.drop j)[0]? = some c := by rw [← hr]; rfl
  simpa using h3
theorem cutF (a m r : List UInt8) (c : UInt8) (h : ∀ x ∈ a, x ≠ c) : Lib.cut (a ++ (c :: m ++ r)) (c :: m) = (a, r, true) := by
  have h1 := cut_hit (s := a ++ (c :: m ++ r)) (sep := c :: m) (i := a.length) (by simp) (by
    show (c :: m).isPrefixOf (List.drop a.length (a ++ (c :: m ++ r))) = true
    rw [List.drop_left]
    exact List.isPrefixOf_iff_prefix.2 (List.prefix_append _ _)) (fun j hj => by
      cases ho : Lib.occAt (a ++ (c :: m ++ r)) (c :: m) j
      · rfl
      · have h2 := occ_headU ho
        rw [List.getElem?_append_left hj, List.getElem?_eq_getElem hj] at h2
        exact absurd (Option.some.inj h2) (h _ (List.getElem_mem hj)))
  rw [h1, List.take_left, ← List.drop_drop, List.drop_left, List.drop_left]
theorem cutN1 (a : List UInt8) (c : UInt8) (h : ∀ x ∈ a, x ≠ c) : Lib.cut a [c] = (a, [], false) := cut_miss fun j _ => by
  cases ho : Lib.occAt a [c] j
  · rfl
  · have h2 := occ_headU ho
    have h3 := List.mem_of_getElem? h2
    exact absurd rfl (h _ h3)
theorem made_bytes (m : List UInt8) : ∀ (n : Nat) (l : List UInt8), l.length ≤ n → made m l = true → ∀ c ∈ l, c = 37 ∨ hxB c = true ∨ plB c = true ∨ inI (c.toNat : Int) m = true := by
  intro n
  induction n with
  | zero => intro l hl _ c hc; rw [List.eq_nil_of_length_eq_zero (Nat.le_zero.1 hl)] at hc; cases hc
  | succ n ih =>
    intro l hl h c hc
    match l, hl, h, hc with
    | [a], _, h, hc =>
      obtain rfl := List.mem_singleton.1 hc
      have h2 : madeP m (c, false) = true := by simpa [made, toks] using h
      simp only [madeP, Bool.false_or, Bool.or_eq_true] at h2
      exact .inr (.inr h2)
    | [a, b], _, h, hc =>
      have h2 : madeP m (a, false) = true ∧ madeP m (b, false) = true := by simpa [made, toks] using h
      simp only [madeP, Bool.false_or, Bool.or_eq_true] at h2
      rcases List.mem_cons.1 hc with rfl | hc
      · exact .inr (.inr h2.1)
      · obtain rfl := List.mem_singleton.1 hc
        exact .inr (.inr h2.2)
    | d :: a :: b :: r, hl, h, hc =>
      by_cases he : (d == 37 && (hxB a && hxB b)) = true
      · have h3 : made m r = true := by
          unfold made at h ⊢
          rw [toks, if_pos he, List.all_cons, Bool.and_eq_true] at h
          exact h.2
        simp only [Bool.and_eq_true, beq_iff_eq] at he
        rcases List.mem_cons.1 hc with rfl | hc
        · exact .inl he.1
        · rcases List.mem_cons.1 hc with rfl | hc
          · exact .inr (.inl he.2.1)
          · rcases List.mem_cons.1 hc with rfl | hc
            · exact .inr (.inl he.2.2)
            · exact ih r (by simp only [List.length_cons] at hl; omega) h3 c hc
      · unfold made at h
        rw [toks, if_neg he, List.all_cons, Bool.and_eq_true] at h
        rcases List.mem_cons.1 hc with rfl | hc
        · have h2 := h.1
          simp only [madeP, Bool.false_or, Bool.or_eq_true] at h2
          exact .inr (.inr h2)
        · exact ih (a :: b :: r) (by simp only [List.length_cons] at hl ⊢; omega) h.2 c hc
theorem path_no63 {l : List UInt8} (h : made pathM l = true) : ∀ c ∈ l, c ≠ 63 := fun c hc e => by
  subst e
  rcases made_bytes pathM _ l (Nat.le_refl _) h _ hc with h | h | h | h <;> exact absurd h (by decide)
theorem host_no {l : List UInt8} (h : hostOk l = true) : ∀ c ∈ l, c ≠ 63 ∧ c ≠ 47 ∧ c ≠ 58 := by
  have key : ∀ (n : Nat) (l : List UInt8), l.length ≤ n → (toks l).all hostP = true → ∀ c ∈ l, hoB c = true := by
    intro n
    induction n with
    | zero => intro l hl _ c hc; rw [List.eq_nil_of_length_eq_zero (Nat.le_zero.1 hl)] at hc; cases hc
    | succ n ih =>
      intro l hl h c hc
      match l, hl, h, hc with
      | [a], _, h, hc =>
        obtain rfl := List.mem_singleton.1 hc
        simpa [toks, hostP] using h
      | [a, b], _, h, hc =>
        have h2 : hoB a = true ∧ hoB b = true := by simpa [toks, hostP] using h
        rcases List.mem_cons.1 hc with rfl | hc
        · exact h2.1
        · obtain rfl := List.mem_singleton.1 hc
          exact h2.2
      | d :: a :: b :: r, hl, h, hc =>
        by_cases he : (d == 37 && (hxB a && hxB b)) = true
        · rw [toks, if_pos he, List.all_cons] at h
          simp [hostP] at h
        · rw [toks, if_neg he, List.all_cons, Bool.and_eq_true] at h
          rcases List.mem_cons.1 hc with rfl | hc
          · simpa [hostP] using h.1
          · exact ih (a :: b :: r) (by simp only [List.length_cons] at hl ⊢; omega) h.2 c hc
  unfold hostOk at h
  rw [Bool.and_eq_true] at h
  intro c hc
  have h2 := key _ l (Nat.le_refl _) h.2 c hc
  refine ⟨?_, ?_, ?_⟩ <;> (rintro rfl; exact absurd h2 (by decide))
/-- a port's text -/
def portL (p : Int) : List UInt8 := if p = 0 then [] else 58 :: Lib.itoa p
theorem port_no {p : Int} (h0 : 0 ≤ p) : ∀ c ∈ portL p, c ≠ 63 ∧ c ≠ 47 := by
  unfold portL
  by_cases hp : p = 0
  · rw [if_pos hp]; intro c hc; cases hc
  · rw [if_neg hp]
    obtain ⟨n, rfl⟩ : ∃ n : Nat, p = n := ⟨p.toNat, by omega⟩
    rw [itoaU]
    intro c hc
    rcases List.mem_cons.1 hc with rfl | hc
    · exact ⟨by decide, by decide⟩
    · have h2 := List.all_eq_true.1 (decU_all n).1 c hc
      refine ⟨?_, ?_⟩ <;> (rintro rfl; exact absurd h2 (by decide))
theorem uchk_zero {u : Ur} (h : u.check = 0) : u.formed = true ∧ u.text.length ≤ 1024 := by
  unfold Ur.check at h
  cases hf : u.formed
  · rw [hf] at h; exact absurd h (by simp)
  · rw [hf] at h
    simp only [if_true] at h
    refine ⟨rfl, ?_⟩
    rcases Nat.lt_or_ge 1024 u.text.length with h2 | h2
    · rw [if_pos h2] at h; exact absurd h (by decide)
    · exact h2
structure Fm (u : Ur) : Prop where
  sc : u.sc = schH ∨ u.sc = schS
  ho : hostOk u.ho = true
  p0 : 0 ≤ u.po
  p1 : u.po ≤ 65535
  pa : ∃ r, u.pa = 47 :: r
  mp : made pathM u.pa = true
  mq : made queryM u.qu = true
  qh : u.hq = false → u.qu = []
theorem formed_iff {u : Ur} : u.formed = true ↔ Fm u := by
  unfold Ur.formed
  simp only [Bool.and_eq_true, decide_eq_true_eq, bne_iff_ne]
  constructor
  · rintro ⟨h1, h2, h3, h4, h5, h6, h7, h8⟩
    refine ⟨?_, h2, h3, h4, ?_, h6, h7, ?_⟩
    · unfold usual at h1
      by_cases a : u.sc = schH
      · exact .inl a
      · rw [if_neg a] at h1
        by_cases b : u.sc = schS
        · exact .inr b
        · rw [if_neg b] at h1; exact absurd rfl h1
    · match hp : u.pa with
      | [] => rw [hp] at h5; exact absurd h5 (by decide)
      | c :: r =>
        rw [hp] at h5
        simp [Lib.hasPrefix, List.isPrefixOf] at h5
        exact ⟨r, by rw [h5]⟩
    · intro hq
      rw [hq, Bool.false_or] at h8
      exact List.isEmpty_iff.1 h8
  · rintro ⟨h1, h2, h3, h4, ⟨r, h5⟩, h6, h7, h8⟩
    refine ⟨?_, h2, h3, h4, ?_, h6, h7, ?_⟩
    · rcases h1 with h | h <;> rw [h] <;> decide
    · rw [h5]; rfl
    · cases hq : u.hq
      · rw [h8 hq]; rfl
      · rfl
theorem text_split (u : Ur) : u.text = u.sc ++ (58 :: [47, 47] ++ (u.ho ++ (portL u.po ++ (u.pa ++ if u.hq then 63 :: u.qu else [])))) := rfl
theorem sch_no {u : Ur} (h : Fm u) : ∀ c ∈ u.sc, c ≠ 58 ∧ c ≠ 63 := by
  rcases h.sc with h | h <;> rw [h] <;> decide
theorem apart_text {u : Ur} (h : Fm u) : apartL u.text = u := by
  obtain ⟨r, hr⟩ := h.pa
  have hh := host_no h.ho
  have hp := port_no h.p0
  have c1 : Lib.cut u.text [58, 47, 47] = (u.sc, u.ho ++ (portL u.po ++ (u.pa ++ if u.hq then 63 :: u.qu else [])), true) := by
    rw [text_split]
    exact cutF u.sc [47, 47] _ 58 fun x hx => (sch_no h x hx).1
  have n63 : ∀ x ∈ u.ho ++ (portL u.po ++ u.pa), x ≠ 63 := fun x hx => by
    rcases List.mem_append.1 hx with h1 | h1
    · exact (hh x h1).1
    · rcases List.mem_append.1 h1 with h1 | h1
      · exact (hp x h1).1
      · exact path_no63 h.mp x h1
  have c2 : Lib.cut (u.ho ++ (portL u.po ++ (u.pa ++ if u.hq then 63 :: u.qu else []))) [63] = (u.ho ++ (portL u.po ++ u.pa), u.qu, u.hq) := by
    cases hq : u.hq
    · have := cutN1 _ 63 n63
      simpa [h.qh hq] using this
    · have := cutF _ [] u.qu 63 n63
      simpa using this
  have n47 : ∀ x ∈ u.ho ++ portL u.po, x ≠ 47 := fun x hx => by
    rcases List.mem_append.1 hx with h1 | h1
    · exact (hh x h1).2.1
    · exact (hp x h1).2
  have c3 : Lib.cut (u.ho ++ (portL u.po ++ u.pa)) [47] = (u.ho ++ portL u.po, r, true) := by
    have := cutF _ [] r 47 n47
    rw [hr]
    simpa using this
  have c4 : ∃ x y, Lib.cut (u.ho ++ portL u.po) [58] = (u.ho, x, y) ∧ atoiV x = u.po := by
    by_cases hz : u.po = 0
    · refine ⟨[], false, ?_, by rw [hz]; rfl⟩
      have : portL u.po = [] := by unfold portL; rw [if_pos hz]
      rw [this, List.append_nil]
      exact cutN1 _ 58 fun x hx => (hh x hx).2.2
    · have h0 : 0 < u.po := by have := h.p0; omega
      have hn := numU_itoa h0 h.p1
      have hs := numU_some (l := Lib.itoa u.po) (by rw [hn]; omega)
      refine ⟨Lib.itoa u.po, true, ?_, by rw [hs.1, hn]⟩
      have : portL u.po = 58 :: Lib.itoa u.po := by unfold portL; rw [if_neg hz]
      rw [this]
      have := cutF u.ho [] (Lib.itoa u.po) 58 fun x hx => (hh x hx).2.2
      simpa using this
  obtain ⟨x, y, c4, c5⟩ := c4
  unfold apartL
  simp only [c1, c2, c3, c4, c5, if_true, ← hr]
theorem uparse_put {u : Ur} (h : u.check = 0) : parseU u.put = (u, 0) ∧ u.put = u.text := by
  obtain ⟨hf, hl⟩ := uchk_zero h
  have hp : u.put = u.text := by unfold Ur.put; rw [if_pos h]
  rw [hp]
  have ha := apart_text (formed_iff.1 hf)
  obtain ⟨r, hr⟩ := (formed_iff.1 hf).pa
  have hroot : u.root = u := by
    unfold Ur.root
    rw [if_neg (by rw [hr]; simp)]
  unfold parseU
  rw [if_neg (by omega), ha, if_pos rfl, hroot, if_pos h]
  exact ⟨rfl, rfl⟩
theorem uparse_no {s : List UInt8} (h : (parseU s).2 ≠ 0) : (parseU s).1 = ur0 := by
  unfold parseU at h ⊢
  split
  · rfl
  · split
    · split
      · rename_i h1 h2 h3
        rw [if_neg h1, if_pos h2, if_pos h3] at h
        exact absurd rfl h
      · rfl
    · rfl
/-- the place of the first '?', or the end -/
def atQ (s : List UInt8) : Nat := if Lib.indexByte s 63 < 0 then s.length else (Lib.indexByte s 63).toNat
theorem index_hitU (c : UInt8) : ∀ (X q : List UInt8), (∀ x ∈ X, x ≠ c) → Lib.indexByte (X ++ c :: q) c = X.length
  | [], q, _ => by simp [Lib.indexByte]
  | b :: X, q, h => by
    have hb : (b == c) = false := beq_eq_false_iff_ne.2 (h b (by simp))
    have ih := index_hitU c X q fun x hx => h x (by simp [hx])
    rw [List.cons_append, Lib.indexByte, hb, ih]
    have : ((X.length : Int) == -1) = false := by rw [beq_eq_false_iff_ne]; omega
    simp [this]
theorem index_missU (c : UInt8) : ∀ (X : List UInt8), (∀ x ∈ X, x ≠ c) → Lib.indexByte X c = -1
  | [], _ => rfl
  | b :: X, h => by
    have hb : (b == c) = false := beq_eq_false_iff_ne.2 (h b (by simp))
    have ih := index_missU c X fun x hx => h x (by simp [hx])
    rw [Lib.indexByte, hb, ih]; rfl
theorem uparse_back {s : List UInt8} (h : (parseU s).2 = 0) : (parseU s).1.check = 0 ∧ ((parseU s).1.put = s ∨ ((parseU s).1.put ≠ s ∧ (parseU s).1.pa = [47] ∧ (parseU s).1.put = s.take (atQ s) ++ 47 :: s.drop (atQ s))) := by
  unfold parseU at h ⊢
  split at h
  · exact absurd h (by decide)
  rename_i h1
  rw [if_neg h1]
  split at h
  · rename_i h2
    rw [if_pos h2]
    split at h
    · rename_i h3
      rw [if_pos h3]
      simp only
      refine ⟨h3, ?_⟩
      have hput : (apartL s).root.put = (apartL s).root.text := by unfold Ur.put; rw [if_pos h3]
      rw [hput]
      by_cases hpa : (apartL s).pa = []
      · right
        have hf := formed_iff.1 (uchk_zero h3).1
        generalize apartL s = a at *
        obtain ⟨sc, ho, po, pa, qu, hq⟩ := a
        simp only at hpa
        subst hpa
        have hr : Ur.root ⟨sc, ho, po, [], qu, hq⟩ = ⟨sc, ho, po, [47], qu, hq⟩ := rfl
        rw [hr] at hf ⊢
        have hX : ∀ x ∈ sc ++ (58 :: [47, 47] ++ (ho ++ portL po)), x ≠ 63 := fun x hx => by
          rcases List.mem_append.1 hx with h1 | h1
          · exact (sch_no hf x h1).2
          · rcases List.mem_append.1 h1 with h1 | h1
            · have h3 : ∀ y ∈ ([58, 47, 47] : List UInt8), y ≠ 63 := by decide
              exact h3 x h1
            · rcases List.mem_append.1 h1 with h1 | h1
              · exact (host_no hf.ho x h1).1
              · exact (port_no hf.p0 x h1).1
        have hs : s = (sc ++ (58 :: [47, 47] ++ (ho ++ portL po))) ++ (if hq then 63 :: qu else []) := by
          rw [← h2, text_split]; simp
        have ht : Ur.text ⟨sc, ho, po, [47], qu, hq⟩ = (sc ++ (58 :: [47, 47] ++ (ho ++ portL po))) ++ 47 :: (if hq then 63 :: qu else []) := by
          rw [text_split]; simp
        generalize sc ++ (58 :: [47, 47] ++ (ho ++ portL po)) = X at *
        have hat : atQ s = X.length := by
          unfold atQ
          cases hq
          · have := index_missU 63 X hX
            simp only [Bool.false_eq_true, if_false, List.append_nil] at hs
            rw [hs, this, if_pos (by decide)]
          · have := index_hitU 63 X qu hX
            simp only [if_true] at hs
            rw [hs, this, if_neg (by omega), Int.toNat_natCast]
        refine ⟨?_, rfl, ?_⟩
        · rw [ht, hs]
          intro e
          have := congrArg List.length e
          simp at this
        · rw [ht, hat, hs, List.take_left, List.drop_left]
      · left
        have hr : (apartL s).root = apartL s := by
          unfold Ur.root
          rw [if_neg hpa]
        rw [hr, h2]
    · exact absurd h ‹_›
  · exact absurd h (by decide)
end Go.Proofs.YtekaiafhnnpkgaaGreatDoor
