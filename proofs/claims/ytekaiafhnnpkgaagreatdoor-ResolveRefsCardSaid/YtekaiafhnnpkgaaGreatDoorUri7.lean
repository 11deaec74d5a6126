/- The normal form of a URI that may be is one, is its own, and not longer; one that differs in forms alone has it, too. Plainly: nothing of the program is read here. -/
import Derived.Test.YtekaiafhnnpkgaaGreatDoorUri6
import Derived.Lib.Case
namespace Go.Proofs.YtekaiafhnnpkgaaGreatDoor
theorem host_toksU : ∀ (n : Nat) (l : List UInt8), l.length ≤ n → (toks l).all hostP = l.all hoB := by
  intro n
  induction n with
  | zero => intro l h; rw [List.eq_nil_of_length_eq_zero (Nat.le_zero.1 h)]; rfl
  | succ n ih =>
    intro l h
    match l, h with
    | [], _ => rfl
    | [a], _ => simp [toks, hostP]
    | [a, b], _ => simp [toks, hostP]
    | d :: a :: b :: r, h =>
      by_cases he : (d == 37 && (hxB a && hxB b)) = true
      · rw [toks, if_pos he]
        simp only [Bool.and_eq_true, beq_iff_eq] at he
        rw [he.1]
        have : hoB 37 = false := by decide
        simp [hostP, this]
      · rw [toks, if_neg he, List.all_cons, ih (a :: b :: r) (by simp only [List.length_cons] at h ⊢; omega), List.all_cons]
        simp [hostP]
theorem host_iffU (l : List UInt8) : hostOk l = true ↔ l ≠ [] ∧ l.length ≤ 253 ∧ ∀ c ∈ l, hoB c = true := by
  unfold hostOk
  rw [host_toksU _ _ (Nat.le_refl _)]
  simp only [Bool.and_eq_true, Bool.not_eq_true', List.isEmpty_eq_false_iff, decide_eq_true_eq, List.all_eq_true]
  exact ⟨fun h => ⟨h.1.1, h.1.2, h.2⟩, fun h => ⟨⟨h.1, h.2.1⟩, h.2.2⟩⟩
theorem case_host : ∀ n : Nat, n < 256 → hoB (UInt8.ofNat n) = true → hoB (lowB (UInt8.ofNat n)) = true ∧ hoB (Lib.upperB (UInt8.ofNat n)) = true := by decide +kernel
theorem case_back : ∀ n : Nat, n < 256 → lowB (Lib.upperB (lowB (UInt8.ofNat n))) = lowB (UInt8.ofNat n) ∧ lowB (lowB (UInt8.ofNat n)) = lowB (UInt8.ofNat n) := by decide +kernel
theorem byteU (c : UInt8) : UInt8.ofNat c.toNat = c := by simp
theorem host_lower {l : List UInt8} (h : hostOk l = true) : hostOk (lower l) = true ∧ hostOk (Lib.toUpperA l) = true := by
  obtain ⟨h1, h2, h3⟩ := (host_iffU l).1 h
  constructor
  · refine (host_iffU _).2 ⟨by simpa [lower] using h1, by simpa [lower] using h2, fun c hc => ?_⟩
    obtain ⟨d, hd, rfl⟩ := List.mem_map.1 hc
    have := case_host d.toNat d.toNat_lt
    rw [byteU] at this
    exact (this (h3 d hd)).1
  · refine (host_iffU _).2 ⟨by simpa [Lib.toUpperA] using h1, by simpa [Lib.toUpperA] using h2, fun c hc => ?_⟩
    obtain ⟨d, hd, rfl⟩ := List.mem_map.1 hc
    have := case_host d.toNat d.toNat_lt
    rw [byteU] at this
    exact (this (h3 d hd)).2
theorem lower_lower (l : List UInt8) : lower (lower l) = lower l := by
  unfold lower
  rw [List.map_map]
  exact List.map_congr_left fun c _ => by have := (case_back c.toNat c.toNat_lt).2; rwa [byteU] at this
theorem lower_upper (l : List UInt8) : lower (Lib.toUpperA (lower l)) = lower l := by
  unfold lower Lib.toUpperA
  rw [List.map_map, List.map_map]
  exact List.map_congr_left fun c _ => by have := (case_back c.toNat c.toNat_lt).1; rwa [byteU] at this
/-- the parts of a URI in its normal form -/
structure NormU (n : Ur) : Prop where
  sc : n.sc = schH ∨ n.sc = schS
  ho : hostOk n.ho = true
  low : ∃ h, n.ho = lower h
  p0 : 0 ≤ n.po
  p1 : n.po ≤ 65535
  po : (if n.po = usual n.sc then 0 else n.po) = n.po
  pa : PathN n.pa
  mq : made queryM n.qu = true
  uq : undo n.qu = n.qu
  qh : n.hq = false → n.qu = []
theorem queryM37 : inI 37 queryM = false := by decide
theorem norm_parts {u : Ur} (h : Fm u) : NormU u.norm ∧ u.norm.text.length ≤ u.text.length := by
  obtain ⟨h1, h2, h3, h4, h5, h6, h7, h8⟩ := h
  have hp := path_normal h6 h5
  have hg := gd_made queryM37 h7
  have hno : u.norm = ⟨u.sc, lower u.ho, if u.po = usual u.sc then 0 else u.po, dotsL (undo u.pa), undo u.qu, u.hq⟩ := rfl
  rw [hno]
  refine ⟨⟨h1, (host_lower h2).1, ⟨_, rfl⟩, ?_, ?_, ?_, hp.1, made_undo queryM37 h7, undo_undo hg, ?_⟩, ?_⟩
  · simp only; split <;> omega
  · simp only; split <;> omega
  · simp only
    by_cases hu : u.po = usual u.sc
    · rw [if_pos hu]; split <;> rfl
    · rw [if_neg hu, if_neg hu]
  · intro hq
    simp only at hq
    show undo u.qu = []
    rw [h8 hq]; rfl
  · rw [text_split, text_split]
    simp only
    have hq := undo_le hg
    have hpo : (portL (if u.po = usual u.sc then 0 else u.po)).length ≤ (portL u.po).length := by
      split
      · exact Nat.zero_le _
      · exact Nat.le_refl _
    have hp2 := hp.2
    have hl := lower_len u.ho
    simp only [List.length_append, List.length_cons] at *
    cases u.hq
    · simp only [Bool.false_eq_true, if_false, List.length_nil]; omega
    · simp only [if_true, List.length_cons]; omega
theorem formed_of {n : Ur} (h : NormU n) : Fm n := ⟨h.sc, h.ho, h.p0, h.p1, h.pa.hd, h.pa.made, h.mq, h.qh⟩
theorem norm_same {n : Ur} (h : NormU n) : n.norm = n := by
  have hno : n.norm = ⟨n.sc, lower n.ho, if n.po = usual n.sc then 0 else n.po, dotsL (undo n.pa), undo n.qu, n.hq⟩ := rfl
  obtain ⟨x, hx⟩ := h.low
  rw [hno, h.po, h.pa.undo, h.pa.dots, h.uq, hx, lower_lower, ← hx]
theorem check_fm {u : Ur} (h : Fm u) : u.check = 0 ∨ u.check = 3 := by
  unfold Ur.check
  rw [formed_iff.2 h, if_pos rfl]
  split
  · exact .inr rfl
  · exact .inl rfl
theorem check_len {u : Ur} (h : Fm u) (hl : u.text.length ≤ 1024) : u.check = 0 := by
  unfold Ur.check
  rw [formed_iff.2 h, if_pos rfl, if_neg (by omega)]
/-- of a URI that may be: its normal form may be, is its own, and not longer -/
theorem normal_ok {u : Ur} (h : u.check = 0) : NormU u.normal ∧ u.normal.check = 0 ∧ u.normal.normal = u.normal ∧ u.normal.put.length ≤ u.put.length := by
  obtain ⟨hf, hl⟩ := uchk_zero h
  obtain ⟨h1, h2⟩ := norm_parts (formed_iff.1 hf)
  have hn : u.normal = u.norm := by unfold Ur.normal; rw [if_pos h]
  rw [hn]
  have hc : u.norm.check = 0 := check_len (formed_of h1) (by omega)
  refine ⟨h1, hc, ?_, ?_⟩
  · unfold Ur.normal; rw [if_pos hc]; exact norm_same h1
  · unfold Ur.put; rw [if_pos hc, if_pos h]; exact h2
/-- a text that differs from another one in forms alone -/
def TW (l tp : List UInt8) : Prop := ∃ T, Gd tp T ∧ T.map nt = toks l
theorem TW.undo {l tp : List UInt8} (h : TW l tp) : undo tp = undo l := by
  obtain ⟨T, h1, h2⟩ := h
  show (toks tp).flatMap rend = (toks l).flatMap rend
  rw [h1.toks, ← h2, List.flatMap_map]
  congr 1
  funext t
  exact (rend_nt t).symm
theorem TW.made {l tp m : List UInt8} (h : TW l tp) (hm : made m l = true) : made m tp = true := by
  obtain ⟨T, h1, h2⟩ := h
  unfold Go.Proofs.YtekaiafhnnpkgaaGreatDoor.made at hm ⊢
  rw [h1.toks, List.all_eq_true]
  rw [← h2, List.all_map, List.all_eq_true] at hm
  intro t ht
  have h3 := hm t ht
  obtain ⟨c, b⟩ := t
  simp only [Function.comp, nt, madeP] at h3 ⊢
  revert h3
  cases b <;> simp
theorem TW.nil {tp : List UInt8} (h : TW [] tp) : tp = [] := by
  obtain ⟨T, ⟨L, rfl, rfl, _⟩, h2⟩ := h
  have : L = [] := by simpa [toks] using h2
  rw [this]; rfl
theorem TW.slash {r tp : List UInt8} (h : TW (47 :: r) tp) : ∃ r', tp = 47 :: r' := by
  obtain ⟨T, ⟨L, rfl, rfl, h3⟩, h2⟩ := h
  have h4 := toks_slash 0 [] r (Nat.le_refl _)
  simp only [List.nil_append] at h4
  rw [h4] at h2
  match L, h2, h3 with
  | [], h2, _ => simp [toks] at h2
  | x :: L, h2, h3 =>
    have h5 : nt x.2 = (47, false) := by simpa [toks] using (List.cons.inj (show nt x.2 :: (L.map (·.2)).map nt = (47, false) :: toks r from by simpa [toks] using h2)).1
    obtain ⟨p, c, b⟩ := x
    unfold nt at h5
    simp only [Prod.mk.injEq] at h5
    obtain ⟨rfl, h6⟩ := h5
    have hb : b = false := by
      have : plB 47 = false := by decide
      rw [this] at h6
      simpa using h6
    subst hb
    rcases h3 (p, (47, false)) (by simp) with ⟨d, _, h7, h8⟩ | ⟨d, e, _, _, _, h8⟩
    · simp only [Prod.mk.injEq] at h8
      simp only at h7
      exact ⟨L.flatMap (·.1), by rw [List.flatMap_cons, h7, ← h8.1]; rfl⟩
    · exact absurd (Prod.mk.inj h8).2 (by decide)
/-- with capitals in the host, other digits in escapes, and plain bytes as escapes, a URI has the same normal form -/
theorem twist_fm {n : Ur} (h : NormU n) {tp tq : List UInt8} (hp : TW n.pa tp) (hq : TW n.qu tq) : Fm ⟨n.sc, Lib.toUpperA n.ho, n.po, tp, tq, n.hq⟩ := by
  obtain ⟨r, hr⟩ := h.pa.hd
  refine ⟨h.sc, (host_lower h.ho).2, h.p0, h.p1, ?_, hp.made h.pa.made, hq.made h.mq, fun hh => ?_⟩
  · rw [hr] at hp; exact hp.slash
  · have := h.qh hh
    rw [this] at hq
    exact hq.nil
theorem twist_same {n : Ur} (h : NormU n) {tp tq : List UInt8} (hp : TW n.pa tp) (hq : TW n.qu tq) (hc : Ur.check ⟨n.sc, Lib.toUpperA n.ho, n.po, tp, tq, n.hq⟩ ≠ 3) : Ur.normal ⟨n.sc, Lib.toUpperA n.ho, n.po, tp, tq, n.hq⟩ = n := by
  have h0 : Ur.check ⟨n.sc, Lib.toUpperA n.ho, n.po, tp, tq, n.hq⟩ = 0 := by
    rcases check_fm (twist_fm h hp hq) with h1 | h1
    · exact h1
    · exact absurd h1 hc
  have hno : Ur.norm ⟨n.sc, Lib.toUpperA n.ho, n.po, tp, tq, n.hq⟩ = ⟨n.sc, lower (Lib.toUpperA n.ho), if n.po = usual n.sc then 0 else n.po, dotsL (undo tp), undo tq, n.hq⟩ := rfl
  obtain ⟨x, hx⟩ := h.low
  unfold Ur.normal
  rw [if_pos h0, hno, h.po, hp.undo, hq.undo, h.pa.undo, h.pa.dots, h.uq, hx, lower_upper, ← hx]

/-! ### step by step -/
/-- a text whose pieces are as in the normal form -/
def Wn (l : List UInt8) : Prop := Gd l (toks l) ∧ ∀ t ∈ toks l, nt t = t
theorem wn_of {m l : List UInt8} (hm : inI 37 m = false) (h : made m l = true) (hu : undo l = l) : Wn l := by
  have hg := gd_made hm h
  refine ⟨hg, fun t ht => ?_⟩
  have h2 := toks_undo hg
  rw [hu] at h2
  rw [h2] at ht
  obtain ⟨x, _, rfl⟩ := List.mem_map.1 ht
  exact nt_nt x
def Bd (l : List UInt8) (k : Nat) (out : List UInt8) : Prop := ∃ T, Gd out T ∧ T.map nt ++ toks (l.drop k) = toks l
/-- what has been made of the first k bytes: whole pieces, or a piece that is kept and not yet whole -/
def St (l : List UInt8) (k : Nat) (out : List UInt8) : Prop :=
  Bd l k out ∨ (∃ j o, k = j + 1 ∧ esc3 (l.drop j) = true ∧ out = o ++ [37] ∧ Bd l j o) ∨ (∃ j o, k = j + 2 ∧ esc3 (l.drop j) = true ∧ (∃ a, l[j + 1]? = some a ∧ out = o ++ [37, a]) ∧ Bd l j o)
theorem St.start (l : List UInt8) : St l 0 [] := .inl ⟨[], Gd.nil, rfl⟩
theorem esc3_parts {l : List UInt8} {j : Nat} (h : esc3 (l.drop j) = true) : ∃ a b, l[j]? = some 37 ∧ l[j + 1]? = some a ∧ l[j + 2]? = some b ∧ hxB a = true ∧ hxB b = true ∧ toks (l.drop j) = (hx2 a b, true) :: toks (l.drop (j + 3)) := by
  match hd : l.drop j, h with
  | c :: a :: b :: r, h =>
    have h2 : (c == 37 && (hxB a && hxB b)) = true := h
    have e : toks (c :: a :: b :: r) = (hx2 a b, true) :: toks r := by rw [toks, if_pos h2]
    simp only [Bool.and_eq_true, beq_iff_eq] at h2
    obtain ⟨rfl, ha, hb⟩ := h2
    have g0 : (l.drop j)[0]? = some 37 := by rw [hd]; rfl
    have g1 : (l.drop j)[1]? = some a := by rw [hd]; rfl
    have g2 : (l.drop j)[2]? = some b := by rw [hd]; rfl
    rw [List.getElem?_drop] at g0 g1 g2
    refine ⟨a, b, g0, g1, g2, ha, hb, ?_⟩
    rw [e]
    have : r = l.drop (j + 3) := by rw [← List.drop_drop, hd]; rfl
    rw [this]
theorem esc3_not {l : List UInt8} (hw : Wn l) {k : Nat} {c : UInt8} {out : List UInt8} (hb : Bd l k out) (hc : l[k]? = some c) (h : esc3 (l.drop k) = false) : c ≠ 37 ∧ toks (l.drop k) = (c, false) :: toks (l.drop (k + 1)) := by
  have hk : k < l.length := (List.getElem?_eq_some_iff.1 hc).1
  have hd : l.drop k = c :: l.drop (k + 1) := by rw [List.drop_eq_getElem_cons hk]; congr 1; exact (List.getElem?_eq_some_iff.1 hc).2
  have hs := toks_step (l := l.drop k) (by rw [hd]; simp)
  have e : toks (l.drop k) = (c, false) :: toks (l.drop (k + 1)) := by
    rw [hs, h]
    have hf : fsN (l.drop k) = 1 := by unfold fsN; rw [h]; rfl
    have hv : fsB (l.drop k) = c := by
      rw [hd] at h ⊢
      match hr : l.drop (k + 1), h with
      | [], _ => rfl
      | [x], _ => rfl
      | x :: y :: r, h =>
        have h2 : (c == 37 && (hxB x && hxB y)) = false := h
        simp [fsB, h2]
    rw [hf, hv, List.drop_drop]
  refine ⟨?_, e⟩
  rintro rfl
  obtain ⟨T, _, h2⟩ := hb
  obtain ⟨⟨L, h3, h4, h5⟩, _⟩ := hw
  have hm : ((37 : UInt8), false) ∈ toks l := by rw [← h2, e]; simp
  rw [h4] at hm
  obtain ⟨x, hx, h6⟩ := List.mem_map.1 hm
  rcases h5 x hx with ⟨d, h7, _, h8⟩ | ⟨a, b, _, _, _, h8⟩
  · rw [h6] at h8; exact h7 (Prod.mk.inj h8).1.symm
  · rw [h6] at h8; exact absurd (Prod.mk.inj h8).2 (by decide)
theorem Bd.push {l out p : List UInt8} {k k' : Nat} {t s : UInt8 × Bool} (h : Bd l k out) (hp : Pc p s) (hs : nt s = t) (he : toks (l.drop k) = t :: toks (l.drop k')) : Bd l k' (out ++ p) := by
  obtain ⟨T, h1, h2⟩ := h
  refine ⟨T ++ [s], h1.snoc hp, ?_⟩
  rw [← h2, he, List.map_append, List.map_cons, hs]
  simp
theorem mem_toks {l out : List UInt8} {k : Nat} {t : UInt8 × Bool} {r : List (UInt8 × Bool)} (h : Bd l k out) (he : toks (l.drop k) = t :: r) : t ∈ toks l := by
  obtain ⟨T, _, h2⟩ := h
  rw [← h2, he]; simp
theorem St.next {l out : List UInt8} {k : Nat} {c : UInt8} (hw : Wn l) (h : St l k out) (hc : l[k]? = some c) : St l (k + 1) (out ++ [c]) := by
  rcases h with h | ⟨j, o, rfl, he, rfl, hb⟩ | ⟨j, o, rfl, he, ⟨a, ha, rfl⟩, hb⟩
  · cases he : esc3 (l.drop k)
    · obtain ⟨h1, h2⟩ := esc3_not hw h hc he
      exact .inl (h.push (.inl ⟨c, h1, rfl, rfl⟩) (hw.2 _ (mem_toks h h2)) h2)
    · obtain ⟨a, b, g0, _, _, _, _, _⟩ := esc3_parts he
      have : c = 37 := by rw [hc] at g0; exact Option.some.inj g0
      subst this
      exact .inr (.inl ⟨k, out, rfl, he, rfl, h⟩)
  · exact .inr (.inr ⟨j, o, rfl, he, ⟨c, hc, by simp⟩, hb⟩)
  · obtain ⟨a', b, g0, g1, g2, hxa, hxb, ht⟩ := esc3_parts he
    rw [ha] at g1
    rw [hc] at g2
    obtain rfl := Option.some.inj g1
    obtain rfl := Option.some.inj g2
    have := hb.push (p := [37, a, c]) (.inr ⟨a, c, hxa, hxb, rfl, rfl⟩) (hw.2 _ (mem_toks hb ht)) ht
    exact .inl (by simpa using this)
theorem hexlow : ∀ n : Nat, n < 256 → hxB (UInt8.ofNat n) = true → hxB (Lib.lowerB (UInt8.ofNat n)) = true ∧ hxD (Lib.lowerB (UInt8.ofNat n)) = hxD (UInt8.ofNat n) ∧ n < 128 ∧ n ≠ 37 := by decide +kernel
theorem hexlowB {c : UInt8} (h : hxB c = true) : hxB (Lib.lowerB c) = true ∧ hxD (Lib.lowerB c) = hxD c ∧ c.toNat < 128 ∧ c ≠ 37 := by
  have := hexlow c.toNat c.toNat_lt
  rw [byteU] at this
  obtain ⟨h1, h2, h3, h4⟩ := this h
  exact ⟨h1, h2, h3, fun e => h4 (by rw [e]; rfl)⟩
theorem St.low {l out : List UInt8} {k : Nat} (hw : Wn l) (h : St l k out) (hc : l[k]? = some 37) : ∃ a b, l[k + 1]? = some a ∧ l[k + 2]? = some b ∧ a.toNat < 128 ∧ b.toNat < 128 ∧ St l (k + 3) (out ++ [37, Lib.lowerB a, Lib.lowerB b]) := by
  rcases h with h | ⟨j, o, rfl, he, rfl, hb⟩ | ⟨j, o, rfl, he, ⟨a, ha, rfl⟩, hb⟩
  · cases he : esc3 (l.drop k)
    · exact absurd rfl (esc3_not hw h hc he).1
    · obtain ⟨a, b, g0, g1, g2, hxa, hxb, ht⟩ := esc3_parts he
      have la := hexlowB hxa
      have lb := hexlowB hxb
      refine ⟨a, b, g1, g2, la.2.2.1, lb.2.2.1, .inl (h.push (.inr ⟨_, _, la.1, lb.1, rfl, rfl⟩) ?_ ht)⟩
      have e : hx2 (Lib.lowerB a) (Lib.lowerB b) = hx2 a b := by unfold hx2; rw [la.2.1, lb.2.1]
      rw [e]
      exact hw.2 _ (mem_toks h ht)
  · obtain ⟨a, b, _, g1, _, hxa, _, _⟩ := esc3_parts he
    rw [hc] at g1
    rw [← Option.some.inj g1] at hxa
    exact absurd hxa (by decide)
  · obtain ⟨a', b, _, _, g2, _, hxb, _⟩ := esc3_parts he
    rw [hc] at g2
    rw [← Option.some.inj g2] at hxb
    exact absurd hxb (by decide)
theorem St.enc {l out : List UInt8} {k : Nat} {c d1 d2 : UInt8} (hw : Wn l) (h : St l k out) (hc : l[k]? = some c) (hp : plB c = true) (h1 : ∀ j, k = j + 1 → l[j]? ≠ some 37) (h2 : ∀ j, k = j + 2 → l[j]? ≠ some 37)
    (hd1 : hxB d1 = true) (hd2 : hxB d2 = true) (hd : hx2 d1 d2 = c) : St l (k + 1) (out ++ [37, d1, d2]) := by
  rcases h with h | ⟨j, o, rfl, he, rfl, hb⟩ | ⟨j, o, rfl, he, _, hb⟩
  · cases he : esc3 (l.drop k)
    · obtain ⟨h3, h4⟩ := esc3_not hw h hc he
      refine .inl (h.push (.inr ⟨d1, d2, hd1, hd2, rfl, rfl⟩) ?_ h4)
      rw [hd]
      unfold nt
      rw [hp]; rfl
    · obtain ⟨a, b, g0, _, _, _, _, _⟩ := esc3_parts he
      rw [hc] at g0
      rw [Option.some.inj g0] at hp
      exact absurd hp (by decide)
  · obtain ⟨a, b, g0, _⟩ := esc3_parts he
    exact absurd g0 (h1 j rfl)
  · obtain ⟨a, b, g0, _⟩ := esc3_parts he
    exact absurd g0 (h2 j rfl)
theorem St.fin {l out : List UInt8} {k : Nat} (h : St l k out) (hk : k = l.length) : TW l out := by
  subst hk
  rcases h with ⟨T, h1, h2⟩ | ⟨j, o, hj, he, _, _⟩ | ⟨j, o, hj, he, _, _⟩
  · refine ⟨T, h1, ?_⟩
    rw [List.drop_length] at h2
    simpa [toks] using h2
  · obtain ⟨a, b, _, g1, g2, _⟩ := esc3_parts he
    have := (List.getElem?_eq_some_iff.1 g2).1
    omega
  · obtain ⟨a, b, _, g1, g2, _⟩ := esc3_parts he
    have := (List.getElem?_eq_some_iff.1 g2).1
    omega
def twD : List UInt8 := [48, 49, 50, 51, 52, 53, 54, 55, 56, 57, 97, 98, 99, 100, 101, 102, 48, 49, 50, 51, 52, 53, 54, 55, 56, 57, 65, 66, 67, 68, 69, 70]
theorem twD_hex : ∀ n : Nat, n < 256 → ∀ e : Nat, e < 2 → ∀ f : Nat, f < 2 → hxB (twD.getD (n / 16 + 16 * e) 0) = true ∧ hxB (twD.getD (n % 16 + 16 * f) 0) = true ∧ hx2 (twD.getD (n / 16 + 16 * e) 0) (twD.getD (n % 16 + 16 * f) 0) = UInt8.ofNat n := by decide +kernel
end Go.Proofs.YtekaiafhnnpkgaaGreatDoor
