/- What a text is as a URI, as the document goes about it, plainly: the same answer. Nothing of the program is read here. -/
import Derived.Test.YtekaiafhnnpkgaaGreatDoorUri0
import Derived.Test.YtekaiafhnnpkgaaGreatDoorFraming0
namespace Go.Proofs.YtekaiafhnnpkgaaGreatDoor
/-- a port's digits; 0: they are none -/
def numU (l : List UInt8) : Int := if l = [] ∨ 5 < l.length ∨ l.head? = some 48 then 0 else if l.all digB then decV l else 0
def docParts (s : List UInt8) : Ur :=
  let a := Lib.cut s [58, 47, 47]
  let b := Lib.cut a.2.1 [63]
  let c := Lib.cut b.1 [47]
  let d := Lib.cut c.1 [58]
  ⟨a.1, d.1, if d.2.2 then numU d.2.1 else 0, if c.2.2 then 47 :: c.2.1 else [47], b.2.1, b.2.2⟩
def portBad (s : List UInt8) : Bool :=
  let d := Lib.cut (Lib.cut (Lib.cut (Lib.cut s [58, 47, 47]).2.1 [63]).1 [47]).1 [58]
  d.2.2 && decide (numU d.2.1 = 0)
def docU (s : List UInt8) : Ur × Int :=
  if 1024 < s.length then (ur0, 3)
  else if (Lib.cut s [58, 47, 47]).2.2 = false then (ur0, 4)
  else if portBad s then (ur0, 4)
  else if (docParts s).check = 0 then (docParts s, 0) else (ur0, (docParts s).check)

theorem decU_snoc (l : List UInt8) (c : UInt8) : decV (l ++ [c]) = 10 * decV l + (c.toNat - 48) := by unfold decV; rw [List.foldl_append]; rfl
theorem digU_of (d : Nat) (h : d < 10) : digB (UInt8.ofNat (48 + d)) = true ∧ (UInt8.ofNat (48 + d)).toNat = 48 + d := by
  have : (UInt8.ofNat (48 + d)).toNat = 48 + d := by simp; omega
  exact ⟨digB_iff.2 (by omega), this⟩
theorem decU_all (u : Nat) : (Lib.decDigits u).all digB = true ∧ decV (Lib.decDigits u) = u ∧ Lib.decDigits u ≠ [] := by
  induction u using Nat.strongRecOn with
  | _ u ih =>
    rw [Lib.decDigits]
    split
    · rename_i h
      have := digU_of u h
      exact ⟨by rw [List.all_cons, this.1]; rfl, by unfold decV; simp only [List.foldl_cons, List.foldl_nil]; rw [this.2]; omega, by simp⟩
    · rename_i h
      obtain ⟨h1, h2, h3⟩ := ih (u / 10) (by omega)
      have := digU_of (u % 10) (by omega)
      refine ⟨by rw [List.all_append, h1, List.all_cons, this.1]; rfl, by rw [decU_snoc, h2, this.2]; omega, by simp⟩
theorem decU_len : ∀ (k u : Nat), u < 10 ^ (k + 1) → (Lib.decDigits u).length ≤ k + 1
  | 0, u, h => by rw [Lib.decDigits, dif_pos (by simpa using h)]; simp
  | k + 1, u, h => by
    rw [Lib.decDigits]
    split
    · simp
    · rw [List.length_append]
      have := decU_len k (u / 10) (by rw [Nat.pow_succ] at h; omega)
      simp only [List.length_cons, List.length_nil]
      omega
theorem decU_head (u : Nat) (h : 1 ≤ u) : (Lib.decDigits u).head? ≠ some 48 := by
  induction u using Nat.strongRecOn with
  | _ u ih =>
    rw [Lib.decDigits]
    split
    · rename_i h10
      intro h2
      have h3 : UInt8.ofNat (48 + u) = 48 := by simpa using h2
      have h4 := (digU_of u h10).2
      rw [h3] at h4
      have : (48 : UInt8).toNat = 48 := rfl
      omega
    · rename_i h10
      have h2 := ih (u / 10) (by omega) (by omega)
      have h3 := (decU_all (u / 10)).2.2
      match hd : Lib.decDigits (u / 10) with
      | [] => exact absurd hd h3
      | x :: t => rw [hd] at h2; simpa using h2
theorem decU_pos : ∀ {l : List UInt8}, l ≠ [] → l.head? ≠ some 48 → l.all digB = true → 1 ≤ decV l := by
  intro l
  induction hn : l.length using Nat.strongRecOn generalizing l with
  | _ n ih =>
    intro hl hh hd
    obtain ⟨m, c, rfl⟩ : ∃ m c, l = m ++ [c] := ⟨_, _, (List.dropLast_concat_getLast hl).symm⟩
    rw [List.all_append, Bool.and_eq_true] at hd
    match m with
    | [] =>
      have hc := digB_iff.1 (show digB c = true by simpa using hd.2)
      have : c ≠ 48 := by intro e; exact hh (by rw [e]; rfl)
      have : c.toNat ≠ 48 := fun e => this (UInt8.toNat_inj.1 (by simpa using e))
      rw [decU_snoc]
      show 1 ≤ 10 * 0 + _
      omega
    | x :: t =>
      have h2 := ih (x :: t).length (by subst hn; simp) rfl (by simp) (by simpa using hh) hd.1
      rw [decU_snoc]; omega
theorem decU_back : ∀ {l : List UInt8}, l ≠ [] → l.head? ≠ some 48 → l.all digB = true → Lib.decDigits (decV l) = l := by
  intro l
  induction hn : l.length using Nat.strongRecOn generalizing l with
  | _ n ih =>
    intro hl hh hd
    obtain ⟨m, c, rfl⟩ : ∃ m c, l = m ++ [c] := ⟨_, _, (List.dropLast_concat_getLast hl).symm⟩
    rw [List.all_append, Bool.and_eq_true] at hd
    have hc := digB_iff.1 (show digB c = true by simpa using hd.2)
    have e : UInt8.ofNat (48 + (c.toNat - 48)) = c := by rw [show 48 + (c.toNat - 48) = c.toNat by omega]; simp
    match m with
    | [] =>
      rw [decU_snoc]
      show Lib.decDigits (10 * 0 + _) = _
      rw [Lib.decDigits, dif_pos (by omega), Nat.mul_zero, Nat.zero_add, e]; rfl
    | x :: t =>
      have h1 := decU_pos (l := x :: t) (by simp) (by simpa using hh) hd.1
      have h2 := ih (x :: t).length (by subst hn; simp) rfl (by simp) (by simpa using hh) hd.1
      rw [decU_snoc, Lib.decDigits, dif_neg (by omega), show (10 * decV (x :: t) + (c.toNat - 48)) / 10 = decV (x :: t) by omega, h2, show (10 * decV (x :: t) + (c.toNat - 48)) % 10 = c.toNat - 48 by omega, e]
theorem itoaU (n : Nat) : Lib.itoa (n : Int) = Lib.decDigits n := by unfold Lib.itoa; rw [if_neg (by omega)]; rfl
theorem numU_itoa {v : Int} (h0 : 0 < v) (h1 : v ≤ 65535) : numU (Lib.itoa v) = v := by
  obtain ⟨n, rfl⟩ : ∃ n : Nat, v = n := ⟨v.toNat, by omega⟩
  rw [itoaU]
  obtain ⟨a, b, c⟩ := decU_all n
  have hl := decU_len 4 n (by omega)
  have hh := decU_head n (by omega)
  unfold numU
  rw [if_neg (fun h => by rcases h with h | h | h; (exact c h); (omega); (exact hh h)), a, if_pos rfl, b]
theorem numU_some {l : List UInt8} (h : numU l ≠ 0) : atoiV l = numU l ∧ Lib.itoa (numU l) = l ∧ 0 < numU l := by
  unfold numU at h ⊢
  by_cases h1 : l = [] ∨ 5 < l.length ∨ l.head? = some 48
  · rw [if_pos h1] at h; exact absurd rfl h
  · rw [if_neg h1] at h ⊢
    cases h2 : l.all digB
    · rw [h2] at h; exact absurd rfl h
    · simp only [if_true]
      have n1 : l ≠ [] := fun e => h1 (.inl e)
      have n2 : ¬ 5 < l.length := fun e => h1 (.inr (.inl e))
      have n3 : l.head? ≠ some 48 := fun e => h1 (.inr (.inr e))
      have n4 : l.length ≠ 0 := fun e => n1 (List.eq_nil_of_length_eq_zero e)
      refine ⟨atoiV_len (by unfold lenB; rw [h2, Bool.and_true, decide_eq_true_eq]; omega), ?_, ?_⟩
      · rw [itoaU, decU_back n1 n3 h2]
      · have := decU_pos n1 n3 h2; omega
theorem cut_parts (s sep : List UInt8) : s = (Lib.cut s sep).1 ++ (if (Lib.cut s sep).2.2 then sep ++ (Lib.cut s sep).2.1 else []) ∧ ((Lib.cut s sep).2.2 = false → (Lib.cut s sep).2.1 = []) := by
  rcases Lib.index_spec s sep with ⟨hi, _⟩ | ⟨i, hi, hil, ho, _⟩
  · unfold Lib.cut
    rw [hi, if_neg (by decide)]
    simp
  · unfold Lib.cut
    rw [hi, if_pos (by omega)]
    refine ⟨?_, fun h => by cases h⟩
    simp only [Int.toNat_natCast, if_true]
    have hp : sep <+: s.drop i := by
      have : sep.isPrefixOf (s.drop i) = true := ho
      exact List.isPrefixOf_iff_prefix.1 this
    obtain ⟨r, hr⟩ := hp
    have h3 : s.drop (i + sep.length) = r := by rw [← List.drop_drop, ← hr]; simp
    rw [h3, hr, List.take_append_drop]
theorem atoiV_nil : atoiV [] = 0 := rfl
theorem root_eq (a1 d1 c2 b2 : List UInt8) (v : Int) (c3 b3 : Bool) : Ur.root ⟨a1, d1, v, if c3 then 47 :: c2 else [], b2, b3⟩ = ⟨a1, d1, v, if c3 then 47 :: c2 else [47], b2, b3⟩ := by
  cases c3 <;> rfl
theorem check_port {u : Ur} (h : u.po < 0 ∨ 65535 < u.po) : u.check = 4 := by
  have hf : u.formed = false := by
    unfold Ur.formed
    rcases h with h | h
    · have : decide (0 ≤ u.po) = false := decide_eq_false (by omega)
      simp [this]
    · have : decide (u.po ≤ 65535) = false := decide_eq_false (by omega)
      simp [this]
  unfold Ur.check
  rw [hf]; rfl
theorem ite_iff {α : Type} {a b : Prop} [Decidable a] [Decidable b] {x y : α} (h : a ↔ b) : (if a then x else y) = if b then x else y := by
  by_cases ha : a
  · rw [if_pos ha, if_pos (h.1 ha)]
  · rw [if_neg ha, if_neg fun hb => ha (h.2 hb)]
theorem doc_core (s a1 d1 d2 c2 b2 : List UInt8) (d3 c3 b3 : Bool) (hs : s = a1 ++ ([58, 47, 47] ++ (d1 ++ ((if d3 then 58 :: d2 else []) ++ ((if c3 then 47 :: c2 else []) ++ if b3 then 63 :: b2 else []))))) (hd2 : d3 = false → d2 = []) :
    (if (d3 && decide (numU d2 = 0)) = true then (ur0, (4 : Int)) else if Ur.check ⟨a1, d1, if d3 then numU d2 else 0, if c3 then 47 :: c2 else [47], b2, b3⟩ = 0 then (⟨a1, d1, if d3 then numU d2 else 0, if c3 then 47 :: c2 else [47], b2, b3⟩, 0) else (ur0, Ur.check ⟨a1, d1, if d3 then numU d2 else 0, if c3 then 47 :: c2 else [47], b2, b3⟩)) =
    (if Ur.text ⟨a1, d1, atoiV d2, if c3 then 47 :: c2 else [], b2, b3⟩ = s then (if Ur.check (Ur.root ⟨a1, d1, atoiV d2, if c3 then 47 :: c2 else [], b2, b3⟩) = 0 then (Ur.root ⟨a1, d1, atoiV d2, if c3 then 47 :: c2 else [], b2, b3⟩, 0) else (ur0, Ur.check (Ur.root ⟨a1, d1, atoiV d2, if c3 then 47 :: c2 else [], b2, b3⟩))) else (ur0, 4)) := by
  have ht : Ur.text ⟨a1, d1, atoiV d2, if c3 then 47 :: c2 else [], b2, b3⟩ = a1 ++ ([58, 47, 47] ++ (d1 ++ ((if atoiV d2 = 0 then [] else 58 :: Lib.itoa (atoiV d2)) ++ ((if c3 then 47 :: c2 else []) ++ if b3 then 63 :: b2 else [])))) := rfl
  have hiff : Ur.text ⟨a1, d1, atoiV d2, if c3 then 47 :: c2 else [], b2, b3⟩ = s ↔ (if atoiV d2 = 0 then [] else 58 :: Lib.itoa (atoiV d2)) = (if d3 then 58 :: d2 else []) := by
    rw [ht, hs, List.append_cancel_left_eq, List.append_cancel_left_eq, List.append_cancel_left_eq, List.append_cancel_right_eq]
  rw [root_eq, ite_iff hiff]
  clear ht hs hiff
  cases d3
  · rw [hd2 rfl]
    have : atoiV [] = 0 := rfl
    simp [this]
  · simp only [Bool.true_and, decide_eq_true_eq, if_true]
    by_cases hn : numU d2 = 0
    · rw [if_pos hn]
      by_cases hv : atoiV d2 = 0
      · rw [if_pos hv, if_neg (by simp)]
      · rw [if_neg hv]
        by_cases hi : (58 : UInt8) :: Lib.itoa (atoiV d2) = 58 :: d2
        · rw [if_pos hi]
          have hi2 : Lib.itoa (atoiV d2) = d2 := by simpa using hi
          have hb : atoiV d2 < 0 ∨ 65535 < atoiV d2 := by
            rcases Int.lt_or_le (atoiV d2) 0 with h | h
            · exact .inl h
            · right
              rcases Int.lt_or_le 65535 (atoiV d2) with h2 | h2
              · exact h2
              · exfalso
                have h3 := numU_itoa (v := atoiV d2) (by omega) h2
                rw [hi2] at h3
                omega
          have hc : Ur.check ⟨a1, d1, atoiV d2, if c3 then 47 :: c2 else [47], b2, b3⟩ = 4 := check_port hb
          rw [hc, if_neg (by decide)]
        · rw [if_neg hi]
    · rw [if_neg hn]
      obtain ⟨h1, h2, h3⟩ := numU_some hn
      rw [h1, if_neg (show ¬ numU d2 = 0 from hn), h2, if_pos rfl]
theorem doc_eq (s : List UInt8) : docU s = parseU s := by
  unfold docU parseU
  by_cases hl : 1024 < s.length
  · rw [if_pos hl, if_pos hl]
  rw [if_neg hl, if_neg hl]
  obtain ⟨ha, ha2⟩ := cut_parts s [58, 47, 47]
  obtain ⟨hb, hb2⟩ := cut_parts (Lib.cut s [58, 47, 47]).2.1 [63]
  obtain ⟨hc, hc2⟩ := cut_parts (Lib.cut (Lib.cut s [58, 47, 47]).2.1 [63]).1 [47]
  obtain ⟨hd, hd2⟩ := cut_parts (Lib.cut (Lib.cut (Lib.cut s [58, 47, 47]).2.1 [63]).1 [47]).1 [58]
  by_cases hf : (Lib.cut s [58, 47, 47]).2.2 = false
  · rw [if_pos hf, if_neg]
    intro h
    have h2 := congrArg List.length h
    have h3 : (apartL s).text = (Lib.cut s [58, 47, 47]).1 ++ ([58, 47, 47] ++ ((apartL s).ho ++ ((if (apartL s).po = 0 then [] else 58 :: Lib.itoa (apartL s).po) ++ ((apartL s).pa ++ if (apartL s).hq then 63 :: (apartL s).qu else [])))) := rfl
    rw [hf] at ha
    simp only [Bool.false_eq_true, if_false, List.append_nil] at ha
    rw [h3, ← ha] at h2
    simp only [List.length_append, List.length_cons] at h2
    omega
  · rw [if_neg hf]
    have hf2 : (Lib.cut s [58, 47, 47]).2.2 = true := by simpa using hf
    refine doc_core s _ _ _ _ _ _ _ _ ?_ hd2
    rw [hf2, if_pos rfl] at ha
    conv => lhs; rw [ha]
    congr 2
    conv => lhs; rw [hb]
    conv => lhs; lhs; rw [hc]
    conv => lhs; lhs; lhs; rw [hd]
    simp only [List.append_assoc]
    rfl
end Go.Proofs.YtekaiafhnnpkgaaGreatDoor
