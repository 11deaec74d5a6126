/- References, plainly: what they mean by a base, as the program reckons it. Nothing of the program is read here. -/
import Derived.Test.YtekaiafhnnpkgaaGreatDoorUri7
import Derived.Lib.LastIndexLaws
namespace Go.Proofs.YtekaiafhnnpkgaaGreatDoor
def abcI (n : Int) : Bool := decide ((97 ≤ n ∧ n ≤ 122) ∨ (65 ≤ n ∧ n ≤ 90))
def schM : List UInt8 := [48, 49, 50, 51, 52, 53, 54, 55, 56, 57, 43, 45, 46]
def schI (n : Int) : Bool := abcI n || inI n schM
def schB (c : UInt8) : Bool := schI (c.toNat : Int)
/-- is a text a scheme -/
def isSch : List UInt8 → Bool
  | [] => false
  | c :: r => abcI (c.toNat : Int) && r.all schB
/-- a reference's scheme, in small letters, and what stands behind its colon; all of it, if it has none -/
def apartR (r : List UInt8) : List UInt8 × List UInt8 :=
  if (Lib.cut r [58]).2.2 && isSch (Lib.cut r [58]).1 then (lower (Lib.cut r [58]).1, (Lib.cut r [58]).2.1) else ([], r)
def dirOf (p : List UInt8) : List UInt8 := p.take (Lib.lastIndex p [47] + 1).toNat
/-- rule 3: what a reference with no scheme and no host leads to -/
def relU (b : Ur) (p q : List UInt8) (h : Bool) : Ur :=
  if p = [] then (if h then ⟨b.sc, b.ho, b.po, b.pa, q, true⟩ else b)
  else if Lib.hasPrefix p [47] then ⟨b.sc, b.ho, b.po, p, q, h⟩ else ⟨b.sc, b.ho, b.po, dirOf b.pa ++ p, q, h⟩
/-- where a reference leads to, and an error -/
def targetU (b : Ur) (r : List UInt8) : Ur × Int :=
  if Lib.hasPrefix r [47, 47] then parseU (b.sc ++ 58 :: (apartR r).2)
  else if (apartR r).1 ≠ [] then parseU ((apartR r).1 ++ 58 :: (apartR r).2)
  else (relU b (Lib.cut r [63]).1 (Lib.cut r [63]).2.1 (Lib.cut r [63]).2.2, (relU b (Lib.cut r [63]).1 (Lib.cut r [63]).2.1 (Lib.cut r [63]).2.2).check)
/-- what a reference means -/
def refU (b : Ur) (r : List UInt8) : Ur × Int :=
  if 1024 < r.length then (ur0, 3)
  else if b.check ≠ 0 then (ur0, 2)
  else if (targetU b (Lib.cut r [35]).1).2 ≠ 0 then (ur0, (targetU b (Lib.cut r [35]).1).2)
  else ((targetU b (Lib.cut r [35]).1).1.normal, 0)

theorem ur0_norm0 : ur0.check ≠ 0 := by decide
/-- nothing means the base -/
theorem ref_nil {b : Ur} (h : b.check = 0) : refU b [] = (b.normal, 0) := by
  have h1 : Lib.cut ([] : List UInt8) [35] = ([], [], false) := by rfl
  have h2 : targetU b [] = (b, b.check) := rfl
  unfold refU
  rw [if_neg (by simp), if_neg (by simp [h]), h1]
  simp only [h2, h, ne_eq, not_true_eq_false, if_false]
theorem ref_bad {b : Ur} (h : b.check ≠ 0) {r : List UInt8} (hr : r.length ≤ 1024) : refU b r = (ur0, 2) := by
  unfold refU
  rw [if_neg (by omega), if_pos h]
theorem check_cases (u : Ur) : u.check = 0 ∨ u.check = 3 ∨ u.check = 4 := by
  unfold Ur.check
  split
  · split
    · exact .inr (.inl rfl)
    · exact .inl rfl
  · exact .inr (.inr rfl)
theorem parse_okR {s : List UInt8} (h : (parseU s).2 = 0) : (parseU s).1.check = 0 := (uparse_back h).1
theorem target_check {b : Ur} {r : List UInt8} (h : (targetU b r).2 = 0) : (targetU b r).1.check = 0 := by
  unfold targetU at h ⊢
  split
  · rename_i h1
    rw [if_pos h1] at h
    exact parse_okR h
  · rename_i h1
    rw [if_neg h1] at h
    split
    · rename_i h2
      rw [if_pos h2] at h
      exact parse_okR h
    · rename_i h2
      rw [if_neg h2] at h
      exact h
/-- what is meant may be, and is normal; what is none is nothing -/
theorem ref_ok {b : Ur} {r : List UInt8} (h : (refU b r).2 = 0) : (refU b r).1.check = 0 ∧ (refU b r).1.normal = (refU b r).1 := by
  unfold refU at h ⊢
  split
  · rename_i h1; rw [if_pos h1] at h; exact absurd h (by decide)
  · rename_i h1
    rw [if_neg h1] at h
    split
    · rename_i h2; rw [if_pos h2] at h; exact absurd h (by decide)
    · rename_i h2
      rw [if_neg h2] at h
      split
      · rename_i h3; rw [if_pos h3] at h; exact absurd h h3
      · rename_i h3
        have h4 := normal_ok (target_check (Classical.not_not.1 h3))
        exact ⟨h4.2.1, h4.2.2.1⟩
theorem ref_no {b : Ur} {r : List UInt8} (h : (refU b r).2 ≠ 0) : (refU b r).1 = ur0 := by
  unfold refU at h ⊢
  split
  · rfl
  · rename_i h1
    rw [if_neg h1] at h
    split
    · rfl
    · rename_i h2
      rw [if_neg h2] at h
      split
      · rfl
      · rename_i h3; rw [if_neg h3] at h; exact absurd rfl h
theorem made_no35 {m l : List UInt8} (h : made m l = true) (hm : inI 35 m = false) : ∀ c ∈ l, c ≠ 35 := fun c hc e => by
  subst e
  rcases made_bytes m _ l (Nat.le_refl _) h _ hc with h | h | h | h
  · exact absurd h (by decide)
  · exact absurd h (by decide)
  · exact absurd h (by decide)
  · rw [show ((35 : UInt8).toNat : Int) = 35 from rfl, hm] at h; exact absurd h (by decide)
theorem host_no35 {l : List UInt8} (h : hostOk l = true) : ∀ c ∈ l, c ≠ 35 := fun c hc e => by
  subst e
  exact absurd (((host_iffU l).1 h).2.2 _ hc) (by decide)
theorem port_no35 {p : Int} (h0 : 0 ≤ p) : ∀ c ∈ portL p, c ≠ 35 := by
  unfold portL
  by_cases hp : p = 0
  · rw [if_pos hp]; intro c hc; cases hc
  · rw [if_neg hp]
    obtain ⟨n, rfl⟩ : ∃ n : Nat, p = n := ⟨p.toNat, by omega⟩
    rw [itoaU]
    intro c hc
    rcases List.mem_cons.1 hc with rfl | hc
    · decide
    · have h2 := List.all_eq_true.1 (decU_all n).1 c hc
      rintro rfl
      exact absurd h2 (by decide)
theorem text_no35 {u : Ur} (h : Fm u) : ∀ c ∈ u.text, c ≠ 35 := by
  intro c hc
  rw [text_split] at hc
  simp only [List.mem_append, List.mem_cons, List.cons_append, List.nil_append] at hc
  rcases hc with hc | rfl | rfl | rfl | hc | hc | hc | hc
  · rcases h.sc with e | e <;> rw [e] at hc <;> (rintro rfl; exact absurd hc (by decide))
  · decide
  · decide
  · decide
  · exact host_no35 h.ho c hc
  · exact port_no35 h.p0 c hc
  · exact made_no35 h.mp (by decide) c hc
  · cases hq : u.hq
    · rw [hq] at hc; cases hc
    · rw [hq] at hc
      rcases List.mem_cons.1 hc with rfl | hc
      · decide
      · exact made_no35 h.mq (by decide) c hc
theorem apart_own {x : List UInt8} (hx : x = schH ∨ x = schS) (r : List UInt8) : apartR (x ++ 58 :: r) = (x, r) := by
  have h1 : Lib.cut (x ++ 58 :: r) [58] = (x, r, true) := cutF x [] r 58 (by rcases hx with rfl | rfl <;> decide)
  unfold apartR
  rw [h1]
  rcases hx with rfl | rfl <;> rfl
/-- a URI's own text means its normal form -/
theorem ref_put {a b : Ur} (ha : a.check = 0) (hb : b.check = 0) : refU a b.put = (b.normal, 0) := by
  obtain ⟨hp, he⟩ := uparse_put hb
  obtain ⟨hf, hl⟩ := uchk_zero hb
  have hF := formed_iff.1 hf
  have h1 : Lib.cut b.put [35] = (b.put, [], false) := cutN1 _ _ (by rw [he]; exact text_no35 hF)
  have h2 : targetU a b.put = (b, 0) := by
    have hs : ∃ r, b.put = b.sc ++ 58 :: r := ⟨_, by rw [he, text_split]; rfl⟩
    obtain ⟨r, hs⟩ := hs
    have h3 := apart_own hF.sc r
    rw [← hs] at h3
    have h4 : Lib.hasPrefix b.put [47, 47] = false := by rw [hs]; rcases hF.sc with e | e <;> rw [e] <;> rfl
    have h5 : b.sc ≠ [] := by rcases hF.sc with e | e <;> rw [e] <;> decide
    unfold targetU
    rw [h4, h3, ← hs, hp]
    simp [h5]
  unfold refU
  rw [if_neg (by rw [he]; omega), if_neg (by simp [ha]), h1]
  simp only [h2, ne_eq, not_true_eq_false, if_false]
end Go.Proofs.YtekaiafhnnpkgaaGreatDoor
