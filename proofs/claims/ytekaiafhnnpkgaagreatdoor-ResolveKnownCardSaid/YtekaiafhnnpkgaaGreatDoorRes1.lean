/- References, plainly: what the document answers is what the program reckons. Nothing of the program is read here. -/
import Derived.Test.YtekaiafhnnpkgaaGreatDoorRes0
namespace Go.Proofs.YtekaiafhnnpkgaaGreatDoor
/-- how long a reference's scheme is -/
def schN (r : List UInt8) : Nat := if (Lib.cut r [58]).2.2 && isSch (Lib.cut r [58]).1 then (Lib.cut r [58]).1.length else 0
def endU (p : Ur × Int) : Ur × Int := if p.2 ≠ 0 then (ur0, p.2) else (p.1.normal, 0)
/-- where the document leads a reference -/
def docAim (b : Ur) (r : List UInt8) : Ur × Int :=
  if 0 < schN r then
    (if (lower (r.take (schN r)) = schH ∨ lower (r.take (schN r)) = schS) ∧ Lib.hasPrefix (r.drop (schN r + 1)) [47, 47] = true then endU (parseU (lower (r.take (schN r)) ++ r.drop (schN r))) else (ur0, 4))
  else if Lib.hasPrefix r [47, 47] then endU (parseU (b.sc ++ 58 :: r))
  else endU (relU b (Lib.cut r [63]).1 (Lib.cut r [63]).2.1 (Lib.cut r [63]).2.2, (relU b (Lib.cut r [63]).1 (Lib.cut r [63]).2.1 (Lib.cut r [63]).2.2).check)
theorem refU_eq {b : Ur} {r : List UInt8} (h1 : ¬ 1024 < r.length) (h2 : b.check = 0) : refU b r = endU (targetU b (Lib.cut r [35]).1) := by
  unfold refU endU
  rw [if_neg h1, if_neg (by simp [h2])]
theorem sch_all {a : List UInt8} (h : isSch a = true) : a ≠ [] ∧ (∀ c ∈ a, schB c = true) ∧ ∀ c, a.head? = some c → abcI (c.toNat : Int) = true := by
  match a, h with
  | c :: r, h =>
    simp only [isSch, Bool.and_eq_true] at h
    refine ⟨by simp, fun d hd => ?_, fun d hd => by simp at hd; rw [← hd]; exact h.1⟩
    rcases List.mem_cons.1 hd with rfl | hd
    · show (abcI _ || _) = true; rw [h.1]; rfl
    · exact List.all_eq_true.1 h.2 d hd
theorem sch_low : ∀ n : Nat, n < 256 → schB (UInt8.ofNat n) = true → lowB (UInt8.ofNat n) ≠ 58 := by decide +kernel
theorem low_no58 {a : List UInt8} (h : isSch a = true) : ∀ c ∈ lower a, c ≠ 58 := by
  intro c hc
  obtain ⟨d, hd, rfl⟩ := List.mem_map.1 hc
  have h2 := sch_low d.toNat (by have := UInt8.toNat_lt d; omega)
  rw [byteU] at h2
  exact h2 ((sch_all h).2.1 d hd)
theorem parse_no {s : List UInt8} (hl : s.length ≤ 1024) (h : ∀ x r, (x = schH ∨ x = schS) → s ≠ x ++ 58 :: 47 :: 47 :: r) : parseU s = (ur0, 4) := by
  unfold parseU
  rw [if_neg (by omega)]
  split
  · rename_i ht
    have hf : (apartL s).root.formed = false := by
      cases hf : (apartL s).root.formed
      · rfl
      · have h3 := formed_iff.1 hf
        exact absurd (ht.symm.trans (text_split (apartL s))) (h _ ((apartL s).ho ++ (portL (apartL s).po ++ ((apartL s).pa ++ if (apartL s).hq then 63 :: (apartL s).qu else []))) h3.sc)
    have hc : (apartL s).root.check = 4 := by unfold Ur.check; rw [hf]; rfl
    rw [hc, if_neg (by decide)]
  · rfl
theorem schR_no {a rest : List UInt8} (ha : isSch a = true) (hl : (lower a ++ 58 :: rest).length ≤ 1024) (h : ¬ ((lower a = schH ∨ lower a = schS) ∧ Lib.hasPrefix rest [47, 47] = true)) : parseU (lower a ++ 58 :: rest) = (ur0, 4) := by
  refine parse_no hl fun x r hx he => h ?_
  have h1 : Lib.cut (lower a ++ 58 :: rest) [58] = (lower a, rest, true) := cutF _ [] rest 58 (low_no58 ha)
  have h2 : Lib.cut (x ++ 58 :: 47 :: 47 :: r) [58] = (x, 47 :: 47 :: r, true) := cutF x [] _ 58 (by rcases hx with rfl | rfl <;> decide)
  rw [he, h2] at h1
  obtain ⟨h3, h4⟩ := Prod.mk.inj h1
  obtain ⟨h5, -⟩ := Prod.mk.inj h4
  rw [← h3, ← h5]
  exact ⟨hx, rfl⟩
theorem doc_aim (b : Ur) {r : List UInt8} (hl : r.length ≤ 1024) : docAim b r = endU (targetU b r) := by
  obtain ⟨hp, hq⟩ := cut_parts r [58]
  by_cases hs : ((Lib.cut r [58]).2.2 && isSch (Lib.cut r [58]).1) = true
  · obtain ⟨hf, hi⟩ := Bool.and_eq_true_iff.1 hs
    have hA : apartR r = (lower (Lib.cut r [58]).1, (Lib.cut r [58]).2.1) := by unfold apartR; rw [if_pos hs]
    have hN : schN r = (Lib.cut r [58]).1.length := by unfold schN; rw [if_pos hs]
    rw [hf, if_pos rfl] at hp
    generalize (Lib.cut r [58]).1 = a at *
    generalize (Lib.cut r [58]).2.1 = t at *
    obtain ⟨hne, hall, hhd⟩ := sch_all hi
    have hpos : 0 < a.length := List.length_pos_iff.2 hne
    have hr : r = a ++ 58 :: t := hp
    have h1 : r.take a.length = a := by rw [hr, List.take_left]
    have h2 : r.drop a.length = 58 :: t := by rw [hr, List.drop_left]
    have h3 : r.drop (a.length + 1) = t := by rw [← List.drop_drop, h2]; rfl
    have h4 : Lib.hasPrefix r [47, 47] = false := by
      rw [hr]
      match a, hne, hhd with
      | c :: a', _, hhd =>
        have h5 := hhd c rfl
        have h6 : (47 == c) = false := by
          rw [beq_eq_false_iff_ne]; rintro rfl; exact absurd h5 (by decide)
        show (47 == c && _) = false
        rw [h6]; rfl
    have h7 : lower a ≠ [] := by intro h; apply hne; have := congrArg List.length h; rw [lower_len] at this; exact List.eq_nil_of_length_eq_zero this
    have hT : targetU b r = parseU (lower a ++ 58 :: t) := by
      unfold targetU
      rw [h4, hA]
      simp [h7]
    unfold docAim
    rw [hN, if_pos hpos, h1, h2, h3, hT]
    split
    · rfl
    · rename_i h
      rw [schR_no hi (by rw [hr] at hl; simp only [List.length_append, lower_len] at hl ⊢; exact hl) h]
      rfl
  · have hA : apartR r = ([], r) := by unfold apartR; rw [if_neg hs]
    have hN : schN r = 0 := by unfold schN; rw [if_neg hs]
    unfold docAim targetU
    rw [hN, hA, if_neg (by decide)]
    simp only [ne_eq, not_true_eq_false, if_false]
    split <;> rfl
end Go.Proofs.YtekaiafhnnpkgaaGreatDoor
