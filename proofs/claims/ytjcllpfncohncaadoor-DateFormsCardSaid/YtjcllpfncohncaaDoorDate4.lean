/- Plain texts: which texts are dates, and which ticks. Nothing of the program is read here. -/
import Derived.Test.YtjcllpfncohncaaDoorDate3
namespace Go.Proofs.YtjcllpfncohncaaDoor
theorem get_take {c : UInt8} {l : List UInt8} {nw : Int} {r : Rd} {k : Nat} (hk : fld c ≠ k) : getF k (takeL c l nw r).1 = getF k r := by
  rcases letter_cases c with rfl | rfl | rfl | rfl | rfl | rfl | rfl | rfl | rfl | rfl | ⟨a1, a2, a3, a4, a5, a6, a7, a8, a9, a10⟩
  case inr.inr.inr.inr.inr.inr.inr.inr.inr.inr =>
    unfold takeL
    rw [if_neg a1, if_neg a2, if_neg a3, if_neg a4, if_neg a5, if_neg a6, if_neg a7, if_neg a8, if_neg a9, if_neg a10]
  all_goals
    first
      | (have hk' : k ≠ 1 := fun e => hk e.symm)
      | (have hk' : k ≠ 2 := fun e => hk e.symm)
      | (have hk' : k ≠ 3 := fun e => hk e.symm)
      | (have hk' : k ≠ 4 := fun e => hk e.symm)
      | (have hk' : k ≠ 5 := fun e => hk e.symm)
      | (have hk' : k ≠ 6 := fun e => hk e.symm)
      | (have hk' : k ≠ 7 := fun e => hk e.symm)
    simp [takeL, getF, hk']
theorem runL_keep {nw : Int} {k : Nat} : ∀ (cs : List UInt8) (l : List UInt8) (r r' : Rd) (x : List UInt8), (∀ c ∈ cs, fld c ≠ k) → runL nw cs l r = some (r', x) → getF k r' = getF k r
  | [], l, r, r', x, _, h => by
    simp only [runL, Option.some.injEq, Prod.mk.injEq] at h
    rw [h.1]
  | c :: cs, l, r, r', x, hc, h => by
    rw [runL_cons] at h
    split at h
    · cases h
    · rw [runL_keep cs _ _ _ _ (fun c' hc' => hc c' (List.mem_cons_of_mem _ hc')) h]
      exact get_take (hc c List.mem_cons_self)
/-- no part is there twice -/
def noTwice : List UInt8 → Bool
  | [] => true
  | c :: cs => (fld c == 0 || cs.all fun c' => fld c' != fld c) && noTwice cs
theorem runL_sound {nw : Int} : ∀ (cs : List UInt8) (l : List UInt8) (r r' : Rd) (x : List UInt8), noTwice cs = true → runL nw cs l r = some (r', x) → ∃ p, l = p ++ x ∧ Rends nw cs r' p
  | [], l, r, r', x, _, h => by
    simp only [runL, Option.some.injEq, Prod.mk.injEq] at h
    exact ⟨[], by rw [h.2]; rfl, rfl⟩
  | c :: cs, l, r, r', x, hn, h => by
    rw [runL_cons] at h
    rw [noTwice, Bool.and_eq_true] at hn
    split at h
    · cases h
    · rename_i h0
      obtain ⟨p, hp, hR⟩ := runL_sound cs _ _ _ _ hn.2 h
      have hs := takeL_sound c l nw r h0
      have hle := take_le c l nw r
      refine ⟨l.take (takeL c l nw r).2 ++ p, ?_, _, p, rfl, ?_, hR⟩
      · rw [List.append_assoc, ← hp, List.take_append_drop]
      · have hg : getF (fld c) r' = getF (fld c) (takeL c l nw r).1 := by
          rcases (Bool.or_eq_true _ _).mp hn.1 with e | e
          · rw [beq_iff_eq.1 e]; rfl
          · refine runL_keep cs _ _ _ _ (fun c' hc' => ?_) h
            have := List.all_eq_true.1 e c' hc'
            simpa using this
        rw [hg]; exact hs
theorem runL_complete {nw : Int} (r : Rd) : ∀ (cs : List UInt8) (p x : List UInt8) (r0 : Rd), Rends nw cs r p → runL nw cs (p ++ x) r0 = some (cs.foldl (fun a c => updR c a r) r0, x)
  | [], p, x, r0, h => by
    have e : p = [] := h
    subst e; rfl
  | c :: cs, p, x, r0, h => by
    obtain ⟨p1, q, rfl, h1, h2⟩ := h
    obtain ⟨e, hne⟩ := takeL_complete c p1 (q ++ x) nw r0 r h1
    rw [runL_cons, List.append_assoc, e, if_neg hne]
    show runL nw cs ((p1 ++ (q ++ x)).drop p1.length) (updR c r0 r) = _
    rw [List.drop_left' rfl, runL_complete r cs q x _ h2]; rfl
theorem fold_fix (r : Rd) : fixF.foldl (fun a c => updR c a r) .zero = r := rfl
theorem fold_old (r : Rd) : oldF.foldl (fun a c => updR c a r) .zero = r := rfl
theorem fold_asc (r : Rd) : ascF.foldl (fun a c => updR c a r) .zero = r := rfl

/-- a date that may be, months from 0 on -/
def VD (y : Int) (m : Nat) (d h i s : Int) : Prop := 1970 ≤ y ∧ y ≤ 9999 ∧ m < 12 ∧ 1 ≤ d ∧ d ≤ domI y m ∧ 0 ≤ h ∧ h ≤ 23 ∧ 0 ≤ i ∧ i ≤ 59 ∧ 0 ≤ s ∧ s ≤ 59
def wdN (y : Int) (m : Nat) (d : Int) : Nat := (wdI (aheadI y + cumI y m + d - 1)).toNat
def tickD (y : Int) (m : Nat) (d h i s : Int) : Int := (aheadI y + cumI y m + d - 1) * 86400 + (h * 3600 + i * 60 + s)
theorem wdN_eq (y : Int) (m : Nat) (d : Int) : wdI (aheadI y + cumI y m + d - 1) = (wdN y m d : Int) := by
  have := wd_bd (aheadI y + cumI y m + d - 1)
  unfold wdN; omega
theorem wdN_lt (y : Int) (m : Nat) (d : Int) : wdN y m d < 7 := by
  have := wd_bd (aheadI y + cumI y m + d - 1)
  unfold wdN; omega
def F1 (l : List UInt8) (t : Int) : Prop := ∃ (y : Int) (m : Nat) (d h i s : Int), VD y m d h i s ∧ l = fixT (wdN y m d) m d y h i s ∧ t = tickD y m d h i s
def F2 (nw : Int) (l : List UInt8) (t : Int) : Prop := ∃ (y : Int) (m : Nat) (d h i s : Int), VD y m d h i s ∧ nw - 99 ≤ y ∧ y ≤ nw ∧ l = oldT (wdN y m d) m d y h i s ∧ t = tickD y m d h i s
def F3 (l : List UInt8) (t : Int) : Prop := ∃ (y : Int) (m : Nat) (d h i s : Int), VD y m d h i s ∧ (l = ascT (wdN y m d) m (pad2 d) y h i s ∨ (d < 10 ∧ l = ascT (wdN y m d) m [32, digO d.toNat] y h i s)) ∧ t = tickD y m d h i s
theorem formL_iff (nw : Int) (f l : List UInt8) (t : Int) : formL nw f l = some t ↔ ∃ r, runL nw f l .zero = some (r, []) ∧ validL r = true ∧ tickL r = t := by
  unfold formL
  constructor
  · intro h
    split at h
    · rename_i r hr
      split at h
      · rename_i hv
        exact ⟨r, hr, hv, Option.some.inj h⟩
      · cases h
    · cases h
  · rintro ⟨r, hr, hv, ht⟩
    rw [hr]
    simp only [hv, if_true, ht]
theorem valid_vd {r : Rd} {m : Nat} (hv : validL r = true) (hm : r.m = m) (m12 : m < 12) (h0 : 0 ≤ r.h) (i0 : 0 ≤ r.i) (s0 : 0 ≤ r.s) : VD r.y m r.d r.h r.i r.s ∧ r.wd = (wdN r.y m r.d : Int) ∧ tickL r = tickD r.y m r.d r.h r.i r.s := by
  obtain ⟨a, b, c, d, e, f, g, k⟩ := of_decide_eq_true hv
  rw [hm] at d k
  exact ⟨⟨a, b, m12, c, d, h0, e, i0, f, s0, g⟩, by rw [← wdN_eq]; exact k, by unfold tickL tickD; rw [hm]⟩
theorem vd_valid {y : Int} {m : Nat} {d h i s : Int} (H : VD y m d h i s) : validL ⟨wdN y m d, d, m, y, h, i, s⟩ = true := by
  obtain ⟨a, b, c, d, e, f, g, k, l, n, o⟩ := H
  exact decide_eq_true ⟨a, b, d, e, g, l, o, (wdN_eq _ _ _).symm⟩
set_option maxHeartbeats 1000000 in
theorem fix_iff (nw : Int) (l : List UInt8) (t : Int) : formL nw fixF l = some t ↔ F1 l t := by
  rw [formL_iff]
  constructor
  · rintro ⟨r, hr, hv, ht⟩
    obtain ⟨p, hl, H⟩ := runL_sound fixF l .zero r [] (by decide) hr
    rw [List.append_nil] at hl
    subst hl
    obtain ⟨p0, q0, rfl, h0, H⟩ := H
    obtain ⟨kw, kw7, ew, rfl⟩ : ∃ k : Nat, k < 7 ∧ r.wd = k ∧ p0 = sDays.getD k [] := h0
    obtain ⟨p1, q1, rfl, h1, H⟩ := H
    obtain rfl : p1 = [44] := h1
    obtain ⟨p2, q2, rfl, h2, H⟩ := H
    obtain rfl : p2 = [32] := h2
    obtain ⟨p3, q3, rfl, h3, H⟩ := H
    obtain ⟨d0, d1, rfl⟩ : 0 ≤ r.d ∧ r.d < 100 ∧ p3 = pad2 r.d := h3
    obtain ⟨p4, q4, rfl, h4, H⟩ := H
    obtain rfl : p4 = [32] := h4
    obtain ⟨p5, q5, rfl, h5, H⟩ := H
    obtain ⟨km, km12, em, rfl⟩ : ∃ k : Nat, k < 12 ∧ r.m = k ∧ p5 = sMonths.getD k [] := h5
    obtain ⟨p6, q6, rfl, h6, H⟩ := H
    obtain rfl : p6 = [32] := h6
    obtain ⟨p7, q7, rfl, h7, H⟩ := H
    obtain ⟨y0, y1, rfl⟩ : 0 ≤ r.y ∧ r.y < 10000 ∧ p7 = pad4 r.y := h7
    obtain ⟨p8, q8, rfl, h8, H⟩ := H
    obtain rfl : p8 = [32] := h8
    obtain ⟨p9, q9, rfl, h9, H⟩ := H
    obtain ⟨h0, h1, rfl⟩ : 0 ≤ r.h ∧ r.h < 100 ∧ p9 = pad2 r.h := h9
    obtain ⟨p10, q10, rfl, h10, H⟩ := H
    obtain rfl : p10 = [58] := h10
    obtain ⟨p11, q11, rfl, h11, H⟩ := H
    obtain ⟨i0, i1, rfl⟩ : 0 ≤ r.i ∧ r.i < 100 ∧ p11 = pad2 r.i := h11
    obtain ⟨p12, q12, rfl, h12, H⟩ := H
    obtain rfl : p12 = [58] := h12
    obtain ⟨p13, q13, rfl, h13, H⟩ := H
    obtain ⟨s0, s1, rfl⟩ : 0 ≤ r.s ∧ r.s < 100 ∧ p13 = pad2 r.s := h13
    obtain ⟨p14, q14, rfl, h14, H⟩ := H
    obtain rfl : p14 = [32] := h14
    obtain ⟨p15, q15, rfl, h15, H⟩ := H
    obtain rfl : p15 = [71] := h15
    obtain ⟨p16, q16, rfl, h16, H⟩ := H
    obtain rfl : p16 = [77] := h16
    obtain ⟨p17, q17, rfl, h17, H⟩ := H
    obtain rfl : p17 = [84] := h17
    obtain rfl : q17 = [] := H
    obtain ⟨V, W, T⟩ := valid_vd hv em km12 h0 i0 s0
    obtain rfl : kw = wdN r.y km r.d := by omega
    exact ⟨_, _, _, _, _, _, V, by simp only [fixT, List.append_assoc, List.append_nil]; rfl, by rw [← ht, T]⟩
  · rintro ⟨y, m, d, h, i, s, V, rfl, rfl⟩
    have C := runL_complete (nw := nw) ⟨wdN y m d, d, m, y, h, i, s⟩ fixF _ [] .zero ⟨_, _, rfl, ⟨_, wdN_lt _ _ _, rfl, rfl⟩, _, _, rfl, rfl, _, _, rfl, rfl, _, _, rfl, ⟨by have := V.2.2.2.1; show 0 ≤ d; omega, by have := V.2.2.2.2.1; have := (dom_bd y m).2; show d < 100; omega, rfl⟩, _, _, rfl, rfl, _, _, rfl, ⟨_, V.2.2.1, rfl, rfl⟩, _, _, rfl, rfl, _, _, rfl, ⟨by have := V.1; show 0 ≤ y; omega, by have := V.2.1; show y < 10000; omega, rfl⟩, _, _, rfl, rfl, _, _, rfl, ⟨V.2.2.2.2.2.1, by have := V.2.2.2.2.2.2.1; show h < 100; omega, rfl⟩, _, _, rfl, rfl, _, _, rfl, ⟨V.2.2.2.2.2.2.2.1, by have := V.2.2.2.2.2.2.2.2.1; show i < 100; omega, rfl⟩, _, _, rfl, rfl, _, _, rfl, ⟨V.2.2.2.2.2.2.2.2.2.1, by have := V.2.2.2.2.2.2.2.2.2.2; show s < 100; omega, rfl⟩, _, _, rfl, rfl, _, _, rfl, rfl, _, _, rfl, rfl, _, _, rfl, rfl, rfl⟩
    rw [fold_fix, List.append_nil] at C
    refine ⟨_, (congrArg (fun x => runL nw fixF x .zero) ?_).trans C, vd_valid V, rfl⟩
    simp only [fixT, List.append_assoc, List.append_nil]; rfl

set_option maxHeartbeats 1000000 in
theorem old_iff (nw : Int) (l : List UInt8) (t : Int) : formL nw oldF l = some t ↔ F2 nw l t := by
  rw [formL_iff]
  constructor
  · rintro ⟨r, hr, hv, ht⟩
    obtain ⟨p, hl, H⟩ := runL_sound oldF l .zero r [] (by decide) hr
    rw [List.append_nil] at hl
    subst hl
    obtain ⟨p0, q0, rfl, h0, H⟩ := H
    obtain ⟨kw, kw7, ew, rfl⟩ : ∃ k : Nat, k < 7 ∧ r.wd = k ∧ p0 = lDays.getD k [] := h0
    obtain ⟨p1, q1, rfl, h1, H⟩ := H
    obtain rfl : p1 = [44] := h1
    obtain ⟨p2, q2, rfl, h2, H⟩ := H
    obtain rfl : p2 = [32] := h2
    obtain ⟨p3, q3, rfl, h3, H⟩ := H
    obtain ⟨d0, d1, rfl⟩ : 0 ≤ r.d ∧ r.d < 100 ∧ p3 = pad2 r.d := h3
    obtain ⟨p4, q4, rfl, h4, H⟩ := H
    obtain rfl : p4 = [45] := h4
    obtain ⟨p5, q5, rfl, h5, H⟩ := H
    obtain ⟨km, km12, em, rfl⟩ : ∃ k : Nat, k < 12 ∧ r.m = k ∧ p5 = sMonths.getD k [] := h5
    obtain ⟨p6, q6, rfl, h6, H⟩ := H
    obtain rfl : p6 = [45] := h6
    obtain ⟨p7, q7, rfl, h7, H⟩ := H
    obtain ⟨y0, y1, rfl⟩ : nw - 99 ≤ r.y ∧ r.y ≤ nw ∧ p7 = pad2 (r.y % 100) := h7
    obtain ⟨p8, q8, rfl, h8, H⟩ := H
    obtain rfl : p8 = [32] := h8
    obtain ⟨p9, q9, rfl, h9, H⟩ := H
    obtain ⟨h0, h1, rfl⟩ : 0 ≤ r.h ∧ r.h < 100 ∧ p9 = pad2 r.h := h9
    obtain ⟨p10, q10, rfl, h10, H⟩ := H
    obtain rfl : p10 = [58] := h10
    obtain ⟨p11, q11, rfl, h11, H⟩ := H
    obtain ⟨i0, i1, rfl⟩ : 0 ≤ r.i ∧ r.i < 100 ∧ p11 = pad2 r.i := h11
    obtain ⟨p12, q12, rfl, h12, H⟩ := H
    obtain rfl : p12 = [58] := h12
    obtain ⟨p13, q13, rfl, h13, H⟩ := H
    obtain ⟨s0, s1, rfl⟩ : 0 ≤ r.s ∧ r.s < 100 ∧ p13 = pad2 r.s := h13
    obtain ⟨p14, q14, rfl, h14, H⟩ := H
    obtain rfl : p14 = [32] := h14
    obtain ⟨p15, q15, rfl, h15, H⟩ := H
    obtain rfl : p15 = [71] := h15
    obtain ⟨p16, q16, rfl, h16, H⟩ := H
    obtain rfl : p16 = [77] := h16
    obtain ⟨p17, q17, rfl, h17, H⟩ := H
    obtain rfl : p17 = [84] := h17
    obtain rfl : q17 = [] := H
    obtain ⟨V, W, T⟩ := valid_vd hv em km12 h0 i0 s0
    obtain rfl : kw = wdN r.y km r.d := by omega
    exact ⟨_, _, _, _, _, _, V, y0, y1, by simp only [oldT, clkT, pad2, List.append_assoc, List.append_nil]; rfl, by rw [← ht, T]⟩
  · rintro ⟨y, m, d, h, i, s, V, g0, g1, rfl, rfl⟩
    have C := runL_complete (nw := nw) ⟨wdN y m d, d, m, y, h, i, s⟩ oldF _ [] .zero ⟨_, _, rfl, ⟨_, wdN_lt _ _ _, rfl, rfl⟩, _, _, rfl, rfl, _, _, rfl, rfl, _, _, rfl, ⟨by have := V.2.2.2.1; show 0 ≤ d; omega, by have := V.2.2.2.2.1; have := (dom_bd y m).2; show d < 100; omega, rfl⟩, _, _, rfl, rfl, _, _, rfl, ⟨_, V.2.2.1, rfl, rfl⟩, _, _, rfl, rfl, _, _, rfl, ⟨g0, g1, rfl⟩, _, _, rfl, rfl, _, _, rfl, ⟨V.2.2.2.2.2.1, by have := V.2.2.2.2.2.2.1; show h < 100; omega, rfl⟩, _, _, rfl, rfl, _, _, rfl, ⟨V.2.2.2.2.2.2.2.1, by have := V.2.2.2.2.2.2.2.2.1; show i < 100; omega, rfl⟩, _, _, rfl, rfl, _, _, rfl, ⟨V.2.2.2.2.2.2.2.2.2.1, by have := V.2.2.2.2.2.2.2.2.2.2; show s < 100; omega, rfl⟩, _, _, rfl, rfl, _, _, rfl, rfl, _, _, rfl, rfl, _, _, rfl, rfl, rfl⟩
    rw [fold_old, List.append_nil] at C
    refine ⟨_, (congrArg (fun x => runL nw oldF x .zero) ?_).trans C, vd_valid V, rfl⟩
    simp only [oldT, clkT, pad2, List.append_assoc, List.append_nil]; rfl

set_option maxHeartbeats 1000000 in
theorem asc_iff (nw : Int) (l : List UInt8) (t : Int) : formL nw ascF l = some t ↔ F3 l t := by
  rw [formL_iff]
  constructor
  · rintro ⟨r, hr, hv, ht⟩
    obtain ⟨p, hl, H⟩ := runL_sound ascF l .zero r [] (by decide) hr
    rw [List.append_nil] at hl
    subst hl
    obtain ⟨p0, q0, rfl, h0, H⟩ := H
    obtain ⟨kw, kw7, ew, rfl⟩ : ∃ k : Nat, k < 7 ∧ r.wd = k ∧ p0 = sDays.getD k [] := h0
    obtain ⟨p1, q1, rfl, h1, H⟩ := H
    obtain rfl : p1 = [32] := h1
    obtain ⟨p2, q2, rfl, h2, H⟩ := H
    obtain ⟨km, km12, em, rfl⟩ : ∃ k : Nat, k < 12 ∧ r.m = k ∧ p2 = sMonths.getD k [] := h2
    obtain ⟨p3, q3, rfl, h3, H⟩ := H
    obtain rfl : p3 = [32] := h3
    obtain ⟨p4, q4, rfl, h4, H⟩ := H
    obtain ⟨d0, hd⟩ : 0 ≤ r.d ∧ ((r.d < 100 ∧ p4 = pad2 r.d) ∨ (r.d < 10 ∧ p4 = [32, digO r.d.toNat])) := h4
    obtain ⟨p5, q5, rfl, h5, H⟩ := H
    obtain rfl : p5 = [32] := h5
    obtain ⟨p6, q6, rfl, h6, H⟩ := H
    obtain ⟨h0, h1, rfl⟩ : 0 ≤ r.h ∧ r.h < 100 ∧ p6 = pad2 r.h := h6
    obtain ⟨p7, q7, rfl, h7, H⟩ := H
    obtain rfl : p7 = [58] := h7
    obtain ⟨p8, q8, rfl, h8, H⟩ := H
    obtain ⟨i0, i1, rfl⟩ : 0 ≤ r.i ∧ r.i < 100 ∧ p8 = pad2 r.i := h8
    obtain ⟨p9, q9, rfl, h9, H⟩ := H
    obtain rfl : p9 = [58] := h9
    obtain ⟨p10, q10, rfl, h10, H⟩ := H
    obtain ⟨s0, s1, rfl⟩ : 0 ≤ r.s ∧ r.s < 100 ∧ p10 = pad2 r.s := h10
    obtain ⟨p11, q11, rfl, h11, H⟩ := H
    obtain rfl : p11 = [32] := h11
    obtain ⟨p12, q12, rfl, h12, H⟩ := H
    obtain ⟨y0, y1, rfl⟩ : 0 ≤ r.y ∧ r.y < 10000 ∧ p12 = pad4 r.y := h12
    obtain rfl : q12 = [] := H
    obtain ⟨V, W, T⟩ := valid_vd hv em km12 h0 i0 s0
    obtain rfl : kw = wdN r.y km r.d := by omega
    rcases hd with ⟨d1, rfl⟩ | ⟨d1, rfl⟩
    · exact ⟨_, _, _, _, _, _, V, .inl (by simp only [ascT, clkT, pad2, List.append_assoc, List.append_nil]; rfl), by rw [← ht, T]⟩
    · exact ⟨_, _, _, _, _, _, V, .inr ⟨d1, by simp only [ascT, clkT, pad2, List.append_assoc, List.append_nil]; rfl⟩, by rw [← ht, T]⟩
  · rintro ⟨y, m, d, h, i, s, V, hd, rfl⟩
    rcases hd with rfl | ⟨d1, rfl⟩
    · have C := runL_complete (nw := nw) ⟨wdN y m d, d, m, y, h, i, s⟩ ascF _ [] .zero ⟨_, _, rfl, ⟨_, wdN_lt _ _ _, rfl, rfl⟩, _, _, rfl, rfl, _, _, rfl, ⟨_, V.2.2.1, rfl, rfl⟩, _, _, rfl, rfl, _, _, rfl, ⟨by have := V.2.2.2.1; show 0 ≤ d; omega, .inl ⟨by have := V.2.2.2.2.1; have := (dom_bd y m).2; show d < 100; omega, rfl⟩⟩, _, _, rfl, rfl, _, _, rfl, ⟨V.2.2.2.2.2.1, by have := V.2.2.2.2.2.2.1; show h < 100; omega, rfl⟩, _, _, rfl, rfl, _, _, rfl, ⟨V.2.2.2.2.2.2.2.1, by have := V.2.2.2.2.2.2.2.2.1; show i < 100; omega, rfl⟩, _, _, rfl, rfl, _, _, rfl, ⟨V.2.2.2.2.2.2.2.2.2.1, by have := V.2.2.2.2.2.2.2.2.2.2; show s < 100; omega, rfl⟩, _, _, rfl, rfl, _, _, rfl, ⟨by have := V.1; show 0 ≤ y; omega, by have := V.2.1; show y < 10000; omega, rfl⟩, rfl⟩
      rw [fold_asc, List.append_nil] at C
      refine ⟨_, (congrArg (fun x => runL nw ascF x .zero) ?_).trans C, vd_valid V, rfl⟩
      simp only [ascT, clkT, pad2, List.append_assoc, List.append_nil]; rfl
    · have C := runL_complete (nw := nw) ⟨wdN y m d, d, m, y, h, i, s⟩ ascF _ [] .zero ⟨_, _, rfl, ⟨_, wdN_lt _ _ _, rfl, rfl⟩, _, _, rfl, rfl, _, _, rfl, ⟨_, V.2.2.1, rfl, rfl⟩, _, _, rfl, rfl, _, _, rfl, ⟨by have := V.2.2.2.1; show 0 ≤ d; omega, .inr ⟨d1, rfl⟩⟩, _, _, rfl, rfl, _, _, rfl, ⟨V.2.2.2.2.2.1, by have := V.2.2.2.2.2.2.1; show h < 100; omega, rfl⟩, _, _, rfl, rfl, _, _, rfl, ⟨V.2.2.2.2.2.2.2.1, by have := V.2.2.2.2.2.2.2.2.1; show i < 100; omega, rfl⟩, _, _, rfl, rfl, _, _, rfl, ⟨V.2.2.2.2.2.2.2.2.2.1, by have := V.2.2.2.2.2.2.2.2.2.2; show s < 100; omega, rfl⟩, _, _, rfl, rfl, _, _, rfl, ⟨by have := V.1; show 0 ≤ y; omega, by have := V.2.1; show y < 10000; omega, rfl⟩, rfl⟩
      rw [fold_asc, List.append_nil] at C
      refine ⟨_, (congrArg (fun x => runL nw ascF x .zero) ?_).trans C, vd_valid V, rfl⟩
      simp only [ascT, clkT, pad2, List.append_assoc, List.append_nil]; rfl

theorem parseL_iff (nw : Int) (l : List UInt8) (t : Int) : parseL nw l = some t ↔ F1 l t ∨ (¬ (∃ u, F1 l u) ∧ F2 nw l t) ∨ (¬ (∃ u, F1 l u) ∧ ¬ (∃ u, F2 nw l u) ∧ F3 l t) := by
  unfold parseL
  cases h1 : formL nw fixF l with
  | some a =>
    have A := (fix_iff nw l a).1 h1
    simp only [Option.some_or, Option.some.injEq]
    constructor
    · rintro rfl; exact .inl A
    · rintro (h | ⟨h, _⟩ | ⟨h, _⟩)
      · exact Option.some.inj (h1.symm.trans ((fix_iff nw l t).2 h))
      · exact absurd ⟨a, A⟩ h
      · exact absurd ⟨a, A⟩ h
  | none =>
    have N1 : ¬ ∃ u, F1 l u := fun ⟨u, hu⟩ => by rw [(fix_iff nw l u).2 hu] at h1; cases h1
    cases h2 : formL nw oldF l with
    | some a =>
      have A := (old_iff nw l a).1 h2
      simp only [Option.none_or, Option.some_or, Option.some.injEq]
      constructor
      · rintro rfl; exact .inr (.inl ⟨N1, A⟩)
      · rintro (h | ⟨_, h⟩ | ⟨_, h, _⟩)
        · exact absurd ⟨t, h⟩ N1
        · exact Option.some.inj (h2.symm.trans ((old_iff nw l t).2 h))
        · exact absurd ⟨a, A⟩ h
    | none =>
      have N2 : ¬ ∃ u, F2 nw l u := fun ⟨u, hu⟩ => by rw [(old_iff nw l u).2 hu] at h2; cases h2
      simp only [Option.none_or, asc_iff]
      constructor
      · exact fun h => .inr (.inr ⟨N1, N2, h⟩)
      · rintro (h | ⟨_, h⟩ | ⟨_, _, h⟩)
        · exact absurd ⟨t, h⟩ N1
        · exact absurd ⟨t, h⟩ N2
        · exact h
end Go.Proofs.YtjcllpfncohncaaDoor
