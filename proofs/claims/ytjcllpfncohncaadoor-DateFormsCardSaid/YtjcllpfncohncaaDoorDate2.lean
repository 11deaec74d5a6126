/- Plain texts: the forms of a date: what is read is what is written. Nothing of the program is read here. -/
import Derived.Test.YtjcllpfncohncaaDoorDateO2
namespace Go.Proofs.YtjcllpfncohncaaDoor
theorem digO_toNat {n : Nat} (h : n < 10) : (digO n).toNat = 48 + n := by unfold digO; simp; omega
theorem digO_dig {n : Nat} (h : n < 10) : digC (digO n) = true := by
  unfold digC; rw [digO_toNat h]; exact decide_eq_true (by omega)
theorem digO_of {c : UInt8} (h : digC c = true) : digO (c.toNat - 48) = c := by
  have := dig_bd h
  exact UInt8.toNat.inj (by rw [digO_toNat (by omega)]; omega)
theorem pad2_all {n : Int} (h0 : 0 ≤ n) (h1 : n < 100) : (pad2 n).all digC = true ∧ num (pad2 n) = n.toNat := by
  have a : n.toNat / 10 < 10 := by omega
  have b : n.toNat % 10 < 10 := by omega
  refine ⟨by simp [pad2, digO_dig a, digO_dig b], ?_⟩
  unfold pad2 num
  simp only [List.foldl_cons, List.foldl_nil, digO_toNat a, digO_toNat b]
  omega
theorem pad4_all {n : Int} (h0 : 0 ≤ n) (h1 : n < 10000) : (pad4 n).all digC = true ∧ num (pad4 n) = n.toNat := by
  have a : n.toNat / 1000 < 10 := by omega
  have b : n.toNat / 100 % 10 < 10 := by omega
  have c : n.toNat / 10 % 10 < 10 := by omega
  have d : n.toNat % 10 < 10 := by omega
  refine ⟨by simp [pad4, digO_dig a, digO_dig b, digO_dig c, digO_dig d], ?_⟩
  unfold pad4 num
  simp only [List.foldl_cons, List.foldl_nil, digO_toNat a, digO_toNat b, digO_toNat c, digO_toNat d]
  omega
theorem one_all {n : Int} (h0 : 0 ≤ n) (h1 : n < 10) : [digO n.toNat].all digC = true ∧ num [digO n.toNat] = n.toNat := by
  have a : n.toNat < 10 := by omega
  refine ⟨by simp [digO_dig a], ?_⟩
  unfold num
  simp only [List.foldl_cons, List.foldl_nil, digO_toNat a]
  omega
theorem of_pad2 {l : List UInt8} (h : l.all digC = true) (hl : l.length = 2) : l = pad2 (num l) ∧ num l < 100 := by
  match l, hl with
  | [a, b], _ =>
    simp at h
    have ha := dig_bd h.1
    have hb := dig_bd h.2
    have e : num [a, b] = 10 * (a.toNat - 48) + (b.toNat - 48) := by unfold num; simp
    refine ⟨?_, by omega⟩
    unfold pad2
    rw [e, show ((10 * (a.toNat - 48) + (b.toNat - 48) : Nat) : Int).toNat = 10 * (a.toNat - 48) + (b.toNat - 48) from rfl,
      show (10 * (a.toNat - 48) + (b.toNat - 48)) / 10 = a.toNat - 48 from by omega, show (10 * (a.toNat - 48) + (b.toNat - 48)) % 10 = b.toNat - 48 from by omega, digO_of h.1, digO_of h.2]
theorem of_pad4 {l : List UInt8} (h : l.all digC = true) (hl : l.length = 4) : l = pad4 (num l) ∧ num l < 10000 := by
  match l, hl with
  | [a, b, c, d], _ =>
    simp at h
    obtain ⟨h1, h2, h3, h4⟩ := h
    have ha := dig_bd h1
    have hb := dig_bd h2
    have hc := dig_bd h3
    have hd := dig_bd h4
    obtain ⟨x, hx⟩ : ∃ x, a.toNat - 48 = x := ⟨_, rfl⟩
    obtain ⟨y, hy⟩ : ∃ x, b.toNat - 48 = x := ⟨_, rfl⟩
    obtain ⟨z, hz⟩ : ∃ x, c.toNat - 48 = x := ⟨_, rfl⟩
    obtain ⟨u, hu⟩ : ∃ x, d.toNat - 48 = x := ⟨_, rfl⟩
    have e : num [a, b, c, d] = 1000 * x + 100 * y + 10 * z + u := by unfold num; simp [hx, hy, hz, hu]; omega
    have ox := digO_of h1
    have oy := digO_of h2
    have oz := digO_of h3
    have ou := digO_of h4
    rw [hx] at ox
    rw [hy] at oy
    rw [hz] at oz
    rw [hu] at ou
    refine ⟨?_, by omega⟩
    unfold pad4
    rw [e, show ((1000 * x + 100 * y + 10 * z + u : Nat) : Int).toNat = 1000 * x + 100 * y + 10 * z + u from rfl,
      show (1000 * x + 100 * y + 10 * z + u) / 1000 = x from by omega, show (1000 * x + 100 * y + 10 * z + u) / 100 % 10 = y from by omega,
      show (1000 * x + 100 * y + 10 * z + u) / 10 % 10 = z from by omega, show (1000 * x + 100 * y + 10 * z + u) % 10 = u from by omega, ox, oy, oz, ou]
theorem of_one {l : List UInt8} (h : l.all digC = true) (hl : l.length = 1) : l = [digO (num l)] ∧ num l < 10 := by
  match l, hl with
  | [a], _ =>
    simp at h
    have ha := dig_bd h
    have e : num [a] = a.toNat - 48 := by unfold num; simp
    exact ⟨by rw [e, digO_of h], by omega⟩
theorem numV_of {l p x : List UInt8} {k : Nat} (hl : l = p ++ x) (hp : p.length = k) (h : p.all digC = true) : numV l k = (num p, k) := by
  subst hl
  have h2 : (p ++ x).take k = p := by rw [← hp]; simp
  rw [numV_yes (by simp; omega) (by rw [h2]; exact h), h2]
theorem numV_inv {l : List UInt8} {k : Nat} (h : (numV l k).2 ≠ 0) : k ≤ l.length ∧ (l.take k).all digC = true ∧ numV l k = (num (l.take k), k) ∧ (l.take k).length = k := by
  unfold numV at h ⊢
  cases hb : numB l k
  · rw [hb] at h; exact absurd rfl h
  · unfold numB at hb
    rw [Bool.and_eq_true] at hb
    have := of_decide_eq_true hb.1
    exact ⟨this, hb.2, rfl, by rw [List.length_take]; omega⟩

theorem lead_day (k : Nat) (h : k < 7) (x : List UInt8) : leadL sDays (sDays.getD k [] ++ x) = (k, 3) ∧ (sDays.getD k []).length = 3 := by
  match k, h with
  | 0, _ | 1, _ | 2, _ | 3, _ | 4, _ | 5, _ | 6, _ => exact ⟨rfl, rfl⟩
theorem lead_long (k : Nat) (h : k < 7) (x : List UInt8) : leadL lDays (lDays.getD k [] ++ x) = (k, (lDays.getD k []).length) ∧ (lDays.getD k []).length ≠ 0 := by
  match k, h with
  | 0, _ | 1, _ | 2, _ | 3, _ | 4, _ | 5, _ | 6, _ => exact ⟨rfl, by decide⟩
theorem lead_month (k : Nat) (h : k < 12) (x : List UInt8) : leadL sMonths (sMonths.getD k [] ++ x) = (k, 3) ∧ (sMonths.getD k []).length = 3 := by
  match k, h with
  | 0, _ | 1, _ | 2, _ | 3, _ | 4, _ | 5, _ | 6, _ | 7, _ | 8, _ | 9, _ | 10, _ | 11, _ => exact ⟨rfl, rfl⟩
/-- what is found stands there -/
theorem lead_inv {ns : List (List UInt8)} {l : List UInt8} (h : (leadL ns l).2 ≠ 0) : (leadL ns l).1 < ns.length ∧ l.take (leadL ns l).2 = ns.getD (leadL ns l).1 [] := by
  suffices H : ∀ (k : Nat) (ms : List (List UInt8)), (leadGo k ms l).2 ≠ 0 → k ≤ (leadGo k ms l).1 ∧ (leadGo k ms l).1 < k + ms.length ∧ l.take (leadGo k ms l).2 = ms.getD ((leadGo k ms l).1 - k) [] by
    have := H 0 ns h
    simpa [leadL] using this.2
  intro k ms
  induction ms generalizing k with
  | nil => intro h; exact absurd rfl h
  | cons n ms ih =>
    intro h
    rw [leadGo] at h ⊢
    by_cases hp : n.isPrefixOf l = true
    · rw [if_pos hp] at h ⊢
      obtain ⟨r, hr⟩ := List.isPrefixOf_iff_prefix.1 hp
      refine ⟨Nat.le_refl _, by simp, ?_⟩
      subst hr; simp
    · rw [if_neg hp] at h ⊢
      obtain ⟨a, b, c⟩ := ih (k + 1) h
      refine ⟨by omega, by simp; omega, ?_⟩
      rw [c, show (leadGo (k + 1) ms l).1 - k = (leadGo (k + 1) ms l).1 - (k + 1) + 1 from by omega]; rfl
end Go.Proofs.YtjcllpfncohncaaDoor
