/- Plain texts: the forms of a date: what is read is what is written. Nothing of the program is read here. -/
import Derived.Test.YtdaiielhohdgiaaGreatDoorKDateO
import Derived.Test.YtdaiielhohdgiaaGreatDoorKDateZ
namespace Go.Proofs.YtdaiielhohdgiaaGreatDoor
theorem digO_toNat {n : Nat} (h : n < 10) : (digO n).toNat = 48 + n := by unfold digO; simp; omega
theorem digO_dig {n : Nat} (h : n < 10) : digC (digO n) = true := by
  unfold digC; rw [digO_toNat h]; exact decide_eq_true (by omega)
theorem digO_of {c : UInt8} (h : digC c = true) : digO (c.toNat - 48) = c := by
  have := dig_bd h
  exact UInt8.toNat.inj (by rw [digO_toNat (by omega)]; omega)
theorem pad2_all {n : Int} (h0 : 0 ≤ n) (h1 : n < 100) : (pad2 n).all digC = true ∧ num (pad2 n) = n.toNat := by
  have a : n.toNat / 10 < 10 := by omega
  have b : n.toNat % 10 < 10 := by omega
  refine ⟨by simp [pad2, digO_dig a, digO_dig b], ?_⟩
  unfold pad2 num
  simp only [List.foldl_cons, List.foldl_nil, digO_toNat a, digO_toNat b]
  omega
theorem pad4_all {n : Int} (h0 : 0 ≤ n) (h1 : n < 10000) : (pad4 n).all digC = true ∧ num (pad4 n) = n.toNat := by
  have a : n.toNat / 1000 < 10 := by omega
  have b : n.toNat / 100 % 10 < 10 := by omega
  have c : n.toNat / 10 % 10 < 10 := by omega
  have d : n.toNat % 10 < 10 := by omega
  refine ⟨by simp [pad4, digO_dig a, digO_dig b, digO_dig c, digO_dig d], ?_⟩
  unfold pad4 num
  simp only [List.foldl_cons, List.foldl_nil, digO_toNat a, digO_toNat b, digO_toNat c, digO_toNat d]
  omega
theorem one_all {n : Int} (h0 : 0 ≤ n) (h1 : n < 10) : [digO n.toNat].all digC = true ∧ num [digO n.toNat] = n.toNat := by
  have a : n.toNat < 10 := by omega
  refine ⟨by simp [digO_dig a], ?_⟩
  unfold num
  simp only [List.foldl_cons, List.foldl_nil, digO_toNat a]
  omega
theorem of_pad2 {l : List UInt8} (h : l.all digC = true) (hl : l.length = 2) : l = pad2 (num l) ∧ num l < 100 := by
  match l, hl with
  | [a, b], _ =>
    simp at h
    have ha := dig_bd h.1
    have hb := dig_bd h.2
    have e : num [a, b] = 10 * (a.toNat - 48) + (b.toNat - 48) := by unfold num; simp
    refine ⟨?_, by omega⟩
    unfold pad2
    rw [e, show ((10 * (a.toNat - 48) + (b.toNat - 48) : Nat) : Int).toNat = 10 * (a.toNat - 48) + (b.toNat - 48) from rfl,
      show (10 * (a.toNat - 48) + (b.toNat - 48)) / 10 = a.toNat - 48 from by omega, show (10 * (a.toNat - 48) + (b.toNat - 48)) % 10 = b.toNat - 48 from by omega, digO_of h.1, digO_of h.2]
theorem of_pad4 {l : List UInt8} (h : l.all digC = true) (hl : l.length = 4) : l = pad4 (num l) ∧ num l < 10000 := by
  match l, hl with
  | [a, b, c, d], _ =>
    simp at h
    obtain ⟨h1, h2, h3, h4⟩ := h
    have ha := dig_bd h1
    have hb := dig_bd h2
    have hc := dig_bd h3
    have hd := dig_bd h4
    obtain ⟨x, hx⟩ : ∃ x, a.toNat - 48 = x := ⟨_, rfl⟩
    obtain ⟨y, hy⟩ : ∃ x, b.toNat - 48 = x := ⟨_, rfl⟩
    obtain ⟨z, hz⟩ : ∃ x, c.toNat - 48 = x := ⟨_, rfl⟩
    obtain ⟨u, hu⟩ : ∃ x, d.toNat - 48 = x := ⟨_, rfl⟩
    have e : num [a, b, c, d] = 1000 * x + 100 * y + 10 * z + u := by unfold num; simp [hx, hy, hz, hu]; omega
    have ox := digO_of h1
    have oy := digO_of h2
    have oz := digO_of h3
    have ou := digO_of h4
    rw [hx] at ox
    rw [hy] at oy
    rw [hz] at oz
    rw [hu] at ou
    refine ⟨?_, by omega⟩
    unfold pad4
    rw [e, show ((1000 * x + 100 * y + 10 * z + u : Nat) : Int).toNat = 1000 * x + 100 * y + 10 * z + u from rfl,
      show (1000 * x + 100 * y + 10 * z + u) / 1000 = x from by omega, show (1000 * x + 100 * y + 10 * z + u) / 100 % 10 = y from by omega,
      show (1000 * x + 100 * y + 10 * z + u) / 10 % 10 = z from by omega, show (1000 * x + 100 * y + 10 * z + u) % 10 = u from by omega, ox, oy, oz, ou]
theorem of_one {l : List UInt8} (h : l.all digC = true) (hl : l.length = 1) : l = [digO (num l)] ∧ num l < 10 := by
  match l, hl with
  | [a], _ =>
    simp at h
    have ha := dig_bd h
    have e : num [a] = a.toNat - 48 := by unfold num; simp
    exact ⟨by rw [e, digO_of h], by omega⟩
theorem numV_of {l p x : List UInt8} {k : Nat} (hl : l = p ++ x) (hp : p.length = k) (h : p.all digC = true) : numV l k = (num p, k) := by
  subst hl
  have h2 : (p ++ x).take k = p := by rw [← hp]; simp
  rw [numV_yes (by simp; omega) (by rw [h2]; exact h), h2]
theorem numV_inv {l : List UInt8} {k : Nat} (h : (numV l k).2 ≠ 0) : k ≤ l.length ∧ (l.take k).all digC = true ∧ numV l k = (num (l.take k), k) ∧ (l.take k).length = k := by
  unfold numV at h ⊢
  cases hb : numB l k
  · rw [hb] at h; exact absurd rfl h
  · unfold numB at hb
    rw [Bool.and_eq_true] at hb
    have := of_decide_eq_true hb.1
    exact ⟨this, hb.2, rfl, by rw [List.length_take]; omega⟩

theorem lead_day (k : Nat) (h : k < 7) (x : List UInt8) : leadL sDays (sDays.getD k [] ++ x) = (k, 3) ∧ (sDays.getD k []).length = 3 := by
  match k, h with
  | 0, _ | 1, _ | 2, _ | 3, _ | 4, _ | 5, _ | 6, _ => exact ⟨rfl, rfl⟩
theorem lead_long (k : Nat) (h : k < 7) (x : List UInt8) : leadL lDays (lDays.getD k [] ++ x) = (k, (lDays.getD k []).length) ∧ (lDays.getD k []).length ≠ 0 := by
  match k, h with
  | 0, _ | 1, _ | 2, _ | 3, _ | 4, _ | 5, _ | 6, _ => exact ⟨rfl, by decide⟩
theorem lead_month (k : Nat) (h : k < 12) (x : List UInt8) : leadL sMonths (sMonths.getD k [] ++ x) = (k, 3) ∧ (sMonths.getD k []).length = 3 := by
  match k, h with
  | 0, _ | 1, _ | 2, _ | 3, _ | 4, _ | 5, _ | 6, _ | 7, _ | 8, _ | 9, _ | 10, _ | 11, _ => exact ⟨rfl, rfl⟩
/-- what is found stands there -/
theorem lead_inv {ns : List (List UInt8)} {l : List UInt8} (h : (leadL ns l).2 ≠ 0) : (leadL ns l).1 < ns.length ∧ l.take (leadL ns l).2 = ns.getD (leadL ns l).1 [] := by
  suffices H : ∀ (k : Nat) (ms : List (List UInt8)), (leadGo k ms l).2 ≠ 0 → k ≤ (leadGo k ms l).1 ∧ (leadGo k ms l).1 < k + ms.length ∧ l.take (leadGo k ms l).2 = ms.getD ((leadGo k ms l).1 - k) [] by
    have := H 0 ns h
    simpa [leadL] using this.2
  intro k ms
  induction ms generalizing k with
  | nil => intro h; exact absurd rfl h
  | cons n ms ih =>
    intro h
    rw [leadGo] at h ⊢
    by_cases hp : n.isPrefixOf l = true
    · rw [if_pos hp] at h ⊢
      obtain ⟨r, hr⟩ := List.isPrefixOf_iff_prefix.1 hp
      refine ⟨Nat.le_refl _, by simp, ?_⟩
      subst hr; simp
    · rw [if_neg hp] at h ⊢
      obtain ⟨a, b, c⟩ := ih (k + 1) h
      refine ⟨by omega, by simp; omega, ?_⟩
      rw [c, show (leadGo (k + 1) ms l).1 - k = (leadGo (k + 1) ms l).1 - (k + 1) + 1 from by omega]; rfl
end Go.Proofs.YtdaiielhohdgiaaGreatDoor

/- Plain texts: a form and what it reads. Nothing of the program is read here. -/
namespace Go.Proofs.YtdaiielhohdgiaaGreatDoor
/-- which part of a date a letter stands for -/
def fld (c : UInt8) : Nat := if c = 119 ∨ c = 87 then 1 else if c = 100 ∨ c = 101 then 2 else if c = 109 then 3 else if c = 89 ∨ c = 121 then 4 else if c = 104 then 5 else if c = 105 then 6 else if c = 115 then 7 else 0
def getF (k : Nat) (r : Rd) : Int := if k = 1 then r.wd else if k = 2 then r.d else if k = 3 then r.m else if k = 4 then r.y else if k = 5 then r.h else if k = 6 then r.i else if k = 7 then r.s else 0
/-- how a part is written -/
def Rend (nw : Int) (c : UInt8) (v : Int) (p : List UInt8) : Prop :=
  if c = 119 then ∃ k : Nat, k < 7 ∧ v = k ∧ p = sDays.getD k []
  else if c = 87 then ∃ k : Nat, k < 7 ∧ v = k ∧ p = lDays.getD k []
  else if c = 100 then 0 ≤ v ∧ v < 100 ∧ p = pad2 v
  else if c = 101 then 0 ≤ v ∧ ((v < 100 ∧ p = pad2 v) ∨ (v < 10 ∧ p = [32, digO v.toNat]))
  else if c = 109 then ∃ k : Nat, k < 12 ∧ v = k ∧ p = sMonths.getD k []
  else if c = 89 then 0 ≤ v ∧ v < 10000 ∧ p = pad4 v
  else if c = 121 then nw - 99 ≤ v ∧ v ≤ nw ∧ p = pad2 (v % 100)
  else if c = 104 then 0 ≤ v ∧ v < 100 ∧ p = pad2 v
  else if c = 105 then 0 ≤ v ∧ v < 100 ∧ p = pad2 v
  else if c = 115 then 0 ≤ v ∧ v < 100 ∧ p = pad2 v
  else p = [c]
def Rends (nw : Int) : List UInt8 → Rd → List UInt8 → Prop
  | [], _, l => l = []
  | c :: cs, r, l => ∃ p q, l = p ++ q ∧ Rend nw c (getF (fld c) r) p ∧ Rends nw cs r q
/-- r with a letter's part out of another one -/
def updR (c : UInt8) (r0 r : Rd) : Rd :=
  if fld c = 1 then { r0 with wd := r.wd } else if fld c = 2 then { r0 with d := r.d } else if fld c = 3 then { r0 with m := r.m } else if fld c = 4 then { r0 with y := r.y }
  else if fld c = 5 then { r0 with h := r.h } else if fld c = 6 then { r0 with i := r.i } else if fld c = 7 then { r0 with s := r.s } else r0

theorem letter_cases (c : UInt8) : c = 119 ∨ c = 87 ∨ c = 100 ∨ c = 101 ∨ c = 109 ∨ c = 89 ∨ c = 121 ∨ c = 104 ∨ c = 105 ∨ c = 115 ∨ (¬ c = 119 ∧ ¬ c = 87 ∧ ¬ c = 100 ∧ ¬ c = 101 ∧ ¬ c = 109 ∧ ¬ c = 89 ∧ ¬ c = 121 ∧ ¬ c = 104 ∧ ¬ c = 105 ∧ ¬ c = 115) := by
  by_cases a1 : c = 119; · simp [a1]
  by_cases a2 : c = 87; · simp [a2]
  by_cases a3 : c = 100; · simp [a3]
  by_cases a4 : c = 101; · simp [a4]
  by_cases a5 : c = 109; · simp [a5]
  by_cases a6 : c = 89; · simp [a6]
  by_cases a7 : c = 121; · simp [a7]
  by_cases a8 : c = 104; · simp [a8]
  by_cases a9 : c = 105; · simp [a9]
  by_cases a10 : c = 115; · simp [a10]
  simp [a1, a2, a3, a4, a5, a6, a7, a8, a9, a10]

/-- what is read is what stands there -/
theorem takeL_sound (c : UInt8) (l : List UInt8) (nw : Int) (r : Rd) (h : (takeL c l nw r).2 ≠ 0) :
    Rend nw c (getF (fld c) (takeL c l nw r).1) (l.take (takeL c l nw r).2) := by
  rcases letter_cases c with rfl | rfl | rfl | rfl | rfl | rfl | rfl | rfl | rfl | rfl | ⟨a1, a2, a3, a4, a5, a6, a7, a8, a9, a10⟩
  · have hb := lead_inv (ns := sDays) (l := l) h
    exact ⟨_, hb.1, rfl, hb.2⟩
  · have hb := lead_inv (ns := lDays) (l := l) h
    exact ⟨_, hb.1, rfl, hb.2⟩
  · obtain ⟨_, b, e, g⟩ := numV_inv (l := l) (k := 2) h
    obtain ⟨p, q⟩ := of_pad2 b g
    show 0 ≤ ((numV l 2).1 : Int) ∧ ((numV l 2).1 : Int) < 100 ∧ l.take (numV l 2).2 = pad2 ((numV l 2).1 : Int)
    rw [e]
    exact ⟨by omega, by show ((num (l.take 2) : Nat) : Int) < 100; omega, p⟩
  · show 0 ≤ ((spdV l).1 : Int) ∧ ((((spdV l).1 : Int) < 100 ∧ l.take (spdV l).2 = pad2 ((spdV l).1 : Int)) ∨ (((spdV l).1 : Int) < 10 ∧ l.take (spdV l).2 = [32, digO ((spdV l).1 : Int).toNat]))
    refine ⟨by omega, ?_⟩
    have h' : (spdV l).2 ≠ 0 := h
    unfold spdV at h' ⊢
    cases hb : Lib.hasPrefix l [32]
    · rw [hb] at h'
      obtain ⟨_, b, e, g⟩ := numV_inv (l := l) (k := 2) h'
      obtain ⟨p, q⟩ := of_pad2 b g
      refine .inl ?_
      rw [if_neg (by simp), e]
      exact ⟨by show ((num (l.take 2) : Nat) : Int) < 100; omega, p⟩
    · rw [hb, if_pos rfl] at h'
      obtain ⟨x, rfl⟩ := prefix_one hb
      cases hn : numB ((32 :: x).drop 1) 1
      · rw [hn] at h'; exact absurd rfl h'
      · refine .inr ?_
        have hn2 := hn
        unfold numB at hn2
        rw [Bool.and_eq_true] at hn2
        have hlen := of_decide_eq_true hn2.1
        obtain ⟨p, q⟩ := of_one hn2.2 (by rw [List.length_take]; omega)
        rw [if_pos rfl, if_pos rfl]
        refine ⟨by show ((num (((32 :: x).drop 1).take 1) : Nat) : Int) < 10; omega, ?_⟩
        show 32 :: x.take 1 = [32, digO (num (x.take 1))]
        have p' : x.take 1 = [digO (num (x.take 1))] := p
        rw [← p']
  · have hb := lead_inv (ns := sMonths) (l := l) h
    exact ⟨_, hb.1, rfl, hb.2⟩
  · obtain ⟨_, b, e, g⟩ := numV_inv (l := l) (k := 4) h
    obtain ⟨p, q⟩ := of_pad4 b g
    show 0 ≤ ((numV l 4).1 : Int) ∧ ((numV l 4).1 : Int) < 10000 ∧ l.take (numV l 4).2 = pad4 ((numV l 4).1 : Int)
    rw [e]
    exact ⟨by omega, by show ((num (l.take 4) : Nat) : Int) < 10000; omega, p⟩
  · obtain ⟨_, b, e, g⟩ := numV_inv (l := l) (k := 2) h
    obtain ⟨p, q⟩ := of_pad2 b g
    show nw - 99 ≤ nw - (nw - ((numV l 2).1 : Int)) % 100 ∧ nw - (nw - ((numV l 2).1 : Int)) % 100 ≤ nw ∧ l.take (numV l 2).2 = pad2 ((nw - (nw - ((numV l 2).1 : Int)) % 100) % 100)
    rw [e]
    refine ⟨by omega, by omega, ?_⟩
    show l.take 2 = pad2 ((nw - (nw - ((num (l.take 2) : Nat) : Int)) % 100) % 100)
    rw [show (nw - (nw - ((num (l.take 2) : Nat) : Int)) % 100) % 100 = ((num (l.take 2) : Nat) : Int) from by omega]
    exact p
  · obtain ⟨_, b, e, g⟩ := numV_inv (l := l) (k := 2) h
    obtain ⟨p, q⟩ := of_pad2 b g
    show 0 ≤ ((numV l 2).1 : Int) ∧ ((numV l 2).1 : Int) < 100 ∧ l.take (numV l 2).2 = pad2 ((numV l 2).1 : Int)
    rw [e]
    exact ⟨by omega, by show ((num (l.take 2) : Nat) : Int) < 100; omega, p⟩
  · obtain ⟨_, b, e, g⟩ := numV_inv (l := l) (k := 2) h
    obtain ⟨p, q⟩ := of_pad2 b g
    show 0 ≤ ((numV l 2).1 : Int) ∧ ((numV l 2).1 : Int) < 100 ∧ l.take (numV l 2).2 = pad2 ((numV l 2).1 : Int)
    rw [e]
    exact ⟨by omega, by show ((num (l.take 2) : Nat) : Int) < 100; omega, p⟩
  · obtain ⟨_, b, e, g⟩ := numV_inv (l := l) (k := 2) h
    obtain ⟨p, q⟩ := of_pad2 b g
    show 0 ≤ ((numV l 2).1 : Int) ∧ ((numV l 2).1 : Int) < 100 ∧ l.take (numV l 2).2 = pad2 ((numV l 2).1 : Int)
    rw [e]
    exact ⟨by omega, by show ((num (l.take 2) : Nat) : Int) < 100; omega, p⟩
  · unfold Rend
    rw [if_neg a1, if_neg a2, if_neg a3, if_neg a4, if_neg a5, if_neg a6, if_neg a7, if_neg a8, if_neg a9, if_neg a10]
    have e : takeL c l nw r = (r, if Lib.hasPrefix l [c] then 1 else 0) := by
      unfold takeL
      rw [if_neg a1, if_neg a2, if_neg a3, if_neg a4, if_neg a5, if_neg a6, if_neg a7, if_neg a8, if_neg a9, if_neg a10]
    rw [e] at h ⊢
    cases hb : Lib.hasPrefix l [c]
    · rw [hb] at h; exact absurd rfl h
    · obtain ⟨x, rfl⟩ := prefix_one hb
      rfl

/-- what is written is read -/
theorem takeL_complete (c : UInt8) (p x : List UInt8) (nw : Int) (r0 r : Rd) (h : Rend nw c (getF (fld c) r) p) :
    takeL c (p ++ x) nw r0 = (updR c r0 r, p.length) ∧ p.length ≠ 0 := by
  rcases letter_cases c with rfl | rfl | rfl | rfl | rfl | rfl | rfl | rfl | rfl | rfl | ⟨a1, a2, a3, a4, a5, a6, a7, a8, a9, a10⟩
  · obtain ⟨k, hk, hv, rfl⟩ := h
    obtain ⟨a, b⟩ := lead_day k hk x
    have hv' : r.wd = k := hv
    refine ⟨?_, by omega⟩
    show (({ r0 with wd := ((leadL sDays (sDays.getD k [] ++ x)).1 : Int) } : Rd), (leadL sDays (sDays.getD k [] ++ x)).2) = (({ r0 with wd := r.wd } : Rd), _)
    rw [a, b, hv']
  · obtain ⟨k, hk, hv, rfl⟩ := h
    obtain ⟨a, b⟩ := lead_long k hk x
    have hv' : r.wd = k := hv
    refine ⟨?_, b⟩
    show (({ r0 with wd := ((leadL lDays (lDays.getD k [] ++ x)).1 : Int) } : Rd), (leadL lDays (lDays.getD k [] ++ x)).2) = (({ r0 with wd := r.wd } : Rd), _)
    rw [a, hv']
  · obtain ⟨h0, h1, rfl⟩ := h
    have h0' : 0 ≤ r.d := h0
    have h1' : r.d < 100 := h1
    obtain ⟨a, b⟩ := pad2_all h0' h1'
    refine ⟨?_, by show (2 : Nat) ≠ 0; omega⟩
    show (({ r0 with d := ((numV (pad2 r.d ++ x) 2).1 : Int) } : Rd), (numV (pad2 r.d ++ x) 2).2) = (({ r0 with d := r.d } : Rd), 2)
    rw [numV_of (k := 2) rfl rfl a, b, show (((r.d.toNat, 2) : Nat × Nat).1 : Int) = r.d from by show ((r.d.toNat : Nat) : Int) = r.d; omega]
  · obtain ⟨h0, h⟩ := h
    have h0' : 0 ≤ r.d := h0
    rcases h with ⟨h1, rfl⟩ | ⟨h1, rfl⟩
    · have h1' : r.d < 100 := h1
      obtain ⟨a, b⟩ := pad2_all h0' h1'
      refine ⟨?_, by show (2 : Nat) ≠ 0; omega⟩
      have hp : Lib.hasPrefix (pad2 r.d ++ x) [32] = false := by
        have hd : digO (r.d.toNat / 10) ≠ 32 := by
          intro e
          have := congrArg UInt8.toNat e
          rw [digO_toNat (by omega)] at this
          have h32 : (32 : UInt8).toNat = 32 := rfl
          omega
        show List.isPrefixOf [32] (digO (r.d.toNat / 10) :: (digO (r.d.toNat % 10) :: x)) = false
        simp [List.isPrefixOf]
        exact fun e => hd e.symm
      show (({ r0 with d := ((spdV (pad2 r.d ++ x)).1 : Int) } : Rd), (spdV (pad2 r.d ++ x)).2) = (({ r0 with d := r.d } : Rd), 2)
      rw [show spdV (pad2 r.d ++ x) = numV (pad2 r.d ++ x) 2 from by unfold spdV; rw [hp]; rfl, numV_of (k := 2) rfl rfl a, b, show (((r.d.toNat, 2) : Nat × Nat).1 : Int) = r.d from by show ((r.d.toNat : Nat) : Int) = r.d; omega]
    · have h1' : r.d < 10 := h1
      obtain ⟨a, b⟩ := one_all h0' h1'
      refine ⟨?_, by show (2 : Nat) ≠ 0; omega⟩
      have hn : numB (digO r.d.toNat :: x) 1 = true := by
        unfold numB
        rw [decide_eq_true (by simp), show (digO r.d.toNat :: x).take 1 = [digO r.d.toNat] from rfl, a]; rfl
      show (({ r0 with d := ((spdV (32 :: digO r.d.toNat :: x)).1 : Int) } : Rd), (spdV (32 :: digO r.d.toNat :: x)).2) = (({ r0 with d := r.d } : Rd), 2)
      rw [show spdV (32 :: digO r.d.toNat :: x) = (r.d.toNat, 2) from by
        unfold spdV
        rw [show Lib.hasPrefix (32 :: digO r.d.toNat :: x) [32] = true from by simp [Lib.hasPrefix, List.isPrefixOf], if_pos rfl, show (32 :: digO r.d.toNat :: x).drop 1 = digO r.d.toNat :: x from rfl, hn, if_pos rfl,
          show (digO r.d.toNat :: x).take 1 = [digO r.d.toNat] from rfl, b], show (((r.d.toNat, 2) : Nat × Nat).1 : Int) = r.d from by show ((r.d.toNat : Nat) : Int) = r.d; omega]
  · obtain ⟨k, hk, hv, rfl⟩ := h
    obtain ⟨a, b⟩ := lead_month k hk x
    have hv' : r.m = k := hv
    refine ⟨?_, by omega⟩
    show (({ r0 with m := ((leadL sMonths (sMonths.getD k [] ++ x)).1 : Int) } : Rd), (leadL sMonths (sMonths.getD k [] ++ x)).2) = (({ r0 with m := r.m } : Rd), _)
    rw [a, b, hv']
  · obtain ⟨h0, h1, rfl⟩ := h
    have h0' : 0 ≤ r.y := h0
    have h1' : r.y < 10000 := h1
    obtain ⟨a, b⟩ := pad4_all h0' h1'
    refine ⟨?_, by show (4 : Nat) ≠ 0; omega⟩
    show (({ r0 with y := ((numV (pad4 r.y ++ x) 4).1 : Int) } : Rd), (numV (pad4 r.y ++ x) 4).2) = (({ r0 with y := r.y } : Rd), 4)
    rw [numV_of (k := 4) rfl rfl a, b, show (((r.y.toNat, 4) : Nat × Nat).1 : Int) = r.y from by show ((r.y.toNat : Nat) : Int) = r.y; omega]
  · obtain ⟨h0, h1, rfl⟩ := h
    have h0' : nw - 99 ≤ r.y := h0
    have h1' : r.y ≤ nw := h1
    obtain ⟨a, b⟩ := pad2_all (n := r.y % 100) (by omega) (by omega)
    refine ⟨?_, by show (2 : Nat) ≠ 0; omega⟩
    show (({ r0 with y := nw - (nw - ((numV (pad2 (r.y % 100) ++ x) 2).1 : Int)) % 100 } : Rd), (numV (pad2 (r.y % 100) ++ x) 2).2) = (({ r0 with y := r.y } : Rd), 2)
    rw [numV_of (k := 2) rfl rfl a, b, show nw - (nw - ((((r.y % 100).toNat, 2) : Nat × Nat).1 : Int)) % 100 = r.y from by show nw - (nw - (((r.y % 100).toNat : Nat) : Int)) % 100 = r.y; omega]
  · obtain ⟨h0, h1, rfl⟩ := h
    have h0' : 0 ≤ r.h := h0
    have h1' : r.h < 100 := h1
    obtain ⟨a, b⟩ := pad2_all h0' h1'
    refine ⟨?_, by show (2 : Nat) ≠ 0; omega⟩
    show (({ r0 with h := ((numV (pad2 r.h ++ x) 2).1 : Int) } : Rd), (numV (pad2 r.h ++ x) 2).2) = (({ r0 with h := r.h } : Rd), 2)
    rw [numV_of (k := 2) rfl rfl a, b, show (((r.h.toNat, 2) : Nat × Nat).1 : Int) = r.h from by show ((r.h.toNat : Nat) : Int) = r.h; omega]
  · obtain ⟨h0, h1, rfl⟩ := h
    have h0' : 0 ≤ r.i := h0
    have h1' : r.i < 100 := h1
    obtain ⟨a, b⟩ := pad2_all h0' h1'
    refine ⟨?_, by show (2 : Nat) ≠ 0; omega⟩
    show (({ r0 with i := ((numV (pad2 r.i ++ x) 2).1 : Int) } : Rd), (numV (pad2 r.i ++ x) 2).2) = (({ r0 with i := r.i } : Rd), 2)
    rw [numV_of (k := 2) rfl rfl a, b, show (((r.i.toNat, 2) : Nat × Nat).1 : Int) = r.i from by show ((r.i.toNat : Nat) : Int) = r.i; omega]
  · obtain ⟨h0, h1, rfl⟩ := h
    have h0' : 0 ≤ r.s := h0
    have h1' : r.s < 100 := h1
    obtain ⟨a, b⟩ := pad2_all h0' h1'
    refine ⟨?_, by show (2 : Nat) ≠ 0; omega⟩
    show (({ r0 with s := ((numV (pad2 r.s ++ x) 2).1 : Int) } : Rd), (numV (pad2 r.s ++ x) 2).2) = (({ r0 with s := r.s } : Rd), 2)
    rw [numV_of (k := 2) rfl rfl a, b, show (((r.s.toNat, 2) : Nat × Nat).1 : Int) = r.s from by show ((r.s.toNat : Nat) : Int) = r.s; omega]
  · have e : takeL c (p ++ x) nw r0 = (r0, if Lib.hasPrefix (p ++ x) [c] then 1 else 0) := by
      unfold takeL
      rw [if_neg a1, if_neg a2, if_neg a3, if_neg a4, if_neg a5, if_neg a6, if_neg a7, if_neg a8, if_neg a9, if_neg a10]
    have hp : p = [c] := by
      unfold Rend at h
      rwa [if_neg a1, if_neg a2, if_neg a3, if_neg a4, if_neg a5, if_neg a6, if_neg a7, if_neg a8, if_neg a9, if_neg a10] at h
    have hf : fld c = 0 := by simp [fld, a1, a2, a3, a4, a5, a6, a7, a8, a9, a10]
    subst hp
    refine ⟨?_, by simp⟩
    rw [e, show Lib.hasPrefix ([c] ++ x) [c] = true from by simp [Lib.hasPrefix, List.isPrefixOf]]
    unfold updR
    rw [hf]; rfl
end Go.Proofs.YtdaiielhohdgiaaGreatDoor

/- Plain texts: which texts are dates, and which ticks. Nothing of the program is read here. -/
namespace Go.Proofs.YtdaiielhohdgiaaGreatDoor
theorem get_take {c : UInt8} {l : List UInt8} {nw : Int} {r : Rd} {k : Nat} (hk : fld c ≠ k) : getF k (takeL c l nw r).1 = getF k r := by
  rcases letter_cases c with rfl | rfl | rfl | rfl | rfl | rfl | rfl | rfl | rfl | rfl | ⟨a1, a2, a3, a4, a5, a6, a7, a8, a9, a10⟩
  case inr.inr.inr.inr.inr.inr.inr.inr.inr.inr =>
    unfold takeL
    rw [if_neg a1, if_neg a2, if_neg a3, if_neg a4, if_neg a5, if_neg a6, if_neg a7, if_neg a8, if_neg a9, if_neg a10]
  all_goals
    first
      | (have hk' : k ≠ 1 := fun e => hk e.symm)
      | (have hk' : k ≠ 2 := fun e => hk e.symm)
      | (have hk' : k ≠ 3 := fun e => hk e.symm)
      | (have hk' : k ≠ 4 := fun e => hk e.symm)
      | (have hk' : k ≠ 5 := fun e => hk e.symm)
      | (have hk' : k ≠ 6 := fun e => hk e.symm)
      | (have hk' : k ≠ 7 := fun e => hk e.symm)
    simp [takeL, getF, hk']
theorem runL_keep {nw : Int} {k : Nat} : ∀ (cs : List UInt8) (l : List UInt8) (r r' : Rd) (x : List UInt8), (∀ c ∈ cs, fld c ≠ k) → runL nw cs l r = some (r', x) → getF k r' = getF k r
  | [], l, r, r', x, _, h => by
    simp only [runL, Option.some.injEq, Prod.mk.injEq] at h
    rw [h.1]
  | c :: cs, l, r, r', x, hc, h => by
    rw [runL_cons] at h
    split at h
    · cases h
    · rw [runL_keep cs _ _ _ _ (fun c' hc' => hc c' (List.mem_cons_of_mem _ hc')) h]
      exact get_take (hc c List.mem_cons_self)
/-- no part is there twice -/
def noTwice : List UInt8 → Bool
  | [] => true
  | c :: cs => (fld c == 0 || cs.all fun c' => fld c' != fld c) && noTwice cs
theorem runL_sound {nw : Int} : ∀ (cs : List UInt8) (l : List UInt8) (r r' : Rd) (x : List UInt8), noTwice cs = true → runL nw cs l r = some (r', x) → ∃ p, l = p ++ x ∧ Rends nw cs r' p
  | [], l, r, r', x, _, h => by
    simp only [runL, Option.some.injEq, Prod.mk.injEq] at h
    exact ⟨[], by rw [h.2]; rfl, rfl⟩
  | c :: cs, l, r, r', x, hn, h => by
    rw [runL_cons] at h
    rw [noTwice, Bool.and_eq_true] at hn
    split at h
    · cases h
    · rename_i h0
      obtain ⟨p, hp, hR⟩ := runL_sound cs _ _ _ _ hn.2 h
      have hs := takeL_sound c l nw r h0
      have hle := take_le c l nw r
      refine ⟨l.take (takeL c l nw r).2 ++ p, ?_, _, p, rfl, ?_, hR⟩
      · rw [List.append_assoc, ← hp, List.take_append_drop]
      · have hg : getF (fld c) r' = getF (fld c) (takeL c l nw r).1 := by
          rcases (Bool.or_eq_true _ _).mp hn.1 with e | e
          · rw [beq_iff_eq.1 e]; rfl
          · refine runL_keep cs _ _ _ _ (fun c' hc' => ?_) h
            have := List.all_eq_true.1 e c' hc'
            simpa using this
        rw [hg]; exact hs
theorem runL_complete {nw : Int} (r : Rd) : ∀ (cs : List UInt8) (p x : List UInt8) (r0 : Rd), Rends nw cs r p → runL nw cs (p ++ x) r0 = some (cs.foldl (fun a c => updR c a r) r0, x)
  | [], p, x, r0, h => by
    have e : p = [] := h
    subst e; rfl
  | c :: cs, p, x, r0, h => by
    obtain ⟨p1, q, rfl, h1, h2⟩ := h
    obtain ⟨e, hne⟩ := takeL_complete c p1 (q ++ x) nw r0 r h1
    rw [runL_cons, List.append_assoc, e, if_neg hne]
    show runL nw cs ((p1 ++ (q ++ x)).drop p1.length) (updR c r0 r) = _
    rw [List.drop_left' rfl, runL_complete r cs q x _ h2]; rfl
theorem fold_fix (r : Rd) : fixF.foldl (fun a c => updR c a r) .zero = r := rfl
theorem fold_old (r : Rd) : oldF.foldl (fun a c => updR c a r) .zero = r := rfl
theorem fold_asc (r : Rd) : ascF.foldl (fun a c => updR c a r) .zero = r := rfl

/-- a date that may be, months from 0 on -/
def VD (y : Int) (m : Nat) (d h i s : Int) : Prop := 1970 ≤ y ∧ y ≤ 9999 ∧ m < 12 ∧ 1 ≤ d ∧ d ≤ domI y m ∧ 0 ≤ h ∧ h ≤ 23 ∧ 0 ≤ i ∧ i ≤ 59 ∧ 0 ≤ s ∧ s ≤ 59
def wdN (y : Int) (m : Nat) (d : Int) : Nat := (wdI (aheadI y + cumI y m + d - 1)).toNat
def tickD (y : Int) (m : Nat) (d h i s : Int) : Int := (aheadI y + cumI y m + d - 1) * 86400 + (h * 3600 + i * 60 + s)
theorem wdN_eq (y : Int) (m : Nat) (d : Int) : wdI (aheadI y + cumI y m + d - 1) = (wdN y m d : Int) := by
  have := wd_bd (aheadI y + cumI y m + d - 1)
  unfold wdN; omega
theorem wdN_lt (y : Int) (m : Nat) (d : Int) : wdN y m d < 7 := by
  have := wd_bd (aheadI y + cumI y m + d - 1)
  unfold wdN; omega
def F1 (l : List UInt8) (t : Int) : Prop := ∃ (y : Int) (m : Nat) (d h i s : Int), VD y m d h i s ∧ l = fixT (wdN y m d) m d y h i s ∧ t = tickD y m d h i s
def F2 (nw : Int) (l : List UInt8) (t : Int) : Prop := ∃ (y : Int) (m : Nat) (d h i s : Int), VD y m d h i s ∧ nw - 99 ≤ y ∧ y ≤ nw ∧ l = oldT (wdN y m d) m d y h i s ∧ t = tickD y m d h i s
def F3 (l : List UInt8) (t : Int) : Prop := ∃ (y : Int) (m : Nat) (d h i s : Int), VD y m d h i s ∧ (l = ascT (wdN y m d) m (pad2 d) y h i s ∨ (d < 10 ∧ l = ascT (wdN y m d) m [32, digO d.toNat] y h i s)) ∧ t = tickD y m d h i s
theorem formL_iff (nw : Int) (f l : List UInt8) (t : Int) : formL nw f l = some t ↔ ∃ r, runL nw f l .zero = some (r, []) ∧ validL r = true ∧ tickL r = t := by
  unfold formL
  constructor
  · intro h
    split at h
    · rename_i r hr
      split at h
      · rename_i hv
        exact ⟨r, hr, hv, Option.some.inj h⟩
      · cases h
    · cases h
  · rintro ⟨r, hr, hv, ht⟩
    rw [hr]
    simp only [hv, if_true, ht]
theorem valid_vd {r : Rd} {m : Nat} (hv : validL r = true) (hm : r.m = m) (m12 : m < 12) (h0 : 0 ≤ r.h) (i0 : 0 ≤ r.i) (s0 : 0 ≤ r.s) : VD r.y m r.d r.h r.i r.s ∧ r.wd = (wdN r.y m r.d : Int) ∧ tickL r = tickD r.y m r.d r.h r.i r.s := by
  obtain ⟨a, b, c, d, e, f, g, k⟩ := of_decide_eq_true hv
  rw [hm] at d k
  exact ⟨⟨a, b, m12, c, d, h0, e, i0, f, s0, g⟩, by rw [← wdN_eq]; exact k, by unfold tickL tickD; rw [hm]⟩
theorem vd_valid {y : Int} {m : Nat} {d h i s : Int} (H : VD y m d h i s) : validL ⟨wdN y m d, d, m, y, h, i, s⟩ = true := by
  obtain ⟨a, b, c, d, e, f, g, k, l, n, o⟩ := H
  exact decide_eq_true ⟨a, b, d, e, g, l, o, (wdN_eq _ _ _).symm⟩
set_option maxHeartbeats 1000000 in
theorem fix_iff (nw : Int) (l : List UInt8) (t : Int) : formL nw fixF l = some t ↔ F1 l t := by
  rw [formL_iff]
  constructor
  · rintro ⟨r, hr, hv, ht⟩
    obtain ⟨p, hl, H⟩ := runL_sound fixF l .zero r [] (by decide) hr
    rw [List.append_nil] at hl
    subst hl
    obtain ⟨p0, q0, rfl, h0, H⟩ := H
    obtain ⟨kw, kw7, ew, rfl⟩ : ∃ k : Nat, k < 7 ∧ r.wd = k ∧ p0 = sDays.getD k [] := h0
    obtain ⟨p1, q1, rfl, h1, H⟩ := H
    obtain rfl : p1 = [44] := h1
    obtain ⟨p2, q2, rfl, h2, H⟩ := H
    obtain rfl : p2 = [32] := h2
    obtain ⟨p3, q3, rfl, h3, H⟩ := H
    obtain ⟨d0, d1, rfl⟩ : 0 ≤ r.d ∧ r.d < 100 ∧ p3 = pad2 r.d := h3
    obtain ⟨p4, q4, rfl, h4, H⟩ := H
    obtain rfl : p4 = [32] := h4
    obtain ⟨p5, q5, rfl, h5, H⟩ := H
    obtain ⟨km, km12, em, rfl⟩ : ∃ k : Nat, k < 12 ∧ r.m = k ∧ p5 = sMonths.getD k [] := h5
    obtain ⟨p6, q6, rfl, h6, H⟩ := H
    obtain rfl : p6 = [32] := h6
    obtain ⟨p7, q7, rfl, h7, H⟩ := H
    obtain ⟨y0, y1, rfl⟩ : 0 ≤ r.y ∧ r.y < 10000 ∧ p7 = pad4 r.y := h7
    obtain ⟨p8, q8, rfl, h8, H⟩ := H
    obtain rfl : p8 = [32] := h8
    obtain ⟨p9, q9, rfl, h9, H⟩ := H
    obtain ⟨h0, h1, rfl⟩ : 0 ≤ r.h ∧ r.h < 100 ∧ p9 = pad2 r.h := h9
    obtain ⟨p10, q10, rfl, h10, H⟩ := H
    obtain rfl : p10 = [58] := h10
    obtain ⟨p11, q11, rfl, h11, H⟩ := H
    obtain ⟨i0, i1, rfl⟩ : 0 ≤ r.i ∧ r.i < 100 ∧ p11 = pad2 r.i := h11
    obtain ⟨p12, q12, rfl, h12, H⟩ := H
    obtain rfl : p12 = [58] := h12
    obtain ⟨p13, q13, rfl, h13, H⟩ := H
    obtain ⟨s0, s1, rfl⟩ : 0 ≤ r.s ∧ r.s < 100 ∧ p13 = pad2 r.s := h13
    obtain ⟨p14, q14, rfl, h14, H⟩ := H
    obtain rfl : p14 = [32] := h14
    obtain ⟨p15, q15, rfl, h15, H⟩ := H
    obtain rfl : p15 = [71] := h15
    obtain ⟨p16, q16, rfl, h16, H⟩ := H
    obtain rfl : p16 = [77] := h16
    obtain ⟨p17, q17, rfl, h17, H⟩ := H
    obtain rfl : p17 = [84] := h17
    obtain rfl : q17 = [] := H
    obtain ⟨V, W, T⟩ := valid_vd hv em km12 h0 i0 s0
    obtain rfl : kw = wdN r.y km r.d := by omega
    exact ⟨_, _, _, _, _, _, V, by simp only [fixT, List.append_assoc, List.append_nil]; rfl, by rw [← ht, T]⟩
  · rintro ⟨y, m, d, h, i, s, V, rfl, rfl⟩
    have C := runL_complete (nw := nw) ⟨wdN y m d, d, m, y, h, i, s⟩ fixF _ [] .zero ⟨_, _, rfl, ⟨_, wdN_lt _ _ _, rfl, rfl⟩, _, _, rfl, rfl, _, _, rfl, rfl, _, _, rfl, ⟨by have := V.2.2.2.1; show 0 ≤ d; omega, by have := V.2.2.2.2.1; have := (dom_bd y m).2; show d < 100; omega, rfl⟩, _, _, rfl, rfl, _, _, rfl, ⟨_, V.2.2.1, rfl, rfl⟩, _, _, rfl, rfl, _, _, rfl, ⟨by have := V.1; show 0 ≤ y; omega, by have := V.2.1; show y < 10000; omega, rfl⟩, _, _, rfl, rfl, _, _, rfl, ⟨V.2.2.2.2.2.1, by have := V.2.2.2.2.2.2.1; show h < 100; omega, rfl⟩, _, _, rfl, rfl, _, _, rfl, ⟨V.2.2.2.2.2.2.2.1, by have := V.2.2.2.2.2.2.2.2.1; show i < 100; omega, rfl⟩, _, _, rfl, rfl, _, _, rfl, ⟨V.2.2.2.2.2.2.2.2.2.1, by have := V.2.2.2.2.2.2.2.2.2.2; show s < 100; omega, rfl⟩, _, _, rfl, rfl, _, _, rfl, rfl, _, _, rfl, rfl, _, _, rfl, rfl, rfl⟩
    rw [fold_fix, List.append_nil] at C
    refine ⟨_, (congrArg (fun x => runL nw fixF x .zero) ?_).trans C, vd_valid V, rfl⟩
    simp only [fixT, List.append_assoc, List.append_nil]; rfl

set_option maxHeartbeats 1000000 in
theorem old_iff (nw : Int) (l : List UInt8) (t : Int) : formL nw oldF l = some t ↔ F2 nw l t := by
  rw [formL_iff]
  constructor
  · rintro ⟨r, hr, hv, ht⟩
    obtain ⟨p, hl, H⟩ := runL_sound oldF l .zero r [] (by decide) hr
    rw [List.append_nil] at hl
    subst hl
    obtain ⟨p0, q0, rfl, h0, H⟩ := H
    obtain ⟨kw, kw7, ew, rfl⟩ : ∃ k : Nat, k < 7 ∧ r.wd = k ∧ p0 = lDays.getD k [] := h0
    obtain ⟨p1, q1, rfl, h1, H⟩ := H
    obtain rfl : p1 = [44] := h1
    obtain ⟨p2, q2, rfl, h2, H⟩ := H
    obtain rfl : p2 = [32] := h2
    obtain ⟨p3, q3, rfl, h3, H⟩ := H
    obtain ⟨d0, d1, rfl⟩ : 0 ≤ r.d ∧ r.d < 100 ∧ p3 = pad2 r.d := h3
    obtain ⟨p4, q4, rfl, h4, H⟩ := H
    obtain rfl : p4 = [45] := h4
    obtain ⟨p5, q5, rfl, h5, H⟩ := H
    obtain ⟨km, km12, em, rfl⟩ : ∃ k : Nat, k < 12 ∧ r.m = k ∧ p5 = sMonths.getD k [] := h5
    obtain ⟨p6, q6, rfl, h6, H⟩ := H
    obtain rfl : p6 = [45] := h6
    obtain ⟨p7, q7, rfl, h7, H⟩ := H
    obtain ⟨y0, y1, rfl⟩ : nw - 99 ≤ r.y ∧ r.y ≤ nw ∧ p7 = pad2 (r.y % 100) := h7
    obtain ⟨p8, q8, rfl, h8, H⟩ := H
    obtain rfl : p8 = [32] := h8
    obtain ⟨p9, q9, rfl, h9, H⟩ := H
    obtain ⟨h0, h1, rfl⟩ : 0 ≤ r.h ∧ r.h < 100 ∧ p9 = pad2 r.h := h9
    obtain ⟨p10, q10, rfl, h10, H⟩ := H
    obtain rfl : p10 = [58] := h10
    obtain ⟨p11, q11, rfl, h11, H⟩ := H
    obtain ⟨i0, i1, rfl⟩ : 0 ≤ r.i ∧ r.i < 100 ∧ p11 = pad2 r.i := h11
    obtain ⟨p12, q12, rfl, h12, H⟩ := H
    obtain rfl : p12 = [58] := h12
    obtain ⟨p13, q13, rfl, h13, H⟩ := H
    obtain ⟨s0, s1, rfl⟩ : 0 ≤ r.s ∧ r.s < 100 ∧ p13 = pad2 r.s := h13
    obtain ⟨p14, q14, rfl, h14, H⟩ := H
    obtain rfl : p14 = [32] := h14
    obtain ⟨p15, q15, rfl, h15, H⟩ := H
    obtain rfl : p15 = [71] := h15
    obtain ⟨p16, q16, rfl, h16, H⟩ := H
    obtain rfl : p16 = [77] := h16
    obtain ⟨p17, q17, rfl, h17, H⟩ := H
    obtain rfl : p17 = [84] := h17
    obtain rfl : q17 = [] := H
    obtain ⟨V, W, T⟩ := valid_vd hv em km12 h0 i0 s0
    obtain rfl : kw = wdN r.y km r.d := by omega
    exact ⟨_, _, _, _, _, _, V, y0, y1, by simp only [oldT, clkT, pad2, List.append_assoc, List.append_nil]; rfl, by rw [← ht, T]⟩
  · rintro ⟨y, m, d, h, i, s, V, g0, g1, rfl, rfl⟩
    have C := runL_complete (nw := nw) ⟨wdN y m d, d, m, y, h, i, s⟩ oldF _ [] .zero ⟨_, _, rfl, ⟨_, wdN_lt _ _ _, rfl, rfl⟩, _, _, rfl, rfl, _, _, rfl, rfl, _, _, rfl, ⟨by have := V.2.2.2.1; show 0 ≤ d; omega, by have := V.2.2.2.2.1; have := (dom_bd y m).2; show d < 100; omega, rfl⟩, _, _, rfl, rfl, _, _, rfl, ⟨_, V.2.2.1, rfl, rfl⟩, _, _, rfl, rfl, _, _, rfl, ⟨g0, g1, rfl⟩, _, _, rfl, rfl, _, _, rfl, ⟨V.2.2.2.2.2.1, by have := V.2.2.2.2.2.2.1; show h < 100; omega, rfl⟩, _, _, rfl, rfl, _, _, rfl, ⟨V.2.2.2.2.2.2.2.1, by have := V.2.2.2.2.2.2.2.2.1; show i < 100; omega, rfl⟩, _, _, rfl, rfl, _, _, rfl, ⟨V.2.2.2.2.2.2.2.2.2.1, by have := V.2.2.2.2.2.2.2.2.2.2; show s < 100; omega, rfl⟩, _, _, rfl, rfl, _, _, rfl, rfl, _, _, rfl, rfl, _, _, rfl, rfl, rfl⟩
    rw [fold_old, List.append_nil] at C
    refine ⟨_, (congrArg (fun x => runL nw oldF x .zero) ?_).trans C, vd_valid V, rfl⟩
    simp only [oldT, clkT, pad2, List.append_assoc, List.append_nil]; rfl

set_option maxHeartbeats 1000000 in
theorem asc_iff (nw : Int) (l : List UInt8) (t : Int) : formL nw ascF l = some t ↔ F3 l t := by
  rw [formL_iff]
  constructor
  · rintro ⟨r, hr, hv, ht⟩
    obtain ⟨p, hl, H⟩ := runL_sound ascF l .zero r [] (by decide) hr
    rw [List.append_nil] at hl
    subst hl
    obtain ⟨p0, q0, rfl, h0, H⟩ := H
    obtain ⟨kw, kw7, ew, rfl⟩ : ∃ k : Nat, k < 7 ∧ r.wd = k ∧ p0 = sDays.getD k [] := h0
    obtain ⟨p1, q1, rfl, h1, H⟩ := H
    obtain rfl : p1 = [32] := h1
    obtain ⟨p2, q2, rfl, h2, H⟩ := H
    obtain ⟨km, km12, em, rfl⟩ : ∃ k : Nat, k < 12 ∧ r.m = k ∧ p2 = sMonths.getD k [] := h2
    obtain ⟨p3, q3, rfl, h3, H⟩ := H
    obtain rfl : p3 = [32] := h3
    obtain ⟨p4, q4, rfl, h4, H⟩ := H
    obtain ⟨d0, hd⟩ : 0 ≤ r.d ∧ ((r.d < 100 ∧ p4 = pad2 r.d) ∨ (r.d < 10 ∧ p4 = [32, digO r.d.toNat])) := h4
    obtain ⟨p5, q5, rfl, h5, H⟩ := H
    obtain rfl : p5 = [32] := h5
    obtain ⟨p6, q6, rfl, h6, H⟩ := H
    obtain ⟨h0, h1, rfl⟩ : 0 ≤ r.h ∧ r.h < 100 ∧ p6 = pad2 r.h := h6
    obtain ⟨p7, q7, rfl, h7, H⟩ := H
    obtain rfl : p7 = [58] := h7
    obtain ⟨p8, q8, rfl, h8, H⟩ := H
    obtain ⟨i0, i1, rfl⟩ : 0 ≤ r.i ∧ r.i < 100 ∧ p8 = pad2 r.i := h8
    obtain ⟨p9, q9, rfl, h9, H⟩ := H
    obtain rfl : p9 = [58] := h9
    obtain ⟨p10, q10, rfl, h10, H⟩ := H
    obtain ⟨s0, s1, rfl⟩ : 0 ≤ r.s ∧ r.s < 100 ∧ p10 = pad2 r.s := h10
    obtain ⟨p11, q11, rfl, h11, H⟩ := H
    obtain rfl : p11 = [32] := h11
    obtain ⟨p12, q12, rfl, h12, H⟩ := H
    obtain ⟨y0, y1, rfl⟩ : 0 ≤ r.y ∧ r.y < 10000 ∧ p12 = pad4 r.y := h12
    obtain rfl : q12 = [] := H
    obtain ⟨V, W, T⟩ := valid_vd hv em km12 h0 i0 s0
    obtain rfl : kw = wdN r.y km r.d := by omega
    rcases hd with ⟨d1, rfl⟩ | ⟨d1, rfl⟩
    · exact ⟨_, _, _, _, _, _, V, .inl (by simp only [ascT, clkT, pad2, List.append_assoc, List.append_nil]; rfl), by rw [← ht, T]⟩
    · exact ⟨_, _, _, _, _, _, V, .inr ⟨d1, by simp only [ascT, clkT, pad2, List.append_assoc, List.append_nil]; rfl⟩, by rw [← ht, T]⟩
  · rintro ⟨y, m, d, h, i, s, V, hd, rfl⟩
    rcases hd with rfl | ⟨d1, rfl⟩
    · have C := runL_complete (nw := nw) ⟨wdN y m d, d, m, y, h, i, s⟩ ascF _ [] .zero ⟨_, _, rfl, ⟨_, wdN_lt _ _ _, rfl, rfl⟩, _, _, rfl, rfl, _, _, rfl, ⟨_, V.2.2.1, rfl, rfl⟩, _, _, rfl, rfl, _, _, rfl, ⟨by have := V.2.2.2.1; show 0 ≤ d; omega, .inl ⟨by have := V.2.2.2.2.1; have := (dom_bd y m).2; show d < 100; omega, rfl⟩⟩, _, _, rfl, rfl, _, _, rfl, ⟨V.2.2.2.2.2.1, by have := V.2.2.2.2.2.2.1; show h < 100; omega, rfl⟩, _, _, rfl, rfl, _, _, rfl, ⟨V.2.2.2.2.2.2.2.1, by have := V.2.2.2.2.2.2.2.2.1; show i < 100; omega, rfl⟩, _, _, rfl, rfl, _, _, rfl, ⟨V.2.2.2.2.2.2.2.2.2.1, by have := V.2.2.2.2.2.2.2.2.2.2; show s < 100; omega, rfl⟩, _, _, rfl, rfl, _, _, rfl, ⟨by have := V.1; show 0 ≤ y; omega, by have := V.2.1; show y < 10000; omega, rfl⟩, rfl⟩
      rw [fold_asc, List.append_nil] at C
      refine ⟨_, (congrArg (fun x => runL nw ascF x .zero) ?_).trans C, vd_valid V, rfl⟩
      simp only [ascT, clkT, pad2, List.append_assoc, List.append_nil]; rfl
    · have C := runL_complete (nw := nw) ⟨wdN y m d, d, m, y, h, i, s⟩ ascF _ [] .zero ⟨_, _, rfl, ⟨_, wdN_lt _ _ _, rfl, rfl⟩, _, _, rfl, rfl, _, _, rfl, ⟨_, V.2.2.1, rfl, rfl⟩, _, _, rfl, rfl, _, _, rfl, ⟨by have := V.2.2.2.1; show 0 ≤ d; omega, .inr ⟨d1, rfl⟩⟩, _, _, rfl, rfl, _, _, rfl, ⟨V.2.2.2.2.2.1, by have := V.2.2.2.2.2.2.1; show h < 100; omega, rfl⟩, _, _, rfl, rfl, _, _, rfl, ⟨V.2.2.2.2.2.2.2.1, by have := V.2.2.2.2.2.2.2.2.1; show i < 100; omega, rfl⟩, _, _, rfl, rfl, _, _, rfl, ⟨V.2.2.2.2.2.2.2.2.2.1, by have := V.2.2.2.2.2.2.2.2.2.2; show s < 100; omega, rfl⟩, _, _, rfl, rfl, _, _, rfl, ⟨by have := V.1; show 0 ≤ y; omega, by have := V.2.1; show y < 10000; omega, rfl⟩, rfl⟩
      rw [fold_asc, List.append_nil] at C
      refine ⟨_, (congrArg (fun x => runL nw ascF x .zero) ?_).trans C, vd_valid V, rfl⟩
      simp only [ascT, clkT, pad2, List.append_assoc, List.append_nil]; rfl

theorem parseL_iff (nw : Int) (l : List UInt8) (t : Int) : parseDL nw l = some t ↔ F1 l t ∨ (¬ (∃ u, F1 l u) ∧ F2 nw l t) ∨ (¬ (∃ u, F1 l u) ∧ ¬ (∃ u, F2 nw l u) ∧ F3 l t) := by
  unfold parseDL
  cases h1 : formL nw fixF l with
  | some a =>
    have A := (fix_iff nw l a).1 h1
    simp only [Option.some_or, Option.some.injEq]
    constructor
    · rintro rfl; exact .inl A
    · rintro (h | ⟨h, _⟩ | ⟨h, _⟩)
      · exact Option.some.inj (h1.symm.trans ((fix_iff nw l t).2 h))
      · exact absurd ⟨a, A⟩ h
      · exact absurd ⟨a, A⟩ h
  | none =>
    have N1 : ¬ ∃ u, F1 l u := fun ⟨u, hu⟩ => by rw [(fix_iff nw l u).2 hu] at h1; cases h1
    cases h2 : formL nw oldF l with
    | some a =>
      have A := (old_iff nw l a).1 h2
      simp only [Option.none_or, Option.some_or, Option.some.injEq]
      constructor
      · rintro rfl; exact .inr (.inl ⟨N1, A⟩)
      · rintro (h | ⟨_, h⟩ | ⟨_, h, _⟩)
        · exact absurd ⟨t, h⟩ N1
        · exact Option.some.inj (h2.symm.trans ((old_iff nw l t).2 h))
        · exact absurd ⟨a, A⟩ h
    | none =>
      have N2 : ¬ ∃ u, F2 nw l u := fun ⟨u, hu⟩ => by rw [(old_iff nw l u).2 hu] at h2; cases h2
      simp only [Option.none_or, asc_iff]
      constructor
      · exact fun h => .inr (.inr ⟨N1, N2, h⟩)
      · rintro (h | ⟨_, h⟩ | ⟨_, _, h⟩)
        · exact absurd ⟨t, h⟩ N1
        · exact absurd ⟨t, h⟩ N2
        · exact h
end Go.Proofs.YtdaiielhohdgiaaGreatDoor

/- Plain texts: the document's reading of a text, and that it is the program's. Nothing of the program is read here. -/
namespace Go.Proofs.YtdaiielhohdgiaaGreatDoor
/-- a date that may be, months from 1 on -/
def mayD (y m d h i s : Int) : Bool := decide (1970 ≤ y ∧ y ≤ 9999 ∧ 1 ≤ m ∧ m ≤ 12 ∧ 1 ≤ d ∧ d ≤ domI y (m - 1) ∧ 0 ≤ h ∧ h ≤ 23 ∧ 0 ≤ i ∧ i ≤ 59 ∧ 0 ≤ s ∧ s ≤ 59)
/-- a date that is written just as the text -/
def hitB (y : Int) (m : Nat) (d h i s : Int) (t l : List UInt8) : Bool := mayD y m d h i s && (t == l)
def tickM (y : Int) (m : Nat) (d h i s : Int) : Int := tickD y (m - 1) d h i s
def txtA (y : Int) (m : Nat) (d h i s : Int) : List UInt8 := fixT (wdN y (m - 1) d) (m - 1) d y h i s
def txtB (y : Int) (m : Nat) (d h i s : Int) : List UInt8 := oldT (wdN y (m - 1) d) (m - 1) d y h i s
def txtC (y : Int) (m : Nat) (d h i s : Int) : List UInt8 := ascT (wdN y (m - 1) d) (m - 1) (pad2 d) y h i s
def txtD (y : Int) (m : Nat) (d h i s : Int) : List UInt8 := ascT (wdN y (m - 1) d) (m - 1) [32, digO (d.toNat % 10)] y h i s
/-- where the first comma stands; else the length -/
def commaAt (l : List UInt8) : Nat := l.findIdx (· == 44)
def rA (l : List UInt8) : Bool := hitB (numAt l 12 4) (monthAt l 8) (numAt l 5 2) (numAt l 17 2) (numAt l 20 2) (numAt l 23 2) (txtA (numAt l 12 4) (monthAt l 8) (numAt l 5 2) (numAt l 17 2) (numAt l 20 2) (numAt l 23 2)) l
def tA (l : List UInt8) : Int := tickM (numAt l 12 4) (monthAt l 8) (numAt l 5 2) (numAt l 17 2) (numAt l 20 2) (numAt l 23 2)
def rBa (nw : Int) (l : List UInt8) (a : Nat) : Bool := hitB (nearI nw (numAt l (a + 9) 2)) (monthAt l (a + 5)) (numAt l (a + 2) 2) (numAt l (a + 12) 2) (numAt l (a + 12 + 3) 2) (numAt l (a + 12 + 6) 2) (txtB (nearI nw (numAt l (a + 9) 2)) (monthAt l (a + 5)) (numAt l (a + 2) 2) (numAt l (a + 12) 2) (numAt l (a + 12 + 3) 2) (numAt l (a + 12 + 6) 2)) l
def tBa (nw : Int) (l : List UInt8) (a : Nat) : Int := tickM (nearI nw (numAt l (a + 9) 2)) (monthAt l (a + 5)) (numAt l (a + 2) 2) (numAt l (a + 12) 2) (numAt l (a + 12 + 3) 2) (numAt l (a + 12 + 6) 2)
def rC (l : List UInt8) : Bool := hitB (numAt l 20 4) (monthAt l 4) (numAt l 8 2) (numAt l 11 2) (numAt l 14 2) (numAt l 17 2) (txtC (numAt l 20 4) (monthAt l 4) (numAt l 8 2) (numAt l 11 2) (numAt l 14 2) (numAt l 17 2)) l
def tC (l : List UInt8) : Int := tickM (numAt l 20 4) (monthAt l 4) (numAt l 8 2) (numAt l 11 2) (numAt l 14 2) (numAt l 17 2)
def rD (l : List UInt8) : Bool := hitB (numAt l 20 4) (monthAt l 4) (numAt l 9 1) (numAt l 11 2) (numAt l 14 2) (numAt l 17 2) (txtD (numAt l 20 4) (monthAt l 4) (numAt l 9 1) (numAt l 11 2) (numAt l 14 2) (numAt l 17 2)) l
def tD (l : List UInt8) : Int := tickM (numAt l 20 4) (monthAt l 4) (numAt l 9 1) (numAt l 11 2) (numAt l 14 2) (numAt l 17 2)
def rparseL (nw : Int) (l : List UInt8) : Option Int :=
  if rA l then some (tA l) else if (decide (0 ≤ numAt l (commaAt l + 9) 2) && rBa nw l (commaAt l)) then some (tBa nw l (commaAt l)) else if rC l then some (tC l) else if rD l then some (tD l) else none

theorem mayD_bd {y : Int} {m : Nat} {d h i s : Int} (H : mayD y m d h i s = true) : ∃ m0 : Nat, m = m0 + 1 ∧ VD y m0 d h i s := by
  obtain ⟨a, b, c, d', e, f, g, k, l, n, o, p⟩ := of_decide_eq_true H
  refine ⟨m - 1, by omega, a, b, by omega, e, ?_, g, k, l, n, o, p⟩
  rw [show (((m - 1 : Nat) : Int)) = (m : Int) - 1 from by omega]; exact f
theorem vd_mayD {y : Int} {m : Nat} {d h i s : Int} (H : VD y m d h i s) : mayD y ((m + 1 : Nat) : Int) d h i s = true := by
  obtain ⟨a, b, c, d', e, f, g, k, l, n, o⟩ := H
  refine decide_eq_true ⟨a, b, by omega, by omega, d', ?_, f, g, k, l, n, o⟩
  rw [show ((m + 1 : Nat) : Int) - 1 = (m : Int) from by omega]; exact e
theorem hit_vd {y : Int} {m : Nat} {d h i s : Int} {t l : List UInt8} (H : hitB y m d h i s t l = true) : VD y (m - 1) d h i s ∧ l = t := by
  unfold hitB at H
  rw [Bool.and_eq_true, beq_iff_eq] at H
  obtain ⟨m0, rfl, V⟩ := mayD_bd H.1
  exact ⟨V, H.2.symm⟩
theorem numAt_of {l p x : List UInt8} {a k : Nat} (h : l.drop a = p ++ x) (hp : p.length = k) (hd : p.all digC = true) : numAt l a k = num p := by
  have h2 : (p ++ x).take k = p := by rw [← hp]; simp
  have hb : numB (l.drop a) k = true := by
    unfold numB
    rw [h, h2, hd, decide_eq_true (by simp; omega)]; rfl
  rw [numAt_yes hb, h, h2]
theorem numAt_pad2 {l x : List UInt8} {a : Nat} {n : Int} (h : l.drop a = pad2 n ++ x) (h0 : 0 ≤ n) (h1 : n < 100) : numAt l a 2 = n := by
  obtain ⟨p, q⟩ := pad2_all h0 h1
  rw [numAt_of (k := 2) h rfl p, q]; omega
theorem numAt_pad4 {l x : List UInt8} {a : Nat} {n : Int} (h : l.drop a = pad4 n ++ x) (h0 : 0 ≤ n) (h1 : n < 10000) : numAt l a 4 = n := by
  obtain ⟨p, q⟩ := pad4_all h0 h1
  rw [numAt_of (k := 4) h rfl p, q]; omega
theorem numAt_one {l x : List UInt8} {a : Nat} {n : Int} (h : l.drop a = [digO n.toNat] ++ x) (h0 : 0 ≤ n) (h1 : n < 10) : numAt l a 1 = n := by
  obtain ⟨p, q⟩ := one_all h0 h1
  rw [numAt_of (k := 1) h rfl p, q]; omega
theorem monthAt_of {l x : List UInt8} {a m : Nat} (h : l.drop a = sMonths.getD m [] ++ x) (hm : m < 12) : monthAt l a = m + 1 := by
  obtain ⟨p, q⟩ := lead_month m hm x
  unfold monthAt
  rw [h, p]; rfl
theorem VD.bd {y : Int} {m : Nat} {d h i s : Int} (V : VD y m d h i s) : 0 ≤ y ∧ y < 10000 ∧ 0 ≤ d ∧ d < 100 ∧ h < 100 ∧ i < 100 ∧ s < 100 := by
  obtain ⟨a, b, c, d', e, f, g, k, l, n, o⟩ := V
  have := (dom_bd y m).2
  omega

theorem rA_iff (l : List UInt8) (t : Int) : rA l = true ∧ tA l = t ↔ F1 l t := by
  constructor
  · rintro ⟨h, rfl⟩
    obtain ⟨V, e⟩ := hit_vd h
    exact ⟨_, _, _, _, _, _, V, e, rfl⟩
  · rintro ⟨y, m, d, h, i, s, V, e, rfl⟩
    obtain ⟨v1, v2, v3, v4, v5, v6, v7⟩ := V.bd
    obtain ⟨a, b, c, hd⟩ := day_three _ (wdN_lt y m d)
    obtain ⟨p, q, r, hm⟩ := month_three m V.2.2.1
    have e2 : l = [a, b, c] ++ [44, 32] ++ pad2 d ++ [32] ++ [p, q, r] ++ [32] ++ pad4 y ++ [32] ++ pad2 h ++ [58] ++ pad2 i ++ [58] ++ pad2 s ++ [32, 71, 77, 84] := by rw [e]; unfold fixT; rw [hd, hm]
    have n1 : numAt l 12 4 = y := numAt_pad4 (x := [32] ++ pad2 h ++ [58] ++ pad2 i ++ [58] ++ pad2 s ++ [32, 71, 77, 84]) (by rw [e2]; rfl) v1 v2
    have n2 : monthAt l 8 = m + 1 := monthAt_of (x := [32] ++ pad4 y ++ [32] ++ pad2 h ++ [58] ++ pad2 i ++ [58] ++ pad2 s ++ [32, 71, 77, 84]) (by rw [e2, hm]; rfl) V.2.2.1
    have n3 : numAt l 5 2 = d := numAt_pad2 (x := [32] ++ [p, q, r] ++ [32] ++ pad4 y ++ [32] ++ pad2 h ++ [58] ++ pad2 i ++ [58] ++ pad2 s ++ [32, 71, 77, 84]) (by rw [e2]; rfl) v3 v4
    have n4 : numAt l 17 2 = h := numAt_pad2 (x := [58] ++ pad2 i ++ [58] ++ pad2 s ++ [32, 71, 77, 84]) (by rw [e2]; rfl) V.2.2.2.2.2.1 v5
    have n5 : numAt l 20 2 = i := numAt_pad2 (x := [58] ++ pad2 s ++ [32, 71, 77, 84]) (by rw [e2]; rfl) V.2.2.2.2.2.2.2.1 v6
    have n6 : numAt l 23 2 = s := numAt_pad2 (x := [32, 71, 77, 84]) (by rw [e2]; rfl) V.2.2.2.2.2.2.2.2.2.1 v7
    unfold rA tA
    rw [n1, n2, n3, n4, n5, n6]
    refine ⟨?_, rfl⟩
    unfold hitB
    rw [vd_mayD V, e]
    simp [txtA]
theorem comma_long (k : Nat) (h : k < 7) (x : List UInt8) : commaAt (lDays.getD k [] ++ (44 :: x)) = (lDays.getD k []).length := by
  match k, h with
  | 0, _ | 1, _ | 2, _ | 3, _ | 4, _ | 5, _ | 6, _ => rfl
theorem drop_past (n z : List UInt8) (c : Nat) : (n ++ z).drop (n.length + c) = z.drop c := by
  rw [← List.drop_drop, List.drop_left' rfl]
theorem rB_iff (nw : Int) (l : List UInt8) (t : Int) : (decide (0 ≤ numAt l (commaAt l + 9) 2) && rBa nw l (commaAt l)) = true ∧ tBa nw l (commaAt l) = t ↔ F2 nw l t := by
  constructor
  · rintro ⟨h, rfl⟩
    rw [Bool.and_eq_true] at h
    obtain ⟨V, e⟩ := hit_vd h.2
    exact ⟨_, _, _, _, _, _, V, by unfold nearI; omega, by unfold nearI; omega, e, rfl⟩
  · rintro ⟨y, m, d, h, i, s, V, g0, g1, e, rfl⟩
    obtain ⟨v1, v2, v3, v4, v5, v6, v7⟩ := V.bd
    obtain ⟨p, q, r, hm⟩ := month_three m V.2.2.1
    have e2 : l = lDays.getD (wdN y m d) [] ++ (44 :: 32 :: (pad2 d ++ (45 :: p :: q :: r :: 45 :: (pad2 (y % 100) ++ (32 :: (pad2 h ++ (58 :: (pad2 i ++ (58 :: (pad2 s ++ [32, 71, 77, 84])))))))))) := by
      rw [e]; unfold oldT clkT; rw [hm]
      simp only [List.append_assoc, pad2]; rfl
    have hc : commaAt l = (lDays.getD (wdN y m d) []).length := by rw [e2]; exact comma_long _ (wdN_lt y m d) _
    rw [hc]
    obtain ⟨n, hn⟩ : ∃ n, lDays.getD (wdN y m d) [] = n := ⟨_, rfl⟩
    rw [hn] at e2 ⊢
    have dr : ∀ c, l.drop (n.length + c) = (44 :: 32 :: (pad2 d ++ (45 :: p :: q :: r :: 45 :: (pad2 (y % 100) ++ (32 :: (pad2 h ++ (58 :: (pad2 i ++ (58 :: (pad2 s ++ [32, 71, 77, 84])))))))))).drop c := fun c => by rw [e2]; exact drop_past _ _ _
    have n1 : numAt l (n.length + 9) 2 = y % 100 := numAt_pad2 (x := 32 :: (pad2 h ++ (58 :: (pad2 i ++ (58 :: (pad2 s ++ [32, 71, 77, 84])))))) (by rw [dr]; rfl) (by omega) (by omega)
    have n2 : monthAt l (n.length + 5) = m + 1 := monthAt_of (x := 45 :: (pad2 (y % 100) ++ (32 :: (pad2 h ++ (58 :: (pad2 i ++ (58 :: (pad2 s ++ [32, 71, 77, 84])))))))) (by rw [dr, hm]; rfl) V.2.2.1
    have n3 : numAt l (n.length + 2) 2 = d := numAt_pad2 (x := 45 :: p :: q :: r :: 45 :: (pad2 (y % 100) ++ (32 :: (pad2 h ++ (58 :: (pad2 i ++ (58 :: (pad2 s ++ [32, 71, 77, 84])))))))) (by rw [dr]; rfl) v3 v4
    have n4 : numAt l (n.length + 12) 2 = h := numAt_pad2 (x := 58 :: (pad2 i ++ (58 :: (pad2 s ++ [32, 71, 77, 84])))) (by rw [dr]; rfl) V.2.2.2.2.2.1 v5
    have n5 : numAt l (n.length + 12 + 3) 2 = i := numAt_pad2 (x := 58 :: (pad2 s ++ [32, 71, 77, 84])) (by rw [Nat.add_assoc, dr]; rfl) V.2.2.2.2.2.2.2.1 v6
    have n6 : numAt l (n.length + 12 + 6) 2 = s := numAt_pad2 (x := [32, 71, 77, 84]) (by rw [Nat.add_assoc, dr]; rfl) V.2.2.2.2.2.2.2.2.2.1 v7
    unfold rBa tBa
    rw [n1, n2, n3, n4, n5, n6, show nearI nw (y % 100) = y from by unfold nearI; omega]
    refine ⟨?_, rfl⟩
    unfold hitB
    rw [vd_mayD V, decide_eq_true (by omega), e]
    simp [txtB]
theorem rC_sound (l : List UInt8) (h : rC l = true) : F3 l (tC l) := by
  obtain ⟨V, e⟩ := hit_vd h
  exact ⟨_, _, _, _, _, _, V, .inl e, rfl⟩
theorem numAt1_bd (l : List UInt8) (a : Nat) : numAt l a 1 < 10 := by
  unfold numAt
  split
  · rename_i h
    unfold numB at h
    rw [Bool.and_eq_true] at h
    have h1 := of_decide_eq_true h.1
    have := (of_one h.2 (by rw [List.length_take]; omega)).2
    omega
  · omega
theorem rD_sound (l : List UInt8) (h : rD l = true) : F3 l (tD l) := by
  obtain ⟨V, e⟩ := hit_vd h
  have h9 := numAt1_bd l 9
  have h0 := V.2.2.2.1
  exact ⟨_, _, _, _, _, _, V, .inr ⟨h9, e.trans (by unfold txtD; rw [Nat.mod_eq_of_lt (by omega)])⟩, rfl⟩
theorem rCD_of (l : List UInt8) (t : Int) (H : F3 l t) : (rC l = true ∧ tC l = t) ∨ (rC l = false ∧ rD l = true ∧ tD l = t) := by
  obtain ⟨y, m, d, h, i, s, V, e, rfl⟩ := H
  obtain ⟨v1, v2, v3, v4, v5, v6, v7⟩ := V.bd
  obtain ⟨a, b, c, hd⟩ := day_three _ (wdN_lt y m d)
  obtain ⟨p, q, r, hm⟩ := month_three m V.2.2.1
  have main : ∀ dd : List UInt8, dd.length = 2 → l = ascT (wdN y m d) m dd y h i s → numAt l 20 4 = y ∧ monthAt l 4 = m + 1 ∧ numAt l 11 2 = h ∧ numAt l 14 2 = i ∧ numAt l 17 2 = s ∧ l.drop 8 = dd ++ ([32] ++ pad2 h ++ [58] ++ pad2 i ++ [58] ++ pad2 s ++ [32] ++ pad4 y) := by
    intro dd h2 e
    match dd, h2 with
    | [d1, d2], _ =>
    have e2 : l = [a, b, c] ++ [32] ++ [p, q, r] ++ [32] ++ [d1, d2] ++ [32] ++ pad2 h ++ [58] ++ pad2 i ++ [58] ++ pad2 s ++ [32] ++ pad4 y := by
      rw [e]; unfold ascT clkT; rw [hd, hm]
      simp only [List.append_assoc, pad2]; rfl
    exact ⟨numAt_pad4 (x := []) (by rw [e2]; rfl) v1 v2, monthAt_of (x := [32] ++ [d1, d2] ++ [32] ++ pad2 h ++ [58] ++ pad2 i ++ [58] ++ pad2 s ++ [32] ++ pad4 y) (by rw [e2, hm]; rfl) V.2.2.1,
      numAt_pad2 (x := [58] ++ pad2 i ++ [58] ++ pad2 s ++ [32] ++ pad4 y) (by rw [e2]; rfl) V.2.2.2.2.2.1 v5, numAt_pad2 (x := [58] ++ pad2 s ++ [32] ++ pad4 y) (by rw [e2]; rfl) V.2.2.2.2.2.2.2.1 v6,
      numAt_pad2 (x := [32] ++ pad4 y) (by rw [e2]; rfl) V.2.2.2.2.2.2.2.2.2.1 v7, by rw [e2]; rfl⟩
  rcases e with e | ⟨d1, e⟩
  · obtain ⟨n1, n2, n4, n5, n6, n8⟩ := main _ rfl e
    have n3 : numAt l 8 2 = d := numAt_pad2 n8 v3 v4
    refine .inl ?_
    unfold rC tC
    rw [n1, n2, n3, n4, n5, n6]
    refine ⟨?_, rfl⟩
    unfold hitB
    rw [vd_mayD V, e]
    simp [txtC]
  · obtain ⟨n1, n2, n4, n5, n6, n8⟩ := main _ rfl e
    have n9 : l.drop 9 = [digO d.toNat] ++ ([32] ++ pad2 h ++ [58] ++ pad2 i ++ [58] ++ pad2 s ++ [32] ++ pad4 y) := by
      rw [show (9 : Nat) = 8 + 1 from rfl, ← List.drop_drop, n8]; rfl
    have n3 : numAt l 9 1 = d := numAt_one n9 v3 d1
    have n8' : numAt l 8 2 = -1 := by
      refine numAt_no ?_
      unfold numB
      rw [n8]
      have : digC 32 = false := by decide
      simp [this]
    refine .inr ⟨?_, ?_⟩
    · unfold rC hitB
      rw [n8']
      have : mayD (numAt l 20 4) (monthAt l 4) (-1) (numAt l 11 2) (numAt l 14 2) (numAt l 17 2) = false := by
        unfold mayD; refine decide_eq_false (fun h => ?_); have := h.2.2.2.2.1; omega
      rw [this]; rfl
    · unfold rD tD
      rw [n1, n2, n3, n4, n5, n6]
      refine ⟨?_, rfl⟩
      unfold hitB
      have h0 := V.2.2.2.1
      rw [vd_mayD V, e]
      simp [txtD, Nat.mod_eq_of_lt (show d.toNat < 10 by omega)]
theorem rparse_eq (nw : Int) (l : List UInt8) : rparseL nw l = parseDL nw l := by
  have key : ∀ t, rparseL nw l = some t → parseDL nw l = some t := by
    intro t h
    rw [parseL_iff]
    unfold rparseL at h
    split at h
    · rename_i hA
      exact .inl ((rA_iff l t).1 ⟨hA, Option.some.inj h⟩)
    · rename_i hA
      have N1 : ¬ ∃ u, F1 l u := fun ⟨u, hu⟩ => hA ((rA_iff l u).2 hu).1
      split at h
      · rename_i hB
        exact .inr (.inl ⟨N1, (rB_iff nw l t).1 ⟨hB, Option.some.inj h⟩⟩)
      · rename_i hB
        have N2 : ¬ ∃ u, F2 nw l u := fun ⟨u, hu⟩ => hB ((rB_iff nw l u).2 hu).1
        split at h
        · rename_i hC
          have := rC_sound l hC
          rw [Option.some.inj h] at this
          exact .inr (.inr ⟨N1, N2, this⟩)
        · split at h
          · rename_i hD
            have := rD_sound l hD
            rw [Option.some.inj h] at this
            exact .inr (.inr ⟨N1, N2, this⟩)
          · cases h
  cases hr : rparseL nw l with
  | some t => exact (key t hr).symm
  | none =>
    cases hp : parseDL nw l with
    | none => rfl
    | some t =>
      exfalso
      rw [parseL_iff] at hp
      unfold rparseL at hr
      split at hr
      · cases hr
      · rename_i hA
        split at hr
        · cases hr
        · rename_i hB
          split at hr
          · cases hr
          · rename_i hC
            split at hr
            · cases hr
            · rename_i hD
              rcases hp with h | ⟨_, h⟩ | ⟨_, _, h⟩
              · exact hA ((rA_iff l t).2 h).1
              · exact hB ((rB_iff nw l t).2 h).1
              · rcases rCD_of l t h with ⟨h1, _⟩ | ⟨_, h1, _⟩
                · exact hC h1
                · exact hD h1
end Go.Proofs.YtdaiielhohdgiaaGreatDoor
