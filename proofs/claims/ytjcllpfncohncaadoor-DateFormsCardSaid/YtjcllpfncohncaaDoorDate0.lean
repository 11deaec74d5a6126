/- Plain numbers: the calendar, as the date layer has it. Nothing of the program is read here. -/
import Derived.Lib.Strings
namespace Go.Proofs.YtjcllpfncohncaaDoor
/-- how many years from 1 up to y, without it, have a Feb 29 -/
def leapsI (y : Int) : Int := (y - 1) / 4 - (y - 1) / 100 + (y - 1) / 400
/-- 1 if y has a Feb 29, else 0 -/
def lpI (y : Int) : Int := leapsI (y + 1) - leapsI y
/-- days from Jan 1, 1970 to that of y -/
def aheadI (y : Int) : Int := 365 * (y - 1970) + leapsI y - 477
/-- days of a month, from 0 on -/
def domI (y m : Int) : Int := if m = 1 then 28 + lpI y else if m = 3 ∨ m = 5 ∨ m = 8 ∨ m = 10 then 30 else 31
def cum0 (m : Int) : Int := if m ≤ 0 then 0 else if m = 1 then 31 else if m = 2 then 59 else if m = 3 then 90 else if m = 4 then 120 else if m = 5 then 151 else if m = 6 then 181 else if m = 7 then 212 else if m = 8 then 243 else if m = 9 then 273 else if m = 10 then 304 else if m = 11 then 334 else 365
/-- days of the months ahead of m -/
def cumI (y m : Int) : Int := cum0 m + if 2 ≤ m then lpI y else 0
theorem leaps_1970 : leapsI 1970 = 477 := by decide
theorem lp_bd (y : Int) : 0 ≤ lpI y ∧ lpI y ≤ 1 := by unfold lpI leapsI; omega
theorem ahead_succ (y : Int) : aheadI (y + 1) = aheadI y + 365 + lpI y := by unfold aheadI lpI; omega
theorem ahead_1970 : aheadI 1970 = 0 := by decide
theorem ahead_10000 : aheadI 10000 = 2932897 := by decide
theorem ahead_lo (y : Int) (h : 1970 ≤ y) : 365 * (y - 1970) ≤ aheadI y := by unfold aheadI leapsI; omega
theorem ahead_hi (y : Int) (_h : 1970 ≤ y) : aheadI y ≤ 366 * (y - 1970) := by unfold aheadI leapsI; omega
theorem ahead_mono {a b : Int} (h : a < b) : aheadI (a + 1) ≤ aheadI b := by unfold aheadI leapsI; omega
theorem dom_bd (y m : Int) : 28 ≤ domI y m ∧ domI y m ≤ 31 := by
  have := lp_bd y
  unfold domI; split
  · omega
  · split <;> omega
theorem month_cases {m : Int} (h0 : 0 ≤ m) (h1 : m ≤ 11) : m = 0 ∨ m = 1 ∨ m = 2 ∨ m = 3 ∨ m = 4 ∨ m = 5 ∨ m = 6 ∨ m = 7 ∨ m = 8 ∨ m = 9 ∨ m = 10 ∨ m = 11 := by omega
theorem cum_succ (y : Int) {m : Int} (h0 : 0 ≤ m) (h1 : m ≤ 11) : cumI y (m + 1) = cumI y m + domI y m := by
  rcases month_cases h0 h1 with rfl | rfl | rfl | rfl | rfl | rfl | rfl | rfl | rfl | rfl | rfl | rfl <;> simp [cumI, cum0, domI] <;> omega
theorem cum_zero (y : Int) : cumI y 0 = 0 := by simp [cumI, cum0]
theorem cum_12 (y : Int) : cumI y 12 = 365 + lpI y := by simp [cumI, cum0]
theorem cum_bd (y : Int) {m : Int} (h0 : 0 ≤ m) (h1 : m ≤ 12) : 0 ≤ cumI y m ∧ cumI y m ≤ 365 + lpI y := by
  have := lp_bd y
  rcases Int.lt_or_le m 12 with h | h
  · rcases month_cases h0 (by omega) with rfl | rfl | rfl | rfl | rfl | rfl | rfl | rfl | rfl | rfl | rfl | rfl <;> simp [cumI, cum0] <;> omega
  · obtain rfl : m = 12 := by omega
    rw [cum_12]; omega
theorem cum_mono (y : Int) {m k : Int} (h0 : 0 ≤ m) (hmk : m < k) (h1 : k ≤ 12) : cumI y (m + 1) ≤ cumI y k := by
  have h : ∀ n : Nat, m + 1 + n ≤ 12 → cumI y (m + 1) ≤ cumI y (m + 1 + n) := by
    intro n
    induction n with
    | zero => intro _; simp
    | succ n ih =>
      intro hn
      have h2 := ih (by omega)
      have h3 := cum_succ y (m := m + 1 + n) (by omega) (by omega)
      have h4 := dom_bd y (m + 1 + n)
      rw [show m + 1 + ((n + 1 : Nat) : Int) = m + 1 + n + 1 from by omega]
      omega
  have := h (k - (m + 1)).toNat (by omega)
  rwa [show m + 1 + ((k - (m + 1)).toNat : Int) = k from by omega] at this

/-- day n (0: Jan 1, 1970) is day d of month m (from 0 on) of year y -/
def IsD (n y m d : Int) : Prop := 1970 ≤ y ∧ y ≤ 9999 ∧ 0 ≤ m ∧ m ≤ 11 ∧ 1 ≤ d ∧ d ≤ domI y m ∧ aheadI y + cumI y m + d - 1 = n
theorem IsD.in_year {n y m d : Int} (h : IsD n y m d) : aheadI y ≤ n ∧ n < aheadI (y + 1) := by
  obtain ⟨h1, h2, h3, h4, h5, h6, h7⟩ := h
  have := cum_succ y h3 h4
  have := cum_bd y (m := m + 1) (by omega) (by omega)
  have := cum_bd y h3 (by omega)
  rw [ahead_succ]; omega
theorem IsD.in_month {n y m d : Int} (h : IsD n y m d) : cumI y m ≤ n - aheadI y ∧ n - aheadI y < cumI y (m + 1) := by
  obtain ⟨h1, h2, h3, h4, h5, h6, h7⟩ := h
  have := cum_succ y h3 h4
  omega
theorem IsD.bd {n y m d : Int} (h : IsD n y m d) : 0 ≤ n ∧ n ≤ 2932896 := by
  obtain ⟨h0, h1⟩ := h.in_year
  have := ahead_lo y h.1
  have h2 : aheadI (y + 1) ≤ aheadI 10000 := by
    by_cases e : y = 9999
    · subst e; decide
    · have h3 : aheadI (y + 1) ≤ aheadI 9999 := ahead_mono (by have := h.2.1; omega)
      have : aheadI 9999 ≤ aheadI 10000 := by decide
      omega
  rw [ahead_10000] at h2
  have := h.1
  omega
theorem IsD.uniq {n y m d y' m' d' : Int} (h : IsD n y m d) (k : IsD n y' m' d') : y = y' ∧ m = m' ∧ d = d' := by
  obtain ⟨a0, a1⟩ := h.in_year
  obtain ⟨b0, b1⟩ := k.in_year
  have hy : y = y' := by
    rcases Int.lt_trichotomy y y' with g | g | g
    · have := ahead_mono g; omega
    · exact g
    · have := ahead_mono g; omega
  subst hy
  obtain ⟨c0, c1⟩ := h.in_month
  obtain ⟨d0, d1⟩ := k.in_month
  have hm : m = m' := by
    rcases Int.lt_trichotomy m m' with g | g | g
    · have := cum_mono y h.2.2.1 g (by have := k.2.2.2.1; omega); omega
    · exact g
    · have := cum_mono y k.2.2.1 g (by have := h.2.2.2.1; omega); omega
  subst hm
  refine ⟨rfl, rfl, ?_⟩
  have h1 := h.2.2.2.2.2.2
  have h2 := k.2.2.2.2.2.2
  omega
theorem year_of (n : Int) (h0 : 0 ≤ n) (h1 : n ≤ 2932896) : ∃ y, 1970 ≤ y ∧ y ≤ 9999 ∧ aheadI y ≤ n ∧ n < aheadI (y + 1) := by
  suffices h : ∀ k : Nat, ∀ y : Int, 1970 ≤ y → y + k = 10000 → aheadI y ≤ n → ∃ y, 1970 ≤ y ∧ y ≤ 9999 ∧ aheadI y ≤ n ∧ n < aheadI (y + 1) from
    h 8030 1970 (by omega) (by omega) (by rw [ahead_1970]; exact h0)
  intro k
  induction k with
  | zero => intro y hy hk ha; obtain rfl : y = 10000 := by omega
            rw [ahead_10000] at ha; omega
  | succ k ih =>
    intro y hy hk ha
    rcases Int.lt_or_le n (aheadI (y + 1)) with h | h
    · exact ⟨y, hy, by omega, ha, h⟩
    · exact ih (y + 1) (by omega) (by omega) h
theorem isD_ex (n : Int) (h0 : 0 ≤ n) (h1 : n ≤ 2932896) : ∃ y m d, IsD n y m d := by
  obtain ⟨y, hy0, hy1, ha0, ha1⟩ := year_of n h0 h1
  suffices h : ∀ k : Nat, ∀ m : Int, 0 ≤ m → m + k = 12 → cumI y m ≤ n - aheadI y → ∃ m, 0 ≤ m ∧ m ≤ 11 ∧ cumI y m ≤ n - aheadI y ∧ n - aheadI y < cumI y (m + 1) by
    obtain ⟨m, m0, m1, c0, c1⟩ := h 12 0 (by omega) (by omega) (by rw [cum_zero]; omega)
    have := cum_succ y m0 m1
    exact ⟨y, m, n - aheadI y - cumI y m + 1, hy0, hy1, m0, m1, by omega, by omega, by omega⟩
  intro k
  induction k with
  | zero => intro m hm hk hc; obtain rfl : m = 12 := by omega
            rw [cum_12] at hc; rw [ahead_succ] at ha1; omega
  | succ k ih =>
    intro m hm hk hc
    rcases Int.lt_or_le (n - aheadI y) (cumI y (m + 1)) with h | h
    · exact ⟨m, hm, by omega, hc, h⟩
    · exact ih (m + 1) (by omega) (by omega) h
def wdI (n : Int) : Int := (n + 3) % 7
theorem wd_bd (n : Int) : 0 ≤ wdI n ∧ wdI n ≤ 6 := by unfold wdI; omega

/-- tick t is that date -/
def IsT (t y m d h i s : Int) : Prop := IsD (t / 86400) y m d ∧ h = t % 86400 / 3600 ∧ i = t % 86400 / 60 % 60 ∧ s = t % 60
theorem IsT.time {t y m d h i s : Int} (H : IsT t y m d h i s) : 0 ≤ h ∧ h ≤ 23 ∧ 0 ≤ i ∧ i ≤ 59 ∧ 0 ≤ s ∧ s ≤ 59 := by
  obtain ⟨_, rfl, rfl, rfl⟩ := H; omega
theorem IsT.tick {t y m d h i s : Int} (H : IsT t y m d h i s) : (aheadI y + cumI y m + d - 1) * 86400 + (h * 3600 + i * 60 + s) = t := by
  obtain ⟨h1, h2, h3, h4⟩ := H
  rw [h1.2.2.2.2.2.2]; omega
theorem isT_of {n y m d h i s : Int} (H : IsD n y m d) (h0 : 0 ≤ h) (h1 : h ≤ 23) (i0 : 0 ≤ i) (i1 : i ≤ 59) (s0 : 0 ≤ s) (s1 : s ≤ 59) : IsT (n * 86400 + (h * 3600 + i * 60 + s)) y m d h i s := by
  refine ⟨?_, by omega, by omega, by omega⟩
  rw [show (n * 86400 + (h * 3600 + i * 60 + s)) / 86400 = n from by omega]; exact H
theorem isT_ex (t : Int) (h0 : 0 ≤ t) (h1 : t ≤ 253402300799) : ∃ y m d h i s, IsT t y m d h i s := by
  obtain ⟨y, m, d, h⟩ := isD_ex (t / 86400) (by omega) (by omega)
  exact ⟨y, m, d, _, _, _, h, rfl, rfl, rfl⟩
theorem IsT.bd {t y m d h i s : Int} (H : IsT t y m d h i s) : 0 ≤ t ∧ t ≤ 253402300799 := by
  have := H.1.bd; omega
theorem IsT.uniq {t y m d h i s y' m' d' h' i' s' : Int} (H : IsT t y m d h i s) (K : IsT t y' m' d' h' i' s') : y = y' ∧ m = m' ∧ d = d' ∧ h = h' ∧ i = i' ∧ s = s' := by
  obtain ⟨a, b, c⟩ := H.1.uniq K.1
  obtain ⟨_, rfl, rfl, rfl⟩ := H
  obtain ⟨_, rfl, rfl, rfl⟩ := K
  exact ⟨a, b, c, rfl, rfl, rfl⟩
end Go.Proofs.YtjcllpfncohncaaDoor
