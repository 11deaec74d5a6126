/- What the statements know outright: is, no, awake. -/
import Derived.Test.YtdaiielhohdgiaaGreatDoorKDateD
namespace Go.Proofs.YtdaiielhohdgiaaGreatDoor
open Go.RowKit

theorem isT_vd {t : Int} {y : Int} {m : Nat} {d h i s : Int} (H : IsT t y m d h i s) : VD y m d h i s ∧ tickD y m d h i s = t ∧ wdI (t / 86400) = (wdN y m d : Int) := by
  have a := H.1
  obtain ⟨h0, h1, i0, i1, s0, s1⟩ := H.time
  refine ⟨⟨a.1, a.2.1, by have := a.2.2.2.1; omega, a.2.2.2.2.1, a.2.2.2.2.2.1, h0, h1, i0, i1, s0, s1⟩, H.tick, ?_⟩
  rw [← wdN_eq, a.2.2.2.2.2.2]
theorem vd_isT {y : Int} {m : Nat} {d h i s : Int} (V : VD y m d h i s) : IsT (tickD y m d h i s) y m d h i s := by
  obtain ⟨a, b, c, e, f, g, k, l, n, o, p⟩ := V
  exact isT_of ⟨a, b, by omega, by omega, e, f, rfl⟩ g k l n o p
/-- a tick's date, months as natural numbers -/
theorem isT_exN (t : Int) (h0 : 0 ≤ t) (h1 : t ≤ 253402300799) : ∃ (y : Int) (m : Nat) (d h i s : Int), IsT t y m d h i s := by
  obtain ⟨y, m, d, h, i, s, H⟩ := isT_ex t h0 h1
  have := H.1.2.2.1
  obtain ⟨k, rfl⟩ : ∃ k : Nat, m = k := ⟨m.toNat, by omega⟩
  exact ⟨y, k, d, h, i, s, H⟩
theorem clamp_ex (now : Int) : ∃ y m d h i s, IsT (clampI now) y m d h i s := isT_ex _ (clamp_bd now).1 (clamp_bd now).2
theorem parse_fix (nw : Int) {y : Int} {m : Nat} {d h i s : Int} (V : VD y m d h i s) : parseDL nw (fixT (wdN y m d) m d y h i s) = some (tickD y m d h i s) :=
  (parseL_iff _ _ _).2 (.inl ⟨_, _, _, _, _, _, V, rfl, rfl⟩)
theorem fixT_len {y : Int} {m : Nat} {d h i s : Int} (V : VD y m d h i s) : (fixT (wdN y m d) m d y h i s).length = 29 := by
  obtain ⟨a, b, c, hd⟩ := day_three _ (wdN_lt y m d)
  obtain ⟨p, q, r, hm⟩ := month_three m V.2.2.1
  unfold fixT; rw [hd, hm]; rfl

theorem put_no (t : Int) (w : World) (h : t < 0 ∨ 253402300799 < t) :
    Calls Tryz.prog 15 #[.int .i64 t] w fun e w' => e = .returned (.string ⟨#[]⟩) ∧ w = w' := by
  rcases h with h | h
  · go_enter Tryz.func15, Tryz.ntmps15
    go_wp2_with fail
    go_ret
    exact ⟨rfl, rfl⟩
  · have h2 : ¬ t < 0 := by omega
    go_enter Tryz.func15, Tryz.ntmps15
    go_wp2_with fail
    go_ret
    exact ⟨rfl, rfl⟩
theorem put_ok (t : Int) (y : Int) (m : Nat) (d h i s : Int) (w : World) (H : IsT t y m d h i s) (ht : TabsP w) :
    Calls Tryz.prog 15 #[.int .i64 t] w fun e w' => e = .returned (.string (bs (fixT (wdN y m d) m d y h i s))) ∧ Below w.heap.size w w' :=
  dput_any t (wdN y m d) m y d h i s w H (isT_vd H).2.2 ht

theorem nov_isT : IsT (clampI 784111777) 1994 10 6 8 49 37 := by
  unfold IsT IsD clampI; decide
theorem zero_isT : IsT 0 1970 (0 : Nat) 1 0 0 0 := by
  unfold IsT IsD; decide
theorem k1 : parseDL (1994 + 50) (⟨#[83, 117, 110, 44, 32, 48, 54, 32, 78, 111, 118, 32, 49, 57, 57, 52, 32, 48, 56, 58, 52, 57, 58, 51, 55, 32, 71, 77, 84]⟩ : ByteArray).data.toList = some 784111777 := by kernel_rfl
theorem k2 : parseDL (1994 + 50) (⟨#[83, 117, 110, 100, 97, 121, 44, 32, 48, 54, 45, 78, 111, 118, 45, 57, 52, 32, 48, 56, 58, 52, 57, 58, 51, 55, 32, 71, 77, 84]⟩ : ByteArray).data.toList = some 784111777 := by kernel_rfl
theorem k3 : parseDL (1994 + 50) (⟨#[83, 117, 110, 32, 78, 111, 118, 32, 32, 54, 32, 48, 56, 58, 52, 57, 58, 51, 55, 32, 49, 57, 57, 52]⟩ : ByteArray).data.toList = some 784111777 := by kernel_rfl
theorem k4 : ((bs (fixT (wdN 1970 0 1) 0 1 1970 0 0 0)).toList == [84, 104, 117, 44, 32, 48, 49, 32, 74, 97, 110, 32, 49, 57, 55, 48, 32, 48, 48, 58, 48, 48, 58, 48, 48, 32, 71, 77, 84]) = true := by
  rw [Lib.toList_data, bs_data]; kernel_rfl
end Go.Proofs.YtdaiielhohdgiaaGreatDoor

/- DateBack and DateStep, walked. -/
namespace Go.Proofs.YtdaiielhohdgiaaGreatDoor
open Go.RowKit

theorem i64_bd {n : Int} (h : (Lit.int .i64 n).wf = true) : -9223372036854775808 ≤ n ∧ n ≤ 9223372036854775807 := by
  simp [Lit.wf, IntKind.min, IntKind.max, IntKind.bits, IntKind.signed] at h
  omega
theorem u64_bd {n : Int} (h : (Lit.int .u64 n).wf = true) : 0 ≤ n ∧ n < 18446744073709551616 := by
  simp [Lit.wf, IntKind.min, IntKind.max, IntKind.bits, IntKind.signed] at h
  omega
theorem u8_bd {n : Int} (h : (Lit.int .u8 n).wf = true) : 0 ≤ n ∧ n < 256 := by
  simp [Lit.wf, IntKind.min, IntKind.max, IntKind.bits, IntKind.signed] at h
  omega
end Go.Proofs.YtdaiielhohdgiaaGreatDoor

/- DateStep, walked. -/
namespace Go.Proofs.YtdaiielhohdgiaaGreatDoor
open Go.RowKit

def dayT (wd m : Nat) (d y : Int) : List UInt8 := sDays.getD wd [] ++ [44, 32] ++ pad2 d ++ [32] ++ sMonths.getD m [] ++ [32] ++ pad4 y
def timT (h i s : Int) : List UInt8 := [32] ++ pad2 h ++ [58] ++ pad2 i ++ [58] ++ pad2 s ++ [32, 71, 77, 84]
theorem fix_parts (wd m : Nat) (d y h i s : Int) : fixT wd m d y h i s = dayT wd m d y ++ timT h i s := by
  simp only [fixT, dayT, timT, List.append_assoc]
theorem dayT_len {wd m : Nat} (d y : Int) (hw : wd < 7) (hm : m < 12) : (dayT wd m d y).length = 16 := by
  obtain ⟨a, b, c, hd⟩ := day_three _ hw
  obtain ⟨p, q, r, hm⟩ := month_three m hm
  unfold dayT; rw [hd, hm]; rfl
theorem fix_take {y : Int} {m : Nat} {d h i s : Int} (V : VD y m d h i s) : (fixT (wdN y m d) m d y h i s).take 16 = dayT (wdN y m d) m d y := by
  rw [fix_parts, ← dayT_len d y (wdN_lt y m d) V.2.2.1, List.take_left' rfl]
theorem step_same {x y : Int} {X Y : Int} {M N : Nat} {D E h i s h' i' s' : Int} (H : IsT x X M D h i s) (K : IsT y Y N E h' i' s') (e : fixT (wdN X M D) M D X h i s = fixT (wdN Y N E) N E Y h' i' s') : x = y := by
  obtain ⟨V, a, _⟩ := isT_vd H
  obtain ⟨U, b, _⟩ := isT_vd K
  have p := parse_fix 0 V
  rw [e, parse_fix 0 U, a, b] at p
  exact (Option.some.inj p).symm
theorem step_day {x y : Int} {X Y : Int} {M N : Nat} {D E h i s h' i' s' : Int} (H : IsT x X M D h i s) (K : IsT y Y N E h' i' s') :
    ((fixT (wdN X M D) M D X h i s).take 16 = (fixT (wdN Y N E) N E Y h' i' s').take 16) ↔ x / 86400 = y / 86400 := by
  obtain ⟨V, a, _⟩ := isT_vd H
  obtain ⟨U, b, _⟩ := isT_vd K
  constructor
  · intro e
    rw [fix_take V, fix_take U] at e
    have W : VD Y N E h i s := ⟨U.1, U.2.1, U.2.2.1, U.2.2.2.1, U.2.2.2.2.1, V.2.2.2.2.2⟩
    have p := parse_fix 0 V
    rw [fix_parts, e, ← fix_parts, parse_fix 0 W, a] at p
    have q := Option.some.inj p
    have r := (vd_isT W).1
    rw [q] at r
    rw [← r.2.2.2.2.2.2, ← K.1.2.2.2.2.2.2]
  · intro e
    have h1 := H.1
    rw [e] at h1
    obtain ⟨rfl, hm, rfl⟩ := h1.uniq K.1
    obtain rfl : M = N := by omega
    rw [fix_take V, fix_take U]

end Go.Proofs.YtdaiielhohdgiaaGreatDoor

/- DateOne and DatePuts, walked. -/
namespace Go.Proofs.YtdaiielhohdgiaaGreatDoor
open Go.RowKit

theorem F1.isT {l : List UInt8} {t : Int} (H : F1 l t) : ∃ (y : Int) (m : Nat) (d h i s : Int), IsT t y m d h i s ∧ l = fixT (wdN y m d) m d y h i s := by
  obtain ⟨y, m, d, h, i, s, V, e, rfl⟩ := H
  exact ⟨y, m, d, h, i, s, vd_isT V, e⟩
theorem parse_isT {nw : Int} {l : List UInt8} {t : Int} (h : parseDL nw l = some t) : ∃ (y : Int) (m : Nat) (d h i s : Int), IsT t y m d h i s := by
  rw [parseL_iff] at h
  rcases h with ⟨y, m, d, h, i, s, V, e, rfl⟩ | ⟨_, y, m, d, h, i, s, V, _, _, e, rfl⟩ | ⟨_, _, y, m, d, h, i, s, V, e, rfl⟩ <;> exact ⟨y, m, d, h, i, s, vd_isT V⟩
theorem long_len (k : Nat) (h : k < 7) : 6 ≤ (lDays.getD k []).length := by
  match k, h with
  | 0, _ | 1, _ | 2, _ | 3, _ | 4, _ | 5, _ | 6, _ => decide
/-- a text of 29 bytes with a comma at its fourth place is a date of the first form alone -/
theorem parse_29 {nw : Int} {l : List UInt8} {t : Int} (h : parseDL nw l = some t) (hl : l.length = 29) (hc : l.getD 3 0 = 44) : F1 l t := by
  rw [parseL_iff] at h
  rcases h with h | ⟨_, y, m, d, h, i, s, V, _, _, e, _⟩ | ⟨_, _, y, m, d, h, i, s, V, e, _⟩
  · exact h
  · exfalso
    have := long_len _ (wdN_lt y m d)
    obtain ⟨p, q, r, hm⟩ := month_three m V.2.2.1
    rw [e] at hl
    unfold oldT clkT pad2 at hl
    rw [hm] at hl
    simp only [List.length_append, List.length_cons, List.length_nil] at hl
    omega
  · exfalso
    obtain ⟨a, b, c, hd⟩ := day_three _ (wdN_lt y m d)
    rcases e with e | ⟨_, e⟩
    · rw [e] at hc
      unfold ascT at hc
      rw [hd] at hc
      simp at hc
    · rw [e] at hc
      unfold ascT at hc
      rw [hd] at hc
      simp at hc


end Go.Proofs.YtdaiielhohdgiaaGreatDoor
