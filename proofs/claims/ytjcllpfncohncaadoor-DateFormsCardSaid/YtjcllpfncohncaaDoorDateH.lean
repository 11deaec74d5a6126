/- What the statements know outright: is, no, awake. -/
import Derived.Test.YtjcllpfncohncaaDoorDate5
namespace Go.Proofs.YtjcllpfncohncaaDoor
open Go.RowKit

theorem isT_vd {t : Int} {y : Int} {m : Nat} {d h i s : Int} (H : IsT t y m d h i s) : VD y m d h i s ∧ tickD y m d h i s = t ∧ wdI (t / 86400) = (wdN y m d : Int) := by
  have a := H.1
  obtain ⟨h0, h1, i0, i1, s0, s1⟩ := H.time
  refine ⟨⟨a.1, a.2.1, by have := a.2.2.2.1; omega, a.2.2.2.2.1, a.2.2.2.2.2.1, h0, h1, i0, i1, s0, s1⟩, H.tick, ?_⟩
  rw [← wdN_eq, a.2.2.2.2.2.2]
theorem vd_isT {y : Int} {m : Nat} {d h i s : Int} (V : VD y m d h i s) : IsT (tickD y m d h i s) y m d h i s := by
  obtain ⟨a, b, c, e, f, g, k, l, n, o, p⟩ := V
  exact isT_of ⟨a, b, by omega, by omega, e, f, rfl⟩ g k l n o p
/-- a tick's date, months as natural numbers -/
theorem isT_exN (t : Int) (h0 : 0 ≤ t) (h1 : t ≤ 253402300799) : ∃ (y : Int) (m : Nat) (d h i s : Int), IsT t y m d h i s := by
  obtain ⟨y, m, d, h, i, s, H⟩ := isT_ex t h0 h1
  have := H.1.2.2.1
  obtain ⟨k, rfl⟩ : ∃ k : Nat, m = k := ⟨m.toNat, by omega⟩
  exact ⟨y, k, d, h, i, s, H⟩
theorem clamp_ex (now : Int) : ∃ y m d h i s, IsT (clampI now) y m d h i s := isT_ex _ (clamp_bd now).1 (clamp_bd now).2
theorem parse_fix (nw : Int) {y : Int} {m : Nat} {d h i s : Int} (V : VD y m d h i s) : parseL nw (fixT (wdN y m d) m d y h i s) = some (tickD y m d h i s) :=
  (parseL_iff _ _ _).2 (.inl ⟨_, _, _, _, _, _, V, rfl, rfl⟩)
theorem fixT_len {y : Int} {m : Nat} {d h i s : Int} (V : VD y m d h i s) : (fixT (wdN y m d) m d y h i s).length = 29 := by
  obtain ⟨a, b, c, hd⟩ := day_three _ (wdN_lt y m d)
  obtain ⟨p, q, r, hm⟩ := month_three m V.2.2.1
  unfold fixT; rw [hd, hm]; rfl

set_option maxRecDepth 100000 in
set_option maxHeartbeats 1000000 in
theorem is_yes (s : ByteArray) (now want y m d h i sc : Int) (w : World) (hs : s.size ≤ maxLen) (H : IsT (clampI now) y m d h i sc) (hp : parseL (y + 50) s.data.toList = some want) (ht : Tabs w) :
    Calls Tryd.prog 20 #[.string s, .int .i64 now, .int .i64 want] w fun e w' => e = .returned (.bool true) ∧ Below w.heap.size w w' := by
  have HH := Lib.hid H
  have HP := Lib.hid hp
  have HT := Lib.hid ht
  clear H hp ht
  go_enter Tryd.func20, Tryd.ntmps20
  go_wp2_with fail
  refine (parse_any s _ _ _ _ _ _ _ _ hs HH.out HT.out).mono ?_
  rw [HP.out]
  unfold ansV
  rintro e w1 ⟨rfl, hb⟩
  go_wp2_with fail
  go_ret
  exact ⟨rfl, hb⟩
set_option maxRecDepth 100000 in
set_option maxHeartbeats 1000000 in
theorem no_yes (s : ByteArray) (now y m d h i sc : Int) (w : World) (hs : s.size ≤ maxLen) (H : IsT (clampI now) y m d h i sc) (hp : parseL (y + 50) s.data.toList = none) (ht : Tabs w) :
    Calls Tryd.prog 19 #[.string s, .int .i64 now] w fun e w' => e = .returned (.bool true) ∧ Below w.heap.size w w' := by
  have HH := Lib.hid H
  have HP := Lib.hid hp
  have HT := Lib.hid ht
  clear H hp ht
  go_enter Tryd.func19, Tryd.ntmps19
  go_wp2_with fail
  refine (parse_any s _ _ _ _ _ _ _ _ hs HH.out HT.out).mono ?_
  rw [HP.out]
  unfold ansV
  rintro e w1 ⟨rfl, hb⟩
  go_wp2_with fail
  go_ret
  exact ⟨rfl, hb⟩
theorem put_no (t : Int) (w : World) (h : t < 0 ∨ 253402300799 < t) :
    Calls Tryd.prog 13 #[.int .i64 t] w fun e w' => e = .returned (.string ⟨#[]⟩) ∧ w = w' := by
  rcases h with h | h
  · go_enter Tryd.func13, Tryd.ntmps13
    go_wp2_with fail
    go_ret
    exact ⟨rfl, rfl⟩
  · have h2 : ¬ t < 0 := by omega
    go_enter Tryd.func13, Tryd.ntmps13
    go_wp2_with fail
    go_ret
    exact ⟨rfl, rfl⟩
theorem put_ok (t : Int) (y : Int) (m : Nat) (d h i s : Int) (w : World) (H : IsT t y m d h i s) (ht : Tabs w) :
    Calls Tryd.prog 13 #[.int .i64 t] w fun e w' => e = .returned (.string (bs (fixT (wdN y m d) m d y h i s))) ∧ Below w.heap.size w w' :=
  put_any t (wdN y m d) m y d h i s w H (isT_vd H).2.2 ht

theorem nov_isT : IsT (clampI 784111777) 1994 10 6 8 49 37 := by
  unfold IsT IsD clampI; decide
theorem zero_isT : IsT 0 1970 (0 : Nat) 1 0 0 0 := by
  unfold IsT IsD; decide
theorem k1 : parseL (1994 + 50) (⟨#[83, 117, 110, 44, 32, 48, 54, 32, 78, 111, 118, 32, 49, 57, 57, 52, 32, 48, 56, 58, 52, 57, 58, 51, 55, 32, 71, 77, 84]⟩ : ByteArray).data.toList = some 784111777 := by kernel_rfl
theorem k2 : parseL (1994 + 50) (⟨#[83, 117, 110, 100, 97, 121, 44, 32, 48, 54, 45, 78, 111, 118, 45, 57, 52, 32, 48, 56, 58, 52, 57, 58, 51, 55, 32, 71, 77, 84]⟩ : ByteArray).data.toList = some 784111777 := by kernel_rfl
theorem k3 : parseL (1994 + 50) (⟨#[83, 117, 110, 32, 78, 111, 118, 32, 32, 54, 32, 48, 56, 58, 52, 57, 58, 51, 55, 32, 49, 57, 57, 52]⟩ : ByteArray).data.toList = some 784111777 := by kernel_rfl
theorem k4 : ((bs (fixT (wdN 1970 0 1) 0 1 1970 0 0 0)).toList == [84, 104, 117, 44, 32, 48, 49, 32, 74, 97, 110, 32, 49, 57, 55, 48, 32, 48, 48, 58, 48, 48, 58, 48, 48, 32, 71, 77, 84]) = true := by
  rw [Lib.toList_data, bs_data]; kernel_rfl
set_option maxRecDepth 100000 in
set_option maxHeartbeats 1000000 in
theorem awake_any (w : World) (ht : Tabs w) :
    Calls Tryd.prog 10 #[] w fun e w' => e = .returned (.bool true) ∧ Below w.heap.size w w' := by
  have HT := Lib.hid ht
  clear ht
  go_enter Tryd.func10, Tryd.ntmps10
  go_wp2_with fail
  refine (is_yes _ _ _ _ _ _ _ _ _ _ (by decide) nov_isT (by exact k1) HT.out).mono ?_
  rintro e w1 ⟨rfl, hb1⟩
  have HB1 := Lib.hid hb1
  have HT1 := Lib.hid (HT.out.below hb1)
  clear hb1
  go_wp2_with fail
  refine (is_yes _ _ _ _ _ _ _ _ _ _ (by decide) nov_isT (by exact k2) HT1.out).mono ?_
  rintro e w2 ⟨rfl, hb2⟩
  have HB2 := Lib.hid (HB1.out.trans (hb2.mono HB1.out.size))
  have HT2 := Lib.hid (HT1.out.below hb2)
  clear hb2
  go_wp2_with fail
  refine (is_yes _ _ _ _ _ _ _ _ _ _ (by decide) nov_isT (by exact k3) HT2.out).mono ?_
  rintro e w3 ⟨rfl, hb3⟩
  have HB3 := Lib.hid (HB2.out.trans (hb3.mono HB2.out.size))
  have HT3 := Lib.hid (HT2.out.below hb3)
  clear hb3
  have hk := k4
  go_wp2_with fail
  refine (put_ok 0 _ _ _ _ _ _ _ zero_isT HT3.out).mono ?_
  rintro e w4 ⟨rfl, hb4⟩
  have HB4 := Lib.hid (HB3.out.trans (hb4.mono HB3.out.size))
  clear hb4
  go_wp2_with fail
  go_ret
  exact ⟨rfl, HB4.out⟩
end Go.Proofs.YtjcllpfncohncaaDoor
