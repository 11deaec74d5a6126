/- DateBack and DateStep, walked. -/
import Derived.Test.YtjcllpfncohncaaDoorDateH
namespace Go.Proofs.YtjcllpfncohncaaDoor
open Go.RowKit

theorem i64_bd {n : Int} (h : (Lit.int .i64 n).wf = true) : -9223372036854775808 ≤ n ∧ n ≤ 9223372036854775807 := by
  simp [Lit.wf, IntKind.min, IntKind.max, IntKind.bits, IntKind.signed] at h
  omega
theorem u64_bd {n : Int} (h : (Lit.int .u64 n).wf = true) : 0 ≤ n ∧ n < 18446744073709551616 := by
  simp [Lit.wf, IntKind.min, IntKind.max, IntKind.bits, IntKind.signed] at h
  omega
theorem u8_bd {n : Int} (h : (Lit.int .u8 n).wf = true) : 0 ≤ n ∧ n < 256 := by
  simp [Lit.wf, IntKind.min, IntKind.max, IntKind.bits, IntKind.signed] at h
  omega
set_option maxRecDepth 100000 in
set_option maxHeartbeats 2000000 in
theorem dateBack_any (t now : Int) (w : World) (wt : (Lit.int .u64 t).wf = true) (_wn : (Lit.int .i64 now).wf = true) (ht : Tabs w) :
    Calls Tryd.prog 7 #[.int .u64 t, .int .i64 now] w fun e w' => e = .returned (.bool true) ∧ Below w.heap.size w w' := by
  obtain ⟨t0, t1⟩ := u64_bd wt
  have HT := Lib.hid ht
  clear wt _wn ht
  obtain ⟨y, m, d, h, i, s, H⟩ := isT_exN (t % 253402300800) (by omega) (by omega)
  obtain ⟨Y, M, D, Hh, I, S, HN⟩ := clamp_ex now
  obtain ⟨V, hv, _⟩ := isT_vd H
  have hp := parse_fix (Y + 50) V
  have hl := fixT_len V
  rw [hv] at hp
  have HPut : ∀ w, Tabs w → Calls Tryd.prog 13 #[.int .i64 (t % 253402300800)] w fun e w' => e = .returned (.string (bs (fixT (wdN y m d) m d y h i s))) ∧ Below w.heap.size w w' := fun w ht => put_ok _ _ _ _ _ _ _ w H ht
  obtain ⟨L, hL⟩ : ∃ L, fixT (wdN y m d) m d y h i s = L := ⟨_, rfl⟩
  rw [hL] at hp hl HPut
  have HP := Lib.hid hp
  have HU := Lib.hid HPut
  have HC := Lib.hid HN
  clear hp HPut HN hL V hv H
  go_enter Tryd.func7, Tryd.ntmps7
  go_wp2_with fail
  refine (HU.out _ HT.out).mono ?_
  rintro e w1 ⟨rfl, hb1⟩
  have HB1 := Lib.hid hb1
  have HT1 := Lib.hid (HT.out.below hb1)
  clear hb1
  by_cases hbig : 253402300799 < t ∧ t < 9223372036854775808
  · obtain ⟨b1, b2⟩ := hbig
    go_wp2_with fail
    refine (put_no t _ (.inr b1)).mono ?_
    rintro e w2 ⟨rfl, rfl⟩
    go_wp2_with fail
    refine (is_yes _ _ _ _ _ _ _ _ _ _ (by rw [bs_size, hl]; decide) HC.out (by rw [bs_data]; exact HP.out) HT1.out).mono ?_
    rintro e w2 ⟨rfl, hb2⟩
    have HB2 := Lib.hid (HB1.out.trans (hb2.mono HB1.out.size))
    have HT2 := Lib.hid (HT1.out.below hb2)
    clear hb2
    go_wp2_with fail
    refine (awake_any _ HT2.out).mono ?_
    rintro e w3 ⟨rfl, hb3⟩
    go_wp2_with fail
    go_ret
    exact ⟨rfl, HB2.out.trans (hb3.mono HB2.out.size)⟩
  · rcases (show t ≤ 253402300799 ∨ (253402300799 < t ∧ 9223372036854775808 ≤ t) by omega) with b1 | ⟨b1, b2⟩
    all_goals
      go_wp2_with fail
      refine (is_yes _ _ _ _ _ _ _ _ _ _ (by rw [bs_size, hl]; decide) HC.out (by rw [bs_data]; exact HP.out) HT1.out).mono ?_
      rintro e w2 ⟨rfl, hb2⟩
      have HB2 := Lib.hid (HB1.out.trans (hb2.mono HB1.out.size))
      have HT2 := Lib.hid (HT1.out.below hb2)
      clear hb2
      go_wp2_with fail
      refine (awake_any _ HT2.out).mono ?_
      rintro e w3 ⟨rfl, hb3⟩
      go_wp2_with fail
      go_ret
      exact ⟨rfl, HB2.out.trans (hb3.mono HB2.out.size)⟩
end Go.Proofs.YtjcllpfncohncaaDoor
