/- strconv.ParseUint at base 16. -/
import Derived.Test.YtoengnefdndgfaaDoorChunkA
namespace Go.Proofs.YtoengnefdndgfaaDoor
open Go.RowKit

theorem pu_step {c : UInt8} (r : List UInt8) (n : Nat) : (hexI (c.toNat : Int) = -1 → pu (c :: r) n = (0, 2)) ∧
    (0 ≤ hexI (c.toNat : Int) → 1152921504606846976 ≤ n → pu (c :: r) n = (18446744073709551615, 1)) ∧
    (0 ≤ hexI (c.toNat : Int) → ¬ 1152921504606846976 ≤ n → pu (c :: r) n = pu r (16 * n + hexD c)) := by
  have e : pu (c :: r) n = if hexB c then (if 1152921504606846976 ≤ n then (18446744073709551615, 1) else pu r (16 * n + hexD c)) else (0, 2) := rfl
  refine ⟨fun h => ?_, fun h h1 => ?_, fun h h1 => ?_⟩
  · have hb : hexB c = false := decide_eq_false (by omega)
    rw [e, hb]; rfl
  · have hb : hexB c = true := decide_eq_true h
    rw [e, hb, if_pos rfl, if_pos h1]
  · have hb : hexB c = true := decide_eq_true h
    rw [e, hb, if_pos rfl, if_neg h1]

set_option maxHeartbeats 32000000 in
set_option maxRecDepth 100000 in
theorem puI_any (t : ByteArray) (w : World) (hne : t.size ≠ 0) (hmax : t.size ≤ 1048576) :
    Calls Tryd.prog 56 #[.string t, .int .i64 16, .int .i64 64] w fun e w' => e = .returned (puV (pu t.data.toList 0)) ∧ Below w.heap.size w w' := by
  have hemp : t.toList.isEmpty = false := by
    rw [← decide_eq_emptyBytes]
    exact decide_eq_false (fun h => hne (by rw [h]; rfl))
  have hcv := Lib.run_convert_string_bytes (P := Tryd.prog) w 9 36 5 t Tryd.underlying9 Tryd.underlying36 Tryd.underlying5
  have hB : ∀ j, j < t.size → (Lib.bytesWorld w 5 t).cell? ⟨w.heap.size, j, none⟩ = some (.int .u8 (t.data.toList.getD j 0).toNat) := fun j hj => Lib.bytesWorld_cell w 5 t j hj
  have hbel : Below w.heap.size w (Lib.bytesWorld w 5 t) := Lib.bytesWorld_below _ _ _
  obtain ⟨W1, hW1⟩ : ∃ W1, W1 = Lib.bytesWorld w 5 t := ⟨_, rfl⟩
  rw [← hW1] at hcv hB hbel
  clear hW1
  obtain ⟨l, hL⟩ : ∃ l, l = t.data.toList := ⟨_, rfl⟩
  have hLn : l.length = t.size := by rw [hL, Lib.size_eq]
  rw [← hL] at hB ⊢
  clear hL
  have HBEL := Lib.hid hbel; clear hbel
  have hmv : IntKind.u64.wrap (IntKind.u64.wrap 18446744073709551616 - 1) = 18446744073709551615 := by
    rw [IntKind.wrap_u64, IntKind.wrap_u64]
    decide
  go_enter Tryd.func56, Tryd.ntmps56
  go_wp2
  go_loop [12, 13, 101] (fun vu vn vi => ∃ (k acc : Nat) (a : Int), vu = .bool false ∧ vn = .int .u64 a ∧ vi = .int .i64 k ∧ k ≤ t.size ∧ Hid (a = (acc : Int) ∧ acc < 18446744073709551616 ∧ pu l 0 = pu (l.drop k) acc))
    (fun _ _ vi => t.size - (intOf vi).toNat)
  case atStart => exact ⟨0, 0, 0, rfl, rfl, rfl, by omega, rfl, by omega, rfl⟩
  case round =>
    obtain ⟨k, acc, a, rfl, rfl, rfl, hk, hh⟩ := hrel
    obtain ⟨ha, hacc, hdec⟩ := hh.out
    clear hh
    have a0 : 0 ≤ a := by omega
    have a1 : a < 18446744073709551616 := by omega
    by_cases hkn : k < t.size
    · have hc := hB k hkn
      have hdrop : l.drop k = l[k]'(by omega) :: l.drop (k + 1) := List.drop_eq_getElem_cons (by omega)
      have hget : l.getD k 0 = l[k]'(by omega) := by simp [List.getD, List.getElem?_eq_getElem (show k < l.length by omega)]
      rw [hdrop] at hdec
      rw [hget] at hc
      generalize l[k]'(by omega) = c at hc hdec
      have hc256 : c.toNat < 256 := c.toNat_lt
      obtain ⟨hq, h95⟩ := hex_cases c
      obtain ⟨s1, s2, s3⟩ := pu_step (c := c) (l.drop (k + 1)) acc
      have hlow := fun w => Tryd.internal_strconv_lower (c.toNat : Int) w
      clear hB hdrop hget
      have fin : ∀ (n m : Int) (q : Nat), pu (c :: l.drop (k + 1)) acc = (n.toNat, q) → 0 ≤ n → (q = 1 ∧ m = 1 ∨ q = 2 ∧ m = 2) → Ending.returned (.tuple #[.int .u64 n, .iface 103 (.int .i64 m)]) = Ending.returned (puV (pu l 0)) := by
        intro n m q hp hn hq2
        rw [hdec, hp]
        unfold puV
        rcases hq2 with ⟨rfl, rfl⟩ | ⟨rfl, rfl⟩
        all_goals
          rw [if_neg (by simp)]
          simp only [Int.toNat_of_nonneg hn]
          rfl
      have HFIN := Lib.hid fin; clear fin
      have hD : 0 ≤ hexI (c.toNat : Int) → (hexD c : Int) = hexI (c.toNat : Int) := fun h => by unfold hexD; omega
      have HDEC := Lib.hid hdec; clear hdec
      have hL0 := Go.bits_lo_u8 .or (c.toNat : Int) 32
      have hL1 := Go.bits_hi_u8 .or (c.toNat : Int) 32
      generalize Go.bits .or .u8 (c.toNat : Int) 32 = L at hq h95 hlow hL0 hL1
      generalize hci : (c.toNat : Int) = ci at hq h95 hlow hc s1 s2 s3 hD
      have hci0 : 0 ≤ ci := by omega
      have hci1 : ci < 256 := by omega
      clear hc256
      have HLOW := Lib.hid hlow; clear hlow
      have ne95 : hexI ci ≠ -1 → (ci == 95) = false := fun h => by
        rw [beq_eq_false_iff_ne]
        intro e
        have := h95 e
        unfold hexQ at hq
        omega
      unfold hexQ at hq
      rcases hq with ⟨⟨h1, h2⟩, h3⟩ | ⟨h1, h2, h3, h4⟩ | ⟨h1, h2, h3, h4⟩ | ⟨h1, h2, h3⟩ | ⟨h1, h2, h3⟩ | ⟨h1, h2, h3⟩
      · have h95' := ne95 (by omega)
        have hd := hD (by omega)
        by_cases hcut : 1152921504606846976 ≤ acc
        · have HR := Lib.hid (HFIN.out 18446744073709551615 1 1 (s2 (by omega) hcut) (by decide) (.inl ⟨rfl, rfl⟩))
          have icut : 1152921504606846976 ≤ a := by omega
          clear hcut hacc ha s1 s2 s3 hD hd ne95 h95 h3
          go_wp2
          go_ret2
          exact ⟨HR.out, HBEL.out⟩
        · have HN : Hid (a * 16 + (ci - 48) = ((16 * acc + hexD c : Nat) : Int) ∧ 16 * acc + hexD c < 18446744073709551616 ∧ pu l 0 = pu (l.drop (k + 1)) (16 * acc + hexD c)) := Lib.hid ⟨by push_cast; omega, by have := hexD_lt c; omega, HDEC.out.trans (s3 (by omega) hcut)⟩
          have icut : a < 1152921504606846976 := by omega
          clear hcut hacc ha s1 s2 s3 hD hd ne95 h95 h3
          go_wp2
          refine ⟨⟨k + 1, 16 * acc + hexD c, a * 16 + (ci - 48), rfl, (by first | rfl | (congr 1; omega)), (by first | rfl | (congr 1; omega)), by omega, HN⟩, by simp [intOf]; omega⟩
      · have h95' := ne95 (by omega)
        have hd := hD (by omega)
        by_cases hcut : 1152921504606846976 ≤ acc
        · have HR := Lib.hid (HFIN.out 18446744073709551615 1 1 (s2 (by omega) hcut) (by decide) (.inl ⟨rfl, rfl⟩))
          have icut : 1152921504606846976 ≤ a := by omega
          clear hcut hacc ha s1 s2 s3 hD hd ne95 h95 h4
          go_wp2_with (go_at_call 67; refine (HLOW.out _).mono ?_; rintro e w' ⟨rfl, rfl⟩)
          go_ret2
          exact ⟨HR.out, HBEL.out⟩
        · have HN : Hid (a * 16 + (L - 97 + 10) = ((16 * acc + hexD c : Nat) : Int) ∧ 16 * acc + hexD c < 18446744073709551616 ∧ pu l 0 = pu (l.drop (k + 1)) (16 * acc + hexD c)) := Lib.hid ⟨by push_cast; omega, by have := hexD_lt c; omega, HDEC.out.trans (s3 (by omega) hcut)⟩
          have icut : a < 1152921504606846976 := by omega
          clear hcut hacc ha s1 s2 s3 hD hd ne95 h95 h4
          go_wp2_with (go_at_call 67; refine (HLOW.out _).mono ?_; rintro e w' ⟨rfl, rfl⟩)
          refine ⟨⟨k + 1, 16 * acc + hexD c, a * 16 + (L - 97 + 10), rfl, (by first | rfl | (congr 1; omega)), (by first | rfl | (congr 1; omega)), by omega, HN⟩, by simp [intOf]; omega⟩
      · have HR := Lib.hid (HFIN.out 0 2 2 (s1 h4) (by decide) (.inr ⟨rfl, rfl⟩))
        have h5 : (ci == 95) = false := by rw [beq_eq_false_iff_ne]; intro e; have := h95 e; omega
        have h6 : 97 ≤ L := by omega
        clear hacc ha s1 s2 s3 hD ne95 h95 h4
        go_wp2_with (go_at_call 67; refine (HLOW.out _).mono ?_; rintro e w' ⟨rfl, rfl⟩)
        all_goals go_ret2
        all_goals exact ⟨HR.out, HBEL.out⟩
      · have HR := Lib.hid (HFIN.out 0 2 2 (s1 h3) (by decide) (.inr ⟨rfl, rfl⟩))
        clear hacc ha s1 s2 s3 hD ne95 h95 h3
        go_wp2_with (go_at_call 67; refine (HLOW.out _).mono ?_; rintro e w' ⟨rfl, rfl⟩)
        all_goals go_ret2
        all_goals exact ⟨HR.out, HBEL.out⟩
      · have HR := Lib.hid (HFIN.out 0 2 2 (s1 h3) (by decide) (.inr ⟨rfl, rfl⟩))
        have h5 : (ci == 95) = false := by rw [beq_eq_false_iff_ne]; intro e; have := h95 e; omega
        clear hacc ha s1 s2 s3 hD ne95 h95 h3
        go_wp2_with (go_at_call 67; refine (HLOW.out _).mono ?_; rintro e w' ⟨rfl, rfl⟩)
        all_goals go_ret2
        all_goals exact ⟨HR.out, HBEL.out⟩
      · have HR := Lib.hid (HFIN.out 0 2 2 (s1 h3) (by decide) (.inr ⟨rfl, rfl⟩))
        clear hacc ha s1 s2 s3 hD ne95 h95 h3
        by_cases h9 : ci = 95
        · subst h9
          go_wp2_with (go_at_call 67; refine (HLOW.out _).mono ?_; rintro e w' ⟨rfl, rfl⟩)
          all_goals go_ret2
          all_goals exact ⟨HR.out, HBEL.out⟩
        · have h5 : (ci == 95) = false := by rw [beq_eq_false_iff_ne]; exact h9
          go_wp2_with (go_at_call 67; refine (HLOW.out _).mono ?_; rintro e w' ⟨rfl, rfl⟩)
          all_goals go_ret2
          all_goals exact ⟨HR.out, HBEL.out⟩
    · have hkk : k = t.size := by omega
      subst hkk
      have hF : pu (l.drop t.size) acc = (acc, 0) := by rw [List.drop_eq_nil_of_le (by omega)]; rfl
      rw [hF] at hdec
      subst ha
      have HR : Hid (Value.tuple #[.int .u64 (acc : Int), .nilIface] = puV (pu l 0)) := by show _ = _; rw [hdec]; rfl
      clear hacc hF a0 a1 hdec
      go_wp2
      go_ret2
      exact ⟨congrArg Ending.returned HR.out, HBEL.out⟩
end Go.Proofs.YtoengnefdndgfaaDoor
