/- The tick layer's functions on numbers, and the document's own. -/
import Derived.Test.YtfobjaccpnondaaGreatDoorKPlain
import Derived.Test.YtfobjaccpnondaaGreatDoorProg
import Derived.WalkKit
import Derived.WalkLawsBesides
import Derived.Lib.Hide
import Derived.Outline
namespace Go.Proofs.YtfobjaccpnondaaGreatDoor
open Go.RowKit

theorem ret_num {a b : Int} (h : a = b) : Ending.returned (.int .i64 a) = .returned (.int .i64 b) := by rw [h]

theorem bounded_any (n : Int) (w : World) :
    Calls Tryz.prog 191 #[.int .i64 n] w fun e w' => e = .returned (.int .i64 (ofI n)) ∧ w = w' := by
  go_enter Tryz.func191, Tryz.ntmps191
  go_wp2
  all_goals go_ret
  all_goals exact ⟨ret_num (by unfold ofI; repeat' split
                               all_goals omega), rfl⟩
theorem rof_any (n : Int) (w : World) :
    Calls Tryz.prog 106 #[.int .i64 n] w fun e w' => e = .returned (.int .i64 (ofI n)) ∧ w = w' := by
  go_enter Tryz.func106, Tryz.ntmps106
  go_wp2
  all_goals go_ret
  all_goals exact ⟨ret_num (by unfold ofI; repeat' split
                               all_goals omega), rfl⟩
theorem boundedU_any (n : Int) (w : World) (h0 : 0 ≤ n) (h1 : n < 18446744073709551616) :
    Calls Tryz.prog 192 #[.int .u64 n] w fun e w' => e = .returned (.int .i64 (ofI n)) ∧ w = w' := by
  go_enter Tryz.func192, Tryz.ntmps192
  go_wp2
  all_goals go_ret
  all_goals exact ⟨ret_num (by unfold ofI; repeat' split
                               all_goals omega), rfl⟩
theorem u64_sub (a b : Int) (h : a < b) (ha : -9223372036854775808 ≤ a) (hb : b ≤ 9223372036854775807) : IntKind.u64.wrap (IntKind.u64.wrap b - IntKind.u64.wrap a) = b - a := by
  simp [IntKind.wrap, IntKind.bits, IntKind.signed]
  omega
theorem since_any (a b : Int) (w : World) (ha : -9223372036854775808 ≤ a) (hb : b ≤ 9223372036854775807) :
    Calls Tryz.prog 172 #[.int .i64 a, .int .i64 b] w fun e w' => e = .returned (.int .i64 (sinceI a b)) ∧ w = w' := by
  by_cases h : b ≤ a
  · go_enter Tryz.func172, Tryz.ntmps172
    go_wp2_with fail
    go_ret
    exact ⟨ret_num (by unfold sinceI; unfold ofI; repeat' split
                       all_goals omega), rfl⟩
  · go_enter Tryz.func172, Tryz.ntmps172
    go_wp2_with fail
    rw [u64_sub a b (by omega) ha hb]
    refine (boundedU_any _ _ (by omega) (by omega)).mono ?_
    rintro e w' ⟨rfl, rfl⟩
    go_wp2_with fail
    go_ret
    exact ⟨rfl, rfl⟩
theorem rsince_any (a b : Int) (w : World) (ha : -9223372036854775808 ≤ a) (ha2 : a ≤ 9223372036854775807) (hb2 : -9223372036854775808 ≤ b) (hb : b ≤ 9223372036854775807) :
    Calls Tryz.prog 59 #[.int .i64 a, .int .i64 b] w fun e w' => e = .returned (.int .i64 (sinceI a b)) ∧ w = w' := by
  go_enter Tryz.func59, Tryz.ntmps59
  go_wp2_with (go_at_call 106; refine (rof_any _ _).mono ?_; rintro e w' ⟨rfl, rfl⟩)
  all_goals go_ret
  all_goals exact ⟨ret_num (by unfold sinceI; unfold ofI; repeat' split
                               all_goals omega), rfl⟩
end Go.Proofs.YtfobjaccpnondaaGreatDoor

/- The tick layer's functions on texts, and the document's own. -/
namespace Go.Proofs.YtfobjaccpnondaaGreatDoor
open Go.RowKit

theorem ret_del {a b : Int} {c d : Bool} (h : a = b) (k : c = d) : Ending.returned (.tuple #[.int .i64 a, .bool c]) = .returned (.tuple #[.int .i64 b, .bool d]) := by rw [h, k]
theorem del_no {l : List UInt8} (h : l.all digC = false) : delI l = 0 ∧ isDel l = false := by
  have : isDel l = false := by unfold isDel; rw [h]; simp
  exact ⟨by unfold delI; rw [this]; rfl, this⟩
theorem del_yes {l : List UInt8} (h : l.all digC = true) : delI l = ofI (num l) ∧ isDel l = !l.isEmpty := by
  cases l with
  | nil => exact ⟨by decide, by decide⟩
  | cons a l =>
    have : isDel (a :: l) = true := by unfold isDel; rw [h]; simp
    exact ⟨by unfold delI; rw [this]; rfl, this⟩
theorem digC_no {c : UInt8} (h : digC c = false) : (c.toNat : Int) < 48 ∨ 48 ≤ (c.toNat : Int) ∧ 57 < (c.toNat : Int) := by
  unfold digC at h; have := of_decide_eq_false h; omega

set_option maxHeartbeats 400000 in
theorem delta_any (s : ByteArray) (w : World) (hs : s.size ≤ maxLen) :
    Calls Tryz.prog 165 #[.string s] w fun e w' => e = .returned (.tuple #[.int .i64 (delI s.data.toList), .bool (isDel s.data.toList)]) ∧ w = w' := by
  unfold maxLen at hs
  go_enter Tryz.func165, Tryz.ntmps165
  go_wp2_with fail
  go_loop [4, 8] (fun n i => ∃ k : Nat, k ≤ s.size ∧ i = .int .i64 k ∧ n = .int .i64 (ofI (num (s.data.toList.take k))) ∧ (s.data.toList.take k).all digC = true) (fun _ i => s.size - (intOf i).toNat)
  case atStart => exact ⟨0, Nat.zero_le _, rfl, rfl, rfl⟩
  case round =>
    obtain ⟨k, hk, rfl, rfl, ht⟩ := hrel
    have HT := Lib.hid ht; clear ht
    have g1 := ofI_lo (num (s.data.toList.take k))
    have g2 := ofI_hi (num (s.data.toList.take k))
    by_cases hlt : k < s.size
    · cases hb : digC s[k]
      · have HA := Lib.hid (all_not s digC k hlt hb)
        have hc := digC_no hb
        clear hb
        rcases hc with hc | ⟨hc0, hc⟩
        · go_wp2_with fail
          go_ret2
          exact ⟨ret_del (del_no HA.out).1.symm (del_no HA.out).2.symm, rfl⟩
        · go_wp2_with fail
          go_ret2
          exact ⟨ret_del (del_no HA.out).1.symm (del_no HA.out).2.symm, rfl⟩
      · have HA := Lib.hid (all_snoc s digC k hlt HT.out hb)
        have HN := Lib.hid (ofI_num (s.data.toList.take k) s[k] hb)
        have HS := Lib.hid (take_snoc s k hlt)
        have hc := dig_bd hb
        have hc0 : 48 ≤ (s[k].toNat : Int) := by omega
        have hc1 : (s[k].toNat : Int) ≤ 57 := by omega
        clear hb hc
        go_wp2_with (go_at_call 191; refine (bounded_any _ _).mono ?_; rintro e w' ⟨rfl, rfl⟩)
        go_round
        case rel => exact ⟨k + 1, by omega, by go_num, by rw [HS.out, ← HN.out], HA.out⟩
        case measure => simp [intOf]; omega
    · have HL := Lib.hid (take_all hlt)
      go_wp2_with fail
      go_ret2
      have h := HT.out
      rw [HL.out] at h ⊢
      exact ⟨ret_del (del_yes h).1.symm (by rw [(del_yes h).2, Lib.toList_data]), rfl⟩
end Go.Proofs.YtfobjaccpnondaaGreatDoor

/- The document's Delta, and both Puts. -/
namespace Go.Proofs.YtfobjaccpnondaaGreatDoor
open Go.RowKit

/-- from f on the text stands for the same number, and f is no nought, if it was looked at -/
def zsAt (s : ByteArray) (f k : Nat) : Prop := f ≤ k ∧ k ≤ s.size ∧ num (s.data.toList.drop f) = num s.data.toList ∧ (∀ h : f < s.size, f < k → 49 ≤ s[f].toNat)
theorem zs_start (s : ByteArray) : zsAt s 0 0 := ⟨Nat.le_refl _, Nat.zero_le _, by simp, fun _ h => absurd h (by omega)⟩
theorem zs_zero {s : ByteArray} {k : Nat} (h : zsAt s k k) (hk : k < s.size) (h0 : s[k].toNat = 48) : zsAt s (k + 1) (k + 1) := by
  refine ⟨Nat.le_refl _, hk, ?_, fun _ h => absurd h (by omega)⟩
  have h1 := h.2.2.1
  rw [drop_at hk, show s[k] = 48 from UInt8.toNat.inj h0, num_zeros] at h1
  exact h1
theorem zs_past {s : ByteArray} {f k : Nat} (h : zsAt s f k) (hk : k < s.size) (hf : f < k) : zsAt s f (k + 1) :=
  ⟨by omega, hk, h.2.2.1, fun g _ => h.2.2.2 g hf⟩
theorem zs_first {s : ByteArray} {k : Nat} (h : zsAt s k k) (hk : k < s.size) (h0 : 49 ≤ s[k].toNat) : zsAt s k (k + 1) :=
  ⟨by omega, hk, h.2.2.1, fun _ _ => h0⟩
theorem all_drop {l : List UInt8} {p : UInt8 → Bool} (h : l.all p = true) (n : Nat) : (l.drop n).all p = true := by
  rw [List.all_eq_true] at h ⊢
  exact fun x hx => h x (List.mem_of_mem_drop hx)
theorem zs_big {s : ByteArray} {f : Nat} (h : zsAt s f s.size) (hl : 10 < s.size - f) : 2147483648 < num s.data.toList := by
  have hf : f < s.size := by omega
  rw [← h.2.2.1, drop_at hf]
  refine num_big (h.2.2.2 hf hf) ?_
  rw [List.length_drop, ← size_len]; omega
theorem num_le10 {l : List UInt8} (h : l.all digC = true) (hl : l.length ≤ 10) : num l < 10000000000 :=
  Nat.lt_of_lt_of_le (num_lt l h) (Nat.pow_le_pow_right (n := 10) (by omega) hl)
/-- the bytes from f to j -/
def mid (s : ByteArray) (f j : Nat) : List UInt8 := (s.data.toList.drop f).take (j - f)
theorem mid_snoc (s : ByteArray) (f j : Nat) (h : f ≤ j) (hj : j < s.size) : mid s f (j + 1) = mid s f j ++ [s[j]] := by
  unfold mid
  rw [show j + 1 - f = (j - f) + 1 from by omega, List.take_succ_eq_append_getElem (by rw [List.length_drop, ← size_len]; omega)]
  congr 2
  rw [List.getElem_drop]
  simp [ByteArray.getElem_eq_getElem_data, show f + (j - f) = j from by omega]
theorem mid_all (s : ByteArray) (f : Nat) (j : Nat) (h : ¬ j < s.size) : mid s f j = s.data.toList.drop f := by
  unfold mid; exact List.take_of_length_le (by rw [List.length_drop, ← size_len]; omega)
theorem mid_dig {s : ByteArray} (h : s.data.toList.all digC = true) (f j : Nat) : (mid s f j).all digC = true := by
  have := all_drop h f
  unfold mid
  rw [List.all_eq_true] at this ⊢
  exact fun x hx => this x (List.mem_of_mem_take hx)
theorem num_mid {s : ByteArray} {f j : Nat} (h : s.data.toList.all digC = true) (hf : f ≤ j) (hj : j < s.size) (hl : s.size - f ≤ 10) : num (mid s f j) < 10000000000 :=
  num_le10 (mid_dig h f j) (by unfold mid; rw [List.length_take]; omega)

set_option maxHeartbeats 1000000 in
theorem rdelta_any (s : ByteArray) (w : World) (hs : s.size ≤ maxLen) :
    Calls Tryz.prog 105 #[.string s] w fun e w' => e = .returned (.tuple #[.int .i64 (delI s.data.toList), .bool (isDel s.data.toList)]) ∧ w = w' := by
  unfold maxLen at hs
  cases he : s.toList.isEmpty
  case true =>
    have hn : s.data.toList = [] := by rw [Lib.toList_data] at he; simpa using he
    have HD := Lib.hid (show delI s.data.toList = 0 ∧ isDel s.data.toList = false by rw [hn]; decide)
    clear hn
    go_enter Tryz.func105, Tryz.ntmps105
    go_wp2_with fail
    go_ret2
    exact ⟨ret_del HD.out.1.symm HD.out.2.symm, rfl⟩
  case false =>
  have hpos : 0 < s.size := by
    rcases Nat.eq_zero_or_pos s.size with h | h
    · have hn : s.data.toList = [] := List.eq_nil_of_length_eq_zero (by rw [← size_len]; exact h)
      rw [Lib.toList_data, hn] at he; cases he
    · exact h
  have HE : Hid ((!s.data.toList.isEmpty) = true) := by rw [Lib.toList_data] at he; rw [he]; rfl
  go_enter Tryz.func105, Tryz.ntmps105
  go_wp2_with fail
  clear he
  go_loop [4, 5] (fun f i => ∃ a k : Nat, i = .int .i64 k ∧ f = .int .i64 a ∧ a ≤ k ∧ k ≤ s.size ∧ Hid (zsAt s a k) ∧ Hid ((s.data.toList.take k).all digC = true)) (fun _ i => s.size - (intOf i).toNat)
  case atStart => exact ⟨0, 0, rfl, rfl, by omega, by omega, zs_start s, rfl⟩
  case round =>
    obtain ⟨a, k, rfl, rfl, hak, hk, HZ, HT⟩ := hrel
    by_cases hlt : k < s.size
    · cases hb : digC s[k]
      · have HA := Lib.hid (all_not s digC k hlt hb)
        have hc := digC_no hb
        clear hb
        rcases hc with hc | ⟨hc0, hc⟩
        · go_wp2_with fail
          go_ret2
          exact ⟨ret_del (del_no HA.out).1.symm (del_no HA.out).2.symm, rfl⟩
        · go_wp2_with fail
          go_ret2
          exact ⟨ret_del (del_no HA.out).1.symm (del_no HA.out).2.symm, rfl⟩
      · have HA := Lib.hid (all_snoc s digC k hlt HT.out hb)
        have hc := dig_bd hb
        have hc0 : 48 ≤ (s[k].toNat : Int) := by omega
        have hc1 : (s[k].toNat : Int) ≤ 57 := by omega
        by_cases h0 : s[k].toNat = 48
        · have h0b : ((s[k].toNat : Int) == 48) = true := by simp [h0]
          by_cases hf : a = k
          · subst hf
            have HZ2 := Lib.hid (zs_zero HZ.out hlt h0)
            clear hb hc h0
            go_wp2_with fail
            go_round
            case rel => exact ⟨a + 1, a + 1, by go_num, by go_num, by omega, by omega, HZ2.out, HA⟩
            case measure => simp [intOf]; omega
          · have hfb : ((a : Int) == (k : Int)) = false := by rw [beq_eq_false_iff_ne]; omega
            have HZ2 := Lib.hid (zs_past HZ.out hlt (by omega))
            clear hb hc h0
            go_wp2_with fail
            go_round
            case rel => exact ⟨a, k + 1, by go_num, by go_num, by omega, by omega, HZ2.out, HA⟩
            case measure => simp [intOf]; omega
        · have h0b : ((s[k].toNat : Int) == 48) = false := by rw [beq_eq_false_iff_ne]; omega
          have HZ2 : Hid (zsAt s a (k + 1)) := by
            by_cases hf : a = k
            · subst hf; exact zs_first HZ.out hlt (by omega)
            · exact zs_past HZ.out hlt (by omega)
          clear hb hc h0
          go_wp2_with fail
          go_round
          case rel => exact ⟨a, k + 1, by go_num, by go_num, by omega, by omega, HZ2.out, HA⟩
          case measure => simp [intOf]; omega
    · have HL := Lib.hid (take_all hlt)
      obtain rfl : k = s.size := by omega
      have HB : Hid (s.data.toList.all digC = true) := by have h := HT.out; rw [HL.out] at h; exact h
      clear HL HT
      by_cases hbig : 10 < s.size - a
      · have hbig2 : (10 : Int) < (s.size : Int) - (a : Int) := by omega
        have HG := Lib.hid (zs_big HZ.out hbig)
        clear hbig
        go_wp2_with fail
        go_ret2
        exact ⟨ret_del (by rw [(del_yes HB.out).1, ofI_big (by have := HG.out; omega)]) (by rw [(del_yes HB.out).2, HE.out]), rfl⟩
      · have hbig2 : ¬ (10 : Int) < (s.size : Int) - (a : Int) := by omega
        go_wp2_with fail
        go_loop [6, 7] (fun n i => ∃ j : Nat, i = .int .i64 j ∧ n = .int .i64 (num (mid s a j)) ∧ a ≤ j ∧ j ≤ s.size) (fun _ i => s.size - (intOf i).toNat)
        case atStart => exact ⟨a, rfl, by simp [mid, num], by omega, by omega⟩
        case round =>
          obtain ⟨j, rfl, rfl, haj, hj⟩ := hrel
          by_cases hlt2 : j < s.size
          · have hm := num_mid HB.out haj hlt2 (by omega)
            have hd := dig_bd (List.all_eq_true.1 HB.out _ (mem_at s j hlt2))
            have hd0 : 48 ≤ (s[j].toNat : Int) := by omega
            have hd1 : (s[j].toNat : Int) ≤ 57 := by omega
            have HS : Hid ((num (mid s a (j + 1)) : Int) = 10 * (num (mid s a j) : Int) + ((s[j].toNat : Int) - 48)) := by
              show _ = _
              rw [mid_snoc s a j haj hlt2, num_snoc]; omega
            clear hd
            go_wp2_with fail
            go_round
            case rel => exact ⟨j + 1, by go_num, by rw [HS.out], by omega, by omega⟩
            case measure => simp [intOf]; omega
          · have HM := Lib.hid (mid_all s a j hlt2)
            go_wp2_with (go_at_call 106; refine (rof_any _ _).mono ?_; rintro e w' ⟨rfl, rfl⟩)
            go_ret2
            exact ⟨ret_del (by rw [HM.out, HZ.out.2.2.1, (del_yes HB.out).1]) (by rw [(del_yes HB.out).2, HE.out]), rfl⟩
end Go.Proofs.YtfobjaccpnondaaGreatDoor
