/- The document's Delta, and both Puts. -/
import Derived.Test.YtonioemenjjajaaTickB
namespace Go.Proofs.Ytonioemenjjajaa
open Go.RowKit

/-- from f on the text stands for the same number, and f is no nought, if it was looked at -/
def zsAt (s : ByteArray) (f k : Nat) : Prop := f ≤ k ∧ k ≤ s.size ∧ num (s.data.toList.drop f) = num s.data.toList ∧ (∀ h : f < s.size, f < k → 49 ≤ s[f].toNat)
theorem zs_start (s : ByteArray) : zsAt s 0 0 := ⟨Nat.le_refl _, Nat.zero_le _, by simp, fun _ h => absurd h (by omega)⟩
theorem zs_zero {s : ByteArray} {k : Nat} (h : zsAt s k k) (hk : k < s.size) (h0 : s[k].toNat = 48) : zsAt s (k + 1) (k + 1) := by
  refine ⟨Nat.le_refl _, hk, ?_, fun _ h => absurd h (by omega)⟩
  have h1 := h.2.2.1
  rw [drop_at hk, show s[k] = 48 from UInt8.toNat.inj h0, num_zeros] at h1
  exact h1
theorem zs_past {s : ByteArray} {f k : Nat} (h : zsAt s f k) (hk : k < s.size) (hf : f < k) : zsAt s f (k + 1) :=
  ⟨by omega, hk, h.2.2.1, fun g _ => h.2.2.2 g hf⟩
theorem zs_first {s : ByteArray} {k : Nat} (h : zsAt s k k) (hk : k < s.size) (h0 : 49 ≤ s[k].toNat) : zsAt s k (k + 1) :=
  ⟨by omega, hk, h.2.2.1, fun _ _ => h0⟩
theorem all_drop {l : List UInt8} {p : UInt8 → Bool} (h : l.all p = true) (n : Nat) : (l.drop n).all p = true := by
  rw [List.all_eq_true] at h ⊢
  exact fun x hx => h x (List.mem_of_mem_drop hx)
theorem zs_big {s : ByteArray} {f : Nat} (h : zsAt s f s.size) (hl : 10 < s.size - f) : 2147483648 < num s.data.toList := by
  have hf : f < s.size := by omega
  rw [← h.2.2.1, drop_at hf]
  refine num_big (h.2.2.2 hf hf) ?_
  rw [List.length_drop, ← size_len]; omega
theorem num_le10 {l : List UInt8} (h : l.all digC = true) (hl : l.length ≤ 10) : num l < 10000000000 :=
  Nat.lt_of_lt_of_le (num_lt l h) (Nat.pow_le_pow_right (n := 10) (by omega) hl)
/-- the bytes from f to j -/
def mid (s : ByteArray) (f j : Nat) : List UInt8 := (s.data.toList.drop f).take (j - f)
theorem mid_snoc (s : ByteArray) (f j : Nat) (h : f ≤ j) (hj : j < s.size) : mid s f (j + 1) = mid s f j ++ [s[j]] := by
  unfold mid
  rw [show j + 1 - f = (j - f) + 1 from by omega, List.take_succ_eq_append_getElem (by rw [List.length_drop, ← size_len]; omega)]
  congr 2
  rw [List.getElem_drop]
  simp [ByteArray.getElem_eq_getElem_data, show f + (j - f) = j from by omega]
theorem mid_all (s : ByteArray) (f : Nat) (j : Nat) (h : ¬ j < s.size) : mid s f j = s.data.toList.drop f := by
  unfold mid; exact List.take_of_length_le (by rw [List.length_drop, ← size_len]; omega)
theorem mid_dig {s : ByteArray} (h : s.data.toList.all digC = true) (f j : Nat) : (mid s f j).all digC = true := by
  have := all_drop h f
  unfold mid
  rw [List.all_eq_true] at this ⊢
  exact fun x hx => this x (List.mem_of_mem_take hx)
theorem num_mid {s : ByteArray} {f j : Nat} (h : s.data.toList.all digC = true) (hf : f ≤ j) (hj : j < s.size) (hl : s.size - f ≤ 10) : num (mid s f j) < 10000000000 :=
  num_le10 (mid_dig h f j) (by unfold mid; rw [List.length_take]; omega)

set_option maxHeartbeats 1000000 in
theorem rdelta_any (s : ByteArray) (w : World) (hs : s.size ≤ maxLen) :
    Calls Try.prog 49 #[.string s] w fun e w' => e = .returned (.tuple #[.int .i64 (delI s.data.toList), .bool (isDel s.data.toList)]) ∧ w = w' := by
  unfold maxLen at hs
  cases he : s.toList.isEmpty
  case true =>
    have hn : s.data.toList = [] := by rw [Lib.toList_data] at he; simpa using he
    have HD := Lib.hid (show delI s.data.toList = 0 ∧ isDel s.data.toList = false by rw [hn]; decide)
    clear hn
    go_enter Try.func49, Try.ntmps49
    go_wp2_with fail
    go_ret2
    exact ⟨ret_del HD.out.1.symm HD.out.2.symm, rfl⟩
  case false =>
  have hpos : 0 < s.size := by
    rcases Nat.eq_zero_or_pos s.size with h | h
    · have hn : s.data.toList = [] := List.eq_nil_of_length_eq_zero (by rw [← size_len]; exact h)
      rw [Lib.toList_data, hn] at he; cases he
    · exact h
  have HE : Hid ((!s.data.toList.isEmpty) = true) := by rw [Lib.toList_data] at he; rw [he]; rfl
  go_enter Try.func49, Try.ntmps49
  go_wp2_with fail
  clear he
  go_loop [4, 5] (fun f i => ∃ a k : Nat, i = .int .i64 k ∧ f = .int .i64 a ∧ a ≤ k ∧ k ≤ s.size ∧ Hid (zsAt s a k) ∧ Hid ((s.data.toList.take k).all digC = true)) (fun _ i => s.size - (intOf i).toNat)
  case atStart => exact ⟨0, 0, rfl, rfl, by omega, by omega, zs_start s, rfl⟩
  case round =>
    obtain ⟨a, k, rfl, rfl, hak, hk, HZ, HT⟩ := hrel
    by_cases hlt : k < s.size
    · cases hb : digC s[k]
      · have HA := Lib.hid (all_not s digC k hlt hb)
        have hc := digC_no hb
        clear hb
        rcases hc with hc | ⟨hc0, hc⟩
        · go_wp2_with fail
          go_ret2
          exact ⟨ret_del (del_no HA.out).1.symm (del_no HA.out).2.symm, rfl⟩
        · go_wp2_with fail
          go_ret2
          exact ⟨ret_del (del_no HA.out).1.symm (del_no HA.out).2.symm, rfl⟩
      · have HA := Lib.hid (all_snoc s digC k hlt HT.out hb)
        have hc := dig_bd hb
        have hc0 : 48 ≤ (s[k].toNat : Int) := by omega
        have hc1 : (s[k].toNat : Int) ≤ 57 := by omega
        by_cases h0 : s[k].toNat = 48
        · have h0b : ((s[k].toNat : Int) == 48) = true := by simp [h0]
          by_cases hf : a = k
          · subst hf
            have HZ2 := Lib.hid (zs_zero HZ.out hlt h0)
            clear hb hc h0
            go_wp2_with fail
            go_round
            case rel => exact ⟨a + 1, a + 1, by go_num, by go_num, by omega, by omega, HZ2.out, HA⟩
            case measure => simp [intOf]; omega
          · have hfb : ((a : Int) == (k : Int)) = false := by rw [beq_eq_false_iff_ne]; omega
            have HZ2 := Lib.hid (zs_past HZ.out hlt (by omega))
            clear hb hc h0
            go_wp2_with fail
            go_round
            case rel => exact ⟨a, k + 1, by go_num, by go_num, by omega, by omega, HZ2.out, HA⟩
            case measure => simp [intOf]; omega
        · have h0b : ((s[k].toNat : Int) == 48) = false := by rw [beq_eq_false_iff_ne]; omega
          have HZ2 : Hid (zsAt s a (k + 1)) := by
            by_cases hf : a = k
            · subst hf; exact zs_first HZ.out hlt (by omega)
            · exact zs_past HZ.out hlt (by omega)
          clear hb hc h0
          go_wp2_with fail
          go_round
          case rel => exact ⟨a, k + 1, by go_num, by go_num, by omega, by omega, HZ2.out, HA⟩
          case measure => simp [intOf]; omega
    · have HL := Lib.hid (take_all hlt)
      obtain rfl : k = s.size := by omega
      have HB : Hid (s.data.toList.all digC = true) := by have h := HT.out; rw [HL.out] at h; exact h
      clear HL HT
      by_cases hbig : 10 < s.size - a
      · have hbig2 : (10 : Int) < (s.size : Int) - (a : Int) := by omega
        have HG := Lib.hid (zs_big HZ.out hbig)
        clear hbig
        go_wp2_with fail
        go_ret2
        exact ⟨ret_del (by rw [(del_yes HB.out).1, ofI_big (by have := HG.out; omega)]) (by rw [(del_yes HB.out).2, HE.out]), rfl⟩
      · have hbig2 : ¬ (10 : Int) < (s.size : Int) - (a : Int) := by omega
        go_wp2_with fail
        go_loop [6, 7] (fun n i => ∃ j : Nat, i = .int .i64 j ∧ n = .int .i64 (num (mid s a j)) ∧ a ≤ j ∧ j ≤ s.size) (fun _ i => s.size - (intOf i).toNat)
        case atStart => exact ⟨a, rfl, by simp [mid, num], by omega, by omega⟩
        case round =>
          obtain ⟨j, rfl, rfl, haj, hj⟩ := hrel
          by_cases hlt2 : j < s.size
          · have hm := num_mid HB.out haj hlt2 (by omega)
            have hd := dig_bd (List.all_eq_true.1 HB.out _ (mem_at s j hlt2))
            have hd0 : 48 ≤ (s[j].toNat : Int) := by omega
            have hd1 : (s[j].toNat : Int) ≤ 57 := by omega
            have HS : Hid ((num (mid s a (j + 1)) : Int) = 10 * (num (mid s a j) : Int) + ((s[j].toNat : Int) - 48)) := by
              show _ = _
              rw [mid_snoc s a j haj hlt2, num_snoc]; omega
            clear hd
            go_wp2_with fail
            go_round
            case rel => exact ⟨j + 1, by go_num, by rw [HS.out], by omega, by omega⟩
            case measure => simp [intOf]; omega
          · have HM := Lib.hid (mid_all s a j hlt2)
            go_wp2_with (go_at_call 66; refine (rof_any _ _).mono ?_; rintro e w' ⟨rfl, rfl⟩)
            go_ret2
            exact ⟨ret_del (by rw [HM.out, HZ.out.2.2.1, (del_yes HB.out).1]) (by rw [(del_yes HB.out).2, HE.out]), rfl⟩
end Go.Proofs.Ytonioemenjjajaa
