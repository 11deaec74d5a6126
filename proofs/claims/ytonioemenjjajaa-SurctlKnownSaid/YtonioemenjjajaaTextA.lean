/- The text layer's functions on single bytes and whole texts, and the document's own: what each of them answers. -/
import Derived.Test.YtonioemenjjajaaBytes
import Derived.Deep.QuietTactic
import Derived.BigQuiet
import Derived.Outline
import Derived.Deep.CutBlock
import Derived.Deep.DeepCutAuto
namespace Go.Proofs.Ytonioemenjjajaa
open Go.RowKit

set_option maxHeartbeats 400000 in
theorem tokenByte_any (n : Int) (w : World) :
    Calls Try.prog 32 #[.int .u8 n] w fun e w' => e = .returned (.bool (tokI n)) ∧ w = w' := by
  go_enter Try.func32, Try.ntmps32
  go_wp2
  all_goals go_ret
  all_goals refine ⟨ret_bool ?_, rfl⟩
  all_goals simp only [beq_eq_false_iff_ne, beq_iff_eq, ne_eq] at *
  all_goals unfold tokI
  all_goals rw [Bool.eq_iff_iff]
  all_goals simp
  all_goals omega

set_option maxHeartbeats 400000 in
theorem token_any (s : ByteArray) (w : World) (hs : s.size ≤ maxLen) :
    Calls Try.prog 20 #[.string s] w fun e w' => e = .returned (.bool (token s.data.toList)) ∧ w = w' := by
  unfold maxLen at hs
  go_enter Try.func20, Try.ntmps20
  go_wp2_with fail
  go_loop [6] (fun i => ∃ k : Nat, k ≤ s.size ∧ i = .int .i64 k ∧ (s.data.toList.take k).all tokB = true) (fun i => s.size - (intOf i).toNat)
  case atStart => exact ⟨0, Nat.zero_le _, rfl, rfl⟩
  case round =>
    obtain ⟨k, hk, rfl, ht⟩ := hrel
    have HT := Lib.hid ht; clear ht
    by_cases hlt : k < s.size
    · cases hb : tokB s[k]
      · have hb' : tokI (s[k].toNat : Int) = false := hb
        have HA := Lib.hid (all_not s tokB k hlt hb)
        clear hb
        go_wp2_with (go_at_call 32; refine (tokenByte_any _ _).mono ?_; rintro e w' ⟨rfl, rfl⟩)
        go_ret
        exact ⟨ret_bool (by unfold token; rw [HA.out]; simp), rfl⟩
      · have hb' : tokI (s[k].toNat : Int) = true := hb
        have HA := Lib.hid (all_snoc s tokB k hlt HT.out hb)
        clear hb
        go_wp2_with (go_at_call 32; refine (tokenByte_any _ _).mono ?_; rintro e w' ⟨rfl, rfl⟩)
        go_round
        case rel => exact ⟨k + 1, by omega, by go_num, HA.out⟩
        case measure => simp [intOf]; omega
    · go_wp2_with fail
      go_ret
      exact ⟨ret_bool (by have h := HT.out; rw [take_all hlt] at h; unfold token; rw [h, Lib.toList_data]; simp), rfl⟩

set_option maxHeartbeats 400000 in
theorem in_any (c : Int) (s : ByteArray) (w : World) (hs : s.size ≤ maxLen) :
    Calls Try.prog 51 #[.int .u8 c, .string s] w fun e w' => e = .returned (.bool (inI c s.data.toList)) ∧ w = w' := by
  unfold maxLen at hs
  go_enter Try.func51, Try.ntmps51
  go_wp2_with fail
  go_loop [5] (fun i => ∃ k : Nat, k ≤ s.size ∧ i = .int .i64 k ∧ inI c (s.data.toList.take k) = false) (fun i => s.size - (intOf i).toNat)
  case atStart => exact ⟨0, Nat.zero_le _, rfl, rfl⟩
  case round =>
    obtain ⟨k, hk, rfl, ht⟩ := hrel
    have HT := Lib.hid ht; clear ht
    by_cases hlt : k < s.size
    · cases hb : ((s[k].toNat : Int) == c)
      · have HA := Lib.hid (any_snoc s (fun b => (b.toNat : Int) == c) k hlt HT.out hb)
        go_wp2_with fail
        go_round
        case rel => exact ⟨k + 1, by omega, by go_num, HA.out⟩
        case measure => simp [intOf]; omega
      · have HA := Lib.hid (any_is s (fun b => (b.toNat : Int) == c) k hlt hb)
        go_wp2_with fail
        go_ret
        exact ⟨ret_bool (by unfold inI; rw [HA.out]), rfl⟩
    · go_wp2_with fail
      go_ret
      exact ⟨ret_bool (by have h := HT.out; rw [take_all hlt] at h; exact h.symm), rfl⟩

set_option maxHeartbeats 400000 in
theorem letter_any (n : Int) (w : World) :
    Calls Try.prog 50 #[.int .u8 n] w fun e w' => e = .returned (.bool (lettI n)) ∧ w = w' := by
  go_enter Try.func50, Try.ntmps50
  go_wp2
  all_goals go_ret
  all_goals refine ⟨ret_bool ?_, rfl⟩
  all_goals unfold lettI
  all_goals rw [Bool.eq_iff_iff]
  all_goals simp
  all_goals omega

set_option maxHeartbeats 400000 in
theorem rtoken_any (s : ByteArray) (w : World) (hs : s.size ≤ maxLen) :
    Calls Try.prog 31 #[.string s] w fun e w' => e = .returned (.bool (token s.data.toList)) ∧ w = w' := by
  unfold maxLen at hs
  go_enter Try.func31, Try.ntmps31
  go_wp2_with fail
  go_loop [3] (fun i => ∃ k : Nat, k ≤ s.size ∧ i = .int .i64 k ∧ (s.data.toList.take k).all tokB = true) (fun i => s.size - (intOf i).toNat)
  case atStart => exact ⟨0, Nat.zero_le _, rfl, rfl⟩
  case round =>
    obtain ⟨k, hk, rfl, ht⟩ := hrel
    have HT := Lib.hid ht; clear ht
    by_cases hlt : k < s.size
    · rcases tok_cases s[k] with ⟨hb, h1⟩ | ⟨hb, h1, h2⟩ | ⟨hb, h1, h2⟩
      · have HA := Lib.hid (all_snoc s tokB k hlt HT.out hb)
        clear hb
        go_wp2_with (first | (go_at_call 50; refine (letter_any _ _).mono ?_; rintro e w' ⟨rfl, rfl⟩) | (go_at_call 51; refine (in_any _ _ _ (by decide)).mono ?_; rintro e w' ⟨rfl, rfl⟩))
        go_round
        case rel => exact ⟨k + 1, by omega, by go_num, HA.out⟩
        case measure => simp [intOf]; omega
      · have HA := Lib.hid (all_snoc s tokB k hlt HT.out hb)
        have h3 : inI (s[k].toNat : Int) [33, 35, 36, 37, 38, 39, 42, 43, 45, 46, 94, 95, 96, 124, 126] = true := h2
        clear hb h2
        go_wp2_with (first | (go_at_call 50; refine (letter_any _ _).mono ?_; rintro e w' ⟨rfl, rfl⟩) | (go_at_call 51; refine (in_any _ _ _ (by decide)).mono ?_; rintro e w' ⟨rfl, rfl⟩))
        go_round
        case rel => exact ⟨k + 1, by omega, by go_num, HA.out⟩
        case measure => simp [intOf]; omega
      · have HA := Lib.hid (all_not s tokB k hlt hb)
        have h3 : inI (s[k].toNat : Int) [33, 35, 36, 37, 38, 39, 42, 43, 45, 46, 94, 95, 96, 124, 126] = false := h2
        clear hb h2
        go_wp2_with (first | (go_at_call 50; refine (letter_any _ _).mono ?_; rintro e w' ⟨rfl, rfl⟩) | (go_at_call 51; refine (in_any _ _ _ (by decide)).mono ?_; rintro e w' ⟨rfl, rfl⟩))
        go_ret
        exact ⟨ret_bool (by unfold token; rw [HA.out]; simp), rfl⟩
    · go_wp2_with fail
      go_ret
      exact ⟨ret_bool (by have h := HT.out; rw [take_all hlt] at h; unfold token; rw [h, ← len_pos]; simp), rfl⟩
end Go.Proofs.Ytonioemenjjajaa
