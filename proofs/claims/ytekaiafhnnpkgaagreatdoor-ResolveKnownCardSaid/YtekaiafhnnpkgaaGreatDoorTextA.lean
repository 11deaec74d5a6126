/- The text layer's functions on single bytes and whole texts, and the document's own: what each of them answers. -/
import Derived.Test.YtekaiafhnnpkgaaGreatDoorBytes
import Derived.Deep.QuietTactic
import Derived.BigQuiet
import Derived.Outline
import Derived.Deep.CutBlock
import Derived.Deep.DeepCutAuto
namespace Go.Proofs.YtekaiafhnnpkgaaGreatDoor
open Go.RowKit



set_option maxHeartbeats 400000 in
theorem in_any (c : Int) (s : ByteArray) (w : World) (hs : s.size ≤ maxLen) :
    Calls Tryz.prog 90 #[.int .u8 c, .string s] w fun e w' => e = .returned (.bool (inI c s.data.toList)) ∧ w = w' := by
  unfold maxLen at hs
  go_enter Tryz.func90, Tryz.ntmps90
  go_wp2_with fail
  go_loop [5] (fun i => ∃ k : Nat, k ≤ s.size ∧ i = .int .i64 k ∧ inI c (s.data.toList.take k) = false) (fun i => s.size - (intOf i).toNat)
  case atStart => exact ⟨0, Nat.zero_le _, rfl, rfl⟩
  case round =>
    obtain ⟨k, hk, rfl, ht⟩ := hrel
    have HT := Lib.hid ht; clear ht
    by_cases hlt : k < s.size
    · cases hb : ((s[k].toNat : Int) == c)
      · have HA := Lib.hid (any_snoc s (fun b => (b.toNat : Int) == c) k hlt HT.out hb)
        go_wp2_with fail
        go_round
        case rel => exact ⟨k + 1, by omega, by go_num, HA.out⟩
        case measure => simp [intOf]; omega
      · have HA := Lib.hid (any_is s (fun b => (b.toNat : Int) == c) k hlt hb)
        go_wp2_with fail
        go_ret
        exact ⟨ret_bool (by unfold inI; rw [HA.out]), rfl⟩
    · go_wp2_with fail
      go_ret
      exact ⟨ret_bool (by have h := HT.out; rw [take_all hlt] at h; exact h.symm), rfl⟩

set_option maxHeartbeats 400000 in
theorem letter_any (n : Int) (w : World) :
    Calls Tryz.prog 61 #[.int .u8 n] w fun e w' => e = .returned (.bool (lettI n)) ∧ w = w' := by
  go_enter Tryz.func61, Tryz.ntmps61
  go_wp2
  all_goals go_ret
  all_goals refine ⟨ret_bool ?_, rfl⟩
  all_goals unfold lettI
  all_goals rw [Bool.eq_iff_iff]
  all_goals simp
  all_goals omega

end Go.Proofs.YtekaiafhnnpkgaaGreatDoor
