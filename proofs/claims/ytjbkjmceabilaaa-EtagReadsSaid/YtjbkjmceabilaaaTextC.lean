/- Blanks at both ends by the document; what may stand in a quoted text; texts in quotes. -/
import Derived.Test.YtjbkjmceabilaaaTextB
namespace Go.Proofs.Ytjbkjmceabilaaa
open Go.RowKit

set_option maxHeartbeats 800000 in
theorem rtrim_any (s : ByteArray) (w : World) (hs : s.size ≤ maxLen) :
    Calls Try.prog 33 #[.string s] w fun e w' => e = .returned (.string (bs (trim s.data.toList))) ∧ w = w' := by
  unfold maxLen at hs
  go_enter Try.func33, Try.ntmps33
  go_upto_block 0 with fail
  go_cut [3] (fun v wx => ∃ k : Nat, v = .int .i64 k ∧ k ≤ s.size ∧ s.data.toList.drop k = ltrim s.data.toList ∧ wx = w)
  case first =>
    go_wp2_with fail
    go_loop [3] (fun v => ∃ k : Nat, v = .int .i64 k ∧ k ≤ s.size ∧ ltrim (s.data.toList.drop k) = ltrim s.data.toList) (fun v => s.size - (intOf v).toNat)
    case atStart => exact ⟨0, rfl, Nat.zero_le _, rfl⟩
    case round =>
      obtain ⟨k, rfl, hk, hl⟩ := hrel
      have HL := Lib.hid hl; clear hl
      rcases ltrim_at s k hk with ⟨h0, hb, hst⟩ | ⟨h0, hb, hst⟩ | ⟨h0, hst⟩
      · have HS := Lib.hid hst; clear hst
        rcases hb with hb | ⟨hb, hb2⟩
        all_goals
          go_wp2_with fail
          go_round
          case rel => exact ⟨k + 1, by go_num, by omega, by rw [HS.out, HL.out]⟩
          case measure => simp [intOf]; omega
      · have HS := Lib.hid hst; clear hst
        obtain ⟨hb, hb2⟩ := hb
        go_wp2_with fail
        go_meet
        exact ⟨k, rfl, hk, by rw [← HS.out, HL.out], rfl⟩
      · have HS := Lib.hid hst; clear hst
        go_wp2_with fail
        go_meet
        exact ⟨k, rfl, hk, by rw [← HS.out, HL.out], rfl⟩
  case rest =>
    obtain ⟨k, rfl, hk, htl, rfl⟩ := hcut
    have HT := Lib.hid htl; clear htl
    go_wp2_with fail
    go_loop [4] (fun v => ∃ m : Nat, v = .int .i64 m ∧ k ≤ m ∧ m ≤ s.size ∧ rtrim ((s.data.toList.drop k).take (m - k)) = rtrim (s.data.toList.drop k)) (fun v => (intOf v).toNat)
    case atStart => exact ⟨s.size, rfl, hk, Nat.le_refl _, by rw [List.take_of_length_le (by simp)]⟩
    case round =>
      obtain ⟨m, rfl, hkm, hm, hl⟩ := hrel
      have HL := Lib.hid hl; clear hl
      rcases rtrim_at s k m hkm hm with ⟨h0, hb, hst⟩ | ⟨h0, hb, hst⟩ | ⟨h0, hst⟩
      · have HS := Lib.hid hst; clear hst
        have h1 : (1 : Nat) ≤ m := by omega
        rcases hb with hb | ⟨hb, hb2⟩
        all_goals
          go_wp2_with fail
          go_round
          case rel => exact ⟨m - 1, by go_num, by omega, by omega, by rw [HS.out, HL.out]⟩
          case measure => simp [intOf]; omega
      · have HS := Lib.hid hst; clear hst
        obtain ⟨hb, hb2⟩ := hb
        go_wp2_with fail
        go_ret
        exact ⟨ret_str (bs_of (by rw [Lib.extract_data, ← HS.out, HL.out, HT.out]; rfl)), rfl⟩
      · have HS := Lib.hid hst; clear hst
        go_wp2_with fail
        go_ret
        exact ⟨ret_str (bs_of (by rw [Lib.extract_data, ← HS.out, HL.out, HT.out]; rfl)), rfl⟩


end Go.Proofs.Ytjbkjmceabilaaa
