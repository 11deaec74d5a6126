/- The tick layer's functions on texts, and the document's own. -/
import Derived.Test.YtonioemenjjajaaTickA
import Derived.Test.YtonioemenjjajaaText0
namespace Go.Proofs.Ytonioemenjjajaa
open Go.RowKit

theorem ret_del {a b : Int} {c d : Bool} (h : a = b) (k : c = d) : Ending.returned (.tuple #[.int .i64 a, .bool c]) = .returned (.tuple #[.int .i64 b, .bool d]) := by rw [h, k]
theorem del_no {l : List UInt8} (h : l.all digC = false) : delI l = 0 ∧ isDel l = false := by
  have : isDel l = false := by unfold isDel; rw [h]; simp
  exact ⟨by unfold delI; rw [this]; rfl, this⟩
theorem del_yes {l : List UInt8} (h : l.all digC = true) : delI l = ofI (num l) ∧ isDel l = !l.isEmpty := by
  cases l with
  | nil => exact ⟨by decide, by decide⟩
  | cons a l =>
    have : isDel (a :: l) = true := by unfold isDel; rw [h]; simp
    exact ⟨by unfold delI; rw [this]; rfl, this⟩
theorem digC_no {c : UInt8} (h : digC c = false) : (c.toNat : Int) < 48 ∨ 48 ≤ (c.toNat : Int) ∧ 57 < (c.toNat : Int) := by
  unfold digC at h; have := of_decide_eq_false h; omega

set_option maxHeartbeats 400000 in
theorem delta_any (s : ByteArray) (w : World) (hs : s.size ≤ maxLen) :
    Calls Try.prog 65 #[.string s] w fun e w' => e = .returned (.tuple #[.int .i64 (delI s.data.toList), .bool (isDel s.data.toList)]) ∧ w = w' := by
  unfold maxLen at hs
  go_enter Try.func65, Try.ntmps65
  go_wp2_with fail
  go_loop [4, 8] (fun n i => ∃ k : Nat, k ≤ s.size ∧ i = .int .i64 k ∧ n = .int .i64 (ofI (num (s.data.toList.take k))) ∧ (s.data.toList.take k).all digC = true) (fun _ i => s.size - (intOf i).toNat)
  case atStart => exact ⟨0, Nat.zero_le _, rfl, rfl, rfl⟩
  case round =>
    obtain ⟨k, hk, rfl, rfl, ht⟩ := hrel
    have HT := Lib.hid ht; clear ht
    have g1 := ofI_lo (num (s.data.toList.take k))
    have g2 := ofI_hi (num (s.data.toList.take k))
    by_cases hlt : k < s.size
    · cases hb : digC s[k]
      · have HA := Lib.hid (all_not s digC k hlt hb)
        have hc := digC_no hb
        clear hb
        rcases hc with hc | ⟨hc0, hc⟩
        · go_wp2_with fail
          go_ret2
          exact ⟨ret_del (del_no HA.out).1.symm (del_no HA.out).2.symm, rfl⟩
        · go_wp2_with fail
          go_ret2
          exact ⟨ret_del (del_no HA.out).1.symm (del_no HA.out).2.symm, rfl⟩
      · have HA := Lib.hid (all_snoc s digC k hlt HT.out hb)
        have HN := Lib.hid (ofI_num (s.data.toList.take k) s[k] hb)
        have HS := Lib.hid (take_snoc s k hlt)
        have hc := dig_bd hb
        have hc0 : 48 ≤ (s[k].toNat : Int) := by omega
        have hc1 : (s[k].toNat : Int) ≤ 57 := by omega
        clear hb hc
        go_wp2_with (go_at_call 73; refine (bounded_any _ _).mono ?_; rintro e w' ⟨rfl, rfl⟩)
        go_round
        case rel => exact ⟨k + 1, by omega, by go_num, by rw [HS.out, ← HN.out], HA.out⟩
        case measure => simp [intOf]; omega
    · have HL := Lib.hid (take_all hlt)
      go_wp2_with fail
      go_ret2
      have h := HT.out
      rw [HL.out] at h ⊢
      exact ⟨ret_del (del_yes h).1.symm (by rw [(del_yes h).2, Lib.toList_data]), rfl⟩
end Go.Proofs.Ytonioemenjjajaa
