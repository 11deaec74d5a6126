/- Which lists of fields may be: the fields layer's Check, and the document's own. -/
import Derived.Test.YtoengnefdndgfaaDoorFieldsB
namespace Go.Proofs.YtoengnefdndgfaaDoor
open Go.RowKit

/-- no field of a list is too long to be read -/
def smallF (l : List Fld) : Prop := ∀ j (hj : j < l.length), l[j].1.length ≤ 4294967296 ∧ l[j].2.length ≤ 4294967296


set_option maxHeartbeats 400000 in
theorem rlong_any (f : Fld) (w : World) (h1 : f.1.length ≤ 4294967296) (h2 : f.2.length ≤ 4294967296) :
    Calls Tryd.prog 51 #[fv f] w fun e w' => e = .returned (.bool (longF f)) ∧ Below w.heap.size w w' := by
  obtain ⟨n, v⟩ := f; simp only at h1 h2
  unfold fv longF lenF
  simp only
  go_enter Tryd.func51, Tryd.ntmps51
  go_wp2_with fail
  go_ret
  exact ⟨ret_bool (by rw [decide_eq_decide]; omega), (Below.refl _ _).alloc (Nat.le_refl _) _⟩

set_option maxHeartbeats 1000000 in
theorem rmay_s (n : List UInt8) (s : ByteArray) (w : World) (h1 : n.length ≤ 4294967296) (hs : s.size ≤ 4294967296) :
    Calls Tryd.prog 50 #[.agg #[.string (bs n), .string s]] w fun e w' => e = .returned (.bool (token n && valV s.data.toList)) ∧ Below w.heap.size w w' := by
  have ht := fun w => rtoken_any (bs n) w (by rw [bs_size]; unfold maxLen; omega)
  rw [bs_data] at ht
  generalize token n = T at *
  have HT := Lib.hid ht; clear ht
  go_enter Tryd.func50, Tryd.ntmps50
  go_wp2_with fail
  go_loop [4] (fun i => ∃ k : Nat, k ≤ s.size ∧ i = .int .i64 k ∧ upTo s k) (fun i => s.size - (intOf i).toNat)
  case atStart => exact ⟨0, Nat.zero_le _, rfl, upTo_zero s⟩
  case round =>
    obtain ⟨k, hk, rfl, ht⟩ := hrel
    have HU := Lib.hid ht; clear ht
    by_cases hlt : k < s.size
    · cases hm : mayI (s[k].toNat : Int)
      · have HV := Lib.hid (valV_byte hlt hm)
        have hq : ((s[k].toNat : Int) == 127) = true ∨ (((s[k].toNat : Int) == 127) = false ∧ (s[k].toNat : Int) < 32 ∧ ((s[k].toNat : Int) != 9) = true) := by
          unfold mayI at hm; simp at hm ⊢; omega
        clear hm
        rcases hq with hq | ⟨hq, hq2, hq3⟩
        all_goals
          go_wp2_with fail
          go_ret
          exact ⟨ret_bool (by rw [HV.out, Bool.and_false]), (Below.refl _ _).alloc (Nat.le_refl _) _⟩
      · have hq : (((s[k].toNat : Int) == 127) = false ∧ (s[k].toNat : Int) < 32 ∧ ((s[k].toNat : Int) != 9) = false) ∨ (((s[k].toNat : Int) == 127) = false ∧ ¬ (s[k].toNat : Int) < 32) := by
          unfold mayI at hm; simp at hm ⊢; omega
        have hp : (((k : Int) == 0) = true ∧ k = 0) ∨ (((k : Int) == 0) = false ∧ ((k : Int) == (s.size : Int) - 1) = true ∧ k + 1 = s.size ∧ ¬ k = 0) ∨ (((k : Int) == 0) = false ∧ ((k : Int) == (s.size : Int) - 1) = false ∧ ¬ k = 0 ∧ ¬ k + 1 = s.size) := by
          simp; omega
        have hbl : (blankB s[k] = true ∧ (((s[k].toNat : Int) == 32) = true ∨ (((s[k].toNat : Int) == 32) = false ∧ ((s[k].toNat : Int) == 9) = true))) ∨ (blankB s[k] = false ∧ ((s[k].toNat : Int) == 32) = false ∧ ((s[k].toNat : Int) == 9) = false) := by
          cases hb : blankB s[k]
          · exact .inr ⟨rfl, blankI_no hb⟩
          · exact .inl ⟨rfl, blankI_or hb⟩
        rcases hp with ⟨hp, rfl⟩ | ⟨hp, hp2, hp3, hp4⟩ | ⟨hp, hp2, hp3, hp4⟩
        · rcases hbl with ⟨hb, hb2⟩ | ⟨hb, hb2, hb3⟩
          · have HV := Lib.hid (valV_first hlt hb)
            clear hb hm
            rcases hq with ⟨q1, q2, q3⟩ | ⟨q1, q2⟩
            all_goals
              rcases hb2 with hb2 | ⟨hb2, hb3⟩
              all_goals
                go_wp2_with fail
                go_ret
                exact ⟨ret_bool (by rw [HV.out, Bool.and_false]), (Below.refl _ _).alloc (Nat.le_refl _) _⟩
          · have HN := Lib.hid (upTo_next HU.out hlt hm (fun _ => hb) (fun _ => hb))
            clear hb hm
            rcases hq with ⟨q1, q2, q3⟩ | ⟨q1, q2⟩
            all_goals
              go_wp2_with fail
              go_round
              case rel => exact ⟨1, by omega, by go_num, HN.out⟩
              case measure => simp [intOf]; omega
        · rcases hbl with ⟨hb, hb2⟩ | ⟨hb, hb2, hb3⟩
          · have hx : s.size - 1 = k := by omega
            have HV := Lib.hid (valV_last (v := s) (by omega) (by simp only [hx]; exact hb))
            clear hb hm hx
            rcases hq with ⟨q1, q2, q3⟩ | ⟨q1, q2⟩
            all_goals
              rcases hb2 with hb2 | ⟨hb2, hb3⟩
              all_goals
                go_wp2_with fail
                go_ret
                exact ⟨ret_bool (by rw [HV.out, Bool.and_false]), (Below.refl _ _).alloc (Nat.le_refl _) _⟩
          · have HN := Lib.hid (upTo_next HU.out hlt hm (fun _ => hb) (fun _ => hb))
            clear hb hm
            rcases hq with ⟨q1, q2, q3⟩ | ⟨q1, q2⟩
            all_goals
              go_wp2_with fail
              go_round
              case rel => exact ⟨k + 1, by omega, by go_num, HN.out⟩
              case measure => simp [intOf]; omega
        · have HN := Lib.hid (upTo_next HU.out hlt hm (fun h => absurd h hp3) (fun h => absurd h hp4))
          clear hbl hm
          rcases hq with ⟨q1, q2, q3⟩ | ⟨q1, q2⟩
          all_goals
            go_wp2_with fail
            go_round
            case rel => exact ⟨k + 1, by omega, by go_num, HN.out⟩
            case measure => simp [intOf]; omega
    · have HV : Hid (valV s.data.toList = true) := by
        have e : k = s.size := by omega
        have h := HU.out
        rw [e] at h
        exact upTo_end h
      go_wp2_with (go_at_call 61; refine (HT.out _).mono ?_; rintro e w' ⟨rfl, rfl⟩)
      go_ret
      exact ⟨ret_bool (by rw [HV.out, Bool.and_true]), (Below.refl _ _).alloc (Nat.le_refl _) _⟩
theorem rmay_any (f : Fld) (w : World) (h1 : f.1.length ≤ 4294967296) (h2 : f.2.length ≤ 4294967296) :
    Calls Tryd.prog 50 #[fv f] w fun e w' => e = .returned (.bool (mayF f)) ∧ Below w.heap.size w w' := by
  have := rmay_s f.1 (bs f.2) w h1 (by rw [bs_size]; exact h2)
  rwa [bs_data] at this

end Go.Proofs.YtoengnefdndgfaaDoor
