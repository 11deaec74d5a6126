/- Which fields may be: the fields layer's functions and the document's own. -/
import Derived.Test.YtoengnefdndgfaaDoorFieldsA
import Derived.Test.YtoengnefdndgfaaDoorFields1
import Derived.Deep.QuietTactic
import Derived.BigQuiet
namespace Go.Proofs.YtoengnefdndgfaaDoor
open Go.RowKit

theorem ret_i64 {a b : Int} (h : a = b) : Ending.returned (.int .i64 a) = .returned (.int .i64 b) := by rw [h]
theorem token_l (n : List UInt8) (w : World) (h : n.length ≤ maxLen) : Calls Tryd.prog 75 #[.string (bs n)] w fun e w' => e = .returned (.bool (token n)) ∧ w = w' := by
  have := token_any (bs n) w (by rw [bs_size]; exact h)
  rwa [bs_data] at this
theorem trim_l (n : List UInt8) (w : World) (h : n.length ≤ 281474976710656) : Calls Tryd.prog 59 #[.string (bs n)] w fun e w' => e = .returned (.string (bs (trim n))) ∧ Below w.heap.size w w' := by
  have := trim_any (bs n) w (by rw [bs_size]; exact h)
  rwa [bs_data] at this
theorem clone_l (n : List UInt8) (w : World) (h : n.length ≤ 281474976710656) : Calls Tryd.prog 58 #[.string (bs n)] w fun e w' => e = .returned (.string (bs n)) ∧ Below w.heap.size w w' :=
  clone_any (bs n) w (by rw [bs_size]; exact h)
theorem bs_append (x y : List UInt8) : bs x ++ bs y = bs (x ++ y) := by
  apply ByteArray.ext
  rw [ByteArray.data_append]
  simp [bs]
theorem add_l (x y : List UInt8) (w : World) (h : x.length + y.length ≤ 9223372036854775807) : (Op.stringOp .add (bs x) (bs y)).run Tryd.prog w = .ok (.string (bs (x ++ y))) w := by
  rw [← bs_append]
  simp [Op.stringOp]
  omega

set_option maxHeartbeats 400000 in
theorem lineOf_any (f : Fld) (w : World) (h1 : f.1.length ≤ 4294967296) (h2 : f.2.length ≤ 4294967296) :
    Calls Tryd.prog 77 #[fv f] w fun e w' => e = .returned (.string (bs (lineL f))) ∧ Below w.heap.size w w' := by
  obtain ⟨n, v⟩ := f; simp only at h1 h2
  have s1 := fun w => add_l n [58, 32] w (by simp only [List.length_cons, List.length_nil]; omega)
  have s2 := fun w => add_l (n ++ [58, 32]) v w (by simp only [List.length_append, List.length_cons, List.length_nil]; omega)
  rw [show bs [58, 32] = ⟨#[58, 32]⟩ from rfl] at s1
  unfold fv lineL
  go_enter Tryd.func77, Tryd.ntmps77
  go_wp2_with fail
  go_ret
  exact ⟨ret_str (by simp), (Below.refl _ _).alloc (Nat.le_refl _) _⟩

set_option maxHeartbeats 400000 in
theorem validValue_any (s : ByteArray) (w : World) (hs : s.size ≤ 4294967296) :
    Calls Tryd.prog 76 #[.string s] w fun e w' => e = .returned (.bool (valV s.data.toList)) ∧ Below w.heap.size w w' := by
  go_enter Tryd.func76, Tryd.ntmps76
  go_wp2_with fail
  go_loop [7] (fun i => ∃ k : Nat, k ≤ s.size ∧ i = .int .i64 k ∧ (s.data.toList.take k).all mayB = true) (fun i => s.size - (intOf i).toNat)
  case atStart => exact ⟨0, Nat.zero_le _, rfl, rfl⟩
  case round =>
    obtain ⟨k, hk, rfl, ht⟩ := hrel
    have HT := Lib.hid ht; clear ht
    by_cases hlt : k < s.size
    · cases hm : mayI (s[k].toNat : Int)
      · have HA := Lib.hid (valV_byte hlt hm)
        rcases bad_byte hm with ⟨h1, h2⟩ | ⟨h1, h2⟩
        all_goals
          clear hm
          go_wp2_with fail
          go_ret
          exact ⟨ret_bool HA.out.symm, Below.refl _ _⟩
      · have HA := Lib.hid (all_snoc s mayB k hlt HT.out hm)
        rcases good_byte hm with ⟨h1, h2, h3⟩ | ⟨h1, h2⟩
        all_goals
          clear hm
          go_wp2_with fail
          go_round
          case rel => exact ⟨k + 1, by omega, by go_num, HA.out⟩
          case measure => simp [intOf]; omega
    · have HA : Hid (valV s.data.toList = (trim s.data.toList == s.data.toList)) := by
        have h := HT.out
        rw [take_all hlt] at h
        show _ = _
        unfold valV; rw [h, Bool.true_and]
      go_wp2_with (go_at_call 59; refine (trim_any _ _ (by omega)).mono ?_; rintro e w' ⟨rfl, hb⟩)
      go_ret
      exact ⟨ret_bool (by rw [HA.out]; simp only [Lib.toList_data, bs_data]), hb⟩

theorem valid_l (n : List UInt8) (w : World) (h : n.length ≤ 4294967296) : Calls Tryd.prog 76 #[.string (bs n)] w fun e w' => e = .returned (.bool (valV n)) ∧ Below w.heap.size w w' := by
  have := validValue_any (bs n) w (by rw [bs_size]; exact h)
  rwa [bs_data] at this

set_option maxHeartbeats 800000 in
theorem checkField_any (f : Fld) (w : World) (h1 : f.1.length ≤ 4294967296) (h2 : f.2.length ≤ 4294967296) :
    Calls Tryd.prog 60 #[fv f] w fun e w' => e = .returned (.int .i64 (chkF f)) ∧ Below w.heap.size w w' := by
  have hl := line_len f
  obtain ⟨n, v⟩ := f; simp only at h1 h2
  have ht := fun w => token_l n w (by unfold maxLen; omega)
  have hv := fun w => valid_l v w h2
  have ho := fun w => lineOf_any (n, v) w h1 h2
  have hc : (mayF (n, v) = (token n && valV v)) := rfl
  have hg : longF (n, v) = decide ((2048 : Int) < ((lineL (n, v)).length : Int)) := by rw [hl]; unfold longF; rw [decide_eq_decide]; omega
  unfold fv at ho ⊢
  cases h3 : token n
  · rw [h3] at ht hc
    have HC : Hid (chkF (n, v) = 4) := by show _ = _; unfold chkF; rw [hc]; rfl
    have HT := Lib.hid ht
    clear ht hv ho hc hg hl h3
    go_enter Tryd.func60, Tryd.ntmps60
    go_wp2_with (go_at_call 75; refine (HT.out _).mono ?_; rintro e w' ⟨rfl, rfl⟩)
    go_ret
    exact ⟨by rw [HC.out]; rfl, (Below.refl _ _).alloc (Nat.le_refl _) _⟩
  · cases h4 : valV v
    · rw [h3] at ht hc; rw [h4] at hv hc
      have HC : Hid (chkF (n, v) = 4) := by show _ = _; unfold chkF; rw [hc]; rfl
      have HT := Lib.hid ht; have HV := Lib.hid hv
      clear ht hv ho hc hg hl h3 h4
      go_enter Tryd.func60, Tryd.ntmps60
      go_wp2_with (first | (go_at_call 75; refine (HT.out _).mono ?_; rintro e w' ⟨rfl, rfl⟩) | (go_at_call 76; refine (HV.out _).mono ?_; rintro e w' ⟨rfl, hb⟩))
      go_ret
      exact ⟨by rw [HC.out]; rfl, ((Below.refl _ _).alloc (Nat.le_refl _) _).trans (hb.mono (by simp))⟩
    · rw [h3] at ht hc; rw [h4] at hv hc
      have HT := Lib.hid ht; have HV := Lib.hid hv; have HO := Lib.hid ho
      have hlen : ¬ 9223372036854775807 < (lineL (n, v)).length := by rw [hl]; unfold lenF; simp only; omega
      cases h5 : longF (n, v)
      · have HC : Hid (chkF (n, v) = 0) := by show _ = _; unfold chkF; rw [hc, h5]; rfl
        rw [h5] at hg
        clear ht hv ho hc hl h3 h4 h5
        generalize lineL (n, v) = L at *
        have hg2 := hg.symm; clear hg
        go_enter Tryd.func60, Tryd.ntmps60
        go_wp2_with (first | (go_at_call 75; refine (HT.out _).mono ?_; rintro e w' ⟨rfl, rfl⟩) | (go_at_call 76; refine (HV.out _).mono ?_; rintro e w1 ⟨rfl, hb1⟩; have hc1 := hb1.cell (p := ⟨w.heap.size, 0, none⟩) (by simp); have hc2 := hb1.cell (p := ⟨w.heap.size, 1, none⟩) (by simp)) | (go_at_call 77; refine (HO.out _).mono ?_; rintro e w2 ⟨rfl, hb2⟩))
        go_ret
        exact ⟨by rw [HC.out]; rfl, (((Below.refl _ _).alloc (Nat.le_refl _) _).trans (hb1.mono (by simp))).trans (hb2.mono (by have := hb1.size; simp at this; omega))⟩
      · have HC : Hid (chkF (n, v) = 3) := by show _ = _; unfold chkF; rw [hc, h5]; rfl
        rw [h5] at hg
        clear ht hv ho hc hl h3 h4 h5
        generalize lineL (n, v) = L at *
        have hg2 := hg.symm; clear hg
        go_enter Tryd.func60, Tryd.ntmps60
        go_wp2_with (first | (go_at_call 75; refine (HT.out _).mono ?_; rintro e w' ⟨rfl, rfl⟩) | (go_at_call 76; refine (HV.out _).mono ?_; rintro e w1 ⟨rfl, hb1⟩; have hc1 := hb1.cell (p := ⟨w.heap.size, 0, none⟩) (by simp); have hc2 := hb1.cell (p := ⟨w.heap.size, 1, none⟩) (by simp)) | (go_at_call 77; refine (HO.out _).mono ?_; rintro e w2 ⟨rfl, hb2⟩))
        go_ret
        exact ⟨by rw [HC.out]; rfl, (((Below.refl _ _).alloc (Nat.le_refl _) _).trans (hb1.mono (by simp))).trans (hb2.mono (by have := hb1.size; simp at this; omega))⟩
end Go.Proofs.YtoengnefdndgfaaDoor
