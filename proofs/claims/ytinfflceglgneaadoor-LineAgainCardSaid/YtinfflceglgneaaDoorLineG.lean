/- The document's own answers on lines: versions, targets, reasons, lines that are put. -/
import Derived.Test.YtinfflceglgneaaDoorLineD
import Derived.Test.YtinfflceglgneaaDoorLine3
namespace Go.Proofs.YtinfflceglgneaaDoor
open Go.RowKit

theorem len_posN (s : ByteArray) : decide (0 < s.size) = !s.data.toList.isEmpty := by
  rw [size_len]
  cases s.data.toList with
  | nil => rfl
  | cons a l => simp
set_option maxRecDepth 100000 in
set_option maxHeartbeats 400000 in
theorem rtarget_any (s : ByteArray) (w : World) (hs : s.size ≤ maxLen) :
    Calls Tryd.prog 32 #[.string s] w fun e w' => e = .returned (.bool (target s.data.toList)) ∧ w = w' := by
  unfold maxLen at hs
  go_enter Tryd.func32, Tryd.ntmps32
  go_wp2_with fail
  go_loop [3] (fun i => ∃ k : Nat, k ≤ s.size ∧ i = .int .i64 k ∧ Hid ((s.data.toList.take k).all visB = true)) (fun i => s.size - (intOf i).toNat)
  case atStart => exact ⟨0, Nat.zero_le _, rfl, rfl⟩
  case round =>
    obtain ⟨k, hk, rfl, HT⟩ := hrel
    by_cases hlt : k < s.size
    · cases hp : visB s[k]
      · have HC : Hid (target s.data.toList = false) := by show target _ = false; unfold target; rw [all_not s visB k hlt hp]; rfl
        have hv : (s[k].toNat : Int) < 33 ∨ (¬ (s[k].toNat : Int) < 33 ∧ 126 < (s[k].toNat : Int)) := by unfold visB visI at hp; simp at hp; omega
        clear hp
        rcases hv with hv | ⟨hv, hv2⟩
        · go_wp2_with fail
          go_ret
          exact ⟨ret_bool HC.out.symm, rfl⟩
        · go_wp2_with fail
          go_ret
          exact ⟨ret_bool HC.out.symm, rfl⟩
      · have HP := Lib.hid hp
        have hv : ¬ (s[k].toNat : Int) < 33 := by unfold visB visI at hp; simp at hp; omega
        have hv2 : ¬ 126 < (s[k].toNat : Int) := by unfold visB visI at hp; simp at hp; omega
        clear hp
        go_wp2_with fail
        go_round
        case rel => exact ⟨k + 1, by omega, by go_num, all_snoc s visB k hlt HT.out HP.out⟩
        case measure => simp [intOf]; omega
    · have HC : Hid (s.data.toList.all visB = true) := by have := HT.out; rw [take_all hlt] at this; exact this
      go_wp2_with fail
      go_ret
      exact ⟨ret_bool (by unfold target; rw [HC.out, Bool.true_and]; exact len_posN s), rfl⟩

set_option maxRecDepth 100000 in
set_option maxHeartbeats 400000 in
theorem rreason_any (s : ByteArray) (w : World) (hs : s.size ≤ maxLen) :
    Calls Tryd.prog 39 #[.string s] w fun e w' => e = .returned (.bool (s.data.toList.all mayB)) ∧ w = w' := by
  unfold maxLen at hs
  go_enter Tryd.func39, Tryd.ntmps39
  go_wp2_with fail
  go_loop [3] (fun i => ∃ k : Nat, k ≤ s.size ∧ i = .int .i64 k ∧ Hid ((s.data.toList.take k).all mayB = true)) (fun i => s.size - (intOf i).toNat)
  case atStart => exact ⟨0, Nat.zero_le _, rfl, rfl⟩
  case round =>
    obtain ⟨k, hk, rfl, HT⟩ := hrel
    by_cases hlt : k < s.size
    · cases hp : mayB s[k]
      · have HC : Hid (s.data.toList.all mayB = false) := all_not s mayB k hlt hp
        have hv : (((s[k].toNat : Int) != 9) = true ∧ (s[k].toNat : Int) < 32) ∨ (((s[k].toNat : Int) != 9) = true ∧ ¬ (s[k].toNat : Int) < 32 ∧ ((s[k].toNat : Int) == 127) = true) := by
          unfold mayB mayI at hp; simp at hp ⊢; omega
        clear hp
        rcases hv with ⟨h9, hv⟩ | ⟨h9, hv, h127⟩
        · go_wp2_with fail
          go_ret
          exact ⟨ret_bool (by simpa using HC.out.symm), rfl⟩
        · go_wp2_with fail
          go_ret
          exact ⟨ret_bool (by simpa using HC.out.symm), rfl⟩
      · have HP := Lib.hid hp
        have hv : (((s[k].toNat : Int) != 9) = false ∧ ((s[k].toNat : Int) == 127) = false) ∨ (((s[k].toNat : Int) != 9) = true ∧ ¬ (s[k].toNat : Int) < 32 ∧ ((s[k].toNat : Int) == 127) = false) := by
          unfold mayB mayI at hp; simp at hp ⊢; omega
        clear hp
        rcases hv with ⟨h9, h127⟩ | ⟨h9, hv, h127⟩
        · go_wp2_with fail
          go_round
          case rel => exact ⟨k + 1, by omega, by go_num, all_snoc s mayB k hlt HT.out HP.out⟩
          case measure => simp [intOf]; omega
        · go_wp2_with fail
          go_round
          case rel => exact ⟨k + 1, by omega, by go_num, all_snoc s mayB k hlt HT.out HP.out⟩
          case measure => simp [intOf]; omega
    · have HC : Hid (s.data.toList.all mayB = true) := by have := HT.out; rw [take_all hlt] at this; exact this
      go_wp2_with fail
      go_ret
      exact ⟨ret_bool (by simpa using HC.out.symm), rfl⟩

theorem at_getD {s : ByteArray} {k : Nat} (h : k < s.size) : s.data.toList.getD k 0 = s[k] := by
  simp [List.getD_eq_getElem?_getD, ByteArray.getElem_eq_getElem_data, h]

set_option maxRecDepth 100000 in
set_option maxHeartbeats 400000 in
theorem rversion_any (s : ByteArray) (w : World) :
    Calls Tryd.prog 30 #[.string s] w fun e w' => e = .returned (.bool (isVer s.data.toList)) ∧ w = w' := by
  by_cases h8 : s.size = 8
  · have hl : (s.data.toList.length == 8) = true := by rw [← size_len]; simpa using h8
    have k5 : 5 < s.size := by omega
    have k6 : 6 < s.size := by omega
    have k7 : 7 < s.size := by omega
    have b8 : ((s.size : Int) == 8) = true := by rw [beq_iff_eq]; omega
    have e5 : ((s.extract 0 5).toList == [72, 84, 84, 80, 47]) = (s.data.toList.take 5 == httpL) := by rw [Lib.toList_data, Lib.extract_from_zero]; rfl
    have HV : Hid (isVer s.data.toList = ((s.data.toList.take 5 == httpL) && digI (s[5].toNat : Int) && ((s[6].toNat : Int) == 46) && digI (s[7].toNat : Int))) := by
      show isVer _ = _
      unfold isVer; rw [hl, at_getD k5, at_getD k6, at_getD k7, Bool.true_and]; rfl
    clear hl
    cases c5 : (s.data.toList.take 5 == httpL)
    · rw [c5] at e5
      have HC : Hid (isVer s.data.toList = false) := by show _ = _; rw [HV.out, c5]; rfl
      clear c5
      go_enter Tryd.func30, Tryd.ntmps30
      go_wp2_with fail
      go_ret
      exact ⟨ret_bool HC.out.symm, rfl⟩
    · rw [c5] at e5
      rw [c5, Bool.true_and] at HV
      cases d5 : digI (s[5].toNat : Int)
      · have HC : Hid (isVer s.data.toList = false) := by show _ = _; rw [HV.out, d5]; rfl
        have HD := Lib.hid d5
        clear c5 d5
        go_enter Tryd.func30, Tryd.ntmps30
        go_wp2_with (go_at_call 38; refine (rdigit_any _ _).mono ?_; rw [HD.out]; rintro e w' ⟨rfl, rfl⟩)
        go_ret
        exact ⟨ret_bool HC.out.symm, rfl⟩
      · rw [d5, Bool.true_and] at HV
        have HD := Lib.hid d5
        cases d6 : ((s[6].toNat : Int) == 46)
        · have HC : Hid (isVer s.data.toList = false) := by show _ = _; rw [HV.out, d6]; rfl
          clear c5 d5
          go_enter Tryd.func30, Tryd.ntmps30
          go_wp2_with (go_at_call 38; refine (rdigit_any _ _).mono ?_; rw [HD.out]; rintro e w' ⟨rfl, rfl⟩)
          go_ret
          exact ⟨ret_bool HC.out.symm, rfl⟩
        · rw [d6, Bool.true_and] at HV
          clear c5 d5
          go_enter Tryd.func30, Tryd.ntmps30
          go_wp2_with fail
          refine (rdigit_any _ _).mono ?_
          rw [HD.out]
          rintro e w' ⟨rfl, rfl⟩
          go_wp2_with fail
          refine (rdigit_any _ _).mono ?_
          rintro e w' ⟨rfl, rfl⟩
          go_wp2_with fail
          go_ret
          exact ⟨ret_bool HV.out.symm, rfl⟩
  · have b8 : ((s.size : Int) == 8) = false := by
      rw [beq_eq_false_iff_ne]; omega
    have HC : Hid (isVer s.data.toList = false) := by
      show isVer _ = _
      unfold isVer
      rw [← size_len, beq_eq_false_iff_ne.2 h8]; rfl
    go_enter Tryd.func30, Tryd.ntmps30
    go_wp2_with fail
    go_ret
    exact ⟨ret_bool HC.out.symm, rfl⟩

set_option maxRecDepth 100000 in
set_option maxHeartbeats 400000 in
theorem rminor_any (s : ByteArray) (w : World) (hs : s.size ≤ maxLen) (h7 : 7 < s.size) :
    Calls Tryd.prog 33 #[.string s] w fun e w' => e = .returned (.int .i64 (minB s[7])) ∧ w = w' := by
  unfold maxLen at hs
  by_cases h : s[7].toNat = 48
  · have b : ((s[7].toNat : Int) == 48) = true := by rw [beq_iff_eq]; omega
    have HM : Hid (minB s[7] = 0) := by show minB _ = 0; unfold minB; rw [if_pos h]
    rw [HM.out]
    clear h
    go_enter Tryd.func33, Tryd.ntmps33
    go_wp2_with fail
    go_ret
    exact ⟨rfl, rfl⟩
  · have b : ((s[7].toNat : Int) == 48) = false := by rw [beq_eq_false_iff_ne]; omega
    have HM : Hid (minB s[7] = 1) := by show minB _ = 1; unfold minB; rw [if_neg h]
    rw [HM.out]
    clear h
    go_enter Tryd.func33, Tryd.ntmps33
    go_wp2_with fail
    go_ret
    exact ⟨rfl, rfl⟩

set_option maxRecDepth 100000 in
set_option maxHeartbeats 400000 in
theorem rversionOf_any (n : Int) (w : World) (h : validM n = true) :
    Calls Tryd.prog 43 #[.int .i64 n] w fun e w' => e = .returned (.string (bs (verN n))) ∧ w = w' := by
  unfold validM at h
  simp at h
  rcases h with rfl | rfl
  · go_enter Tryd.func43, Tryd.ntmps43
    go_wp2_with fail
    go_ret
    exact ⟨rfl, rfl⟩
  · go_enter Tryd.func43, Tryd.ntmps43
    go_wp2_with fail
    go_ret
    exact ⟨rfl, rfl⟩
end Go.Proofs.YtinfflceglgneaaDoor
