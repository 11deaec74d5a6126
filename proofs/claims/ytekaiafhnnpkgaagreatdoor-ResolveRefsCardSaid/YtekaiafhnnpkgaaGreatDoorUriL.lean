/- The document's own functions on a URI's bytes: digits, plain bytes, escapes, paths, queries, hosts, decimal digits. -/
import Derived.Test.YtekaiafhnnpkgaaGreatDoorUriF
import Derived.Test.YtekaiafhnnpkgaaGreatDoorTextA
namespace Go.Proofs.YtekaiafhnnpkgaaGreatDoor
open Go.RowKit

theorem ret_i64 {a b : Int} (h : a = b) : Ending.returned (.int .i64 a) = Ending.returned (.int .i64 b) := by rw [h]
theorem esc3_no {l : List UInt8} (h : l.length < 3) : esc3 l = false := by
  match l, h with
  | [], _ => rfl
  | [_], _ => rfl
  | [_, _], _ => rfl
theorem esc3_at {s : ByteArray} {i : Nat} (h : i + 2 < s.size) : esc3 (s.data.toList.drop i) = (((s[i].toNat : Int) == 37) && (decide (0 ≤ hxI (s[i + 1].toNat : Int)) && decide (0 ≤ hxI (s[i + 2].toNat : Int)))) := by
  rw [drop_at (show i < s.size by omega), drop_at (show i + 1 < s.size by omega), drop_at (show i + 1 + 1 < s.size by omega)]
  have e : ((s[i].toNat : Int) == 37) = (s[i] == 37) := by
    rw [Bool.eq_iff_iff, beq_iff_eq, beq_iff_eq]
    exact ⟨fun h => UInt8.toNat_inj.1 (by show s[i].toNat = 37; omega), fun h => by rw [h]; rfl⟩
  rw [e]
  rfl

set_option maxHeartbeats 400000 in
set_option maxRecDepth 100000 in
theorem uhex_any (n : Int) (w : World) (h0 : 0 ≤ n) (h1 : n ≤ 255) :
    Calls Tryz.prog 66 #[.int .u8 n] w fun r w' => r = .returned (.int .i64 (hxI n)) ∧ w = w' := by
  have hc : (48 ≤ n ∧ n ≤ 57 ∧ hxI n = n - 48) ∨ (97 ≤ n ∧ n ≤ 102 ∧ hxI n = n - 97 + 10) ∨ (65 ≤ n ∧ n ≤ 70 ∧ hxI n = n - 65 + 10) ∨
      (n < 48 ∧ hxI n = -1) ∨ (57 < n ∧ n < 65 ∧ hxI n = -1) ∨ (70 < n ∧ n < 97 ∧ hxI n = -1) ∨ (102 < n ∧ hxI n = -1) := by
    unfold hxI
    split
    · omega
    · split
      · omega
      · split <;> omega
  rcases hc with ⟨a, b, c⟩ | ⟨a, b, c⟩ | ⟨a, b, c⟩ | ⟨a, c⟩ | ⟨a, b, c⟩ | ⟨a, b, c⟩ | ⟨a, c⟩
  all_goals
    rw [c]
    clear c
    go_enter Tryz.func66, Tryz.ntmps66
    go_wp2
    go_ret
    exact ⟨rfl, rfl⟩

theorem uplain_eq (n : Int) : plainI n = (lettI n || inI n [45, 46, 95, 126]) := by
  rw [plain_cases]
  have : inI n [45, 46, 95, 126] = ((n == 45) || ((n == 46) || ((n == 95) || (n == 126)))) := by
    unfold inI
    rw [Bool.eq_iff_iff]
    simp
    omega
  rw [this]
set_option maxHeartbeats 400000 in
set_option maxRecDepth 100000 in
theorem uplain_any (n : Int) (w : World) :
    Calls Tryz.prog 67 #[.int .u8 n] w fun r w' => r = .returned (.bool (plainI n)) ∧ w = w' := by
  rw [uplain_eq]
  have h1 := letter_any n w
  have h2 := in_any n ⟨#[45, 46, 95, 126]⟩ w (by decide)
  have e : (⟨#[45, 46, 95, 126]⟩ : ByteArray).data.toList = [45, 46, 95, 126] := rfl
  rw [e] at h2
  generalize lettI n = x at *
  generalize inI n [45, 46, 95, 126] = y at *
  have H1 := Lib.hid h1; have H2 := Lib.hid h2; clear h1 h2 e
  cases x
  all_goals
    go_enter Tryz.func67, Tryz.ntmps67
    go_wp2_with (first | (go_at_call 61; refine H1.out.mono ?_; rintro e w' ⟨rfl, rfl⟩) | (go_at_call 90; refine H2.out.mono ?_; rintro e w' ⟨rfl, rfl⟩))
    go_ret
    exact ⟨ret_bool (by simp), rfl⟩

set_option maxHeartbeats 1000000 in
set_option maxRecDepth 100000 in
theorem uesc_any (s : ByteArray) (i : Nat) (w : World) (hi : i ≤ s.size) (hl : s.size ≤ 1000000000000) :
    Calls Tryz.prog 65 #[.string s, .int .i64 (i : Int)] w fun r w' => r = .returned (.bool (esc3 (s.data.toList.drop i))) ∧ w = w' := by

  by_cases h3 : i + 2 < s.size
  · rw [esc3_at h3]
    have H1 := Lib.hid (uhex_any (s[i + 1].toNat : Int) w (by omega) (by have := s[i + 1].toNat_lt; omega))
    have H2 := Lib.hid (uhex_any (s[i + 2].toNat : Int) w (by omega) (by have := s[i + 2].toNat_lt; omega))
    generalize hxI (s[i + 1].toNat : Int) = a at *
    generalize hxI (s[i + 2].toNat : Int) = b at *
    cases h37 : ((s[i].toNat : Int) == 37)
    · go_enter Tryz.func65, Tryz.ntmps65
      go_wp2_with fail
      go_ret
      exact ⟨ret_bool (by simp), rfl⟩
    · by_cases ha : 0 ≤ a
      · by_cases hb : 0 ≤ b
        all_goals
          go_enter Tryz.func65, Tryz.ntmps65
          go_wp2_with fail
          refine H1.out.mono ?_
          rintro e w' ⟨rfl, rfl⟩
          go_wp2_with fail
          refine H2.out.mono ?_
          rintro e w' ⟨rfl, rfl⟩
          go_wp2_with fail
          go_ret
          exact ⟨ret_bool (by simp [ha, hb]), rfl⟩
      · go_enter Tryz.func65, Tryz.ntmps65
        go_wp2_with fail
        refine H1.out.mono ?_
        rintro e w' ⟨rfl, rfl⟩
        go_wp2_with fail
        go_ret
        exact ⟨ret_bool (by rw [decide_eq_false (show ¬ 0 ≤ a by omega)]; rfl), rfl⟩
  · rw [esc3_no (by rw [List.length_drop, ← size_len]; omega)]
    go_enter Tryz.func65, Tryz.ntmps65
    go_wp2_with fail
    go_ret
    exact ⟨rfl, rfl⟩

theorem fsB_not {c : UInt8} {r : List UInt8} (h : esc3 (c :: r) = false) : fsB (c :: r) = c := by
  match r with
  | [] => rfl
  | [_] => rfl
  | a :: b :: t =>
    have h2 : (c == 37 && (hxB a && hxB b)) = false := h
    simp only [fsB, h2, Bool.false_eq_true, if_false]
theorem made_esc {m : List UInt8} {s : ByteArray} {i : Nat} (h : i < s.size) (he : esc3 (s.data.toList.drop i) = true) : made m (s.data.toList.drop i) = made m (s.data.toList.drop (i + 3)) := by
  unfold made
  rw [toks_step (by rw [drop_at h]; simp)]
  unfold fsN
  rw [he, if_pos rfl, List.drop_drop, List.all_cons]
  rfl
theorem made_one {m : List UInt8} {s : ByteArray} {i : Nat} (h : i < s.size) (he : esc3 (s.data.toList.drop i) = false) : made m (s.data.toList.drop i) = ((plainI (s[i].toNat : Int) || inI (s[i].toNat : Int) m) && made m (s.data.toList.drop (i + 1))) := by
  unfold made
  rw [toks_step (by rw [drop_at h]; simp)]
  unfold fsN
  rw [he, if_neg (by decide), List.drop_drop, List.all_cons]
  have h2 : fsB (s.data.toList.drop i) = s[i] := by
    rw [drop_at h] at he ⊢
    exact fsB_not he
  rw [h2]
  rfl
theorem esc_room {s : ByteArray} {i : Nat} (he : esc3 (s.data.toList.drop i) = true) : i + 3 ≤ s.size := by
  rcases Nat.lt_or_ge (i + 2) s.size with h | h
  · omega
  · rw [esc3_no (by rw [List.length_drop, ← size_len]; omega)] at he; cases he

set_option maxHeartbeats 2000000 in
set_option maxRecDepth 100000 in
theorem umade_any (s m : ByteArray) (w : World) (hm : m.size ≤ maxLen) (hl : s.size ≤ 1000000000000) :
    Calls Tryz.prog 62 #[.string s, .string m] w fun r w' => r = .returned (.bool (made m.data.toList s.data.toList)) ∧ w = w' := by
  have HM := Lib.hid hm; clear hm
  go_enter Tryz.func62, Tryz.ntmps62
  go_wp2_with fail
  go_loop [5] (fun i => ∃ k : Nat, k ≤ s.size ∧ i = .int .i64 k ∧ Hid (made m.data.toList s.data.toList = made m.data.toList (s.data.toList.drop k))) (fun i => s.size - (intOf i).toNat)
  case atStart => exact ⟨0, Nat.zero_le _, rfl, rfl⟩
  case round =>
    obtain ⟨k, hk, rfl, HT⟩ := hrel
    by_cases hlt : k < s.size
    · have HES := Lib.hid (fun w => uesc_any s k w hk hl)
      cases he : esc3 (s.data.toList.drop k)
      · have HO := Lib.hid (HT.out.trans (made_one hlt he))
        have HP := Lib.hid (fun w => uplain_any (s[k].toNat : Int) w)
        have HI := Lib.hid (fun w => in_any (s[k].toNat : Int) m w HM.out)
        rw [he] at HES
        clear he HT
        generalize plainI (s[k].toNat : Int) = x at *
        generalize inI (s[k].toNat : Int) m.data.toList = y at *
        cases x
        · cases y
          · go_wp2_with (first | (go_at_call 65; refine (HES.out _).mono ?_; rintro e w' ⟨rfl, rfl⟩) | (go_at_call 67; refine (HP.out _).mono ?_; rintro e w' ⟨rfl, rfl⟩) | (go_at_call 90; refine (HI.out _).mono ?_; rintro e w' ⟨rfl, rfl⟩))
            go_ret
            exact ⟨ret_bool (by rw [HO.out]; rfl), rfl⟩
          · go_wp2_with (first | (go_at_call 65; refine (HES.out _).mono ?_; rintro e w' ⟨rfl, rfl⟩) | (go_at_call 67; refine (HP.out _).mono ?_; rintro e w' ⟨rfl, rfl⟩) | (go_at_call 90; refine (HI.out _).mono ?_; rintro e w' ⟨rfl, rfl⟩))
            go_round
            case rel => exact ⟨k + 1, by omega, by go_num, Lib.hid (by have h := HO.out; simpa using h)⟩
            case measure => simp [intOf]; omega
        · go_wp2_with (first | (go_at_call 65; refine (HES.out _).mono ?_; rintro e w' ⟨rfl, rfl⟩) | (go_at_call 67; refine (HP.out _).mono ?_; rintro e w' ⟨rfl, rfl⟩))
          go_round
          case rel => exact ⟨k + 1, by omega, by go_num, Lib.hid (by have h := HO.out; simpa using h)⟩
          case measure => simp [intOf]; omega
      · have HO := Lib.hid (HT.out.trans (made_esc hlt he))
        have hroom := esc_room he
        rw [he] at HES
        clear he HT
        go_wp2_with (first | (go_at_call 65; refine (HES.out _).mono ?_; rintro e w' ⟨rfl, rfl⟩))
        go_round
        case rel => exact ⟨k + 3, by omega, by go_num, HO.out⟩
        case measure => simp [intOf]; omega
    · have HF : Hid (made m.data.toList s.data.toList = true) := by show _ = _; rw [HT.out, drop_nil (by omega)]; rfl
      go_wp2_with fail
      go_ret
      exact ⟨ret_bool HF.out.symm, rfl⟩
end Go.Proofs.YtekaiafhnnpkgaaGreatDoor
