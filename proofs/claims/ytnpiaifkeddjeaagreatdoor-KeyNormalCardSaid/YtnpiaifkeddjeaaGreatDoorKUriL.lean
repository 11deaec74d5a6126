/- The document's own functions on a URI's bytes: digits, plain bytes, escapes, paths, queries, hosts, decimal digits. -/
import Derived.Test.YtnpiaifkeddjeaaGreatDoorKBytes
import Derived.Test.YtnpiaifkeddjeaaGreatDoorKUriA
namespace Go.Proofs.YtnpiaifkeddjeaaGreatDoor
open Go.RowKit

theorem ret_i64U {a b : Int} (h : a = b) : Ending.returned (.int .i64 a) = Ending.returned (.int .i64 b) := by rw [h]
theorem esc3_no {l : List UInt8} (h : l.length < 3) : esc3 l = false := by
  match l, h with
  | [], _ => rfl
  | [_], _ => rfl
  | [_, _], _ => rfl
theorem esc3_at {s : ByteArray} {i : Nat} (h : i + 2 < s.size) : esc3 (s.data.toList.drop i) = (((s[i].toNat : Int) == 37) && (decide (0 ≤ hxI (s[i + 1].toNat : Int)) && decide (0 ≤ hxI (s[i + 2].toNat : Int)))) := by
  rw [drop_at (show i < s.size by omega), drop_at (show i + 1 < s.size by omega), drop_at (show i + 1 + 1 < s.size by omega)]
  have e : ((s[i].toNat : Int) == 37) = (s[i] == 37) := by
    rw [Bool.eq_iff_iff, beq_iff_eq, beq_iff_eq]
    exact ⟨fun h => UInt8.toNat_inj.1 (by show s[i].toNat = 37; omega), fun h => by rw [h]; rfl⟩
  rw [e]
  rfl

set_option maxHeartbeats 400000 in
set_option maxRecDepth 100000 in
theorem uhex_any (n : Int) (w : World) (h0 : 0 ≤ n) (h1 : n ≤ 255) :
    Calls Tryz.prog 82 #[.int .u8 n] w fun r w' => r = .returned (.int .i64 (hxI n)) ∧ w = w' := by
  have hc : (48 ≤ n ∧ n ≤ 57 ∧ hxI n = n - 48) ∨ (97 ≤ n ∧ n ≤ 102 ∧ hxI n = n - 97 + 10) ∨ (65 ≤ n ∧ n ≤ 70 ∧ hxI n = n - 65 + 10) ∨
      (n < 48 ∧ hxI n = -1) ∨ (57 < n ∧ n < 65 ∧ hxI n = -1) ∨ (70 < n ∧ n < 97 ∧ hxI n = -1) ∨ (102 < n ∧ hxI n = -1) := by
    unfold hxI
    split
    · omega
    · split
      · omega
      · split <;> omega
  rcases hc with ⟨a, b, c⟩ | ⟨a, b, c⟩ | ⟨a, b, c⟩ | ⟨a, c⟩ | ⟨a, b, c⟩ | ⟨a, b, c⟩ | ⟨a, c⟩
  all_goals
    rw [c]
    clear c
    go_enter Tryz.func82, Tryz.ntmps82
    go_wp2
    go_ret
    exact ⟨rfl, rfl⟩

theorem uplain_eq (n : Int) : plainI n = (lettI n || inI n [45, 46, 95, 126]) := by
  rw [plain_cases]
  have : inI n [45, 46, 95, 126] = ((n == 45) || ((n == 46) || ((n == 95) || (n == 126)))) := by
    unfold inI
    rw [Bool.eq_iff_iff]
    simp
    omega
  rw [this]
set_option maxHeartbeats 400000 in
set_option maxRecDepth 100000 in
theorem uplain_any (n : Int) (w : World) :
    Calls Tryz.prog 83 #[.int .u8 n] w fun r w' => r = .returned (.bool (plainI n)) ∧ w = w' := by
  rw [uplain_eq]
  have h1 := letter_any n w
  have h2 := in_any n ⟨#[45, 46, 95, 126]⟩ w (by decide)
  have e : (⟨#[45, 46, 95, 126]⟩ : ByteArray).data.toList = [45, 46, 95, 126] := rfl
  rw [e] at h2
  generalize lettI n = x at *
  generalize inI n [45, 46, 95, 126] = y at *
  have H1 := Lib.hid h1; have H2 := Lib.hid h2; clear h1 h2 e
  cases x
  all_goals
    go_enter Tryz.func83, Tryz.ntmps83
    go_wp2_with (first | (go_at_call 78; refine H1.out.mono ?_; rintro e w' ⟨rfl, rfl⟩) | (go_at_call 104; refine H2.out.mono ?_; rintro e w' ⟨rfl, rfl⟩))
    go_ret
    exact ⟨ret_bool (by simp), rfl⟩

set_option maxHeartbeats 1000000 in
set_option maxRecDepth 100000 in
theorem uesc_any (s : ByteArray) (i : Nat) (w : World) (hi : i ≤ s.size) (hl : s.size ≤ 1000000000000) :
    Calls Tryz.prog 81 #[.string s, .int .i64 (i : Int)] w fun r w' => r = .returned (.bool (esc3 (s.data.toList.drop i))) ∧ w = w' := by

  by_cases h3 : i + 2 < s.size
  · rw [esc3_at h3]
    have H1 := Lib.hid (uhex_any (s[i + 1].toNat : Int) w (by omega) (by have := s[i + 1].toNat_lt; omega))
    have H2 := Lib.hid (uhex_any (s[i + 2].toNat : Int) w (by omega) (by have := s[i + 2].toNat_lt; omega))
    generalize hxI (s[i + 1].toNat : Int) = a at *
    generalize hxI (s[i + 2].toNat : Int) = b at *
    cases h37 : ((s[i].toNat : Int) == 37)
    · go_enter Tryz.func81, Tryz.ntmps81
      go_wp2_with fail
      go_ret
      exact ⟨ret_bool (by simp), rfl⟩
    · by_cases ha : 0 ≤ a
      · by_cases hb : 0 ≤ b
        all_goals
          go_enter Tryz.func81, Tryz.ntmps81
          go_wp2_with fail
          refine H1.out.mono ?_
          rintro e w' ⟨rfl, rfl⟩
          go_wp2_with fail
          refine H2.out.mono ?_
          rintro e w' ⟨rfl, rfl⟩
          go_wp2_with fail
          go_ret
          exact ⟨ret_bool (by simp [ha, hb]), rfl⟩
      · go_enter Tryz.func81, Tryz.ntmps81
        go_wp2_with fail
        refine H1.out.mono ?_
        rintro e w' ⟨rfl, rfl⟩
        go_wp2_with fail
        go_ret
        exact ⟨ret_bool (by rw [decide_eq_false (show ¬ 0 ≤ a by omega)]; rfl), rfl⟩
  · rw [esc3_no (by rw [List.length_drop, ← size_len]; omega)]
    go_enter Tryz.func81, Tryz.ntmps81
    go_wp2_with fail
    go_ret
    exact ⟨rfl, rfl⟩

theorem fsB_not {c : UInt8} {r : List UInt8} (h : esc3 (c :: r) = false) : fsB (c :: r) = c := by
  match r with
  | [] => rfl
  | [_] => rfl
  | a :: b :: t =>
    have h2 : (c == 37 && (hxB a && hxB b)) = false := h
    simp only [fsB, h2, Bool.false_eq_true, if_false]
theorem made_esc {m : List UInt8} {s : ByteArray} {i : Nat} (h : i < s.size) (he : esc3 (s.data.toList.drop i) = true) : made m (s.data.toList.drop i) = made m (s.data.toList.drop (i + 3)) := by
  unfold made
  rw [toks_step (by rw [drop_at h]; simp)]
  unfold fsN
  rw [he, if_pos rfl, List.drop_drop, List.all_cons]
  rfl
theorem made_one {m : List UInt8} {s : ByteArray} {i : Nat} (h : i < s.size) (he : esc3 (s.data.toList.drop i) = false) : made m (s.data.toList.drop i) = ((plainI (s[i].toNat : Int) || inI (s[i].toNat : Int) m) && made m (s.data.toList.drop (i + 1))) := by
  unfold made
  rw [toks_step (by rw [drop_at h]; simp)]
  unfold fsN
  rw [he, if_neg (by decide), List.drop_drop, List.all_cons]
  have h2 : fsB (s.data.toList.drop i) = s[i] := by
    rw [drop_at h] at he ⊢
    exact fsB_not he
  rw [h2]
  rfl
theorem esc_room {s : ByteArray} {i : Nat} (he : esc3 (s.data.toList.drop i) = true) : i + 3 ≤ s.size := by
  rcases Nat.lt_or_ge (i + 2) s.size with h | h
  · omega
  · rw [esc3_no (by rw [List.length_drop, ← size_len]; omega)] at he; cases he

set_option maxHeartbeats 2000000 in
set_option maxRecDepth 100000 in
theorem umade_any (s m : ByteArray) (w : World) (hm : m.size ≤ maxLen) (hl : s.size ≤ 1000000000000) :
    Calls Tryz.prog 79 #[.string s, .string m] w fun r w' => r = .returned (.bool (made m.data.toList s.data.toList)) ∧ w = w' := by
  have HM := Lib.hid hm; clear hm
  go_enter Tryz.func79, Tryz.ntmps79
  go_wp2_with fail
  go_loop [5] (fun i => ∃ k : Nat, k ≤ s.size ∧ i = .int .i64 k ∧ Hid (made m.data.toList s.data.toList = made m.data.toList (s.data.toList.drop k))) (fun i => s.size - (intOf i).toNat)
  case atStart => exact ⟨0, Nat.zero_le _, rfl, rfl⟩
  case round =>
    obtain ⟨k, hk, rfl, HT⟩ := hrel
    by_cases hlt : k < s.size
    · have HES := Lib.hid (fun w => uesc_any s k w hk hl)
      cases he : esc3 (s.data.toList.drop k)
      · have HO := Lib.hid (HT.out.trans (made_one hlt he))
        have HP := Lib.hid (fun w => uplain_any (s[k].toNat : Int) w)
        have HI := Lib.hid (fun w => in_any (s[k].toNat : Int) m w HM.out)
        rw [he] at HES
        clear he HT
        generalize plainI (s[k].toNat : Int) = x at *
        generalize inI (s[k].toNat : Int) m.data.toList = y at *
        cases x
        · cases y
          · go_wp2_with (first | (go_at_call 81; refine (HES.out _).mono ?_; rintro e w' ⟨rfl, rfl⟩) | (go_at_call 83; refine (HP.out _).mono ?_; rintro e w' ⟨rfl, rfl⟩) | (go_at_call 104; refine (HI.out _).mono ?_; rintro e w' ⟨rfl, rfl⟩))
            go_ret
            exact ⟨ret_bool (by rw [HO.out]; rfl), rfl⟩
          · go_wp2_with (first | (go_at_call 81; refine (HES.out _).mono ?_; rintro e w' ⟨rfl, rfl⟩) | (go_at_call 83; refine (HP.out _).mono ?_; rintro e w' ⟨rfl, rfl⟩) | (go_at_call 104; refine (HI.out _).mono ?_; rintro e w' ⟨rfl, rfl⟩))
            go_round
            case rel => exact ⟨k + 1, by omega, by go_num, Lib.hid (by have h := HO.out; simpa using h)⟩
            case measure => simp [intOf]; omega
        · go_wp2_with (first | (go_at_call 81; refine (HES.out _).mono ?_; rintro e w' ⟨rfl, rfl⟩) | (go_at_call 83; refine (HP.out _).mono ?_; rintro e w' ⟨rfl, rfl⟩))
          go_round
          case rel => exact ⟨k + 1, by omega, by go_num, Lib.hid (by have h := HO.out; simpa using h)⟩
          case measure => simp [intOf]; omega
      · have HO := Lib.hid (HT.out.trans (made_esc hlt he))
        have hroom := esc_room he
        rw [he] at HES
        clear he HT
        go_wp2_with (first | (go_at_call 81; refine (HES.out _).mono ?_; rintro e w' ⟨rfl, rfl⟩))
        go_round
        case rel => exact ⟨k + 3, by omega, by go_num, HO.out⟩
        case measure => simp [intOf]; omega
    · have HF : Hid (made m.data.toList s.data.toList = true) := by show _ = _; rw [HT.out, drop_nil (by omega)]; rfl
      go_wp2_with fail
      go_ret
      exact ⟨ret_bool HF.out.symm, rfl⟩
end Go.Proofs.YtnpiaifkeddjeaaGreatDoor

/- The document's own answers: whether a URI may be, and its text. -/
namespace Go.Proofs.YtnpiaifkeddjeaaGreatDoor
open Go.RowKit

theorem umadeL_any (s m : List UInt8) (w : World) (hm : m.length ≤ 1000) (hl : s.length ≤ 1000000000000) :
    Calls Tryz.prog 79 #[.string (bs s), .string (bs m)] w fun r w' => r = .returned (.bool (made m s)) ∧ w = w' := by
  have h := umade_any (bs s) (bs m) w (by rw [bs_size]; unfold maxLen; omega) (by rw [bs_size]; exact hl)
  rwa [bs_data, bs_data] at h
theorem path_eq (s : List UInt8) : (Lib.hasPrefix s [47] && made pathM s) = (match s with | [] => false | c :: _ => (c == 47) && made pathM s) := by
  match s with
  | [] => rfl
  | c :: r => simp [Lib.hasPrefix, List.isPrefixOf, Bool.beq_comm]
theorem byte_eq (c : UInt8) (n : Nat) (h : n < 256) : ((c.toNat : Int) == (n : Int)) = (c == UInt8.ofNat n) := by
  rw [Bool.eq_iff_iff, beq_iff_eq, beq_iff_eq]
  constructor
  · intro e
    refine UInt8.toNat_inj.1 ?_
    rw [UInt8.toNat_ofNat']; omega
  · rintro rfl
    rw [UInt8.toNat_ofNat']; omega
set_option maxHeartbeats 400000 in
set_option maxRecDepth 100000 in
theorem upath_any (s : List UInt8) (w : World) (hl : s.length ≤ 1000000000000) :
    Calls Tryz.prog 50 #[.string (bs s)] w fun r w' => r = .returned (.bool (Lib.hasPrefix s [47] && made pathM s)) ∧ w = w' := by
  rw [path_eq]
  match s, hl with
  | [], _ =>
    go_enter Tryz.func50, Tryz.ntmps50
    go_wp2_with fail
    go_ret
    exact ⟨rfl, rfl⟩
  | c :: r, hl =>
    have H := Lib.hid (fun w => umadeL_any (c :: r) pathM w (by decide) hl)
    have h0 : 0 < (bs (c :: r)).size := by rw [bs_size]; simp
    have hg0 : (bs (c :: r))[0] = c := by rw [ByteArray.getElem_eq_getElem_data]; simp [bs]
    have hc : (((bs (c :: r))[0].toNat : Int) == 47) = (c == 47) := by rw [hg0]; exact byte_eq c 47 (by decide)
    simp only
    generalize made pathM (c :: r) = x at *
    generalize (c == 47) = y at hc ⊢
    have HL := Lib.hid hl; clear hl hg0
    cases y
    · go_enter Tryz.func50, Tryz.ntmps50
      go_wp2_with fail
      go_ret
      exact ⟨rfl, rfl⟩
    · go_enter Tryz.func50, Tryz.ntmps50
      go_wp2_with fail
      refine (H.out _).mono ?_
      rintro e w' ⟨rfl, rfl⟩
      go_wp2_with fail
      go_ret
      exact ⟨rfl, rfl⟩
set_option maxHeartbeats 400000 in
set_option maxRecDepth 100000 in
theorem uquery_any (s : List UInt8) (w : World) (hl : s.length ≤ 1000000000000) :
    Calls Tryz.prog 51 #[.string (bs s)] w fun r w' => r = .returned (.bool (made queryM s)) ∧ w = w' := by
  have H := Lib.hid (umadeL_any s queryM w (by decide) hl)
  clear hl
  go_enter Tryz.func51, Tryz.ntmps51
  go_wp2_with fail
  refine H.out.mono ?_
  rintro e w' ⟨rfl, rfl⟩
  go_wp2_with fail
  go_ret
  exact ⟨rfl, rfl⟩

theorem host_toks : ∀ (n : Nat) (l : List UInt8), l.length ≤ n → (toks l).all hostP = l.all hoB := by
  intro n
  induction n with
  | zero => intro l h; have : l = [] := List.eq_nil_of_length_eq_zero (by omega); subst this; rfl
  | succ n ih =>
    intro l h
    match l, h with
    | [], _ => rfl
    | c :: r, h =>
      rw [toks_step (by simp), List.all_cons]
      cases he : esc3 (c :: r)
      · unfold fsN
        rw [he, fsB_not he, if_neg (by decide), ih _ (by simp at h ⊢; omega)]
        rfl
      · have h37 : c = 37 := by
          match r, he with
          | a :: b :: t, he =>
            have h2 : (c == 37 && (hxB a && hxB b)) = true := he
            rw [Bool.and_eq_true] at h2
            exact beq_iff_eq.1 h2.1
        subst h37
        rfl
theorem host_eq (l : List UInt8) : hostOk l = (l.all hoB && (decide (1 ≤ l.length) && decide (l.length ≤ 253))) := by
  unfold hostOk
  rw [host_toks _ _ (Nat.le_refl _)]
  have : (!l.isEmpty) = decide (1 ≤ l.length) := by cases l <;> simp
  rw [this, Bool.and_comm]
theorem hoB_cases (c : UInt8) : hoB c = (lettI (c.toNat : Int) || (((c.toNat : Int) == 45) || ((c.toNat : Int) == 46))) := host_cases _
set_option maxHeartbeats 1000000 in
set_option maxRecDepth 100000 in
theorem uhost_any (s : ByteArray) (w : World) (hs : s.size ≤ 1000000000000) :
    Calls Tryz.prog 49 #[.string s] w fun r w' => r = .returned (.bool (hostOk s.data.toList)) ∧ w = w' := by
  rw [host_eq]
  go_enter Tryz.func49, Tryz.ntmps49
  go_wp2_with fail
  go_loop [3] (fun i => ∃ k : Nat, k ≤ s.size ∧ i = .int .i64 k ∧ Hid ((s.data.toList.take k).all hoB = true)) (fun i => s.size - (intOf i).toNat)
  case atStart => exact ⟨0, Nat.zero_le _, rfl, rfl⟩
  case round =>
    obtain ⟨k, hk, rfl, HT⟩ := hrel
    by_cases hlt : k < s.size
    · have H1 := Lib.hid (fun w => letter_any (s[k].toNat : Int) w)
      have hcs := hoB_cases s[k]
      have hyes := fun h => all_snoc s hoB k hlt HT.out h
      have hno := fun h => all_not s hoB k hlt h
      rw [hcs] at hyes hno
      have HY := Lib.hid hyes; have HN := Lib.hid hno; clear hyes hno hcs
      generalize lettI (s[k].toNat : Int) = x at *
      cases h45 : ((s[k].toNat : Int) == 45) <;> cases h46 : ((s[k].toNat : Int) == 46) <;> cases x
      all_goals
        have b45 : ((s[k].toNat : Int) != 45) = !((s[k].toNat : Int) == 45) := rfl
        have b46 : ((s[k].toNat : Int) != 46) = !((s[k].toNat : Int) == 46) := rfl
        rw [h45] at b45 HY HN
        rw [h46] at b46 HY HN
        go_wp2_with (go_at_call 78; refine (H1.out _).mono ?_; rintro e w' ⟨rfl, rfl⟩)
        first
        | (go_ret
           exact ⟨ret_bool (by rw [HN.out rfl]; rfl), rfl⟩)
        | (go_round
           case rel => exact ⟨k + 1, by omega, by go_num, HY.out rfl⟩
           case measure => simp [intOf]; omega)
    · have HA : Hid (s.data.toList.all hoB = true) := by have h := HT.out; rw [take_all hlt] at h; exact h
      have hA : s.data.all hoB 0 s.size = true := by have h := HA.out; rwa [Array.all_toList] at h
      have e1 : decide ((1 : Int) ≤ (s.size : Int)) = decide (1 ≤ s.data.toList.length) := by rw [← size_len]; exact decide_eq_decide.2 (by omega)
      have e2 : decide ((s.size : Int) ≤ 253) = decide (s.data.toList.length ≤ 253) := by rw [← size_len]; exact decide_eq_decide.2 (by omega)
      by_cases h1 : 1 ≤ s.size
      · go_wp2_with fail
        go_ret
        exact ⟨ret_bool (by have h2 := size_len s; simp; try omega), rfl⟩
      · go_wp2_with fail
        go_ret
        exact ⟨ret_bool (by have h2 := size_len s; simp; try omega), rfl⟩

/-- what is left to write, with what is written behind it, is the number's digits -/
def restU (N m : Int) (l : List UInt8) : Prop := 0 ≤ m ∧ m ≤ 2147483648 ∧ (l.length : Int) + m ≤ 2147483648 ∧ Lib.itoa N = Lib.decDigits m.toNat ++ l
theorem restU_more {N m : Int} {l : List UInt8} (h : restU N m l) (h10 : 10 ≤ m) : restU N (m / 10) (UInt8.ofNat (48 + m.toNat % 10) :: l) := by
  obtain ⟨a, b, d, c⟩ := h
  refine ⟨by omega, by omega, by rw [List.length_cons]; omega, ?_⟩
  rw [c, Lib.decDigits, dif_neg (by omega), List.append_assoc, show (m / 10).toNat = m.toNat / 10 from by omega]; rfl
theorem restU_last {N m : Int} {l : List UInt8} (h : restU N m l) (h10 : m < 10) : Lib.itoa N = UInt8.ofNat (48 + m.toNat % 10) :: l := by
  obtain ⟨a, b, d, c⟩ := h
  rw [c, Lib.decDigits, dif_pos (by omega), Nat.mod_eq_of_lt (by omega)]; rfl
theorem one_backU (w : World) (c : Int) (h0 : 0 ≤ c) (h1 : c < 256) :
    (convert 67 9 (.slice (some ⟨w.heap.size, 0, none⟩) 1 1)).run Tryz.prog (w.alloc (.cells #[.int .u8 c] 5)) = .ok (.string (bs [UInt8.ofNat c.toNat])) (w.alloc (.cells #[.int .u8 c] 5)) :=
  (ownB_lit w 0 c (UInt8.ofNat c.toNat) (by rw [UInt8.toNat_ofNat']; omega) (Nat.zero_le _)).back
theorem bs_appU (a b : List UInt8) : bs a ++ bs b = bs (a ++ b) := bs_of (by simp)
theorem dig_intU (k : Int) (h : 0 ≤ k) : UInt8.ofNat (48 + k % 10).toNat = UInt8.ofNat (48 + k.toNat % 10) := by
  congr 1; omega
set_option maxHeartbeats 1000000 in
set_option maxRecDepth 100000 in
theorem udig_any (n : Int) (w : World) (h0 : 0 ≤ n) (h1 : n ≤ 1000000000) :
    Calls Tryz.prog 80 #[.int .i64 n] w fun e w' => e = .returned (.string (bs (Lib.itoa n))) ∧ Below w.heap.size w w' := by
  have HP : Hid (restU n n []) := ⟨h0, by omega, by simp; omega, by rw [List.append_nil]; unfold Lib.itoa; rw [if_neg (by omega)]⟩
  go_enter Tryz.func80, Tryz.ntmps80
  go_wp2_with fail
  go_loopw [0, 3] (fun m s wr => ∃ (k : Int) (l : List UInt8), m = .int .i64 k ∧ s = .string (bs l) ∧ Hid (restU n k l) ∧ Below w.heap.size w wr) (fun m _ _ => (intOf m).toNat)
  case atStart => exact ⟨n, [], rfl, rfl, HP.out, Below.refl _ _⟩
  case round =>
    obtain ⟨k, l, rfl, rfl, HR, hb⟩ := hrel
    have k0 := HR.out.1
    have k1 := HR.out.2.1
    have k2 := HR.out.2.2.1
    have k3 : ¬ 9223372036854775807 < 1 + l.length := by omega
    have hcv := one_backU wr (48 + k % 10) (by omega) (by omega)
    have hap := bs_appU [UInt8.ofNat (48 + k % 10).toNat] l
    by_cases h10 : k < 10
    · have hz : ((k / 10 : Int) == 0) = true := by rw [beq_iff_eq]; omega
      go_wp2_with fail
      go_ret
      exact ⟨by rw [restU_last HR.out h10, ← dig_intU k k0]; rfl, hb.alloc hb.size _⟩
    · have hz : ((k / 10 : Int) == 0) = false := by rw [beq_eq_false_iff_ne]; omega
      go_wp2_with fail
      go_roundw
      case rel => exact ⟨_, _, rfl, rfl, by rw [dig_intU k k0]; exact restU_more HR.out (by omega), hb.alloc hb.size _⟩
      case measure => simp [intOf]; omega
end Go.Proofs.YtnpiaifkeddjeaaGreatDoor
