/- References: the bytes of a scheme, where a byte stands first: the resolve layer's and the document's small functions. -/
import Derived.Test.YtnpiaifkeddjeaaGreatDoorKPlainU
import Derived.Test.YtnpiaifkeddjeaaGreatDoorKUriJ
import Derived.Test.YtnpiaifkeddjeaaGreatDoorKUriP
import Derived.Test.YtnpiaifkeddjeaaGreatDoorKUriQ
import Derived.Test.YtnpiaifkeddjeaaGreatDoorKUriS
namespace Go.Proofs.YtnpiaifkeddjeaaGreatDoor
open Go.RowKit

def preS : List UInt8 → Bool
  | [] => true
  | c :: r => abcI (c.toNat : Int) && r.all schB
theorem isSch_pre (l : List UInt8) : isSch l = (!l.isEmpty && preS l) := by cases l <;> rfl
theorem preS_snoc (l : List UInt8) (c : UInt8) : preS (l ++ [c]) = if l = [] then abcI (c.toNat : Int) else (preS l && schB c) := by
  match l with
  | [] => simp [preS]
  | d :: r => simp [preS, Bool.and_assoc]
theorem preS_next {s : ByteArray} {k : Nat} (h : k < s.size) (hp : preS (s.data.toList.take k) = true) (hc : abcI (s[k].toNat : Int) = true ∨ (0 < k ∧ schI (s[k].toNat : Int) = true)) : preS (s.data.toList.take (k + 1)) = true := by
  rw [take_snoc s k h, preS_snoc]
  split
  · rename_i h0
    rcases hc with hc | ⟨hc, -⟩
    · exact hc
    · have h1 : (s.data.toList.take k).length = 0 := by rw [h0]; rfl
      rw [List.length_take, ← size_len] at h1
      omega
  · rw [hp]
    rcases hc with hc | ⟨-, hc⟩
    · show (true && (abcI _ || _)) = true; rw [hc]; rfl
    · exact hc
theorem isSch_at {l : List UInt8} (h : isSch l = true) {k : Nat} {c : UInt8} (hk : l[k]? = some c) : (k = 0 ∧ abcI (c.toNat : Int) = true) ∨ (0 < k ∧ schI (c.toNat : Int) = true) := by
  match l, k, h, hk with
  | d :: r, 0, h, hk =>
    simp at hk; rw [← hk]
    exact .inl ⟨rfl, (Bool.and_eq_true_iff.1 h).1⟩
  | d :: r, k + 1, h, hk =>
    exact .inr ⟨by omega, List.all_eq_true.1 (Bool.and_eq_true_iff.1 h).2 c (List.mem_of_getElem? (by simpa using hk))⟩
theorem abc_sch {n : Int} (h : abcI n = true) : schI n = true := by unfold schI; rw [h]; rfl
theorem at_of {s : ByteArray} {k : Nat} (h : k < s.size) : s.data.toList[k]? = some s[k] := by
  rw [List.getElem?_eq_getElem (by rw [← size_len]; exact h)]; rfl
theorem isSch_bad {s : ByteArray} {k : Nat} (h : k < s.size) (hc : abcI (s[k].toNat : Int) = false ∧ (k = 0 ∨ schI (s[k].toNat : Int) = false)) : isSch s.data.toList = false := by
  cases hs : isSch s.data.toList
  · rfl
  · rcases isSch_at hs (at_of h) with ⟨h1, h2⟩ | ⟨h1, h2⟩
    · rw [hc.1] at h2; cases h2
    · rcases hc.2 with h3 | h3
      · omega
      · rw [h3] at h2; cases h2
set_option maxHeartbeats 400000 in
set_option maxRecDepth 100000 in
theorem abc_any (n : Int) (w : World) :
    Calls Tryz.prog 135 #[.int .u8 n] w fun e w' => e = .returned (.bool (abcI n)) ∧ w = w' := by
  go_enter Tryz.func135, Tryz.ntmps135
  go_wp2
  all_goals go_ret
  all_goals refine ⟨ret_bool ?_, rfl⟩
  all_goals unfold abcI
  all_goals rw [Bool.eq_iff_iff]
  all_goals simp
  all_goals omega
set_option maxHeartbeats 1000000 in
set_option maxRecDepth 100000 in
theorem isSch_any (s : ByteArray) (w : World) (hs : s.size ≤ maxLen) :
    Calls Tryz.prog 118 #[.string s] w fun r w' => r = .returned (.bool (isSch s.data.toList)) ∧ w = w' := by
  unfold maxLen at hs
  go_enter Tryz.func118, Tryz.ntmps118
  go_wp2_with fail
  go_loop [6] (fun i => ∃ k : Nat, k ≤ s.size ∧ i = .int .i64 k ∧ Hid (preS (s.data.toList.take k) = true)) (fun i => s.size - (intOf i).toNat)
  case atStart => exact ⟨0, Nat.zero_le _, rfl, rfl⟩
  case round =>
    obtain ⟨k, hk, rfl, HT⟩ := hrel
    by_cases hlt : k < s.size
    · have HA := Lib.hid (fun w => abc_any (s[k].toNat : Int) w)
      cases ha : abcI (s[k].toNat : Int)
      · rw [ha] at HA
        by_cases hk0 : k = 0
        · have HB := Lib.hid (isSch_bad hlt ⟨ha, .inl hk0⟩)
          have hb0 : ((k : Int) == 0) = true := by rw [beq_iff_eq]; omega
          clear hk0 ha HT
          go_wp2_with (go_at_call 135; refine (HA.out _).mono ?_; rintro e w' ⟨rfl, rfl⟩)
          go_ret
          exact ⟨ret_bool HB.out.symm, rfl⟩
        · have hb0 : ((k : Int) == 0) = false := by rw [beq_eq_false_iff_ne]; omega
          have HX := Lib.hid (fun w => indexU_any schM s[k] w)
          have hi := index_in schM s[k]
          cases hn : inI (s[k].toNat : Int) schM
          · have HB := Lib.hid (isSch_bad hlt ⟨ha, .inr (by unfold schI; rw [ha, hn]; rfl)⟩)
            rw [hn, decide_eq_false_iff_not] at hi
            clear ha hn HT hk0
            generalize Lib.indexByte schM s[k] = x at *
            go_wp2_with (first | (go_at_call 135; refine (HA.out _).mono ?_; rintro e w' ⟨rfl, rfl⟩) | (go_at_call 89; refine (HX.out _).mono ?_; rintro e w' ⟨rfl, rfl⟩))
            go_ret
            exact ⟨ret_bool HB.out.symm, rfl⟩
          · have HN := Lib.hid (preS_next hlt HT.out (.inr ⟨by omega, by unfold schI; rw [hn, Bool.or_true]⟩))
            rw [hn, decide_eq_true_eq] at hi
            clear ha hn HT hk0
            generalize Lib.indexByte schM s[k] = x at *
            go_wp2_with (first | (go_at_call 135; refine (HA.out _).mono ?_; rintro e w' ⟨rfl, rfl⟩) | (go_at_call 89; refine (HX.out _).mono ?_; rintro e w' ⟨rfl, rfl⟩))
            go_round
            case rel => exact ⟨k + 1, by omega, by go_num, HN.out⟩
            case measure => simp [intOf]; omega
      · have HN := Lib.hid (preS_next hlt HT.out (.inl ha))
        rw [ha] at HA
        clear ha HT
        go_wp2_with (go_at_call 135; refine (HA.out _).mono ?_; rintro e w' ⟨rfl, rfl⟩)
        go_round
        case rel => exact ⟨k + 1, by omega, by go_num, HN.out⟩
        case measure => simp [intOf]; omega
    · have HF : Hid (isSch s.data.toList = !s.toList.isEmpty) := by
        show _ = _
        have h := HT.out
        rw [take_all hlt] at h
        rw [isSch_pre, h, Bool.and_true, Lib.toList_data]
      clear HT
      cases he : s.toList.isEmpty
      all_goals
        rw [he] at HF
        go_wp2_with fail
        go_ret
        exact ⟨ret_bool HF.out.symm, rfl⟩
/-- no such byte ahead of a place -/
def noB (s : ByteArray) (c : UInt8) (k : Nat) : Prop := ∀ j (h : j < s.data.toList.length), j < k → s.data.toList[j] ≠ c
theorem noB.next {s : ByteArray} {c : UInt8} {k : Nat} (h : noB s c k) (hk : k < s.size) (hc : s[k] ≠ c) : noB s c (k + 1) := fun j hj hjk => by
  rcases Nat.lt_or_ge j k with h1 | h1
  · exact h j hj h1
  · obtain rfl : j = k := by omega
    exact hc
theorem noB.cut {s : ByteArray} {c : UInt8} {k : Nat} (h : noB s c k) (hk : k ≤ s.size) (hc : ∀ h : k < s.size, s[k] = c) : Lib.cut s.data.toList [c] = (s.data.toList.take k, s.data.toList.drop (k + 1), decide (k < s.data.toList.length)) :=
  cut_at1 (by rw [← size_len]; exact hk) h (fun h1 => hc (by rw [size_len]; exact h1))
theorem take_len {s : ByteArray} {k : Nat} (hk : k ≤ s.size) : (s.data.toList.take k).length = k := by rw [List.length_take, ← size_len]; omega
set_option maxHeartbeats 400000 in
set_option maxRecDepth 100000 in
theorem find_any (s : ByteArray) (c : UInt8) (w : World) (hs : s.size ≤ maxLen) :
    Calls Tryz.prog 56 #[.string s, .int .u8 (c.toNat : Int)] w fun r w' => r = .returned (.int .i64 ((Lib.cut s.data.toList [c]).1.length : Nat)) ∧ w = w' := by
  unfold maxLen at hs
  go_enter Tryz.func56, Tryz.ntmps56
  go_wp2_with fail
  go_loop [5] (fun i => ∃ k : Nat, k ≤ s.size ∧ i = .int .i64 k ∧ Hid (noB s c k)) (fun i => s.size - (intOf i).toNat)
  case atStart => exact ⟨0, Nat.zero_le _, rfl, fun j _ h => absurd h (Nat.not_lt_zero _)⟩
  case round =>
    obtain ⟨k, hk, rfl, HT⟩ := hrel
    by_cases hlt : k < s.size
    · by_cases hc : s[k] = c
      · have hb : ((s[k].toNat : Int) != (c.toNat : Int)) = false := by rw [hc]; simp
        have HF : Hid ((Lib.cut s.data.toList [c]).1.length = k) := by show _ = _; rw [HT.out.cut hk (fun _ => hc)]; exact take_len hk
        clear hc HT
        go_wp2_with fail
        go_ret
        exact ⟨ret_i64U (by rw [HF.out]), rfl⟩
      · have hb : ((s[k].toNat : Int) != (c.toNat : Int)) = true := by rw [bne_iff_ne]; intro h; exact hc (UInt8.toNat_inj.1 (by omega))
        have HN := Lib.hid (HT.out.next hlt hc)
        clear hc HT
        go_wp2_with fail
        go_round
        case rel => exact ⟨k + 1, by omega, by go_num, HN.out⟩
        case measure => simp [intOf]; omega
    · have HF : Hid ((Lib.cut s.data.toList [c]).1.length = k) := by show _ = _; rw [HT.out.cut hk (fun h => absurd h hlt)]; exact take_len hk
      clear HT
      go_wp2_with fail
      go_ret
      exact ⟨ret_i64U (by rw [HF.out]), rfl⟩
theorem schN_none {s : ByteArray} {k : Nat} (h : noB s 58 k) (hk : ¬ k < s.size) : schN s.data.toList = 0 := by
  have h1 : Lib.cut s.data.toList [58] = _ := noB.cut (k := s.size) (fun j hj _ => h j hj (by rw [← size_len] at hj; omega)) (Nat.le_refl _) (fun h => absurd h (Nat.lt_irrefl _))
  unfold schN
  rw [h1, decide_eq_false (by rw [size_len]; exact Nat.lt_irrefl _)]
  rfl
theorem schN_here {s : ByteArray} {k : Nat} (h : noB s 58 k) (hp : preS (s.data.toList.take k) = true) (hk : k < s.size) (hc : s[k] = 58) : schN s.data.toList = k := by
  unfold schN
  rw [h.cut (Nat.le_of_lt hk) (fun _ => hc), decide_eq_true (by rw [← size_len]; exact hk), isSch_pre, hp]
  simp only [Bool.true_and, Bool.and_true]
  have h2 := take_len (Nat.le_of_lt hk)
  split
  · exact h2
  · rename_i h3
    cases hl : s.data.toList.take k with
    | nil => rw [hl] at h2; exact h2
    | cons a b => rw [hl] at h3; exact absurd rfl h3
theorem schN_bad {s : ByteArray} {k : Nat} (h : noB s 58 k) (hk : k < s.size) (h58 : s[k] ≠ 58) (hc : abcI (s[k].toNat : Int) = false ∧ (k = 0 ∨ schI (s[k].toNat : Int) = false)) : schN s.data.toList = 0 := by
  unfold schN
  split
  · rename_i h1
    obtain ⟨hf, hi⟩ := Bool.and_eq_true_iff.1 h1
    obtain ⟨hp, -⟩ := cut_parts s.data.toList [58]
    rw [hf, if_pos rfl] at hp
    generalize (Lib.cut s.data.toList [58]).1 = a at *
    generalize (Lib.cut s.data.toList [58]).2.1 = t at *
    have hal : a.length < s.data.toList.length := by rw [hp]; simp
    have h2 : s.data.toList[a.length]? = some 58 := by rw [hp]; simp
    rw [List.getElem?_eq_getElem hal] at h2
    have h3 : k < a.length := by
      rcases Nat.lt_or_ge a.length k with h4 | h4
      · exact absurd (Option.some.inj h2) (h _ hal h4)
      · rcases Nat.lt_or_ge k a.length with h5 | h5
        · exact h5
        · obtain rfl : a.length = k := by omega
          exact absurd (Option.some.inj h2) h58
    have h4 := at_of hk
    rw [hp, List.getElem?_append_left h3] at h4
    rcases isSch_at hi h4 with ⟨h5, h6⟩ | ⟨h5, h6⟩
    · rw [hc.1] at h6; cases h6
    · rcases hc.2 with h7 | h7
      · omega
      · rw [h7] at h6; cases h6
  · rfl
theorem ne58 {c : UInt8} (h : ¬ (c.toNat : Int) = 58) : c ≠ 58 := fun e => h (by rw [e]; rfl)
theorem inI_schM (n : Int) : inI n schM = decide ((48 ≤ n ∧ n ≤ 57) ∨ n = 43 ∨ n = 45 ∨ n = 46) := by
  unfold inI schM
  rw [Bool.eq_iff_iff]
  simp
  omega
theorem sch_cases (n : Int) : n = 58 ∨ (¬ n = 58 ∧ abcI n = true ∧ ((97 ≤ n ∧ n ≤ 122) ∨ (65 ≤ n ∧ n ≤ 90))) ∨
    (¬ n = 58 ∧ abcI n = false ∧ schI n = true ∧ ((48 ≤ n ∧ n ≤ 57) ∨ (43 ≤ n ∧ n ≤ 43) ∨ (45 ≤ n ∧ n ≤ 45) ∨ (46 ≤ n ∧ n ≤ 46))) ∨
    (¬ n = 58 ∧ abcI n = false ∧ schI n = false ∧ (n < 43 ∨ (44 ≤ n ∧ n ≤ 44) ∨ (47 ≤ n ∧ n ≤ 47) ∨ (59 ≤ n ∧ n ≤ 64) ∨ (91 ≤ n ∧ n ≤ 96) ∨ 122 < n)) := by
  unfold schI
  rw [inI_schM]
  unfold abcI
  simp only [decide_eq_true_eq, decide_eq_false_iff_not, Bool.or_eq_true, Bool.or_eq_false_iff]
  omega
set_option maxHeartbeats 2000000 in
set_option maxRecDepth 100000 in
theorem scheme_any (s : ByteArray) (w : World) (hs : s.size ≤ maxLen) :
    Calls Tryz.prog 57 #[.string s] w fun r w' => r = .returned (.int .i64 (schN s.data.toList : Nat)) ∧ w = w' := by
  unfold maxLen at hs
  go_enter Tryz.func57, Tryz.ntmps57
  go_wp2_with fail
  go_loop [3] (fun i => ∃ k : Nat, k ≤ s.size ∧ i = .int .i64 k ∧ Hid (noB s 58 k ∧ preS (s.data.toList.take k) = true)) (fun i => s.size - (intOf i).toNat)
  case atStart => exact ⟨0, Nat.zero_le _, rfl, fun j _ h => absurd h (Nat.not_lt_zero _), rfl⟩
  case round =>
    obtain ⟨k, hk, rfl, HT⟩ := hrel
    by_cases hlt : k < s.size
    · rcases sch_cases (s[k].toNat : Int) with h | ⟨h, ha, hr⟩ | ⟨h, ha, hsc, hr⟩ | ⟨h, ha, hsc, hr⟩
      · have HF : Hid (schN s.data.toList = k) := schN_here HT.out.1 HT.out.2 hlt (UInt8.toNat_inj.1 (by simpa using (by omega : s[k].toNat = 58)))
        have hb : ((s[k].toNat : Int) == 58) = true := by rw [beq_iff_eq]; exact h
        have h1 : 58 ≤ (s[k].toNat : Int) := by omega
        have h2 : (s[k].toNat : Int) ≤ 58 := by omega
        clear h HT
        go_wp2_with fail
        go_ret
        exact ⟨ret_i64U (by rw [HF.out]), rfl⟩
      · have HN := Lib.hid (⟨HT.out.1.next hlt (ne58 h), preS_next hlt HT.out.2 (.inl ha)⟩ : noB s 58 (k + 1) ∧ _)
        have hb : ((s[k].toNat : Int) == 58) = false := by rw [beq_eq_false_iff_ne]; exact h
        clear h ha HT
        rcases hr with ⟨h1, h2⟩ | ⟨h1, h2⟩
        all_goals
          go_wp2_with fail
          go_round
          case rel => exact ⟨k + 1, by omega, by go_num, HN.out⟩
          case measure => simp [intOf]; omega
      · have hb : ((s[k].toNat : Int) == 58) = false := by rw [beq_eq_false_iff_ne]; exact h
        by_cases hk0 : k = 0
        · have HF := Lib.hid (schN_bad HT.out.1 hlt (ne58 h) ⟨ha, .inl hk0⟩)
          have hb0 : ((k : Int) == 0) = true := by rw [beq_iff_eq]; omega
          have h1 : (s[k].toNat : Int) < 65 := by omega
          clear h ha hsc hr hk0 HT
          go_wp2_with fail
          go_ret
          exact ⟨ret_i64U (by rw [HF.out]; rfl), rfl⟩
        · have HN := Lib.hid (⟨HT.out.1.next hlt (ne58 h), preS_next hlt HT.out.2 (.inr ⟨by omega, hsc⟩)⟩ : noB s 58 (k + 1) ∧ _)
          have hb0 : ((k : Int) == 0) = false := by rw [beq_eq_false_iff_ne]; omega
          clear ha hsc HT hk0
          rcases hr with ⟨h1, h2⟩ | ⟨h1, h2⟩ | ⟨h1, h2⟩ | ⟨h1, h2⟩
          · have m1 : ((s[k].toNat : Int) != 43) = true := by rw [bne_iff_ne]; omega
            have m2 : ((s[k].toNat : Int) != 45) = true := by rw [bne_iff_ne]; omega
            have m3 : ((s[k].toNat : Int) != 46) = true := by rw [bne_iff_ne]; omega
            clear h
            go_wp2_with fail
            go_round
            case rel => exact ⟨k + 1, by omega, by go_num, HN.out⟩
            case measure => simp [intOf]; omega
          · have m1 : ((s[k].toNat : Int) != 43) = false := by rw [bne_eq_false_iff_eq]; omega
            clear h
            go_wp2_with fail
            go_round
            case rel => exact ⟨k + 1, by omega, by go_num, HN.out⟩
            case measure => simp [intOf]; omega
          · have m1 : ((s[k].toNat : Int) != 43) = true := by rw [bne_iff_ne]; omega
            have m2 : ((s[k].toNat : Int) != 45) = false := by rw [bne_eq_false_iff_eq]; omega
            clear h
            go_wp2_with fail
            go_round
            case rel => exact ⟨k + 1, by omega, by go_num, HN.out⟩
            case measure => simp [intOf]; omega
          · have m1 : ((s[k].toNat : Int) != 43) = true := by rw [bne_iff_ne]; omega
            have m2 : ((s[k].toNat : Int) != 45) = true := by rw [bne_iff_ne]; omega
            have m3 : ((s[k].toNat : Int) != 46) = false := by rw [bne_eq_false_iff_eq]; omega
            clear h
            go_wp2_with fail
            go_round
            case rel => exact ⟨k + 1, by omega, by go_num, HN.out⟩
            case measure => simp [intOf]; omega
      · have hb : ((s[k].toNat : Int) == 58) = false := by rw [beq_eq_false_iff_ne]; exact h
        have HF := Lib.hid (schN_bad HT.out.1 hlt (ne58 h) ⟨ha, .inr hsc⟩)
        have m1 : ((s[k].toNat : Int) != 43) = true := by rw [bne_iff_ne]; omega
        have m2 : ((s[k].toNat : Int) != 45) = true := by rw [bne_iff_ne]; omega
        have m3 : ((s[k].toNat : Int) != 46) = true := by rw [bne_iff_ne]; omega
        clear h ha hsc HT
        cases hb0 : ((k : Int) == 0)
        all_goals
          rcases hr with h1 | ⟨h1, h2⟩ | ⟨h1, h2⟩ | ⟨h1, h2⟩ | ⟨h1, h2⟩ | h1
          all_goals
            try have d1 : decide ((s[k].toNat : Int) ≤ 90) = false := decide_eq_false (by omega)
            try have d2 : decide ((s[k].toNat : Int) ≤ 122) = false := decide_eq_false (by omega)
            go_wp2_with fail
            go_ret
            exact ⟨ret_i64U (by rw [HF.out]; rfl), rfl⟩
    · have HF := Lib.hid (schN_none HT.out.1 hlt)
      clear HT
      go_wp2_with fail
      go_ret
      exact ⟨ret_i64U (by rw [HF.out]; rfl), rfl⟩
end Go.Proofs.YtnpiaifkeddjeaaGreatDoor

/- References: the resolve layer's apart and target. -/
namespace Go.Proofs.YtnpiaifkeddjeaaGreatDoor
open Go.RowKit

theorem ret_twoS {a b c d : List UInt8} (h : a = c) (k : b = d) : Ending.returned (.tuple #[.string (bs a), .string (bs b)]) = .returned (.tuple #[.string (bs c), .string (bs d)]) := by rw [h, k]
theorem low_same2 : ∀ n : Nat, n < 256 → lowB (UInt8.ofNat n) = Lib.lowerB (UInt8.ofNat n) := by decide +kernel
theorem lower_lib (l : List UInt8) : Lib.toLowerA l = lower l := by
  unfold Lib.toLowerA lower
  refine List.map_congr_left fun c _ => ?_
  have h := low_same2 c.toNat (UInt8.toNat_lt c)
  rw [byteU] at h
  exact h.symm
theorem sch_ascii : ∀ n : Nat, n < 256 → schB (UInt8.ofNat n) = true → n < 128 := by decide +kernel
theorem toLower_any (s : List UInt8) (w : World) (hl : s.length ≤ 1000000) (h : isSch s = true) :
    Calls Tryz.prog 119 #[.string (bs s)] w fun e w' => e = .returned (.string (bs (lower s))) ∧ Below w.heap.size w w' := by
  have h4 := Tryz.strings_ToLower_ascii (bs s) w (by rw [bs_size]; omega) (fun _ b hb => by
    rw [bs_data] at hb
    have := sch_ascii b.toNat b.toNat_lt
    rw [byteU] at this
    exact this ((sch_all h).2.1 b (List.mem_of_getElem? hb)))
  rw [bs_data, lower_lib] at h4
  exact h4
theorem isSchL_any (s : List UInt8) (w : World) (hl : s.length ≤ 1000000) :
    Calls Tryz.prog 118 #[.string (bs s)] w fun r w' => r = .returned (.bool (isSch s)) ∧ w = w' := by
  have h := isSch_any (bs s) w (by rw [bs_size]; unfold maxLen; omega)
  rwa [bs_data] at h
set_option maxHeartbeats 1000000 in
set_option maxRecDepth 100000 in
theorem apartR_any (r : List UInt8) (w : World) (he : EnvU w) (hl : r.length ≤ 1000000) :
    Calls Tryz.prog 102 #[.string (bs r)] w fun e w' => e = .returned (.tuple #[.string (bs (apartR r).1), .string (bs (apartR r).2)]) ∧ Below w.heap.size w w' := by
  have HC := Lib.hid (cutU_any r [58] w he (by omega))
  have hle := (cut_leU r [58]).1
  have HS := Lib.hid (fun W => isSchL_any (Lib.cut r [58]).1 W (by omega))
  have HL := Lib.hid (fun W => toLower_any (Lib.cut r [58]).1 W (by omega))
  have hA : apartR r = if (Lib.cut r [58]).2.2 && isSch (Lib.cut r [58]).1 then (lower (Lib.cut r [58]).1, (Lib.cut r [58]).2.1) else ([], r) := rfl
  rw [hA]
  clear hA hle hl
  generalize Lib.cut r [58] = C at *
  obtain ⟨a, t, f⟩ := C
  simp only at HC HS HL ⊢
  cases f
  · simp only [Bool.false_and, Bool.false_eq_true, if_false]
    go_enter Tryz.func102, Tryz.ntmps102
    go_wp2_with fail
    refine HC.out.mono ?_
    rintro e w1 ⟨rfl, hb1⟩
    have HB1 := Lib.hid hb1; clear hb1 HC
    go_wp2_with fail
    go_ret2
    exact ⟨ret_twoS rfl rfl, HB1.out⟩
  · simp only [Bool.true_and]
    cases hs : isSch a
    · simp only [Bool.false_eq_true, if_false]
      rw [hs] at HS
      clear hs
      go_enter Tryz.func102, Tryz.ntmps102
      go_wp2_with fail
      refine HC.out.mono ?_
      rintro e w1 ⟨rfl, hb1⟩
      have HB1 := Lib.hid hb1; clear hb1 HC
      go_wp2_with fail
      refine (HS.out _).mono ?_
      rintro e w2 ⟨rfl, rfl⟩
      go_wp2_with fail
      go_ret2
      exact ⟨ret_twoS rfl rfl, HB1.out⟩
    · simp only [if_true]
      rw [hs] at HS
      have HL2 := Lib.hid (fun W => HL.out W hs)
      clear hs HL
      generalize lower a = la at *
      go_enter Tryz.func102, Tryz.ntmps102
      go_wp2_with fail
      refine HC.out.mono ?_
      rintro e w1 ⟨rfl, hb1⟩
      have HB1 := Lib.hid hb1; clear hb1 HC
      go_wp2_with fail
      refine (HS.out _).mono ?_
      rintro e w2 ⟨rfl, rfl⟩
      go_wp2_with fail
      refine (HL2.out _).mono ?_
      rintro e w3 ⟨rfl, hb3⟩
      have HB3 := Lib.hid (HB1.out.trans (hb3.mono HB1.out.size)); clear hb3
      go_wp2_with fail
      go_ret2
      exact ⟨ret_twoS rfl rfl, HB3.out⟩
theorem norm_lensR {u : Ur} (hf : Fm u) (h : u.text.length ≤ 1024) : u.sc.length ≤ 1024 ∧ u.ho.length ≤ 1024 ∧ u.pa.length ≤ 1024 ∧ u.qu.length ≤ 1024 := by
  rw [text_split] at h
  simp only [List.length_append, List.length_cons] at h
  cases hq : u.hq
  · rw [hf.qh hq]
    exact ⟨by omega, by omega, by omega, by simp⟩
  · rw [hq] at h
    simp only [if_true, List.length_cons] at h
    exact ⟨by omega, by omega, by omega, by omega⟩
theorem lens_of {u : Ur} (h : u.check = 0) : (u.sc.length ≤ 1024 ∧ u.ho.length ≤ 1024 ∧ u.pa.length ≤ 1024 ∧ u.qu.length ≤ 1024) ∧ 0 ≤ u.po ∧ u.po ≤ 65535 := by
  have hF := formed_iff.1 (uchk_zero h).1
  exact ⟨norm_lensR hF (uchk_zero h).2, hF.p0, hF.p1⟩
theorem target_is (b : Ur) (r : List UInt8) : targetU b r = if Lib.hasPrefix r [47, 47] then parseU (b.sc ++ 58 :: (apartR r).2)
  else if (apartR r).1 ≠ [] then parseU ((apartR r).1 ++ 58 :: (apartR r).2)
  else (relU b (Lib.cut r [63]).1 (Lib.cut r [63]).2.1 (Lib.cut r [63]).2.2, (relU b (Lib.cut r [63]).1 (Lib.cut r [63]).2.1 (Lib.cut r [63]).2.2).check) := rfl
theorem lastI_any (s : List UInt8) (w : World) (hl : s.length ≤ 1000000) :
    Calls Tryz.prog 103 #[.string (bs s), .string ⟨#[47]⟩] w fun e w' => e = .returned (.int .i64 (Lib.lastIndex s [47])) ∧ w = w' := by
  refine (Tryz.strings_LastIndex (bs s) ⟨#[47]⟩ (by rw [bs_size]; omega) w).mono ?_
  rw [bs_data]
  rintro e w' ⟨he, hw⟩
  exact ⟨he, hw.symm⟩
theorem lastI_in (s : List UInt8) : 0 ≤ Lib.lastIndex s [47] + 1 ∧ Lib.lastIndex s [47] + 1 ≤ s.length := by
  rcases Nat.lt_or_ge s.length 1 with h | h
  · have e2 : Lib.lastIndex s [47] = -1 := if_neg (by simp only [List.length_cons, List.length_nil]; omega)
    rw [e2]; omega
  · have e2 : Lib.lastIndex s [47] = Lib.lastOcc s [47] (s.length - 1 + 1) := if_pos h
    rcases Lib.lastOcc_spec s [47] (s.length - 1 + 1) with ⟨e, -⟩ | ⟨i, hi, e, -, -⟩
    · rw [e2, e]; omega
    · rw [e2, e]; omega
theorem dir_len (s : List UInt8) : (dirOf s).length ≤ s.length := by unfold dirOf; rw [List.length_take]; omega
theorem ext_of (s : List UInt8) (n : Nat) : (bs s).extract 0 n = bs (s.take n) := bs_of (by simp [bs])
set_option maxHeartbeats 4000000 in
set_option maxRecDepth 100000 in
theorem target_any (b : Ur) (r : List UInt8) (w : World) (he : EnvU w) (hc : b.check = 0) (hr : r.length ≤ 1024) :
    Calls Tryz.prog 77 #[.agg #[.string (bs b.sc), .string (bs b.ho), .int .i64 b.po, .string (bs b.pa), .string (bs b.qu), .bool b.hq], .string (bs r)] w (RetU w (targetU b r)) := by
  obtain ⟨⟨l1, l2, l3, l4⟩, l5, l6⟩ := lens_of hc
  clear hc
  have hal : Below w.heap.size w ((w.alloc (.cells #[.string (bs b.sc), .string (bs b.ho), .int .i64 b.po, .string (bs b.pa), .string (bs b.qu), .bool b.hq] 23)).alloc (.cells #[.string ⟨#[]⟩, .string ⟨#[]⟩, .int .i64 0, .string ⟨#[]⟩, .string ⟨#[]⟩, .bool false] 23)) := ((Below.refl _ _).alloc (Nat.le_refl _) _).alloc (by simp) _
  rw [target_is]
  have HA := Lib.hid (fun W (hb : EnvU W) => apartR_any r W hb (by omega))
  have HC := Lib.hid (fun W (hb : EnvU W) => cutU_any r [63] W hb (by omega))
  have HP := Lib.hid (fun W => prefixU_any r [47, 47] W)
  obtain ⟨k1, k2⟩ := cut_leU r [63]
  have k3 : (apartR r).2.length ≤ 1024 ∧ (apartR r).1.length ≤ 1024 := by
    unfold apartR
    have h1 := cut_leU r [58]
    split
    · simp only [lower_len]; omega
    · simp only [List.length_nil]; omega
  generalize apartR r = A at *
  obtain ⟨a1, a2⟩ := A
  generalize Lib.cut r [63] = C at *
  obtain ⟨p, q, h⟩ := C
  simp only at HA HC k1 k2 k3 ⊢
  have k4 : p.length ≤ 1024 := by omega
  have k5 : q.length ≤ 1024 := by omega
  obtain ⟨k6, k7⟩ := k3
  clear k1 k2 hr
  obtain ⟨sc, ho, po, pa, qu, hq⟩ := b
  simp only at l1 l2 l3 l4 l5 l6 hal ⊢
  have hbn := (ubk.new w #[.string (bs sc), .string (bs ho), .int .i64 po, .string (bs pa), .string (bs qu), .bool hq] 23).alloc (.cells #[.string ⟨#[]⟩, .string ⟨#[]⟩, .int .i64 0, .string ⟨#[]⟩, .string ⟨#[]⟩, .bool false] 23)
  have hbr := ubk.new (w.alloc (.cells #[.string (bs sc), .string (bs ho), .int .i64 po, .string (bs pa), .string (bs qu), .bool hq] 23)) #[.string ⟨#[]⟩, .string ⟨#[]⟩, .int .i64 0, .string ⟨#[]⟩, .string ⟨#[]⟩, .bool false] 23
  rw [World.size_alloc] at hbr
  have HAL := Lib.hid hal; have HBN := Lib.hid hbn; have HBR := Lib.hid hbr; have HE := Lib.hid he
  clear hal hbn hbr he
  generalize Lib.hasPrefix r [47, 47] = x at *
  cases x
  · simp only [Bool.false_eq_true, if_false]
    by_cases ha : a1 ≠ []
    · rw [if_pos ha]
      have q1 : ((bs a1).toList == []) = false := by rw [beq_lit]; exact beq_eq_false_iff_ne.2 ha
      have q2 : (bs a1).toList.isEmpty = false := by rw [Lib.toList_data, bs_data]; cases a1 with | nil => exact absurd rfl ha | cons => rfl
      clear ha
      have HPA : Hid (∀ W, EnvU W → Calls Tryz.prog 21 #[.string (bs a1 ++ ⟨#[58]⟩ ++ bs a2)] W (RetU W (parseU (a1 ++ 58 :: a2)))) := fun W hb => by
        rw [show bs a1 ++ ⟨#[58]⟩ ++ bs a2 = bs (a1 ++ 58 :: a2) from bs_of (by simp)]
        exact parse_any _ W hb
      generalize parseU (a1 ++ 58 :: a2) = X at *
      obtain ⟨⟨qsc, qho, qpo, qpa, qqu, qhq⟩, qe⟩ := X
      unfold RetU at HPA ⊢
      simp only at HPA ⊢
      go_enter Tryz.func77, Tryz.ntmps77
      go_wp2_with fail
      refine (HA.out _ (HE.out.bel HAL.out)).mono ?_
      rintro e w1 ⟨rfl, hb1⟩
      have HB1 := Lib.hid (HAL.out.trans (hb1.mono HAL.out.size)); have HN1 := Lib.hid (HBN.out.below hb1); have HR1 := Lib.hid (HBR.out.below hb1); clear hb1
      go_wp2_with fail
      refine (HC.out _ (HE.out.bel HB1.out)).mono ?_
      rintro e w2 ⟨rfl, hb2⟩
      have HB2 := Lib.hid (HB1.out.trans (hb2.mono HB1.out.size)); have HN2 := Lib.hid (HN1.out.below hb2); have HR2 := Lib.hid (HR1.out.below hb2); clear hb2 HB1 HN1 HR1
      go_wp2_with fail
      refine (HP.out _).mono ?_
      rintro e w3 ⟨rfl, rfl⟩
      go_wp2_with fail
      refine (HPA.out _ (HE.out.bel HB2.out)).mono ?_
      rintro e w4 ⟨rfl, hb4⟩
      have HB4 := Lib.hid (HB2.out.trans (hb4.mono HB2.out.size)); have hr4 := HR2.out.below hb4; clear hb4
      have nc0 := hr4.cell 0 (.string ⟨#[]⟩) rfl
      have nc1 := hr4.cell 1 (.string ⟨#[]⟩) rfl
      have nc2 := hr4.cell 2 (.int .i64 0) rfl
      have nc3 := hr4.cell 3 (.string ⟨#[]⟩) rfl
      have nc4 := hr4.cell 4 (.string ⟨#[]⟩) rfl
      have nc5 := hr4.cell 5 (.bool false) rfl
      have nf0 := hr4.free 0
      have nf1 := hr4.free 1
      have nf2 := hr4.free 2
      have nf3 := hr4.free 3
      have nf4 := hr4.free 4
      have nf5 := hr4.free 5
      have hq0 := ((((((hr4.set 0 (.string (bs qsc))).set 1 (.string (bs qho))).set 2 (.int .i64 qpo)).set 3 (.string (bs qpa))).set 4 (.string (bs qqu))).set 5 (.bool qhq))
      simp only [List.setIfInBounds_toArray, List.set_cons_zero, List.set_cons_succ] at hq0
      have HQ := Lib.hid hq0; clear hq0
      have HBF : Hid (Below w.heap.size w ((((((w4.setCell ⟨w.heap.size + 1, 0, none⟩ (.string (bs qsc))).setCell ⟨w.heap.size + 1, 1, none⟩ (.string (bs qho))).setCell ⟨w.heap.size + 1, 2, none⟩ (.int .i64 qpo)).setCell ⟨w.heap.size + 1, 3, none⟩ (.string (bs qpa))).setCell ⟨w.heap.size + 1, 4, none⟩ (.string (bs qqu))).setCell ⟨w.heap.size + 1, 5, none⟩ (.bool qhq))) := ((((((HB4.out.setCell (p := ⟨w.heap.size + 1, 0, none⟩) (Nat.le_succ _) (.string (bs qsc))).setCell (p := ⟨w.heap.size + 1, 1, none⟩) (Nat.le_succ _) (.string (bs qho))).setCell (p := ⟨w.heap.size + 1, 2, none⟩) (Nat.le_succ _) (.int .i64 qpo)).setCell (p := ⟨w.heap.size + 1, 3, none⟩) (Nat.le_succ _) (.string (bs qpa))).setCell (p := ⟨w.heap.size + 1, 4, none⟩) (Nat.le_succ _) (.string (bs qqu))).setCell (p := ⟨w.heap.size + 1, 5, none⟩) (Nat.le_succ _) (.bool qhq))
      clear hr4
      go_wp2_with fail
      have m0 := HQ.out.cell 0 (.string (bs qsc)) rfl
      have m1 := HQ.out.cell 1 (.string (bs qho)) rfl
      have m2 := HQ.out.cell 2 (.int .i64 qpo) rfl
      have m3 := HQ.out.cell 3 (.string (bs qpa)) rfl
      have m4 := HQ.out.cell 4 (.string (bs qqu)) rfl
      have m5 := HQ.out.cell 5 (.bool qhq) rfl
      refine bodyPost_ret (v := .tuple #[.agg #[.string (bs qsc), .string (bs qho), .int .i64 qpo, .string (bs qpa), .string (bs qqu), .bool qhq], .int .i64 qe]) (by simp [results, Tryz.results77, go_sem, m0, m1, m2, m3, m4, m5]) rfl ⟨?_, HBF.out⟩
      rfl
    · rw [if_neg ha]
      obtain rfl : a1 = [] := Classical.not_not.1 ha
      clear ha k7 k6
      have z1 : ((bs []).toList == []) = true := by rw [beq_lit]; rfl
      have z2 : (bs []).toList.isEmpty = true := by rw [Lib.toList_data, bs_data]; rfl
      by_cases hp : p = []
      · subst hp
        cases h
        · have hR : relU ⟨sc, ho, po, pa, qu, hq⟩ [] q false = ⟨sc, ho, po, pa, qu, hq⟩ := by rfl
          rw [hR]
          clear hR
          have HCK : Hid (∀ W, EnvU W → Calls Tryz.prog 20 #[.agg #[.string (bs sc), .string (bs ho), .int .i64 po, .string (bs pa), .string (bs qu), .bool hq]] W fun e w' => e = .returned (.int .i64 (Ur.check ⟨sc, ho, po, pa, qu, hq⟩)) ∧ Below W.heap.size W w') := fun W hb => uriCheck_any ⟨sc, ho, po, pa, qu, hq⟩ W hb ⟨by simp only; omega, by simp only; omega, by simp only; omega⟩
          generalize Ur.check ⟨sc, ho, po, pa, qu, hq⟩ = k at *
          show Calls Tryz.prog 77 _ w fun e w' => e = .returned (.tuple #[.agg #[.string (bs sc), .string (bs ho), .int .i64 po, .string (bs pa), .string (bs qu), .bool hq], .int .i64 k]) ∧ Below w.heap.size w w'
          go_enter Tryz.func77, Tryz.ntmps77
          go_wp2_with fail
          refine (HA.out _ (HE.out.bel HAL.out)).mono ?_
          rintro e w1 ⟨rfl, hb1⟩
          have HB1 := Lib.hid (HAL.out.trans (hb1.mono HAL.out.size)); have HN1 := Lib.hid (HBN.out.below hb1); have HR1 := Lib.hid (HBR.out.below hb1); clear hb1
          go_wp2_with fail
          refine (HC.out _ (HE.out.bel HB1.out)).mono ?_
          rintro e w2 ⟨rfl, hb2⟩
          have HB2 := Lib.hid (HB1.out.trans (hb2.mono HB1.out.size)); have HN2 := Lib.hid (HN1.out.below hb2); have HR2 := Lib.hid (HR1.out.below hb2); clear hb2 HB1 HN1 HR1
          go_wp2_with fail
          refine (HP.out _).mono ?_
          rintro e w3 ⟨rfl, rfl⟩
          have bc0 := HN2.out.cell 0 (.string (bs sc)) rfl
          have bc1 := HN2.out.cell 1 (.string (bs ho)) rfl
          have bc2 := HN2.out.cell 2 (.int .i64 po) rfl
          have bc3 := HN2.out.cell 3 (.string (bs pa)) rfl
          have bc4 := HN2.out.cell 4 (.string (bs qu)) rfl
          have bc5 := HN2.out.cell 5 (.bool hq) rfl
          go_wp2_with fail
          go_quiet (fail)
          have hN3 : ubk (w2.drewN nq) w.heap.size #[.string (bs sc), .string (bs ho), .int .i64 po, .string (bs pa), .string (bs qu), .bool hq] := HN2.out.keep rfl
          have hR3 : ubk (w2.drewN nq) (w.heap.size + 1) #[.string ⟨#[]⟩, .string ⟨#[]⟩, .int .i64 0, .string ⟨#[]⟩, .string ⟨#[]⟩, .bool false] := HR2.out.keep rfl
          have HB3 : Hid (Below w.heap.size w (w2.drewN nq)) := ⟨HB2.out.os, HB2.out.tape, HB2.out.output, HB2.out.size, HB2.out.block⟩
          clear bc0 bc1 bc2 bc3 bc4 bc5 HN2 HR2 HB2
          generalize w2.drewN nq = x1 at *
          have HN3 := Lib.hid hN3; have HR3 := Lib.hid hR3; clear hN3 hR3
          have bc0 := HN3.out.cell 0 (.string (bs sc)) rfl
          have bc1 := HN3.out.cell 1 (.string (bs ho)) rfl
          have bc2 := HN3.out.cell 2 (.int .i64 po) rfl
          have bc3 := HN3.out.cell 3 (.string (bs pa)) rfl
          have bc4 := HN3.out.cell 4 (.string (bs qu)) rfl
          have bc5 := HN3.out.cell 5 (.bool hq) rfl
          go_wp2_with fail
          have hE0 : ubk (x1.alloc (.cells #[.string (bs sc), .string (bs ho), .int .i64 po, .string (bs pa), .string (bs qu), .bool hq] 23)).drew x1.heap.size #[.string (bs sc), .string (bs ho), .int .i64 po, .string (bs pa), .string (bs qu), .bool hq] := (ubk.new x1 #[.string (bs sc), .string (bs ho), .int .i64 po, .string (bs pa), .string (bs qu), .bool hq] 23).keep rfl
          have HRD : Hid (ubk (x1.alloc (.cells #[.string (bs sc), .string (bs ho), .int .i64 po, .string (bs pa), .string (bs qu), .bool hq] 23)).drew (w.heap.size + 1) #[.string ⟨#[]⟩, .string ⟨#[]⟩, .int .i64 0, .string ⟨#[]⟩, .string ⟨#[]⟩, .bool false]) := (HR3.out.alloc (.cells #[.string (bs sc), .string (bs ho), .int .i64 po, .string (bs pa), .string (bs qu), .bool hq] 23)).keep rfl
          have hd1 : Below x1.heap.size x1 (x1.alloc (.cells #[.string (bs sc), .string (bs ho), .int .i64 po, .string (bs pa), .string (bs qu), .bool hq] 23)).drew := ((Below.refl _ _).alloc (Nat.le_refl _) _).drew
          have HBD : Hid (Below w.heap.size w (x1.alloc (.cells #[.string (bs sc), .string (bs ho), .int .i64 po, .string (bs pa), .string (bs qu), .bool hq] 23)).drew) := HB3.out.trans (hd1.mono HB3.out.size)
          have hne : x1.heap.size ≠ w.heap.size + 1 := Nat.ne_of_gt HR3.out.lt
          have HNE := Lib.hid hne
          have HE0 := Lib.hid hE0
          clear hd1 hne hE0
          refine wp_region_growS (.one 0 false (.one 1 false (.one 2 true (.one 3 true (.one 4 false .done)))))
            (fun W => ubk W (x1.heap.size) #[.string (bs sc), .string (bs ho), .int .i64 po, .string (bs pa), .string (bs qu), .bool hq]) (by kernel_rfl) (by kernel_rfl) rfl (by kernel_rfl) (by kernel_rfl) HE0.out (fun ops hops => ?_)
          simp only [GT.ins, List.getD_cons_zero, List.getD_cons_succ]
          clear hops
          iterate 2
            refine growS_take (by rfl) ?_
            apply Exists.intro
            refine ⟨fun w' hE => ?_, ?_⟩
            · have yc0 := hE.cell 0 (.string (bs sc)) rfl; have yc1 := hE.cell 1 (.string (bs ho)) rfl; have yc2 := hE.cell 2 (.int .i64 po) rfl; have yc3 := hE.cell 3 (.string (bs pa)) rfl; have yc4 := hE.cell 4 (.string (bs qu)) rfl; have yc5 := hE.cell 5 (.bool hq) rfl
              go_simp
              try with_reducible rfl
            simp only [Act.put, List.setIfInBounds_toArray, List.set_cons_zero, List.set_cons_succ]
          refine growS_call (by rfl) (fun K hK => ?_)
          go_simp
          refine (HCK.out _ (HE.out.bel HBD.out)).mono ?_
          rintro e w5 ⟨rfl, hb5⟩
          have hE5 := HE0.out.below hb5
          refine hK.out _ _ hE5 ?_
          have HB5 := Lib.hid (HBD.out.trans (hb5.mono HBD.out.size)); have hr5 := HRD.out.below hb5; have HE5 := Lib.hid hE5
          clear hK K hb5 hE5
          refine growS_call (by rfl) (fun K hK => ?_)
          have nc0 := hr5.cell 0 (.string ⟨#[]⟩) rfl
          have nc1 := hr5.cell 1 (.string ⟨#[]⟩) rfl
          have nc2 := hr5.cell 2 (.int .i64 0) rfl
          have nc3 := hr5.cell 3 (.string ⟨#[]⟩) rfl
          have nc4 := hr5.cell 4 (.string ⟨#[]⟩) rfl
          have nc5 := hr5.cell 5 (.bool false) rfl
          have nf0 := hr5.free 0
          have nf1 := hr5.free 1
          have nf2 := hr5.free 2
          have nf3 := hr5.free 3
          have nf4 := hr5.free 4
          have nf5 := hr5.free 5
          have hq0 := ((((((hr5.set 0 (.string (bs sc))).set 1 (.string (bs ho))).set 2 (.int .i64 po)).set 3 (.string (bs pa))).set 4 (.string (bs qu))).set 5 (.bool hq))
          simp only [List.setIfInBounds_toArray, List.set_cons_zero, List.set_cons_succ] at hq0
          have HQ := Lib.hid hq0; clear hq0
          have HBF : Hid (Below w.heap.size w ((((((w5.setCell ⟨w.heap.size + 1, 0, none⟩ (.string (bs sc))).setCell ⟨w.heap.size + 1, 1, none⟩ (.string (bs ho))).setCell ⟨w.heap.size + 1, 2, none⟩ (.int .i64 po)).setCell ⟨w.heap.size + 1, 3, none⟩ (.string (bs pa))).setCell ⟨w.heap.size + 1, 4, none⟩ (.string (bs qu))).setCell ⟨w.heap.size + 1, 5, none⟩ (.bool hq))) := ((((((HB5.out.setCell (p := ⟨w.heap.size + 1, 0, none⟩) (Nat.le_succ _) (.string (bs sc))).setCell (p := ⟨w.heap.size + 1, 1, none⟩) (Nat.le_succ _) (.string (bs ho))).setCell (p := ⟨w.heap.size + 1, 2, none⟩) (Nat.le_succ _) (.int .i64 po)).setCell (p := ⟨w.heap.size + 1, 3, none⟩) (Nat.le_succ _) (.string (bs pa))).setCell (p := ⟨w.heap.size + 1, 4, none⟩) (Nat.le_succ _) (.string (bs qu))).setCell (p := ⟨w.heap.size + 1, 5, none⟩) (Nat.le_succ _) (.bool hq))
          have HE6 := Lib.hid ((((((HE5.out.other (a := ⟨w.heap.size + 1, 0, none⟩) HNE.out (.string (bs sc))).other (a := ⟨w.heap.size + 1, 1, none⟩) HNE.out (.string (bs ho))).other (a := ⟨w.heap.size + 1, 2, none⟩) HNE.out (.int .i64 po)).other (a := ⟨w.heap.size + 1, 3, none⟩) HNE.out (.string (bs pa))).other (a := ⟨w.heap.size + 1, 4, none⟩) HNE.out (.string (bs qu))).other (a := ⟨w.heap.size + 1, 5, none⟩) HNE.out (.bool hq))
          go_simp
          refine hK.out _ _ HE6.out ?_
          clear hK K hr5 nc0 nc1 nc2 nc3 nc4 nc5 nf0 nf1 nf2 nf3 nf4 nf5
          iterate 1
            refine growS_take (by rfl) ?_
            apply Exists.intro
            refine ⟨fun w' hE => ?_, ?_⟩
            · have yc0 := hE.cell 0 (.string (bs sc)) rfl; have yc1 := hE.cell 1 (.string (bs ho)) rfl; have yc2 := hE.cell 2 (.int .i64 po) rfl; have yc3 := hE.cell 3 (.string (bs pa)) rfl; have yc4 := hE.cell 4 (.string (bs qu)) rfl; have yc5 := hE.cell 5 (.bool hq) rfl
              go_simp
              try with_reducible rfl
            simp only [Act.put, List.setIfInBounds_toArray, List.set_cons_zero, List.set_cons_succ]
          refine growS_done (NoPanic.normal ?_)
          go_wp2_with fail
          have m0 := HQ.out.cell 0 (.string (bs sc)) rfl
          have m1 := HQ.out.cell 1 (.string (bs ho)) rfl
          have m2 := HQ.out.cell 2 (.int .i64 po) rfl
          have m3 := HQ.out.cell 3 (.string (bs pa)) rfl
          have m4 := HQ.out.cell 4 (.string (bs qu)) rfl
          have m5 := HQ.out.cell 5 (.bool hq) rfl
          refine bodyPost_ret (v := .tuple #[.agg #[.string (bs sc), .string (bs ho), .int .i64 po, .string (bs pa), .string (bs qu), .bool hq], .int .i64 k]) (by simp [results, Tryz.results77, go_sem, m0, m1, m2, m3, m4, m5]) rfl ⟨?_, HBF.out⟩
          rfl
        · have hR : relU ⟨sc, ho, po, pa, qu, hq⟩ [] q true = ⟨sc, ho, po, pa, q, true⟩ := by rfl
          rw [hR]
          clear hR
          have HCK : Hid (∀ W, EnvU W → Calls Tryz.prog 20 #[.agg #[.string (bs sc), .string (bs ho), .int .i64 po, .string (bs pa), .string (bs q), .bool true]] W fun e w' => e = .returned (.int .i64 (Ur.check ⟨sc, ho, po, pa, q, true⟩)) ∧ Below W.heap.size W w') := fun W hb => uriCheck_any ⟨sc, ho, po, pa, q, true⟩ W hb ⟨by simp only; omega, by simp only; omega, by simp only; omega⟩
          generalize Ur.check ⟨sc, ho, po, pa, q, true⟩ = k at *
          show Calls Tryz.prog 77 _ w fun e w' => e = .returned (.tuple #[.agg #[.string (bs sc), .string (bs ho), .int .i64 po, .string (bs pa), .string (bs q), .bool true], .int .i64 k]) ∧ Below w.heap.size w w'
          go_enter Tryz.func77, Tryz.ntmps77
          go_wp2_with fail
          refine (HA.out _ (HE.out.bel HAL.out)).mono ?_
          rintro e w1 ⟨rfl, hb1⟩
          have HB1 := Lib.hid (HAL.out.trans (hb1.mono HAL.out.size)); have HN1 := Lib.hid (HBN.out.below hb1); have HR1 := Lib.hid (HBR.out.below hb1); clear hb1
          go_wp2_with fail
          refine (HC.out _ (HE.out.bel HB1.out)).mono ?_
          rintro e w2 ⟨rfl, hb2⟩
          have HB2 := Lib.hid (HB1.out.trans (hb2.mono HB1.out.size)); have HN2 := Lib.hid (HN1.out.below hb2); have HR2 := Lib.hid (HR1.out.below hb2); clear hb2 HB1 HN1 HR1
          go_wp2_with fail
          refine (HP.out _).mono ?_
          rintro e w3 ⟨rfl, rfl⟩
          have bc0 := HN2.out.cell 0 (.string (bs sc)) rfl
          have bc1 := HN2.out.cell 1 (.string (bs ho)) rfl
          have bc2 := HN2.out.cell 2 (.int .i64 po) rfl
          have bc3 := HN2.out.cell 3 (.string (bs pa)) rfl
          have bc4 := HN2.out.cell 4 (.string (bs qu)) rfl
          have bc5 := HN2.out.cell 5 (.bool hq) rfl
          go_wp2_with fail
          have hE0 : ubk (w2.alloc (.cells #[.string (bs sc), .string (bs ho), .int .i64 po, .string (bs pa), .string (bs q), .bool true] 23)).drew w2.heap.size #[.string (bs sc), .string (bs ho), .int .i64 po, .string (bs pa), .string (bs q), .bool true] := (ubk.new w2 #[.string (bs sc), .string (bs ho), .int .i64 po, .string (bs pa), .string (bs q), .bool true] 23).keep rfl
          have HRD : Hid (ubk (w2.alloc (.cells #[.string (bs sc), .string (bs ho), .int .i64 po, .string (bs pa), .string (bs q), .bool true] 23)).drew (w.heap.size + 1) #[.string ⟨#[]⟩, .string ⟨#[]⟩, .int .i64 0, .string ⟨#[]⟩, .string ⟨#[]⟩, .bool false]) := (HR2.out.alloc (.cells #[.string (bs sc), .string (bs ho), .int .i64 po, .string (bs pa), .string (bs q), .bool true] 23)).keep rfl
          have hd1 : Below w2.heap.size w2 (w2.alloc (.cells #[.string (bs sc), .string (bs ho), .int .i64 po, .string (bs pa), .string (bs q), .bool true] 23)).drew := ((Below.refl _ _).alloc (Nat.le_refl _) _).drew
          have HBD : Hid (Below w.heap.size w (w2.alloc (.cells #[.string (bs sc), .string (bs ho), .int .i64 po, .string (bs pa), .string (bs q), .bool true] 23)).drew) := HB2.out.trans (hd1.mono HB2.out.size)
          have hne : w2.heap.size ≠ w.heap.size + 1 := Nat.ne_of_gt HR2.out.lt
          have HNE := Lib.hid hne
          have HE0 := Lib.hid hE0
          clear hd1 hne hE0
          refine wp_region_growS (.one 0 false (.one 1 false (.one 2 true (.one 3 true (.one 4 false .done)))))
            (fun W => ubk W (w2.heap.size) #[.string (bs sc), .string (bs ho), .int .i64 po, .string (bs pa), .string (bs q), .bool true]) (by kernel_rfl) (by kernel_rfl) rfl (by kernel_rfl) (by kernel_rfl) HE0.out (fun ops hops => ?_)
          simp only [GT.ins, List.getD_cons_zero, List.getD_cons_succ]
          clear hops
          iterate 2
            refine growS_take (by rfl) ?_
            apply Exists.intro
            refine ⟨fun w' hE => ?_, ?_⟩
            · have yc0 := hE.cell 0 (.string (bs sc)) rfl; have yc1 := hE.cell 1 (.string (bs ho)) rfl; have yc2 := hE.cell 2 (.int .i64 po) rfl; have yc3 := hE.cell 3 (.string (bs pa)) rfl; have yc4 := hE.cell 4 (.string (bs q)) rfl; have yc5 := hE.cell 5 (.bool true) rfl
              go_simp
              try with_reducible rfl
            simp only [Act.put, List.setIfInBounds_toArray, List.set_cons_zero, List.set_cons_succ]
          refine growS_call (by rfl) (fun K hK => ?_)
          go_simp
          refine (HCK.out _ (HE.out.bel HBD.out)).mono ?_
          rintro e w5 ⟨rfl, hb5⟩
          have hE5 := HE0.out.below hb5
          refine hK.out _ _ hE5 ?_
          have HB5 := Lib.hid (HBD.out.trans (hb5.mono HBD.out.size)); have hr5 := HRD.out.below hb5; have HE5 := Lib.hid hE5
          clear hK K hb5 hE5
          refine growS_call (by rfl) (fun K hK => ?_)
          have nc0 := hr5.cell 0 (.string ⟨#[]⟩) rfl
          have nc1 := hr5.cell 1 (.string ⟨#[]⟩) rfl
          have nc2 := hr5.cell 2 (.int .i64 0) rfl
          have nc3 := hr5.cell 3 (.string ⟨#[]⟩) rfl
          have nc4 := hr5.cell 4 (.string ⟨#[]⟩) rfl
          have nc5 := hr5.cell 5 (.bool false) rfl
          have nf0 := hr5.free 0
          have nf1 := hr5.free 1
          have nf2 := hr5.free 2
          have nf3 := hr5.free 3
          have nf4 := hr5.free 4
          have nf5 := hr5.free 5
          have hq0 := ((((((hr5.set 0 (.string (bs sc))).set 1 (.string (bs ho))).set 2 (.int .i64 po)).set 3 (.string (bs pa))).set 4 (.string (bs q))).set 5 (.bool true))
          simp only [List.setIfInBounds_toArray, List.set_cons_zero, List.set_cons_succ] at hq0
          have HQ := Lib.hid hq0; clear hq0
          have HBF : Hid (Below w.heap.size w ((((((w5.setCell ⟨w.heap.size + 1, 0, none⟩ (.string (bs sc))).setCell ⟨w.heap.size + 1, 1, none⟩ (.string (bs ho))).setCell ⟨w.heap.size + 1, 2, none⟩ (.int .i64 po)).setCell ⟨w.heap.size + 1, 3, none⟩ (.string (bs pa))).setCell ⟨w.heap.size + 1, 4, none⟩ (.string (bs q))).setCell ⟨w.heap.size + 1, 5, none⟩ (.bool true))) := ((((((HB5.out.setCell (p := ⟨w.heap.size + 1, 0, none⟩) (Nat.le_succ _) (.string (bs sc))).setCell (p := ⟨w.heap.size + 1, 1, none⟩) (Nat.le_succ _) (.string (bs ho))).setCell (p := ⟨w.heap.size + 1, 2, none⟩) (Nat.le_succ _) (.int .i64 po)).setCell (p := ⟨w.heap.size + 1, 3, none⟩) (Nat.le_succ _) (.string (bs pa))).setCell (p := ⟨w.heap.size + 1, 4, none⟩) (Nat.le_succ _) (.string (bs q))).setCell (p := ⟨w.heap.size + 1, 5, none⟩) (Nat.le_succ _) (.bool true))
          have HE6 := Lib.hid ((((((HE5.out.other (a := ⟨w.heap.size + 1, 0, none⟩) HNE.out (.string (bs sc))).other (a := ⟨w.heap.size + 1, 1, none⟩) HNE.out (.string (bs ho))).other (a := ⟨w.heap.size + 1, 2, none⟩) HNE.out (.int .i64 po)).other (a := ⟨w.heap.size + 1, 3, none⟩) HNE.out (.string (bs pa))).other (a := ⟨w.heap.size + 1, 4, none⟩) HNE.out (.string (bs q))).other (a := ⟨w.heap.size + 1, 5, none⟩) HNE.out (.bool true))
          go_simp
          refine hK.out _ _ HE6.out ?_
          clear hK K hr5 nc0 nc1 nc2 nc3 nc4 nc5 nf0 nf1 nf2 nf3 nf4 nf5
          iterate 1
            refine growS_take (by rfl) ?_
            apply Exists.intro
            refine ⟨fun w' hE => ?_, ?_⟩
            · have yc0 := hE.cell 0 (.string (bs sc)) rfl; have yc1 := hE.cell 1 (.string (bs ho)) rfl; have yc2 := hE.cell 2 (.int .i64 po) rfl; have yc3 := hE.cell 3 (.string (bs pa)) rfl; have yc4 := hE.cell 4 (.string (bs q)) rfl; have yc5 := hE.cell 5 (.bool true) rfl
              go_simp
              try with_reducible rfl
            simp only [Act.put, List.setIfInBounds_toArray, List.set_cons_zero, List.set_cons_succ]
          refine growS_done (NoPanic.normal ?_)
          go_wp2_with fail
          have m0 := HQ.out.cell 0 (.string (bs sc)) rfl
          have m1 := HQ.out.cell 1 (.string (bs ho)) rfl
          have m2 := HQ.out.cell 2 (.int .i64 po) rfl
          have m3 := HQ.out.cell 3 (.string (bs pa)) rfl
          have m4 := HQ.out.cell 4 (.string (bs q)) rfl
          have m5 := HQ.out.cell 5 (.bool true) rfl
          refine bodyPost_ret (v := .tuple #[.agg #[.string (bs sc), .string (bs ho), .int .i64 po, .string (bs pa), .string (bs q), .bool true], .int .i64 k]) (by simp [results, Tryz.results77, go_sem, m0, m1, m2, m3, m4, m5]) rfl ⟨?_, HBF.out⟩
          rfl
      · have q1 : ((bs p).toList == []) = false := by rw [beq_lit]; exact beq_eq_false_iff_ne.2 hp
        have q2 : (bs p).toList.isEmpty = false := by rw [Lib.toList_data, bs_data]; cases p with | nil => exact absurd rfl hp | cons => rfl
        have HF := Lib.hid (fun W => prefixU_any p [47] W)
        cases hf : Lib.hasPrefix p [47]
        · rw [hf] at HF
          have hd : (dirOf pa ++ p).length ≤ 2048 := by have := dir_len pa; simp only [List.length_append]; omega
          have hD : (bs pa).extract 0 (Lib.lastIndex pa [47] + 1).toNat ++ bs p = bs (dirOf pa ++ p) := by rw [ext_of]; exact bs_of (by rw [ByteArray.data_append, Array.toList_append, bs_data, bs_data]; rfl)
          have HLI := Lib.hid (fun W => lastI_any pa W (by omega))
          obtain ⟨i1, i2⟩ := lastI_in pa
          have hR : relU ⟨sc, ho, po, pa, qu, hq⟩ p q h = ⟨sc, ho, po, dirOf pa ++ p, q, h⟩ := by unfold relU; rw [if_neg hp, hf, if_neg (by decide)]
          rw [hR]
          clear hR
          have HCK : Hid (∀ W, EnvU W → Calls Tryz.prog 20 #[.agg #[.string (bs sc), .string (bs ho), .int .i64 po, .string (bs (dirOf pa ++ p)), .string (bs q), .bool h]] W fun e w' => e = .returned (.int .i64 (Ur.check ⟨sc, ho, po, dirOf pa ++ p, q, h⟩)) ∧ Below W.heap.size W w') := fun W hb => uriCheck_any ⟨sc, ho, po, dirOf pa ++ p, q, h⟩ W hb ⟨by simp only; omega, by simp only; omega, by simp only; omega⟩
          generalize Ur.check ⟨sc, ho, po, dirOf pa ++ p, q, h⟩ = k at *
          generalize dirOf pa ++ p = d at *
          have HD := Lib.hid hD; clear hD hp hf
          generalize Lib.lastIndex pa [47] = li at *
          have i3 : li + 1 ≤ ((bs pa).size : Int) := by rw [bs_size]; exact i2
          have i4 := IntWalk.i64_in (li + 1) (by omega)
          clear i2
          show Calls Tryz.prog 77 _ w fun e w' => e = .returned (.tuple #[.agg #[.string (bs sc), .string (bs ho), .int .i64 po, .string (bs d), .string (bs q), .bool h], .int .i64 k]) ∧ Below w.heap.size w w'
          go_enter Tryz.func77, Tryz.ntmps77
          go_wp2_with fail
          refine (HA.out _ (HE.out.bel HAL.out)).mono ?_
          rintro e w1 ⟨rfl, hb1⟩
          have HB1 := Lib.hid (HAL.out.trans (hb1.mono HAL.out.size)); have HN1 := Lib.hid (HBN.out.below hb1); have HR1 := Lib.hid (HBR.out.below hb1); clear hb1
          go_wp2_with fail
          refine (HC.out _ (HE.out.bel HB1.out)).mono ?_
          rintro e w2 ⟨rfl, hb2⟩
          have HB2 := Lib.hid (HB1.out.trans (hb2.mono HB1.out.size)); have HN2 := Lib.hid (HN1.out.below hb2); have HR2 := Lib.hid (HR1.out.below hb2); clear hb2 HB1 HN1 HR1
          go_wp2_with fail
          refine (HP.out _).mono ?_
          rintro e w3 ⟨rfl, rfl⟩
          have bc0 := HN2.out.cell 0 (.string (bs sc)) rfl
          have bc1 := HN2.out.cell 1 (.string (bs ho)) rfl
          have bc2 := HN2.out.cell 2 (.int .i64 po) rfl
          have bc3 := HN2.out.cell 3 (.string (bs pa)) rfl
          have bc4 := HN2.out.cell 4 (.string (bs qu)) rfl
          have bc5 := HN2.out.cell 5 (.bool hq) rfl
          go_wp2_with fail
          refine (HF.out _).mono ?_
          rintro e w4 ⟨rfl, rfl⟩
          go_wp2_with fail
          go_quiet ((go_at_call 103; exact Calls.quiet_of_same ((HLI.out _).mono fun _ _ h => ⟨h.1, h.2.symm⟩)))
          have hN3 : ubk (w2.drewN nq) w.heap.size #[.string (bs sc), .string (bs ho), .int .i64 po, .string (bs pa), .string (bs qu), .bool hq] := HN2.out.keep rfl
          have hR3 : ubk (w2.drewN nq) (w.heap.size + 1) #[.string ⟨#[]⟩, .string ⟨#[]⟩, .int .i64 0, .string ⟨#[]⟩, .string ⟨#[]⟩, .bool false] := HR2.out.keep rfl
          have HB3 : Hid (Below w.heap.size w (w2.drewN nq)) := ⟨HB2.out.os, HB2.out.tape, HB2.out.output, HB2.out.size, HB2.out.block⟩
          clear bc0 bc1 bc2 bc3 bc4 bc5 HN2 HR2 HB2
          generalize w2.drewN nq = x1 at *
          have HN3 := Lib.hid hN3; have HR3 := Lib.hid hR3; clear hN3 hR3
          have bc0 := HN3.out.cell 0 (.string (bs sc)) rfl
          have bc1 := HN3.out.cell 1 (.string (bs ho)) rfl
          have bc2 := HN3.out.cell 2 (.int .i64 po) rfl
          have bc3 := HN3.out.cell 3 (.string (bs pa)) rfl
          have bc4 := HN3.out.cell 4 (.string (bs qu)) rfl
          have bc5 := HN3.out.cell 5 (.bool hq) rfl
          rw [HD.out]
          go_wp2_with fail
          have hE0 : ubk (x1.alloc (.cells #[.string (bs sc), .string (bs ho), .int .i64 po, .string (bs d), .string (bs q), .bool h] 23)).drew x1.heap.size #[.string (bs sc), .string (bs ho), .int .i64 po, .string (bs d), .string (bs q), .bool h] := (ubk.new x1 #[.string (bs sc), .string (bs ho), .int .i64 po, .string (bs d), .string (bs q), .bool h] 23).keep rfl
          have HRD : Hid (ubk (x1.alloc (.cells #[.string (bs sc), .string (bs ho), .int .i64 po, .string (bs d), .string (bs q), .bool h] 23)).drew (w.heap.size + 1) #[.string ⟨#[]⟩, .string ⟨#[]⟩, .int .i64 0, .string ⟨#[]⟩, .string ⟨#[]⟩, .bool false]) := (HR3.out.alloc (.cells #[.string (bs sc), .string (bs ho), .int .i64 po, .string (bs d), .string (bs q), .bool h] 23)).keep rfl
          have hd1 : Below x1.heap.size x1 (x1.alloc (.cells #[.string (bs sc), .string (bs ho), .int .i64 po, .string (bs d), .string (bs q), .bool h] 23)).drew := ((Below.refl _ _).alloc (Nat.le_refl _) _).drew
          have HBD : Hid (Below w.heap.size w (x1.alloc (.cells #[.string (bs sc), .string (bs ho), .int .i64 po, .string (bs d), .string (bs q), .bool h] 23)).drew) := HB3.out.trans (hd1.mono HB3.out.size)
          have hne : x1.heap.size ≠ w.heap.size + 1 := Nat.ne_of_gt HR3.out.lt
          have HNE := Lib.hid hne
          have HE0 := Lib.hid hE0
          clear hd1 hne hE0
          refine wp_region_growS (.one 0 false (.one 1 false (.one 2 true (.one 3 true (.one 4 false .done)))))
            (fun W => ubk W (x1.heap.size) #[.string (bs sc), .string (bs ho), .int .i64 po, .string (bs d), .string (bs q), .bool h]) (by kernel_rfl) (by kernel_rfl) rfl (by kernel_rfl) (by kernel_rfl) HE0.out (fun ops hops => ?_)
          simp only [GT.ins, List.getD_cons_zero, List.getD_cons_succ]
          clear hops
          iterate 2
            refine growS_take (by rfl) ?_
            apply Exists.intro
            refine ⟨fun w' hE => ?_, ?_⟩
            · have yc0 := hE.cell 0 (.string (bs sc)) rfl; have yc1 := hE.cell 1 (.string (bs ho)) rfl; have yc2 := hE.cell 2 (.int .i64 po) rfl; have yc3 := hE.cell 3 (.string (bs d)) rfl; have yc4 := hE.cell 4 (.string (bs q)) rfl; have yc5 := hE.cell 5 (.bool h) rfl
              go_simp
              try with_reducible rfl
            simp only [Act.put, List.setIfInBounds_toArray, List.set_cons_zero, List.set_cons_succ]
          refine growS_call (by rfl) (fun K hK => ?_)
          go_simp
          refine (HCK.out _ (HE.out.bel HBD.out)).mono ?_
          rintro e w5 ⟨rfl, hb5⟩
          have hE5 := HE0.out.below hb5
          refine hK.out _ _ hE5 ?_
          have HB5 := Lib.hid (HBD.out.trans (hb5.mono HBD.out.size)); have hr5 := HRD.out.below hb5; have HE5 := Lib.hid hE5
          clear hK K hb5 hE5
          refine growS_call (by rfl) (fun K hK => ?_)
          have nc0 := hr5.cell 0 (.string ⟨#[]⟩) rfl
          have nc1 := hr5.cell 1 (.string ⟨#[]⟩) rfl
          have nc2 := hr5.cell 2 (.int .i64 0) rfl
          have nc3 := hr5.cell 3 (.string ⟨#[]⟩) rfl
          have nc4 := hr5.cell 4 (.string ⟨#[]⟩) rfl
          have nc5 := hr5.cell 5 (.bool false) rfl
          have nf0 := hr5.free 0
          have nf1 := hr5.free 1
          have nf2 := hr5.free 2
          have nf3 := hr5.free 3
          have nf4 := hr5.free 4
          have nf5 := hr5.free 5
          have hq0 := ((((((hr5.set 0 (.string (bs sc))).set 1 (.string (bs ho))).set 2 (.int .i64 po)).set 3 (.string (bs d))).set 4 (.string (bs q))).set 5 (.bool h))
          simp only [List.setIfInBounds_toArray, List.set_cons_zero, List.set_cons_succ] at hq0
          have HQ := Lib.hid hq0; clear hq0
          have HBF : Hid (Below w.heap.size w ((((((w5.setCell ⟨w.heap.size + 1, 0, none⟩ (.string (bs sc))).setCell ⟨w.heap.size + 1, 1, none⟩ (.string (bs ho))).setCell ⟨w.heap.size + 1, 2, none⟩ (.int .i64 po)).setCell ⟨w.heap.size + 1, 3, none⟩ (.string (bs d))).setCell ⟨w.heap.size + 1, 4, none⟩ (.string (bs q))).setCell ⟨w.heap.size + 1, 5, none⟩ (.bool h))) := ((((((HB5.out.setCell (p := ⟨w.heap.size + 1, 0, none⟩) (Nat.le_succ _) (.string (bs sc))).setCell (p := ⟨w.heap.size + 1, 1, none⟩) (Nat.le_succ _) (.string (bs ho))).setCell (p := ⟨w.heap.size + 1, 2, none⟩) (Nat.le_succ _) (.int .i64 po)).setCell (p := ⟨w.heap.size + 1, 3, none⟩) (Nat.le_succ _) (.string (bs d))).setCell (p := ⟨w.heap.size + 1, 4, none⟩) (Nat.le_succ _) (.string (bs q))).setCell (p := ⟨w.heap.size + 1, 5, none⟩) (Nat.le_succ _) (.bool h))
          have HE6 := Lib.hid ((((((HE5.out.other (a := ⟨w.heap.size + 1, 0, none⟩) HNE.out (.string (bs sc))).other (a := ⟨w.heap.size + 1, 1, none⟩) HNE.out (.string (bs ho))).other (a := ⟨w.heap.size + 1, 2, none⟩) HNE.out (.int .i64 po)).other (a := ⟨w.heap.size + 1, 3, none⟩) HNE.out (.string (bs d))).other (a := ⟨w.heap.size + 1, 4, none⟩) HNE.out (.string (bs q))).other (a := ⟨w.heap.size + 1, 5, none⟩) HNE.out (.bool h))
          go_simp
          refine hK.out _ _ HE6.out ?_
          clear hK K hr5 nc0 nc1 nc2 nc3 nc4 nc5 nf0 nf1 nf2 nf3 nf4 nf5
          iterate 1
            refine growS_take (by rfl) ?_
            apply Exists.intro
            refine ⟨fun w' hE => ?_, ?_⟩
            · have yc0 := hE.cell 0 (.string (bs sc)) rfl; have yc1 := hE.cell 1 (.string (bs ho)) rfl; have yc2 := hE.cell 2 (.int .i64 po) rfl; have yc3 := hE.cell 3 (.string (bs d)) rfl; have yc4 := hE.cell 4 (.string (bs q)) rfl; have yc5 := hE.cell 5 (.bool h) rfl
              go_simp
              try with_reducible rfl
            simp only [Act.put, List.setIfInBounds_toArray, List.set_cons_zero, List.set_cons_succ]
          refine growS_done (NoPanic.normal ?_)
          go_wp2_with fail
          have m0 := HQ.out.cell 0 (.string (bs sc)) rfl
          have m1 := HQ.out.cell 1 (.string (bs ho)) rfl
          have m2 := HQ.out.cell 2 (.int .i64 po) rfl
          have m3 := HQ.out.cell 3 (.string (bs d)) rfl
          have m4 := HQ.out.cell 4 (.string (bs q)) rfl
          have m5 := HQ.out.cell 5 (.bool h) rfl
          refine bodyPost_ret (v := .tuple #[.agg #[.string (bs sc), .string (bs ho), .int .i64 po, .string (bs d), .string (bs q), .bool h], .int .i64 k]) (by simp [results, Tryz.results77, go_sem, m0, m1, m2, m3, m4, m5]) rfl ⟨?_, HBF.out⟩
          rfl
        · rw [hf] at HF
          have hR : relU ⟨sc, ho, po, pa, qu, hq⟩ p q h = ⟨sc, ho, po, p, q, h⟩ := by unfold relU; rw [if_neg hp, hf, if_pos rfl]
          rw [hR]
          clear hR
          have HCK : Hid (∀ W, EnvU W → Calls Tryz.prog 20 #[.agg #[.string (bs sc), .string (bs ho), .int .i64 po, .string (bs p), .string (bs q), .bool h]] W fun e w' => e = .returned (.int .i64 (Ur.check ⟨sc, ho, po, p, q, h⟩)) ∧ Below W.heap.size W w') := fun W hb => uriCheck_any ⟨sc, ho, po, p, q, h⟩ W hb ⟨by simp only; omega, by simp only; omega, by simp only; omega⟩
          generalize Ur.check ⟨sc, ho, po, p, q, h⟩ = k at *
          show Calls Tryz.prog 77 _ w fun e w' => e = .returned (.tuple #[.agg #[.string (bs sc), .string (bs ho), .int .i64 po, .string (bs p), .string (bs q), .bool h], .int .i64 k]) ∧ Below w.heap.size w w'
          clear hp hf
          go_enter Tryz.func77, Tryz.ntmps77
          go_wp2_with fail
          refine (HA.out _ (HE.out.bel HAL.out)).mono ?_
          rintro e w1 ⟨rfl, hb1⟩
          have HB1 := Lib.hid (HAL.out.trans (hb1.mono HAL.out.size)); have HN1 := Lib.hid (HBN.out.below hb1); have HR1 := Lib.hid (HBR.out.below hb1); clear hb1
          go_wp2_with fail
          refine (HC.out _ (HE.out.bel HB1.out)).mono ?_
          rintro e w2 ⟨rfl, hb2⟩
          have HB2 := Lib.hid (HB1.out.trans (hb2.mono HB1.out.size)); have HN2 := Lib.hid (HN1.out.below hb2); have HR2 := Lib.hid (HR1.out.below hb2); clear hb2 HB1 HN1 HR1
          go_wp2_with fail
          refine (HP.out _).mono ?_
          rintro e w3 ⟨rfl, rfl⟩
          have bc0 := HN2.out.cell 0 (.string (bs sc)) rfl
          have bc1 := HN2.out.cell 1 (.string (bs ho)) rfl
          have bc2 := HN2.out.cell 2 (.int .i64 po) rfl
          have bc3 := HN2.out.cell 3 (.string (bs pa)) rfl
          have bc4 := HN2.out.cell 4 (.string (bs qu)) rfl
          have bc5 := HN2.out.cell 5 (.bool hq) rfl
          go_wp2_with fail
          refine (HF.out _).mono ?_
          rintro e w4 ⟨rfl, rfl⟩
          go_wp2_with fail
          have hE0 : ubk (w2.alloc (.cells #[.string (bs sc), .string (bs ho), .int .i64 po, .string (bs p), .string (bs q), .bool h] 23)).drew w2.heap.size #[.string (bs sc), .string (bs ho), .int .i64 po, .string (bs p), .string (bs q), .bool h] := (ubk.new w2 #[.string (bs sc), .string (bs ho), .int .i64 po, .string (bs p), .string (bs q), .bool h] 23).keep rfl
          have HRD : Hid (ubk (w2.alloc (.cells #[.string (bs sc), .string (bs ho), .int .i64 po, .string (bs p), .string (bs q), .bool h] 23)).drew (w.heap.size + 1) #[.string ⟨#[]⟩, .string ⟨#[]⟩, .int .i64 0, .string ⟨#[]⟩, .string ⟨#[]⟩, .bool false]) := (HR2.out.alloc (.cells #[.string (bs sc), .string (bs ho), .int .i64 po, .string (bs p), .string (bs q), .bool h] 23)).keep rfl
          have hd1 : Below w2.heap.size w2 (w2.alloc (.cells #[.string (bs sc), .string (bs ho), .int .i64 po, .string (bs p), .string (bs q), .bool h] 23)).drew := ((Below.refl _ _).alloc (Nat.le_refl _) _).drew
          have HBD : Hid (Below w.heap.size w (w2.alloc (.cells #[.string (bs sc), .string (bs ho), .int .i64 po, .string (bs p), .string (bs q), .bool h] 23)).drew) := HB2.out.trans (hd1.mono HB2.out.size)
          have hne : w2.heap.size ≠ w.heap.size + 1 := Nat.ne_of_gt HR2.out.lt
          have HNE := Lib.hid hne
          have HE0 := Lib.hid hE0
          clear hd1 hne hE0
          refine wp_region_growS (.one 0 false (.one 1 false (.one 2 true (.one 3 true (.one 4 false .done)))))
            (fun W => ubk W (w2.heap.size) #[.string (bs sc), .string (bs ho), .int .i64 po, .string (bs p), .string (bs q), .bool h]) (by kernel_rfl) (by kernel_rfl) rfl (by kernel_rfl) (by kernel_rfl) HE0.out (fun ops hops => ?_)
          simp only [GT.ins, List.getD_cons_zero, List.getD_cons_succ]
          clear hops
          iterate 2
            refine growS_take (by rfl) ?_
            apply Exists.intro
            refine ⟨fun w' hE => ?_, ?_⟩
            · have yc0 := hE.cell 0 (.string (bs sc)) rfl; have yc1 := hE.cell 1 (.string (bs ho)) rfl; have yc2 := hE.cell 2 (.int .i64 po) rfl; have yc3 := hE.cell 3 (.string (bs p)) rfl; have yc4 := hE.cell 4 (.string (bs q)) rfl; have yc5 := hE.cell 5 (.bool h) rfl
              go_simp
              try with_reducible rfl
            simp only [Act.put, List.setIfInBounds_toArray, List.set_cons_zero, List.set_cons_succ]
          refine growS_call (by rfl) (fun K hK => ?_)
          go_simp
          refine (HCK.out _ (HE.out.bel HBD.out)).mono ?_
          rintro e w5 ⟨rfl, hb5⟩
          have hE5 := HE0.out.below hb5
          refine hK.out _ _ hE5 ?_
          have HB5 := Lib.hid (HBD.out.trans (hb5.mono HBD.out.size)); have hr5 := HRD.out.below hb5; have HE5 := Lib.hid hE5
          clear hK K hb5 hE5
          refine growS_call (by rfl) (fun K hK => ?_)
          have nc0 := hr5.cell 0 (.string ⟨#[]⟩) rfl
          have nc1 := hr5.cell 1 (.string ⟨#[]⟩) rfl
          have nc2 := hr5.cell 2 (.int .i64 0) rfl
          have nc3 := hr5.cell 3 (.string ⟨#[]⟩) rfl
          have nc4 := hr5.cell 4 (.string ⟨#[]⟩) rfl
          have nc5 := hr5.cell 5 (.bool false) rfl
          have nf0 := hr5.free 0
          have nf1 := hr5.free 1
          have nf2 := hr5.free 2
          have nf3 := hr5.free 3
          have nf4 := hr5.free 4
          have nf5 := hr5.free 5
          have hq0 := ((((((hr5.set 0 (.string (bs sc))).set 1 (.string (bs ho))).set 2 (.int .i64 po)).set 3 (.string (bs p))).set 4 (.string (bs q))).set 5 (.bool h))
          simp only [List.setIfInBounds_toArray, List.set_cons_zero, List.set_cons_succ] at hq0
          have HQ := Lib.hid hq0; clear hq0
          have HBF : Hid (Below w.heap.size w ((((((w5.setCell ⟨w.heap.size + 1, 0, none⟩ (.string (bs sc))).setCell ⟨w.heap.size + 1, 1, none⟩ (.string (bs ho))).setCell ⟨w.heap.size + 1, 2, none⟩ (.int .i64 po)).setCell ⟨w.heap.size + 1, 3, none⟩ (.string (bs p))).setCell ⟨w.heap.size + 1, 4, none⟩ (.string (bs q))).setCell ⟨w.heap.size + 1, 5, none⟩ (.bool h))) := ((((((HB5.out.setCell (p := ⟨w.heap.size + 1, 0, none⟩) (Nat.le_succ _) (.string (bs sc))).setCell (p := ⟨w.heap.size + 1, 1, none⟩) (Nat.le_succ _) (.string (bs ho))).setCell (p := ⟨w.heap.size + 1, 2, none⟩) (Nat.le_succ _) (.int .i64 po)).setCell (p := ⟨w.heap.size + 1, 3, none⟩) (Nat.le_succ _) (.string (bs p))).setCell (p := ⟨w.heap.size + 1, 4, none⟩) (Nat.le_succ _) (.string (bs q))).setCell (p := ⟨w.heap.size + 1, 5, none⟩) (Nat.le_succ _) (.bool h))
          have HE6 := Lib.hid ((((((HE5.out.other (a := ⟨w.heap.size + 1, 0, none⟩) HNE.out (.string (bs sc))).other (a := ⟨w.heap.size + 1, 1, none⟩) HNE.out (.string (bs ho))).other (a := ⟨w.heap.size + 1, 2, none⟩) HNE.out (.int .i64 po)).other (a := ⟨w.heap.size + 1, 3, none⟩) HNE.out (.string (bs p))).other (a := ⟨w.heap.size + 1, 4, none⟩) HNE.out (.string (bs q))).other (a := ⟨w.heap.size + 1, 5, none⟩) HNE.out (.bool h))
          go_simp
          refine hK.out _ _ HE6.out ?_
          clear hK K hr5 nc0 nc1 nc2 nc3 nc4 nc5 nf0 nf1 nf2 nf3 nf4 nf5
          iterate 1
            refine growS_take (by rfl) ?_
            apply Exists.intro
            refine ⟨fun w' hE => ?_, ?_⟩
            · have yc0 := hE.cell 0 (.string (bs sc)) rfl; have yc1 := hE.cell 1 (.string (bs ho)) rfl; have yc2 := hE.cell 2 (.int .i64 po) rfl; have yc3 := hE.cell 3 (.string (bs p)) rfl; have yc4 := hE.cell 4 (.string (bs q)) rfl; have yc5 := hE.cell 5 (.bool h) rfl
              go_simp
              try with_reducible rfl
            simp only [Act.put, List.setIfInBounds_toArray, List.set_cons_zero, List.set_cons_succ]
          refine growS_done (NoPanic.normal ?_)
          go_wp2_with fail
          have m0 := HQ.out.cell 0 (.string (bs sc)) rfl
          have m1 := HQ.out.cell 1 (.string (bs ho)) rfl
          have m2 := HQ.out.cell 2 (.int .i64 po) rfl
          have m3 := HQ.out.cell 3 (.string (bs p)) rfl
          have m4 := HQ.out.cell 4 (.string (bs q)) rfl
          have m5 := HQ.out.cell 5 (.bool h) rfl
          refine bodyPost_ret (v := .tuple #[.agg #[.string (bs sc), .string (bs ho), .int .i64 po, .string (bs p), .string (bs q), .bool h], .int .i64 k]) (by simp [results, Tryz.results77, go_sem, m0, m1, m2, m3, m4, m5]) rfl ⟨?_, HBF.out⟩
          rfl
  · simp only [if_true]
    have HPA : Hid (∀ W, EnvU W → Calls Tryz.prog 21 #[.string (bs sc ++ ⟨#[58]⟩ ++ bs a2)] W (RetU W (parseU (sc ++ 58 :: a2)))) := fun W hb => by
      rw [show bs sc ++ ⟨#[58]⟩ ++ bs a2 = bs (sc ++ 58 :: a2) from bs_of (by simp)]
      exact parse_any _ W hb
    generalize parseU (sc ++ 58 :: a2) = X at *
    obtain ⟨⟨qsc, qho, qpo, qpa, qqu, qhq⟩, qe⟩ := X
    unfold RetU at HPA ⊢
    simp only at HPA ⊢
    go_enter Tryz.func77, Tryz.ntmps77
    go_wp2_with fail
    refine (HA.out _ (HE.out.bel HAL.out)).mono ?_
    rintro e w1 ⟨rfl, hb1⟩
    have HB1 := Lib.hid (HAL.out.trans (hb1.mono HAL.out.size)); have HN1 := Lib.hid (HBN.out.below hb1); have HR1 := Lib.hid (HBR.out.below hb1); clear hb1
    go_wp2_with fail
    refine (HC.out _ (HE.out.bel HB1.out)).mono ?_
    rintro e w2 ⟨rfl, hb2⟩
    have HB2 := Lib.hid (HB1.out.trans (hb2.mono HB1.out.size)); have HN2 := Lib.hid (HN1.out.below hb2); have HR2 := Lib.hid (HR1.out.below hb2); clear hb2 HB1 HN1 HR1
    go_wp2_with fail
    refine (HP.out _).mono ?_
    rintro e w3 ⟨rfl, rfl⟩
    have bc0 := HN2.out.cell 0 (.string (bs sc)) rfl
    have bc1 := HN2.out.cell 1 (.string (bs ho)) rfl
    have bc2 := HN2.out.cell 2 (.int .i64 po) rfl
    have bc3 := HN2.out.cell 3 (.string (bs pa)) rfl
    have bc4 := HN2.out.cell 4 (.string (bs qu)) rfl
    have bc5 := HN2.out.cell 5 (.bool hq) rfl
    go_wp2_with fail
    refine (HPA.out _ (HE.out.bel HB2.out)).mono ?_
    rintro e w4 ⟨rfl, hb4⟩
    have HB4 := Lib.hid (HB2.out.trans (hb4.mono HB2.out.size)); have hr4 := HR2.out.below hb4; clear hb4
    have nc0 := hr4.cell 0 (.string ⟨#[]⟩) rfl
    have nc1 := hr4.cell 1 (.string ⟨#[]⟩) rfl
    have nc2 := hr4.cell 2 (.int .i64 0) rfl
    have nc3 := hr4.cell 3 (.string ⟨#[]⟩) rfl
    have nc4 := hr4.cell 4 (.string ⟨#[]⟩) rfl
    have nc5 := hr4.cell 5 (.bool false) rfl
    have nf0 := hr4.free 0
    have nf1 := hr4.free 1
    have nf2 := hr4.free 2
    have nf3 := hr4.free 3
    have nf4 := hr4.free 4
    have nf5 := hr4.free 5
    have hq0 := ((((((hr4.set 0 (.string (bs qsc))).set 1 (.string (bs qho))).set 2 (.int .i64 qpo)).set 3 (.string (bs qpa))).set 4 (.string (bs qqu))).set 5 (.bool qhq))
    simp only [List.setIfInBounds_toArray, List.set_cons_zero, List.set_cons_succ] at hq0
    have HQ := Lib.hid hq0; clear hq0
    have HBF : Hid (Below w.heap.size w ((((((w4.setCell ⟨w.heap.size + 1, 0, none⟩ (.string (bs qsc))).setCell ⟨w.heap.size + 1, 1, none⟩ (.string (bs qho))).setCell ⟨w.heap.size + 1, 2, none⟩ (.int .i64 qpo)).setCell ⟨w.heap.size + 1, 3, none⟩ (.string (bs qpa))).setCell ⟨w.heap.size + 1, 4, none⟩ (.string (bs qqu))).setCell ⟨w.heap.size + 1, 5, none⟩ (.bool qhq))) := ((((((HB4.out.setCell (p := ⟨w.heap.size + 1, 0, none⟩) (Nat.le_succ _) (.string (bs qsc))).setCell (p := ⟨w.heap.size + 1, 1, none⟩) (Nat.le_succ _) (.string (bs qho))).setCell (p := ⟨w.heap.size + 1, 2, none⟩) (Nat.le_succ _) (.int .i64 qpo)).setCell (p := ⟨w.heap.size + 1, 3, none⟩) (Nat.le_succ _) (.string (bs qpa))).setCell (p := ⟨w.heap.size + 1, 4, none⟩) (Nat.le_succ _) (.string (bs qqu))).setCell (p := ⟨w.heap.size + 1, 5, none⟩) (Nat.le_succ _) (.bool qhq))
    clear hr4
    go_wp2_with fail
    have m0 := HQ.out.cell 0 (.string (bs qsc)) rfl
    have m1 := HQ.out.cell 1 (.string (bs qho)) rfl
    have m2 := HQ.out.cell 2 (.int .i64 qpo) rfl
    have m3 := HQ.out.cell 3 (.string (bs qpa)) rfl
    have m4 := HQ.out.cell 4 (.string (bs qqu)) rfl
    have m5 := HQ.out.cell 5 (.bool qhq) rfl
    refine bodyPost_ret (v := .tuple #[.agg #[.string (bs qsc), .string (bs qho), .int .i64 qpo, .string (bs qpa), .string (bs qqu), .bool qhq], .int .i64 qe]) (by simp [results, Tryz.results77, go_sem, m0, m1, m2, m3, m4, m5]) rfl ⟨?_, HBF.out⟩
    rfl
end Go.Proofs.YtnpiaifkeddjeaaGreatDoor

/- What a reference means: the resolve layer's Ref, and the document's whole. -/
namespace Go.Proofs.YtnpiaifkeddjeaaGreatDoor
open Go.RowKit

theorem refU_is (b : Ur) (r : List UInt8) : refU b r = if 1024 < r.length then (ur0, 3) else if b.check ≠ 0 then (ur0, 2) else if (targetU b (Lib.cut r [35]).1).2 ≠ 0 then (ur0, (targetU b (Lib.cut r [35]).1).2) else ((targetU b (Lib.cut r [35]).1).1.normal, 0) := rfl
set_option maxHeartbeats 2000000 in
set_option maxRecDepth 100000 in
theorem ref_any (b : Ur) (r : List UInt8) (w : World) (he : EnvU w) (hu : b.okW) :
    Calls Tryz.prog 48 #[.agg #[.string (bs b.sc), .string (bs b.ho), .int .i64 b.po, .string (bs b.pa), .string (bs b.qu), .bool b.hq], .string (bs r)] w (RetU w (refU b r)) := by
  have hal : Below w.heap.size w ((w.alloc (.cells #[.string (bs b.sc), .string (bs b.ho), .int .i64 b.po, .string (bs b.pa), .string (bs b.qu), .bool b.hq] 23)).alloc (.cells #[.string ⟨#[]⟩, .string ⟨#[]⟩, .int .i64 0, .string ⟨#[]⟩, .string ⟨#[]⟩, .bool false] 23)) := ((Below.refl _ _).alloc (Nat.le_refl _) _).alloc (by simp) _
  rw [refU_is]
  have HCK := Lib.hid (fun W (hb : EnvU W) => uriCheck_any b W hb hu)
  have HTG := Lib.hid (fun W (hb : EnvU W) (hc : b.check = 0) (hl : r.length ≤ 1024) => target_any b (Lib.cut r [35]).1 W hb hc (Nat.le_trans (cut_leU r [35]).1 hl))
  have HCU := Lib.hid (fun W (hb : EnvU W) (hl : r.length ≤ 1024) => cutU_any r [35] W hb (by omega))
  have HTC := Lib.hid (@target_check b (Lib.cut r [35]).1)
  generalize b.check = k at *
  obtain ⟨sc, ho, po, pa, qu, hq⟩ := b
  simp only at HCK HTG hal ⊢
  have hbn := (ubk.new w #[.string (bs sc), .string (bs ho), .int .i64 po, .string (bs pa), .string (bs qu), .bool hq] 23).alloc (.cells #[.string ⟨#[]⟩, .string ⟨#[]⟩, .int .i64 0, .string ⟨#[]⟩, .string ⟨#[]⟩, .bool false] 23)
  have hbr := ubk.new (w.alloc (.cells #[.string (bs sc), .string (bs ho), .int .i64 po, .string (bs pa), .string (bs qu), .bool hq] 23)) #[.string ⟨#[]⟩, .string ⟨#[]⟩, .int .i64 0, .string ⟨#[]⟩, .string ⟨#[]⟩, .bool false] 23
  rw [World.size_alloc] at hbr
  have HAL := Lib.hid hal; have HBN := Lib.hid hbn; have HBR := Lib.hid hbr; have HE := Lib.hid he
  clear hal hbn hbr he hu
  by_cases hlong : 1024 < r.length
  · rw [if_pos hlong]
    have hsz : (1024 : Int) < (r.length : Int) := by omega
    have hsd : decide ((1024 : Int) < (r.length : Int)) = true := decide_eq_true hsz
    clear hlong HTG HCU HTC
    show Calls Tryz.prog 48 _ w fun e w' => e = .returned (.tuple #[.agg #[.string ⟨#[]⟩, .string ⟨#[]⟩, .int .i64 0, .string ⟨#[]⟩, .string ⟨#[]⟩, .bool false], .int .i64 3]) ∧ Below w.heap.size w w'
    go_enter Tryz.func48, Tryz.ntmps48
    go_wp2_with fail
    have m0 := HBR.out.cell 0 (.string ⟨#[]⟩) rfl
    have m1 := HBR.out.cell 1 (.string ⟨#[]⟩) rfl
    have m2 := HBR.out.cell 2 (.int .i64 0) rfl
    have m3 := HBR.out.cell 3 (.string ⟨#[]⟩) rfl
    have m4 := HBR.out.cell 4 (.string ⟨#[]⟩) rfl
    have m5 := HBR.out.cell 5 (.bool false) rfl
    refine bodyPost_ret (v := .tuple #[.agg #[.string ⟨#[]⟩, .string ⟨#[]⟩, .int .i64 0, .string ⟨#[]⟩, .string ⟨#[]⟩, .bool false], .int .i64 3]) (by simp [results, Tryz.results48, go_sem, m0, m1, m2, m3, m4, m5]) rfl ⟨?_, HAL.out⟩
    rfl
  · rw [if_neg hlong]
    have hsz : ¬ (1024 : Int) < ((bs r).size : Int) := by rw [bs_size]; omega
    have hle : r.length ≤ 1024 := by omega
    by_cases hk : k ≠ 0
    · rw [if_pos hk]
      have hkn : (k != 0) = true := bne_iff_ne.2 hk
      clear hk HTG HCU HTC hle hlong
      show Calls Tryz.prog 48 _ w fun e w' => e = .returned (.tuple #[.agg #[.string ⟨#[]⟩, .string ⟨#[]⟩, .int .i64 0, .string ⟨#[]⟩, .string ⟨#[]⟩, .bool false], .int .i64 2]) ∧ Below w.heap.size w w'
      go_enter Tryz.func48, Tryz.ntmps48
      go_wp2_with fail
      refine (HCK.out _ (HE.out.bel HAL.out)).mono ?_
      rintro e w1 ⟨rfl, hb1⟩
      have HB1 := Lib.hid (HAL.out.trans (hb1.mono HAL.out.size)); have hn1 := HBN.out.below hb1; have hr1 := HBR.out.below hb1; clear hb1
      have nc0 := hr1.cell 0 (.string ⟨#[]⟩) rfl
      have nc1 := hr1.cell 1 (.string ⟨#[]⟩) rfl
      have nc2 := hr1.cell 2 (.int .i64 0) rfl
      have nc3 := hr1.cell 3 (.string ⟨#[]⟩) rfl
      have nc4 := hr1.cell 4 (.string ⟨#[]⟩) rfl
      have nc5 := hr1.cell 5 (.bool false) rfl
      have nf0 := hr1.free 0
      have nf1 := hr1.free 1
      have nf2 := hr1.free 2
      have nf3 := hr1.free 3
      have nf4 := hr1.free 4
      have nf5 := hr1.free 5
      have hq0 := ((((((hr1.set 0 (.string ⟨#[]⟩)).set 1 (.string ⟨#[]⟩)).set 2 (.int .i64 0)).set 3 (.string ⟨#[]⟩)).set 4 (.string ⟨#[]⟩)).set 5 (.bool false))
      simp only [List.setIfInBounds_toArray, List.set_cons_zero, List.set_cons_succ] at hq0
      have HQ := Lib.hid hq0; clear hq0
      have HBF : Hid (Below w.heap.size w ((((((w1.setCell ⟨w.heap.size + 1, 0, none⟩ (.string ⟨#[]⟩)).setCell ⟨w.heap.size + 1, 1, none⟩ (.string ⟨#[]⟩)).setCell ⟨w.heap.size + 1, 2, none⟩ (.int .i64 0)).setCell ⟨w.heap.size + 1, 3, none⟩ (.string ⟨#[]⟩)).setCell ⟨w.heap.size + 1, 4, none⟩ (.string ⟨#[]⟩)).setCell ⟨w.heap.size + 1, 5, none⟩ (.bool false))) := ((((((HB1.out.setCell (p := ⟨w.heap.size + 1, 0, none⟩) (Nat.le_succ _) (.string ⟨#[]⟩)).setCell (p := ⟨w.heap.size + 1, 1, none⟩) (Nat.le_succ _) (.string ⟨#[]⟩)).setCell (p := ⟨w.heap.size + 1, 2, none⟩) (Nat.le_succ _) (.int .i64 0)).setCell (p := ⟨w.heap.size + 1, 3, none⟩) (Nat.le_succ _) (.string ⟨#[]⟩)).setCell (p := ⟨w.heap.size + 1, 4, none⟩) (Nat.le_succ _) (.string ⟨#[]⟩)).setCell (p := ⟨w.heap.size + 1, 5, none⟩) (Nat.le_succ _) (.bool false))
      clear hr1 hn1
      go_wp2_with fail
      have m0 := HQ.out.cell 0 (.string ⟨#[]⟩) rfl
      have m1 := HQ.out.cell 1 (.string ⟨#[]⟩) rfl
      have m2 := HQ.out.cell 2 (.int .i64 0) rfl
      have m3 := HQ.out.cell 3 (.string ⟨#[]⟩) rfl
      have m4 := HQ.out.cell 4 (.string ⟨#[]⟩) rfl
      have m5 := HQ.out.cell 5 (.bool false) rfl
      refine bodyPost_ret (v := .tuple #[.agg #[.string ⟨#[]⟩, .string ⟨#[]⟩, .int .i64 0, .string ⟨#[]⟩, .string ⟨#[]⟩, .bool false], .int .i64 2]) (by simp [results, Tryz.results48, go_sem, m0, m1, m2, m3, m4, m5]) rfl ⟨?_, HBF.out⟩
      rfl
    · rw [if_neg hk]
      obtain rfl : k = 0 := Classical.not_not.1 hk
      have HTG2 := Lib.hid (fun W hb => HTG.out W hb rfl hle)
      have HCU2 := Lib.hid (fun W hb => HCU.out W hb hle)
      clear hk HTG HCU hle hlong
      generalize Lib.cut r [35] = C at *
      obtain ⟨r0, rq, rf⟩ := C
      simp only at HTG2 HCU2 HTC ⊢
      generalize targetU ⟨sc, ho, po, pa, qu, hq⟩ r0 = X at *
      obtain ⟨X1, qe⟩ := X
      unfold RetU at HTG2
      simp only at HTG2 HTC ⊢
      by_cases hq0 : qe ≠ 0
      · rw [if_pos hq0]
        obtain ⟨qsc, qho, qpo, qpa, qqu, qhq⟩ := X1
        simp only at HTG2 ⊢
        have hkn : (qe != 0) = true := bne_iff_ne.2 hq0
        clear hq0 HTC
        show Calls Tryz.prog 48 _ w fun e w' => e = .returned (.tuple #[.agg #[.string ⟨#[]⟩, .string ⟨#[]⟩, .int .i64 0, .string ⟨#[]⟩, .string ⟨#[]⟩, .bool false], .int .i64 qe]) ∧ Below w.heap.size w w'
        go_enter Tryz.func48, Tryz.ntmps48
        go_wp2_with fail
        refine (HCK.out _ (HE.out.bel HAL.out)).mono ?_
        rintro e w1 ⟨rfl, hb1⟩
        have HB1 := Lib.hid (HAL.out.trans (hb1.mono HAL.out.size)); have hn1 := HBN.out.below hb1; have hr1 := HBR.out.below hb1; clear hb1
        have bc0 := hn1.cell 0 (.string (bs sc)) rfl
        have bc1 := hn1.cell 1 (.string (bs ho)) rfl
        have bc2 := hn1.cell 2 (.int .i64 po) rfl
        have bc3 := hn1.cell 3 (.string (bs pa)) rfl
        have bc4 := hn1.cell 4 (.string (bs qu)) rfl
        have bc5 := hn1.cell 5 (.bool hq) rfl
        have HN1 := Lib.hid hn1; have HR1 := Lib.hid hr1; clear hn1 hr1
        go_wp2_with fail
        refine (HCU2.out _ (HE.out.bel HB1.out)).mono ?_
        rintro e w2 ⟨rfl, hb2⟩
        have HB2 := Lib.hid (HB1.out.trans (hb2.mono HB1.out.size)); have hn2 := HN1.out.below hb2; have HR2 := Lib.hid (HR1.out.below hb2); clear hb2 HB1 HN1 HR1
        clear bc0 bc1 bc2 bc3 bc4 bc5
        have bc0 := hn2.cell 0 (.string (bs sc)) rfl
        have bc1 := hn2.cell 1 (.string (bs ho)) rfl
        have bc2 := hn2.cell 2 (.int .i64 po) rfl
        have bc3 := hn2.cell 3 (.string (bs pa)) rfl
        have bc4 := hn2.cell 4 (.string (bs qu)) rfl
        have bc5 := hn2.cell 5 (.bool hq) rfl
        clear hn2
        go_wp2_with fail
        refine (HTG2.out _ (HE.out.bel HB2.out)).mono ?_
        rintro e w3 ⟨rfl, hb3⟩
        clear bc0 bc1 bc2 bc3 bc4 bc5
        have hB3 := HB2.out.trans (hb3.mono HB2.out.size)
        have hr3 := (HR2.out.below hb3).alloc (.cells #[.string (bs qsc), .string (bs qho), .int .i64 qpo, .string (bs qpa), .string (bs qqu), .bool qhq] 23)
        have hu3 := ubk.new w3 #[.string (bs qsc), .string (bs qho), .int .i64 qpo, .string (bs qpa), .string (bs qqu), .bool qhq] 23
        have hal3 : Below w3.heap.size w3 (w3.alloc (.cells #[.string (bs qsc), .string (bs qho), .int .i64 qpo, .string (bs qpa), .string (bs qqu), .bool qhq] 23)) := (Below.refl _ _).alloc (Nat.le_refl _) _
        have HB3 := Lib.hid (hB3.trans (hal3.mono hB3.size)); clear hb3 hB3 hal3 HB2 HR2
        have nc0 := hr3.cell 0 (.string ⟨#[]⟩) rfl
        have nc1 := hr3.cell 1 (.string ⟨#[]⟩) rfl
        have nc2 := hr3.cell 2 (.int .i64 0) rfl
        have nc3 := hr3.cell 3 (.string ⟨#[]⟩) rfl
        have nc4 := hr3.cell 4 (.string ⟨#[]⟩) rfl
        have nc5 := hr3.cell 5 (.bool false) rfl
        have nf0 := hr3.free 0
        have nf1 := hr3.free 1
        have nf2 := hr3.free 2
        have nf3 := hr3.free 3
        have nf4 := hr3.free 4
        have nf5 := hr3.free 5
        have hq0 := ((((((hr3.set 0 (.string ⟨#[]⟩)).set 1 (.string ⟨#[]⟩)).set 2 (.int .i64 0)).set 3 (.string ⟨#[]⟩)).set 4 (.string ⟨#[]⟩)).set 5 (.bool false))
        simp only [List.setIfInBounds_toArray, List.set_cons_zero, List.set_cons_succ] at hq0
        have HQ := Lib.hid hq0; clear hq0
        have HBF : Hid (Below w.heap.size w (((((((w3.alloc (.cells #[.string (bs qsc), .string (bs qho), .int .i64 qpo, .string (bs qpa), .string (bs qqu), .bool qhq] 23)).setCell ⟨w.heap.size + 1, 0, none⟩ (.string ⟨#[]⟩)).setCell ⟨w.heap.size + 1, 1, none⟩ (.string ⟨#[]⟩)).setCell ⟨w.heap.size + 1, 2, none⟩ (.int .i64 0)).setCell ⟨w.heap.size + 1, 3, none⟩ (.string ⟨#[]⟩)).setCell ⟨w.heap.size + 1, 4, none⟩ (.string ⟨#[]⟩)).setCell ⟨w.heap.size + 1, 5, none⟩ (.bool false))) := ((((((HB3.out.setCell (p := ⟨w.heap.size + 1, 0, none⟩) (Nat.le_succ _) (.string ⟨#[]⟩)).setCell (p := ⟨w.heap.size + 1, 1, none⟩) (Nat.le_succ _) (.string ⟨#[]⟩)).setCell (p := ⟨w.heap.size + 1, 2, none⟩) (Nat.le_succ _) (.int .i64 0)).setCell (p := ⟨w.heap.size + 1, 3, none⟩) (Nat.le_succ _) (.string ⟨#[]⟩)).setCell (p := ⟨w.heap.size + 1, 4, none⟩) (Nat.le_succ _) (.string ⟨#[]⟩)).setCell (p := ⟨w.heap.size + 1, 5, none⟩) (Nat.le_succ _) (.bool false))
        clear hr3 hu3
        go_wp2_with fail
        have m0 := HQ.out.cell 0 (.string ⟨#[]⟩) rfl
        have m1 := HQ.out.cell 1 (.string ⟨#[]⟩) rfl
        have m2 := HQ.out.cell 2 (.int .i64 0) rfl
        have m3 := HQ.out.cell 3 (.string ⟨#[]⟩) rfl
        have m4 := HQ.out.cell 4 (.string ⟨#[]⟩) rfl
        have m5 := HQ.out.cell 5 (.bool false) rfl
        refine bodyPost_ret (v := .tuple #[.agg #[.string ⟨#[]⟩, .string ⟨#[]⟩, .int .i64 0, .string ⟨#[]⟩, .string ⟨#[]⟩, .bool false], .int .i64 qe]) (by simp [results, Tryz.results48, go_sem, m0, m1, m2, m3, m4, m5]) rfl ⟨?_, HBF.out⟩
        rfl
      · rw [if_neg hq0]
        obtain rfl : qe = 0 := Classical.not_not.1 hq0
        have hck := HTC.out rfl
        obtain ⟨⟨l1, l2, l3, l4⟩, l5, l6⟩ := lens_of hck
        have HNM := Lib.hid (fun W (hb : EnvU W) => normal_any X1 W hb ⟨by omega, by omega, by omega⟩)
        clear hck l1 l2 l3 l4 l5 l6 hq0 HTC
        generalize X1.normal = X2 at *
        obtain ⟨nsc, nho, npo, npa, nqu, nhq⟩ := X2
        obtain ⟨qsc, qho, qpo, qpa, qqu, qhq⟩ := X1
        simp only at HTG2 HNM ⊢
        show Calls Tryz.prog 48 _ w fun e w' => e = .returned (.tuple #[.agg #[.string (bs nsc), .string (bs nho), .int .i64 npo, .string (bs npa), .string (bs nqu), .bool nhq], .int .i64 0]) ∧ Below w.heap.size w w'
        go_enter Tryz.func48, Tryz.ntmps48
        go_wp2_with fail
        refine (HCK.out _ (HE.out.bel HAL.out)).mono ?_
        rintro e w1 ⟨rfl, hb1⟩
        have HB1 := Lib.hid (HAL.out.trans (hb1.mono HAL.out.size)); have hn1 := HBN.out.below hb1; have hr1 := HBR.out.below hb1; clear hb1
        have bc0 := hn1.cell 0 (.string (bs sc)) rfl
        have bc1 := hn1.cell 1 (.string (bs ho)) rfl
        have bc2 := hn1.cell 2 (.int .i64 po) rfl
        have bc3 := hn1.cell 3 (.string (bs pa)) rfl
        have bc4 := hn1.cell 4 (.string (bs qu)) rfl
        have bc5 := hn1.cell 5 (.bool hq) rfl
        have HN1 := Lib.hid hn1; have HR1 := Lib.hid hr1; clear hn1 hr1
        go_wp2_with fail
        refine (HCU2.out _ (HE.out.bel HB1.out)).mono ?_
        rintro e w2 ⟨rfl, hb2⟩
        have HB2 := Lib.hid (HB1.out.trans (hb2.mono HB1.out.size)); have hn2 := HN1.out.below hb2; have HR2 := Lib.hid (HR1.out.below hb2); clear hb2 HB1 HN1 HR1
        clear bc0 bc1 bc2 bc3 bc4 bc5
        have bc0 := hn2.cell 0 (.string (bs sc)) rfl
        have bc1 := hn2.cell 1 (.string (bs ho)) rfl
        have bc2 := hn2.cell 2 (.int .i64 po) rfl
        have bc3 := hn2.cell 3 (.string (bs pa)) rfl
        have bc4 := hn2.cell 4 (.string (bs qu)) rfl
        have bc5 := hn2.cell 5 (.bool hq) rfl
        clear hn2
        go_wp2_with fail
        refine (HTG2.out _ (HE.out.bel HB2.out)).mono ?_
        rintro e w3 ⟨rfl, hb3⟩
        clear bc0 bc1 bc2 bc3 bc4 bc5
        have hB3 := HB2.out.trans (hb3.mono HB2.out.size)
        have hr3 := (HR2.out.below hb3).alloc (.cells #[.string (bs qsc), .string (bs qho), .int .i64 qpo, .string (bs qpa), .string (bs qqu), .bool qhq] 23)
        have hu3 := ubk.new w3 #[.string (bs qsc), .string (bs qho), .int .i64 qpo, .string (bs qpa), .string (bs qqu), .bool qhq] 23
        have hal3 : Below w3.heap.size w3 (w3.alloc (.cells #[.string (bs qsc), .string (bs qho), .int .i64 qpo, .string (bs qpa), .string (bs qqu), .bool qhq] 23)) := (Below.refl _ _).alloc (Nat.le_refl _) _
        have HB3 := Lib.hid (hB3.trans (hal3.mono hB3.size)); clear hb3 hB3 hal3 HB2 HR2
        have uc0 := hu3.cell 0 (.string (bs qsc)) rfl
        have uc1 := hu3.cell 1 (.string (bs qho)) rfl
        have uc2 := hu3.cell 2 (.int .i64 qpo) rfl
        have uc3 := hu3.cell 3 (.string (bs qpa)) rfl
        have uc4 := hu3.cell 4 (.string (bs qqu)) rfl
        have uc5 := hu3.cell 5 (.bool qhq) rfl
        have HR3 := Lib.hid hr3; clear hr3 hu3
        go_wp2_with fail
        refine (HNM.out _ (HE.out.bel HB3.out)).mono ?_
        rintro e w4 ⟨rfl, hb4⟩
        clear uc0 uc1 uc2 uc3 uc4 uc5
        have HB4 := Lib.hid (HB3.out.trans (hb4.mono HB3.out.size)); have hr4 := HR3.out.below hb4; clear hb4 HB3 HR3
        have nc0 := hr4.cell 0 (.string ⟨#[]⟩) rfl
        have nc1 := hr4.cell 1 (.string ⟨#[]⟩) rfl
        have nc2 := hr4.cell 2 (.int .i64 0) rfl
        have nc3 := hr4.cell 3 (.string ⟨#[]⟩) rfl
        have nc4 := hr4.cell 4 (.string ⟨#[]⟩) rfl
        have nc5 := hr4.cell 5 (.bool false) rfl
        have nf0 := hr4.free 0
        have nf1 := hr4.free 1
        have nf2 := hr4.free 2
        have nf3 := hr4.free 3
        have nf4 := hr4.free 4
        have nf5 := hr4.free 5
        have hq0 := ((((((hr4.set 0 (.string (bs nsc))).set 1 (.string (bs nho))).set 2 (.int .i64 npo)).set 3 (.string (bs npa))).set 4 (.string (bs nqu))).set 5 (.bool nhq))
        simp only [List.setIfInBounds_toArray, List.set_cons_zero, List.set_cons_succ] at hq0
        have HQ := Lib.hid hq0; clear hq0
        have HBF : Hid (Below w.heap.size w ((((((w4.setCell ⟨w.heap.size + 1, 0, none⟩ (.string (bs nsc))).setCell ⟨w.heap.size + 1, 1, none⟩ (.string (bs nho))).setCell ⟨w.heap.size + 1, 2, none⟩ (.int .i64 npo)).setCell ⟨w.heap.size + 1, 3, none⟩ (.string (bs npa))).setCell ⟨w.heap.size + 1, 4, none⟩ (.string (bs nqu))).setCell ⟨w.heap.size + 1, 5, none⟩ (.bool nhq))) := ((((((HB4.out.setCell (p := ⟨w.heap.size + 1, 0, none⟩) (Nat.le_succ _) (.string (bs nsc))).setCell (p := ⟨w.heap.size + 1, 1, none⟩) (Nat.le_succ _) (.string (bs nho))).setCell (p := ⟨w.heap.size + 1, 2, none⟩) (Nat.le_succ _) (.int .i64 npo)).setCell (p := ⟨w.heap.size + 1, 3, none⟩) (Nat.le_succ _) (.string (bs npa))).setCell (p := ⟨w.heap.size + 1, 4, none⟩) (Nat.le_succ _) (.string (bs nqu))).setCell (p := ⟨w.heap.size + 1, 5, none⟩) (Nat.le_succ _) (.bool nhq))
        clear hr4
        go_wp2_with fail
        have m0 := HQ.out.cell 0 (.string (bs nsc)) rfl
        have m1 := HQ.out.cell 1 (.string (bs nho)) rfl
        have m2 := HQ.out.cell 2 (.int .i64 npo) rfl
        have m3 := HQ.out.cell 3 (.string (bs npa)) rfl
        have m4 := HQ.out.cell 4 (.string (bs nqu)) rfl
        have m5 := HQ.out.cell 5 (.bool nhq) rfl
        refine bodyPost_ret (v := .tuple #[.agg #[.string (bs nsc), .string (bs nho), .int .i64 npo, .string (bs npa), .string (bs nqu), .bool nhq], .int .i64 0]) (by simp [results, Tryz.results48, go_sem, m0, m1, m2, m3, m4, m5]) rfl ⟨?_, HBF.out⟩
        rfl
set_option maxHeartbeats 2000000 in
set_option maxRecDepth 100000 in
theorem uwhole_any (s : List UInt8) (w : World) :
    Calls Tryz.prog 59 #[.string (bs s)] w (RetU w (endU (parseU s))) := by
  have HP := Lib.hid (fun W => uparse_any (bs s) W)
  rw [doc_eq, bs_data] at HP
  have HTC := Lib.hid (@parse_okR s)
  have hE : endU (parseU s) = if (parseU s).2 ≠ 0 then (ur0, (parseU s).2) else ((parseU s).1.normal, 0) := rfl
  rw [hE]
  clear hE
  generalize parseU s = X at *
  obtain ⟨X1, qe⟩ := X
  unfold RetU at HP
  simp only at HP HTC ⊢
  have hal : Below w.heap.size w (w.alloc (.cells #[.string ⟨#[]⟩, .string ⟨#[]⟩, .int .i64 0, .string ⟨#[]⟩, .string ⟨#[]⟩, .bool false] 23)) := (Below.refl _ _).alloc (Nat.le_refl _) _
  have hbr := ubk.new w #[.string ⟨#[]⟩, .string ⟨#[]⟩, .int .i64 0, .string ⟨#[]⟩, .string ⟨#[]⟩, .bool false] 23
  have HAL := Lib.hid hal; have HBR := Lib.hid hbr; clear hal hbr
  by_cases hq0 : qe ≠ 0
  · rw [if_pos hq0]
    obtain ⟨qsc, qho, qpo, qpa, qqu, qhq⟩ := X1
    simp only at HP ⊢
    have hkn : (qe != 0) = true := bne_iff_ne.2 hq0
    clear hq0 HTC
    show Calls Tryz.prog 59 _ w fun e w' => e = .returned (.tuple #[.agg #[.string ⟨#[]⟩, .string ⟨#[]⟩, .int .i64 0, .string ⟨#[]⟩, .string ⟨#[]⟩, .bool false], .int .i64 qe]) ∧ Below w.heap.size w w'
    go_enter Tryz.func59, Tryz.ntmps59
    go_wp2_with fail
    refine (HP.out _).mono ?_
    rintro e w1 ⟨rfl, hb1⟩
    have hB1 := HAL.out.trans (hb1.mono HAL.out.size)
    have hr1 := (HBR.out.below hb1).alloc (.cells #[.string (bs qsc), .string (bs qho), .int .i64 qpo, .string (bs qpa), .string (bs qqu), .bool qhq] 23)
    have hu1 := ubk.new w1 #[.string (bs qsc), .string (bs qho), .int .i64 qpo, .string (bs qpa), .string (bs qqu), .bool qhq] 23
    have hal1 : Below w1.heap.size w1 (w1.alloc (.cells #[.string (bs qsc), .string (bs qho), .int .i64 qpo, .string (bs qpa), .string (bs qqu), .bool qhq] 23)) := (Below.refl _ _).alloc (Nat.le_refl _) _
    have HB1 := Lib.hid (hB1.trans (hal1.mono hB1.size)); clear hb1 hB1 hal1
    have nc0 := hr1.cell 0 (.string ⟨#[]⟩) rfl
    have nc1 := hr1.cell 1 (.string ⟨#[]⟩) rfl
    have nc2 := hr1.cell 2 (.int .i64 0) rfl
    have nc3 := hr1.cell 3 (.string ⟨#[]⟩) rfl
    have nc4 := hr1.cell 4 (.string ⟨#[]⟩) rfl
    have nc5 := hr1.cell 5 (.bool false) rfl
    have nf0 := hr1.free 0
    have nf1 := hr1.free 1
    have nf2 := hr1.free 2
    have nf3 := hr1.free 3
    have nf4 := hr1.free 4
    have nf5 := hr1.free 5
    have hq0 := ((((((hr1.set 0 (.string ⟨#[]⟩)).set 1 (.string ⟨#[]⟩)).set 2 (.int .i64 0)).set 3 (.string ⟨#[]⟩)).set 4 (.string ⟨#[]⟩)).set 5 (.bool false))
    simp only [List.setIfInBounds_toArray, List.set_cons_zero, List.set_cons_succ] at hq0
    have HQ := Lib.hid hq0; clear hq0
    have HBF : Hid (Below w.heap.size w (((((((w1.alloc (.cells #[.string (bs qsc), .string (bs qho), .int .i64 qpo, .string (bs qpa), .string (bs qqu), .bool qhq] 23)).setCell ⟨w.heap.size, 0, none⟩ (.string ⟨#[]⟩)).setCell ⟨w.heap.size, 1, none⟩ (.string ⟨#[]⟩)).setCell ⟨w.heap.size, 2, none⟩ (.int .i64 0)).setCell ⟨w.heap.size, 3, none⟩ (.string ⟨#[]⟩)).setCell ⟨w.heap.size, 4, none⟩ (.string ⟨#[]⟩)).setCell ⟨w.heap.size, 5, none⟩ (.bool false))) := ((((((HB1.out.setCell (p := ⟨w.heap.size, 0, none⟩) (Nat.le_refl _) (.string ⟨#[]⟩)).setCell (p := ⟨w.heap.size, 1, none⟩) (Nat.le_refl _) (.string ⟨#[]⟩)).setCell (p := ⟨w.heap.size, 2, none⟩) (Nat.le_refl _) (.int .i64 0)).setCell (p := ⟨w.heap.size, 3, none⟩) (Nat.le_refl _) (.string ⟨#[]⟩)).setCell (p := ⟨w.heap.size, 4, none⟩) (Nat.le_refl _) (.string ⟨#[]⟩)).setCell (p := ⟨w.heap.size, 5, none⟩) (Nat.le_refl _) (.bool false))
    clear hr1 hu1
    go_wp2_with fail
    have m0 := HQ.out.cell 0 (.string ⟨#[]⟩) rfl
    have m1 := HQ.out.cell 1 (.string ⟨#[]⟩) rfl
    have m2 := HQ.out.cell 2 (.int .i64 0) rfl
    have m3 := HQ.out.cell 3 (.string ⟨#[]⟩) rfl
    have m4 := HQ.out.cell 4 (.string ⟨#[]⟩) rfl
    have m5 := HQ.out.cell 5 (.bool false) rfl
    refine bodyPost_ret (v := .tuple #[.agg #[.string ⟨#[]⟩, .string ⟨#[]⟩, .int .i64 0, .string ⟨#[]⟩, .string ⟨#[]⟩, .bool false], .int .i64 qe]) (by simp [results, Tryz.results59, go_sem, m0, m1, m2, m3, m4, m5]) rfl ⟨?_, HBF.out⟩
    rfl
  · rw [if_neg hq0]
    obtain rfl : qe = 0 := Classical.not_not.1 hq0
    have hck := HTC.out rfl
    obtain ⟨⟨l1, l2, l3, l4⟩, l5, l6⟩ := lens_of hck
    have HNM := Lib.hid (fun W => unormal_any X1 W ⟨by omega, by omega, by omega⟩ (by omega))
    clear hck l1 l2 l3 l4 l5 l6 hq0 HTC
    generalize X1.normal = X2 at *
    obtain ⟨nsc, nho, npo, npa, nqu, nhq⟩ := X2
    obtain ⟨qsc, qho, qpo, qpa, qqu, qhq⟩ := X1
    simp only at HP HNM ⊢
    show Calls Tryz.prog 59 _ w fun e w' => e = .returned (.tuple #[.agg #[.string (bs nsc), .string (bs nho), .int .i64 npo, .string (bs npa), .string (bs nqu), .bool nhq], .int .i64 0]) ∧ Below w.heap.size w w'
    go_enter Tryz.func59, Tryz.ntmps59
    go_wp2_with fail
    refine (HP.out _).mono ?_
    rintro e w1 ⟨rfl, hb1⟩
    have hB1 := HAL.out.trans (hb1.mono HAL.out.size)
    have hr1 := (HBR.out.below hb1).alloc (.cells #[.string (bs qsc), .string (bs qho), .int .i64 qpo, .string (bs qpa), .string (bs qqu), .bool qhq] 23)
    have hu1 := ubk.new w1 #[.string (bs qsc), .string (bs qho), .int .i64 qpo, .string (bs qpa), .string (bs qqu), .bool qhq] 23
    have hal1 : Below w1.heap.size w1 (w1.alloc (.cells #[.string (bs qsc), .string (bs qho), .int .i64 qpo, .string (bs qpa), .string (bs qqu), .bool qhq] 23)) := (Below.refl _ _).alloc (Nat.le_refl _) _
    have HB1 := Lib.hid (hB1.trans (hal1.mono hB1.size)); clear hb1 hB1 hal1
    have uc0 := hu1.cell 0 (.string (bs qsc)) rfl
    have uc1 := hu1.cell 1 (.string (bs qho)) rfl
    have uc2 := hu1.cell 2 (.int .i64 qpo) rfl
    have uc3 := hu1.cell 3 (.string (bs qpa)) rfl
    have uc4 := hu1.cell 4 (.string (bs qqu)) rfl
    have uc5 := hu1.cell 5 (.bool qhq) rfl
    have HR1 := Lib.hid hr1; clear hr1 hu1
    go_wp2_with fail
    refine (HNM.out _).mono ?_
    rintro e w2 ⟨rfl, hb2⟩
    clear uc0 uc1 uc2 uc3 uc4 uc5
    have HB2 := Lib.hid (HB1.out.trans (hb2.mono HB1.out.size)); have hr2 := HR1.out.below hb2; clear hb2 HB1 HR1
    have nc0 := hr2.cell 0 (.string ⟨#[]⟩) rfl
    have nc1 := hr2.cell 1 (.string ⟨#[]⟩) rfl
    have nc2 := hr2.cell 2 (.int .i64 0) rfl
    have nc3 := hr2.cell 3 (.string ⟨#[]⟩) rfl
    have nc4 := hr2.cell 4 (.string ⟨#[]⟩) rfl
    have nc5 := hr2.cell 5 (.bool false) rfl
    have nf0 := hr2.free 0
    have nf1 := hr2.free 1
    have nf2 := hr2.free 2
    have nf3 := hr2.free 3
    have nf4 := hr2.free 4
    have nf5 := hr2.free 5
    have hq0 := ((((((hr2.set 0 (.string (bs nsc))).set 1 (.string (bs nho))).set 2 (.int .i64 npo)).set 3 (.string (bs npa))).set 4 (.string (bs nqu))).set 5 (.bool nhq))
    simp only [List.setIfInBounds_toArray, List.set_cons_zero, List.set_cons_succ] at hq0
    have HQ := Lib.hid hq0; clear hq0
    have HBF : Hid (Below w.heap.size w ((((((w2.setCell ⟨w.heap.size, 0, none⟩ (.string (bs nsc))).setCell ⟨w.heap.size, 1, none⟩ (.string (bs nho))).setCell ⟨w.heap.size, 2, none⟩ (.int .i64 npo)).setCell ⟨w.heap.size, 3, none⟩ (.string (bs npa))).setCell ⟨w.heap.size, 4, none⟩ (.string (bs nqu))).setCell ⟨w.heap.size, 5, none⟩ (.bool nhq))) := ((((((HB2.out.setCell (p := ⟨w.heap.size, 0, none⟩) (Nat.le_refl _) (.string (bs nsc))).setCell (p := ⟨w.heap.size, 1, none⟩) (Nat.le_refl _) (.string (bs nho))).setCell (p := ⟨w.heap.size, 2, none⟩) (Nat.le_refl _) (.int .i64 npo)).setCell (p := ⟨w.heap.size, 3, none⟩) (Nat.le_refl _) (.string (bs npa))).setCell (p := ⟨w.heap.size, 4, none⟩) (Nat.le_refl _) (.string (bs nqu))).setCell (p := ⟨w.heap.size, 5, none⟩) (Nat.le_refl _) (.bool nhq))
    clear hr2
    go_wp2_with fail
    have m0 := HQ.out.cell 0 (.string (bs nsc)) rfl
    have m1 := HQ.out.cell 1 (.string (bs nho)) rfl
    have m2 := HQ.out.cell 2 (.int .i64 npo) rfl
    have m3 := HQ.out.cell 3 (.string (bs npa)) rfl
    have m4 := HQ.out.cell 4 (.string (bs nqu)) rfl
    have m5 := HQ.out.cell 5 (.bool nhq) rfl
    refine bodyPost_ret (v := .tuple #[.agg #[.string (bs nsc), .string (bs nho), .int .i64 npo, .string (bs npa), .string (bs nqu), .bool nhq], .int .i64 0]) (by simp [results, Tryz.results59, go_sem, m0, m1, m2, m3, m4, m5]) rfl ⟨?_, HBF.out⟩
    rfl
end Go.Proofs.YtnpiaifkeddjeaaGreatDoor
