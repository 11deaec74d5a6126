/- References: the bytes of a scheme, where a byte stands first: the resolve layer's and the document's small functions. -/
import Derived.Test.YtekaiafhnnpkgaaGreatDoorUriX
import Derived.Test.YtekaiafhnnpkgaaGreatDoorUriK
import Derived.Test.YtekaiafhnnpkgaaGreatDoorUriR
import Derived.Test.YtekaiafhnnpkgaaGreatDoorRes1
namespace Go.Proofs.YtekaiafhnnpkgaaGreatDoor
open Go.RowKit

def preS : List UInt8 → Bool
  | [] => true
  | c :: r => abcI (c.toNat : Int) && r.all schB
theorem isSch_pre (l : List UInt8) : isSch l = (!l.isEmpty && preS l) := by cases l <;> rfl
theorem preS_snoc (l : List UInt8) (c : UInt8) : preS (l ++ [c]) = if l = [] then abcI (c.toNat : Int) else (preS l && schB c) := by
  match l with
  | [] => simp [preS]
  | d :: r => simp [preS, Bool.and_assoc]
theorem preS_next {s : ByteArray} {k : Nat} (h : k < s.size) (hp : preS (s.data.toList.take k) = true) (hc : abcI (s[k].toNat : Int) = true ∨ (0 < k ∧ schI (s[k].toNat : Int) = true)) : preS (s.data.toList.take (k + 1)) = true := by
  rw [take_snoc s k h, preS_snoc]
  split
  · rename_i h0
    rcases hc with hc | ⟨hc, -⟩
    · exact hc
    · have h1 : (s.data.toList.take k).length = 0 := by rw [h0]; rfl
      rw [List.length_take, ← size_len] at h1
      omega
  · rw [hp]
    rcases hc with hc | ⟨-, hc⟩
    · show (true && (abcI _ || _)) = true; rw [hc]; rfl
    · exact hc
theorem isSch_at {l : List UInt8} (h : isSch l = true) {k : Nat} {c : UInt8} (hk : l[k]? = some c) : (k = 0 ∧ abcI (c.toNat : Int) = true) ∨ (0 < k ∧ schI (c.toNat : Int) = true) := by
  match l, k, h, hk with
  | d :: r, 0, h, hk =>
    simp at hk; rw [← hk]
    exact .inl ⟨rfl, (Bool.and_eq_true_iff.1 h).1⟩
  | d :: r, k + 1, h, hk =>
    exact .inr ⟨by omega, List.all_eq_true.1 (Bool.and_eq_true_iff.1 h).2 c (List.mem_of_getElem? (by simpa using hk))⟩
theorem abc_sch {n : Int} (h : abcI n = true) : schI n = true := by unfold schI; rw [h]; rfl
theorem at_of {s : ByteArray} {k : Nat} (h : k < s.size) : s.data.toList[k]? = some s[k] := by
  rw [List.getElem?_eq_getElem (by rw [← size_len]; exact h)]; rfl
theorem isSch_bad {s : ByteArray} {k : Nat} (h : k < s.size) (hc : abcI (s[k].toNat : Int) = false ∧ (k = 0 ∨ schI (s[k].toNat : Int) = false)) : isSch s.data.toList = false := by
  cases hs : isSch s.data.toList
  · rfl
  · rcases isSch_at hs (at_of h) with ⟨h1, h2⟩ | ⟨h1, h2⟩
    · rw [hc.1] at h2; cases h2
    · rcases hc.2 with h3 | h3
      · omega
      · rw [h3] at h2; cases h2
set_option maxHeartbeats 400000 in
set_option maxRecDepth 100000 in
theorem abc_any (n : Int) (w : World) :
    Calls Tryz.prog 84 #[.int .u8 n] w fun e w' => e = .returned (.bool (abcI n)) ∧ w = w' := by
  go_enter Tryz.func84, Tryz.ntmps84
  go_wp2
  all_goals go_ret
  all_goals refine ⟨ret_bool ?_, rfl⟩
  all_goals unfold abcI
  all_goals rw [Bool.eq_iff_iff]
  all_goals simp
  all_goals omega
set_option maxHeartbeats 1000000 in
set_option maxRecDepth 100000 in
theorem isSch_any (s : ByteArray) (w : World) (hs : s.size ≤ maxLen) :
    Calls Tryz.prog 55 #[.string s] w fun r w' => r = .returned (.bool (isSch s.data.toList)) ∧ w = w' := by
  unfold maxLen at hs
  go_enter Tryz.func55, Tryz.ntmps55
  go_wp2_with fail
  go_loop [6] (fun i => ∃ k : Nat, k ≤ s.size ∧ i = .int .i64 k ∧ Hid (preS (s.data.toList.take k) = true)) (fun i => s.size - (intOf i).toNat)
  case atStart => exact ⟨0, Nat.zero_le _, rfl, rfl⟩
  case round =>
    obtain ⟨k, hk, rfl, HT⟩ := hrel
    by_cases hlt : k < s.size
    · have HA := Lib.hid (fun w => abc_any (s[k].toNat : Int) w)
      cases ha : abcI (s[k].toNat : Int)
      · rw [ha] at HA
        by_cases hk0 : k = 0
        · have HB := Lib.hid (isSch_bad hlt ⟨ha, .inl hk0⟩)
          have hb0 : ((k : Int) == 0) = true := by rw [beq_iff_eq]; omega
          clear hk0 ha HT
          go_wp2_with (go_at_call 84; refine (HA.out _).mono ?_; rintro e w' ⟨rfl, rfl⟩)
          go_ret
          exact ⟨ret_bool HB.out.symm, rfl⟩
        · have hb0 : ((k : Int) == 0) = false := by rw [beq_eq_false_iff_ne]; omega
          have HX := Lib.hid (fun w => indexU_any schM s[k] w)
          have hi := index_in schM s[k]
          cases hn : inI (s[k].toNat : Int) schM
          · have HB := Lib.hid (isSch_bad hlt ⟨ha, .inr (by unfold schI; rw [ha, hn]; rfl)⟩)
            rw [hn, decide_eq_false_iff_not] at hi
            clear ha hn HT hk0
            generalize Lib.indexByte schM s[k] = x at *
            go_wp2_with (first | (go_at_call 84; refine (HA.out _).mono ?_; rintro e w' ⟨rfl, rfl⟩) | (go_at_call 71; refine (HX.out _).mono ?_; rintro e w' ⟨rfl, rfl⟩))
            go_ret
            exact ⟨ret_bool HB.out.symm, rfl⟩
          · have HN := Lib.hid (preS_next hlt HT.out (.inr ⟨by omega, by unfold schI; rw [hn, Bool.or_true]⟩))
            rw [hn, decide_eq_true_eq] at hi
            clear ha hn HT hk0
            generalize Lib.indexByte schM s[k] = x at *
            go_wp2_with (first | (go_at_call 84; refine (HA.out _).mono ?_; rintro e w' ⟨rfl, rfl⟩) | (go_at_call 71; refine (HX.out _).mono ?_; rintro e w' ⟨rfl, rfl⟩))
            go_round
            case rel => exact ⟨k + 1, by omega, by go_num, HN.out⟩
            case measure => simp [intOf]; omega
      · have HN := Lib.hid (preS_next hlt HT.out (.inl ha))
        rw [ha] at HA
        clear ha HT
        go_wp2_with (go_at_call 84; refine (HA.out _).mono ?_; rintro e w' ⟨rfl, rfl⟩)
        go_round
        case rel => exact ⟨k + 1, by omega, by go_num, HN.out⟩
        case measure => simp [intOf]; omega
    · have HF : Hid (isSch s.data.toList = !s.toList.isEmpty) := by
        show _ = _
        have h := HT.out
        rw [take_all hlt] at h
        rw [isSch_pre, h, Bool.and_true, Lib.toList_data]
      clear HT
      cases he : s.toList.isEmpty
      all_goals
        rw [he] at HF
        go_wp2_with fail
        go_ret
        exact ⟨ret_bool HF.out.symm, rfl⟩
/-- no such byte ahead of a place -/
def noB (s : ByteArray) (c : UInt8) (k : Nat) : Prop := ∀ j (h : j < s.data.toList.length), j < k → s.data.toList[j] ≠ c
theorem noB.next {s : ByteArray} {c : UInt8} {k : Nat} (h : noB s c k) (hk : k < s.size) (hc : s[k] ≠ c) : noB s c (k + 1) := fun j hj hjk => by
  rcases Nat.lt_or_ge j k with h1 | h1
  · exact h j hj h1
  · obtain rfl : j = k := by omega
    exact hc
theorem noB.cut {s : ByteArray} {c : UInt8} {k : Nat} (h : noB s c k) (hk : k ≤ s.size) (hc : ∀ h : k < s.size, s[k] = c) : Lib.cut s.data.toList [c] = (s.data.toList.take k, s.data.toList.drop (k + 1), decide (k < s.data.toList.length)) :=
  cut_at1 (by rw [← size_len]; exact hk) h (fun h1 => hc (by rw [size_len]; exact h1))
theorem take_len {s : ByteArray} {k : Nat} (hk : k ≤ s.size) : (s.data.toList.take k).length = k := by rw [List.length_take, ← size_len]; omega
set_option maxHeartbeats 400000 in
set_option maxRecDepth 100000 in
theorem find_any (s : ByteArray) (c : UInt8) (w : World) (hs : s.size ≤ maxLen) :
    Calls Tryz.prog 17 #[.string s, .int .u8 (c.toNat : Int)] w fun r w' => r = .returned (.int .i64 ((Lib.cut s.data.toList [c]).1.length : Nat)) ∧ w = w' := by
  unfold maxLen at hs
  go_enter Tryz.func17, Tryz.ntmps17
  go_wp2_with fail
  go_loop [5] (fun i => ∃ k : Nat, k ≤ s.size ∧ i = .int .i64 k ∧ Hid (noB s c k)) (fun i => s.size - (intOf i).toNat)
  case atStart => exact ⟨0, Nat.zero_le _, rfl, fun j _ h => absurd h (Nat.not_lt_zero _)⟩
  case round =>
    obtain ⟨k, hk, rfl, HT⟩ := hrel
    by_cases hlt : k < s.size
    · by_cases hc : s[k] = c
      · have hb : ((s[k].toNat : Int) != (c.toNat : Int)) = false := by rw [hc]; simp
        have HF : Hid ((Lib.cut s.data.toList [c]).1.length = k) := by show _ = _; rw [HT.out.cut hk (fun _ => hc)]; exact take_len hk
        clear hc HT
        go_wp2_with fail
        go_ret
        exact ⟨ret_i64 (by rw [HF.out]), rfl⟩
      · have hb : ((s[k].toNat : Int) != (c.toNat : Int)) = true := by rw [bne_iff_ne]; intro h; exact hc (UInt8.toNat_inj.1 (by omega))
        have HN := Lib.hid (HT.out.next hlt hc)
        clear hc HT
        go_wp2_with fail
        go_round
        case rel => exact ⟨k + 1, by omega, by go_num, HN.out⟩
        case measure => simp [intOf]; omega
    · have HF : Hid ((Lib.cut s.data.toList [c]).1.length = k) := by show _ = _; rw [HT.out.cut hk (fun h => absurd h hlt)]; exact take_len hk
      clear HT
      go_wp2_with fail
      go_ret
      exact ⟨ret_i64 (by rw [HF.out]), rfl⟩
theorem schN_none {s : ByteArray} {k : Nat} (h : noB s 58 k) (hk : ¬ k < s.size) : schN s.data.toList = 0 := by
  have h1 : Lib.cut s.data.toList [58] = _ := noB.cut (k := s.size) (fun j hj _ => h j hj (by rw [← size_len] at hj; omega)) (Nat.le_refl _) (fun h => absurd h (Nat.lt_irrefl _))
  unfold schN
  rw [h1, decide_eq_false (by rw [size_len]; exact Nat.lt_irrefl _)]
  rfl
theorem schN_here {s : ByteArray} {k : Nat} (h : noB s 58 k) (hp : preS (s.data.toList.take k) = true) (hk : k < s.size) (hc : s[k] = 58) : schN s.data.toList = k := by
  unfold schN
  rw [h.cut (Nat.le_of_lt hk) (fun _ => hc), decide_eq_true (by rw [← size_len]; exact hk), isSch_pre, hp]
  simp only [Bool.true_and, Bool.and_true]
  have h2 := take_len (Nat.le_of_lt hk)
  split
  · exact h2
  · rename_i h3
    cases hl : s.data.toList.take k with
    | nil => rw [hl] at h2; exact h2
    | cons a b => rw [hl] at h3; exact absurd rfl h3
theorem schN_bad {s : ByteArray} {k : Nat} (h : noB s 58 k) (hk : k < s.size) (h58 : s[k] ≠ 58) (hc : abcI (s[k].toNat : Int) = false ∧ (k = 0 ∨ schI (s[k].toNat : Int) = false)) : schN s.data.toList = 0 := by
  unfold schN
  split
  · rename_i h1
    obtain ⟨hf, hi⟩ := Bool.and_eq_true_iff.1 h1
    obtain ⟨hp, -⟩ := cut_parts s.data.toList [58]
    rw [hf, if_pos rfl] at hp
    generalize (Lib.cut s.data.toList [58]).1 = a at *
    generalize (Lib.cut s.data.toList [58]).2.1 = t at *
    have hal : a.length < s.data.toList.length := by rw [hp]; simp
    have h2 : s.data.toList[a.length]? = some 58 := by rw [hp]; simp
    rw [List.getElem?_eq_getElem hal] at h2
    have h3 : k < a.length := by
      rcases Nat.lt_or_ge a.length k with h4 | h4
      · exact absurd (Option.some.inj h2) (h _ hal h4)
      · rcases Nat.lt_or_ge k a.length with h5 | h5
        · exact h5
        · obtain rfl : a.length = k := by omega
          exact absurd (Option.some.inj h2) h58
    have h4 := at_of hk
    rw [hp, List.getElem?_append_left h3] at h4
    rcases isSch_at hi h4 with ⟨h5, h6⟩ | ⟨h5, h6⟩
    · rw [hc.1] at h6; cases h6
    · rcases hc.2 with h7 | h7
      · omega
      · rw [h7] at h6; cases h6
  · rfl
theorem ne58 {c : UInt8} (h : ¬ (c.toNat : Int) = 58) : c ≠ 58 := fun e => h (by rw [e]; rfl)
theorem inI_schM (n : Int) : inI n schM = decide ((48 ≤ n ∧ n ≤ 57) ∨ n = 43 ∨ n = 45 ∨ n = 46) := by
  unfold inI schM
  rw [Bool.eq_iff_iff]
  simp
  omega
theorem sch_cases (n : Int) : n = 58 ∨ (¬ n = 58 ∧ abcI n = true ∧ ((97 ≤ n ∧ n ≤ 122) ∨ (65 ≤ n ∧ n ≤ 90))) ∨
    (¬ n = 58 ∧ abcI n = false ∧ schI n = true ∧ ((48 ≤ n ∧ n ≤ 57) ∨ (43 ≤ n ∧ n ≤ 43) ∨ (45 ≤ n ∧ n ≤ 45) ∨ (46 ≤ n ∧ n ≤ 46))) ∨
    (¬ n = 58 ∧ abcI n = false ∧ schI n = false ∧ (n < 43 ∨ (44 ≤ n ∧ n ≤ 44) ∨ (47 ≤ n ∧ n ≤ 47) ∨ (59 ≤ n ∧ n ≤ 64) ∨ (91 ≤ n ∧ n ≤ 96) ∨ 122 < n)) := by
  unfold schI
  rw [inI_schM]
  unfold abcI
  simp only [decide_eq_true_eq, decide_eq_false_iff_not, Bool.or_eq_true, Bool.or_eq_false_iff]
  omega
set_option maxHeartbeats 2000000 in
set_option maxRecDepth 100000 in
theorem scheme_any (s : ByteArray) (w : World) (hs : s.size ≤ maxLen) :
    Calls Tryz.prog 18 #[.string s] w fun r w' => r = .returned (.int .i64 (schN s.data.toList : Nat)) ∧ w = w' := by
  unfold maxLen at hs
  go_enter Tryz.func18, Tryz.ntmps18
  go_wp2_with fail
  go_loop [3] (fun i => ∃ k : Nat, k ≤ s.size ∧ i = .int .i64 k ∧ Hid (noB s 58 k ∧ preS (s.data.toList.take k) = true)) (fun i => s.size - (intOf i).toNat)
  case atStart => exact ⟨0, Nat.zero_le _, rfl, fun j _ h => absurd h (Nat.not_lt_zero _), rfl⟩
  case round =>
    obtain ⟨k, hk, rfl, HT⟩ := hrel
    by_cases hlt : k < s.size
    · rcases sch_cases (s[k].toNat : Int) with h | ⟨h, ha, hr⟩ | ⟨h, ha, hsc, hr⟩ | ⟨h, ha, hsc, hr⟩
      · have HF : Hid (schN s.data.toList = k) := schN_here HT.out.1 HT.out.2 hlt (UInt8.toNat_inj.1 (by simpa using (by omega : s[k].toNat = 58)))
        have hb : ((s[k].toNat : Int) == 58) = true := by rw [beq_iff_eq]; exact h
        have h1 : 58 ≤ (s[k].toNat : Int) := by omega
        have h2 : (s[k].toNat : Int) ≤ 58 := by omega
        clear h HT
        go_wp2_with fail
        go_ret
        exact ⟨ret_i64 (by rw [HF.out]), rfl⟩
      · have HN := Lib.hid (⟨HT.out.1.next hlt (ne58 h), preS_next hlt HT.out.2 (.inl ha)⟩ : noB s 58 (k + 1) ∧ _)
        have hb : ((s[k].toNat : Int) == 58) = false := by rw [beq_eq_false_iff_ne]; exact h
        clear h ha HT
        rcases hr with ⟨h1, h2⟩ | ⟨h1, h2⟩
        all_goals
          go_wp2_with fail
          go_round
          case rel => exact ⟨k + 1, by omega, by go_num, HN.out⟩
          case measure => simp [intOf]; omega
      · have hb : ((s[k].toNat : Int) == 58) = false := by rw [beq_eq_false_iff_ne]; exact h
        by_cases hk0 : k = 0
        · have HF := Lib.hid (schN_bad HT.out.1 hlt (ne58 h) ⟨ha, .inl hk0⟩)
          have hb0 : ((k : Int) == 0) = true := by rw [beq_iff_eq]; omega
          have h1 : (s[k].toNat : Int) < 65 := by omega
          clear h ha hsc hr hk0 HT
          go_wp2_with fail
          go_ret
          exact ⟨ret_i64 (by rw [HF.out]; rfl), rfl⟩
        · have HN := Lib.hid (⟨HT.out.1.next hlt (ne58 h), preS_next hlt HT.out.2 (.inr ⟨by omega, hsc⟩)⟩ : noB s 58 (k + 1) ∧ _)
          have hb0 : ((k : Int) == 0) = false := by rw [beq_eq_false_iff_ne]; omega
          clear ha hsc HT hk0
          rcases hr with ⟨h1, h2⟩ | ⟨h1, h2⟩ | ⟨h1, h2⟩ | ⟨h1, h2⟩
          · have m1 : ((s[k].toNat : Int) != 43) = true := by rw [bne_iff_ne]; omega
            have m2 : ((s[k].toNat : Int) != 45) = true := by rw [bne_iff_ne]; omega
            have m3 : ((s[k].toNat : Int) != 46) = true := by rw [bne_iff_ne]; omega
            clear h
            go_wp2_with fail
            go_round
            case rel => exact ⟨k + 1, by omega, by go_num, HN.out⟩
            case measure => simp [intOf]; omega
          · have m1 : ((s[k].toNat : Int) != 43) = false := by rw [bne_eq_false_iff_eq]; omega
            clear h
            go_wp2_with fail
            go_round
            case rel => exact ⟨k + 1, by omega, by go_num, HN.out⟩
            case measure => simp [intOf]; omega
          · have m1 : ((s[k].toNat : Int) != 43) = true := by rw [bne_iff_ne]; omega
            have m2 : ((s[k].toNat : Int) != 45) = false := by rw [bne_eq_false_iff_eq]; omega
            clear h
            go_wp2_with fail
            go_round
            case rel => exact ⟨k + 1, by omega, by go_num, HN.out⟩
            case measure => simp [intOf]; omega
          · have m1 : ((s[k].toNat : Int) != 43) = true := by rw [bne_iff_ne]; omega
            have m2 : ((s[k].toNat : Int) != 45) = true := by rw [bne_iff_ne]; omega
            have m3 : ((s[k].toNat : Int) != 46) = false := by rw [bne_eq_false_iff_eq]; omega
            clear h
            go_wp2_with fail
            go_round
            case rel => exact ⟨k + 1, by omega, by go_num, HN.out⟩
            case measure => simp [intOf]; omega
      · have hb : ((s[k].toNat : Int) == 58) = false := by rw [beq_eq_false_iff_ne]; exact h
        have HF := Lib.hid (schN_bad HT.out.1 hlt (ne58 h) ⟨ha, .inr hsc⟩)
        have m1 : ((s[k].toNat : Int) != 43) = true := by rw [bne_iff_ne]; omega
        have m2 : ((s[k].toNat : Int) != 45) = true := by rw [bne_iff_ne]; omega
        have m3 : ((s[k].toNat : Int) != 46) = true := by rw [bne_iff_ne]; omega
        clear h ha hsc HT
        cases hb0 : ((k : Int) == 0)
        all_goals
          rcases hr with h1 | ⟨h1, h2⟩ | ⟨h1, h2⟩ | ⟨h1, h2⟩ | ⟨h1, h2⟩ | h1
          all_goals
            try have d1 : decide ((s[k].toNat : Int) ≤ 90) = false := decide_eq_false (by omega)
            try have d2 : decide ((s[k].toNat : Int) ≤ 122) = false := decide_eq_false (by omega)
            go_wp2_with fail
            go_ret
            exact ⟨ret_i64 (by rw [HF.out]; rfl), rfl⟩
    · have HF := Lib.hid (schN_none HT.out.1 hlt)
      clear HT
      go_wp2_with fail
      go_ret
      exact ⟨ret_i64 (by rw [HF.out]; rfl), rfl⟩
end Go.Proofs.YtekaiafhnnpkgaaGreatDoor
