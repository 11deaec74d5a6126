/- Which lists of fields may be: the fields layer's Check, and the document's own. -/
import Derived.Test.YtilaalfehnngcaaFieldsB
namespace Go.Proofs.Ytilaalfehnngcaa
open Go.RowKit

/-- no field of a list is too long to be read -/
def smallF (l : List Fld) : Prop := ∀ j (hj : j < l.length), l[j].1.length ≤ 4294967296 ∧ l[j].2.length ≤ 4294967296

set_option maxHeartbeats 800000 in
theorem check_any (v : Value) (l : List Fld) (w : World) (h : FL w v l) (hs : smallF l) (hl : l.length ≤ 4294967296) :
    Calls Try.prog 10 #[v] w fun e w' => e = .returned (.int .i64 (checkL l)) ∧ Below w.heap.size w w' := by
  obtain ⟨A, c, rfl⟩ := h.form
  have HF := Lib.hid h; clear h
  by_cases h64 : 64 < l.length
  · have HC : Hid (checkL l = 3) := by show _ = _; unfold checkL; rw [if_pos h64]
    have h64' : (64 : Int) < (l.length : Int) := by omega
    go_enter Try.func10, Try.ntmps10
    go_wp2_with fail
    go_ret
    exact ⟨by rw [HC.out]; rfl, Below.refl _ _⟩
  · have HC : Hid (checkL l = firstE l) := by show _ = _; unfold checkL; rw [if_neg h64]
    have h64' : ¬ (64 : Int) < (l.length : Int) := by omega
    go_enter Try.func10, Try.ntmps10
    go_wp2_with fail
    go_loopw [11] (fun i wr => ∃ k : Nat, k ≤ l.length ∧ i = .int .i64 k ∧ firstE (l.drop k) = firstE l ∧ Below w.heap.size w wr) (fun i _ => l.length - (intOf i).toNat)
    case atStart => exact ⟨0, Nat.zero_le _, rfl, rfl, Below.refl _ _⟩
    case round =>
      obtain ⟨k, hk, rfl, hq, hb⟩ := hrel
      have HQ := Lib.hid hq; have HB := Lib.hid hb; clear hq hb
      by_cases hlt : k < l.length
      · obtain ⟨b, off, rfl, hbb, hc1, hc2⟩ := (HF.out.bel HB.out).get k hlt
        obtain ⟨s1, s2⟩ := hs k hlt
        have hcf := fun w => checkField_any l[k] w s1 s2
        have HG : Hid (chkF l[k] = 0 → firstE (l.drop (k + 1)) = firstE l) := fun hz => by rw [← HQ.out, firstE_step hlt hz]
        have HS : Hid (¬ chkF l[k] = 0 → chkF l[k] = firstE l) := fun hz => by rw [← HQ.out, firstE_stop hlt hz]
        generalize l[k] = f at *
        unfold fv at hcf
        generalize chkF f = E at *
        have HCF := Lib.hid hcf; clear hcf
        by_cases hz : E = 0
        · have hz2 : (E != 0) = false := by simp [hz]
          have HN := Lib.hid (HG.out hz); clear hz
          go_wp2_with (go_at_call 30; refine (HCF.out _).mono ?_; rintro e w1 ⟨rfl, hb1⟩)
          go_roundw
          case rel => exact ⟨k + 1, by omega, by go_num, HN.out, (HB.out.alloc HB.out.size _).trans (hb1.mono (by have := HB.out.size; simp; omega))⟩
          case measure => simp [intOf]; omega
        · have hz2 : (E != 0) = true := by simp [hz]
          have HN := Lib.hid (HS.out hz); clear hz
          go_wp2_with (go_at_call 30; refine (HCF.out _).mono ?_; rintro e w1 ⟨rfl, hb1⟩)
          go_ret
          exact ⟨ret_i64 (by rw [HC.out, ← HN.out]), (HB.out.alloc HB.out.size _).trans (hb1.mono (by have := HB.out.size; simp; omega))⟩
      · have HN : Hid (firstE l = 0) := by rw [← HQ.out, List.drop_of_length_le (by omega)]; rfl
        go_wp2_with fail
        go_ret
        exact ⟨by rw [HC.out, HN.out]; rfl, HB.out⟩

set_option maxHeartbeats 400000 in
theorem rlong_any (f : Fld) (w : World) (h1 : f.1.length ≤ 4294967296) (h2 : f.2.length ≤ 4294967296) :
    Calls Try.prog 32 #[fv f] w fun e w' => e = .returned (.bool (longF f)) ∧ Below w.heap.size w w' := by
  obtain ⟨n, v⟩ := f; simp only at h1 h2
  unfold fv longF lenF
  simp only
  go_enter Try.func32, Try.ntmps32
  go_wp2_with fail
  go_ret
  exact ⟨ret_bool (by rw [decide_eq_decide]; omega), (Below.refl _ _).alloc (Nat.le_refl _) _⟩

set_option maxHeartbeats 1000000 in
theorem rmay_s (n : List UInt8) (s : ByteArray) (w : World) (h1 : n.length ≤ 4294967296) (hs : s.size ≤ 4294967296) :
    Calls Try.prog 31 #[.agg #[.string (bs n), .string s]] w fun e w' => e = .returned (.bool (token n && valV s.data.toList)) ∧ Below w.heap.size w w' := by
  have ht := fun w => rtoken_any (bs n) w (by rw [bs_size]; unfold maxLen; omega)
  rw [bs_data] at ht
  generalize token n = T at *
  have HT := Lib.hid ht; clear ht
  go_enter Try.func31, Try.ntmps31
  go_wp2_with fail
  go_loop [4] (fun i => ∃ k : Nat, k ≤ s.size ∧ i = .int .i64 k ∧ upTo s k) (fun i => s.size - (intOf i).toNat)
  case atStart => exact ⟨0, Nat.zero_le _, rfl, upTo_zero s⟩
  case round =>
    obtain ⟨k, hk, rfl, ht⟩ := hrel
    have HU := Lib.hid ht; clear ht
    by_cases hlt : k < s.size
    · cases hm : mayI (s[k].toNat : Int)
      · have HV := Lib.hid (valV_byte hlt hm)
        have hq : ((s[k].toNat : Int) == 127) = true ∨ (((s[k].toNat : Int) == 127) = false ∧ (s[k].toNat : Int) < 32 ∧ ((s[k].toNat : Int) != 9) = true) := by
          unfold mayI at hm; simp at hm ⊢; omega
        clear hm
        rcases hq with hq | ⟨hq, hq2, hq3⟩
        all_goals
          go_wp2_with fail
          go_ret
          exact ⟨ret_bool (by rw [HV.out, Bool.and_false]), (Below.refl _ _).alloc (Nat.le_refl _) _⟩
      · have hq : (((s[k].toNat : Int) == 127) = false ∧ (s[k].toNat : Int) < 32 ∧ ((s[k].toNat : Int) != 9) = false) ∨ (((s[k].toNat : Int) == 127) = false ∧ ¬ (s[k].toNat : Int) < 32) := by
          unfold mayI at hm; simp at hm ⊢; omega
        have hp : (((k : Int) == 0) = true ∧ k = 0) ∨ (((k : Int) == 0) = false ∧ ((k : Int) == (s.size : Int) - 1) = true ∧ k + 1 = s.size ∧ ¬ k = 0) ∨ (((k : Int) == 0) = false ∧ ((k : Int) == (s.size : Int) - 1) = false ∧ ¬ k = 0 ∧ ¬ k + 1 = s.size) := by
          simp; omega
        have hbl : (blankB s[k] = true ∧ (((s[k].toNat : Int) == 32) = true ∨ (((s[k].toNat : Int) == 32) = false ∧ ((s[k].toNat : Int) == 9) = true))) ∨ (blankB s[k] = false ∧ ((s[k].toNat : Int) == 32) = false ∧ ((s[k].toNat : Int) == 9) = false) := by
          cases hb : blankB s[k]
          · exact .inr ⟨rfl, blankI_no hb⟩
          · exact .inl ⟨rfl, blankI_or hb⟩
        rcases hp with ⟨hp, rfl⟩ | ⟨hp, hp2, hp3, hp4⟩ | ⟨hp, hp2, hp3, hp4⟩
        · rcases hbl with ⟨hb, hb2⟩ | ⟨hb, hb2, hb3⟩
          · have HV := Lib.hid (valV_first hlt hb)
            clear hb hm
            rcases hq with ⟨q1, q2, q3⟩ | ⟨q1, q2⟩
            all_goals
              rcases hb2 with hb2 | ⟨hb2, hb3⟩
              all_goals
                go_wp2_with fail
                go_ret
                exact ⟨ret_bool (by rw [HV.out, Bool.and_false]), (Below.refl _ _).alloc (Nat.le_refl _) _⟩
          · have HN := Lib.hid (upTo_next HU.out hlt hm (fun _ => hb) (fun _ => hb))
            clear hb hm
            rcases hq with ⟨q1, q2, q3⟩ | ⟨q1, q2⟩
            all_goals
              go_wp2_with fail
              go_round
              case rel => exact ⟨1, by omega, by go_num, HN.out⟩
              case measure => simp [intOf]; omega
        · rcases hbl with ⟨hb, hb2⟩ | ⟨hb, hb2, hb3⟩
          · have hx : s.size - 1 = k := by omega
            have HV := Lib.hid (valV_last (v := s) (by omega) (by simp only [hx]; exact hb))
            clear hb hm hx
            rcases hq with ⟨q1, q2, q3⟩ | ⟨q1, q2⟩
            all_goals
              rcases hb2 with hb2 | ⟨hb2, hb3⟩
              all_goals
                go_wp2_with fail
                go_ret
                exact ⟨ret_bool (by rw [HV.out, Bool.and_false]), (Below.refl _ _).alloc (Nat.le_refl _) _⟩
          · have HN := Lib.hid (upTo_next HU.out hlt hm (fun _ => hb) (fun _ => hb))
            clear hb hm
            rcases hq with ⟨q1, q2, q3⟩ | ⟨q1, q2⟩
            all_goals
              go_wp2_with fail
              go_round
              case rel => exact ⟨k + 1, by omega, by go_num, HN.out⟩
              case measure => simp [intOf]; omega
        · have HN := Lib.hid (upTo_next HU.out hlt hm (fun h => absurd h hp3) (fun h => absurd h hp4))
          clear hbl hm
          rcases hq with ⟨q1, q2, q3⟩ | ⟨q1, q2⟩
          all_goals
            go_wp2_with fail
            go_round
            case rel => exact ⟨k + 1, by omega, by go_num, HN.out⟩
            case measure => simp [intOf]; omega
    · have HV : Hid (valV s.data.toList = true) := by
        have e : k = s.size := by omega
        have h := HU.out
        rw [e] at h
        exact upTo_end h
      go_wp2_with (go_at_call 50; refine (HT.out _).mono ?_; rintro e w' ⟨rfl, rfl⟩)
      go_ret
      exact ⟨ret_bool (by rw [HV.out, Bool.and_true]), (Below.refl _ _).alloc (Nat.le_refl _) _⟩
theorem rmay_any (f : Fld) (w : World) (h1 : f.1.length ≤ 4294967296) (h2 : f.2.length ≤ 4294967296) :
    Calls Try.prog 31 #[fv f] w fun e w' => e = .returned (.bool (mayF f)) ∧ Below w.heap.size w w' := by
  have := rmay_s f.1 (bs f.2) w h1 (by rw [bs_size]; exact h2)
  rwa [bs_data] at this

set_option maxHeartbeats 800000 in
theorem rcheck_any (v : Value) (l : List Fld) (w : World) (h : FL w v l) (hs : smallF l) (hl : l.length ≤ 4294967296) :
    Calls Try.prog 11 #[v] w fun e w' => e = .returned (.int .i64 (checkL l)) ∧ Below w.heap.size w w' := by
  obtain ⟨A, c, rfl⟩ := h.form
  have HF := Lib.hid h; clear h
  by_cases h64 : 64 < l.length
  · have HC : Hid (checkL l = 3) := by show _ = _; unfold checkL; rw [if_pos h64]
    have h64' : (64 : Int) < (l.length : Int) := by omega
    go_enter Try.func11, Try.ntmps11
    go_wp2_with fail
    go_ret
    exact ⟨by rw [HC.out]; rfl, Below.refl _ _⟩
  · have HC : Hid (checkL l = firstE l) := by show _ = _; unfold checkL; rw [if_neg h64]
    have h64' : ¬ (64 : Int) < (l.length : Int) := by omega
    go_enter Try.func11, Try.ntmps11
    go_wp2_with fail
    go_loopw [3] (fun i wr => ∃ k : Nat, k ≤ l.length ∧ i = .int .i64 k ∧ firstE (l.drop k) = firstE l ∧ Below w.heap.size w wr) (fun i _ => l.length - (intOf i).toNat)
    case atStart => exact ⟨0, Nat.zero_le _, rfl, rfl, Below.refl _ _⟩
    case round =>
      obtain ⟨k, hk, rfl, hq, hb⟩ := hrel
      have HQ := Lib.hid hq; have HB := Lib.hid hb; clear hq hb
      by_cases hlt : k < l.length
      · obtain ⟨b, off, rfl, hbb, hc1, hc2⟩ := (HF.out.bel HB.out).get k hlt
        obtain ⟨s1, s2⟩ := hs k hlt
        have hmf := fun w => rmay_any l[k] w s1 s2
        have hlf := fun w => rlong_any l[k] w s1 s2
        have hcs := chkF_cases l[k]
        have HG : Hid (chkF l[k] = 0 → firstE (l.drop (k + 1)) = firstE l) := fun hz => by rw [← HQ.out, firstE_step hlt hz]
        have HS : Hid (¬ chkF l[k] = 0 → chkF l[k] = firstE l) := fun hz => by rw [← HQ.out, firstE_stop hlt hz]
        generalize l[k] = f at *
        unfold fv at hmf hlf
        rcases hcs with ⟨m1, m3⟩ | ⟨m1, m2, m3⟩ | ⟨m1, m2, m3⟩
        · rw [m1] at hmf
          have HN := Lib.hid (HS.out (by rw [m3]; decide)); rw [m3] at HN
          have HMF := Lib.hid hmf; clear hmf hlf m1 m3
          go_wp2_with (go_at_call 31; refine (HMF.out _).mono ?_; rintro e w1 ⟨rfl, hb1⟩)
          go_ret
          exact ⟨by rw [HC.out, ← HN.out]; rfl, HB.out.trans (hb1.mono HB.out.size)⟩
        all_goals
          rw [m1] at hmf
          rw [m2] at hlf
          have HMF := Lib.hid hmf; have HLF := Lib.hid hlf; clear hmf hlf m1 m2
        · have HN := Lib.hid (HS.out (by rw [m3]; decide)); rw [m3] at HN; clear m3
          go_wp2_with (first | (go_at_call 31; refine (HMF.out _).mono ?_; rintro e w1 ⟨rfl, hb1⟩; have hd1 := (hb1.cell (p := ⟨b, off + k * 2, none⟩) hbb).trans hc1; have hd2 := (hb1.cell (p := ⟨b, off + k * 2 + 1, none⟩) hbb).trans hc2) | (go_at_call 32; refine (HLF.out _).mono ?_; rintro e w2 ⟨rfl, hb2⟩))
          go_ret
          exact ⟨by rw [HC.out, ← HN.out]; rfl, (HB.out.trans (hb1.mono HB.out.size)).trans (hb2.mono (by have := hb1.size; have := HB.out.size; omega))⟩
        · have HN := Lib.hid (HG.out m3); clear m3
          go_wp2_with (first | (go_at_call 31; refine (HMF.out _).mono ?_; rintro e w1 ⟨rfl, hb1⟩; have hd1 := (hb1.cell (p := ⟨b, off + k * 2, none⟩) hbb).trans hc1; have hd2 := (hb1.cell (p := ⟨b, off + k * 2 + 1, none⟩) hbb).trans hc2) | (go_at_call 32; refine (HLF.out _).mono ?_; rintro e w2 ⟨rfl, hb2⟩))
          go_roundw
          case rel => exact ⟨k + 1, by omega, by go_num, HN.out, (HB.out.trans (hb1.mono HB.out.size)).trans (hb2.mono (by have := hb1.size; have := HB.out.size; omega))⟩
          case measure => simp [intOf]; omega
      · have HN : Hid (firstE l = 0) := by rw [← HQ.out, List.drop_of_length_le (by omega)]; rfl
        go_wp2_with fail
        go_ret
        exact ⟨by rw [HC.out, HN.out]; rfl, HB.out⟩
end Go.Proofs.Ytilaalfehnngcaa
