/- The document's size line, head and tail. -/
import Derived.Test.YtoengnefdndgfaaDoorChunkL
import Derived.Deep.CutBlock
import Derived.Deep.DeepCutAuto
namespace Go.Proofs.YtoengnefdndgfaaDoor
open Go.RowKit

theorem cut59_hit {a r : List UInt8} (h : ∀ c ∈ a, c ≠ 59) : Lib.cut (a ++ 59 :: r) [59] = (a, r, true) := by
  rw [cut_hit (i := a.length) (by simp) ((occ_one _ _ _).2 (by simp)) fun j hj => ?_]
  · simp
  · cases ho : Lib.occAt (a ++ 59 :: r) [59] j
    · rfl
    · have h1 := (occ_one _ _ _).1 ho
      rw [List.getElem?_append_left hj, List.getElem?_eq_getElem hj] at h1
      exact absurd (Option.some.inj h1) (h _ (List.getElem_mem hj))
theorem cut59_miss {a : List UInt8} (h : ∀ c ∈ a, c ≠ 59) : Lib.cut a [59] = (a, [], false) := by
  refine cut_miss fun j _ => ?_
  cases ho : Lib.occAt a [59] j
  · rfl
  · have h1 := (occ_one _ _ _).1 ho
    exact absurd rfl (h 59 (List.mem_of_getElem? h1))
theorem hexB_no59 {c : UInt8} (h : hexB c = true) : c ≠ 59 := by
  rintro rfl
  exact absurd h (by decide)
theorem no59_of {l : List UInt8} (h : l.all hexB = true) : ∀ c ∈ l, c ≠ 59 := fun c hc => hexB_no59 (List.all_eq_true.1 h c hc)
/-- the digits reach to the end -/
theorem size_all {L : List UInt8} (h : L.all hexB = true) : sizeN L = if L.length = 0 ∨ 8 < L.length then none else some (hexN L) := by
  unfold sizeN
  rw [cut59_miss (no59_of h)]
  simp only [List.all_nil, and_true, h]
  by_cases h0 : L.length = 0 ∨ 8 < L.length
  · rw [if_pos h0, if_neg]
    rintro ⟨h1, h2⟩
    rcases h0 with h0 | h0
    · exact h1 (List.eq_nil_of_length_eq_zero h0)
    · omega
  · rw [if_neg h0, if_pos ⟨fun e => h0 (.inl (by rw [e]; rfl)), by omega⟩]
/-- the digits reach to a byte 59 -/
theorem size_ext {a r : List UInt8} (h : a.all hexB = true) : sizeN (a ++ 59 :: r) = if a.length = 0 ∨ 8 < a.length then none else if r.all ignB = true then some (hexN a) else none := by
  unfold sizeN
  rw [cut59_hit (no59_of h)]
  simp only [h]
  by_cases h0 : a.length = 0 ∨ 8 < a.length
  · rw [if_pos h0, if_neg]
    rintro ⟨h1, h2, _⟩
    rcases h0 with h0 | h0
    · exact h1 (List.eq_nil_of_length_eq_zero h0)
    · omega
  · rw [if_neg h0]
    by_cases hr : r.all ignB = true
    · rw [if_pos hr, if_pos ⟨fun e => h0 (.inl (by rw [e]; rfl)), by omega, trivial, hr⟩]
    · rw [if_neg hr, if_neg (fun h => hr h.2.2.2)]
/-- the digits reach to something else, or there are too many -/
theorem size_bad {a r : List UInt8} {c : UInt8} (h : a.all hexB = true) (hc : c ≠ 59) (hb : hexB c = false ∨ 8 ≤ a.length) : sizeN (a ++ c :: r) = none := by
  unfold sizeN
  rw [if_neg]
  rintro ⟨h1, h2, h3, h4⟩
  -- the part ahead of the first 59 begins with a and c
  have key : ∃ t, (Lib.cut (a ++ c :: r) [59]).1 = a ++ c :: t := by
    by_cases h59 : ∀ x ∈ r, x ≠ 59
    · refine ⟨r, ?_⟩
      rw [cut59_miss]
      intro x hx
      rcases List.mem_append.1 hx with hx | hx
      · exact no59_of h x hx
      · rcases List.mem_cons.1 hx with rfl | hx
        · exact hc
        · exact h59 x hx
    · obtain ⟨p, q, rfl, hp⟩ : ∃ p q, r = p ++ 59 :: q ∧ ∀ x ∈ p, x ≠ 59 := by
        clear h1 h2 h3 h4
        induction r with
        | nil => exact absurd (fun x hx => by cases hx) h59
        | cons y r ih =>
          by_cases hy : y = 59
          · exact ⟨[], r, by rw [hy]; rfl, fun x hx => by cases hx⟩
          · obtain ⟨p, q, e, hp⟩ := ih (fun hall => h59 fun x hx => by
              rcases List.mem_cons.1 hx with rfl | hx
              · exact hy
              · exact hall x hx)
            refine ⟨y :: p, q, by rw [e]; rfl, fun x hx => ?_⟩
            rcases List.mem_cons.1 hx with rfl | hx
            · exact hy
            · exact hp x hx
      refine ⟨p, ?_⟩
      rw [show a ++ c :: (p ++ 59 :: q) = (a ++ c :: p) ++ 59 :: q from by simp, cut59_hit]
      intro x hx
      rcases List.mem_append.1 hx with hx | hx
      · exact no59_of h x hx
      · rcases List.mem_cons.1 hx with rfl | hx
        · exact hc
        · exact hp x hx
  obtain ⟨t, ht⟩ := key
  rw [ht] at h2 h3
  rcases hb with hb | hb
  · rw [List.all_append, List.all_cons, hb] at h3
    simp at h3
  · rw [List.length_append, List.length_cons] at h2
    omega

def sizeI (o : Option Nat) : Int := match o with
  | none => -1
  | some n => n
/-- what the document's reader knows behind its first loop -/
def Digs (L : List UInt8) (k : Nat) : Prop := k ≤ L.length ∧ k ≤ 9 ∧ (L.take k).all hexB = true ∧ (∀ h : k < L.length, hexB L[k] = false ∨ k = 9)
theorem digs_end {L : List UInt8} {k : Nat} (h : Digs L k) (hk : k = L.length) : (L.take k) = L ∧ sizeN L = if k = 0 ∨ 8 < k then none else some (hexN (L.take k)) := by
  have e : L.take k = L := by rw [hk, List.take_length]
  have h1 := h.2.2.1
  rw [e] at h1 ⊢
  exact ⟨rfl, by rw [size_all h1, hk]⟩
theorem digs_split {L : List UInt8} {k : Nat} (hk : k < L.length) : L = L.take k ++ L[k] :: L.drop (k + 1) := by
  rw [← List.drop_eq_getElem_cons hk, List.take_append_drop]
theorem digs_ext {L : List UInt8} {k : Nat} (h : Digs L k) (hk : k < L.length) (h59 : L[k] = 59) : sizeN L = if k = 0 ∨ 8 < k then none else if (L.drop (k + 1)).all ignB = true then some (hexN (L.take k)) else none := by
  have h1 := size_ext (r := L.drop (k + 1)) h.2.2.1
  rw [← h59, ← digs_split hk] at h1
  rw [List.length_take] at h1
  rw [show min k L.length = k from by omega] at h1
  exact h1
theorem digs_bad {L : List UInt8} {k : Nat} (h : Digs L k) (hk : k < L.length) (h59 : L[k] ≠ 59) : sizeN L = none := by
  have h1 := size_bad (r := L.drop (k + 1)) h.2.2.1 h59 (by
    rcases h.2.2.2 hk with h2 | h2
    · exact .inl h2
    · exact .inr (by rw [List.length_take]; omega))
  rwa [← digs_split hk] at h1
theorem hexN_snoc (l : List UInt8) (c : UInt8) : hexN (l ++ [c]) = 16 * hexN l + hexD c := by unfold hexN; rw [List.foldl_append]; rfl
theorem hexN_take9 (L : List UInt8) (k : Nat) (h : k ≤ 9) : hexN (L.take k) < 68719476736 := by
  have h1 := hexN_lt (L.take k)
  have h2 : 16 ^ (L.take k).length ≤ 16 ^ 9 := Nat.pow_le_pow_right (by decide) (by rw [List.length_take]; omega)
  have h3 : (16 : Nat) ^ 9 = 68719476736 := by decide
  omega

set_option maxHeartbeats 4000000 in
set_option maxRecDepth 100000 in
theorem rsize_any (s : ByteArray) (w : World) (hs : s.size ≤ 1048576) :
    Calls Tryd.prog 24 #[.string s] w fun e w' => e = .returned (.int .i64 (sizeI (sizeN s.data.toList))) ∧ w = w' := by
  have HZ := Lib.hid (size_len s)
  have HAT : Hid (∀ k (h : k < s.size), s.data.toList[k]'(by have := size_len s; omega) = s[k]) := fun k h => by simp [ByteArray.getElem_eq_getElem_data]
  go_enter Tryd.func24, Tryd.ntmps24
  go_upto_block 0 with fail
  go_cut [3, 4] (fun n i wx => ∃ k : Nat, i = .int .i64 k ∧ n = .int .i64 (hexN (s.data.toList.take k)) ∧ Digs s.data.toList k ∧ wx = w)
  case first =>
    go_wp2_with fail
    go_loop [3, 4] (fun n i => ∃ k : Nat, i = .int .i64 k ∧ n = .int .i64 (hexN (s.data.toList.take k)) ∧ k ≤ s.size ∧ k ≤ 9 ∧ Hid ((s.data.toList.take k).all hexB = true)) (fun _ i => s.size - (intOf i).toNat)
    case atStart => exact ⟨0, rfl, rfl, Nat.zero_le _, by omega, rfl⟩
    case round =>
      obtain ⟨k, rfl, rfl, hk, hk9, HA⟩ := hrel
      have hx9 := hexN_take9 s.data.toList k hk9
      by_cases hlt : k < s.size
      · have hd := Lib.hid (HAT.out k hlt)
        have hc1 : (s[k].toNat : Int) ≤ 255 := by have := s[k].toNat_lt; omega
        cases hb : hexB s[k]
        · have hq : ¬ 0 ≤ hexI (s[k].toNat : Int) := of_decide_eq_false hb
          have HD : Hid (Digs s.data.toList k) := ⟨by have := HZ.out; omega, hk9, HA.out, fun h => .inl (by rw [hd.out]; exact hb)⟩
          have hcall := fun w => rhex_any (s[k].toNat : Int) w (by omega) hc1
          generalize hexI (s[k].toNat : Int) = q at hcall hq
          have HC := Lib.hid hcall
          clear hb hcall
          go_wp2_with (go_at_call 36; refine (HC.out _).mono ?_; rintro e w1 ⟨rfl, rfl⟩)
          go_meet
          exact ⟨k, rfl, rfl, HD.out, rfl⟩
        · have hq : 0 ≤ hexI (s[k].toNat : Int) := of_decide_eq_true hb
          have hq2 := hexI_lt (s[k].toNat : Int)
          have hcall := fun w => rhex_any (s[k].toNat : Int) w (by omega) hc1
          by_cases h9 : k = 9
          · have HD : Hid (Digs s.data.toList k) := ⟨by have := HZ.out; omega, hk9, HA.out, fun _ => .inr h9⟩
            have h9' : ¬ (k : Int) < 9 := by omega
            generalize hexI (s[k].toNat : Int) = q at hcall hq
            have HC := Lib.hid hcall
            clear hb hcall h9
            go_wp2_with (go_at_call 36; refine (HC.out _).mono ?_; rintro e w1 ⟨rfl, rfl⟩)
            go_meet
            exact ⟨k, rfl, rfl, HD.out, rfl⟩
          · have h9' : (k : Int) < 9 := by omega
            have HAA : Hid ((s.data.toList.take (k + 1)).all hexB = true) := all_snoc s hexB k hlt HA.out hb
            have HV : Hid (16 * (hexN (s.data.toList.take k) : Int) + hexI (s[k].toNat : Int) = (hexN (s.data.toList.take (k + 1)) : Int)) := by
              show _ = _
              rw [take_snoc s k hlt, hexN_snoc]
              unfold hexD
              push_cast
              omega
            generalize hexI (s[k].toNat : Int) = q at hcall hq hq2 HV
            have HC := Lib.hid hcall
            clear hb hcall
            generalize hexN (s.data.toList.take k) = nn at *
            go_wp2_with (go_at_call 36; refine (HC.out _).mono ?_; rintro e w1 ⟨rfl, rfl⟩)
            go_round
            case rel => exact ⟨k + 1, by go_num, by rw [HV.out], by omega, by omega, HAA⟩
            case measure => simp [intOf]; omega
      · have HD : Hid (Digs s.data.toList k) := ⟨by have := HZ.out; omega, hk9, HA.out, fun h => by have := HZ.out; omega⟩
        go_wp2_with fail
        go_meet
        exact ⟨k, rfl, rfl, HD.out, rfl⟩
  case rest =>
    obtain ⟨k, rfl, rfl, hd, rfl⟩ := hcut
    have hk9 := hd.2.1
    have hkl : k ≤ s.size := by have := hd.1; have := HZ.out; omega
    have hend := fun h => digs_end hd h
    have hext := fun h => digs_ext hd h
    have hbad := fun h => digs_bad hd h
    have hnone : k = 0 ∨ 8 < k → sizeN s.data.toList = none := by
      intro h
      by_cases hlt : k < s.data.toList.length
      · by_cases h59 : s.data.toList[k] = 59
        · rw [hext hlt h59, if_pos h]
        · exact hbad hlt h59
      · rw [(hend (by have := hd.1; omega)).2, if_pos h]
    generalize hexN (s.data.toList.take k) = N at hend hext ⊢
    have HEND := Lib.hid hend; have HEXT := Lib.hid hext; have HBAD := Lib.hid hbad
    clear hend hext hbad hd
    by_cases h0 : k = 0
    · have HR := Lib.hid (hnone (.inl h0))
      subst h0
      clear hnone
      go_wp2_with fail
      go_ret
      exact ⟨ret_i (by rw [HR.out]; rfl), rfl⟩
    · have h0' : ((k : Int) == 0) = false := beq_eq_false_iff_ne.2 (by omega)
      by_cases h8 : 8 < k
      · have HR := Lib.hid (hnone (.inr h8))
        have h8' : 8 < (k : Int) := by omega
        clear hnone h8
        go_wp2_with fail
        go_ret
        exact ⟨ret_i (by rw [HR.out]; rfl), rfl⟩
      · have h8' : ¬ 8 < (k : Int) := by omega
        have hno : ¬ (k = 0 ∨ 8 < k) := by omega
        clear hnone
        by_cases hlt : k < s.size
        · have hl2 := HZ.out
          have hcq := HAT.out k hlt
          by_cases h59 : s[k] = 59
          · have hx := HEXT.out (by omega) (by rw [hcq]; exact h59)
            rw [if_neg hno] at hx
            have HX := Lib.hid hx
            have h59' : ((s[k].toNat : Int) != 59) = false := by rw [h59]; rfl
            clear hx hl2 hcq h59 hno HEND HEXT HBAD h8 h0
            go_wp2_with fail
            go_loop [5] (fun i => ∃ j : Nat, i = .int .i64 j ∧ k + 1 ≤ j ∧ j ≤ s.size ∧ Hid (((s.data.toList.drop (k + 1)).take (j - (k + 1))).all ignB = true)) (fun i => s.size - (intOf i).toNat)
            case atStart => exact ⟨k + 1, by go_num, Nat.le_refl _, by omega, by show _ = _; rw [Nat.sub_self]; rfl⟩
            case round =>
              obtain ⟨j, rfl, hj1, hj2, HT⟩ := hrel
              by_cases hjl : j < s.size
              · have hget : (s.data.toList.drop (k + 1))[j - (k + 1)]'(by have := HZ.out; rw [List.length_drop]; omega) = s[j] := by
                  rw [List.getElem_drop]
                  have := HAT.out j hjl
                  rw [← this]
                  congr 1
                  omega
                have hc1 : (s[j].toNat : Int) < 256 := by have := s[j].toNat_lt; omega
                cases hb : ignB s[j]
                · have HA : Hid ((s.data.toList.drop (k + 1)).all ignB = false) := by
                    show _ = _
                    rw [← Bool.not_eq_true, List.all_eq_true]
                    intro H
                    have := H _ (List.getElem_mem (show j - (k + 1) < (s.data.toList.drop (k + 1)).length by have := HZ.out; rw [List.length_drop]; omega))
                    rw [hget, hb] at this
                    exact absurd this (by decide)
                  have HR : Hid (sizeN s.data.toList = none) := by show _ = _; rw [HX.out, HA.out]; rfl
                  have h1 : ((s[j].toNat : Int) != 9) = true := by unfold ignB ignI at hb; simp at hb ⊢; omega
                  have h2 : (s[j].toNat : Int) < 32 ∨ (¬ (s[j].toNat : Int) < 32 ∧ 126 < (s[j].toNat : Int)) := by unfold ignB ignI at hb; simp at hb; omega
                  clear hb hget
                  rcases h2 with h2 | ⟨h2, h3⟩
                  all_goals
                    go_wp2_with fail
                    go_ret
                    exact ⟨ret_i (by rw [HR.out]; rfl), rfl⟩
                · have HA : Hid (((s.data.toList.drop (k + 1)).take (j + 1 - (k + 1))).all ignB = true) := by
                    show _ = _
                    rw [show j + 1 - (k + 1) = j - (k + 1) + 1 from by omega, List.take_succ_eq_append_getElem (by have := HZ.out; rw [List.length_drop]; omega), List.all_append, HT.out, hget]
                    simp [hb]
                  have h2 : (s[j].toNat : Int) = 9 ∨ (((s[j].toNat : Int) != 9) = true ∧ ¬ (s[j].toNat : Int) < 32 ∧ ¬ 126 < (s[j].toNat : Int)) := by unfold ignB ignI at hb; simp at hb ⊢; omega
                  clear hb hget
                  rcases h2 with h2 | ⟨h2, h3, h4⟩
                  · have h3 : ((s[j].toNat : Int) != 9) = false := by rw [h2]; rfl
                    clear h2
                    go_wp2_with fail
                    go_round
                    case rel => exact ⟨j + 1, by go_num, by omega, by omega, HA⟩
                    case measure => simp [intOf]; omega
                  · go_wp2_with fail
                    go_round
                    case rel => exact ⟨j + 1, by go_num, by omega, by omega, HA⟩
                    case measure => simp [intOf]; omega
              · have HR : Hid (sizeN s.data.toList = some N) := by
                  show _ = _
                  have ht := HT.out
                  rw [List.take_of_length_le (by have := HZ.out; rw [List.length_drop]; omega)] at ht
                  rw [HX.out, if_pos ht]
                go_wp2_with fail
                go_ret
                exact ⟨ret_i (by rw [HR.out]; rfl), rfl⟩
          · have HR := Lib.hid (HBAD.out (by omega) (by rw [hcq]; exact h59))
            have h59' : ((s[k].toNat : Int) != 59) = true := by rw [bne_iff_ne]; intro e; exact h59 (UInt8.toNat_inj.1 (by simpa using (by omega : s[k].toNat = 59)))
            clear hl2 hcq h59 hno HEND HEXT HBAD h8 h0
            go_wp2_with fail
            go_ret
            exact ⟨ret_i (by rw [HR.out]; rfl), rfl⟩
        · have hx := (HEND.out (by have := HZ.out; omega)).2
          rw [if_neg hno] at hx
          have HR := Lib.hid hx
          have hks : k = s.size := by omega
          clear hx hno HEND HEXT HBAD h8 h0
          subst hks
          go_wp2_with fail
          go_loop [5] (fun i => i = .int .i64 ((s.size + 1 : Nat) : Int)) (fun _ => 0)
          case atStart => go_num
          case round =>
            obtain rfl := hrel
            go_wp2_with fail
            go_ret
            exact ⟨ret_i (by rw [HR.out]; rfl), rfl⟩
end Go.Proofs.YtoengnefdndgfaaDoor
