/- The document's own answers: a URI's text, whether it may be, and what is put. -/
import Derived.Test.YtnpiaifkeddjeaaGreatDoorKUriL
namespace Go.Proofs.YtnpiaifkeddjeaaGreatDoor
open Go.RowKit

theorem textD_P (s h n p : List UInt8) : bs s ++ ⟨#[58, 47, 47]⟩ ++ bs h ++ ⟨#[58]⟩ ++ bs n ++ bs p = bs (s ++ ([58, 47, 47] ++ (h ++ (58 :: n ++ (p ++ []))))) := bs_of (by simp)
theorem textD_PQ (s h n p q : List UInt8) : bs s ++ ⟨#[58, 47, 47]⟩ ++ bs h ++ ⟨#[58]⟩ ++ bs n ++ bs p ++ ⟨#[63]⟩ ++ bs q = bs (s ++ ([58, 47, 47] ++ (h ++ (58 :: n ++ (p ++ 63 :: q))))) := bs_of (by simp)
theorem textD_N (s h p : List UInt8) : bs s ++ ⟨#[58, 47, 47]⟩ ++ bs h ++ bs p = bs (s ++ ([58, 47, 47] ++ (h ++ ([] ++ (p ++ []))))) := bs_of (by simp)
theorem textD_Q (s h p q : List UInt8) : bs s ++ ⟨#[58, 47, 47]⟩ ++ bs h ++ bs p ++ ⟨#[63]⟩ ++ bs q = bs (s ++ ([58, 47, 47] ++ (h ++ ([] ++ (p ++ 63 :: q))))) := bs_of (by simp)

set_option maxHeartbeats 1000000 in
set_option maxRecDepth 100000 in
theorem utext_any (u : Ur) (w : World) (hu : u.okW) (hp0 : 0 ≤ u.po) (hp1 : u.po ≤ 65535) :
    Calls Tryz.prog 52 #[.agg #[.string (bs u.sc), .string (bs u.ho), .int .i64 u.po, .string (bs u.pa), .string (bs u.qu), .bool u.hq]] w fun r w' => r = .returned (.string (bs u.text)) ∧ Below w.heap.size w w' := by
  obtain ⟨sc, ho, po, pa, qu, hq⟩ := u
  obtain ⟨hlen, -, -⟩ := hu
  simp only at hlen hp0 hp1 ⊢
  have hT : Ur.text ⟨sc, ho, po, pa, qu, hq⟩ = sc ++ ([58, 47, 47] ++ (ho ++ ((if po = 0 then [] else 58 :: Lib.itoa po) ++ (pa ++ if hq then 63 :: qu else [])))) := rfl
  rw [hT]
  clear hT
  have hal : Below w.heap.size w (w.alloc (.cells #[.string (bs sc), .string (bs ho), .int .i64 po, .string (bs pa), .string (bs qu), .bool hq] 23)) := (Below.refl _ _).alloc (Nat.le_refl _) _
  by_cases h0 : po = 0
  · subst h0
    simp only [if_true]
    have HAL := Lib.hid hal; clear hal
    cases hq
    · go_enter Tryz.func52, Tryz.ntmps52
      go_wp2_with fail
      go_ret
      exact ⟨ret_str (by rw [textD_N]; simp), HAL.out⟩
    · go_enter Tryz.func52, Tryz.ntmps52
      go_wp2_with fail
      go_ret
      exact ⟨ret_str (by rw [textD_Q]; simp), HAL.out⟩
  · have hpo : 0 < po := by omega
    rw [if_neg h0]
    clear h0
    have hit := udig_any po (w.alloc (.cells #[.string (bs sc), .string (bs ho), .int .i64 po, .string (bs pa), .string (bs qu), .bool hq] 23)) hp0 (by omega)
    have hbk := ubk.new w #[.string (bs sc), .string (bs ho), .int .i64 po, .string (bs pa), .string (bs qu), .bool hq] 23
    have hil : (Lib.itoa po).length ≤ 21 := Lib.itoa_length_le po (by omega) (by omega)
    generalize Lib.itoa po = n at *
    have HIT := Lib.hid hit; have HBK := Lib.hid hbk; have HAL := Lib.hid hal; clear hit hbk hal
    cases hq
    · go_enter Tryz.func52, Tryz.ntmps52
      go_wp2_with fail
      refine HIT.out.mono ?_
      rintro r w1 ⟨rfl, hb1⟩
      have hbk1 := HBK.out.below hb1
      have c3 := hbk1.cell 3 _ rfl
      have c5 := hbk1.cell 5 _ rfl
      have HB := Lib.hid (HAL.out.trans (hb1.mono HAL.out.size)); clear hb1 hbk1
      go_wp2_with fail
      go_ret
      exact ⟨ret_str (by rw [textD_P]; simp), HB.out⟩
    · go_enter Tryz.func52, Tryz.ntmps52
      go_wp2_with fail
      refine HIT.out.mono ?_
      rintro r w1 ⟨rfl, hb1⟩
      have hbk1 := HBK.out.below hb1
      have c3 := hbk1.cell 3 _ rfl
      have c4 := hbk1.cell 4 _ rfl
      have c5 := hbk1.cell 5 _ rfl
      have HB := Lib.hid (HAL.out.trans (hb1.mono HAL.out.size)); clear hb1 hbk1
      go_wp2_with fail
      go_ret
      exact ⟨ret_str (by rw [textD_PQ]; simp), HB.out⟩

theorem usual_ne (s : List UInt8) : (s = schH ∧ (usual s != 0) = true) ∨ (s ≠ schH ∧ s = schS ∧ (usual s != 0) = true) ∨ (s ≠ schH ∧ s ≠ schS ∧ (usual s != 0) = false) := by
  unfold usual
  by_cases h1 : s = schH
  · exact .inl ⟨h1, by rw [if_pos h1]; rfl⟩
  · by_cases h2 : s = schS
    · exact .inr (.inl ⟨h1, h2, by rw [if_neg h1, if_pos h2]; rfl⟩)
    · exact .inr (.inr ⟨h1, h2, by rw [if_neg h1, if_neg h2]; rfl⟩)
theorem formed_eqD (sc ho : List UInt8) (po : Int) (pa qu : List UInt8) (hq : Bool) : Ur.formed ⟨sc, ho, po, pa, qu, hq⟩ = ((usual sc != 0) && (hostOk ho && (decide (0 ≤ po) && (decide (po ≤ 65535) && ((Lib.hasPrefix pa [47] && made pathM pa) && (made queryM qu && (hq || qu.isEmpty))))))) := by
  have h : Ur.formed ⟨sc, ho, po, pa, qu, hq⟩ = ((usual sc != 0) && (hostOk ho && (decide (0 ≤ po) && (decide (po ≤ 65535) && (Lib.hasPrefix pa [47] && (made pathM pa && (made queryM qu && (hq || qu.isEmpty)))))))) := rfl
  rw [h, Bool.and_assoc (Lib.hasPrefix pa [47])]

set_option maxHeartbeats 4000000 in
set_option maxRecDepth 100000 in
theorem ucheck_any (u : Ur) (w : World) (hu : u.okW) :
    Calls Tryz.prog 30 #[.agg #[.string (bs u.sc), .string (bs u.ho), .int .i64 u.po, .string (bs u.pa), .string (bs u.qu), .bool u.hq]] w fun r w' => r = .returned (.int .i64 u.check) ∧ Below w.heap.size w w' := by
  have HT := Lib.hid (fun W (h0 : 0 ≤ u.po) (h1 : u.po ≤ 65535) => utext_any u W hu h0 h1)
  have hck : u.check = if u.formed then (if 1024 < u.text.length then 3 else 0) else 4 := rfl
  rw [hck]
  clear hck
  have hlen := hu.len
  have hal : Below w.heap.size w (w.alloc (.cells #[.string (bs u.sc), .string (bs u.ho), .int .i64 u.po, .string (bs u.pa), .string (bs u.qu), .bool u.hq] 23)) := (Below.refl _ _).alloc (Nat.le_refl _) _
  clear hu
  generalize u.text = t at *
  obtain ⟨sc, ho, po, pa, qu, hq⟩ := u
  rw [formed_eqD]
  simp only at HT hlen hal ⊢
  have HH := Lib.hid (fun w => uhost_any (bs ho) w (by rw [bs_size]; omega))
  rw [bs_data] at HH
  have HP := Lib.hid (fun w => upath_any pa w (by omega))
  have HQ := Lib.hid (fun w => uquery_any qu w (by omega))
  have HQE : Hid (((bs qu).toList == []) = qu.isEmpty) := by show _ = _; rw [beq_lit]; cases qu <;> rfl
  have HQE2 : Hid ((bs qu).toList.isEmpty = qu.isEmpty) := by show _ = _; rw [Lib.toList_data, bs_data]
  have hz : (bs t).size = t.length := bs_size t
  have hus := usual_ne sc
  generalize (usual sc != 0) = b1 at *
  generalize hostOk ho = b2 at *
  generalize (Lib.hasPrefix pa [47] && made pathM pa) = b5 at *
  generalize made queryM qu = b6 at *
  have HAL := Lib.hid hal; clear hal hlen
  rcases hus with ⟨h1, rfl⟩ | ⟨h1, h2, rfl⟩ | ⟨h1, h2, rfl⟩
  · have q1 : ((bs sc).toList == [104, 116, 116, 112]) = true := by rw [beq_lit, h1]; rfl
    clear h1
    simp only [Bool.true_and]
    cases b2
    · simp only [Bool.false_and, Bool.false_eq_true, if_false]
      go_enter Tryz.func30, Tryz.ntmps30
      go_wp2_with (first | (go_at_call 49; refine (HH.out _).mono ?_; rintro e w' ⟨rfl, rfl⟩) | (go_at_call 50; refine (HP.out _).mono ?_; rintro e w' ⟨rfl, rfl⟩) | (go_at_call 51; refine (HQ.out _).mono ?_; rintro e w' ⟨rfl, rfl⟩))
      go_ret
      exact ⟨rfl, HAL.out⟩
    · simp only [Bool.true_and]
      rcases Decidable.em (¬ (0 ≤ po)) with d3 | d3
      · rw [decide_eq_false d3]
        simp only [Bool.false_and, Bool.false_eq_true, if_false]
        go_enter Tryz.func30, Tryz.ntmps30
        go_wp2_with (first | (go_at_call 49; refine (HH.out _).mono ?_; rintro e w' ⟨rfl, rfl⟩) | (go_at_call 50; refine (HP.out _).mono ?_; rintro e w' ⟨rfl, rfl⟩) | (go_at_call 51; refine (HQ.out _).mono ?_; rintro e w' ⟨rfl, rfl⟩))
        go_ret
        exact ⟨rfl, HAL.out⟩
      · replace d3 := Decidable.not_not.1 d3
        rw [decide_eq_true d3]
        simp only [Bool.true_and]
        rcases Decidable.em (¬ (po ≤ 65535)) with d4 | d4
        · rw [decide_eq_false d4]
          simp only [Bool.false_and, Bool.false_eq_true, if_false]
          go_enter Tryz.func30, Tryz.ntmps30
          go_wp2_with (first | (go_at_call 49; refine (HH.out _).mono ?_; rintro e w' ⟨rfl, rfl⟩) | (go_at_call 50; refine (HP.out _).mono ?_; rintro e w' ⟨rfl, rfl⟩) | (go_at_call 51; refine (HQ.out _).mono ?_; rintro e w' ⟨rfl, rfl⟩))
          go_ret
          exact ⟨rfl, HAL.out⟩
        · replace d4 := Decidable.not_not.1 d4
          rw [decide_eq_true d4]
          simp only [Bool.true_and]
          cases b5
          · simp only [Bool.false_and, Bool.false_eq_true, if_false]
            go_enter Tryz.func30, Tryz.ntmps30
            go_wp2_with (first | (go_at_call 49; refine (HH.out _).mono ?_; rintro e w' ⟨rfl, rfl⟩) | (go_at_call 50; refine (HP.out _).mono ?_; rintro e w' ⟨rfl, rfl⟩) | (go_at_call 51; refine (HQ.out _).mono ?_; rintro e w' ⟨rfl, rfl⟩))
            go_ret
            exact ⟨rfl, HAL.out⟩
          · simp only [Bool.true_and]
            cases b6
            · simp only [Bool.false_and, Bool.false_eq_true, if_false]
              go_enter Tryz.func30, Tryz.ntmps30
              go_wp2_with (first | (go_at_call 49; refine (HH.out _).mono ?_; rintro e w' ⟨rfl, rfl⟩) | (go_at_call 50; refine (HP.out _).mono ?_; rintro e w' ⟨rfl, rfl⟩) | (go_at_call 51; refine (HQ.out _).mono ?_; rintro e w' ⟨rfl, rfl⟩))
              go_ret
              exact ⟨rfl, HAL.out⟩
            · simp only [Bool.true_and]
              have hqe := HQE.out; have hqe2 := HQE2.out
              generalize qu.isEmpty = q at hqe hqe2 ⊢
              cases hq
              · cases q
                · simp only [Bool.or_false, Bool.false_eq_true, if_false]
                  go_enter Tryz.func30, Tryz.ntmps30
                  go_wp2_with (first | (go_at_call 49; refine (HH.out _).mono ?_; rintro e w' ⟨rfl, rfl⟩) | (go_at_call 50; refine (HP.out _).mono ?_; rintro e w' ⟨rfl, rfl⟩) | (go_at_call 51; refine (HQ.out _).mono ?_; rintro e w' ⟨rfl, rfl⟩))
                  go_ret
                  exact ⟨rfl, HAL.out⟩
                · skip
                  simp only [Bool.or_true, if_true]
                  have HTT := Lib.hid (fun W => HT.out W d3 d4)
                  rcases Decidable.em (1024 < t.length) with h | h
                  all_goals
                    first | rw [if_pos h] | rw [if_neg h]
                    go_enter Tryz.func30, Tryz.ntmps30
                    go_wp2_with (first | (go_at_call 49; refine (HH.out _).mono ?_; rintro e w' ⟨rfl, rfl⟩) | (go_at_call 50; refine (HP.out _).mono ?_; rintro e w' ⟨rfl, rfl⟩) | (go_at_call 51; refine (HQ.out _).mono ?_; rintro e w' ⟨rfl, rfl⟩))
                    refine (HTT.out _).mono ?_
                    rintro r w2 ⟨rfl, hb2⟩
                    have HB := Lib.hid (HAL.out.trans (hb2.mono HAL.out.size)); clear hb2
                    go_wp2_with fail
                    go_ret
                    exact ⟨rfl, HB.out⟩
              · cases q
                all_goals
                  simp only [Bool.true_or, Bool.or_true, if_true]
                  have HTT := Lib.hid (fun W => HT.out W d3 d4)
                  rcases Decidable.em (1024 < t.length) with h | h
                  all_goals
                    first | rw [if_pos h] | rw [if_neg h]
                    go_enter Tryz.func30, Tryz.ntmps30
                    go_wp2_with (first | (go_at_call 49; refine (HH.out _).mono ?_; rintro e w' ⟨rfl, rfl⟩) | (go_at_call 50; refine (HP.out _).mono ?_; rintro e w' ⟨rfl, rfl⟩) | (go_at_call 51; refine (HQ.out _).mono ?_; rintro e w' ⟨rfl, rfl⟩))
                    refine (HTT.out _).mono ?_
                    rintro r w2 ⟨rfl, hb2⟩
                    have HB := Lib.hid (HAL.out.trans (hb2.mono HAL.out.size)); clear hb2
                    go_wp2_with fail
                    go_ret
                    exact ⟨rfl, HB.out⟩
  · have q1 : ((bs sc).toList == [104, 116, 116, 112]) = false := by rw [beq_lit]; exact beq_eq_false_iff_ne.2 h1
    have q2 : ((bs sc).toList == [104, 116, 116, 112, 115]) = true := by rw [beq_lit, h2]; rfl
    clear h1 h2
    simp only [Bool.true_and]
    cases b2
    · simp only [Bool.false_and, Bool.false_eq_true, if_false]
      go_enter Tryz.func30, Tryz.ntmps30
      go_wp2_with (first | (go_at_call 49; refine (HH.out _).mono ?_; rintro e w' ⟨rfl, rfl⟩) | (go_at_call 50; refine (HP.out _).mono ?_; rintro e w' ⟨rfl, rfl⟩) | (go_at_call 51; refine (HQ.out _).mono ?_; rintro e w' ⟨rfl, rfl⟩))
      go_ret
      exact ⟨rfl, HAL.out⟩
    · simp only [Bool.true_and]
      rcases Decidable.em (¬ (0 ≤ po)) with d3 | d3
      · rw [decide_eq_false d3]
        simp only [Bool.false_and, Bool.false_eq_true, if_false]
        go_enter Tryz.func30, Tryz.ntmps30
        go_wp2_with (first | (go_at_call 49; refine (HH.out _).mono ?_; rintro e w' ⟨rfl, rfl⟩) | (go_at_call 50; refine (HP.out _).mono ?_; rintro e w' ⟨rfl, rfl⟩) | (go_at_call 51; refine (HQ.out _).mono ?_; rintro e w' ⟨rfl, rfl⟩))
        go_ret
        exact ⟨rfl, HAL.out⟩
      · replace d3 := Decidable.not_not.1 d3
        rw [decide_eq_true d3]
        simp only [Bool.true_and]
        rcases Decidable.em (¬ (po ≤ 65535)) with d4 | d4
        · rw [decide_eq_false d4]
          simp only [Bool.false_and, Bool.false_eq_true, if_false]
          go_enter Tryz.func30, Tryz.ntmps30
          go_wp2_with (first | (go_at_call 49; refine (HH.out _).mono ?_; rintro e w' ⟨rfl, rfl⟩) | (go_at_call 50; refine (HP.out _).mono ?_; rintro e w' ⟨rfl, rfl⟩) | (go_at_call 51; refine (HQ.out _).mono ?_; rintro e w' ⟨rfl, rfl⟩))
          go_ret
          exact ⟨rfl, HAL.out⟩
        · replace d4 := Decidable.not_not.1 d4
          rw [decide_eq_true d4]
          simp only [Bool.true_and]
          cases b5
          · simp only [Bool.false_and, Bool.false_eq_true, if_false]
            go_enter Tryz.func30, Tryz.ntmps30
            go_wp2_with (first | (go_at_call 49; refine (HH.out _).mono ?_; rintro e w' ⟨rfl, rfl⟩) | (go_at_call 50; refine (HP.out _).mono ?_; rintro e w' ⟨rfl, rfl⟩) | (go_at_call 51; refine (HQ.out _).mono ?_; rintro e w' ⟨rfl, rfl⟩))
            go_ret
            exact ⟨rfl, HAL.out⟩
          · simp only [Bool.true_and]
            cases b6
            · simp only [Bool.false_and, Bool.false_eq_true, if_false]
              go_enter Tryz.func30, Tryz.ntmps30
              go_wp2_with (first | (go_at_call 49; refine (HH.out _).mono ?_; rintro e w' ⟨rfl, rfl⟩) | (go_at_call 50; refine (HP.out _).mono ?_; rintro e w' ⟨rfl, rfl⟩) | (go_at_call 51; refine (HQ.out _).mono ?_; rintro e w' ⟨rfl, rfl⟩))
              go_ret
              exact ⟨rfl, HAL.out⟩
            · simp only [Bool.true_and]
              have hqe := HQE.out; have hqe2 := HQE2.out
              generalize qu.isEmpty = q at hqe hqe2 ⊢
              cases hq
              · cases q
                · simp only [Bool.or_false, Bool.false_eq_true, if_false]
                  go_enter Tryz.func30, Tryz.ntmps30
                  go_wp2_with (first | (go_at_call 49; refine (HH.out _).mono ?_; rintro e w' ⟨rfl, rfl⟩) | (go_at_call 50; refine (HP.out _).mono ?_; rintro e w' ⟨rfl, rfl⟩) | (go_at_call 51; refine (HQ.out _).mono ?_; rintro e w' ⟨rfl, rfl⟩))
                  go_ret
                  exact ⟨rfl, HAL.out⟩
                · skip
                  simp only [Bool.or_true, if_true]
                  have HTT := Lib.hid (fun W => HT.out W d3 d4)
                  rcases Decidable.em (1024 < t.length) with h | h
                  all_goals
                    first | rw [if_pos h] | rw [if_neg h]
                    go_enter Tryz.func30, Tryz.ntmps30
                    go_wp2_with (first | (go_at_call 49; refine (HH.out _).mono ?_; rintro e w' ⟨rfl, rfl⟩) | (go_at_call 50; refine (HP.out _).mono ?_; rintro e w' ⟨rfl, rfl⟩) | (go_at_call 51; refine (HQ.out _).mono ?_; rintro e w' ⟨rfl, rfl⟩))
                    refine (HTT.out _).mono ?_
                    rintro r w2 ⟨rfl, hb2⟩
                    have HB := Lib.hid (HAL.out.trans (hb2.mono HAL.out.size)); clear hb2
                    go_wp2_with fail
                    go_ret
                    exact ⟨rfl, HB.out⟩
              · cases q
                all_goals
                  simp only [Bool.true_or, Bool.or_true, if_true]
                  have HTT := Lib.hid (fun W => HT.out W d3 d4)
                  rcases Decidable.em (1024 < t.length) with h | h
                  all_goals
                    first | rw [if_pos h] | rw [if_neg h]
                    go_enter Tryz.func30, Tryz.ntmps30
                    go_wp2_with (first | (go_at_call 49; refine (HH.out _).mono ?_; rintro e w' ⟨rfl, rfl⟩) | (go_at_call 50; refine (HP.out _).mono ?_; rintro e w' ⟨rfl, rfl⟩) | (go_at_call 51; refine (HQ.out _).mono ?_; rintro e w' ⟨rfl, rfl⟩))
                    refine (HTT.out _).mono ?_
                    rintro r w2 ⟨rfl, hb2⟩
                    have HB := Lib.hid (HAL.out.trans (hb2.mono HAL.out.size)); clear hb2
                    go_wp2_with fail
                    go_ret
                    exact ⟨rfl, HB.out⟩
  · have q1 : ((bs sc).toList == [104, 116, 116, 112]) = false := by rw [beq_lit]; exact beq_eq_false_iff_ne.2 h1
    have q2 : ((bs sc).toList == [104, 116, 116, 112, 115]) = false := by rw [beq_lit]; exact beq_eq_false_iff_ne.2 h2
    clear h1 h2
    simp only [Bool.false_and, Bool.false_eq_true, if_false]
    go_enter Tryz.func30, Tryz.ntmps30
    go_wp2_with (first | (go_at_call 49; refine (HH.out _).mono ?_; rintro e w' ⟨rfl, rfl⟩) | (go_at_call 50; refine (HP.out _).mono ?_; rintro e w' ⟨rfl, rfl⟩) | (go_at_call 51; refine (HQ.out _).mono ?_; rintro e w' ⟨rfl, rfl⟩))
    go_ret
    exact ⟨rfl, HAL.out⟩

theorem check_okP {u : Ur} (h : u.check = 0) : 0 ≤ u.po ∧ u.po ≤ 65535 := by
  unfold Ur.check at h
  cases hf : u.formed
  · rw [hf] at h; simp at h
  · obtain ⟨sc, ho, po, pa, qu, hq⟩ := u
    rw [formed_eqD] at hf
    simp only [Bool.and_eq_true, decide_eq_true_eq] at hf
    exact ⟨hf.2.2.1, hf.2.2.2.1⟩
set_option maxHeartbeats 1000000 in
set_option maxRecDepth 100000 in
theorem uput_any (u : Ur) (w : World) (hu : u.okW) :
    Calls Tryz.prog 46 #[.agg #[.string (bs u.sc), .string (bs u.ho), .int .i64 u.po, .string (bs u.pa), .string (bs u.qu), .bool u.hq]] w fun r w' => r = .returned (.string (bs u.put)) ∧ Below w.heap.size w w' := by
  have hal : Below w.heap.size w (w.alloc (.cells #[.string (bs u.sc), .string (bs u.ho), .int .i64 u.po, .string (bs u.pa), .string (bs u.qu), .bool u.hq] 23)) := (Below.refl _ _).alloc (Nat.le_refl _) _
  have hbk := ubk.new w #[.string (bs u.sc), .string (bs u.ho), .int .i64 u.po, .string (bs u.pa), .string (bs u.qu), .bool u.hq] 23
  have hf := ucheck_any u (w.alloc (.cells #[.string (bs u.sc), .string (bs u.ho), .int .i64 u.po, .string (bs u.pa), .string (bs u.qu), .bool u.hq] 23)) hu
  have HW := Lib.hid (fun W (h0 : 0 ≤ u.po) (h1 : u.po ≤ 65535) => utext_any u W hu h0 h1)
  have hok := fun h => check_okP (u := u) h
  have hck : u.put = if u.check = 0 then u.text else [] := rfl
  rw [hck]
  clear hck hu
  generalize u.check = f at *
  generalize u.text = t at *
  have HF := Lib.hid hf; have HAL := Lib.hid hal; have HBK := Lib.hid hbk; clear hf hal hbk
  by_cases h : f = 0
  · obtain ⟨p0, p1⟩ := hok h
    have HWW := Lib.hid (fun W => HW.out W p0 p1)
    clear hok HW p0 p1
    subst h
    rw [if_pos rfl]
    go_enter Tryz.func46, Tryz.ntmps46
    go_wp2_with fail
    refine HF.out.mono ?_
    rintro r w1 ⟨rfl, hb1⟩
    have hbk1 := HBK.out.below hb1
    have c0 := hbk1.cell 0 _ rfl
    have c1 := hbk1.cell 1 _ rfl
    have c2 := hbk1.cell 2 _ rfl
    have c3 := hbk1.cell 3 _ rfl
    have c4 := hbk1.cell 4 _ rfl
    have c5 := hbk1.cell 5 _ rfl
    have HB1 := Lib.hid hb1; clear hb1 hbk1
    go_wp2_with fail
    refine (HWW.out _).mono ?_
    rintro r w2 ⟨rfl, hb2⟩
    have HB := Lib.hid (HAL.out.trans ((HB1.out.trans (hb2.mono HB1.out.size)).mono HAL.out.size)); clear hb2
    go_wp2_with fail
    go_ret
    exact ⟨rfl, HB.out⟩
  · rw [if_neg h]
    have hn : (f != 0) = true := bne_iff_ne.2 h
    clear h hok
    go_enter Tryz.func46, Tryz.ntmps46
    go_wp2_with fail
    refine HF.out.mono ?_
    rintro r w1 ⟨rfl, hb1⟩
    have HB := Lib.hid (HAL.out.trans (hb1.mono HAL.out.size)); clear hb1
    go_wp2_with fail
    go_ret
    exact ⟨rfl, HB.out⟩
end Go.Proofs.YtnpiaifkeddjeaaGreatDoor
