/- Whether a URI may be, and its text if it may: the uri layer's formed, Check and Put. -/
import Derived.Test.YtekaiafhnnpkgaaGreatDoorUriF
namespace Go.Proofs.YtekaiafhnnpkgaaGreatDoor
open Go.RowKit

theorem formed_eq (sc ho : List UInt8) (po : Int) (pa qu : List UInt8) (hq : Bool) : Ur.formed ⟨sc, ho, po, pa, qu, hq⟩ = ((usual sc != 0) && (hostOk ho && (decide (0 ≤ po) && (decide (po ≤ 65535) && (Lib.hasPrefix pa [47] && (made pathM pa && (made queryM qu && (hq || qu.isEmpty)))))))) := rfl
set_option maxHeartbeats 4000000 in
set_option maxRecDepth 100000 in
theorem formed_any (u : Ur) (w : World) (he : EnvU w) (hu : u.okW) :
    Calls Tryz.prog 23 #[.agg #[.string (bs u.sc), .string (bs u.ho), .int .i64 u.po, .string (bs u.pa), .string (bs u.qu), .bool u.hq]] w fun r w' => r = .returned (.bool u.formed) ∧ Below w.heap.size w w' := by
  obtain ⟨sc, ho, po, pa, qu, hq⟩ := u
  obtain ⟨hlen, hlo, hhi⟩ := hu
  simp only at hlen hlo hhi ⊢
  rw [formed_eq]
  have hal : Below w.heap.size w (w.alloc (.cells #[.string (bs sc), .string (bs ho), .int .i64 po, .string (bs pa), .string (bs qu), .bool hq] 23)) := (Below.refl _ _).alloc (Nat.le_refl _) _
  have hbk := ubk.new w #[.string (bs sc), .string (bs ho), .int .i64 po, .string (bs pa), .string (bs qu), .bool hq] 23
  have he0 : EnvU (w.alloc (.cells #[.string (bs sc), .string (bs ho), .int .i64 po, .string (bs pa), .string (bs qu), .bool hq] 23)) := he.alloc _
  have HH := Lib.hid (fun W (hb : Below (w.alloc (.cells #[.string (bs sc), .string (bs ho), .int .i64 po, .string (bs pa), .string (bs qu), .bool hq] 23)).heap.size (w.alloc (.cells #[.string (bs sc), .string (bs ho), .int .i64 po, .string (bs pa), .string (bs qu), .bool hq] 23)) W) => isHost_any ho W (he0.bel hb) (by omega))
  have HP := Lib.hid (fun W (hb : Below (w.alloc (.cells #[.string (bs sc), .string (bs ho), .int .i64 po, .string (bs pa), .string (bs qu), .bool hq] 23)).heap.size (w.alloc (.cells #[.string (bs sc), .string (bs ho), .int .i64 po, .string (bs pa), .string (bs qu), .bool hq] 23)) W) => consists_any pa pathM W (he0.bel hb) (by omega))
  have HQ := Lib.hid (fun W (hb : Below (w.alloc (.cells #[.string (bs sc), .string (bs ho), .int .i64 po, .string (bs pa), .string (bs qu), .bool hq] 23)).heap.size (w.alloc (.cells #[.string (bs sc), .string (bs ho), .int .i64 po, .string (bs pa), .string (bs qu), .bool hq] 23)) W) => consists_any qu queryM W (he0.bel hb) (by omega))
  have HU := Lib.hid (usualPort_any sc)
  have HF := Lib.hid (prefixU_any pa [47])
  have HQE : Hid (((bs qu).toList == []) = qu.isEmpty) := by show _ = _; rw [beq_lit]; cases qu <;> rfl
  have HQE2 : Hid ((bs qu).toList.isEmpty = qu.isEmpty) := by show _ = _; rw [Lib.toList_data, bs_data]
  have HAL := Lib.hid hal; have HBK := Lib.hid hbk; clear hal hbk he he0 hlen hlo hhi
  have hus : ∃ k, usual sc = k := ⟨_, rfl⟩
  obtain ⟨k, hus⟩ := hus
  rw [hus] at HU
  rw [hus]
  generalize hostOk ho = b2 at *
  generalize Lib.hasPrefix pa [47] = b5 at *
  generalize made pathM pa = b6 at *
  generalize made queryM qu = b7 at *
  clear hus
  by_cases h1 : k = 0
  · have e1 : (k != 0) = false := by rw [h1]; rfl
    rw [e1]
    clear h1
    go_enter Tryz.func23, Tryz.ntmps23
    go_wp2_with fail
    refine (HU.out _).mono ?_
    rintro r w' ⟨rfl, rfl⟩
    go_wp2_with fail
    go_ret
    exact ⟨ret_bool (by simp), HAL.out⟩
  · have e1 : (k != 0) = true := bne_iff_ne.2 h1
    rw [e1]
    clear h1
    cases b2
    · go_enter Tryz.func23, Tryz.ntmps23
      go_wp2_with fail
      refine (HU.out _).mono ?_
      rintro r w' ⟨rfl, rfl⟩
      go_wp2_with fail
      refine (HH.out _ (Below.refl _ _)).mono ?_
      rintro r w1 ⟨rfl, hB1⟩
      have hbk1 := HBK.out.below hB1
      have c10 := hbk1.cell 0 _ rfl
      have c11 := hbk1.cell 1 _ rfl
      have c12 := hbk1.cell 2 _ rfl
      have c13 := hbk1.cell 3 _ rfl
      have c14 := hbk1.cell 4 _ rfl
      have c15 := hbk1.cell 5 _ rfl
      have HB1 := Lib.hid hB1; clear hB1 hbk1
      go_wp2_with fail
      go_ret
      exact ⟨ret_bool (by simp), (HAL.out.trans (HB1.out.mono HAL.out.size))⟩
    · skip
      rcases Decidable.em (¬ (0 ≤ po)) with d3 | d3
      · rw [decide_eq_false d3]
        go_enter Tryz.func23, Tryz.ntmps23
        go_wp2_with fail
        refine (HU.out _).mono ?_
        rintro r w' ⟨rfl, rfl⟩
        go_wp2_with fail
        refine (HH.out _ (Below.refl _ _)).mono ?_
        rintro r w1 ⟨rfl, hB1⟩
        have hbk1 := HBK.out.below hB1
        have c10 := hbk1.cell 0 _ rfl
        have c11 := hbk1.cell 1 _ rfl
        have c12 := hbk1.cell 2 _ rfl
        have c13 := hbk1.cell 3 _ rfl
        have c14 := hbk1.cell 4 _ rfl
        have c15 := hbk1.cell 5 _ rfl
        have HB1 := Lib.hid hB1; clear hB1 hbk1
        go_wp2_with fail
        go_ret
        exact ⟨ret_bool (by simp), (HAL.out.trans (HB1.out.mono HAL.out.size))⟩
      · replace d3 := Decidable.not_not.1 d3
        rw [decide_eq_true d3]
        rcases Decidable.em (¬ (po ≤ 65535)) with d4 | d4
        · rw [decide_eq_false d4]
          go_enter Tryz.func23, Tryz.ntmps23
          go_wp2_with fail
          refine (HU.out _).mono ?_
          rintro r w' ⟨rfl, rfl⟩
          go_wp2_with fail
          refine (HH.out _ (Below.refl _ _)).mono ?_
          rintro r w1 ⟨rfl, hB1⟩
          have hbk1 := HBK.out.below hB1
          have c10 := hbk1.cell 0 _ rfl
          have c11 := hbk1.cell 1 _ rfl
          have c12 := hbk1.cell 2 _ rfl
          have c13 := hbk1.cell 3 _ rfl
          have c14 := hbk1.cell 4 _ rfl
          have c15 := hbk1.cell 5 _ rfl
          have HB1 := Lib.hid hB1; clear hB1 hbk1
          go_wp2_with fail
          go_ret
          exact ⟨ret_bool (by simp), (HAL.out.trans (HB1.out.mono HAL.out.size))⟩
        · replace d4 := Decidable.not_not.1 d4
          rw [decide_eq_true d4]
          cases b5
          · go_enter Tryz.func23, Tryz.ntmps23
            go_wp2_with fail
            refine (HU.out _).mono ?_
            rintro r w' ⟨rfl, rfl⟩
            go_wp2_with fail
            refine (HH.out _ (Below.refl _ _)).mono ?_
            rintro r w1 ⟨rfl, hB1⟩
            have hbk1 := HBK.out.below hB1
            have c10 := hbk1.cell 0 _ rfl
            have c11 := hbk1.cell 1 _ rfl
            have c12 := hbk1.cell 2 _ rfl
            have c13 := hbk1.cell 3 _ rfl
            have c14 := hbk1.cell 4 _ rfl
            have c15 := hbk1.cell 5 _ rfl
            have HB1 := Lib.hid hB1; clear hB1 hbk1
            go_wp2_with fail
            refine (HF.out _).mono ?_
            rintro r w' ⟨rfl, rfl⟩
            go_wp2_with fail
            go_ret
            exact ⟨ret_bool (by simp), (HAL.out.trans (HB1.out.mono HAL.out.size))⟩
          · skip
            cases b6
            · go_enter Tryz.func23, Tryz.ntmps23
              go_wp2_with fail
              refine (HU.out _).mono ?_
              rintro r w' ⟨rfl, rfl⟩
              go_wp2_with fail
              refine (HH.out _ (Below.refl _ _)).mono ?_
              rintro r w1 ⟨rfl, hB1⟩
              have hbk1 := HBK.out.below hB1
              have c10 := hbk1.cell 0 _ rfl
              have c11 := hbk1.cell 1 _ rfl
              have c12 := hbk1.cell 2 _ rfl
              have c13 := hbk1.cell 3 _ rfl
              have c14 := hbk1.cell 4 _ rfl
              have c15 := hbk1.cell 5 _ rfl
              have HB1 := Lib.hid hB1; clear hB1 hbk1
              go_wp2_with fail
              refine (HF.out _).mono ?_
              rintro r w' ⟨rfl, rfl⟩
              go_wp2_with fail
              refine (HP.out _ HB1.out).mono ?_
              rintro r w2 ⟨rfl, hb2⟩
              have hB2 := HB1.out.trans (hb2.mono HB1.out.size)
              have hbk2 := HBK.out.below hB2
              have c23 := hbk2.cell 3 _ rfl
              have c24 := hbk2.cell 4 _ rfl
              have c25 := hbk2.cell 5 _ rfl
              have HB2 := Lib.hid hB2; clear hB2 hbk2 hb2
              go_wp2_with fail
              go_ret
              exact ⟨ret_bool (by simp), (HAL.out.trans (HB2.out.mono HAL.out.size))⟩
            · skip
              cases b7
              · go_enter Tryz.func23, Tryz.ntmps23
                go_wp2_with fail
                refine (HU.out _).mono ?_
                rintro r w' ⟨rfl, rfl⟩
                go_wp2_with fail
                refine (HH.out _ (Below.refl _ _)).mono ?_
                rintro r w1 ⟨rfl, hB1⟩
                have hbk1 := HBK.out.below hB1
                have c10 := hbk1.cell 0 _ rfl
                have c11 := hbk1.cell 1 _ rfl
                have c12 := hbk1.cell 2 _ rfl
                have c13 := hbk1.cell 3 _ rfl
                have c14 := hbk1.cell 4 _ rfl
                have c15 := hbk1.cell 5 _ rfl
                have HB1 := Lib.hid hB1; clear hB1 hbk1
                go_wp2_with fail
                refine (HF.out _).mono ?_
                rintro r w' ⟨rfl, rfl⟩
                go_wp2_with fail
                refine (HP.out _ HB1.out).mono ?_
                rintro r w2 ⟨rfl, hb2⟩
                have hB2 := HB1.out.trans (hb2.mono HB1.out.size)
                have hbk2 := HBK.out.below hB2
                have c23 := hbk2.cell 3 _ rfl
                have c24 := hbk2.cell 4 _ rfl
                have c25 := hbk2.cell 5 _ rfl
                have HB2 := Lib.hid hB2; clear hB2 hbk2 hb2
                go_wp2_with fail
                refine (HQ.out _ HB2.out).mono ?_
                rintro r w3 ⟨rfl, hb3⟩
                have hB3 := HB2.out.trans (hb3.mono HB2.out.size)
                have hbk3 := HBK.out.below hB3
                have c34 := hbk3.cell 4 _ rfl
                have c35 := hbk3.cell 5 _ rfl
                have HB3 := Lib.hid hB3; clear hB3 hbk3 hb3
                go_wp2_with fail
                go_ret
                exact ⟨ret_bool (by simp), (HAL.out.trans (HB3.out.mono HAL.out.size))⟩
              · skip
                cases hq
                · have hqe := HQE.out; have hqe2 := HQE2.out
                  generalize qu.isEmpty = q at hqe hqe2 ⊢
                  cases q
                  all_goals
                    go_enter Tryz.func23, Tryz.ntmps23
                    go_wp2_with fail
                    refine (HU.out _).mono ?_
                    rintro r w' ⟨rfl, rfl⟩
                    go_wp2_with fail
                    refine (HH.out _ (Below.refl _ _)).mono ?_
                    rintro r w1 ⟨rfl, hB1⟩
                    have hbk1 := HBK.out.below hB1
                    have c10 := hbk1.cell 0 _ rfl
                    have c11 := hbk1.cell 1 _ rfl
                    have c12 := hbk1.cell 2 _ rfl
                    have c13 := hbk1.cell 3 _ rfl
                    have c14 := hbk1.cell 4 _ rfl
                    have c15 := hbk1.cell 5 _ rfl
                    have HB1 := Lib.hid hB1; clear hB1 hbk1
                    go_wp2_with fail
                    refine (HF.out _).mono ?_
                    rintro r w' ⟨rfl, rfl⟩
                    go_wp2_with fail
                    refine (HP.out _ HB1.out).mono ?_
                    rintro r w2 ⟨rfl, hb2⟩
                    have hB2 := HB1.out.trans (hb2.mono HB1.out.size)
                    have hbk2 := HBK.out.below hB2
                    have c23 := hbk2.cell 3 _ rfl
                    have c24 := hbk2.cell 4 _ rfl
                    have c25 := hbk2.cell 5 _ rfl
                    have HB2 := Lib.hid hB2; clear hB2 hbk2 hb2
                    go_wp2_with fail
                    refine (HQ.out _ HB2.out).mono ?_
                    rintro r w3 ⟨rfl, hb3⟩
                    have hB3 := HB2.out.trans (hb3.mono HB2.out.size)
                    have hbk3 := HBK.out.below hB3
                    have c34 := hbk3.cell 4 _ rfl
                    have c35 := hbk3.cell 5 _ rfl
                    have HB3 := Lib.hid hB3; clear hB3 hbk3 hb3
                    go_wp2_with fail
                    go_ret
                    exact ⟨ret_bool (by simp), (HAL.out.trans (HB3.out.mono HAL.out.size))⟩
                · go_enter Tryz.func23, Tryz.ntmps23
                  go_wp2_with fail
                  refine (HU.out _).mono ?_
                  rintro r w' ⟨rfl, rfl⟩
                  go_wp2_with fail
                  refine (HH.out _ (Below.refl _ _)).mono ?_
                  rintro r w1 ⟨rfl, hB1⟩
                  have hbk1 := HBK.out.below hB1
                  have c10 := hbk1.cell 0 _ rfl
                  have c11 := hbk1.cell 1 _ rfl
                  have c12 := hbk1.cell 2 _ rfl
                  have c13 := hbk1.cell 3 _ rfl
                  have c14 := hbk1.cell 4 _ rfl
                  have c15 := hbk1.cell 5 _ rfl
                  have HB1 := Lib.hid hB1; clear hB1 hbk1
                  go_wp2_with fail
                  refine (HF.out _).mono ?_
                  rintro r w' ⟨rfl, rfl⟩
                  go_wp2_with fail
                  refine (HP.out _ HB1.out).mono ?_
                  rintro r w2 ⟨rfl, hb2⟩
                  have hB2 := HB1.out.trans (hb2.mono HB1.out.size)
                  have hbk2 := HBK.out.below hB2
                  have c23 := hbk2.cell 3 _ rfl
                  have c24 := hbk2.cell 4 _ rfl
                  have c25 := hbk2.cell 5 _ rfl
                  have HB2 := Lib.hid hB2; clear hB2 hbk2 hb2
                  go_wp2_with fail
                  refine (HQ.out _ HB2.out).mono ?_
                  rintro r w3 ⟨rfl, hb3⟩
                  have hB3 := HB2.out.trans (hb3.mono HB2.out.size)
                  have hbk3 := HBK.out.below hB3
                  have c34 := hbk3.cell 4 _ rfl
                  have c35 := hbk3.cell 5 _ rfl
                  have HB3 := Lib.hid hB3; clear hB3 hbk3 hb3
                  go_wp2_with fail
                  go_ret
                  exact ⟨ret_bool (by simp), (HAL.out.trans (HB3.out.mono HAL.out.size))⟩

set_option maxHeartbeats 1000000 in
set_option maxRecDepth 100000 in
theorem uriCheck_any (u : Ur) (w : World) (he : EnvU w) (hu : u.okW) :
    Calls Tryz.prog 10 #[.agg #[.string (bs u.sc), .string (bs u.ho), .int .i64 u.po, .string (bs u.pa), .string (bs u.qu), .bool u.hq]] w fun r w' => r = .returned (.int .i64 u.check) ∧ Below w.heap.size w w' := by
  have hal : Below w.heap.size w (w.alloc (.cells #[.string (bs u.sc), .string (bs u.ho), .int .i64 u.po, .string (bs u.pa), .string (bs u.qu), .bool u.hq] 23)) := (Below.refl _ _).alloc (Nat.le_refl _) _
  have hbk := ubk.new w #[.string (bs u.sc), .string (bs u.ho), .int .i64 u.po, .string (bs u.pa), .string (bs u.qu), .bool u.hq] 23
  have hf := formed_any u _ (he.alloc (.cells #[.string (bs u.sc), .string (bs u.ho), .int .i64 u.po, .string (bs u.pa), .string (bs u.qu), .bool u.hq] 23)) hu
  have HW := Lib.hid (fun W (hb : Below (w.alloc (.cells #[.string (bs u.sc), .string (bs u.ho), .int .i64 u.po, .string (bs u.pa), .string (bs u.qu), .bool u.hq] 23)).heap.size (w.alloc (.cells #[.string (bs u.sc), .string (bs u.ho), .int .i64 u.po, .string (bs u.pa), .string (bs u.qu), .bool u.hq] 23)) W) => written_any u W ((he.alloc _).bel hb) hu)
  have hck : u.check = if u.formed then (if 1024 < u.text.length then 3 else 0) else 4 := rfl
  rw [hck]
  clear hck
  generalize u.formed = f at *
  generalize u.text = t at *
  have HF := Lib.hid hf; have HAL := Lib.hid hal; have HBK := Lib.hid hbk; clear hf hal hbk he hu
  cases f
  · go_enter Tryz.func10, Tryz.ntmps10
    go_wp2_with fail
    refine HF.out.mono ?_
    rintro r w1 ⟨rfl, hb1⟩
    have HB := Lib.hid (HAL.out.trans (hb1.mono HAL.out.size)); clear hb1
    go_wp2_with fail
    go_ret
    exact ⟨rfl, HB.out⟩
  · simp only [if_true]
    rcases Decidable.em (1024 < t.length) with h | h
    all_goals
      first | rw [if_pos h] | rw [if_neg h]
      have hz : (bs t).size = t.length := bs_size t
      go_enter Tryz.func10, Tryz.ntmps10
      go_wp2_with fail
      refine HF.out.mono ?_
      rintro r w1 ⟨rfl, hb1⟩
      have hbk1 := HBK.out.below hb1
      have c0 := hbk1.cell 0 _ rfl
      have c1 := hbk1.cell 1 _ rfl
      have c2 := hbk1.cell 2 _ rfl
      have c3 := hbk1.cell 3 _ rfl
      have c4 := hbk1.cell 4 _ rfl
      have c5 := hbk1.cell 5 _ rfl
      have HB1 := Lib.hid hb1; clear hb1 hbk1
      go_wp2_with fail
      refine (HW.out _ HB1.out).mono ?_
      rintro r w2 ⟨rfl, hb2⟩
      have HB := Lib.hid (HAL.out.trans ((HB1.out.trans (hb2.mono HB1.out.size)).mono HAL.out.size)); clear hb2
      go_wp2_with fail
      go_ret
      exact ⟨rfl, HB.out⟩

set_option maxHeartbeats 1000000 in
set_option maxRecDepth 100000 in
theorem uriPut_any (u : Ur) (w : World) (he : EnvU w) (hu : u.okW) :
    Calls Tryz.prog 12 #[.agg #[.string (bs u.sc), .string (bs u.ho), .int .i64 u.po, .string (bs u.pa), .string (bs u.qu), .bool u.hq]] w fun r w' => r = .returned (.string (bs u.put)) ∧ Below w.heap.size w w' := by
  have hal : Below w.heap.size w (w.alloc (.cells #[.string (bs u.sc), .string (bs u.ho), .int .i64 u.po, .string (bs u.pa), .string (bs u.qu), .bool u.hq] 23)) := (Below.refl _ _).alloc (Nat.le_refl _) _
  have hbk := ubk.new w #[.string (bs u.sc), .string (bs u.ho), .int .i64 u.po, .string (bs u.pa), .string (bs u.qu), .bool u.hq] 23
  have hf := uriCheck_any u _ (he.alloc (.cells #[.string (bs u.sc), .string (bs u.ho), .int .i64 u.po, .string (bs u.pa), .string (bs u.qu), .bool u.hq] 23)) hu
  have HW := Lib.hid (fun W (hb : Below (w.alloc (.cells #[.string (bs u.sc), .string (bs u.ho), .int .i64 u.po, .string (bs u.pa), .string (bs u.qu), .bool u.hq] 23)).heap.size (w.alloc (.cells #[.string (bs u.sc), .string (bs u.ho), .int .i64 u.po, .string (bs u.pa), .string (bs u.qu), .bool u.hq] 23)) W) => written_any u W ((he.alloc _).bel hb) hu)
  have hck : u.put = if u.check = 0 then u.text else [] := rfl
  rw [hck]
  clear hck
  generalize u.check = f at *
  generalize u.text = t at *
  have HF := Lib.hid hf; have HAL := Lib.hid hal; have HBK := Lib.hid hbk; clear hf hal hbk he hu
  by_cases h : f = 0
  · subst h
    rw [if_pos rfl]
    go_enter Tryz.func12, Tryz.ntmps12
    go_wp2_with fail
    refine HF.out.mono ?_
    rintro r w1 ⟨rfl, hb1⟩
    have hbk1 := HBK.out.below hb1
    have c0 := hbk1.cell 0 _ rfl
    have c1 := hbk1.cell 1 _ rfl
    have c2 := hbk1.cell 2 _ rfl
    have c3 := hbk1.cell 3 _ rfl
    have c4 := hbk1.cell 4 _ rfl
    have c5 := hbk1.cell 5 _ rfl
    have HB1 := Lib.hid hb1; clear hb1 hbk1
    go_wp2_with fail
    refine (HW.out _ HB1.out).mono ?_
    rintro r w2 ⟨rfl, hb2⟩
    have HB := Lib.hid (HAL.out.trans ((HB1.out.trans (hb2.mono HB1.out.size)).mono HAL.out.size)); clear hb2
    go_wp2_with fail
    go_ret
    exact ⟨rfl, HB.out⟩
  · rw [if_neg h]
    have hn : (f != 0) = true := bne_iff_ne.2 h
    clear h
    go_enter Tryz.func12, Tryz.ntmps12
    go_wp2_with fail
    refine HF.out.mono ?_
    rintro r w1 ⟨rfl, hb1⟩
    have HB := Lib.hid (HAL.out.trans (hb1.mono HAL.out.size)); clear hb1
    go_wp2_with fail
    go_ret
    exact ⟨rfl, HB.out⟩
end Go.Proofs.YtekaiafhnnpkgaaGreatDoor
