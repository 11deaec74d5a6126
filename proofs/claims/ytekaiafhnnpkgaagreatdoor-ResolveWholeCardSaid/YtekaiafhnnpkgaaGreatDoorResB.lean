/- References: the resolve layer's apart and target. -/
import Derived.Test.YtekaiafhnnpkgaaGreatDoorResA
import Derived.Test.YtekaiafhnnpkgaaGreatDoorUriS
import Derived.Test.YtekaiafhnnpkgaaGreatDoorUriLo
namespace Go.Proofs.YtekaiafhnnpkgaaGreatDoor
open Go.RowKit

theorem ret_twoS {a b c d : List UInt8} (h : a = c) (k : b = d) : Ending.returned (.tuple #[.string (bs a), .string (bs b)]) = .returned (.tuple #[.string (bs c), .string (bs d)]) := by rw [h, k]
theorem low_same2 : ∀ n : Nat, n < 256 → lowB (UInt8.ofNat n) = Lib.lowerB (UInt8.ofNat n) := by decide +kernel
theorem lower_lib (l : List UInt8) : Lib.toLowerA l = lower l := by
  unfold Lib.toLowerA lower
  refine List.map_congr_left fun c _ => ?_
  have h := low_same2 c.toNat (UInt8.toNat_lt c)
  rw [byteU] at h
  exact h.symm
theorem sch_ascii : ∀ n : Nat, n < 256 → schB (UInt8.ofNat n) = true → n < 128 := by decide +kernel
theorem toLower_any (s : List UInt8) (w : World) (hl : s.length ≤ 1000000) (h : isSch s = true) :
    Calls Tryz.prog 56 #[.string (bs s)] w fun e w' => e = .returned (.string (bs (lower s))) ∧ Below w.heap.size w w' := by
  have h4 := Tryz.strings_ToLower_ascii (bs s) w (by rw [bs_size]; omega) (fun _ b hb => by
    rw [bs_data] at hb
    have := sch_ascii b.toNat b.toNat_lt
    rw [byteU] at this
    exact this ((sch_all h).2.1 b (List.mem_of_getElem? hb)))
  rw [bs_data, lower_lib] at h4
  exact h4
theorem isSchL_any (s : List UInt8) (w : World) (hl : s.length ≤ 1000000) :
    Calls Tryz.prog 55 #[.string (bs s)] w fun r w' => r = .returned (.bool (isSch s)) ∧ w = w' := by
  have h := isSch_any (bs s) w (by rw [bs_size]; unfold maxLen; omega)
  rwa [bs_data] at h
set_option maxHeartbeats 1000000 in
set_option maxRecDepth 100000 in
theorem apartR_any (r : List UInt8) (w : World) (he : EnvU w) (hl : r.length ≤ 1000000) :
    Calls Tryz.prog 32 #[.string (bs r)] w fun e w' => e = .returned (.tuple #[.string (bs (apartR r).1), .string (bs (apartR r).2)]) ∧ Below w.heap.size w w' := by
  have HC := Lib.hid (cutU_any r [58] w he (by omega))
  have hle := (cut_leU r [58]).1
  have HS := Lib.hid (fun W => isSchL_any (Lib.cut r [58]).1 W (by omega))
  have HL := Lib.hid (fun W => toLower_any (Lib.cut r [58]).1 W (by omega))
  have hA : apartR r = if (Lib.cut r [58]).2.2 && isSch (Lib.cut r [58]).1 then (lower (Lib.cut r [58]).1, (Lib.cut r [58]).2.1) else ([], r) := rfl
  rw [hA]
  clear hA hle hl
  generalize Lib.cut r [58] = C at *
  obtain ⟨a, t, f⟩ := C
  simp only at HC HS HL ⊢
  cases f
  · simp only [Bool.false_and, Bool.false_eq_true, if_false]
    go_enter Tryz.func32, Tryz.ntmps32
    go_wp2_with fail
    refine HC.out.mono ?_
    rintro e w1 ⟨rfl, hb1⟩
    have HB1 := Lib.hid hb1; clear hb1 HC
    go_wp2_with fail
    go_ret2
    exact ⟨ret_twoS rfl rfl, HB1.out⟩
  · simp only [Bool.true_and]
    cases hs : isSch a
    · simp only [Bool.false_eq_true, if_false]
      rw [hs] at HS
      clear hs
      go_enter Tryz.func32, Tryz.ntmps32
      go_wp2_with fail
      refine HC.out.mono ?_
      rintro e w1 ⟨rfl, hb1⟩
      have HB1 := Lib.hid hb1; clear hb1 HC
      go_wp2_with fail
      refine (HS.out _).mono ?_
      rintro e w2 ⟨rfl, rfl⟩
      go_wp2_with fail
      go_ret2
      exact ⟨ret_twoS rfl rfl, HB1.out⟩
    · simp only [if_true]
      rw [hs] at HS
      have HL2 := Lib.hid (fun W => HL.out W hs)
      clear hs HL
      generalize lower a = la at *
      go_enter Tryz.func32, Tryz.ntmps32
      go_wp2_with fail
      refine HC.out.mono ?_
      rintro e w1 ⟨rfl, hb1⟩
      have HB1 := Lib.hid hb1; clear hb1 HC
      go_wp2_with fail
      refine (HS.out _).mono ?_
      rintro e w2 ⟨rfl, rfl⟩
      go_wp2_with fail
      refine (HL2.out _).mono ?_
      rintro e w3 ⟨rfl, hb3⟩
      have HB3 := Lib.hid (HB1.out.trans (hb3.mono HB1.out.size)); clear hb3
      go_wp2_with fail
      go_ret2
      exact ⟨ret_twoS rfl rfl, HB3.out⟩
theorem norm_lensR {u : Ur} (hf : Fm u) (h : u.text.length ≤ 1024) : u.sc.length ≤ 1024 ∧ u.ho.length ≤ 1024 ∧ u.pa.length ≤ 1024 ∧ u.qu.length ≤ 1024 := by
  rw [text_split] at h
  simp only [List.length_append, List.length_cons] at h
  cases hq : u.hq
  · rw [hf.qh hq]
    exact ⟨by omega, by omega, by omega, by simp⟩
  · rw [hq] at h
    simp only [if_true, List.length_cons] at h
    exact ⟨by omega, by omega, by omega, by omega⟩
theorem lens_of {u : Ur} (h : u.check = 0) : (u.sc.length ≤ 1024 ∧ u.ho.length ≤ 1024 ∧ u.pa.length ≤ 1024 ∧ u.qu.length ≤ 1024) ∧ 0 ≤ u.po ∧ u.po ≤ 65535 := by
  have hF := formed_iff.1 (uchk_zero h).1
  exact ⟨norm_lensR hF (uchk_zero h).2, hF.p0, hF.p1⟩
theorem target_is (b : Ur) (r : List UInt8) : targetU b r = if Lib.hasPrefix r [47, 47] then parseU (b.sc ++ 58 :: (apartR r).2)
  else if (apartR r).1 ≠ [] then parseU ((apartR r).1 ++ 58 :: (apartR r).2)
  else (relU b (Lib.cut r [63]).1 (Lib.cut r [63]).2.1 (Lib.cut r [63]).2.2, (relU b (Lib.cut r [63]).1 (Lib.cut r [63]).2.1 (Lib.cut r [63]).2.2).check) := rfl
theorem lastI_any (s : List UInt8) (w : World) (hl : s.length ≤ 1000000) :
    Calls Tryz.prog 35 #[.string (bs s), .string ⟨#[47]⟩] w fun e w' => e = .returned (.int .i64 (Lib.lastIndex s [47])) ∧ w = w' := by
  refine (Tryz.strings_LastIndex (bs s) ⟨#[47]⟩ (by rw [bs_size]; omega) w).mono ?_
  rw [bs_data]
  rintro e w' ⟨he, hw⟩
  exact ⟨he, hw.symm⟩
theorem lastI_in (s : List UInt8) : 0 ≤ Lib.lastIndex s [47] + 1 ∧ Lib.lastIndex s [47] + 1 ≤ s.length := by
  rcases Nat.lt_or_ge s.length 1 with h | h
  · have e2 : Lib.lastIndex s [47] = -1 := if_neg (by simp only [List.length_cons, List.length_nil]; omega)
    rw [e2]; omega
  · have e2 : Lib.lastIndex s [47] = Lib.lastOcc s [47] (s.length - 1 + 1) := if_pos h
    rcases Lib.lastOcc_spec s [47] (s.length - 1 + 1) with ⟨e, -⟩ | ⟨i, hi, e, -, -⟩
    · rw [e2, e]; omega
    · rw [e2, e]; omega
theorem dir_len (s : List UInt8) : (dirOf s).length ≤ s.length := by unfold dirOf; rw [List.length_take]; omega
theorem ext_of (s : List UInt8) (n : Nat) : (bs s).extract 0 n = bs (s.take n) := bs_of (by simp [bs])
set_option maxHeartbeats 4000000 in
set_option maxRecDepth 100000 in
theorem target_any (b : Ur) (r : List UInt8) (w : World) (he : EnvU w) (hc : b.check = 0) (hr : r.length ≤ 1024) :
    Calls Tryz.prog 15 #[.agg #[.string (bs b.sc), .string (bs b.ho), .int .i64 b.po, .string (bs b.pa), .string (bs b.qu), .bool b.hq], .string (bs r)] w (RetU w (targetU b r)) := by
  obtain ⟨⟨l1, l2, l3, l4⟩, l5, l6⟩ := lens_of hc
  clear hc
  have hal : Below w.heap.size w ((w.alloc (.cells #[.string (bs b.sc), .string (bs b.ho), .int .i64 b.po, .string (bs b.pa), .string (bs b.qu), .bool b.hq] 23)).alloc (.cells #[.string ⟨#[]⟩, .string ⟨#[]⟩, .int .i64 0, .string ⟨#[]⟩, .string ⟨#[]⟩, .bool false] 23)) := ((Below.refl _ _).alloc (Nat.le_refl _) _).alloc (by simp) _
  rw [target_is]
  have HA := Lib.hid (fun W (hb : EnvU W) => apartR_any r W hb (by omega))
  have HC := Lib.hid (fun W (hb : EnvU W) => cutU_any r [63] W hb (by omega))
  have HP := Lib.hid (fun W => prefixU_any r [47, 47] W)
  obtain ⟨k1, k2⟩ := cut_leU r [63]
  have k3 : (apartR r).2.length ≤ 1024 ∧ (apartR r).1.length ≤ 1024 := by
    unfold apartR
    have h1 := cut_leU r [58]
    split
    · simp only [lower_len]; omega
    · simp only [List.length_nil]; omega
  generalize apartR r = A at *
  obtain ⟨a1, a2⟩ := A
  generalize Lib.cut r [63] = C at *
  obtain ⟨p, q, h⟩ := C
  simp only at HA HC k1 k2 k3 ⊢
  have k4 : p.length ≤ 1024 := by omega
  have k5 : q.length ≤ 1024 := by omega
  obtain ⟨k6, k7⟩ := k3
  clear k1 k2 hr
  obtain ⟨sc, ho, po, pa, qu, hq⟩ := b
  simp only at l1 l2 l3 l4 l5 l6 hal ⊢
  have hbn := (ubk.new w #[.string (bs sc), .string (bs ho), .int .i64 po, .string (bs pa), .string (bs qu), .bool hq] 23).alloc (.cells #[.string ⟨#[]⟩, .string ⟨#[]⟩, .int .i64 0, .string ⟨#[]⟩, .string ⟨#[]⟩, .bool false] 23)
  have hbr := ubk.new (w.alloc (.cells #[.string (bs sc), .string (bs ho), .int .i64 po, .string (bs pa), .string (bs qu), .bool hq] 23)) #[.string ⟨#[]⟩, .string ⟨#[]⟩, .int .i64 0, .string ⟨#[]⟩, .string ⟨#[]⟩, .bool false] 23
  rw [World.size_alloc] at hbr
  have HAL := Lib.hid hal; have HBN := Lib.hid hbn; have HBR := Lib.hid hbr; have HE := Lib.hid he
  clear hal hbn hbr he
  generalize Lib.hasPrefix r [47, 47] = x at *
  cases x
  · simp only [Bool.false_eq_true, if_false]
    by_cases ha : a1 ≠ []
    · rw [if_pos ha]
      have q1 : ((bs a1).toList == []) = false := by rw [beq_lit]; exact beq_eq_false_iff_ne.2 ha
      have q2 : (bs a1).toList.isEmpty = false := by rw [Lib.toList_data, bs_data]; cases a1 with | nil => exact absurd rfl ha | cons => rfl
      clear ha
      have HPA : Hid (∀ W, EnvU W → Calls Tryz.prog 34 #[.string (bs a1 ++ ⟨#[58]⟩ ++ bs a2)] W (RetU W (parseU (a1 ++ 58 :: a2)))) := fun W hb => by
        rw [show bs a1 ++ ⟨#[58]⟩ ++ bs a2 = bs (a1 ++ 58 :: a2) from bs_of (by simp)]
        exact parse_any _ W hb
      generalize parseU (a1 ++ 58 :: a2) = X at *
      obtain ⟨⟨qsc, qho, qpo, qpa, qqu, qhq⟩, qe⟩ := X
      unfold RetU at HPA ⊢
      simp only at HPA ⊢
      go_enter Tryz.func15, Tryz.ntmps15
      go_wp2_with fail
      refine (HA.out _ (HE.out.bel HAL.out)).mono ?_
      rintro e w1 ⟨rfl, hb1⟩
      have HB1 := Lib.hid (HAL.out.trans (hb1.mono HAL.out.size)); have HN1 := Lib.hid (HBN.out.below hb1); have HR1 := Lib.hid (HBR.out.below hb1); clear hb1
      go_wp2_with fail
      refine (HC.out _ (HE.out.bel HB1.out)).mono ?_
      rintro e w2 ⟨rfl, hb2⟩
      have HB2 := Lib.hid (HB1.out.trans (hb2.mono HB1.out.size)); have HN2 := Lib.hid (HN1.out.below hb2); have HR2 := Lib.hid (HR1.out.below hb2); clear hb2 HB1 HN1 HR1
      go_wp2_with fail
      refine (HP.out _).mono ?_
      rintro e w3 ⟨rfl, rfl⟩
      go_wp2_with fail
      refine (HPA.out _ (HE.out.bel HB2.out)).mono ?_
      rintro e w4 ⟨rfl, hb4⟩
      have HB4 := Lib.hid (HB2.out.trans (hb4.mono HB2.out.size)); have hr4 := HR2.out.below hb4; clear hb4
      have nc0 := hr4.cell 0 (.string ⟨#[]⟩) rfl
      have nc1 := hr4.cell 1 (.string ⟨#[]⟩) rfl
      have nc2 := hr4.cell 2 (.int .i64 0) rfl
      have nc3 := hr4.cell 3 (.string ⟨#[]⟩) rfl
      have nc4 := hr4.cell 4 (.string ⟨#[]⟩) rfl
      have nc5 := hr4.cell 5 (.bool false) rfl
      have nf0 := hr4.free 0
      have nf1 := hr4.free 1
      have nf2 := hr4.free 2
      have nf3 := hr4.free 3
      have nf4 := hr4.free 4
      have nf5 := hr4.free 5
      have hq0 := ((((((hr4.set 0 (.string (bs qsc))).set 1 (.string (bs qho))).set 2 (.int .i64 qpo)).set 3 (.string (bs qpa))).set 4 (.string (bs qqu))).set 5 (.bool qhq))
      simp only [List.setIfInBounds_toArray, List.set_cons_zero, List.set_cons_succ] at hq0
      have HQ := Lib.hid hq0; clear hq0
      have HBF : Hid (Below w.heap.size w ((((((w4.setCell ⟨w.heap.size + 1, 0, none⟩ (.string (bs qsc))).setCell ⟨w.heap.size + 1, 1, none⟩ (.string (bs qho))).setCell ⟨w.heap.size + 1, 2, none⟩ (.int .i64 qpo)).setCell ⟨w.heap.size + 1, 3, none⟩ (.string (bs qpa))).setCell ⟨w.heap.size + 1, 4, none⟩ (.string (bs qqu))).setCell ⟨w.heap.size + 1, 5, none⟩ (.bool qhq))) := ((((((HB4.out.setCell (p := ⟨w.heap.size + 1, 0, none⟩) (Nat.le_succ _) (.string (bs qsc))).setCell (p := ⟨w.heap.size + 1, 1, none⟩) (Nat.le_succ _) (.string (bs qho))).setCell (p := ⟨w.heap.size + 1, 2, none⟩) (Nat.le_succ _) (.int .i64 qpo)).setCell (p := ⟨w.heap.size + 1, 3, none⟩) (Nat.le_succ _) (.string (bs qpa))).setCell (p := ⟨w.heap.size + 1, 4, none⟩) (Nat.le_succ _) (.string (bs qqu))).setCell (p := ⟨w.heap.size + 1, 5, none⟩) (Nat.le_succ _) (.bool qhq))
      clear hr4
      go_wp2_with fail
      have m0 := HQ.out.cell 0 (.string (bs qsc)) rfl
      have m1 := HQ.out.cell 1 (.string (bs qho)) rfl
      have m2 := HQ.out.cell 2 (.int .i64 qpo) rfl
      have m3 := HQ.out.cell 3 (.string (bs qpa)) rfl
      have m4 := HQ.out.cell 4 (.string (bs qqu)) rfl
      have m5 := HQ.out.cell 5 (.bool qhq) rfl
      refine bodyPost_ret (v := .tuple #[.agg #[.string (bs qsc), .string (bs qho), .int .i64 qpo, .string (bs qpa), .string (bs qqu), .bool qhq], .int .i64 qe]) (by simp [results, Tryz.results15, go_sem, m0, m1, m2, m3, m4, m5]) rfl ⟨?_, HBF.out⟩
      rfl
    · rw [if_neg ha]
      obtain rfl : a1 = [] := Classical.not_not.1 ha
      clear ha k7 k6
      have z1 : ((bs []).toList == []) = true := by rw [beq_lit]; rfl
      have z2 : (bs []).toList.isEmpty = true := by rw [Lib.toList_data, bs_data]; rfl
      by_cases hp : p = []
      · subst hp
        cases h
        · have hR : relU ⟨sc, ho, po, pa, qu, hq⟩ [] q false = ⟨sc, ho, po, pa, qu, hq⟩ := by rfl
          rw [hR]
          clear hR
          have HCK : Hid (∀ W, EnvU W → Calls Tryz.prog 10 #[.agg #[.string (bs sc), .string (bs ho), .int .i64 po, .string (bs pa), .string (bs qu), .bool hq]] W fun e w' => e = .returned (.int .i64 (Ur.check ⟨sc, ho, po, pa, qu, hq⟩)) ∧ Below W.heap.size W w') := fun W hb => uriCheck_any ⟨sc, ho, po, pa, qu, hq⟩ W hb ⟨by simp only; omega, by simp only; omega, by simp only; omega⟩
          generalize Ur.check ⟨sc, ho, po, pa, qu, hq⟩ = k at *
          show Calls Tryz.prog 15 _ w fun e w' => e = .returned (.tuple #[.agg #[.string (bs sc), .string (bs ho), .int .i64 po, .string (bs pa), .string (bs qu), .bool hq], .int .i64 k]) ∧ Below w.heap.size w w'
          go_enter Tryz.func15, Tryz.ntmps15
          go_wp2_with fail
          refine (HA.out _ (HE.out.bel HAL.out)).mono ?_
          rintro e w1 ⟨rfl, hb1⟩
          have HB1 := Lib.hid (HAL.out.trans (hb1.mono HAL.out.size)); have HN1 := Lib.hid (HBN.out.below hb1); have HR1 := Lib.hid (HBR.out.below hb1); clear hb1
          go_wp2_with fail
          refine (HC.out _ (HE.out.bel HB1.out)).mono ?_
          rintro e w2 ⟨rfl, hb2⟩
          have HB2 := Lib.hid (HB1.out.trans (hb2.mono HB1.out.size)); have HN2 := Lib.hid (HN1.out.below hb2); have HR2 := Lib.hid (HR1.out.below hb2); clear hb2 HB1 HN1 HR1
          go_wp2_with fail
          refine (HP.out _).mono ?_
          rintro e w3 ⟨rfl, rfl⟩
          have bc0 := HN2.out.cell 0 (.string (bs sc)) rfl
          have bc1 := HN2.out.cell 1 (.string (bs ho)) rfl
          have bc2 := HN2.out.cell 2 (.int .i64 po) rfl
          have bc3 := HN2.out.cell 3 (.string (bs pa)) rfl
          have bc4 := HN2.out.cell 4 (.string (bs qu)) rfl
          have bc5 := HN2.out.cell 5 (.bool hq) rfl
          go_wp2_with fail
          go_quiet (fail)
          have hN3 : ubk (w2.drewN nq) w.heap.size #[.string (bs sc), .string (bs ho), .int .i64 po, .string (bs pa), .string (bs qu), .bool hq] := HN2.out.keep rfl
          have hR3 : ubk (w2.drewN nq) (w.heap.size + 1) #[.string ⟨#[]⟩, .string ⟨#[]⟩, .int .i64 0, .string ⟨#[]⟩, .string ⟨#[]⟩, .bool false] := HR2.out.keep rfl
          have HB3 : Hid (Below w.heap.size w (w2.drewN nq)) := ⟨HB2.out.os, HB2.out.tape, HB2.out.output, HB2.out.size, HB2.out.block⟩
          clear bc0 bc1 bc2 bc3 bc4 bc5 HN2 HR2 HB2
          generalize w2.drewN nq = x1 at *
          have HN3 := Lib.hid hN3; have HR3 := Lib.hid hR3; clear hN3 hR3
          have bc0 := HN3.out.cell 0 (.string (bs sc)) rfl
          have bc1 := HN3.out.cell 1 (.string (bs ho)) rfl
          have bc2 := HN3.out.cell 2 (.int .i64 po) rfl
          have bc3 := HN3.out.cell 3 (.string (bs pa)) rfl
          have bc4 := HN3.out.cell 4 (.string (bs qu)) rfl
          have bc5 := HN3.out.cell 5 (.bool hq) rfl
          go_wp2_with fail
          have hE0 : ubk (x1.alloc (.cells #[.string (bs sc), .string (bs ho), .int .i64 po, .string (bs pa), .string (bs qu), .bool hq] 23)).drew x1.heap.size #[.string (bs sc), .string (bs ho), .int .i64 po, .string (bs pa), .string (bs qu), .bool hq] := (ubk.new x1 #[.string (bs sc), .string (bs ho), .int .i64 po, .string (bs pa), .string (bs qu), .bool hq] 23).keep rfl
          have HRD : Hid (ubk (x1.alloc (.cells #[.string (bs sc), .string (bs ho), .int .i64 po, .string (bs pa), .string (bs qu), .bool hq] 23)).drew (w.heap.size + 1) #[.string ⟨#[]⟩, .string ⟨#[]⟩, .int .i64 0, .string ⟨#[]⟩, .string ⟨#[]⟩, .bool false]) := (HR3.out.alloc (.cells #[.string (bs sc), .string (bs ho), .int .i64 po, .string (bs pa), .string (bs qu), .bool hq] 23)).keep rfl
          have hd1 : Below x1.heap.size x1 (x1.alloc (.cells #[.string (bs sc), .string (bs ho), .int .i64 po, .string (bs pa), .string (bs qu), .bool hq] 23)).drew := ((Below.refl _ _).alloc (Nat.le_refl _) _).drew
          have HBD : Hid (Below w.heap.size w (x1.alloc (.cells #[.string (bs sc), .string (bs ho), .int .i64 po, .string (bs pa), .string (bs qu), .bool hq] 23)).drew) := HB3.out.trans (hd1.mono HB3.out.size)
          have hne : x1.heap.size ≠ w.heap.size + 1 := Nat.ne_of_gt HR3.out.lt
          have HNE := Lib.hid hne
          have HE0 := Lib.hid hE0
          clear hd1 hne hE0
          refine wp_region_growS (.one 0 false (.one 1 false (.one 2 true (.one 3 true (.one 4 false .done)))))
            (fun W => ubk W (x1.heap.size) #[.string (bs sc), .string (bs ho), .int .i64 po, .string (bs pa), .string (bs qu), .bool hq]) (by kernel_rfl) (by kernel_rfl) rfl (by kernel_rfl) (by kernel_rfl) HE0.out (fun ops hops => ?_)
          simp only [GT.ins, List.getD_cons_zero, List.getD_cons_succ]
          clear hops
          iterate 2
            refine growS_take (by rfl) ?_
            apply Exists.intro
            refine ⟨fun w' hE => ?_, ?_⟩
            · have yc0 := hE.cell 0 (.string (bs sc)) rfl; have yc1 := hE.cell 1 (.string (bs ho)) rfl; have yc2 := hE.cell 2 (.int .i64 po) rfl; have yc3 := hE.cell 3 (.string (bs pa)) rfl; have yc4 := hE.cell 4 (.string (bs qu)) rfl; have yc5 := hE.cell 5 (.bool hq) rfl
              go_simp
              try with_reducible rfl
            simp only [Act.put, List.setIfInBounds_toArray, List.set_cons_zero, List.set_cons_succ]
          refine growS_call (by rfl) (fun K hK => ?_)
          go_simp
          refine (HCK.out _ (HE.out.bel HBD.out)).mono ?_
          rintro e w5 ⟨rfl, hb5⟩
          have hE5 := HE0.out.below hb5
          refine hK.out _ _ hE5 ?_
          have HB5 := Lib.hid (HBD.out.trans (hb5.mono HBD.out.size)); have hr5 := HRD.out.below hb5; have HE5 := Lib.hid hE5
          clear hK K hb5 hE5
          refine growS_call (by rfl) (fun K hK => ?_)
          have nc0 := hr5.cell 0 (.string ⟨#[]⟩) rfl
          have nc1 := hr5.cell 1 (.string ⟨#[]⟩) rfl
          have nc2 := hr5.cell 2 (.int .i64 0) rfl
          have nc3 := hr5.cell 3 (.string ⟨#[]⟩) rfl
          have nc4 := hr5.cell 4 (.string ⟨#[]⟩) rfl
          have nc5 := hr5.cell 5 (.bool false) rfl
          have nf0 := hr5.free 0
          have nf1 := hr5.free 1
          have nf2 := hr5.free 2
          have nf3 := hr5.free 3
          have nf4 := hr5.free 4
          have nf5 := hr5.free 5
          have hq0 := ((((((hr5.set 0 (.string (bs sc))).set 1 (.string (bs ho))).set 2 (.int .i64 po)).set 3 (.string (bs pa))).set 4 (.string (bs qu))).set 5 (.bool hq))
          simp only [List.setIfInBounds_toArray, List.set_cons_zero, List.set_cons_succ] at hq0
          have HQ := Lib.hid hq0; clear hq0
          have HBF : Hid (Below w.heap.size w ((((((w5.setCell ⟨w.heap.size + 1, 0, none⟩ (.string (bs sc))).setCell ⟨w.heap.size + 1, 1, none⟩ (.string (bs ho))).setCell ⟨w.heap.size + 1, 2, none⟩ (.int .i64 po)).setCell ⟨w.heap.size + 1, 3, none⟩ (.string (bs pa))).setCell ⟨w.heap.size + 1, 4, none⟩ (.string (bs qu))).setCell ⟨w.heap.size + 1, 5, none⟩ (.bool hq))) := ((((((HB5.out.setCell (p := ⟨w.heap.size + 1, 0, none⟩) (Nat.le_succ _) (.string (bs sc))).setCell (p := ⟨w.heap.size + 1, 1, none⟩) (Nat.le_succ _) (.string (bs ho))).setCell (p := ⟨w.heap.size + 1, 2, none⟩) (Nat.le_succ _) (.int .i64 po)).setCell (p := ⟨w.heap.size + 1, 3, none⟩) (Nat.le_succ _) (.string (bs pa))).setCell (p := ⟨w.heap.size + 1, 4, none⟩) (Nat.le_succ _) (.string (bs qu))).setCell (p := ⟨w.heap.size + 1, 5, none⟩) (Nat.le_succ _) (.bool hq))
          have HE6 := Lib.hid ((((((HE5.out.other (a := ⟨w.heap.size + 1, 0, none⟩) HNE.out (.string (bs sc))).other (a := ⟨w.heap.size + 1, 1, none⟩) HNE.out (.string (bs ho))).other (a := ⟨w.heap.size + 1, 2, none⟩) HNE.out (.int .i64 po)).other (a := ⟨w.heap.size + 1, 3, none⟩) HNE.out (.string (bs pa))).other (a := ⟨w.heap.size + 1, 4, none⟩) HNE.out (.string (bs qu))).other (a := ⟨w.heap.size + 1, 5, none⟩) HNE.out (.bool hq))
          go_simp
          refine hK.out _ _ HE6.out ?_
          clear hK K hr5 nc0 nc1 nc2 nc3 nc4 nc5 nf0 nf1 nf2 nf3 nf4 nf5
          iterate 1
            refine growS_take (by rfl) ?_
            apply Exists.intro
            refine ⟨fun w' hE => ?_, ?_⟩
            · have yc0 := hE.cell 0 (.string (bs sc)) rfl; have yc1 := hE.cell 1 (.string (bs ho)) rfl; have yc2 := hE.cell 2 (.int .i64 po) rfl; have yc3 := hE.cell 3 (.string (bs pa)) rfl; have yc4 := hE.cell 4 (.string (bs qu)) rfl; have yc5 := hE.cell 5 (.bool hq) rfl
              go_simp
              try with_reducible rfl
            simp only [Act.put, List.setIfInBounds_toArray, List.set_cons_zero, List.set_cons_succ]
          refine growS_done (NoPanic.normal ?_)
          go_wp2_with fail
          have m0 := HQ.out.cell 0 (.string (bs sc)) rfl
          have m1 := HQ.out.cell 1 (.string (bs ho)) rfl
          have m2 := HQ.out.cell 2 (.int .i64 po) rfl
          have m3 := HQ.out.cell 3 (.string (bs pa)) rfl
          have m4 := HQ.out.cell 4 (.string (bs qu)) rfl
          have m5 := HQ.out.cell 5 (.bool hq) rfl
          refine bodyPost_ret (v := .tuple #[.agg #[.string (bs sc), .string (bs ho), .int .i64 po, .string (bs pa), .string (bs qu), .bool hq], .int .i64 k]) (by simp [results, Tryz.results15, go_sem, m0, m1, m2, m3, m4, m5]) rfl ⟨?_, HBF.out⟩
          rfl
        · have hR : relU ⟨sc, ho, po, pa, qu, hq⟩ [] q true = ⟨sc, ho, po, pa, q, true⟩ := by rfl
          rw [hR]
          clear hR
          have HCK : Hid (∀ W, EnvU W → Calls Tryz.prog 10 #[.agg #[.string (bs sc), .string (bs ho), .int .i64 po, .string (bs pa), .string (bs q), .bool true]] W fun e w' => e = .returned (.int .i64 (Ur.check ⟨sc, ho, po, pa, q, true⟩)) ∧ Below W.heap.size W w') := fun W hb => uriCheck_any ⟨sc, ho, po, pa, q, true⟩ W hb ⟨by simp only; omega, by simp only; omega, by simp only; omega⟩
          generalize Ur.check ⟨sc, ho, po, pa, q, true⟩ = k at *
          show Calls Tryz.prog 15 _ w fun e w' => e = .returned (.tuple #[.agg #[.string (bs sc), .string (bs ho), .int .i64 po, .string (bs pa), .string (bs q), .bool true], .int .i64 k]) ∧ Below w.heap.size w w'
          go_enter Tryz.func15, Tryz.ntmps15
          go_wp2_with fail
          refine (HA.out _ (HE.out.bel HAL.out)).mono ?_
          rintro e w1 ⟨rfl, hb1⟩
          have HB1 := Lib.hid (HAL.out.trans (hb1.mono HAL.out.size)); have HN1 := Lib.hid (HBN.out.below hb1); have HR1 := Lib.hid (HBR.out.below hb1); clear hb1
          go_wp2_with fail
          refine (HC.out _ (HE.out.bel HB1.out)).mono ?_
          rintro e w2 ⟨rfl, hb2⟩
          have HB2 := Lib.hid (HB1.out.trans (hb2.mono HB1.out.size)); have HN2 := Lib.hid (HN1.out.below hb2); have HR2 := Lib.hid (HR1.out.below hb2); clear hb2 HB1 HN1 HR1
          go_wp2_with fail
          refine (HP.out _).mono ?_
          rintro e w3 ⟨rfl, rfl⟩
          have bc0 := HN2.out.cell 0 (.string (bs sc)) rfl
          have bc1 := HN2.out.cell 1 (.string (bs ho)) rfl
          have bc2 := HN2.out.cell 2 (.int .i64 po) rfl
          have bc3 := HN2.out.cell 3 (.string (bs pa)) rfl
          have bc4 := HN2.out.cell 4 (.string (bs qu)) rfl
          have bc5 := HN2.out.cell 5 (.bool hq) rfl
          go_wp2_with fail
          have hE0 : ubk (w2.alloc (.cells #[.string (bs sc), .string (bs ho), .int .i64 po, .string (bs pa), .string (bs q), .bool true] 23)).drew w2.heap.size #[.string (bs sc), .string (bs ho), .int .i64 po, .string (bs pa), .string (bs q), .bool true] := (ubk.new w2 #[.string (bs sc), .string (bs ho), .int .i64 po, .string (bs pa), .string (bs q), .bool true] 23).keep rfl
          have HRD : Hid (ubk (w2.alloc (.cells #[.string (bs sc), .string (bs ho), .int .i64 po, .string (bs pa), .string (bs q), .bool true] 23)).drew (w.heap.size + 1) #[.string ⟨#[]⟩, .string ⟨#[]⟩, .int .i64 0, .string ⟨#[]⟩, .string ⟨#[]⟩, .bool false]) := (HR2.out.alloc (.cells #[.string (bs sc), .string (bs ho), .int .i64 po, .string (bs pa), .string (bs q), .bool true] 23)).keep rfl
          have hd1 : Below w2.heap.size w2 (w2.alloc (.cells #[.string (bs sc), .string (bs ho), .int .i64 po, .string (bs pa), .string (bs q), .bool true] 23)).drew := ((Below.refl _ _).alloc (Nat.le_refl _) _).drew
          have HBD : Hid (Below w.heap.size w (w2.alloc (.cells #[.string (bs sc), .string (bs ho), .int .i64 po, .string (bs pa), .string (bs q), .bool true] 23)).drew) := HB2.out.trans (hd1.mono HB2.out.size)
          have hne : w2.heap.size ≠ w.heap.size + 1 := Nat.ne_of_gt HR2.out.lt
          have HNE := Lib.hid hne
          have HE0 := Lib.hid hE0
          clear hd1 hne hE0
          refine wp_region_growS (.one 0 false (.one 1 false (.one 2 true (.one 3 true (.one 4 false .done)))))
            (fun W => ubk W (w2.heap.size) #[.string (bs sc), .string (bs ho), .int .i64 po, .string (bs pa), .string (bs q), .bool true]) (by kernel_rfl) (by kernel_rfl) rfl (by kernel_rfl) (by kernel_rfl) HE0.out (fun ops hops => ?_)
          simp only [GT.ins, List.getD_cons_zero, List.getD_cons_succ]
          clear hops
          iterate 2
            refine growS_take (by rfl) ?_
            apply Exists.intro
            refine ⟨fun w' hE => ?_, ?_⟩
            · have yc0 := hE.cell 0 (.string (bs sc)) rfl; have yc1 := hE.cell 1 (.string (bs ho)) rfl; have yc2 := hE.cell 2 (.int .i64 po) rfl; have yc3 := hE.cell 3 (.string (bs pa)) rfl; have yc4 := hE.cell 4 (.string (bs q)) rfl; have yc5 := hE.cell 5 (.bool true) rfl
              go_simp
              try with_reducible rfl
            simp only [Act.put, List.setIfInBounds_toArray, List.set_cons_zero, List.set_cons_succ]
          refine growS_call (by rfl) (fun K hK => ?_)
          go_simp
          refine (HCK.out _ (HE.out.bel HBD.out)).mono ?_
          rintro e w5 ⟨rfl, hb5⟩
          have hE5 := HE0.out.below hb5
          refine hK.out _ _ hE5 ?_
          have HB5 := Lib.hid (HBD.out.trans (hb5.mono HBD.out.size)); have hr5 := HRD.out.below hb5; have HE5 := Lib.hid hE5
          clear hK K hb5 hE5
          refine growS_call (by rfl) (fun K hK => ?_)
          have nc0 := hr5.cell 0 (.string ⟨#[]⟩) rfl
          have nc1 := hr5.cell 1 (.string ⟨#[]⟩) rfl
          have nc2 := hr5.cell 2 (.int .i64 0) rfl
          have nc3 := hr5.cell 3 (.string ⟨#[]⟩) rfl
          have nc4 := hr5.cell 4 (.string ⟨#[]⟩) rfl
          have nc5 := hr5.cell 5 (.bool false) rfl
          have nf0 := hr5.free 0
          have nf1 := hr5.free 1
          have nf2 := hr5.free 2
          have nf3 := hr5.free 3
          have nf4 := hr5.free 4
          have nf5 := hr5.free 5
          have hq0 := ((((((hr5.set 0 (.string (bs sc))).set 1 (.string (bs ho))).set 2 (.int .i64 po)).set 3 (.string (bs pa))).set 4 (.string (bs q))).set 5 (.bool true))
          simp only [List.setIfInBounds_toArray, List.set_cons_zero, List.set_cons_succ] at hq0
          have HQ := Lib.hid hq0; clear hq0
          have HBF : Hid (Below w.heap.size w ((((((w5.setCell ⟨w.heap.size + 1, 0, none⟩ (.string (bs sc))).setCell ⟨w.heap.size + 1, 1, none⟩ (.string (bs ho))).setCell ⟨w.heap.size + 1, 2, none⟩ (.int .i64 po)).setCell ⟨w.heap.size + 1, 3, none⟩ (.string (bs pa))).setCell ⟨w.heap.size + 1, 4, none⟩ (.string (bs q))).setCell ⟨w.heap.size + 1, 5, none⟩ (.bool true))) := ((((((HB5.out.setCell (p := ⟨w.heap.size + 1, 0, none⟩) (Nat.le_succ _) (.string (bs sc))).setCell (p := ⟨w.heap.size + 1, 1, none⟩) (Nat.le_succ _) (.string (bs ho))).setCell (p := ⟨w.heap.size + 1, 2, none⟩) (Nat.le_succ _) (.int .i64 po)).setCell (p := ⟨w.heap.size + 1, 3, none⟩) (Nat.le_succ _) (.string (bs pa))).setCell (p := ⟨w.heap.size + 1, 4, none⟩) (Nat.le_succ _) (.string (bs q))).setCell (p := ⟨w.heap.size + 1, 5, none⟩) (Nat.le_succ _) (.bool true))
          have HE6 := Lib.hid ((((((HE5.out.other (a := ⟨w.heap.size + 1, 0, none⟩) HNE.out (.string (bs sc))).other (a := ⟨w.heap.size + 1, 1, none⟩) HNE.out (.string (bs ho))).other (a := ⟨w.heap.size + 1, 2, none⟩) HNE.out (.int .i64 po)).other (a := ⟨w.heap.size + 1, 3, none⟩) HNE.out (.string (bs pa))).other (a := ⟨w.heap.size + 1, 4, none⟩) HNE.out (.string (bs q))).other (a := ⟨w.heap.size + 1, 5, none⟩) HNE.out (.bool true))
          go_simp
          refine hK.out _ _ HE6.out ?_
          clear hK K hr5 nc0 nc1 nc2 nc3 nc4 nc5 nf0 nf1 nf2 nf3 nf4 nf5
          iterate 1
            refine growS_take (by rfl) ?_
            apply Exists.intro
            refine ⟨fun w' hE => ?_, ?_⟩
            · have yc0 := hE.cell 0 (.string (bs sc)) rfl; have yc1 := hE.cell 1 (.string (bs ho)) rfl; have yc2 := hE.cell 2 (.int .i64 po) rfl; have yc3 := hE.cell 3 (.string (bs pa)) rfl; have yc4 := hE.cell 4 (.string (bs q)) rfl; have yc5 := hE.cell 5 (.bool true) rfl
              go_simp
              try with_reducible rfl
            simp only [Act.put, List.setIfInBounds_toArray, List.set_cons_zero, List.set_cons_succ]
          refine growS_done (NoPanic.normal ?_)
          go_wp2_with fail
          have m0 := HQ.out.cell 0 (.string (bs sc)) rfl
          have m1 := HQ.out.cell 1 (.string (bs ho)) rfl
          have m2 := HQ.out.cell 2 (.int .i64 po) rfl
          have m3 := HQ.out.cell 3 (.string (bs pa)) rfl
          have m4 := HQ.out.cell 4 (.string (bs q)) rfl
          have m5 := HQ.out.cell 5 (.bool true) rfl
          refine bodyPost_ret (v := .tuple #[.agg #[.string (bs sc), .string (bs ho), .int .i64 po, .string (bs pa), .string (bs q), .bool true], .int .i64 k]) (by simp [results, Tryz.results15, go_sem, m0, m1, m2, m3, m4, m5]) rfl ⟨?_, HBF.out⟩
          rfl
      · have q1 : ((bs p).toList == []) = false := by rw [beq_lit]; exact beq_eq_false_iff_ne.2 hp
        have q2 : (bs p).toList.isEmpty = false := by rw [Lib.toList_data, bs_data]; cases p with | nil => exact absurd rfl hp | cons => rfl
        have HF := Lib.hid (fun W => prefixU_any p [47] W)
        cases hf : Lib.hasPrefix p [47]
        · rw [hf] at HF
          have hd : (dirOf pa ++ p).length ≤ 2048 := by have := dir_len pa; simp only [List.length_append]; omega
          have hD : (bs pa).extract 0 (Lib.lastIndex pa [47] + 1).toNat ++ bs p = bs (dirOf pa ++ p) := by rw [ext_of]; exact bs_of (by rw [ByteArray.data_append, Array.toList_append, bs_data, bs_data]; rfl)
          have HLI := Lib.hid (fun W => lastI_any pa W (by omega))
          obtain ⟨i1, i2⟩ := lastI_in pa
          have hR : relU ⟨sc, ho, po, pa, qu, hq⟩ p q h = ⟨sc, ho, po, dirOf pa ++ p, q, h⟩ := by unfold relU; rw [if_neg hp, hf, if_neg (by decide)]
          rw [hR]
          clear hR
          have HCK : Hid (∀ W, EnvU W → Calls Tryz.prog 10 #[.agg #[.string (bs sc), .string (bs ho), .int .i64 po, .string (bs (dirOf pa ++ p)), .string (bs q), .bool h]] W fun e w' => e = .returned (.int .i64 (Ur.check ⟨sc, ho, po, dirOf pa ++ p, q, h⟩)) ∧ Below W.heap.size W w') := fun W hb => uriCheck_any ⟨sc, ho, po, dirOf pa ++ p, q, h⟩ W hb ⟨by simp only; omega, by simp only; omega, by simp only; omega⟩
          generalize Ur.check ⟨sc, ho, po, dirOf pa ++ p, q, h⟩ = k at *
          generalize dirOf pa ++ p = d at *
          have HD := Lib.hid hD; clear hD hp hf
          generalize Lib.lastIndex pa [47] = li at *
          have i3 : li + 1 ≤ ((bs pa).size : Int) := by rw [bs_size]; exact i2
          have i4 := IntWalk.i64_in (li + 1) (by omega)
          clear i2
          show Calls Tryz.prog 15 _ w fun e w' => e = .returned (.tuple #[.agg #[.string (bs sc), .string (bs ho), .int .i64 po, .string (bs d), .string (bs q), .bool h], .int .i64 k]) ∧ Below w.heap.size w w'
          go_enter Tryz.func15, Tryz.ntmps15
          go_wp2_with fail
          refine (HA.out _ (HE.out.bel HAL.out)).mono ?_
          rintro e w1 ⟨rfl, hb1⟩
          have HB1 := Lib.hid (HAL.out.trans (hb1.mono HAL.out.size)); have HN1 := Lib.hid (HBN.out.below hb1); have HR1 := Lib.hid (HBR.out.below hb1); clear hb1
          go_wp2_with fail
          refine (HC.out _ (HE.out.bel HB1.out)).mono ?_
          rintro e w2 ⟨rfl, hb2⟩
          have HB2 := Lib.hid (HB1.out.trans (hb2.mono HB1.out.size)); have HN2 := Lib.hid (HN1.out.below hb2); have HR2 := Lib.hid (HR1.out.below hb2); clear hb2 HB1 HN1 HR1
          go_wp2_with fail
          refine (HP.out _).mono ?_
          rintro e w3 ⟨rfl, rfl⟩
          have bc0 := HN2.out.cell 0 (.string (bs sc)) rfl
          have bc1 := HN2.out.cell 1 (.string (bs ho)) rfl
          have bc2 := HN2.out.cell 2 (.int .i64 po) rfl
          have bc3 := HN2.out.cell 3 (.string (bs pa)) rfl
          have bc4 := HN2.out.cell 4 (.string (bs qu)) rfl
          have bc5 := HN2.out.cell 5 (.bool hq) rfl
          go_wp2_with fail
          refine (HF.out _).mono ?_
          rintro e w4 ⟨rfl, rfl⟩
          go_wp2_with fail
          go_quiet ((go_at_call 35; exact Calls.quiet_of_same ((HLI.out _).mono fun _ _ h => ⟨h.1, h.2.symm⟩)))
          have hN3 : ubk (w2.drewN nq) w.heap.size #[.string (bs sc), .string (bs ho), .int .i64 po, .string (bs pa), .string (bs qu), .bool hq] := HN2.out.keep rfl
          have hR3 : ubk (w2.drewN nq) (w.heap.size + 1) #[.string ⟨#[]⟩, .string ⟨#[]⟩, .int .i64 0, .string ⟨#[]⟩, .string ⟨#[]⟩, .bool false] := HR2.out.keep rfl
          have HB3 : Hid (Below w.heap.size w (w2.drewN nq)) := ⟨HB2.out.os, HB2.out.tape, HB2.out.output, HB2.out.size, HB2.out.block⟩
          clear bc0 bc1 bc2 bc3 bc4 bc5 HN2 HR2 HB2
          generalize w2.drewN nq = x1 at *
          have HN3 := Lib.hid hN3; have HR3 := Lib.hid hR3; clear hN3 hR3
          have bc0 := HN3.out.cell 0 (.string (bs sc)) rfl
          have bc1 := HN3.out.cell 1 (.string (bs ho)) rfl
          have bc2 := HN3.out.cell 2 (.int .i64 po) rfl
          have bc3 := HN3.out.cell 3 (.string (bs pa)) rfl
          have bc4 := HN3.out.cell 4 (.string (bs qu)) rfl
          have bc5 := HN3.out.cell 5 (.bool hq) rfl
          rw [HD.out]
          go_wp2_with fail
          have hE0 : ubk (x1.alloc (.cells #[.string (bs sc), .string (bs ho), .int .i64 po, .string (bs d), .string (bs q), .bool h] 23)).drew x1.heap.size #[.string (bs sc), .string (bs ho), .int .i64 po, .string (bs d), .string (bs q), .bool h] := (ubk.new x1 #[.string (bs sc), .string (bs ho), .int .i64 po, .string (bs d), .string (bs q), .bool h] 23).keep rfl
          have HRD : Hid (ubk (x1.alloc (.cells #[.string (bs sc), .string (bs ho), .int .i64 po, .string (bs d), .string (bs q), .bool h] 23)).drew (w.heap.size + 1) #[.string ⟨#[]⟩, .string ⟨#[]⟩, .int .i64 0, .string ⟨#[]⟩, .string ⟨#[]⟩, .bool false]) := (HR3.out.alloc (.cells #[.string (bs sc), .string (bs ho), .int .i64 po, .string (bs d), .string (bs q), .bool h] 23)).keep rfl
          have hd1 : Below x1.heap.size x1 (x1.alloc (.cells #[.string (bs sc), .string (bs ho), .int .i64 po, .string (bs d), .string (bs q), .bool h] 23)).drew := ((Below.refl _ _).alloc (Nat.le_refl _) _).drew
          have HBD : Hid (Below w.heap.size w (x1.alloc (.cells #[.string (bs sc), .string (bs ho), .int .i64 po, .string (bs d), .string (bs q), .bool h] 23)).drew) := HB3.out.trans (hd1.mono HB3.out.size)
          have hne : x1.heap.size ≠ w.heap.size + 1 := Nat.ne_of_gt HR3.out.lt
          have HNE := Lib.hid hne
          have HE0 := Lib.hid hE0
          clear hd1 hne hE0
          refine wp_region_growS (.one 0 false (.one 1 false (.one 2 true (.one 3 true (.one 4 false .done)))))
            (fun W => ubk W (x1.heap.size) #[.string (bs sc), .string (bs ho), .int .i64 po, .string (bs d), .string (bs q), .bool h]) (by kernel_rfl) (by kernel_rfl) rfl (by kernel_rfl) (by kernel_rfl) HE0.out (fun ops hops => ?_)
          simp only [GT.ins, List.getD_cons_zero, List.getD_cons_succ]
          clear hops
          iterate 2
            refine growS_take (by rfl) ?_
            apply Exists.intro
            refine ⟨fun w' hE => ?_, ?_⟩
            · have yc0 := hE.cell 0 (.string (bs sc)) rfl; have yc1 := hE.cell 1 (.string (bs ho)) rfl; have yc2 := hE.cell 2 (.int .i64 po) rfl; have yc3 := hE.cell 3 (.string (bs d)) rfl; have yc4 := hE.cell 4 (.string (bs q)) rfl; have yc5 := hE.cell 5 (.bool h) rfl
              go_simp
              try with_reducible rfl
            simp only [Act.put, List.setIfInBounds_toArray, List.set_cons_zero, List.set_cons_succ]
          refine growS_call (by rfl) (fun K hK => ?_)
          go_simp
          refine (HCK.out _ (HE.out.bel HBD.out)).mono ?_
          rintro e w5 ⟨rfl, hb5⟩
          have hE5 := HE0.out.below hb5
          refine hK.out _ _ hE5 ?_
          have HB5 := Lib.hid (HBD.out.trans (hb5.mono HBD.out.size)); have hr5 := HRD.out.below hb5; have HE5 := Lib.hid hE5
          clear hK K hb5 hE5
          refine growS_call (by rfl) (fun K hK => ?_)
          have nc0 := hr5.cell 0 (.string ⟨#[]⟩) rfl
          have nc1 := hr5.cell 1 (.string ⟨#[]⟩) rfl
          have nc2 := hr5.cell 2 (.int .i64 0) rfl
          have nc3 := hr5.cell 3 (.string ⟨#[]⟩) rfl
          have nc4 := hr5.cell 4 (.string ⟨#[]⟩) rfl
          have nc5 := hr5.cell 5 (.bool false) rfl
          have nf0 := hr5.free 0
          have nf1 := hr5.free 1
          have nf2 := hr5.free 2
          have nf3 := hr5.free 3
          have nf4 := hr5.free 4
          have nf5 := hr5.free 5
          have hq0 := ((((((hr5.set 0 (.string (bs sc))).set 1 (.string (bs ho))).set 2 (.int .i64 po)).set 3 (.string (bs d))).set 4 (.string (bs q))).set 5 (.bool h))
          simp only [List.setIfInBounds_toArray, List.set_cons_zero, List.set_cons_succ] at hq0
          have HQ := Lib.hid hq0; clear hq0
          have HBF : Hid (Below w.heap.size w ((((((w5.setCell ⟨w.heap.size + 1, 0, none⟩ (.string (bs sc))).setCell ⟨w.heap.size + 1, 1, none⟩ (.string (bs ho))).setCell ⟨w.heap.size + 1, 2, none⟩ (.int .i64 po)).setCell ⟨w.heap.size + 1, 3, none⟩ (.string (bs d))).setCell ⟨w.heap.size + 1, 4, none⟩ (.string (bs q))).setCell ⟨w.heap.size + 1, 5, none⟩ (.bool h))) := ((((((HB5.out.setCell (p := ⟨w.heap.size + 1, 0, none⟩) (Nat.le_succ _) (.string (bs sc))).setCell (p := ⟨w.heap.size + 1, 1, none⟩) (Nat.le_succ _) (.string (bs ho))).setCell (p := ⟨w.heap.size + 1, 2, none⟩) (Nat.le_succ _) (.int .i64 po)).setCell (p := ⟨w.heap.size + 1, 3, none⟩) (Nat.le_succ _) (.string (bs d))).setCell (p := ⟨w.heap.size + 1, 4, none⟩) (Nat.le_succ _) (.string (bs q))).setCell (p := ⟨w.heap.size + 1, 5, none⟩) (Nat.le_succ _) (.bool h))
          have HE6 := Lib.hid ((((((HE5.out.other (a := ⟨w.heap.size + 1, 0, none⟩) HNE.out (.string (bs sc))).other (a := ⟨w.heap.size + 1, 1, none⟩) HNE.out (.string (bs ho))).other (a := ⟨w.heap.size + 1, 2, none⟩) HNE.out (.int .i64 po)).other (a := ⟨w.heap.size + 1, 3, none⟩) HNE.out (.string (bs d))).other (a := ⟨w.heap.size + 1, 4, none⟩) HNE.out (.string (bs q))).other (a := ⟨w.heap.size + 1, 5, none⟩) HNE.out (.bool h))
          go_simp
          refine hK.out _ _ HE6.out ?_
          clear hK K hr5 nc0 nc1 nc2 nc3 nc4 nc5 nf0 nf1 nf2 nf3 nf4 nf5
          iterate 1
            refine growS_take (by rfl) ?_
            apply Exists.intro
            refine ⟨fun w' hE => ?_, ?_⟩
            · have yc0 := hE.cell 0 (.string (bs sc)) rfl; have yc1 := hE.cell 1 (.string (bs ho)) rfl; have yc2 := hE.cell 2 (.int .i64 po) rfl; have yc3 := hE.cell 3 (.string (bs d)) rfl; have yc4 := hE.cell 4 (.string (bs q)) rfl; have yc5 := hE.cell 5 (.bool h) rfl
              go_simp
              try with_reducible rfl
            simp only [Act.put, List.setIfInBounds_toArray, List.set_cons_zero, List.set_cons_succ]
          refine growS_done (NoPanic.normal ?_)
          go_wp2_with fail
          have m0 := HQ.out.cell 0 (.string (bs sc)) rfl
          have m1 := HQ.out.cell 1 (.string (bs ho)) rfl
          have m2 := HQ.out.cell 2 (.int .i64 po) rfl
          have m3 := HQ.out.cell 3 (.string (bs d)) rfl
          have m4 := HQ.out.cell 4 (.string (bs q)) rfl
          have m5 := HQ.out.cell 5 (.bool h) rfl
          refine bodyPost_ret (v := .tuple #[.agg #[.string (bs sc), .string (bs ho), .int .i64 po, .string (bs d), .string (bs q), .bool h], .int .i64 k]) (by simp [results, Tryz.results15, go_sem, m0, m1, m2, m3, m4, m5]) rfl ⟨?_, HBF.out⟩
          rfl
        · rw [hf] at HF
          have hR : relU ⟨sc, ho, po, pa, qu, hq⟩ p q h = ⟨sc, ho, po, p, q, h⟩ := by unfold relU; rw [if_neg hp, hf, if_pos rfl]
          rw [hR]
          clear hR
          have HCK : Hid (∀ W, EnvU W → Calls Tryz.prog 10 #[.agg #[.string (bs sc), .string (bs ho), .int .i64 po, .string (bs p), .string (bs q), .bool h]] W fun e w' => e = .returned (.int .i64 (Ur.check ⟨sc, ho, po, p, q, h⟩)) ∧ Below W.heap.size W w') := fun W hb => uriCheck_any ⟨sc, ho, po, p, q, h⟩ W hb ⟨by simp only; omega, by simp only; omega, by simp only; omega⟩
          generalize Ur.check ⟨sc, ho, po, p, q, h⟩ = k at *
          show Calls Tryz.prog 15 _ w fun e w' => e = .returned (.tuple #[.agg #[.string (bs sc), .string (bs ho), .int .i64 po, .string (bs p), .string (bs q), .bool h], .int .i64 k]) ∧ Below w.heap.size w w'
          clear hp hf
          go_enter Tryz.func15, Tryz.ntmps15
          go_wp2_with fail
          refine (HA.out _ (HE.out.bel HAL.out)).mono ?_
          rintro e w1 ⟨rfl, hb1⟩
          have HB1 := Lib.hid (HAL.out.trans (hb1.mono HAL.out.size)); have HN1 := Lib.hid (HBN.out.below hb1); have HR1 := Lib.hid (HBR.out.below hb1); clear hb1
          go_wp2_with fail
          refine (HC.out _ (HE.out.bel HB1.out)).mono ?_
          rintro e w2 ⟨rfl, hb2⟩
          have HB2 := Lib.hid (HB1.out.trans (hb2.mono HB1.out.size)); have HN2 := Lib.hid (HN1.out.below hb2); have HR2 := Lib.hid (HR1.out.below hb2); clear hb2 HB1 HN1 HR1
          go_wp2_with fail
          refine (HP.out _).mono ?_
          rintro e w3 ⟨rfl, rfl⟩
          have bc0 := HN2.out.cell 0 (.string (bs sc)) rfl
          have bc1 := HN2.out.cell 1 (.string (bs ho)) rfl
          have bc2 := HN2.out.cell 2 (.int .i64 po) rfl
          have bc3 := HN2.out.cell 3 (.string (bs pa)) rfl
          have bc4 := HN2.out.cell 4 (.string (bs qu)) rfl
          have bc5 := HN2.out.cell 5 (.bool hq) rfl
          go_wp2_with fail
          refine (HF.out _).mono ?_
          rintro e w4 ⟨rfl, rfl⟩
          go_wp2_with fail
          have hE0 : ubk (w2.alloc (.cells #[.string (bs sc), .string (bs ho), .int .i64 po, .string (bs p), .string (bs q), .bool h] 23)).drew w2.heap.size #[.string (bs sc), .string (bs ho), .int .i64 po, .string (bs p), .string (bs q), .bool h] := (ubk.new w2 #[.string (bs sc), .string (bs ho), .int .i64 po, .string (bs p), .string (bs q), .bool h] 23).keep rfl
          have HRD : Hid (ubk (w2.alloc (.cells #[.string (bs sc), .string (bs ho), .int .i64 po, .string (bs p), .string (bs q), .bool h] 23)).drew (w.heap.size + 1) #[.string ⟨#[]⟩, .string ⟨#[]⟩, .int .i64 0, .string ⟨#[]⟩, .string ⟨#[]⟩, .bool false]) := (HR2.out.alloc (.cells #[.string (bs sc), .string (bs ho), .int .i64 po, .string (bs p), .string (bs q), .bool h] 23)).keep rfl
          have hd1 : Below w2.heap.size w2 (w2.alloc (.cells #[.string (bs sc), .string (bs ho), .int .i64 po, .string (bs p), .string (bs q), .bool h] 23)).drew := ((Below.refl _ _).alloc (Nat.le_refl _) _).drew
          have HBD : Hid (Below w.heap.size w (w2.alloc (.cells #[.string (bs sc), .string (bs ho), .int .i64 po, .string (bs p), .string (bs q), .bool h] 23)).drew) := HB2.out.trans (hd1.mono HB2.out.size)
          have hne : w2.heap.size ≠ w.heap.size + 1 := Nat.ne_of_gt HR2.out.lt
          have HNE := Lib.hid hne
          have HE0 := Lib.hid hE0
          clear hd1 hne hE0
          refine wp_region_growS (.one 0 false (.one 1 false (.one 2 true (.one 3 true (.one 4 false .done)))))
            (fun W => ubk W (w2.heap.size) #[.string (bs sc), .string (bs ho), .int .i64 po, .string (bs p), .string (bs q), .bool h]) (by kernel_rfl) (by kernel_rfl) rfl (by kernel_rfl) (by kernel_rfl) HE0.out (fun ops hops => ?_)
          simp only [GT.ins, List.getD_cons_zero, List.getD_cons_succ]
          clear hops
          iterate 2
            refine growS_take (by rfl) ?_
            apply Exists.intro
            refine ⟨fun w' hE => ?_, ?_⟩
            · have yc0 := hE.cell 0 (.string (bs sc)) rfl; have yc1 := hE.cell 1 (.string (bs ho)) rfl; have yc2 := hE.cell 2 (.int .i64 po) rfl; have yc3 := hE.cell 3 (.string (bs p)) rfl; have yc4 := hE.cell 4 (.string (bs q)) rfl; have yc5 := hE.cell 5 (.bool h) rfl
              go_simp
              try with_reducible rfl
            simp only [Act.put, List.setIfInBounds_toArray, List.set_cons_zero, List.set_cons_succ]
          refine growS_call (by rfl) (fun K hK => ?_)
          go_simp
          refine (HCK.out _ (HE.out.bel HBD.out)).mono ?_
          rintro e w5 ⟨rfl, hb5⟩
          have hE5 := HE0.out.below hb5
          refine hK.out _ _ hE5 ?_
          have HB5 := Lib.hid (HBD.out.trans (hb5.mono HBD.out.size)); have hr5 := HRD.out.below hb5; have HE5 := Lib.hid hE5
          clear hK K hb5 hE5
          refine growS_call (by rfl) (fun K hK => ?_)
          have nc0 := hr5.cell 0 (.string ⟨#[]⟩) rfl
          have nc1 := hr5.cell 1 (.string ⟨#[]⟩) rfl
          have nc2 := hr5.cell 2 (.int .i64 0) rfl
          have nc3 := hr5.cell 3 (.string ⟨#[]⟩) rfl
          have nc4 := hr5.cell 4 (.string ⟨#[]⟩) rfl
          have nc5 := hr5.cell 5 (.bool false) rfl
          have nf0 := hr5.free 0
          have nf1 := hr5.free 1
          have nf2 := hr5.free 2
          have nf3 := hr5.free 3
          have nf4 := hr5.free 4
          have nf5 := hr5.free 5
          have hq0 := ((((((hr5.set 0 (.string (bs sc))).set 1 (.string (bs ho))).set 2 (.int .i64 po)).set 3 (.string (bs p))).set 4 (.string (bs q))).set 5 (.bool h))
          simp only [List.setIfInBounds_toArray, List.set_cons_zero, List.set_cons_succ] at hq0
          have HQ := Lib.hid hq0; clear hq0
          have HBF : Hid (Below w.heap.size w ((((((w5.setCell ⟨w.heap.size + 1, 0, none⟩ (.string (bs sc))).setCell ⟨w.heap.size + 1, 1, none⟩ (.string (bs ho))).setCell ⟨w.heap.size + 1, 2, none⟩ (.int .i64 po)).setCell ⟨w.heap.size + 1, 3, none⟩ (.string (bs p))).setCell ⟨w.heap.size + 1, 4, none⟩ (.string (bs q))).setCell ⟨w.heap.size + 1, 5, none⟩ (.bool h))) := ((((((HB5.out.setCell (p := ⟨w.heap.size + 1, 0, none⟩) (Nat.le_succ _) (.string (bs sc))).setCell (p := ⟨w.heap.size + 1, 1, none⟩) (Nat.le_succ _) (.string (bs ho))).setCell (p := ⟨w.heap.size + 1, 2, none⟩) (Nat.le_succ _) (.int .i64 po)).setCell (p := ⟨w.heap.size + 1, 3, none⟩) (Nat.le_succ _) (.string (bs p))).setCell (p := ⟨w.heap.size + 1, 4, none⟩) (Nat.le_succ _) (.string (bs q))).setCell (p := ⟨w.heap.size + 1, 5, none⟩) (Nat.le_succ _) (.bool h))
          have HE6 := Lib.hid ((((((HE5.out.other (a := ⟨w.heap.size + 1, 0, none⟩) HNE.out (.string (bs sc))).other (a := ⟨w.heap.size + 1, 1, none⟩) HNE.out (.string (bs ho))).other (a := ⟨w.heap.size + 1, 2, none⟩) HNE.out (.int .i64 po)).other (a := ⟨w.heap.size + 1, 3, none⟩) HNE.out (.string (bs p))).other (a := ⟨w.heap.size + 1, 4, none⟩) HNE.out (.string (bs q))).other (a := ⟨w.heap.size + 1, 5, none⟩) HNE.out (.bool h))
          go_simp
          refine hK.out _ _ HE6.out ?_
          clear hK K hr5 nc0 nc1 nc2 nc3 nc4 nc5 nf0 nf1 nf2 nf3 nf4 nf5
          iterate 1
            refine growS_take (by rfl) ?_
            apply Exists.intro
            refine ⟨fun w' hE => ?_, ?_⟩
            · have yc0 := hE.cell 0 (.string (bs sc)) rfl; have yc1 := hE.cell 1 (.string (bs ho)) rfl; have yc2 := hE.cell 2 (.int .i64 po) rfl; have yc3 := hE.cell 3 (.string (bs p)) rfl; have yc4 := hE.cell 4 (.string (bs q)) rfl; have yc5 := hE.cell 5 (.bool h) rfl
              go_simp
              try with_reducible rfl
            simp only [Act.put, List.setIfInBounds_toArray, List.set_cons_zero, List.set_cons_succ]
          refine growS_done (NoPanic.normal ?_)
          go_wp2_with fail
          have m0 := HQ.out.cell 0 (.string (bs sc)) rfl
          have m1 := HQ.out.cell 1 (.string (bs ho)) rfl
          have m2 := HQ.out.cell 2 (.int .i64 po) rfl
          have m3 := HQ.out.cell 3 (.string (bs p)) rfl
          have m4 := HQ.out.cell 4 (.string (bs q)) rfl
          have m5 := HQ.out.cell 5 (.bool h) rfl
          refine bodyPost_ret (v := .tuple #[.agg #[.string (bs sc), .string (bs ho), .int .i64 po, .string (bs p), .string (bs q), .bool h], .int .i64 k]) (by simp [results, Tryz.results15, go_sem, m0, m1, m2, m3, m4, m5]) rfl ⟨?_, HBF.out⟩
          rfl
  · simp only [if_true]
    have HPA : Hid (∀ W, EnvU W → Calls Tryz.prog 34 #[.string (bs sc ++ ⟨#[58]⟩ ++ bs a2)] W (RetU W (parseU (sc ++ 58 :: a2)))) := fun W hb => by
      rw [show bs sc ++ ⟨#[58]⟩ ++ bs a2 = bs (sc ++ 58 :: a2) from bs_of (by simp)]
      exact parse_any _ W hb
    generalize parseU (sc ++ 58 :: a2) = X at *
    obtain ⟨⟨qsc, qho, qpo, qpa, qqu, qhq⟩, qe⟩ := X
    unfold RetU at HPA ⊢
    simp only at HPA ⊢
    go_enter Tryz.func15, Tryz.ntmps15
    go_wp2_with fail
    refine (HA.out _ (HE.out.bel HAL.out)).mono ?_
    rintro e w1 ⟨rfl, hb1⟩
    have HB1 := Lib.hid (HAL.out.trans (hb1.mono HAL.out.size)); have HN1 := Lib.hid (HBN.out.below hb1); have HR1 := Lib.hid (HBR.out.below hb1); clear hb1
    go_wp2_with fail
    refine (HC.out _ (HE.out.bel HB1.out)).mono ?_
    rintro e w2 ⟨rfl, hb2⟩
    have HB2 := Lib.hid (HB1.out.trans (hb2.mono HB1.out.size)); have HN2 := Lib.hid (HN1.out.below hb2); have HR2 := Lib.hid (HR1.out.below hb2); clear hb2 HB1 HN1 HR1
    go_wp2_with fail
    refine (HP.out _).mono ?_
    rintro e w3 ⟨rfl, rfl⟩
    have bc0 := HN2.out.cell 0 (.string (bs sc)) rfl
    have bc1 := HN2.out.cell 1 (.string (bs ho)) rfl
    have bc2 := HN2.out.cell 2 (.int .i64 po) rfl
    have bc3 := HN2.out.cell 3 (.string (bs pa)) rfl
    have bc4 := HN2.out.cell 4 (.string (bs qu)) rfl
    have bc5 := HN2.out.cell 5 (.bool hq) rfl
    go_wp2_with fail
    refine (HPA.out _ (HE.out.bel HB2.out)).mono ?_
    rintro e w4 ⟨rfl, hb4⟩
    have HB4 := Lib.hid (HB2.out.trans (hb4.mono HB2.out.size)); have hr4 := HR2.out.below hb4; clear hb4
    have nc0 := hr4.cell 0 (.string ⟨#[]⟩) rfl
    have nc1 := hr4.cell 1 (.string ⟨#[]⟩) rfl
    have nc2 := hr4.cell 2 (.int .i64 0) rfl
    have nc3 := hr4.cell 3 (.string ⟨#[]⟩) rfl
    have nc4 := hr4.cell 4 (.string ⟨#[]⟩) rfl
    have nc5 := hr4.cell 5 (.bool false) rfl
    have nf0 := hr4.free 0
    have nf1 := hr4.free 1
    have nf2 := hr4.free 2
    have nf3 := hr4.free 3
    have nf4 := hr4.free 4
    have nf5 := hr4.free 5
    have hq0 := ((((((hr4.set 0 (.string (bs qsc))).set 1 (.string (bs qho))).set 2 (.int .i64 qpo)).set 3 (.string (bs qpa))).set 4 (.string (bs qqu))).set 5 (.bool qhq))
    simp only [List.setIfInBounds_toArray, List.set_cons_zero, List.set_cons_succ] at hq0
    have HQ := Lib.hid hq0; clear hq0
    have HBF : Hid (Below w.heap.size w ((((((w4.setCell ⟨w.heap.size + 1, 0, none⟩ (.string (bs qsc))).setCell ⟨w.heap.size + 1, 1, none⟩ (.string (bs qho))).setCell ⟨w.heap.size + 1, 2, none⟩ (.int .i64 qpo)).setCell ⟨w.heap.size + 1, 3, none⟩ (.string (bs qpa))).setCell ⟨w.heap.size + 1, 4, none⟩ (.string (bs qqu))).setCell ⟨w.heap.size + 1, 5, none⟩ (.bool qhq))) := ((((((HB4.out.setCell (p := ⟨w.heap.size + 1, 0, none⟩) (Nat.le_succ _) (.string (bs qsc))).setCell (p := ⟨w.heap.size + 1, 1, none⟩) (Nat.le_succ _) (.string (bs qho))).setCell (p := ⟨w.heap.size + 1, 2, none⟩) (Nat.le_succ _) (.int .i64 qpo)).setCell (p := ⟨w.heap.size + 1, 3, none⟩) (Nat.le_succ _) (.string (bs qpa))).setCell (p := ⟨w.heap.size + 1, 4, none⟩) (Nat.le_succ _) (.string (bs qqu))).setCell (p := ⟨w.heap.size + 1, 5, none⟩) (Nat.le_succ _) (.bool qhq))
    clear hr4
    go_wp2_with fail
    have m0 := HQ.out.cell 0 (.string (bs qsc)) rfl
    have m1 := HQ.out.cell 1 (.string (bs qho)) rfl
    have m2 := HQ.out.cell 2 (.int .i64 qpo) rfl
    have m3 := HQ.out.cell 3 (.string (bs qpa)) rfl
    have m4 := HQ.out.cell 4 (.string (bs qqu)) rfl
    have m5 := HQ.out.cell 5 (.bool qhq) rfl
    refine bodyPost_ret (v := .tuple #[.agg #[.string (bs qsc), .string (bs qho), .int .i64 qpo, .string (bs qpa), .string (bs qqu), .bool qhq], .int .i64 qe]) (by simp [results, Tryz.results15, go_sem, m0, m1, m2, m3, m4, m5]) rfl ⟨?_, HBF.out⟩
    rfl
end Go.Proofs.YtekaiafhnnpkgaaGreatDoor
