/- What a reference means, by the document: its Ref. -/
import Derived.Test.YtnpiaifkeddjeaaGreatDoorKResA
namespace Go.Proofs.YtnpiaifkeddjeaaGreatDoor
open Go.RowKit

set_option maxHeartbeats 400000 in
set_option maxRecDepth 100000 in
theorem ubegins_any (s : List UInt8) (w : World) :
    Calls Tryz.prog 58 #[.string (bs s)] w fun r w' => r = .returned (.bool (Lib.hasPrefix s [47, 47])) ∧ w = w' := by
  match s with
  | [] =>
    go_enter Tryz.func58, Tryz.ntmps58
    go_wp2_with fail
    go_ret
    exact ⟨rfl, rfl⟩
  | [c] =>
    have h1 : (bs [c]).size = 1 := rfl
    have HR : Hid (Lib.hasPrefix [c] [47, 47] = false) := by show _ = _; unfold Lib.hasPrefix; simp [List.isPrefixOf]
    go_enter Tryz.func58, Tryz.ntmps58
    go_wp2_with fail
    go_ret
    exact ⟨ret_bool HR.out.symm, rfl⟩
  | c :: d :: r =>
    have h0 : 1 < (bs (c :: d :: r)).size := by rw [bs_size]; simp
    have g0 : (bs (c :: d :: r))[0] = c := by rw [ByteArray.getElem_eq_getElem_data]; simp [bs]
    have g1 : (bs (c :: d :: r))[1] = d := by rw [ByteArray.getElem_eq_getElem_data]; simp [bs]
    have hc : (((bs (c :: d :: r))[0].toNat : Int) == 47) = (c == 47) := by rw [g0]; exact byte_eq c 47 (by decide)
    have hd : (((bs (c :: d :: r))[1].toNat : Int) == 47) = (d == 47) := by rw [g1]; exact byte_eq d 47 (by decide)
    have HR : Hid (Lib.hasPrefix (c :: d :: r) [47, 47] = ((c == 47) && (d == 47))) := by show (47 == c && (47 == d && true)) = _; rw [Bool.and_true, BEq.comm, BEq.comm (a := 47) (b := d)]
    clear g0 g1
    generalize (c == 47) = x at *
    generalize (d == 47) = y at *
    cases x <;> cases y
    all_goals
      go_enter Tryz.func58, Tryz.ntmps58
      go_wp2_with fail
      go_ret
      exact ⟨ret_bool HR.out.symm, rfl⟩
theorem schN_lt {r : List UInt8} (h : 0 < schN r) : schN r < r.length := by
  unfold schN at h ⊢
  split
  · rename_i h1
    obtain ⟨hp, -⟩ := cut_parts r [58]
    rw [(Bool.and_eq_true_iff.1 h1).1, if_pos rfl] at hp
    generalize (Lib.cut r [58]).1 = a at *
    rw [hp]; simp
  · rename_i h1; rw [if_neg h1] at h; exact absurd h (Nat.lt_irrefl 0)
theorem ext_from (s : List UInt8) (n : Nat) : (bs s).extract n s.length = bs (s.drop n) := by
  refine bs_of ?_
  simp only [bs, ByteArray.data_extract, Array.toList_extract]
  simp only [List.extract]
  exact List.take_of_length_le (by rw [List.length_drop]; exact Nat.le_refl _)
theorem findL_any (s : List UInt8) (c : UInt8) (w : World) (hs : s.length ≤ 1000000) :
    Calls Tryz.prog 56 #[.string (bs s), .int .u8 (c.toNat : Int)] w fun r w' => r = .returned (.int .i64 ((Lib.cut s [c]).1.length : Nat)) ∧ w = w' := by
  have h := find_any (bs s) c w (by rw [bs_size]; unfold maxLen; omega)
  rwa [bs_data] at h
theorem schemeL_any (s : List UInt8) (w : World) (hs : s.length ≤ 1000000) :
    Calls Tryz.prog 57 #[.string (bs s)] w fun r w' => r = .returned (.int .i64 (schN s : Nat)) ∧ w = w' := by
  have h := scheme_any (bs s) w (by rw [bs_size]; unfold maxLen; omega)
  rwa [bs_data] at h
theorem cut_take (r : List UInt8) (c : UInt8) : r.take (Lib.cut r [c]).1.length = (Lib.cut r [c]).1 := by
  obtain ⟨hp, -⟩ := cut_parts r [c]
  generalize Lib.cut r [c] = C at *
  rw [hp, List.take_left]
theorem cut_rest (r : List UInt8) (c : UInt8) : ((Lib.cut r [c]).2.2 = true → (Lib.cut r [c]).1.length < r.length ∧ r.drop ((Lib.cut r [c]).1.length + 1) = (Lib.cut r [c]).2.1) ∧ ((Lib.cut r [c]).2.2 = false → (Lib.cut r [c]).1.length = r.length ∧ (Lib.cut r [c]).2.1 = []) := by
  obtain ⟨hp, hq⟩ := cut_parts r [c]
  generalize Lib.cut r [c] = C at *
  obtain ⟨a, t, f⟩ := C
  simp only at hp hq ⊢
  refine ⟨fun h => ?_, fun h => ⟨?_, hq h⟩⟩
  · rw [h, if_pos rfl] at hp
    rw [hp]
    refine ⟨by simp, ?_⟩
    rw [← List.drop_drop, List.drop_left]; rfl
  · rw [h] at hp
    simp at hp
    rw [hp]
theorem b47 (c : UInt8) : ((c.toNat : Int) == 47) = (c == 47) := byte_eq c 47 (by decide)
theorem head47 {p : List UInt8} (hp : p ≠ []) (h0 : 0 < (bs p).size) : (((bs p)[0].toNat : Int) == 47) = Lib.hasPrefix p [47] := by
  match p, hp, h0 with
  | c :: p1, _, h0 =>
    rw [show (bs (c :: p1))[0] = c by rw [ByteArray.getElem_eq_getElem_data]; simp [bs]]
    rw [b47]
    show _ = (47 == c && true)
    rw [Bool.and_true]; exact BEq.comm
theorem docAim_is (b : Ur) (r : List UInt8) : docAim b r = if 0 < schN r then
    (if (lower (r.take (schN r)) = schH ∨ lower (r.take (schN r)) = schS) ∧ Lib.hasPrefix (r.drop (schN r + 1)) [47, 47] = true then endU (parseU (lower (r.take (schN r)) ++ r.drop (schN r))) else (ur0, 4))
  else if Lib.hasPrefix r [47, 47] then endU (parseU (b.sc ++ 58 :: r))
  else endU (relU b (Lib.cut r [63]).1 (Lib.cut r [63]).2.1 (Lib.cut r [63]).2.2, (relU b (Lib.cut r [63]).1 (Lib.cut r [63]).2.1 (Lib.cut r [63]).2.2).check) := rfl
/-- the last slash below a place, as a number -/
def lastN (p : List UInt8) (k : Nat) : Nat := (Lib.lastOcc p [47] k).toNat
theorem lastN_hit {s : ByteArray} {k : Nat} (h : k < s.size) (hc : s[k] = 47) : lastN s.data.toList (k + 1) = k := by
  unfold lastN
  rw [Lib.lastOcc_hit _ _ _ ((occ_one _ _ _).2 (by rw [at_of h, hc]))]
  rfl
theorem lastN_miss {s : ByteArray} {k : Nat} (h : k < s.size) (hc : s[k] ≠ 47) : lastN s.data.toList (k + 1) = lastN s.data.toList k := by
  unfold lastN
  rw [Lib.lastOcc_miss]
  cases ho : Lib.occAt s.data.toList [47] k
  · rfl
  · have h2 := (occ_one _ _ _).1 ho
    rw [at_of h] at h2
    exact absurd (Option.some.inj h2) hc
theorem lastN_lt {p : List UInt8} (k : Nat) (hk : 0 < k) : lastN p k < k := by
  unfold lastN
  rcases Lib.lastOcc_spec p [47] k with ⟨e, -⟩ | ⟨i, hi, e, -, -⟩
  · rw [e]; omega
  · rw [e]; omega
theorem dir_is {p : List UInt8} (h : ∃ t, p = 47 :: t) : dirOf p = p.take (lastN p p.length + 1) := by
  obtain ⟨t, rfl⟩ := h
  unfold dirOf lastN Lib.lastIndex
  have h1 : [(47 : UInt8)].length ≤ (47 :: t).length := by simp
  rw [if_pos h1]
  have h2 : (47 :: t).length - [(47 : UInt8)].length + 1 = (47 :: t).length := by simp
  rw [h2]
  congr 1
  rcases Lib.lastOcc_spec (47 :: t) [47] (47 :: t).length with ⟨e, hn⟩ | ⟨i, hi, e, -, -⟩
  · have h3 := hn 0 (by simp)
    have h4 : Lib.occAt (47 :: t) [47] 0 = true := (occ_one _ _ _).2 rfl
    rw [h4] at h3; cases h3
  · rw [e]; omega
set_option maxHeartbeats 8000000 in
set_option maxRecDepth 100000 in
theorem udref_any (b : Ur) (r : List UInt8) (w : World) (hu : b.okW) :
    Calls Tryz.prog 33 #[.agg #[.string (bs b.sc), .string (bs b.ho), .int .i64 b.po, .string (bs b.pa), .string (bs b.qu), .bool b.hq], .string (bs r)] w (RetU w (refU b r)) := by
  have HCK := Lib.hid (fun W => ucheck_any b W hu)
  by_cases hlong : 1024 < r.length
  · rw [show refU b r = (ur0, 3) from if_pos hlong]
    have hsz : (1024 : Int) < (r.length : Int) := by omega
    have hsd : decide ((1024 : Int) < (r.length : Int)) = true := decide_eq_true hsz
    clear hlong HCK
    obtain ⟨sc, ho, po, pa, qu, hq⟩ := b
    have hal : Below w.heap.size w ((w.alloc (.cells #[.string (bs sc), .string (bs ho), .int .i64 po, .string (bs pa), .string (bs qu), .bool hq] 23)).alloc (.cells #[.string ⟨#[]⟩, .string ⟨#[]⟩, .int .i64 0, .string ⟨#[]⟩, .string ⟨#[]⟩, .bool false] 23)) := ((Below.refl _ _).alloc (Nat.le_refl _) _).alloc (by simp) _
    have hbn := (ubk.new w #[.string (bs sc), .string (bs ho), .int .i64 po, .string (bs pa), .string (bs qu), .bool hq] 23).alloc (.cells #[.string ⟨#[]⟩, .string ⟨#[]⟩, .int .i64 0, .string ⟨#[]⟩, .string ⟨#[]⟩, .bool false] 23)
    have hbr := ubk.new (w.alloc (.cells #[.string (bs sc), .string (bs ho), .int .i64 po, .string (bs pa), .string (bs qu), .bool hq] 23)) #[.string ⟨#[]⟩, .string ⟨#[]⟩, .int .i64 0, .string ⟨#[]⟩, .string ⟨#[]⟩, .bool false] 23
    rw [World.size_alloc] at hbr
    have HAL := Lib.hid hal; have HBN := Lib.hid hbn; have HBR := Lib.hid hbr
    clear hal hbn hbr
    show Calls Tryz.prog 33 _ w fun e w' => e = .returned (.tuple #[.agg #[.string ⟨#[]⟩, .string ⟨#[]⟩, .int .i64 0, .string ⟨#[]⟩, .string ⟨#[]⟩, .bool false], .int .i64 3]) ∧ Below w.heap.size w w'
    go_enter Tryz.func33, Tryz.ntmps33
    go_wp2_with fail
    have m0 := HBR.out.cell 0 (.string ⟨#[]⟩) rfl
    have m1 := HBR.out.cell 1 (.string ⟨#[]⟩) rfl
    have m2 := HBR.out.cell 2 (.int .i64 0) rfl
    have m3 := HBR.out.cell 3 (.string ⟨#[]⟩) rfl
    have m4 := HBR.out.cell 4 (.string ⟨#[]⟩) rfl
    have m5 := HBR.out.cell 5 (.bool false) rfl
    refine bodyPost_ret (v := .tuple #[.agg #[.string ⟨#[]⟩, .string ⟨#[]⟩, .int .i64 0, .string ⟨#[]⟩, .string ⟨#[]⟩, .bool false], .int .i64 3]) (by simp [results, Tryz.results33, go_sem, m0, m1, m2, m3, m4, m5]) rfl ⟨?_, HAL.out⟩
    rfl
  · have hle : r.length ≤ 1024 := by omega
    have hsz : ¬ (1024 : Int) < (r.length : Int) := by omega
    by_cases hk : b.check ≠ 0
    · rw [ref_bad hk hle]
      have hkn : (b.check != 0) = true := bne_iff_ne.2 hk
      clear hk hle hlong
      generalize b.check = k at *
      obtain ⟨sc, ho, po, pa, qu, hq⟩ := b
      simp only at HCK ⊢
      have hal : Below w.heap.size w ((w.alloc (.cells #[.string (bs sc), .string (bs ho), .int .i64 po, .string (bs pa), .string (bs qu), .bool hq] 23)).alloc (.cells #[.string ⟨#[]⟩, .string ⟨#[]⟩, .int .i64 0, .string ⟨#[]⟩, .string ⟨#[]⟩, .bool false] 23)) := ((Below.refl _ _).alloc (Nat.le_refl _) _).alloc (by simp) _
      have hbn := (ubk.new w #[.string (bs sc), .string (bs ho), .int .i64 po, .string (bs pa), .string (bs qu), .bool hq] 23).alloc (.cells #[.string ⟨#[]⟩, .string ⟨#[]⟩, .int .i64 0, .string ⟨#[]⟩, .string ⟨#[]⟩, .bool false] 23)
      have hbr := ubk.new (w.alloc (.cells #[.string (bs sc), .string (bs ho), .int .i64 po, .string (bs pa), .string (bs qu), .bool hq] 23)) #[.string ⟨#[]⟩, .string ⟨#[]⟩, .int .i64 0, .string ⟨#[]⟩, .string ⟨#[]⟩, .bool false] 23
      rw [World.size_alloc] at hbr
      have HAL := Lib.hid hal; have HBN := Lib.hid hbn; have HBR := Lib.hid hbr
      clear hal hbn hbr
      show Calls Tryz.prog 33 _ w fun e w' => e = .returned (.tuple #[.agg #[.string ⟨#[]⟩, .string ⟨#[]⟩, .int .i64 0, .string ⟨#[]⟩, .string ⟨#[]⟩, .bool false], .int .i64 2]) ∧ Below w.heap.size w w'
      go_enter Tryz.func33, Tryz.ntmps33
      go_wp2_with fail
      refine (HCK.out _).mono ?_
      rintro e w1 ⟨rfl, hb1⟩
      have HB1 := Lib.hid (HAL.out.trans (hb1.mono HAL.out.size)); have hn1 := HBN.out.below hb1; have hr1 := HBR.out.below hb1; clear hb1
      have nc0 := hr1.cell 0 (.string ⟨#[]⟩) rfl
      have nc1 := hr1.cell 1 (.string ⟨#[]⟩) rfl
      have nc2 := hr1.cell 2 (.int .i64 0) rfl
      have nc3 := hr1.cell 3 (.string ⟨#[]⟩) rfl
      have nc4 := hr1.cell 4 (.string ⟨#[]⟩) rfl
      have nc5 := hr1.cell 5 (.bool false) rfl
      have nf0 := hr1.free 0
      have nf1 := hr1.free 1
      have nf2 := hr1.free 2
      have nf3 := hr1.free 3
      have nf4 := hr1.free 4
      have nf5 := hr1.free 5
      have hq0 := ((((((hr1.set 0 (.string ⟨#[]⟩)).set 1 (.string ⟨#[]⟩)).set 2 (.int .i64 0)).set 3 (.string ⟨#[]⟩)).set 4 (.string ⟨#[]⟩)).set 5 (.bool false))
      simp only [List.setIfInBounds_toArray, List.set_cons_zero, List.set_cons_succ] at hq0
      have HQ := Lib.hid hq0; clear hq0
      have HBF : Hid (Below w.heap.size w ((((((w1.setCell ⟨w.heap.size + 1, 0, none⟩ (.string ⟨#[]⟩)).setCell ⟨w.heap.size + 1, 1, none⟩ (.string ⟨#[]⟩)).setCell ⟨w.heap.size + 1, 2, none⟩ (.int .i64 0)).setCell ⟨w.heap.size + 1, 3, none⟩ (.string ⟨#[]⟩)).setCell ⟨w.heap.size + 1, 4, none⟩ (.string ⟨#[]⟩)).setCell ⟨w.heap.size + 1, 5, none⟩ (.bool false))) := ((((((HB1.out.setCell (p := ⟨w.heap.size + 1, 0, none⟩) (Nat.le_succ _) (.string ⟨#[]⟩)).setCell (p := ⟨w.heap.size + 1, 1, none⟩) (Nat.le_succ _) (.string ⟨#[]⟩)).setCell (p := ⟨w.heap.size + 1, 2, none⟩) (Nat.le_succ _) (.int .i64 0)).setCell (p := ⟨w.heap.size + 1, 3, none⟩) (Nat.le_succ _) (.string ⟨#[]⟩)).setCell (p := ⟨w.heap.size + 1, 4, none⟩) (Nat.le_succ _) (.string ⟨#[]⟩)).setCell (p := ⟨w.heap.size + 1, 5, none⟩) (Nat.le_succ _) (.bool false))
      clear hr1 hn1
      go_wp2_with fail
      have m0 := HQ.out.cell 0 (.string ⟨#[]⟩) rfl
      have m1 := HQ.out.cell 1 (.string ⟨#[]⟩) rfl
      have m2 := HQ.out.cell 2 (.int .i64 0) rfl
      have m3 := HQ.out.cell 3 (.string ⟨#[]⟩) rfl
      have m4 := HQ.out.cell 4 (.string ⟨#[]⟩) rfl
      have m5 := HQ.out.cell 5 (.bool false) rfl
      refine bodyPost_ret (v := .tuple #[.agg #[.string ⟨#[]⟩, .string ⟨#[]⟩, .int .i64 0, .string ⟨#[]⟩, .string ⟨#[]⟩, .bool false], .int .i64 2]) (by simp [results, Tryz.results33, go_sem, m0, m1, m2, m3, m4, m5]) rfl ⟨?_, HBF.out⟩
      rfl
    · have hk0 : b.check = 0 := Classical.not_not.1 hk
      rw [refU_eq hlong hk0, ← doc_aim b (Nat.le_trans (cut_leU r [35]).1 hle), docAim_is]
      obtain ⟨⟨l1, l2, l3, l4⟩, l5, l6⟩ := lens_of hk0
      have hpa := (formed_iff.1 (uchk_zero hk0).1).pa
      rw [hk0] at HCK
      have HF1 := Lib.hid (fun W => findL_any r 35 W (by omega))
      have hX : (bs r).extract 0 (Lib.cut r [35]).1.length = bs (Lib.cut r [35]).1 := by rw [ext_of, cut_take]
      have hrl := (cut_leU r [35]).1
      have hnl : (((Lib.cut r [35]).1.length : Nat) : Int) ≤ ((bs r).size : Int) := by rw [bs_size]; omega
      generalize (Lib.cut r [35]).1 = r0 at *
      have hr0 : r0.length ≤ 1024 := by omega
      have HS := Lib.hid (fun W => schemeL_any r0 W (by omega))
      have hz0 : ((bs r0).size : Int) = r0.length := by rw [bs_size]
      have HX := Lib.hid hX; have HZ0 := Lib.hid hz0
      have hrl2 : (r0.length : Int) ≤ (r.length : Int) := by omega
      clear hX hz0 hlong hk hk0 hle
      obtain ⟨sc, ho, po, pa, qu, hq⟩ := b
      simp only at l1 l2 l3 l4 l5 l6 hpa HCK ⊢
      have hal : Below w.heap.size w ((w.alloc (.cells #[.string (bs sc), .string (bs ho), .int .i64 po, .string (bs pa), .string (bs qu), .bool hq] 23)).alloc (.cells #[.string ⟨#[]⟩, .string ⟨#[]⟩, .int .i64 0, .string ⟨#[]⟩, .string ⟨#[]⟩, .bool false] 23)) := ((Below.refl _ _).alloc (Nat.le_refl _) _).alloc (by simp) _
      have hbn := (ubk.new w #[.string (bs sc), .string (bs ho), .int .i64 po, .string (bs pa), .string (bs qu), .bool hq] 23).alloc (.cells #[.string ⟨#[]⟩, .string ⟨#[]⟩, .int .i64 0, .string ⟨#[]⟩, .string ⟨#[]⟩, .bool false] 23)
      have hbr := ubk.new (w.alloc (.cells #[.string (bs sc), .string (bs ho), .int .i64 po, .string (bs pa), .string (bs qu), .bool hq] 23)) #[.string ⟨#[]⟩, .string ⟨#[]⟩, .int .i64 0, .string ⟨#[]⟩, .string ⟨#[]⟩, .bool false] 23
      rw [World.size_alloc] at hbr
      have HAL := Lib.hid hal; have HBN := Lib.hid hbn; have HBR := Lib.hid hbr
      clear hal hbn hbr
      by_cases hn : 0 < schN r0
      · rw [if_pos hn]
        have hlt := schN_lt hn
        have HLW := Lib.hid (fun W => rlowerU_any (r0.take (schN r0)) W (by rw [List.length_take]; omega))
        have HBG := Lib.hid (fun W => ubegins_any (r0.drop (schN r0 + 1)) W)
        have hS1 := ext_of r0 (schN r0)
        have hS2 := ext_from r0 (schN r0 + 1)
        have hS3 := ext_from r0 (schN r0)
        have HNL : Hid ((lower (r0.take (schN r0))).length ≤ 1024 ∧ (r0.drop (schN r0)).length ≤ 1024) := ⟨by rw [lower_len, List.length_take]; omega, by rw [List.length_drop]; omega⟩
        generalize lower (r0.take (schN r0)) = nm at *
        generalize r0.take (schN r0) = t0 at *
        generalize r0.drop (schN r0 + 1) = t1 at *
        generalize r0.drop (schN r0) = t2 at *
        generalize schN r0 = n at *
        generalize Lib.hasPrefix t1 [47, 47] = x at *
        have n1 : (0 : Int) < (n : Int) := by omega
        have n2 : (n : Int) ≤ ((bs r0).size : Int) := by rw [bs_size]; omega
        have n3 : (n : Int) + 1 ≤ ((bs r0).size : Int) := by rw [bs_size]; omega
        have n5 : n ≤ r0.length := by omega
        have n6 : n + 1 ≤ r0.length := by omega
        have n7 : (n : Int) ≤ (r0.length : Int) := by omega
        have n8 : (n : Int) + 1 ≤ (r0.length : Int) := by omega
        have n4 := IntWalk.i64_in ((n : Int) + 1) (by omega)
        have HS1 := Lib.hid hS1; have HS2 := Lib.hid hS2; have HS3 := Lib.hid hS3; clear hS1 hS2 hS3 hn hlt
        obtain ⟨n10, n11⟩ := HNL.out
        by_cases h1 : nm = schH
        · subst h1
          have e1 : ((bs schH).toList == [104, 116, 116, 112]) = true := by rw [beq_lit]; rfl
          cases x
          · rw [if_neg (fun h => absurd h.2 (by decide))]
            show Calls Tryz.prog 33 _ w fun e w' => e = .returned (.tuple #[.agg #[.string ⟨#[]⟩, .string ⟨#[]⟩, .int .i64 0, .string ⟨#[]⟩, .string ⟨#[]⟩, .bool false], .int .i64 4]) ∧ Below w.heap.size w w'
            go_enter Tryz.func33, Tryz.ntmps33
            go_wp2_with fail
            refine (HCK.out _).mono ?_
            rintro e w1 ⟨rfl, hb1⟩
            have HB1 := Lib.hid (HAL.out.trans (hb1.mono HAL.out.size)); have hn1 := HBN.out.below hb1; have hr1 := HBR.out.below hb1; clear hb1
            go_wp2_with fail
            refine (HF1.out _).mono ?_
            rintro e w2 ⟨rfl, rfl⟩
            go_wp2_with fail
            rw [HX.out]
            refine (HS.out _).mono ?_
            rintro e w2 ⟨rfl, rfl⟩
            have HN1 := Lib.hid hn1; have HR1 := Lib.hid hr1; clear hn1 hr1
            go_wp2_with fail
            rw [HS1.out]
            refine (HLW.out _).mono ?_
            rintro e w3 ⟨rfl, hb3⟩
            have HB3 := Lib.hid (HB1.out.trans (hb3.mono HB1.out.size)); have HR3 := Lib.hid (HR1.out.below hb3); clear hb3 HB1 HN1 HR1
            go_wp2_with fail
            rw [HS2.out]
            refine (HBG.out _).mono ?_
            rintro e w4 ⟨rfl, rfl⟩
            have hr4 := HR3.out
            have nc0 := hr4.cell 0 (.string ⟨#[]⟩) rfl
            have nc1 := hr4.cell 1 (.string ⟨#[]⟩) rfl
            have nc2 := hr4.cell 2 (.int .i64 0) rfl
            have nc3 := hr4.cell 3 (.string ⟨#[]⟩) rfl
            have nc4 := hr4.cell 4 (.string ⟨#[]⟩) rfl
            have nc5 := hr4.cell 5 (.bool false) rfl
            have nf0 := hr4.free 0
            have nf1 := hr4.free 1
            have nf2 := hr4.free 2
            have nf3 := hr4.free 3
            have nf4 := hr4.free 4
            have nf5 := hr4.free 5
            have hq0 := ((((((hr4.set 0 (.string ⟨#[]⟩)).set 1 (.string ⟨#[]⟩)).set 2 (.int .i64 0)).set 3 (.string ⟨#[]⟩)).set 4 (.string ⟨#[]⟩)).set 5 (.bool false))
            simp only [List.setIfInBounds_toArray, List.set_cons_zero, List.set_cons_succ] at hq0
            have HQ := Lib.hid hq0; clear hq0
            have HBF : Hid (Below w.heap.size w ((((((w3.setCell ⟨w.heap.size + 1, 0, none⟩ (.string ⟨#[]⟩)).setCell ⟨w.heap.size + 1, 1, none⟩ (.string ⟨#[]⟩)).setCell ⟨w.heap.size + 1, 2, none⟩ (.int .i64 0)).setCell ⟨w.heap.size + 1, 3, none⟩ (.string ⟨#[]⟩)).setCell ⟨w.heap.size + 1, 4, none⟩ (.string ⟨#[]⟩)).setCell ⟨w.heap.size + 1, 5, none⟩ (.bool false))) := ((((((HB3.out.setCell (p := ⟨w.heap.size + 1, 0, none⟩) (Nat.le_succ _) (.string ⟨#[]⟩)).setCell (p := ⟨w.heap.size + 1, 1, none⟩) (Nat.le_succ _) (.string ⟨#[]⟩)).setCell (p := ⟨w.heap.size + 1, 2, none⟩) (Nat.le_succ _) (.int .i64 0)).setCell (p := ⟨w.heap.size + 1, 3, none⟩) (Nat.le_succ _) (.string ⟨#[]⟩)).setCell (p := ⟨w.heap.size + 1, 4, none⟩) (Nat.le_succ _) (.string ⟨#[]⟩)).setCell (p := ⟨w.heap.size + 1, 5, none⟩) (Nat.le_succ _) (.bool false))
            clear hr4
            go_wp2_with fail
            have m0 := HQ.out.cell 0 (.string ⟨#[]⟩) rfl
            have m1 := HQ.out.cell 1 (.string ⟨#[]⟩) rfl
            have m2 := HQ.out.cell 2 (.int .i64 0) rfl
            have m3 := HQ.out.cell 3 (.string ⟨#[]⟩) rfl
            have m4 := HQ.out.cell 4 (.string ⟨#[]⟩) rfl
            have m5 := HQ.out.cell 5 (.bool false) rfl
            refine bodyPost_ret (v := .tuple #[.agg #[.string ⟨#[]⟩, .string ⟨#[]⟩, .int .i64 0, .string ⟨#[]⟩, .string ⟨#[]⟩, .bool false], .int .i64 4]) (by simp [results, Tryz.results33, go_sem, m0, m1, m2, m3, m4, m5]) rfl ⟨?_, HBF.out⟩
            rfl
          · rw [if_pos ⟨.inl rfl, rfl⟩]
            have HWH : Hid (∀ W, Calls Tryz.prog 59 #[.string (bs schH ++ bs t2)] W (RetU W (endU (parseU (schH ++ t2))))) := fun W => by
              rw [show bs schH ++ bs t2 = bs (schH ++ t2) from bs_of (by rw [ByteArray.data_append, Array.toList_append, bs_data, bs_data])]
              exact uwhole_any _ W
            generalize endU (parseU (schH ++ t2)) = X at *
            obtain ⟨⟨qsc, qho, qpo, qpa, qqu, qhq⟩, qe⟩ := X
            unfold RetU at HWH ⊢
            simp only at HWH ⊢
            go_enter Tryz.func33, Tryz.ntmps33
            go_wp2_with fail
            refine (HCK.out _).mono ?_
            rintro e w1 ⟨rfl, hb1⟩
            have HB1 := Lib.hid (HAL.out.trans (hb1.mono HAL.out.size)); have hn1 := HBN.out.below hb1; have hr1 := HBR.out.below hb1; clear hb1
            go_wp2_with fail
            refine (HF1.out _).mono ?_
            rintro e w2 ⟨rfl, rfl⟩
            go_wp2_with fail
            rw [HX.out]
            refine (HS.out _).mono ?_
            rintro e w2 ⟨rfl, rfl⟩
            have HN1 := Lib.hid hn1; have HR1 := Lib.hid hr1; clear hn1 hr1
            go_wp2_with fail
            rw [HS1.out]
            refine (HLW.out _).mono ?_
            rintro e w3 ⟨rfl, hb3⟩
            have HB3 := Lib.hid (HB1.out.trans (hb3.mono HB1.out.size)); have HR3 := Lib.hid (HR1.out.below hb3); clear hb3 HB1 HN1 HR1
            go_wp2_with fail
            rw [HS2.out]
            refine (HBG.out _).mono ?_
            rintro e w4 ⟨rfl, rfl⟩
            go_wp2_with fail
            rw [HS3.out]
            go_wp2_with fail
            refine (HWH.out _).mono ?_
            rintro e w4 ⟨rfl, hb4⟩
            have HB4 := Lib.hid (HB3.out.trans (hb4.mono HB3.out.size)); have hr4 := HR3.out.below hb4; clear hb4
            have nc0 := hr4.cell 0 (.string ⟨#[]⟩) rfl
            have nc1 := hr4.cell 1 (.string ⟨#[]⟩) rfl
            have nc2 := hr4.cell 2 (.int .i64 0) rfl
            have nc3 := hr4.cell 3 (.string ⟨#[]⟩) rfl
            have nc4 := hr4.cell 4 (.string ⟨#[]⟩) rfl
            have nc5 := hr4.cell 5 (.bool false) rfl
            have nf0 := hr4.free 0
            have nf1 := hr4.free 1
            have nf2 := hr4.free 2
            have nf3 := hr4.free 3
            have nf4 := hr4.free 4
            have nf5 := hr4.free 5
            have hq0 := ((((((hr4.set 0 (.string (bs qsc))).set 1 (.string (bs qho))).set 2 (.int .i64 qpo)).set 3 (.string (bs qpa))).set 4 (.string (bs qqu))).set 5 (.bool qhq))
            simp only [List.setIfInBounds_toArray, List.set_cons_zero, List.set_cons_succ] at hq0
            have HQ := Lib.hid hq0; clear hq0
            have HBF : Hid (Below w.heap.size w ((((((w4.setCell ⟨w.heap.size + 1, 0, none⟩ (.string (bs qsc))).setCell ⟨w.heap.size + 1, 1, none⟩ (.string (bs qho))).setCell ⟨w.heap.size + 1, 2, none⟩ (.int .i64 qpo)).setCell ⟨w.heap.size + 1, 3, none⟩ (.string (bs qpa))).setCell ⟨w.heap.size + 1, 4, none⟩ (.string (bs qqu))).setCell ⟨w.heap.size + 1, 5, none⟩ (.bool qhq))) := ((((((HB4.out.setCell (p := ⟨w.heap.size + 1, 0, none⟩) (Nat.le_succ _) (.string (bs qsc))).setCell (p := ⟨w.heap.size + 1, 1, none⟩) (Nat.le_succ _) (.string (bs qho))).setCell (p := ⟨w.heap.size + 1, 2, none⟩) (Nat.le_succ _) (.int .i64 qpo)).setCell (p := ⟨w.heap.size + 1, 3, none⟩) (Nat.le_succ _) (.string (bs qpa))).setCell (p := ⟨w.heap.size + 1, 4, none⟩) (Nat.le_succ _) (.string (bs qqu))).setCell (p := ⟨w.heap.size + 1, 5, none⟩) (Nat.le_succ _) (.bool qhq))
            clear hr4
            go_wp2_with fail
            have m0 := HQ.out.cell 0 (.string (bs qsc)) rfl
            have m1 := HQ.out.cell 1 (.string (bs qho)) rfl
            have m2 := HQ.out.cell 2 (.int .i64 qpo) rfl
            have m3 := HQ.out.cell 3 (.string (bs qpa)) rfl
            have m4 := HQ.out.cell 4 (.string (bs qqu)) rfl
            have m5 := HQ.out.cell 5 (.bool qhq) rfl
            refine bodyPost_ret (v := .tuple #[.agg #[.string (bs qsc), .string (bs qho), .int .i64 qpo, .string (bs qpa), .string (bs qqu), .bool qhq], .int .i64 qe]) (by simp [results, Tryz.results33, go_sem, m0, m1, m2, m3, m4, m5]) rfl ⟨?_, HBF.out⟩
            rfl
        · by_cases h2 : nm = schS
          · clear h1
            subst h2
            have e1 : ((bs schS).toList == [104, 116, 116, 112]) = false := by rw [beq_lit]; rfl
            have e2 : ((bs schS).toList == [104, 116, 116, 112, 115]) = true := by rw [beq_lit]; rfl
            cases x
            · rw [if_neg (fun h => absurd h.2 (by decide))]
              show Calls Tryz.prog 33 _ w fun e w' => e = .returned (.tuple #[.agg #[.string ⟨#[]⟩, .string ⟨#[]⟩, .int .i64 0, .string ⟨#[]⟩, .string ⟨#[]⟩, .bool false], .int .i64 4]) ∧ Below w.heap.size w w'
              go_enter Tryz.func33, Tryz.ntmps33
              go_wp2_with fail
              refine (HCK.out _).mono ?_
              rintro e w1 ⟨rfl, hb1⟩
              have HB1 := Lib.hid (HAL.out.trans (hb1.mono HAL.out.size)); have hn1 := HBN.out.below hb1; have hr1 := HBR.out.below hb1; clear hb1
              go_wp2_with fail
              refine (HF1.out _).mono ?_
              rintro e w2 ⟨rfl, rfl⟩
              go_wp2_with fail
              rw [HX.out]
              refine (HS.out _).mono ?_
              rintro e w2 ⟨rfl, rfl⟩
              have HN1 := Lib.hid hn1; have HR1 := Lib.hid hr1; clear hn1 hr1
              go_wp2_with fail
              rw [HS1.out]
              refine (HLW.out _).mono ?_
              rintro e w3 ⟨rfl, hb3⟩
              have HB3 := Lib.hid (HB1.out.trans (hb3.mono HB1.out.size)); have HR3 := Lib.hid (HR1.out.below hb3); clear hb3 HB1 HN1 HR1
              go_wp2_with fail
              rw [HS2.out]
              refine (HBG.out _).mono ?_
              rintro e w4 ⟨rfl, rfl⟩
              have hr4 := HR3.out
              have nc0 := hr4.cell 0 (.string ⟨#[]⟩) rfl
              have nc1 := hr4.cell 1 (.string ⟨#[]⟩) rfl
              have nc2 := hr4.cell 2 (.int .i64 0) rfl
              have nc3 := hr4.cell 3 (.string ⟨#[]⟩) rfl
              have nc4 := hr4.cell 4 (.string ⟨#[]⟩) rfl
              have nc5 := hr4.cell 5 (.bool false) rfl
              have nf0 := hr4.free 0
              have nf1 := hr4.free 1
              have nf2 := hr4.free 2
              have nf3 := hr4.free 3
              have nf4 := hr4.free 4
              have nf5 := hr4.free 5
              have hq0 := ((((((hr4.set 0 (.string ⟨#[]⟩)).set 1 (.string ⟨#[]⟩)).set 2 (.int .i64 0)).set 3 (.string ⟨#[]⟩)).set 4 (.string ⟨#[]⟩)).set 5 (.bool false))
              simp only [List.setIfInBounds_toArray, List.set_cons_zero, List.set_cons_succ] at hq0
              have HQ := Lib.hid hq0; clear hq0
              have HBF : Hid (Below w.heap.size w ((((((w3.setCell ⟨w.heap.size + 1, 0, none⟩ (.string ⟨#[]⟩)).setCell ⟨w.heap.size + 1, 1, none⟩ (.string ⟨#[]⟩)).setCell ⟨w.heap.size + 1, 2, none⟩ (.int .i64 0)).setCell ⟨w.heap.size + 1, 3, none⟩ (.string ⟨#[]⟩)).setCell ⟨w.heap.size + 1, 4, none⟩ (.string ⟨#[]⟩)).setCell ⟨w.heap.size + 1, 5, none⟩ (.bool false))) := ((((((HB3.out.setCell (p := ⟨w.heap.size + 1, 0, none⟩) (Nat.le_succ _) (.string ⟨#[]⟩)).setCell (p := ⟨w.heap.size + 1, 1, none⟩) (Nat.le_succ _) (.string ⟨#[]⟩)).setCell (p := ⟨w.heap.size + 1, 2, none⟩) (Nat.le_succ _) (.int .i64 0)).setCell (p := ⟨w.heap.size + 1, 3, none⟩) (Nat.le_succ _) (.string ⟨#[]⟩)).setCell (p := ⟨w.heap.size + 1, 4, none⟩) (Nat.le_succ _) (.string ⟨#[]⟩)).setCell (p := ⟨w.heap.size + 1, 5, none⟩) (Nat.le_succ _) (.bool false))
              clear hr4
              go_wp2_with fail
              have m0 := HQ.out.cell 0 (.string ⟨#[]⟩) rfl
              have m1 := HQ.out.cell 1 (.string ⟨#[]⟩) rfl
              have m2 := HQ.out.cell 2 (.int .i64 0) rfl
              have m3 := HQ.out.cell 3 (.string ⟨#[]⟩) rfl
              have m4 := HQ.out.cell 4 (.string ⟨#[]⟩) rfl
              have m5 := HQ.out.cell 5 (.bool false) rfl
              refine bodyPost_ret (v := .tuple #[.agg #[.string ⟨#[]⟩, .string ⟨#[]⟩, .int .i64 0, .string ⟨#[]⟩, .string ⟨#[]⟩, .bool false], .int .i64 4]) (by simp [results, Tryz.results33, go_sem, m0, m1, m2, m3, m4, m5]) rfl ⟨?_, HBF.out⟩
              rfl
            · rw [if_pos ⟨.inr rfl, rfl⟩]
              have HWH : Hid (∀ W, Calls Tryz.prog 59 #[.string (bs schS ++ bs t2)] W (RetU W (endU (parseU (schS ++ t2))))) := fun W => by
                rw [show bs schS ++ bs t2 = bs (schS ++ t2) from bs_of (by rw [ByteArray.data_append, Array.toList_append, bs_data, bs_data])]
                exact uwhole_any _ W
              generalize endU (parseU (schS ++ t2)) = X at *
              obtain ⟨⟨qsc, qho, qpo, qpa, qqu, qhq⟩, qe⟩ := X
              unfold RetU at HWH ⊢
              simp only at HWH ⊢
              go_enter Tryz.func33, Tryz.ntmps33
              go_wp2_with fail
              refine (HCK.out _).mono ?_
              rintro e w1 ⟨rfl, hb1⟩
              have HB1 := Lib.hid (HAL.out.trans (hb1.mono HAL.out.size)); have hn1 := HBN.out.below hb1; have hr1 := HBR.out.below hb1; clear hb1
              go_wp2_with fail
              refine (HF1.out _).mono ?_
              rintro e w2 ⟨rfl, rfl⟩
              go_wp2_with fail
              rw [HX.out]
              refine (HS.out _).mono ?_
              rintro e w2 ⟨rfl, rfl⟩
              have HN1 := Lib.hid hn1; have HR1 := Lib.hid hr1; clear hn1 hr1
              go_wp2_with fail
              rw [HS1.out]
              refine (HLW.out _).mono ?_
              rintro e w3 ⟨rfl, hb3⟩
              have HB3 := Lib.hid (HB1.out.trans (hb3.mono HB1.out.size)); have HR3 := Lib.hid (HR1.out.below hb3); clear hb3 HB1 HN1 HR1
              go_wp2_with fail
              rw [HS2.out]
              refine (HBG.out _).mono ?_
              rintro e w4 ⟨rfl, rfl⟩
              go_wp2_with fail
              rw [HS3.out]
              go_wp2_with fail
              refine (HWH.out _).mono ?_
              rintro e w4 ⟨rfl, hb4⟩
              have HB4 := Lib.hid (HB3.out.trans (hb4.mono HB3.out.size)); have hr4 := HR3.out.below hb4; clear hb4
              have nc0 := hr4.cell 0 (.string ⟨#[]⟩) rfl
              have nc1 := hr4.cell 1 (.string ⟨#[]⟩) rfl
              have nc2 := hr4.cell 2 (.int .i64 0) rfl
              have nc3 := hr4.cell 3 (.string ⟨#[]⟩) rfl
              have nc4 := hr4.cell 4 (.string ⟨#[]⟩) rfl
              have nc5 := hr4.cell 5 (.bool false) rfl
              have nf0 := hr4.free 0
              have nf1 := hr4.free 1
              have nf2 := hr4.free 2
              have nf3 := hr4.free 3
              have nf4 := hr4.free 4
              have nf5 := hr4.free 5
              have hq0 := ((((((hr4.set 0 (.string (bs qsc))).set 1 (.string (bs qho))).set 2 (.int .i64 qpo)).set 3 (.string (bs qpa))).set 4 (.string (bs qqu))).set 5 (.bool qhq))
              simp only [List.setIfInBounds_toArray, List.set_cons_zero, List.set_cons_succ] at hq0
              have HQ := Lib.hid hq0; clear hq0
              have HBF : Hid (Below w.heap.size w ((((((w4.setCell ⟨w.heap.size + 1, 0, none⟩ (.string (bs qsc))).setCell ⟨w.heap.size + 1, 1, none⟩ (.string (bs qho))).setCell ⟨w.heap.size + 1, 2, none⟩ (.int .i64 qpo)).setCell ⟨w.heap.size + 1, 3, none⟩ (.string (bs qpa))).setCell ⟨w.heap.size + 1, 4, none⟩ (.string (bs qqu))).setCell ⟨w.heap.size + 1, 5, none⟩ (.bool qhq))) := ((((((HB4.out.setCell (p := ⟨w.heap.size + 1, 0, none⟩) (Nat.le_succ _) (.string (bs qsc))).setCell (p := ⟨w.heap.size + 1, 1, none⟩) (Nat.le_succ _) (.string (bs qho))).setCell (p := ⟨w.heap.size + 1, 2, none⟩) (Nat.le_succ _) (.int .i64 qpo)).setCell (p := ⟨w.heap.size + 1, 3, none⟩) (Nat.le_succ _) (.string (bs qpa))).setCell (p := ⟨w.heap.size + 1, 4, none⟩) (Nat.le_succ _) (.string (bs qqu))).setCell (p := ⟨w.heap.size + 1, 5, none⟩) (Nat.le_succ _) (.bool qhq))
              clear hr4
              go_wp2_with fail
              have m0 := HQ.out.cell 0 (.string (bs qsc)) rfl
              have m1 := HQ.out.cell 1 (.string (bs qho)) rfl
              have m2 := HQ.out.cell 2 (.int .i64 qpo) rfl
              have m3 := HQ.out.cell 3 (.string (bs qpa)) rfl
              have m4 := HQ.out.cell 4 (.string (bs qqu)) rfl
              have m5 := HQ.out.cell 5 (.bool qhq) rfl
              refine bodyPost_ret (v := .tuple #[.agg #[.string (bs qsc), .string (bs qho), .int .i64 qpo, .string (bs qpa), .string (bs qqu), .bool qhq], .int .i64 qe]) (by simp [results, Tryz.results33, go_sem, m0, m1, m2, m3, m4, m5]) rfl ⟨?_, HBF.out⟩
              rfl
          · rw [if_neg (fun h => h.1.elim h1 h2)]
            have e1 : ((bs nm).toList == [104, 116, 116, 112]) = false := by rw [beq_lit]; exact beq_eq_false_iff_ne.2 h1
            have e2 : ((bs nm).toList == [104, 116, 116, 112, 115]) = false := by rw [beq_lit]; exact beq_eq_false_iff_ne.2 h2
            clear h1 h2
            show Calls Tryz.prog 33 _ w fun e w' => e = .returned (.tuple #[.agg #[.string ⟨#[]⟩, .string ⟨#[]⟩, .int .i64 0, .string ⟨#[]⟩, .string ⟨#[]⟩, .bool false], .int .i64 4]) ∧ Below w.heap.size w w'
            go_enter Tryz.func33, Tryz.ntmps33
            go_wp2_with fail
            refine (HCK.out _).mono ?_
            rintro e w1 ⟨rfl, hb1⟩
            have HB1 := Lib.hid (HAL.out.trans (hb1.mono HAL.out.size)); have hn1 := HBN.out.below hb1; have hr1 := HBR.out.below hb1; clear hb1
            go_wp2_with fail
            refine (HF1.out _).mono ?_
            rintro e w2 ⟨rfl, rfl⟩
            go_wp2_with fail
            rw [HX.out]
            refine (HS.out _).mono ?_
            rintro e w2 ⟨rfl, rfl⟩
            have HN1 := Lib.hid hn1; have HR1 := Lib.hid hr1; clear hn1 hr1
            go_wp2_with fail
            rw [HS1.out]
            refine (HLW.out _).mono ?_
            rintro e w3 ⟨rfl, hb3⟩
            have HB3 := Lib.hid (HB1.out.trans (hb3.mono HB1.out.size)); have HR3 := Lib.hid (HR1.out.below hb3); clear hb3 HB1 HN1 HR1
            have hr4 := HR3.out
            have nc0 := hr4.cell 0 (.string ⟨#[]⟩) rfl
            have nc1 := hr4.cell 1 (.string ⟨#[]⟩) rfl
            have nc2 := hr4.cell 2 (.int .i64 0) rfl
            have nc3 := hr4.cell 3 (.string ⟨#[]⟩) rfl
            have nc4 := hr4.cell 4 (.string ⟨#[]⟩) rfl
            have nc5 := hr4.cell 5 (.bool false) rfl
            have nf0 := hr4.free 0
            have nf1 := hr4.free 1
            have nf2 := hr4.free 2
            have nf3 := hr4.free 3
            have nf4 := hr4.free 4
            have nf5 := hr4.free 5
            have hq0 := ((((((hr4.set 0 (.string ⟨#[]⟩)).set 1 (.string ⟨#[]⟩)).set 2 (.int .i64 0)).set 3 (.string ⟨#[]⟩)).set 4 (.string ⟨#[]⟩)).set 5 (.bool false))
            simp only [List.setIfInBounds_toArray, List.set_cons_zero, List.set_cons_succ] at hq0
            have HQ := Lib.hid hq0; clear hq0
            have HBF : Hid (Below w.heap.size w ((((((w3.setCell ⟨w.heap.size + 1, 0, none⟩ (.string ⟨#[]⟩)).setCell ⟨w.heap.size + 1, 1, none⟩ (.string ⟨#[]⟩)).setCell ⟨w.heap.size + 1, 2, none⟩ (.int .i64 0)).setCell ⟨w.heap.size + 1, 3, none⟩ (.string ⟨#[]⟩)).setCell ⟨w.heap.size + 1, 4, none⟩ (.string ⟨#[]⟩)).setCell ⟨w.heap.size + 1, 5, none⟩ (.bool false))) := ((((((HB3.out.setCell (p := ⟨w.heap.size + 1, 0, none⟩) (Nat.le_succ _) (.string ⟨#[]⟩)).setCell (p := ⟨w.heap.size + 1, 1, none⟩) (Nat.le_succ _) (.string ⟨#[]⟩)).setCell (p := ⟨w.heap.size + 1, 2, none⟩) (Nat.le_succ _) (.int .i64 0)).setCell (p := ⟨w.heap.size + 1, 3, none⟩) (Nat.le_succ _) (.string ⟨#[]⟩)).setCell (p := ⟨w.heap.size + 1, 4, none⟩) (Nat.le_succ _) (.string ⟨#[]⟩)).setCell (p := ⟨w.heap.size + 1, 5, none⟩) (Nat.le_succ _) (.bool false))
            clear hr4
            go_wp2_with fail
            have m0 := HQ.out.cell 0 (.string ⟨#[]⟩) rfl
            have m1 := HQ.out.cell 1 (.string ⟨#[]⟩) rfl
            have m2 := HQ.out.cell 2 (.int .i64 0) rfl
            have m3 := HQ.out.cell 3 (.string ⟨#[]⟩) rfl
            have m4 := HQ.out.cell 4 (.string ⟨#[]⟩) rfl
            have m5 := HQ.out.cell 5 (.bool false) rfl
            refine bodyPost_ret (v := .tuple #[.agg #[.string ⟨#[]⟩, .string ⟨#[]⟩, .int .i64 0, .string ⟨#[]⟩, .string ⟨#[]⟩, .bool false], .int .i64 4]) (by simp [results, Tryz.results33, go_sem, m0, m1, m2, m3, m4, m5]) rfl ⟨?_, HBF.out⟩
            rfl
      · rw [if_neg hn]
        have n1 : ¬ (0 : Int) < (schN r0 : Nat) := by omega
        generalize schN r0 = n at *
        clear hn
        have HBG := Lib.hid (fun W => ubegins_any r0 W)
        generalize Lib.hasPrefix r0 [47, 47] = y at *
        cases y
        · simp only [Bool.false_eq_true, if_false]
          have HF2 := Lib.hid (fun W => findL_any r0 63 W (by omega))
          have hX2 : (bs r0).extract 0 (Lib.cut r0 [63]).1.length = bs (Lib.cut r0 [63]).1 := by rw [ext_of, cut_take]
          obtain ⟨hc1, hc2⟩ := cut_rest r0 63
          obtain ⟨k1, k2⟩ := cut_leU r0 [63]
          have hX3 := ext_from r0 ((Lib.cut r0 [63]).1.length + 1)
          generalize Lib.cut r0 [63] = C at *
          obtain ⟨p, q, f⟩ := C
          simp only at HF2 hX2 hX3 hc1 hc2 k1 k2 ⊢
          have k3 : (p.length : Int) ≤ (r0.length : Int) := by omega
          by_cases hp : p = []
          · have z1 : ((bs p).toList == []) = true := by rw [hp, beq_lit]; rfl
            have z2 : (bs p).toList.isEmpty = true := by rw [hp, Lib.toList_data, bs_data]; rfl
            cases f
            · obtain ⟨k4, k5⟩ := hc2 rfl
              subst k5
              have k6 : ¬ (p.length : Int) < (r0.length : Int) := by omega
              clear hc1 hc2 hX3 k4
              have hR : relU ⟨sc, ho, po, pa, qu, hq⟩ p [] false = ⟨sc, ho, po, pa, qu, hq⟩ := by rw [hp]; rfl
              rw [hR]
              clear hR
              have HCK2 : Hid (∀ W, Calls Tryz.prog 30 #[.agg #[.string (bs sc), .string (bs ho), .int .i64 po, .string (bs pa), .string (bs qu), .bool hq]] W fun e w' => e = .returned (.int .i64 (Ur.check ⟨sc, ho, po, pa, qu, hq⟩)) ∧ Below W.heap.size W w') := fun W => ucheck_any ⟨sc, ho, po, pa, qu, hq⟩ W ⟨by simp only; omega, by simp only; omega, by simp only; omega⟩
              have HNM := Lib.hid (fun W => unormal_any ⟨sc, ho, po, pa, qu, hq⟩ W ⟨by simp only; omega, by simp only; omega, by simp only; omega⟩ (by simp only; omega))
              have he1 : Ur.check ⟨sc, ho, po, pa, qu, hq⟩ ≠ 0 → endU (⟨sc, ho, po, pa, qu, hq⟩, Ur.check ⟨sc, ho, po, pa, qu, hq⟩) = (ur0, Ur.check ⟨sc, ho, po, pa, qu, hq⟩) := fun h => if_pos h
              have he2 : Ur.check ⟨sc, ho, po, pa, qu, hq⟩ = 0 → endU (⟨sc, ho, po, pa, qu, hq⟩, Ur.check ⟨sc, ho, po, pa, qu, hq⟩) = (Ur.normal ⟨sc, ho, po, pa, qu, hq⟩, 0) := fun h => if_neg (fun h2 => h2 h)
              generalize endU (⟨sc, ho, po, pa, qu, hq⟩, Ur.check ⟨sc, ho, po, pa, qu, hq⟩) = E at *
              generalize Ur.normal ⟨sc, ho, po, pa, qu, hq⟩ = X2 at *
              generalize Ur.check ⟨sc, ho, po, pa, qu, hq⟩ = k at *
              obtain ⟨nsc, nho, npo, npa, nqu, nhq⟩ := X2
              simp only at HNM
              have HE1 := Lib.hid he1; have HE2 := Lib.hid he2; clear he1 he2
              clear hp
              go_enter Tryz.func33, Tryz.ntmps33
              go_wp2_with fail
              refine (HCK.out _).mono ?_
              rintro e w1 ⟨rfl, hb1⟩
              have HB1 := Lib.hid (HAL.out.trans (hb1.mono HAL.out.size)); have hn1 := HBN.out.below hb1; have hr1 := HBR.out.below hb1; clear hb1
              go_wp2_with fail
              refine (HF1.out _).mono ?_
              rintro e w2 ⟨rfl, rfl⟩
              go_wp2_with fail
              rw [HX.out]
              refine (HS.out _).mono ?_
              rintro e w2 ⟨rfl, rfl⟩
              go_wp2_with fail
              refine (HBG.out _).mono ?_
              rintro e w4 ⟨rfl, rfl⟩
              have HN1 := Lib.hid hn1; have HR1 := Lib.hid hr1; clear hn1 hr1
              have bc0 := HN1.out.cell 0 (.string (bs sc)) rfl
              have bc1 := HN1.out.cell 1 (.string (bs ho)) rfl
              have bc2 := HN1.out.cell 2 (.int .i64 po) rfl
              have bc3 := HN1.out.cell 3 (.string (bs pa)) rfl
              have bc4 := HN1.out.cell 4 (.string (bs qu)) rfl
              have bc5 := HN1.out.cell 5 (.bool hq) rfl
              go_wp2_with fail
              refine (HF2.out _).mono ?_
              rintro e w4 ⟨rfl, rfl⟩
              go_wp2_with fail
              have hr3 := HR1.out.alloc (.cells #[.string (bs sc), .string (bs ho), .int .i64 po, .string (bs pa), .string (bs qu), .bool hq] 23)
              have hu3 := ubk.new w1 #[.string (bs sc), .string (bs ho), .int .i64 po, .string (bs pa), .string (bs qu), .bool hq] 23
              have hal3 : Below w1.heap.size w1 (w1.alloc (.cells #[.string (bs sc), .string (bs ho), .int .i64 po, .string (bs pa), .string (bs qu), .bool hq] 23)) := (Below.refl _ _).alloc (Nat.le_refl _) _
              have HB3 := Lib.hid (HB1.out.trans (hal3.mono HB1.out.size)); clear hal3
              refine (HCK2.out _).mono ?_
              rintro e w5 ⟨rfl, hb5⟩
              have HB5 := Lib.hid (HB3.out.trans (hb5.mono HB3.out.size)); have hr5 := hr3.below hb5; have hu5 := hu3.below hb5; clear hb5 hr3 hu3
              by_cases hk : k = 0
              · subst hk
                have uc0 := hu5.cell 0 (.string (bs sc)) rfl
                have uc1 := hu5.cell 1 (.string (bs ho)) rfl
                have uc2 := hu5.cell 2 (.int .i64 po) rfl
                have uc3 := hu5.cell 3 (.string (bs pa)) rfl
                have uc4 := hu5.cell 4 (.string (bs qu)) rfl
                have uc5 := hu5.cell 5 (.bool hq) rfl
                have HR5 := Lib.hid hr5; clear hr5 hu5
                go_wp2_with fail
                refine (HNM.out _).mono ?_
                rintro e w6 ⟨rfl, hb6⟩
                clear uc0 uc1 uc2 uc3 uc4 uc5
                have HB6 := Lib.hid (HB5.out.trans (hb6.mono HB5.out.size)); have hr6 := HR5.out.below hb6; clear hb6
                have nc0 := hr6.cell 0 (.string ⟨#[]⟩) rfl
                have nc1 := hr6.cell 1 (.string ⟨#[]⟩) rfl
                have nc2 := hr6.cell 2 (.int .i64 0) rfl
                have nc3 := hr6.cell 3 (.string ⟨#[]⟩) rfl
                have nc4 := hr6.cell 4 (.string ⟨#[]⟩) rfl
                have nc5 := hr6.cell 5 (.bool false) rfl
                have nf0 := hr6.free 0
                have nf1 := hr6.free 1
                have nf2 := hr6.free 2
                have nf3 := hr6.free 3
                have nf4 := hr6.free 4
                have nf5 := hr6.free 5
                have hq0 := ((((((hr6.set 0 (.string (bs nsc))).set 1 (.string (bs nho))).set 2 (.int .i64 npo)).set 3 (.string (bs npa))).set 4 (.string (bs nqu))).set 5 (.bool nhq))
                simp only [List.setIfInBounds_toArray, List.set_cons_zero, List.set_cons_succ] at hq0
                have HQ := Lib.hid hq0; clear hq0
                have HBF : Hid (Below w.heap.size w ((((((w6.setCell ⟨w.heap.size + 1, 0, none⟩ (.string (bs nsc))).setCell ⟨w.heap.size + 1, 1, none⟩ (.string (bs nho))).setCell ⟨w.heap.size + 1, 2, none⟩ (.int .i64 npo)).setCell ⟨w.heap.size + 1, 3, none⟩ (.string (bs npa))).setCell ⟨w.heap.size + 1, 4, none⟩ (.string (bs nqu))).setCell ⟨w.heap.size + 1, 5, none⟩ (.bool nhq))) := ((((((HB6.out.setCell (p := ⟨w.heap.size + 1, 0, none⟩) (Nat.le_succ _) (.string (bs nsc))).setCell (p := ⟨w.heap.size + 1, 1, none⟩) (Nat.le_succ _) (.string (bs nho))).setCell (p := ⟨w.heap.size + 1, 2, none⟩) (Nat.le_succ _) (.int .i64 npo)).setCell (p := ⟨w.heap.size + 1, 3, none⟩) (Nat.le_succ _) (.string (bs npa))).setCell (p := ⟨w.heap.size + 1, 4, none⟩) (Nat.le_succ _) (.string (bs nqu))).setCell (p := ⟨w.heap.size + 1, 5, none⟩) (Nat.le_succ _) (.bool nhq))
                clear hr6
                go_wp2_with fail
                have m0 := HQ.out.cell 0 (.string (bs nsc)) rfl
                have m1 := HQ.out.cell 1 (.string (bs nho)) rfl
                have m2 := HQ.out.cell 2 (.int .i64 npo) rfl
                have m3 := HQ.out.cell 3 (.string (bs npa)) rfl
                have m4 := HQ.out.cell 4 (.string (bs nqu)) rfl
                have m5 := HQ.out.cell 5 (.bool nhq) rfl
                refine bodyPost_ret (v := .tuple #[.agg #[.string (bs nsc), .string (bs nho), .int .i64 npo, .string (bs npa), .string (bs nqu), .bool nhq], .int .i64 0]) (by simp [results, Tryz.results33, go_sem, m0, m1, m2, m3, m4, m5]) rfl ?_
                rw [HE2.out trivial]
                exact ⟨rfl, HBF.out⟩
              · have hkb : (k != 0) = true := bne_iff_ne.2 hk
                have nc0 := hr5.cell 0 (.string ⟨#[]⟩) rfl
                have nc1 := hr5.cell 1 (.string ⟨#[]⟩) rfl
                have nc2 := hr5.cell 2 (.int .i64 0) rfl
                have nc3 := hr5.cell 3 (.string ⟨#[]⟩) rfl
                have nc4 := hr5.cell 4 (.string ⟨#[]⟩) rfl
                have nc5 := hr5.cell 5 (.bool false) rfl
                have nf0 := hr5.free 0
                have nf1 := hr5.free 1
                have nf2 := hr5.free 2
                have nf3 := hr5.free 3
                have nf4 := hr5.free 4
                have nf5 := hr5.free 5
                have hq0 := ((((((hr5.set 0 (.string ⟨#[]⟩)).set 1 (.string ⟨#[]⟩)).set 2 (.int .i64 0)).set 3 (.string ⟨#[]⟩)).set 4 (.string ⟨#[]⟩)).set 5 (.bool false))
                simp only [List.setIfInBounds_toArray, List.set_cons_zero, List.set_cons_succ] at hq0
                have HQ := Lib.hid hq0; clear hq0
                have HBF : Hid (Below w.heap.size w ((((((w5.setCell ⟨w.heap.size + 1, 0, none⟩ (.string ⟨#[]⟩)).setCell ⟨w.heap.size + 1, 1, none⟩ (.string ⟨#[]⟩)).setCell ⟨w.heap.size + 1, 2, none⟩ (.int .i64 0)).setCell ⟨w.heap.size + 1, 3, none⟩ (.string ⟨#[]⟩)).setCell ⟨w.heap.size + 1, 4, none⟩ (.string ⟨#[]⟩)).setCell ⟨w.heap.size + 1, 5, none⟩ (.bool false))) := ((((((HB5.out.setCell (p := ⟨w.heap.size + 1, 0, none⟩) (Nat.le_succ _) (.string ⟨#[]⟩)).setCell (p := ⟨w.heap.size + 1, 1, none⟩) (Nat.le_succ _) (.string ⟨#[]⟩)).setCell (p := ⟨w.heap.size + 1, 2, none⟩) (Nat.le_succ _) (.int .i64 0)).setCell (p := ⟨w.heap.size + 1, 3, none⟩) (Nat.le_succ _) (.string ⟨#[]⟩)).setCell (p := ⟨w.heap.size + 1, 4, none⟩) (Nat.le_succ _) (.string ⟨#[]⟩)).setCell (p := ⟨w.heap.size + 1, 5, none⟩) (Nat.le_succ _) (.bool false))
                clear hr5 hu5
                have HK := Lib.hid hk; clear hk
                go_wp2_with fail
                have m0 := HQ.out.cell 0 (.string ⟨#[]⟩) rfl
                have m1 := HQ.out.cell 1 (.string ⟨#[]⟩) rfl
                have m2 := HQ.out.cell 2 (.int .i64 0) rfl
                have m3 := HQ.out.cell 3 (.string ⟨#[]⟩) rfl
                have m4 := HQ.out.cell 4 (.string ⟨#[]⟩) rfl
                have m5 := HQ.out.cell 5 (.bool false) rfl
                refine bodyPost_ret (v := .tuple #[.agg #[.string ⟨#[]⟩, .string ⟨#[]⟩, .int .i64 0, .string ⟨#[]⟩, .string ⟨#[]⟩, .bool false], .int .i64 k]) (by simp [results, Tryz.results33, go_sem, m0, m1, m2, m3, m4, m5]) rfl ?_
                rw [HE1.out HK.out]
                exact ⟨rfl, HBF.out⟩
            · obtain ⟨k4, k5⟩ := hc1 rfl
              rw [k5] at hX3
              have k6 : (p.length : Int) < (r0.length : Int) := by omega
              have k7 : (p.length : Int) + 1 ≤ (r0.length : Int) := by omega
              have k8 := IntWalk.i64_in ((p.length : Int) + 1) (by omega)
              clear hc1 hc2 k5
              have hR : relU ⟨sc, ho, po, pa, qu, hq⟩ p q true = ⟨sc, ho, po, pa, q, true⟩ := by rw [hp]; rfl
              rw [hR]
              clear hR
              have HCK2 : Hid (∀ W, Calls Tryz.prog 30 #[.agg #[.string (bs sc), .string (bs ho), .int .i64 po, .string (bs pa), .string (bs q), .bool true]] W fun e w' => e = .returned (.int .i64 (Ur.check ⟨sc, ho, po, pa, q, true⟩)) ∧ Below W.heap.size W w') := fun W => ucheck_any ⟨sc, ho, po, pa, q, true⟩ W ⟨by simp only; omega, by simp only; omega, by simp only; omega⟩
              have HNM := Lib.hid (fun W => unormal_any ⟨sc, ho, po, pa, q, true⟩ W ⟨by simp only; omega, by simp only; omega, by simp only; omega⟩ (by simp only; omega))
              have he1 : Ur.check ⟨sc, ho, po, pa, q, true⟩ ≠ 0 → endU (⟨sc, ho, po, pa, q, true⟩, Ur.check ⟨sc, ho, po, pa, q, true⟩) = (ur0, Ur.check ⟨sc, ho, po, pa, q, true⟩) := fun h => if_pos h
              have he2 : Ur.check ⟨sc, ho, po, pa, q, true⟩ = 0 → endU (⟨sc, ho, po, pa, q, true⟩, Ur.check ⟨sc, ho, po, pa, q, true⟩) = (Ur.normal ⟨sc, ho, po, pa, q, true⟩, 0) := fun h => if_neg (fun h2 => h2 h)
              generalize endU (⟨sc, ho, po, pa, q, true⟩, Ur.check ⟨sc, ho, po, pa, q, true⟩) = E at *
              generalize Ur.normal ⟨sc, ho, po, pa, q, true⟩ = X2 at *
              generalize Ur.check ⟨sc, ho, po, pa, q, true⟩ = k at *
              obtain ⟨nsc, nho, npo, npa, nqu, nhq⟩ := X2
              simp only at HNM
              have HE1 := Lib.hid he1; have HE2 := Lib.hid he2; clear he1 he2
              clear hp
              go_enter Tryz.func33, Tryz.ntmps33
              go_wp2_with fail
              refine (HCK.out _).mono ?_
              rintro e w1 ⟨rfl, hb1⟩
              have HB1 := Lib.hid (HAL.out.trans (hb1.mono HAL.out.size)); have hn1 := HBN.out.below hb1; have hr1 := HBR.out.below hb1; clear hb1
              go_wp2_with fail
              refine (HF1.out _).mono ?_
              rintro e w2 ⟨rfl, rfl⟩
              go_wp2_with fail
              rw [HX.out]
              refine (HS.out _).mono ?_
              rintro e w2 ⟨rfl, rfl⟩
              go_wp2_with fail
              refine (HBG.out _).mono ?_
              rintro e w4 ⟨rfl, rfl⟩
              have HN1 := Lib.hid hn1; have HR1 := Lib.hid hr1; clear hn1 hr1
              have bc0 := HN1.out.cell 0 (.string (bs sc)) rfl
              have bc1 := HN1.out.cell 1 (.string (bs ho)) rfl
              have bc2 := HN1.out.cell 2 (.int .i64 po) rfl
              have bc3 := HN1.out.cell 3 (.string (bs pa)) rfl
              have bc4 := HN1.out.cell 4 (.string (bs qu)) rfl
              have bc5 := HN1.out.cell 5 (.bool hq) rfl
              go_wp2_with fail
              refine (HF2.out _).mono ?_
              rintro e w4 ⟨rfl, rfl⟩
              go_wp2_with fail
              have hr3 := HR1.out.alloc (.cells #[.string (bs sc), .string (bs ho), .int .i64 po, .string (bs pa), .string (bs q), .bool true] 23)
              have hu3 := ubk.new w1 #[.string (bs sc), .string (bs ho), .int .i64 po, .string (bs pa), .string (bs q), .bool true] 23
              have hal3 : Below w1.heap.size w1 (w1.alloc (.cells #[.string (bs sc), .string (bs ho), .int .i64 po, .string (bs pa), .string (bs q), .bool true] 23)) := (Below.refl _ _).alloc (Nat.le_refl _) _
              have HB3 := Lib.hid (HB1.out.trans (hal3.mono HB1.out.size)); clear hal3
              refine (HCK2.out _).mono ?_
              rintro e w5 ⟨rfl, hb5⟩
              have HB5 := Lib.hid (HB3.out.trans (hb5.mono HB3.out.size)); have hr5 := hr3.below hb5; have hu5 := hu3.below hb5; clear hb5 hr3 hu3
              by_cases hk : k = 0
              · subst hk
                have uc0 := hu5.cell 0 (.string (bs sc)) rfl
                have uc1 := hu5.cell 1 (.string (bs ho)) rfl
                have uc2 := hu5.cell 2 (.int .i64 po) rfl
                have uc3 := hu5.cell 3 (.string (bs pa)) rfl
                have uc4 := hu5.cell 4 (.string (bs q)) rfl
                have uc5 := hu5.cell 5 (.bool true) rfl
                have HR5 := Lib.hid hr5; clear hr5 hu5
                go_wp2_with fail
                refine (HNM.out _).mono ?_
                rintro e w6 ⟨rfl, hb6⟩
                clear uc0 uc1 uc2 uc3 uc4 uc5
                have HB6 := Lib.hid (HB5.out.trans (hb6.mono HB5.out.size)); have hr6 := HR5.out.below hb6; clear hb6
                have nc0 := hr6.cell 0 (.string ⟨#[]⟩) rfl
                have nc1 := hr6.cell 1 (.string ⟨#[]⟩) rfl
                have nc2 := hr6.cell 2 (.int .i64 0) rfl
                have nc3 := hr6.cell 3 (.string ⟨#[]⟩) rfl
                have nc4 := hr6.cell 4 (.string ⟨#[]⟩) rfl
                have nc5 := hr6.cell 5 (.bool false) rfl
                have nf0 := hr6.free 0
                have nf1 := hr6.free 1
                have nf2 := hr6.free 2
                have nf3 := hr6.free 3
                have nf4 := hr6.free 4
                have nf5 := hr6.free 5
                have hq0 := ((((((hr6.set 0 (.string (bs nsc))).set 1 (.string (bs nho))).set 2 (.int .i64 npo)).set 3 (.string (bs npa))).set 4 (.string (bs nqu))).set 5 (.bool nhq))
                simp only [List.setIfInBounds_toArray, List.set_cons_zero, List.set_cons_succ] at hq0
                have HQ := Lib.hid hq0; clear hq0
                have HBF : Hid (Below w.heap.size w ((((((w6.setCell ⟨w.heap.size + 1, 0, none⟩ (.string (bs nsc))).setCell ⟨w.heap.size + 1, 1, none⟩ (.string (bs nho))).setCell ⟨w.heap.size + 1, 2, none⟩ (.int .i64 npo)).setCell ⟨w.heap.size + 1, 3, none⟩ (.string (bs npa))).setCell ⟨w.heap.size + 1, 4, none⟩ (.string (bs nqu))).setCell ⟨w.heap.size + 1, 5, none⟩ (.bool nhq))) := ((((((HB6.out.setCell (p := ⟨w.heap.size + 1, 0, none⟩) (Nat.le_succ _) (.string (bs nsc))).setCell (p := ⟨w.heap.size + 1, 1, none⟩) (Nat.le_succ _) (.string (bs nho))).setCell (p := ⟨w.heap.size + 1, 2, none⟩) (Nat.le_succ _) (.int .i64 npo)).setCell (p := ⟨w.heap.size + 1, 3, none⟩) (Nat.le_succ _) (.string (bs npa))).setCell (p := ⟨w.heap.size + 1, 4, none⟩) (Nat.le_succ _) (.string (bs nqu))).setCell (p := ⟨w.heap.size + 1, 5, none⟩) (Nat.le_succ _) (.bool nhq))
                clear hr6
                go_wp2_with fail
                have m0 := HQ.out.cell 0 (.string (bs nsc)) rfl
                have m1 := HQ.out.cell 1 (.string (bs nho)) rfl
                have m2 := HQ.out.cell 2 (.int .i64 npo) rfl
                have m3 := HQ.out.cell 3 (.string (bs npa)) rfl
                have m4 := HQ.out.cell 4 (.string (bs nqu)) rfl
                have m5 := HQ.out.cell 5 (.bool nhq) rfl
                refine bodyPost_ret (v := .tuple #[.agg #[.string (bs nsc), .string (bs nho), .int .i64 npo, .string (bs npa), .string (bs nqu), .bool nhq], .int .i64 0]) (by simp [results, Tryz.results33, go_sem, m0, m1, m2, m3, m4, m5]) rfl ?_
                rw [HE2.out trivial]
                exact ⟨rfl, HBF.out⟩
              · have hkb : (k != 0) = true := bne_iff_ne.2 hk
                have nc0 := hr5.cell 0 (.string ⟨#[]⟩) rfl
                have nc1 := hr5.cell 1 (.string ⟨#[]⟩) rfl
                have nc2 := hr5.cell 2 (.int .i64 0) rfl
                have nc3 := hr5.cell 3 (.string ⟨#[]⟩) rfl
                have nc4 := hr5.cell 4 (.string ⟨#[]⟩) rfl
                have nc5 := hr5.cell 5 (.bool false) rfl
                have nf0 := hr5.free 0
                have nf1 := hr5.free 1
                have nf2 := hr5.free 2
                have nf3 := hr5.free 3
                have nf4 := hr5.free 4
                have nf5 := hr5.free 5
                have hq0 := ((((((hr5.set 0 (.string ⟨#[]⟩)).set 1 (.string ⟨#[]⟩)).set 2 (.int .i64 0)).set 3 (.string ⟨#[]⟩)).set 4 (.string ⟨#[]⟩)).set 5 (.bool false))
                simp only [List.setIfInBounds_toArray, List.set_cons_zero, List.set_cons_succ] at hq0
                have HQ := Lib.hid hq0; clear hq0
                have HBF : Hid (Below w.heap.size w ((((((w5.setCell ⟨w.heap.size + 1, 0, none⟩ (.string ⟨#[]⟩)).setCell ⟨w.heap.size + 1, 1, none⟩ (.string ⟨#[]⟩)).setCell ⟨w.heap.size + 1, 2, none⟩ (.int .i64 0)).setCell ⟨w.heap.size + 1, 3, none⟩ (.string ⟨#[]⟩)).setCell ⟨w.heap.size + 1, 4, none⟩ (.string ⟨#[]⟩)).setCell ⟨w.heap.size + 1, 5, none⟩ (.bool false))) := ((((((HB5.out.setCell (p := ⟨w.heap.size + 1, 0, none⟩) (Nat.le_succ _) (.string ⟨#[]⟩)).setCell (p := ⟨w.heap.size + 1, 1, none⟩) (Nat.le_succ _) (.string ⟨#[]⟩)).setCell (p := ⟨w.heap.size + 1, 2, none⟩) (Nat.le_succ _) (.int .i64 0)).setCell (p := ⟨w.heap.size + 1, 3, none⟩) (Nat.le_succ _) (.string ⟨#[]⟩)).setCell (p := ⟨w.heap.size + 1, 4, none⟩) (Nat.le_succ _) (.string ⟨#[]⟩)).setCell (p := ⟨w.heap.size + 1, 5, none⟩) (Nat.le_succ _) (.bool false))
                clear hr5 hu5
                have HK := Lib.hid hk; clear hk
                go_wp2_with fail
                have m0 := HQ.out.cell 0 (.string ⟨#[]⟩) rfl
                have m1 := HQ.out.cell 1 (.string ⟨#[]⟩) rfl
                have m2 := HQ.out.cell 2 (.int .i64 0) rfl
                have m3 := HQ.out.cell 3 (.string ⟨#[]⟩) rfl
                have m4 := HQ.out.cell 4 (.string ⟨#[]⟩) rfl
                have m5 := HQ.out.cell 5 (.bool false) rfl
                refine bodyPost_ret (v := .tuple #[.agg #[.string ⟨#[]⟩, .string ⟨#[]⟩, .int .i64 0, .string ⟨#[]⟩, .string ⟨#[]⟩, .bool false], .int .i64 k]) (by simp [results, Tryz.results33, go_sem, m0, m1, m2, m3, m4, m5]) rfl ?_
                rw [HE1.out HK.out]
                exact ⟨rfl, HBF.out⟩
          · have z1 : ((bs p).toList == []) = false := by rw [beq_lit]; exact beq_eq_false_iff_ne.2 hp
            have z2 : (bs p).toList.isEmpty = false := by rw [Lib.toList_data, bs_data]; cases p with | nil => exact absurd rfl hp | cons => rfl
            have h0 : 0 < (bs p).size := by rw [bs_size]; exact List.length_pos_iff.2 hp
            have z3 : 0 < p.length := List.length_pos_iff.2 hp
            have hc := head47 hp h0
            cases hf : Lib.hasPrefix p [47]
            · rw [hf] at hc
              cases f
              · obtain ⟨k4, k5⟩ := hc2 rfl
                subst k5
                have k6 : ¬ (p.length : Int) < (r0.length : Int) := by omega
                clear hc1 hc2 hX3 k4
                have hdl : (dirOf pa ++ p).length ≤ 2048 := by have := dir_len pa; simp only [List.length_append]; omega
                have hDP : bs (dirOf pa) ++ bs p = bs (dirOf pa ++ p) := bs_of (by rw [ByteArray.data_append, Array.toList_append, bs_data, bs_data])
                have hDI := dir_is hpa
                have hdz := dir_len pa
                have hR : relU ⟨sc, ho, po, pa, qu, hq⟩ p [] false = ⟨sc, ho, po, dirOf pa ++ p, [], false⟩ := by unfold relU; rw [if_neg hp, hf, if_neg (by decide)]
                rw [hR]
                clear hR
                have HCK2 : Hid (∀ W, Calls Tryz.prog 30 #[.agg #[.string (bs sc), .string (bs ho), .int .i64 po, .string (bs (dirOf pa ++ p)), .string ⟨#[]⟩, .bool false]] W fun e w' => e = .returned (.int .i64 (Ur.check ⟨sc, ho, po, dirOf pa ++ p, [], false⟩)) ∧ Below W.heap.size W w') := fun W => ucheck_any ⟨sc, ho, po, dirOf pa ++ p, [], false⟩ W ⟨by simp only; omega, by simp only; omega, by simp only; omega⟩
                have HNM := Lib.hid (fun W => unormal_any ⟨sc, ho, po, dirOf pa ++ p, [], false⟩ W ⟨by simp only; omega, by simp only; omega, by simp only; omega⟩ (by simp only; omega))
                have he1 : Ur.check ⟨sc, ho, po, dirOf pa ++ p, [], false⟩ ≠ 0 → endU (⟨sc, ho, po, dirOf pa ++ p, [], false⟩, Ur.check ⟨sc, ho, po, dirOf pa ++ p, [], false⟩) = (ur0, Ur.check ⟨sc, ho, po, dirOf pa ++ p, [], false⟩) := fun h => if_pos h
                have he2 : Ur.check ⟨sc, ho, po, dirOf pa ++ p, [], false⟩ = 0 → endU (⟨sc, ho, po, dirOf pa ++ p, [], false⟩, Ur.check ⟨sc, ho, po, dirOf pa ++ p, [], false⟩) = (Ur.normal ⟨sc, ho, po, dirOf pa ++ p, [], false⟩, 0) := fun h => if_neg (fun h2 => h2 h)
                generalize endU (⟨sc, ho, po, dirOf pa ++ p, [], false⟩, Ur.check ⟨sc, ho, po, dirOf pa ++ p, [], false⟩) = E at *
                generalize Ur.normal ⟨sc, ho, po, dirOf pa ++ p, [], false⟩ = X2 at *
                generalize Ur.check ⟨sc, ho, po, dirOf pa ++ p, [], false⟩ = k at *
                obtain ⟨nsc, nho, npo, npa, nqu, nhq⟩ := X2
                simp only at HNM
                have HE1 := Lib.hid he1; have HE2 := Lib.hid he2; clear he1 he2
                have hppos : 0 < pa.length := by obtain ⟨t, rfl⟩ := hpa; simp
                have hE4 : (bs pa).extract 0 (lastN pa pa.length + 1) = bs (dirOf pa) := by rw [ext_of, hDI]
                have hll := lastN_lt (p := pa) pa.length hppos
                clear hDI hpa hp hf
                generalize dirOf pa ++ p = dp at *
                generalize dirOf pa = d at *
                have HDP := Lib.hid hDP; have HE4 := Lib.hid hE4; have HLL := Lib.hid hll; clear hDP hE4 hll hdl
                go_enter Tryz.func33, Tryz.ntmps33
                go_wp2_with fail
                refine (HCK.out _).mono ?_
                rintro e w1 ⟨rfl, hb1⟩
                have HB1 := Lib.hid (HAL.out.trans (hb1.mono HAL.out.size)); have hn1 := HBN.out.below hb1; have hr1 := HBR.out.below hb1; clear hb1
                go_wp2_with fail
                refine (HF1.out _).mono ?_
                rintro e w2 ⟨rfl, rfl⟩
                go_wp2_with fail
                rw [HX.out]
                refine (HS.out _).mono ?_
                rintro e w2 ⟨rfl, rfl⟩
                go_wp2_with fail
                refine (HBG.out _).mono ?_
                rintro e w4 ⟨rfl, rfl⟩
                have HN1 := Lib.hid hn1; have HR1 := Lib.hid hr1; clear hn1 hr1
                have bc0 := HN1.out.cell 0 (.string (bs sc)) rfl
                have bc1 := HN1.out.cell 1 (.string (bs ho)) rfl
                have bc2 := HN1.out.cell 2 (.int .i64 po) rfl
                have bc3 := HN1.out.cell 3 (.string (bs pa)) rfl
                have bc4 := HN1.out.cell 4 (.string (bs qu)) rfl
                have bc5 := HN1.out.cell 5 (.bool hq) rfl
                go_wp2_with fail
                refine (HF2.out _).mono ?_
                rintro e w4 ⟨rfl, rfl⟩
                have hL := HN1.out.alloc (.cells #[.string (bs sc), .string (bs ho), .int .i64 po, .string (bs pa), .string ⟨#[]⟩, .bool false] 23)
                have lc3 := hL.cell 3 (.string (bs pa)) rfl
                clear hL
                go_wp2_with fail
                go_loop [11, 12] (fun a i => ∃ k : Nat, k ≤ pa.length ∧ a = .int .i64 (lastN pa k : Nat) ∧ i = .int .i64 k) (fun _ i => pa.length - (intOf i).toNat)
                case atStart => exact ⟨0, Nat.zero_le _, rfl, rfl⟩
                case round =>
                  obtain ⟨k0, hk0, rfl, rfl⟩ := hrel
                  by_cases hlt : k0 < pa.length
                  · have hkz : k0 < (bs pa).size := by rw [bs_size]; exact hlt
                    by_cases h47 : (bs pa)[k0] = 47
                    · have hb : (((bs pa)[k0].toNat : Int) == 47) = true := by rw [h47]; rfl
                      have HL := lastN_hit hkz h47
                      rw [bs_data] at HL
                      have HL1 := Lib.hid HL; clear HL h47
                      go_wp2_with fail
                      go_round
                      case rel => exact ⟨k0 + 1, by omega, by rw [HL1.out], by go_num⟩
                      case measure => simp [intOf]; omega
                    · have hb : (((bs pa)[k0].toNat : Int) == 47) = false := by rw [b47]; exact beq_eq_false_iff_ne.2 h47
                      have HL := lastN_miss hkz h47
                      rw [bs_data] at HL
                      have HL1 := Lib.hid HL; clear HL h47
                      go_wp2_with fail
                      go_round
                      case rel => exact ⟨k0 + 1, by omega, by rw [HL1.out], by go_num⟩
                      case measure => simp [intOf]; omega
                  · obtain rfl : k0 = pa.length := by omega
                    have hll := HLL.out
                    have hE4 := HE4.out
                    generalize lastN pa pa.length = m at *
                    have m1 : (m : Int) + 1 ≤ (pa.length : Int) := by omega
                    have m2 := IntWalk.i64_in ((m : Int) + 1) (by omega)
                    clear hlt hk0 HE4 HLL hll
                    go_wp2_with fail
                    rw [HDP.out]
                    have hr3 := HR1.out.alloc (.cells #[.string (bs sc), .string (bs ho), .int .i64 po, .string (bs dp), .string ⟨#[]⟩, .bool false] 23)
                    have hu3 := ubk.new w1 #[.string (bs sc), .string (bs ho), .int .i64 po, .string (bs dp), .string ⟨#[]⟩, .bool false] 23
                    have hal3 : Below w1.heap.size w1 (w1.alloc (.cells #[.string (bs sc), .string (bs ho), .int .i64 po, .string (bs dp), .string ⟨#[]⟩, .bool false] 23)) := (Below.refl _ _).alloc (Nat.le_refl _) _
                    have HB3 := Lib.hid (HB1.out.trans (hal3.mono HB1.out.size)); clear hal3
                    refine (HCK2.out _).mono ?_
                    rintro e w5 ⟨rfl, hb5⟩
                    have HB5 := Lib.hid (HB3.out.trans (hb5.mono HB3.out.size)); have hr5 := hr3.below hb5; have hu5 := hu3.below hb5; clear hb5 hr3 hu3
                    by_cases hk : k = 0
                    · subst hk
                      have uc0 := hu5.cell 0 (.string (bs sc)) rfl
                      have uc1 := hu5.cell 1 (.string (bs ho)) rfl
                      have uc2 := hu5.cell 2 (.int .i64 po) rfl
                      have uc3 := hu5.cell 3 (.string (bs dp)) rfl
                      have uc4 := hu5.cell 4 (.string ⟨#[]⟩) rfl
                      have uc5 := hu5.cell 5 (.bool false) rfl
                      have HR5 := Lib.hid hr5; clear hr5 hu5
                      go_wp2_with fail
                      refine (HNM.out _).mono ?_
                      rintro e w6 ⟨rfl, hb6⟩
                      clear uc0 uc1 uc2 uc3 uc4 uc5
                      have HB6 := Lib.hid (HB5.out.trans (hb6.mono HB5.out.size)); have hr6 := HR5.out.below hb6; clear hb6
                      have nc0 := hr6.cell 0 (.string ⟨#[]⟩) rfl
                      have nc1 := hr6.cell 1 (.string ⟨#[]⟩) rfl
                      have nc2 := hr6.cell 2 (.int .i64 0) rfl
                      have nc3 := hr6.cell 3 (.string ⟨#[]⟩) rfl
                      have nc4 := hr6.cell 4 (.string ⟨#[]⟩) rfl
                      have nc5 := hr6.cell 5 (.bool false) rfl
                      have nf0 := hr6.free 0
                      have nf1 := hr6.free 1
                      have nf2 := hr6.free 2
                      have nf3 := hr6.free 3
                      have nf4 := hr6.free 4
                      have nf5 := hr6.free 5
                      have hq0 := ((((((hr6.set 0 (.string (bs nsc))).set 1 (.string (bs nho))).set 2 (.int .i64 npo)).set 3 (.string (bs npa))).set 4 (.string (bs nqu))).set 5 (.bool nhq))
                      simp only [List.setIfInBounds_toArray, List.set_cons_zero, List.set_cons_succ] at hq0
                      have HQ := Lib.hid hq0; clear hq0
                      have HBF : Hid (Below w.heap.size w ((((((w6.setCell ⟨w.heap.size + 1, 0, none⟩ (.string (bs nsc))).setCell ⟨w.heap.size + 1, 1, none⟩ (.string (bs nho))).setCell ⟨w.heap.size + 1, 2, none⟩ (.int .i64 npo)).setCell ⟨w.heap.size + 1, 3, none⟩ (.string (bs npa))).setCell ⟨w.heap.size + 1, 4, none⟩ (.string (bs nqu))).setCell ⟨w.heap.size + 1, 5, none⟩ (.bool nhq))) := ((((((HB6.out.setCell (p := ⟨w.heap.size + 1, 0, none⟩) (Nat.le_succ _) (.string (bs nsc))).setCell (p := ⟨w.heap.size + 1, 1, none⟩) (Nat.le_succ _) (.string (bs nho))).setCell (p := ⟨w.heap.size + 1, 2, none⟩) (Nat.le_succ _) (.int .i64 npo)).setCell (p := ⟨w.heap.size + 1, 3, none⟩) (Nat.le_succ _) (.string (bs npa))).setCell (p := ⟨w.heap.size + 1, 4, none⟩) (Nat.le_succ _) (.string (bs nqu))).setCell (p := ⟨w.heap.size + 1, 5, none⟩) (Nat.le_succ _) (.bool nhq))
                      clear hr6
                      go_wp2_with fail
                      have m0 := HQ.out.cell 0 (.string (bs nsc)) rfl
                      have m1 := HQ.out.cell 1 (.string (bs nho)) rfl
                      have m2 := HQ.out.cell 2 (.int .i64 npo) rfl
                      have m3 := HQ.out.cell 3 (.string (bs npa)) rfl
                      have m4 := HQ.out.cell 4 (.string (bs nqu)) rfl
                      have m5 := HQ.out.cell 5 (.bool nhq) rfl
                      refine bodyPost_ret (v := .tuple #[.agg #[.string (bs nsc), .string (bs nho), .int .i64 npo, .string (bs npa), .string (bs nqu), .bool nhq], .int .i64 0]) (by simp [results, Tryz.results33, go_sem, m0, m1, m2, m3, m4, m5]) rfl ?_
                      rw [HE2.out trivial]
                      exact ⟨rfl, HBF.out⟩
                    · have hkb : (k != 0) = true := bne_iff_ne.2 hk
                      have nc0 := hr5.cell 0 (.string ⟨#[]⟩) rfl
                      have nc1 := hr5.cell 1 (.string ⟨#[]⟩) rfl
                      have nc2 := hr5.cell 2 (.int .i64 0) rfl
                      have nc3 := hr5.cell 3 (.string ⟨#[]⟩) rfl
                      have nc4 := hr5.cell 4 (.string ⟨#[]⟩) rfl
                      have nc5 := hr5.cell 5 (.bool false) rfl
                      have nf0 := hr5.free 0
                      have nf1 := hr5.free 1
                      have nf2 := hr5.free 2
                      have nf3 := hr5.free 3
                      have nf4 := hr5.free 4
                      have nf5 := hr5.free 5
                      have hq0 := ((((((hr5.set 0 (.string ⟨#[]⟩)).set 1 (.string ⟨#[]⟩)).set 2 (.int .i64 0)).set 3 (.string ⟨#[]⟩)).set 4 (.string ⟨#[]⟩)).set 5 (.bool false))
                      simp only [List.setIfInBounds_toArray, List.set_cons_zero, List.set_cons_succ] at hq0
                      have HQ := Lib.hid hq0; clear hq0
                      have HBF : Hid (Below w.heap.size w ((((((w5.setCell ⟨w.heap.size + 1, 0, none⟩ (.string ⟨#[]⟩)).setCell ⟨w.heap.size + 1, 1, none⟩ (.string ⟨#[]⟩)).setCell ⟨w.heap.size + 1, 2, none⟩ (.int .i64 0)).setCell ⟨w.heap.size + 1, 3, none⟩ (.string ⟨#[]⟩)).setCell ⟨w.heap.size + 1, 4, none⟩ (.string ⟨#[]⟩)).setCell ⟨w.heap.size + 1, 5, none⟩ (.bool false))) := ((((((HB5.out.setCell (p := ⟨w.heap.size + 1, 0, none⟩) (Nat.le_succ _) (.string ⟨#[]⟩)).setCell (p := ⟨w.heap.size + 1, 1, none⟩) (Nat.le_succ _) (.string ⟨#[]⟩)).setCell (p := ⟨w.heap.size + 1, 2, none⟩) (Nat.le_succ _) (.int .i64 0)).setCell (p := ⟨w.heap.size + 1, 3, none⟩) (Nat.le_succ _) (.string ⟨#[]⟩)).setCell (p := ⟨w.heap.size + 1, 4, none⟩) (Nat.le_succ _) (.string ⟨#[]⟩)).setCell (p := ⟨w.heap.size + 1, 5, none⟩) (Nat.le_succ _) (.bool false))
                      clear hr5 hu5
                      have HK := Lib.hid hk; clear hk
                      go_wp2_with fail
                      have m0 := HQ.out.cell 0 (.string ⟨#[]⟩) rfl
                      have m1 := HQ.out.cell 1 (.string ⟨#[]⟩) rfl
                      have m2 := HQ.out.cell 2 (.int .i64 0) rfl
                      have m3 := HQ.out.cell 3 (.string ⟨#[]⟩) rfl
                      have m4 := HQ.out.cell 4 (.string ⟨#[]⟩) rfl
                      have m5 := HQ.out.cell 5 (.bool false) rfl
                      refine bodyPost_ret (v := .tuple #[.agg #[.string ⟨#[]⟩, .string ⟨#[]⟩, .int .i64 0, .string ⟨#[]⟩, .string ⟨#[]⟩, .bool false], .int .i64 k]) (by simp [results, Tryz.results33, go_sem, m0, m1, m2, m3, m4, m5]) rfl ?_
                      rw [HE1.out HK.out]
                      exact ⟨rfl, HBF.out⟩
              · obtain ⟨k4, k5⟩ := hc1 rfl
                rw [k5] at hX3
                have k6 : (p.length : Int) < (r0.length : Int) := by omega
                have k7 : (p.length : Int) + 1 ≤ (r0.length : Int) := by omega
                have k8 := IntWalk.i64_in ((p.length : Int) + 1) (by omega)
                clear hc1 hc2 k5
                have hdl : (dirOf pa ++ p).length ≤ 2048 := by have := dir_len pa; simp only [List.length_append]; omega
                have hDP : bs (dirOf pa) ++ bs p = bs (dirOf pa ++ p) := bs_of (by rw [ByteArray.data_append, Array.toList_append, bs_data, bs_data])
                have hDI := dir_is hpa
                have hdz := dir_len pa
                have hR : relU ⟨sc, ho, po, pa, qu, hq⟩ p q true = ⟨sc, ho, po, dirOf pa ++ p, q, true⟩ := by unfold relU; rw [if_neg hp, hf, if_neg (by decide)]
                rw [hR]
                clear hR
                have HCK2 : Hid (∀ W, Calls Tryz.prog 30 #[.agg #[.string (bs sc), .string (bs ho), .int .i64 po, .string (bs (dirOf pa ++ p)), .string (bs q), .bool true]] W fun e w' => e = .returned (.int .i64 (Ur.check ⟨sc, ho, po, dirOf pa ++ p, q, true⟩)) ∧ Below W.heap.size W w') := fun W => ucheck_any ⟨sc, ho, po, dirOf pa ++ p, q, true⟩ W ⟨by simp only; omega, by simp only; omega, by simp only; omega⟩
                have HNM := Lib.hid (fun W => unormal_any ⟨sc, ho, po, dirOf pa ++ p, q, true⟩ W ⟨by simp only; omega, by simp only; omega, by simp only; omega⟩ (by simp only; omega))
                have he1 : Ur.check ⟨sc, ho, po, dirOf pa ++ p, q, true⟩ ≠ 0 → endU (⟨sc, ho, po, dirOf pa ++ p, q, true⟩, Ur.check ⟨sc, ho, po, dirOf pa ++ p, q, true⟩) = (ur0, Ur.check ⟨sc, ho, po, dirOf pa ++ p, q, true⟩) := fun h => if_pos h
                have he2 : Ur.check ⟨sc, ho, po, dirOf pa ++ p, q, true⟩ = 0 → endU (⟨sc, ho, po, dirOf pa ++ p, q, true⟩, Ur.check ⟨sc, ho, po, dirOf pa ++ p, q, true⟩) = (Ur.normal ⟨sc, ho, po, dirOf pa ++ p, q, true⟩, 0) := fun h => if_neg (fun h2 => h2 h)
                generalize endU (⟨sc, ho, po, dirOf pa ++ p, q, true⟩, Ur.check ⟨sc, ho, po, dirOf pa ++ p, q, true⟩) = E at *
                generalize Ur.normal ⟨sc, ho, po, dirOf pa ++ p, q, true⟩ = X2 at *
                generalize Ur.check ⟨sc, ho, po, dirOf pa ++ p, q, true⟩ = k at *
                obtain ⟨nsc, nho, npo, npa, nqu, nhq⟩ := X2
                simp only at HNM
                have HE1 := Lib.hid he1; have HE2 := Lib.hid he2; clear he1 he2
                have hppos : 0 < pa.length := by obtain ⟨t, rfl⟩ := hpa; simp
                have hE4 : (bs pa).extract 0 (lastN pa pa.length + 1) = bs (dirOf pa) := by rw [ext_of, hDI]
                have hll := lastN_lt (p := pa) pa.length hppos
                clear hDI hpa hp hf
                generalize dirOf pa ++ p = dp at *
                generalize dirOf pa = d at *
                have HDP := Lib.hid hDP; have HE4 := Lib.hid hE4; have HLL := Lib.hid hll; clear hDP hE4 hll hdl
                go_enter Tryz.func33, Tryz.ntmps33
                go_wp2_with fail
                refine (HCK.out _).mono ?_
                rintro e w1 ⟨rfl, hb1⟩
                have HB1 := Lib.hid (HAL.out.trans (hb1.mono HAL.out.size)); have hn1 := HBN.out.below hb1; have hr1 := HBR.out.below hb1; clear hb1
                go_wp2_with fail
                refine (HF1.out _).mono ?_
                rintro e w2 ⟨rfl, rfl⟩
                go_wp2_with fail
                rw [HX.out]
                refine (HS.out _).mono ?_
                rintro e w2 ⟨rfl, rfl⟩
                go_wp2_with fail
                refine (HBG.out _).mono ?_
                rintro e w4 ⟨rfl, rfl⟩
                have HN1 := Lib.hid hn1; have HR1 := Lib.hid hr1; clear hn1 hr1
                have bc0 := HN1.out.cell 0 (.string (bs sc)) rfl
                have bc1 := HN1.out.cell 1 (.string (bs ho)) rfl
                have bc2 := HN1.out.cell 2 (.int .i64 po) rfl
                have bc3 := HN1.out.cell 3 (.string (bs pa)) rfl
                have bc4 := HN1.out.cell 4 (.string (bs qu)) rfl
                have bc5 := HN1.out.cell 5 (.bool hq) rfl
                go_wp2_with fail
                refine (HF2.out _).mono ?_
                rintro e w4 ⟨rfl, rfl⟩
                have hL := HN1.out.alloc (.cells #[.string (bs sc), .string (bs ho), .int .i64 po, .string (bs pa), .string (bs q), .bool true] 23)
                have lc3 := hL.cell 3 (.string (bs pa)) rfl
                clear hL
                go_wp2_with fail
                go_loop [11, 12] (fun a i => ∃ k : Nat, k ≤ pa.length ∧ a = .int .i64 (lastN pa k : Nat) ∧ i = .int .i64 k) (fun _ i => pa.length - (intOf i).toNat)
                case atStart => exact ⟨0, Nat.zero_le _, rfl, rfl⟩
                case round =>
                  obtain ⟨k0, hk0, rfl, rfl⟩ := hrel
                  by_cases hlt : k0 < pa.length
                  · have hkz : k0 < (bs pa).size := by rw [bs_size]; exact hlt
                    by_cases h47 : (bs pa)[k0] = 47
                    · have hb : (((bs pa)[k0].toNat : Int) == 47) = true := by rw [h47]; rfl
                      have HL := lastN_hit hkz h47
                      rw [bs_data] at HL
                      have HL1 := Lib.hid HL; clear HL h47
                      go_wp2_with fail
                      go_round
                      case rel => exact ⟨k0 + 1, by omega, by rw [HL1.out], by go_num⟩
                      case measure => simp [intOf]; omega
                    · have hb : (((bs pa)[k0].toNat : Int) == 47) = false := by rw [b47]; exact beq_eq_false_iff_ne.2 h47
                      have HL := lastN_miss hkz h47
                      rw [bs_data] at HL
                      have HL1 := Lib.hid HL; clear HL h47
                      go_wp2_with fail
                      go_round
                      case rel => exact ⟨k0 + 1, by omega, by rw [HL1.out], by go_num⟩
                      case measure => simp [intOf]; omega
                  · obtain rfl : k0 = pa.length := by omega
                    have hll := HLL.out
                    have hE4 := HE4.out
                    generalize lastN pa pa.length = m at *
                    have m1 : (m : Int) + 1 ≤ (pa.length : Int) := by omega
                    have m2 := IntWalk.i64_in ((m : Int) + 1) (by omega)
                    clear hlt hk0 HE4 HLL hll
                    go_wp2_with fail
                    rw [HDP.out]
                    have hr3 := HR1.out.alloc (.cells #[.string (bs sc), .string (bs ho), .int .i64 po, .string (bs dp), .string (bs q), .bool true] 23)
                    have hu3 := ubk.new w1 #[.string (bs sc), .string (bs ho), .int .i64 po, .string (bs dp), .string (bs q), .bool true] 23
                    have hal3 : Below w1.heap.size w1 (w1.alloc (.cells #[.string (bs sc), .string (bs ho), .int .i64 po, .string (bs dp), .string (bs q), .bool true] 23)) := (Below.refl _ _).alloc (Nat.le_refl _) _
                    have HB3 := Lib.hid (HB1.out.trans (hal3.mono HB1.out.size)); clear hal3
                    refine (HCK2.out _).mono ?_
                    rintro e w5 ⟨rfl, hb5⟩
                    have HB5 := Lib.hid (HB3.out.trans (hb5.mono HB3.out.size)); have hr5 := hr3.below hb5; have hu5 := hu3.below hb5; clear hb5 hr3 hu3
                    by_cases hk : k = 0
                    · subst hk
                      have uc0 := hu5.cell 0 (.string (bs sc)) rfl
                      have uc1 := hu5.cell 1 (.string (bs ho)) rfl
                      have uc2 := hu5.cell 2 (.int .i64 po) rfl
                      have uc3 := hu5.cell 3 (.string (bs dp)) rfl
                      have uc4 := hu5.cell 4 (.string (bs q)) rfl
                      have uc5 := hu5.cell 5 (.bool true) rfl
                      have HR5 := Lib.hid hr5; clear hr5 hu5
                      go_wp2_with fail
                      refine (HNM.out _).mono ?_
                      rintro e w6 ⟨rfl, hb6⟩
                      clear uc0 uc1 uc2 uc3 uc4 uc5
                      have HB6 := Lib.hid (HB5.out.trans (hb6.mono HB5.out.size)); have hr6 := HR5.out.below hb6; clear hb6
                      have nc0 := hr6.cell 0 (.string ⟨#[]⟩) rfl
                      have nc1 := hr6.cell 1 (.string ⟨#[]⟩) rfl
                      have nc2 := hr6.cell 2 (.int .i64 0) rfl
                      have nc3 := hr6.cell 3 (.string ⟨#[]⟩) rfl
                      have nc4 := hr6.cell 4 (.string ⟨#[]⟩) rfl
                      have nc5 := hr6.cell 5 (.bool false) rfl
                      have nf0 := hr6.free 0
                      have nf1 := hr6.free 1
                      have nf2 := hr6.free 2
                      have nf3 := hr6.free 3
                      have nf4 := hr6.free 4
                      have nf5 := hr6.free 5
                      have hq0 := ((((((hr6.set 0 (.string (bs nsc))).set 1 (.string (bs nho))).set 2 (.int .i64 npo)).set 3 (.string (bs npa))).set 4 (.string (bs nqu))).set 5 (.bool nhq))
                      simp only [List.setIfInBounds_toArray, List.set_cons_zero, List.set_cons_succ] at hq0
                      have HQ := Lib.hid hq0; clear hq0
                      have HBF : Hid (Below w.heap.size w ((((((w6.setCell ⟨w.heap.size + 1, 0, none⟩ (.string (bs nsc))).setCell ⟨w.heap.size + 1, 1, none⟩ (.string (bs nho))).setCell ⟨w.heap.size + 1, 2, none⟩ (.int .i64 npo)).setCell ⟨w.heap.size + 1, 3, none⟩ (.string (bs npa))).setCell ⟨w.heap.size + 1, 4, none⟩ (.string (bs nqu))).setCell ⟨w.heap.size + 1, 5, none⟩ (.bool nhq))) := ((((((HB6.out.setCell (p := ⟨w.heap.size + 1, 0, none⟩) (Nat.le_succ _) (.string (bs nsc))).setCell (p := ⟨w.heap.size + 1, 1, none⟩) (Nat.le_succ _) (.string (bs nho))).setCell (p := ⟨w.heap.size + 1, 2, none⟩) (Nat.le_succ _) (.int .i64 npo)).setCell (p := ⟨w.heap.size + 1, 3, none⟩) (Nat.le_succ _) (.string (bs npa))).setCell (p := ⟨w.heap.size + 1, 4, none⟩) (Nat.le_succ _) (.string (bs nqu))).setCell (p := ⟨w.heap.size + 1, 5, none⟩) (Nat.le_succ _) (.bool nhq))
                      clear hr6
                      go_wp2_with fail
                      have m0 := HQ.out.cell 0 (.string (bs nsc)) rfl
                      have m1 := HQ.out.cell 1 (.string (bs nho)) rfl
                      have m2 := HQ.out.cell 2 (.int .i64 npo) rfl
                      have m3 := HQ.out.cell 3 (.string (bs npa)) rfl
                      have m4 := HQ.out.cell 4 (.string (bs nqu)) rfl
                      have m5 := HQ.out.cell 5 (.bool nhq) rfl
                      refine bodyPost_ret (v := .tuple #[.agg #[.string (bs nsc), .string (bs nho), .int .i64 npo, .string (bs npa), .string (bs nqu), .bool nhq], .int .i64 0]) (by simp [results, Tryz.results33, go_sem, m0, m1, m2, m3, m4, m5]) rfl ?_
                      rw [HE2.out trivial]
                      exact ⟨rfl, HBF.out⟩
                    · have hkb : (k != 0) = true := bne_iff_ne.2 hk
                      have nc0 := hr5.cell 0 (.string ⟨#[]⟩) rfl
                      have nc1 := hr5.cell 1 (.string ⟨#[]⟩) rfl
                      have nc2 := hr5.cell 2 (.int .i64 0) rfl
                      have nc3 := hr5.cell 3 (.string ⟨#[]⟩) rfl
                      have nc4 := hr5.cell 4 (.string ⟨#[]⟩) rfl
                      have nc5 := hr5.cell 5 (.bool false) rfl
                      have nf0 := hr5.free 0
                      have nf1 := hr5.free 1
                      have nf2 := hr5.free 2
                      have nf3 := hr5.free 3
                      have nf4 := hr5.free 4
                      have nf5 := hr5.free 5
                      have hq0 := ((((((hr5.set 0 (.string ⟨#[]⟩)).set 1 (.string ⟨#[]⟩)).set 2 (.int .i64 0)).set 3 (.string ⟨#[]⟩)).set 4 (.string ⟨#[]⟩)).set 5 (.bool false))
                      simp only [List.setIfInBounds_toArray, List.set_cons_zero, List.set_cons_succ] at hq0
                      have HQ := Lib.hid hq0; clear hq0
                      have HBF : Hid (Below w.heap.size w ((((((w5.setCell ⟨w.heap.size + 1, 0, none⟩ (.string ⟨#[]⟩)).setCell ⟨w.heap.size + 1, 1, none⟩ (.string ⟨#[]⟩)).setCell ⟨w.heap.size + 1, 2, none⟩ (.int .i64 0)).setCell ⟨w.heap.size + 1, 3, none⟩ (.string ⟨#[]⟩)).setCell ⟨w.heap.size + 1, 4, none⟩ (.string ⟨#[]⟩)).setCell ⟨w.heap.size + 1, 5, none⟩ (.bool false))) := ((((((HB5.out.setCell (p := ⟨w.heap.size + 1, 0, none⟩) (Nat.le_succ _) (.string ⟨#[]⟩)).setCell (p := ⟨w.heap.size + 1, 1, none⟩) (Nat.le_succ _) (.string ⟨#[]⟩)).setCell (p := ⟨w.heap.size + 1, 2, none⟩) (Nat.le_succ _) (.int .i64 0)).setCell (p := ⟨w.heap.size + 1, 3, none⟩) (Nat.le_succ _) (.string ⟨#[]⟩)).setCell (p := ⟨w.heap.size + 1, 4, none⟩) (Nat.le_succ _) (.string ⟨#[]⟩)).setCell (p := ⟨w.heap.size + 1, 5, none⟩) (Nat.le_succ _) (.bool false))
                      clear hr5 hu5
                      have HK := Lib.hid hk; clear hk
                      go_wp2_with fail
                      have m0 := HQ.out.cell 0 (.string ⟨#[]⟩) rfl
                      have m1 := HQ.out.cell 1 (.string ⟨#[]⟩) rfl
                      have m2 := HQ.out.cell 2 (.int .i64 0) rfl
                      have m3 := HQ.out.cell 3 (.string ⟨#[]⟩) rfl
                      have m4 := HQ.out.cell 4 (.string ⟨#[]⟩) rfl
                      have m5 := HQ.out.cell 5 (.bool false) rfl
                      refine bodyPost_ret (v := .tuple #[.agg #[.string ⟨#[]⟩, .string ⟨#[]⟩, .int .i64 0, .string ⟨#[]⟩, .string ⟨#[]⟩, .bool false], .int .i64 k]) (by simp [results, Tryz.results33, go_sem, m0, m1, m2, m3, m4, m5]) rfl ?_
                      rw [HE1.out HK.out]
                      exact ⟨rfl, HBF.out⟩
            · rw [hf] at hc
              cases f
              · obtain ⟨k4, k5⟩ := hc2 rfl
                subst k5
                have k6 : ¬ (p.length : Int) < (r0.length : Int) := by omega
                clear hc1 hc2 hX3 k4
                have hR : relU ⟨sc, ho, po, pa, qu, hq⟩ p [] false = ⟨sc, ho, po, p, [], false⟩ := by unfold relU; rw [if_neg hp, hf, if_pos rfl]
                rw [hR]
                clear hR
                have HCK2 : Hid (∀ W, Calls Tryz.prog 30 #[.agg #[.string (bs sc), .string (bs ho), .int .i64 po, .string (bs p), .string ⟨#[]⟩, .bool false]] W fun e w' => e = .returned (.int .i64 (Ur.check ⟨sc, ho, po, p, [], false⟩)) ∧ Below W.heap.size W w') := fun W => ucheck_any ⟨sc, ho, po, p, [], false⟩ W ⟨by simp only; omega, by simp only; omega, by simp only; omega⟩
                have HNM := Lib.hid (fun W => unormal_any ⟨sc, ho, po, p, [], false⟩ W ⟨by simp only; omega, by simp only; omega, by simp only; omega⟩ (by simp only; omega))
                have he1 : Ur.check ⟨sc, ho, po, p, [], false⟩ ≠ 0 → endU (⟨sc, ho, po, p, [], false⟩, Ur.check ⟨sc, ho, po, p, [], false⟩) = (ur0, Ur.check ⟨sc, ho, po, p, [], false⟩) := fun h => if_pos h
                have he2 : Ur.check ⟨sc, ho, po, p, [], false⟩ = 0 → endU (⟨sc, ho, po, p, [], false⟩, Ur.check ⟨sc, ho, po, p, [], false⟩) = (Ur.normal ⟨sc, ho, po, p, [], false⟩, 0) := fun h => if_neg (fun h2 => h2 h)
                generalize endU (⟨sc, ho, po, p, [], false⟩, Ur.check ⟨sc, ho, po, p, [], false⟩) = E at *
                generalize Ur.normal ⟨sc, ho, po, p, [], false⟩ = X2 at *
                generalize Ur.check ⟨sc, ho, po, p, [], false⟩ = k at *
                obtain ⟨nsc, nho, npo, npa, nqu, nhq⟩ := X2
                simp only at HNM
                have HE1 := Lib.hid he1; have HE2 := Lib.hid he2; clear he1 he2
                clear hp hf
                go_enter Tryz.func33, Tryz.ntmps33
                go_wp2_with fail
                refine (HCK.out _).mono ?_
                rintro e w1 ⟨rfl, hb1⟩
                have HB1 := Lib.hid (HAL.out.trans (hb1.mono HAL.out.size)); have hn1 := HBN.out.below hb1; have hr1 := HBR.out.below hb1; clear hb1
                go_wp2_with fail
                refine (HF1.out _).mono ?_
                rintro e w2 ⟨rfl, rfl⟩
                go_wp2_with fail
                rw [HX.out]
                refine (HS.out _).mono ?_
                rintro e w2 ⟨rfl, rfl⟩
                go_wp2_with fail
                refine (HBG.out _).mono ?_
                rintro e w4 ⟨rfl, rfl⟩
                have HN1 := Lib.hid hn1; have HR1 := Lib.hid hr1; clear hn1 hr1
                have bc0 := HN1.out.cell 0 (.string (bs sc)) rfl
                have bc1 := HN1.out.cell 1 (.string (bs ho)) rfl
                have bc2 := HN1.out.cell 2 (.int .i64 po) rfl
                have bc3 := HN1.out.cell 3 (.string (bs pa)) rfl
                have bc4 := HN1.out.cell 4 (.string (bs qu)) rfl
                have bc5 := HN1.out.cell 5 (.bool hq) rfl
                go_wp2_with fail
                refine (HF2.out _).mono ?_
                rintro e w4 ⟨rfl, rfl⟩
                go_wp2_with fail
                have hr3 := HR1.out.alloc (.cells #[.string (bs sc), .string (bs ho), .int .i64 po, .string (bs p), .string ⟨#[]⟩, .bool false] 23)
                have hu3 := ubk.new w1 #[.string (bs sc), .string (bs ho), .int .i64 po, .string (bs p), .string ⟨#[]⟩, .bool false] 23
                have hal3 : Below w1.heap.size w1 (w1.alloc (.cells #[.string (bs sc), .string (bs ho), .int .i64 po, .string (bs p), .string ⟨#[]⟩, .bool false] 23)) := (Below.refl _ _).alloc (Nat.le_refl _) _
                have HB3 := Lib.hid (HB1.out.trans (hal3.mono HB1.out.size)); clear hal3
                refine (HCK2.out _).mono ?_
                rintro e w5 ⟨rfl, hb5⟩
                have HB5 := Lib.hid (HB3.out.trans (hb5.mono HB3.out.size)); have hr5 := hr3.below hb5; have hu5 := hu3.below hb5; clear hb5 hr3 hu3
                by_cases hk : k = 0
                · subst hk
                  have uc0 := hu5.cell 0 (.string (bs sc)) rfl
                  have uc1 := hu5.cell 1 (.string (bs ho)) rfl
                  have uc2 := hu5.cell 2 (.int .i64 po) rfl
                  have uc3 := hu5.cell 3 (.string (bs p)) rfl
                  have uc4 := hu5.cell 4 (.string ⟨#[]⟩) rfl
                  have uc5 := hu5.cell 5 (.bool false) rfl
                  have HR5 := Lib.hid hr5; clear hr5 hu5
                  go_wp2_with fail
                  refine (HNM.out _).mono ?_
                  rintro e w6 ⟨rfl, hb6⟩
                  clear uc0 uc1 uc2 uc3 uc4 uc5
                  have HB6 := Lib.hid (HB5.out.trans (hb6.mono HB5.out.size)); have hr6 := HR5.out.below hb6; clear hb6
                  have nc0 := hr6.cell 0 (.string ⟨#[]⟩) rfl
                  have nc1 := hr6.cell 1 (.string ⟨#[]⟩) rfl
                  have nc2 := hr6.cell 2 (.int .i64 0) rfl
                  have nc3 := hr6.cell 3 (.string ⟨#[]⟩) rfl
                  have nc4 := hr6.cell 4 (.string ⟨#[]⟩) rfl
                  have nc5 := hr6.cell 5 (.bool false) rfl
                  have nf0 := hr6.free 0
                  have nf1 := hr6.free 1
                  have nf2 := hr6.free 2
                  have nf3 := hr6.free 3
                  have nf4 := hr6.free 4
                  have nf5 := hr6.free 5
                  have hq0 := ((((((hr6.set 0 (.string (bs nsc))).set 1 (.string (bs nho))).set 2 (.int .i64 npo)).set 3 (.string (bs npa))).set 4 (.string (bs nqu))).set 5 (.bool nhq))
                  simp only [List.setIfInBounds_toArray, List.set_cons_zero, List.set_cons_succ] at hq0
                  have HQ := Lib.hid hq0; clear hq0
                  have HBF : Hid (Below w.heap.size w ((((((w6.setCell ⟨w.heap.size + 1, 0, none⟩ (.string (bs nsc))).setCell ⟨w.heap.size + 1, 1, none⟩ (.string (bs nho))).setCell ⟨w.heap.size + 1, 2, none⟩ (.int .i64 npo)).setCell ⟨w.heap.size + 1, 3, none⟩ (.string (bs npa))).setCell ⟨w.heap.size + 1, 4, none⟩ (.string (bs nqu))).setCell ⟨w.heap.size + 1, 5, none⟩ (.bool nhq))) := ((((((HB6.out.setCell (p := ⟨w.heap.size + 1, 0, none⟩) (Nat.le_succ _) (.string (bs nsc))).setCell (p := ⟨w.heap.size + 1, 1, none⟩) (Nat.le_succ _) (.string (bs nho))).setCell (p := ⟨w.heap.size + 1, 2, none⟩) (Nat.le_succ _) (.int .i64 npo)).setCell (p := ⟨w.heap.size + 1, 3, none⟩) (Nat.le_succ _) (.string (bs npa))).setCell (p := ⟨w.heap.size + 1, 4, none⟩) (Nat.le_succ _) (.string (bs nqu))).setCell (p := ⟨w.heap.size + 1, 5, none⟩) (Nat.le_succ _) (.bool nhq))
                  clear hr6
                  go_wp2_with fail
                  have m0 := HQ.out.cell 0 (.string (bs nsc)) rfl
                  have m1 := HQ.out.cell 1 (.string (bs nho)) rfl
                  have m2 := HQ.out.cell 2 (.int .i64 npo) rfl
                  have m3 := HQ.out.cell 3 (.string (bs npa)) rfl
                  have m4 := HQ.out.cell 4 (.string (bs nqu)) rfl
                  have m5 := HQ.out.cell 5 (.bool nhq) rfl
                  refine bodyPost_ret (v := .tuple #[.agg #[.string (bs nsc), .string (bs nho), .int .i64 npo, .string (bs npa), .string (bs nqu), .bool nhq], .int .i64 0]) (by simp [results, Tryz.results33, go_sem, m0, m1, m2, m3, m4, m5]) rfl ?_
                  rw [HE2.out trivial]
                  exact ⟨rfl, HBF.out⟩
                · have hkb : (k != 0) = true := bne_iff_ne.2 hk
                  have nc0 := hr5.cell 0 (.string ⟨#[]⟩) rfl
                  have nc1 := hr5.cell 1 (.string ⟨#[]⟩) rfl
                  have nc2 := hr5.cell 2 (.int .i64 0) rfl
                  have nc3 := hr5.cell 3 (.string ⟨#[]⟩) rfl
                  have nc4 := hr5.cell 4 (.string ⟨#[]⟩) rfl
                  have nc5 := hr5.cell 5 (.bool false) rfl
                  have nf0 := hr5.free 0
                  have nf1 := hr5.free 1
                  have nf2 := hr5.free 2
                  have nf3 := hr5.free 3
                  have nf4 := hr5.free 4
                  have nf5 := hr5.free 5
                  have hq0 := ((((((hr5.set 0 (.string ⟨#[]⟩)).set 1 (.string ⟨#[]⟩)).set 2 (.int .i64 0)).set 3 (.string ⟨#[]⟩)).set 4 (.string ⟨#[]⟩)).set 5 (.bool false))
                  simp only [List.setIfInBounds_toArray, List.set_cons_zero, List.set_cons_succ] at hq0
                  have HQ := Lib.hid hq0; clear hq0
                  have HBF : Hid (Below w.heap.size w ((((((w5.setCell ⟨w.heap.size + 1, 0, none⟩ (.string ⟨#[]⟩)).setCell ⟨w.heap.size + 1, 1, none⟩ (.string ⟨#[]⟩)).setCell ⟨w.heap.size + 1, 2, none⟩ (.int .i64 0)).setCell ⟨w.heap.size + 1, 3, none⟩ (.string ⟨#[]⟩)).setCell ⟨w.heap.size + 1, 4, none⟩ (.string ⟨#[]⟩)).setCell ⟨w.heap.size + 1, 5, none⟩ (.bool false))) := ((((((HB5.out.setCell (p := ⟨w.heap.size + 1, 0, none⟩) (Nat.le_succ _) (.string ⟨#[]⟩)).setCell (p := ⟨w.heap.size + 1, 1, none⟩) (Nat.le_succ _) (.string ⟨#[]⟩)).setCell (p := ⟨w.heap.size + 1, 2, none⟩) (Nat.le_succ _) (.int .i64 0)).setCell (p := ⟨w.heap.size + 1, 3, none⟩) (Nat.le_succ _) (.string ⟨#[]⟩)).setCell (p := ⟨w.heap.size + 1, 4, none⟩) (Nat.le_succ _) (.string ⟨#[]⟩)).setCell (p := ⟨w.heap.size + 1, 5, none⟩) (Nat.le_succ _) (.bool false))
                  clear hr5 hu5
                  have HK := Lib.hid hk; clear hk
                  go_wp2_with fail
                  have m0 := HQ.out.cell 0 (.string ⟨#[]⟩) rfl
                  have m1 := HQ.out.cell 1 (.string ⟨#[]⟩) rfl
                  have m2 := HQ.out.cell 2 (.int .i64 0) rfl
                  have m3 := HQ.out.cell 3 (.string ⟨#[]⟩) rfl
                  have m4 := HQ.out.cell 4 (.string ⟨#[]⟩) rfl
                  have m5 := HQ.out.cell 5 (.bool false) rfl
                  refine bodyPost_ret (v := .tuple #[.agg #[.string ⟨#[]⟩, .string ⟨#[]⟩, .int .i64 0, .string ⟨#[]⟩, .string ⟨#[]⟩, .bool false], .int .i64 k]) (by simp [results, Tryz.results33, go_sem, m0, m1, m2, m3, m4, m5]) rfl ?_
                  rw [HE1.out HK.out]
                  exact ⟨rfl, HBF.out⟩
              · obtain ⟨k4, k5⟩ := hc1 rfl
                rw [k5] at hX3
                have k6 : (p.length : Int) < (r0.length : Int) := by omega
                have k7 : (p.length : Int) + 1 ≤ (r0.length : Int) := by omega
                have k8 := IntWalk.i64_in ((p.length : Int) + 1) (by omega)
                clear hc1 hc2 k5
                have hR : relU ⟨sc, ho, po, pa, qu, hq⟩ p q true = ⟨sc, ho, po, p, q, true⟩ := by unfold relU; rw [if_neg hp, hf, if_pos rfl]
                rw [hR]
                clear hR
                have HCK2 : Hid (∀ W, Calls Tryz.prog 30 #[.agg #[.string (bs sc), .string (bs ho), .int .i64 po, .string (bs p), .string (bs q), .bool true]] W fun e w' => e = .returned (.int .i64 (Ur.check ⟨sc, ho, po, p, q, true⟩)) ∧ Below W.heap.size W w') := fun W => ucheck_any ⟨sc, ho, po, p, q, true⟩ W ⟨by simp only; omega, by simp only; omega, by simp only; omega⟩
                have HNM := Lib.hid (fun W => unormal_any ⟨sc, ho, po, p, q, true⟩ W ⟨by simp only; omega, by simp only; omega, by simp only; omega⟩ (by simp only; omega))
                have he1 : Ur.check ⟨sc, ho, po, p, q, true⟩ ≠ 0 → endU (⟨sc, ho, po, p, q, true⟩, Ur.check ⟨sc, ho, po, p, q, true⟩) = (ur0, Ur.check ⟨sc, ho, po, p, q, true⟩) := fun h => if_pos h
                have he2 : Ur.check ⟨sc, ho, po, p, q, true⟩ = 0 → endU (⟨sc, ho, po, p, q, true⟩, Ur.check ⟨sc, ho, po, p, q, true⟩) = (Ur.normal ⟨sc, ho, po, p, q, true⟩, 0) := fun h => if_neg (fun h2 => h2 h)
                generalize endU (⟨sc, ho, po, p, q, true⟩, Ur.check ⟨sc, ho, po, p, q, true⟩) = E at *
                generalize Ur.normal ⟨sc, ho, po, p, q, true⟩ = X2 at *
                generalize Ur.check ⟨sc, ho, po, p, q, true⟩ = k at *
                obtain ⟨nsc, nho, npo, npa, nqu, nhq⟩ := X2
                simp only at HNM
                have HE1 := Lib.hid he1; have HE2 := Lib.hid he2; clear he1 he2
                clear hp hf
                go_enter Tryz.func33, Tryz.ntmps33
                go_wp2_with fail
                refine (HCK.out _).mono ?_
                rintro e w1 ⟨rfl, hb1⟩
                have HB1 := Lib.hid (HAL.out.trans (hb1.mono HAL.out.size)); have hn1 := HBN.out.below hb1; have hr1 := HBR.out.below hb1; clear hb1
                go_wp2_with fail
                refine (HF1.out _).mono ?_
                rintro e w2 ⟨rfl, rfl⟩
                go_wp2_with fail
                rw [HX.out]
                refine (HS.out _).mono ?_
                rintro e w2 ⟨rfl, rfl⟩
                go_wp2_with fail
                refine (HBG.out _).mono ?_
                rintro e w4 ⟨rfl, rfl⟩
                have HN1 := Lib.hid hn1; have HR1 := Lib.hid hr1; clear hn1 hr1
                have bc0 := HN1.out.cell 0 (.string (bs sc)) rfl
                have bc1 := HN1.out.cell 1 (.string (bs ho)) rfl
                have bc2 := HN1.out.cell 2 (.int .i64 po) rfl
                have bc3 := HN1.out.cell 3 (.string (bs pa)) rfl
                have bc4 := HN1.out.cell 4 (.string (bs qu)) rfl
                have bc5 := HN1.out.cell 5 (.bool hq) rfl
                go_wp2_with fail
                refine (HF2.out _).mono ?_
                rintro e w4 ⟨rfl, rfl⟩
                go_wp2_with fail
                have hr3 := HR1.out.alloc (.cells #[.string (bs sc), .string (bs ho), .int .i64 po, .string (bs p), .string (bs q), .bool true] 23)
                have hu3 := ubk.new w1 #[.string (bs sc), .string (bs ho), .int .i64 po, .string (bs p), .string (bs q), .bool true] 23
                have hal3 : Below w1.heap.size w1 (w1.alloc (.cells #[.string (bs sc), .string (bs ho), .int .i64 po, .string (bs p), .string (bs q), .bool true] 23)) := (Below.refl _ _).alloc (Nat.le_refl _) _
                have HB3 := Lib.hid (HB1.out.trans (hal3.mono HB1.out.size)); clear hal3
                refine (HCK2.out _).mono ?_
                rintro e w5 ⟨rfl, hb5⟩
                have HB5 := Lib.hid (HB3.out.trans (hb5.mono HB3.out.size)); have hr5 := hr3.below hb5; have hu5 := hu3.below hb5; clear hb5 hr3 hu3
                by_cases hk : k = 0
                · subst hk
                  have uc0 := hu5.cell 0 (.string (bs sc)) rfl
                  have uc1 := hu5.cell 1 (.string (bs ho)) rfl
                  have uc2 := hu5.cell 2 (.int .i64 po) rfl
                  have uc3 := hu5.cell 3 (.string (bs p)) rfl
                  have uc4 := hu5.cell 4 (.string (bs q)) rfl
                  have uc5 := hu5.cell 5 (.bool true) rfl
                  have HR5 := Lib.hid hr5; clear hr5 hu5
                  go_wp2_with fail
                  refine (HNM.out _).mono ?_
                  rintro e w6 ⟨rfl, hb6⟩
                  clear uc0 uc1 uc2 uc3 uc4 uc5
                  have HB6 := Lib.hid (HB5.out.trans (hb6.mono HB5.out.size)); have hr6 := HR5.out.below hb6; clear hb6
                  have nc0 := hr6.cell 0 (.string ⟨#[]⟩) rfl
                  have nc1 := hr6.cell 1 (.string ⟨#[]⟩) rfl
                  have nc2 := hr6.cell 2 (.int .i64 0) rfl
                  have nc3 := hr6.cell 3 (.string ⟨#[]⟩) rfl
                  have nc4 := hr6.cell 4 (.string ⟨#[]⟩) rfl
                  have nc5 := hr6.cell 5 (.bool false) rfl
                  have nf0 := hr6.free 0
                  have nf1 := hr6.free 1
                  have nf2 := hr6.free 2
                  have nf3 := hr6.free 3
                  have nf4 := hr6.free 4
                  have nf5 := hr6.free 5
                  have hq0 := ((((((hr6.set 0 (.string (bs nsc))).set 1 (.string (bs nho))).set 2 (.int .i64 npo)).set 3 (.string (bs npa))).set 4 (.string (bs nqu))).set 5 (.bool nhq))
                  simp only [List.setIfInBounds_toArray, List.set_cons_zero, List.set_cons_succ] at hq0
                  have HQ := Lib.hid hq0; clear hq0
                  have HBF : Hid (Below w.heap.size w ((((((w6.setCell ⟨w.heap.size + 1, 0, none⟩ (.string (bs nsc))).setCell ⟨w.heap.size + 1, 1, none⟩ (.string (bs nho))).setCell ⟨w.heap.size + 1, 2, none⟩ (.int .i64 npo)).setCell ⟨w.heap.size + 1, 3, none⟩ (.string (bs npa))).setCell ⟨w.heap.size + 1, 4, none⟩ (.string (bs nqu))).setCell ⟨w.heap.size + 1, 5, none⟩ (.bool nhq))) := ((((((HB6.out.setCell (p := ⟨w.heap.size + 1, 0, none⟩) (Nat.le_succ _) (.string (bs nsc))).setCell (p := ⟨w.heap.size + 1, 1, none⟩) (Nat.le_succ _) (.string (bs nho))).setCell (p := ⟨w.heap.size + 1, 2, none⟩) (Nat.le_succ _) (.int .i64 npo)).setCell (p := ⟨w.heap.size + 1, 3, none⟩) (Nat.le_succ _) (.string (bs npa))).setCell (p := ⟨w.heap.size + 1, 4, none⟩) (Nat.le_succ _) (.string (bs nqu))).setCell (p := ⟨w.heap.size + 1, 5, none⟩) (Nat.le_succ _) (.bool nhq))
                  clear hr6
                  go_wp2_with fail
                  have m0 := HQ.out.cell 0 (.string (bs nsc)) rfl
                  have m1 := HQ.out.cell 1 (.string (bs nho)) rfl
                  have m2 := HQ.out.cell 2 (.int .i64 npo) rfl
                  have m3 := HQ.out.cell 3 (.string (bs npa)) rfl
                  have m4 := HQ.out.cell 4 (.string (bs nqu)) rfl
                  have m5 := HQ.out.cell 5 (.bool nhq) rfl
                  refine bodyPost_ret (v := .tuple #[.agg #[.string (bs nsc), .string (bs nho), .int .i64 npo, .string (bs npa), .string (bs nqu), .bool nhq], .int .i64 0]) (by simp [results, Tryz.results33, go_sem, m0, m1, m2, m3, m4, m5]) rfl ?_
                  rw [HE2.out trivial]
                  exact ⟨rfl, HBF.out⟩
                · have hkb : (k != 0) = true := bne_iff_ne.2 hk
                  have nc0 := hr5.cell 0 (.string ⟨#[]⟩) rfl
                  have nc1 := hr5.cell 1 (.string ⟨#[]⟩) rfl
                  have nc2 := hr5.cell 2 (.int .i64 0) rfl
                  have nc3 := hr5.cell 3 (.string ⟨#[]⟩) rfl
                  have nc4 := hr5.cell 4 (.string ⟨#[]⟩) rfl
                  have nc5 := hr5.cell 5 (.bool false) rfl
                  have nf0 := hr5.free 0
                  have nf1 := hr5.free 1
                  have nf2 := hr5.free 2
                  have nf3 := hr5.free 3
                  have nf4 := hr5.free 4
                  have nf5 := hr5.free 5
                  have hq0 := ((((((hr5.set 0 (.string ⟨#[]⟩)).set 1 (.string ⟨#[]⟩)).set 2 (.int .i64 0)).set 3 (.string ⟨#[]⟩)).set 4 (.string ⟨#[]⟩)).set 5 (.bool false))
                  simp only [List.setIfInBounds_toArray, List.set_cons_zero, List.set_cons_succ] at hq0
                  have HQ := Lib.hid hq0; clear hq0
                  have HBF : Hid (Below w.heap.size w ((((((w5.setCell ⟨w.heap.size + 1, 0, none⟩ (.string ⟨#[]⟩)).setCell ⟨w.heap.size + 1, 1, none⟩ (.string ⟨#[]⟩)).setCell ⟨w.heap.size + 1, 2, none⟩ (.int .i64 0)).setCell ⟨w.heap.size + 1, 3, none⟩ (.string ⟨#[]⟩)).setCell ⟨w.heap.size + 1, 4, none⟩ (.string ⟨#[]⟩)).setCell ⟨w.heap.size + 1, 5, none⟩ (.bool false))) := ((((((HB5.out.setCell (p := ⟨w.heap.size + 1, 0, none⟩) (Nat.le_succ _) (.string ⟨#[]⟩)).setCell (p := ⟨w.heap.size + 1, 1, none⟩) (Nat.le_succ _) (.string ⟨#[]⟩)).setCell (p := ⟨w.heap.size + 1, 2, none⟩) (Nat.le_succ _) (.int .i64 0)).setCell (p := ⟨w.heap.size + 1, 3, none⟩) (Nat.le_succ _) (.string ⟨#[]⟩)).setCell (p := ⟨w.heap.size + 1, 4, none⟩) (Nat.le_succ _) (.string ⟨#[]⟩)).setCell (p := ⟨w.heap.size + 1, 5, none⟩) (Nat.le_succ _) (.bool false))
                  clear hr5 hu5
                  have HK := Lib.hid hk; clear hk
                  go_wp2_with fail
                  have m0 := HQ.out.cell 0 (.string ⟨#[]⟩) rfl
                  have m1 := HQ.out.cell 1 (.string ⟨#[]⟩) rfl
                  have m2 := HQ.out.cell 2 (.int .i64 0) rfl
                  have m3 := HQ.out.cell 3 (.string ⟨#[]⟩) rfl
                  have m4 := HQ.out.cell 4 (.string ⟨#[]⟩) rfl
                  have m5 := HQ.out.cell 5 (.bool false) rfl
                  refine bodyPost_ret (v := .tuple #[.agg #[.string ⟨#[]⟩, .string ⟨#[]⟩, .int .i64 0, .string ⟨#[]⟩, .string ⟨#[]⟩, .bool false], .int .i64 k]) (by simp [results, Tryz.results33, go_sem, m0, m1, m2, m3, m4, m5]) rfl ?_
                  rw [HE1.out HK.out]
                  exact ⟨rfl, HBF.out⟩
        · simp only [if_true]
          have HWH : Hid (∀ W, Calls Tryz.prog 59 #[.string (bs sc ++ ⟨#[58]⟩ ++ bs r0)] W (RetU W (endU (parseU (sc ++ 58 :: r0))))) := fun W => by
            rw [show bs sc ++ ⟨#[58]⟩ ++ bs r0 = bs (sc ++ 58 :: r0) from bs_of (by simp)]
            exact uwhole_any _ W
          generalize endU (parseU (sc ++ 58 :: r0)) = X at *
          obtain ⟨⟨qsc, qho, qpo, qpa, qqu, qhq⟩, qe⟩ := X
          unfold RetU at HWH ⊢
          simp only at HWH ⊢
          go_enter Tryz.func33, Tryz.ntmps33
          go_wp2_with fail
          refine (HCK.out _).mono ?_
          rintro e w1 ⟨rfl, hb1⟩
          have HB1 := Lib.hid (HAL.out.trans (hb1.mono HAL.out.size)); have hn1 := HBN.out.below hb1; have hr1 := HBR.out.below hb1; clear hb1
          go_wp2_with fail
          refine (HF1.out _).mono ?_
          rintro e w2 ⟨rfl, rfl⟩
          go_wp2_with fail
          rw [HX.out]
          refine (HS.out _).mono ?_
          rintro e w2 ⟨rfl, rfl⟩
          go_wp2_with fail
          refine (HBG.out _).mono ?_
          rintro e w4 ⟨rfl, rfl⟩
          have HN1 := Lib.hid hn1; have HR1 := Lib.hid hr1; clear hn1 hr1
          have bc0 := HN1.out.cell 0 (.string (bs sc)) rfl
          have bc1 := HN1.out.cell 1 (.string (bs ho)) rfl
          have bc2 := HN1.out.cell 2 (.int .i64 po) rfl
          have bc3 := HN1.out.cell 3 (.string (bs pa)) rfl
          have bc4 := HN1.out.cell 4 (.string (bs qu)) rfl
          have bc5 := HN1.out.cell 5 (.bool hq) rfl
          go_wp2_with fail
          refine (HWH.out _).mono ?_
          rintro e w4 ⟨rfl, hb4⟩
          have HB4 := Lib.hid (HB1.out.trans (hb4.mono HB1.out.size)); have hr4 := HR1.out.below hb4; clear hb4
          have nc0 := hr4.cell 0 (.string ⟨#[]⟩) rfl
          have nc1 := hr4.cell 1 (.string ⟨#[]⟩) rfl
          have nc2 := hr4.cell 2 (.int .i64 0) rfl
          have nc3 := hr4.cell 3 (.string ⟨#[]⟩) rfl
          have nc4 := hr4.cell 4 (.string ⟨#[]⟩) rfl
          have nc5 := hr4.cell 5 (.bool false) rfl
          have nf0 := hr4.free 0
          have nf1 := hr4.free 1
          have nf2 := hr4.free 2
          have nf3 := hr4.free 3
          have nf4 := hr4.free 4
          have nf5 := hr4.free 5
          have hq0 := ((((((hr4.set 0 (.string (bs qsc))).set 1 (.string (bs qho))).set 2 (.int .i64 qpo)).set 3 (.string (bs qpa))).set 4 (.string (bs qqu))).set 5 (.bool qhq))
          simp only [List.setIfInBounds_toArray, List.set_cons_zero, List.set_cons_succ] at hq0
          have HQ := Lib.hid hq0; clear hq0
          have HBF : Hid (Below w.heap.size w ((((((w4.setCell ⟨w.heap.size + 1, 0, none⟩ (.string (bs qsc))).setCell ⟨w.heap.size + 1, 1, none⟩ (.string (bs qho))).setCell ⟨w.heap.size + 1, 2, none⟩ (.int .i64 qpo)).setCell ⟨w.heap.size + 1, 3, none⟩ (.string (bs qpa))).setCell ⟨w.heap.size + 1, 4, none⟩ (.string (bs qqu))).setCell ⟨w.heap.size + 1, 5, none⟩ (.bool qhq))) := ((((((HB4.out.setCell (p := ⟨w.heap.size + 1, 0, none⟩) (Nat.le_succ _) (.string (bs qsc))).setCell (p := ⟨w.heap.size + 1, 1, none⟩) (Nat.le_succ _) (.string (bs qho))).setCell (p := ⟨w.heap.size + 1, 2, none⟩) (Nat.le_succ _) (.int .i64 qpo)).setCell (p := ⟨w.heap.size + 1, 3, none⟩) (Nat.le_succ _) (.string (bs qpa))).setCell (p := ⟨w.heap.size + 1, 4, none⟩) (Nat.le_succ _) (.string (bs qqu))).setCell (p := ⟨w.heap.size + 1, 5, none⟩) (Nat.le_succ _) (.bool qhq))
          clear hr4
          go_wp2_with fail
          have m0 := HQ.out.cell 0 (.string (bs qsc)) rfl
          have m1 := HQ.out.cell 1 (.string (bs qho)) rfl
          have m2 := HQ.out.cell 2 (.int .i64 qpo) rfl
          have m3 := HQ.out.cell 3 (.string (bs qpa)) rfl
          have m4 := HQ.out.cell 4 (.string (bs qqu)) rfl
          have m5 := HQ.out.cell 5 (.bool qhq) rfl
          refine bodyPost_ret (v := .tuple #[.agg #[.string (bs qsc), .string (bs qho), .int .i64 qpo, .string (bs qpa), .string (bs qqu), .bool qhq], .int .i64 qe]) (by simp [results, Tryz.results33, go_sem, m0, m1, m2, m3, m4, m5]) rfl ⟨?_, HBF.out⟩
          rfl
end Go.Proofs.YtnpiaifkeddjeaaGreatDoor
