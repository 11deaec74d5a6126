/- A text's parts, and what a text is as a URI: the uri layer's apart and Parse. -/
import Derived.Test.YtekaiafhnnpkgaaGreatDoorUriG
import Derived.Test.YtekaiafhnnpkgaaGreatDoorUriD
namespace Go.Proofs.YtekaiafhnnpkgaaGreatDoor
open Go.RowKit

theorem cut_leU (s sep : List UInt8) : (Lib.cut s sep).1.length ≤ s.length ∧ (Lib.cut s sep).2.1.length ≤ s.length := cut_le s sep
theorem apart_eq (s : List UInt8) : apartL s = ⟨(Lib.cut s [58, 47, 47]).1, (Lib.cut (Lib.cut (Lib.cut (Lib.cut s [58, 47, 47]).2.1 [63]).1 [47]).1 [58]).1,
    atoiV (Lib.cut (Lib.cut (Lib.cut (Lib.cut s [58, 47, 47]).2.1 [63]).1 [47]).1 [58]).2.1,
    if (Lib.cut (Lib.cut (Lib.cut s [58, 47, 47]).2.1 [63]).1 [47]).2.2 then 47 :: (Lib.cut (Lib.cut (Lib.cut s [58, 47, 47]).2.1 [63]).1 [47]).2.1 else [],
    (Lib.cut (Lib.cut s [58, 47, 47]).2.1 [63]).2.1, (Lib.cut (Lib.cut s [58, 47, 47]).2.1 [63]).2.2⟩ := rfl
set_option maxHeartbeats 4000000 in
set_option maxRecDepth 100000 in
theorem apart_any (s : List UInt8) (w : World) (he : EnvU w) (hl : s.length ≤ 1000000) :
    Calls Tryz.prog 58 #[.string (bs s)] w fun r w' => r = .returned (.agg #[.string (bs (apartL s).sc), .string (bs (apartL s).ho), .int .i64 (apartL s).po, .string (bs (apartL s).pa), .string (bs (apartL s).qu), .bool (apartL s).hq]) ∧ Below w.heap.size w w' := by
  rw [apart_eq]
  have hal : Below w.heap.size w ((w.alloc (.cells #[.string ⟨#[]⟩, .string ⟨#[]⟩, .int .i64 0, .string ⟨#[]⟩, .string ⟨#[]⟩, .bool false] 23)).alloc (.cells #[.string ⟨#[]⟩, .string ⟨#[]⟩, .int .i64 0, .string ⟨#[]⟩, .string ⟨#[]⟩, .bool false] 23)) := ((Below.refl _ _).alloc (Nat.le_refl _) _).alloc (by simp) _
  have he0 : EnvU ((w.alloc (.cells #[.string ⟨#[]⟩, .string ⟨#[]⟩, .int .i64 0, .string ⟨#[]⟩, .string ⟨#[]⟩, .bool false] 23)).alloc (.cells #[.string ⟨#[]⟩, .string ⟨#[]⟩, .int .i64 0, .string ⟨#[]⟩, .string ⟨#[]⟩, .bool false] 23)) := he.bel hal
  have hbn := (ubk.new w #[.string ⟨#[]⟩, .string ⟨#[]⟩, .int .i64 0, .string ⟨#[]⟩, .string ⟨#[]⟩, .bool false] 23).alloc (.cells #[.string ⟨#[]⟩, .string ⟨#[]⟩, .int .i64 0, .string ⟨#[]⟩, .string ⟨#[]⟩, .bool false] 23)
  have hbm := ubk.new (w.alloc (.cells #[.string ⟨#[]⟩, .string ⟨#[]⟩, .int .i64 0, .string ⟨#[]⟩, .string ⟨#[]⟩, .bool false] 23)) #[.string ⟨#[]⟩, .string ⟨#[]⟩, .int .i64 0, .string ⟨#[]⟩, .string ⟨#[]⟩, .bool false] 23
  rw [World.size_alloc] at hbm
  have hc1 := cutU_any s [58, 47, 47] _ he0 (by omega)
  have hl0 := cut_leU s [58, 47, 47]
  generalize h1 : Lib.cut s [58, 47, 47] = a at *
  obtain ⟨sc, r1, f1⟩ := a
  simp only at hl0 hc1 ⊢
  have hl1 := cut_leU r1 [63]
  generalize h2 : Lib.cut r1 [63] = a at *
  obtain ⟨r2, qu, hq⟩ := a
  simp only at hl1 ⊢
  have hl2 := cut_leU r2 [47]
  generalize h3 : Lib.cut r2 [47] = a at *
  obtain ⟨r3, pa, hp⟩ := a
  simp only at hl2 ⊢
  have hl3 := cut_leU r3 [58]
  generalize h4 : Lib.cut r3 [58] = a at *
  obtain ⟨ho, po, f4⟩ := a
  simp only at hl3 ⊢
  have HL1 : Hid (r1.length < 4294967281) := by show _ < _; omega
  have HL2 : Hid (r2.length < 4294967281) := by show _ < _; omega
  have HL3 : Hid (r3.length < 4294967281) := by show _ < _; omega
  have HL4 : Hid (po.length ≤ 281474976710656) := by show _ ≤ _; omega
  have hpal : pa.length ≤ 1000000 := by omega
  have HE := Lib.hid he0; have HE0 := Lib.hid he; have HAL := Lib.hid hal; have HBN := Lib.hid hbn; have HBM := Lib.hid hbm; have HC1 := Lib.hid hc1
  have H2 := Lib.hid h2; have H3 := Lib.hid h3; have H4 := Lib.hid h4
  clear he he0 hal hbn hbm hc1 h1 h2 h3 h4 hl0 hl1 hl2 hl3 hl
  cases hp
  · simp only [Bool.false_eq_true, if_false]
    go_enter Tryz.func58, Tryz.ntmps58
    go_wp2_with fail
    refine HC1.out.mono ?_
    rintro r w1 ⟨rfl, hb1⟩
    have he1 := HE.out.bel hb1
    have HB1 := Lib.hid hb1; clear hb1
    go_wp2_with fail
    refine (cutU_any _ _ _ he1 HL1.out).mono ?_
    rintro r w2 ⟨rfl, hb2⟩
    have he2 := he1.bel hb2
    have HB2 := Lib.hid (HB1.out.trans (hb2.mono HB1.out.size)); clear hb2 he1
    rw [H2.out]
    go_wp2_with fail
    refine (cutU_any _ _ _ he2 HL2.out).mono ?_
    rintro r w3 ⟨rfl, hb3⟩
    have he3 := he2.bel hb3
    have HB3 := Lib.hid (HB2.out.trans (hb3.mono HB2.out.size)); clear hb3 he2
    rw [H3.out]
    go_wp2_with fail
    refine (cutU_any _ _ _ he3 HL3.out).mono ?_
    rintro r w4 ⟨rfl, hb4⟩
    have he4 := he3.bel hb4
    have HB4 := Lib.hid (HB3.out.trans (hb4.mono HB3.out.size)); clear hb4 he3
    rw [H4.out]
    have hb1 := HBM.out.below HB4.out
    have hb0 := HBN.out.below HB4.out
    have ac0 := hb1.cell 0 (.string ⟨#[]⟩) rfl
    have af0 := hb1.free 0
    have ac1 := hb1.cell 1 (.string ⟨#[]⟩) rfl
    have af1 := hb1.free 1
    have ac2 := hb1.cell 2 (.int .i64 0) rfl
    have af2 := hb1.free 2
    have ac3 := hb1.cell 3 (.string ⟨#[]⟩) rfl
    have af3 := hb1.free 3
    have ac4 := hb1.cell 4 (.string ⟨#[]⟩) rfl
    have af4 := hb1.free 4
    have ac5 := hb1.cell 5 (.bool false) rfl
    have af5 := hb1.free 5
    have hx1 := ((((hb1.set 0 (.string (bs sc))).set 1 (.string (bs ho))).set 4 (.string (bs qu))).set 5 (.bool hq))
    have hx0 := ((((hb0.other (a := ⟨(w.heap.size + 1), 0, none⟩) (Nat.ne_of_lt (Nat.lt_succ_self _)) (.string (bs sc))).other (a := ⟨(w.heap.size + 1), 1, none⟩) (Nat.ne_of_lt (Nat.lt_succ_self _)) (.string (bs ho))).other (a := ⟨(w.heap.size + 1), 4, none⟩) (Nat.ne_of_lt (Nat.lt_succ_self _)) (.string (bs qu))).other (a := ⟨(w.heap.size + 1), 5, none⟩) (Nat.ne_of_lt (Nat.lt_succ_self _)) (.bool hq))
    have hbe : Below w.heap.size w ((((w4.setCell ⟨(w.heap.size + 1), 0, none⟩ (.string (bs sc))).setCell ⟨(w.heap.size + 1), 1, none⟩ (.string (bs ho))).setCell ⟨(w.heap.size + 1), 4, none⟩ (.string (bs qu))).setCell ⟨(w.heap.size + 1), 5, none⟩ (.bool hq)) := (((((HAL.out.trans (HB4.out.mono HAL.out.size)).setCell (p := ⟨(w.heap.size + 1), 0, none⟩) (Nat.le_succ _) (.string (bs sc))).setCell (p := ⟨(w.heap.size + 1), 1, none⟩) (Nat.le_succ _) (.string (bs ho))).setCell (p := ⟨(w.heap.size + 1), 4, none⟩) (Nat.le_succ _) (.string (bs qu))).setCell (p := ⟨(w.heap.size + 1), 5, none⟩) (Nat.le_succ _) (.bool hq))
    have heW : EnvU ((((w4.setCell ⟨(w.heap.size + 1), 0, none⟩ (.string (bs sc))).setCell ⟨(w.heap.size + 1), 1, none⟩ (.string (bs ho))).setCell ⟨(w.heap.size + 1), 4, none⟩ (.string (bs qu))).setCell ⟨(w.heap.size + 1), 5, none⟩ (.bool hq)) := HE0.out.below hbe (Nat.le_refl _)
    have HBE := Lib.hid hbe; have HX1 := Lib.hid hx1; have HX0 := Lib.hid hx0; have HEW := Lib.hid heW; clear hbe hx1 hx0 heW hb0 hb1 he4
    go_wp2_with fail
    refine (atoiU_any _ _ HL4.out HEW.out).mono ?_
    rintro r w6 ⟨v, rfl, hb6⟩
    clear ac0 ac1 ac2 ac3 ac4 ac5 af0 af1 af2 af3 af4 af5
    have hy1 := HX1.out.below hb6
    have hy0 := HX0.out.below hb6
    have HB6 := Lib.hid (HBE.out.trans (hb6.mono HBE.out.size)); clear hb6
    simp only [List.setIfInBounds_toArray, List.set_cons_zero, List.set_cons_succ] at hy1
    have bc0 := hy1.cell 0 (.string (bs sc)) rfl
    have bf0 := hy1.free 0
    have bc1 := hy1.cell 1 (.string (bs ho)) rfl
    have bf1 := hy1.free 1
    have bc2 := hy1.cell 2 (.int .i64 0) rfl
    have bf2 := hy1.free 2
    have bc3 := hy1.cell 3 (.string ⟨#[]⟩) rfl
    have bf3 := hy1.free 3
    have bc4 := hy1.cell 4 (.string (bs qu)) rfl
    have bf4 := hy1.free 4
    have bc5 := hy1.cell 5 (.bool hq) rfl
    have bf5 := hy1.free 5
    have hz0 := hy0.other (a := ⟨(w.heap.size + 1), 2, none⟩) (Nat.ne_of_lt (Nat.lt_succ_self _)) (.int .i64 (atoiV po))
    have ec0 := hy0.cell 0 (.string ⟨#[]⟩) rfl
    have ef0 := hy0.free 0
    have ec1 := hy0.cell 1 (.string ⟨#[]⟩) rfl
    have ef1 := hy0.free 1
    have ec2 := hy0.cell 2 (.int .i64 0) rfl
    have ef2 := hy0.free 2
    have ec3 := hy0.cell 3 (.string ⟨#[]⟩) rfl
    have ef3 := hy0.free 3
    have ec4 := hy0.cell 4 (.string ⟨#[]⟩) rfl
    have ef4 := hy0.free 4
    have ec5 := hy0.cell 5 (.bool false) rfl
    have ef5 := hy0.free 5
    have hq0 := ((((((hz0.set 0 (.string (bs sc))).set 1 (.string (bs ho))).set 2 (.int .i64 (atoiV po))).set 3 (.string ⟨#[]⟩)).set 4 (.string (bs qu))).set 5 (.bool hq))
    simp only [List.setIfInBounds_toArray, List.set_cons_zero, List.set_cons_succ] at hq0
    have HQ0 := Lib.hid hq0; clear hq0
    have HBF : Hid (Below w.heap.size w (((((((w6.setCell ⟨(w.heap.size + 1), 2, none⟩ (.int .i64 (atoiV po))).setCell ⟨w.heap.size, 0, none⟩ (.string (bs sc))).setCell ⟨w.heap.size, 1, none⟩ (.string (bs ho))).setCell ⟨w.heap.size, 2, none⟩ (.int .i64 (atoiV po))).setCell ⟨w.heap.size, 3, none⟩ (.string ⟨#[]⟩)).setCell ⟨w.heap.size, 4, none⟩ (.string (bs qu))).setCell ⟨w.heap.size, 5, none⟩ (.bool hq))) := (((((((HB6.out.setCell (p := ⟨(w.heap.size + 1), 2, none⟩) (Nat.le_succ _) (.int .i64 (atoiV po))).setCell (p := ⟨w.heap.size, 0, none⟩) (Nat.le_refl _) (.string (bs sc))).setCell (p := ⟨w.heap.size, 1, none⟩) (Nat.le_refl _) (.string (bs ho))).setCell (p := ⟨w.heap.size, 2, none⟩) (Nat.le_refl _) (.int .i64 (atoiV po))).setCell (p := ⟨w.heap.size, 3, none⟩) (Nat.le_refl _) (.string ⟨#[]⟩)).setCell (p := ⟨w.heap.size, 4, none⟩) (Nat.le_refl _) (.string (bs qu))).setCell (p := ⟨w.heap.size, 5, none⟩) (Nat.le_refl _) (.bool hq))
    clear hz0 hy1 hy0
    go_wp2_with fail
    have m0 := HQ0.out.cell 0 (.string (bs sc)) rfl
    have m1 := HQ0.out.cell 1 (.string (bs ho)) rfl
    have m2 := HQ0.out.cell 2 (.int .i64 (atoiV po)) rfl
    have m3 := HQ0.out.cell 3 (.string ⟨#[]⟩) rfl
    have m4 := HQ0.out.cell 4 (.string (bs qu)) rfl
    have m5 := HQ0.out.cell 5 (.bool hq) rfl
    refine bodyPost_ret (v := .agg #[.string (bs sc), .string (bs ho), .int .i64 (atoiV po), .string ⟨#[]⟩, .string (bs qu), .bool hq]) (by simp [results, Tryz.results58, go_sem, m0, m1, m2, m3, m4, m5]) rfl ⟨?_, HBF.out⟩
    rfl
  · have HFIN : Hid ((⟨#[47]⟩ ++ bs pa : ByteArray) = bs (47 :: pa)) := bs_of (by simp)
    simp only [if_true]
    go_enter Tryz.func58, Tryz.ntmps58
    go_wp2_with fail
    refine HC1.out.mono ?_
    rintro r w1 ⟨rfl, hb1⟩
    have he1 := HE.out.bel hb1
    have HB1 := Lib.hid hb1; clear hb1
    go_wp2_with fail
    refine (cutU_any _ _ _ he1 HL1.out).mono ?_
    rintro r w2 ⟨rfl, hb2⟩
    have he2 := he1.bel hb2
    have HB2 := Lib.hid (HB1.out.trans (hb2.mono HB1.out.size)); clear hb2 he1
    rw [H2.out]
    go_wp2_with fail
    refine (cutU_any _ _ _ he2 HL2.out).mono ?_
    rintro r w3 ⟨rfl, hb3⟩
    have he3 := he2.bel hb3
    have HB3 := Lib.hid (HB2.out.trans (hb3.mono HB2.out.size)); clear hb3 he2
    rw [H3.out]
    go_wp2_with fail
    refine (cutU_any _ _ _ he3 HL3.out).mono ?_
    rintro r w4 ⟨rfl, hb4⟩
    have he4 := he3.bel hb4
    have HB4 := Lib.hid (HB3.out.trans (hb4.mono HB3.out.size)); clear hb4 he3
    rw [H4.out]
    have hb1 := HBM.out.below HB4.out
    have hb0 := HBN.out.below HB4.out
    have ac0 := hb1.cell 0 (.string ⟨#[]⟩) rfl
    have af0 := hb1.free 0
    have ac1 := hb1.cell 1 (.string ⟨#[]⟩) rfl
    have af1 := hb1.free 1
    have ac2 := hb1.cell 2 (.int .i64 0) rfl
    have af2 := hb1.free 2
    have ac3 := hb1.cell 3 (.string ⟨#[]⟩) rfl
    have af3 := hb1.free 3
    have ac4 := hb1.cell 4 (.string ⟨#[]⟩) rfl
    have af4 := hb1.free 4
    have ac5 := hb1.cell 5 (.bool false) rfl
    have af5 := hb1.free 5
    have hx1 := (((((hb1.set 0 (.string (bs sc))).set 1 (.string (bs ho))).set 4 (.string (bs qu))).set 5 (.bool hq)).set 3 (.string ((⟨#[47]⟩ : ByteArray) ++ bs pa)))
    have hx0 := (((((hb0.other (a := ⟨(w.heap.size + 1), 0, none⟩) (Nat.ne_of_lt (Nat.lt_succ_self _)) (.string (bs sc))).other (a := ⟨(w.heap.size + 1), 1, none⟩) (Nat.ne_of_lt (Nat.lt_succ_self _)) (.string (bs ho))).other (a := ⟨(w.heap.size + 1), 4, none⟩) (Nat.ne_of_lt (Nat.lt_succ_self _)) (.string (bs qu))).other (a := ⟨(w.heap.size + 1), 5, none⟩) (Nat.ne_of_lt (Nat.lt_succ_self _)) (.bool hq)).other (a := ⟨(w.heap.size + 1), 3, none⟩) (Nat.ne_of_lt (Nat.lt_succ_self _)) (.string ((⟨#[47]⟩ : ByteArray) ++ bs pa)))
    have hbe : Below w.heap.size w (((((w4.setCell ⟨(w.heap.size + 1), 0, none⟩ (.string (bs sc))).setCell ⟨(w.heap.size + 1), 1, none⟩ (.string (bs ho))).setCell ⟨(w.heap.size + 1), 4, none⟩ (.string (bs qu))).setCell ⟨(w.heap.size + 1), 5, none⟩ (.bool hq)).setCell ⟨(w.heap.size + 1), 3, none⟩ (.string ((⟨#[47]⟩ : ByteArray) ++ bs pa))) := ((((((HAL.out.trans (HB4.out.mono HAL.out.size)).setCell (p := ⟨(w.heap.size + 1), 0, none⟩) (Nat.le_succ _) (.string (bs sc))).setCell (p := ⟨(w.heap.size + 1), 1, none⟩) (Nat.le_succ _) (.string (bs ho))).setCell (p := ⟨(w.heap.size + 1), 4, none⟩) (Nat.le_succ _) (.string (bs qu))).setCell (p := ⟨(w.heap.size + 1), 5, none⟩) (Nat.le_succ _) (.bool hq)).setCell (p := ⟨(w.heap.size + 1), 3, none⟩) (Nat.le_succ _) (.string ((⟨#[47]⟩ : ByteArray) ++ bs pa)))
    have heW : EnvU (((((w4.setCell ⟨(w.heap.size + 1), 0, none⟩ (.string (bs sc))).setCell ⟨(w.heap.size + 1), 1, none⟩ (.string (bs ho))).setCell ⟨(w.heap.size + 1), 4, none⟩ (.string (bs qu))).setCell ⟨(w.heap.size + 1), 5, none⟩ (.bool hq)).setCell ⟨(w.heap.size + 1), 3, none⟩ (.string ((⟨#[47]⟩ : ByteArray) ++ bs pa))) := HE0.out.below hbe (Nat.le_refl _)
    have HBE := Lib.hid hbe; have HX1 := Lib.hid hx1; have HX0 := Lib.hid hx0; have HEW := Lib.hid heW; clear hbe hx1 hx0 heW hb0 hb1 he4
    go_wp2_with fail
    refine (atoiU_any _ _ HL4.out HEW.out).mono ?_
    rintro r w6 ⟨v, rfl, hb6⟩
    clear ac0 ac1 ac2 ac3 ac4 ac5 af0 af1 af2 af3 af4 af5
    have hy1 := HX1.out.below hb6
    have hy0 := HX0.out.below hb6
    have HB6 := Lib.hid (HBE.out.trans (hb6.mono HBE.out.size)); clear hb6
    simp only [List.setIfInBounds_toArray, List.set_cons_zero, List.set_cons_succ] at hy1
    have bc0 := hy1.cell 0 (.string (bs sc)) rfl
    have bf0 := hy1.free 0
    have bc1 := hy1.cell 1 (.string (bs ho)) rfl
    have bf1 := hy1.free 1
    have bc2 := hy1.cell 2 (.int .i64 0) rfl
    have bf2 := hy1.free 2
    have bc3 := hy1.cell 3 (.string ((⟨#[47]⟩ : ByteArray) ++ bs pa)) rfl
    have bf3 := hy1.free 3
    have bc4 := hy1.cell 4 (.string (bs qu)) rfl
    have bf4 := hy1.free 4
    have bc5 := hy1.cell 5 (.bool hq) rfl
    have bf5 := hy1.free 5
    have hz0 := hy0.other (a := ⟨(w.heap.size + 1), 2, none⟩) (Nat.ne_of_lt (Nat.lt_succ_self _)) (.int .i64 (atoiV po))
    have ec0 := hy0.cell 0 (.string ⟨#[]⟩) rfl
    have ef0 := hy0.free 0
    have ec1 := hy0.cell 1 (.string ⟨#[]⟩) rfl
    have ef1 := hy0.free 1
    have ec2 := hy0.cell 2 (.int .i64 0) rfl
    have ef2 := hy0.free 2
    have ec3 := hy0.cell 3 (.string ⟨#[]⟩) rfl
    have ef3 := hy0.free 3
    have ec4 := hy0.cell 4 (.string ⟨#[]⟩) rfl
    have ef4 := hy0.free 4
    have ec5 := hy0.cell 5 (.bool false) rfl
    have ef5 := hy0.free 5
    have hq0 := ((((((hz0.set 0 (.string (bs sc))).set 1 (.string (bs ho))).set 2 (.int .i64 (atoiV po))).set 3 (.string ((⟨#[47]⟩ : ByteArray) ++ bs pa))).set 4 (.string (bs qu))).set 5 (.bool hq))
    simp only [List.setIfInBounds_toArray, List.set_cons_zero, List.set_cons_succ] at hq0
    have HQ0 := Lib.hid hq0; clear hq0
    have HBF : Hid (Below w.heap.size w (((((((w6.setCell ⟨(w.heap.size + 1), 2, none⟩ (.int .i64 (atoiV po))).setCell ⟨w.heap.size, 0, none⟩ (.string (bs sc))).setCell ⟨w.heap.size, 1, none⟩ (.string (bs ho))).setCell ⟨w.heap.size, 2, none⟩ (.int .i64 (atoiV po))).setCell ⟨w.heap.size, 3, none⟩ (.string ((⟨#[47]⟩ : ByteArray) ++ bs pa))).setCell ⟨w.heap.size, 4, none⟩ (.string (bs qu))).setCell ⟨w.heap.size, 5, none⟩ (.bool hq))) := (((((((HB6.out.setCell (p := ⟨(w.heap.size + 1), 2, none⟩) (Nat.le_succ _) (.int .i64 (atoiV po))).setCell (p := ⟨w.heap.size, 0, none⟩) (Nat.le_refl _) (.string (bs sc))).setCell (p := ⟨w.heap.size, 1, none⟩) (Nat.le_refl _) (.string (bs ho))).setCell (p := ⟨w.heap.size, 2, none⟩) (Nat.le_refl _) (.int .i64 (atoiV po))).setCell (p := ⟨w.heap.size, 3, none⟩) (Nat.le_refl _) (.string ((⟨#[47]⟩ : ByteArray) ++ bs pa))).setCell (p := ⟨w.heap.size, 4, none⟩) (Nat.le_refl _) (.string (bs qu))).setCell (p := ⟨w.heap.size, 5, none⟩) (Nat.le_refl _) (.bool hq))
    clear hz0 hy1 hy0
    go_wp2_with fail
    have m0 := HQ0.out.cell 0 (.string (bs sc)) rfl
    have m1 := HQ0.out.cell 1 (.string (bs ho)) rfl
    have m2 := HQ0.out.cell 2 (.int .i64 (atoiV po)) rfl
    have m3 := HQ0.out.cell 3 (.string ((⟨#[47]⟩ : ByteArray) ++ bs pa)) rfl
    have m4 := HQ0.out.cell 4 (.string (bs qu)) rfl
    have m5 := HQ0.out.cell 5 (.bool hq) rfl
    refine bodyPost_ret (v := .agg #[.string (bs sc), .string (bs ho), .int .i64 (atoiV po), .string ((⟨#[47]⟩ : ByteArray) ++ bs pa), .string (bs qu), .bool hq]) (by simp [results, Tryz.results58, go_sem, m0, m1, m2, m3, m4, m5]) rfl ⟨?_, HBF.out⟩
    rw [HFIN.out]
end Go.Proofs.YtekaiafhnnpkgaaGreatDoor
