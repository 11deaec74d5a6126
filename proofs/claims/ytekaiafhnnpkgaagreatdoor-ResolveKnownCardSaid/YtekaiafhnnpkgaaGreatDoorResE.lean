/- The statements' own helpers: may a URI be gone through; what a reference means by the chapter's base; some of the chapter's answers. What any reference means is the document's. -/
import Derived.Test.YtekaiafhnnpkgaaGreatDoorResD
namespace Go.Proofs.YtekaiafhnnpkgaaGreatDoor
open Go.RowKit

def fewU (u : Ur) : Bool := decide (u.sc.length ≤ 3000) && (decide (u.ho.length ≤ 3000) && (decide (u.pa.length ≤ 3000) && decide (u.qu.length ≤ 3000)))
theorem few_okW {u : Ur} (h : u.sized) (hf : fewU u = true) : u.okW := by
  unfold fewU at hf
  simp only [Bool.and_eq_true, decide_eq_true_eq] at hf
  have h2 := i64U h.po
  exact ⟨by omega, by omega, by omega⟩
set_option maxHeartbeats 2000000 in
set_option maxRecDepth 100000 in
theorem fewU_any (u : Ur) (w : World) (h : u.sized) :
    Calls Tryz.prog 6 #[.agg #[.string (bs u.sc), .string (bs u.ho), .int .i64 u.po, .string (bs u.pa), .string (bs u.qu), .bool u.hq]] w fun r w' => r = .returned (.bool (fewU u)) ∧ Below w.heap.size w w' := by
  obtain ⟨h1, h2, h3, h4, -⟩ := h
  unfold fewU
  obtain ⟨sc, ho, po, pa, qu, hq⟩ := u
  simp only at h1 h2 h3 h4 ⊢
  have hal : Below w.heap.size w (w.alloc (.cells #[.string (bs sc), .string (bs ho), .int .i64 po, .string (bs pa), .string (bs qu), .bool hq] 23)) := (Below.refl _ _).alloc (Nat.le_refl _) _
  have HAL := Lib.hid hal; clear hal
  have hx := ubk.new w #[.string (bs sc), .string (bs ho), .int .i64 po, .string (bs pa), .string (bs qu), .bool hq] 23
  have xc0 := hx.cell 0 (.string (bs sc)) rfl
  have xc1 := hx.cell 1 (.string (bs ho)) rfl
  have xc2 := hx.cell 2 (.int .i64 po) rfl
  have xc3 := hx.cell 3 (.string (bs pa)) rfl
  have xc4 := hx.cell 4 (.string (bs qu)) rfl
  have xc5 := hx.cell 5 (.bool hq) rfl
  clear hx
  by_cases k0 : sc.length ≤ 3000
  · rw [decide_eq_true k0]
    have m0 : (sc.length : Int) ≤ 3000 := by omega
    clear k0
    by_cases k1 : ho.length ≤ 3000
    · rw [decide_eq_true k1]
      have m1 : (ho.length : Int) ≤ 3000 := by omega
      clear k1
      by_cases k2 : pa.length ≤ 3000
      · rw [decide_eq_true k2]
        have m2 : (pa.length : Int) ≤ 3000 := by omega
        clear k2
        by_cases k3 : qu.length ≤ 3000
        · rw [decide_eq_true k3]
          have m3 : (qu.length : Int) ≤ 3000 := by omega
          clear k3
          go_enter Tryz.func6, Tryz.ntmps6
          go_wp2_with fail
          go_ret
          exact ⟨rfl, HAL.out⟩
        · rw [decide_eq_false k3]
          have m3 : ¬ (qu.length : Int) ≤ 3000 := by omega
          clear k3
          go_enter Tryz.func6, Tryz.ntmps6
          go_wp2_with fail
          go_ret
          exact ⟨ret_bool (by simp), HAL.out⟩
      · rw [decide_eq_false k2]
        have m2 : ¬ (pa.length : Int) ≤ 3000 := by omega
        clear k2
        go_enter Tryz.func6, Tryz.ntmps6
        go_wp2_with fail
        go_ret
        exact ⟨ret_bool (by simp), HAL.out⟩
    · rw [decide_eq_false k1]
      have m1 : ¬ (ho.length : Int) ≤ 3000 := by omega
      clear k1
      go_enter Tryz.func6, Tryz.ntmps6
      go_wp2_with fail
      go_ret
      exact ⟨ret_bool (by simp), HAL.out⟩
  · rw [decide_eq_false k0]
    have m0 : ¬ (sc.length : Int) ≤ 3000 := by omega
    clear k0
    go_enter Tryz.func6, Tryz.ntmps6
    go_wp2_with fail
    go_ret
    exact ⟨ret_bool (by simp), HAL.out⟩
def baseU : Ur := ⟨[104, 116, 116, 112], [97], 0, [47, 98, 47, 99, 47, 100, 59, 112], [113], true⟩
set_option maxHeartbeats 2000000 in
set_option maxRecDepth 100000 in
theorem base_any (w : World) :
    Calls Tryz.prog 30 #[] w fun r w' => r = .returned (.agg #[.string ⟨#[104, 116, 116, 112]⟩, .string ⟨#[97]⟩, .int .i64 0, .string ⟨#[47, 98, 47, 99, 47, 100, 59, 112]⟩, .string ⟨#[113]⟩, .bool true]) ∧ Below w.heap.size w w' := by
  have hal : Below w.heap.size w (w.alloc (.cells #[.string ⟨#[104, 116, 116, 112]⟩, .string ⟨#[97]⟩, .int .i64 0, .string ⟨#[47, 98, 47, 99, 47, 100, 59, 112]⟩, .string ⟨#[113]⟩, .bool true] 23)) := (Below.refl _ _).alloc (Nat.le_refl _) _
  have HAL := Lib.hid hal; clear hal
  have HX := Lib.hid (ubk.new w #[.string ⟨#[104, 116, 116, 112]⟩, .string ⟨#[97]⟩, .int .i64 0, .string ⟨#[47, 98, 47, 99, 47, 100, 59, 112]⟩, .string ⟨#[113]⟩, .bool true] 23)
  go_enter Tryz.func30, Tryz.ntmps30
  go_wp2_with fail
  have m0 := HX.out.cell 0 (.string ⟨#[104, 116, 116, 112]⟩) rfl
  have m1 := HX.out.cell 1 (.string ⟨#[97]⟩) rfl
  have m2 := HX.out.cell 2 (.int .i64 0) rfl
  have m3 := HX.out.cell 3 (.string ⟨#[47, 98, 47, 99, 47, 100, 59, 112]⟩) rfl
  have m4 := HX.out.cell 4 (.string ⟨#[113]⟩) rfl
  have m5 := HX.out.cell 5 (.bool true) rfl
  refine bodyPost_ret (v := .agg #[.string ⟨#[104, 116, 116, 112]⟩, .string ⟨#[97]⟩, .int .i64 0, .string ⟨#[47, 98, 47, 99, 47, 100, 59, 112]⟩, .string ⟨#[113]⟩, .bool true]) (by simp [results, Tryz.results30, go_sem, m0, m1, m2, m3, m4, m5]) rfl ⟨?_, HAL.out⟩
  rfl
set_option maxHeartbeats 2000000 in
set_option maxRecDepth 100000 in
theorem means_yes (r want : List UInt8) (w : World) (he : EnvU w) (h : (refU baseU r).2 = 0) (hp : (refU baseU r).1.put = want) (hne : want ≠ []) :
    Calls Tryz.prog 13 #[.string (bs r), .string (bs want)] w fun r w' => r = .returned (.bool true) ∧ Below w.heap.size w w' := by
  have HR := Lib.hid (fun W (hb : EnvU W) => ref_any baseU r W hb ⟨by decide, by decide, by decide⟩)
  obtain ⟨⟨l1, l2, l3, l4⟩, l5, l6⟩ := lens_of (ref_ok h).1
  have HPT := Lib.hid (fun W (hb : EnvU W) => uriPut_any (refU baseU r).1 W hb ⟨by omega, by omega, by omega⟩)
  rw [hp] at HPT
  clear l1 l2 l3 l4 l5 l6 hp
  generalize refU baseU r = X at *
  obtain ⟨⟨qsc, qho, qpo, qpa, qqu, qhq⟩, qe⟩ := X
  simp only at h
  subst h
  have HR2 : Hid (∀ W, EnvU W → Calls Tryz.prog 8 #[.agg #[.string ⟨#[104, 116, 116, 112]⟩, .string ⟨#[97]⟩, .int .i64 0, .string ⟨#[47, 98, 47, 99, 47, 100, 59, 112]⟩, .string ⟨#[113]⟩, .bool true], .string (bs r)] W fun e w' => e = .returned (.tuple #[.agg #[.string (bs qsc), .string (bs qho), .int .i64 qpo, .string (bs qpa), .string (bs qqu), .bool qhq], .int .i64 0]) ∧ Below W.heap.size W w') := HR.out
  simp only at HPT
  have q1 : ((bs want).toList == []) = false := by rw [beq_lit]; exact beq_eq_false_iff_ne.2 hne
  have q2 : (bs want).toList.isEmpty = false := by rw [Lib.toList_data, bs_data]; cases want with | nil => exact absurd rfl hne | cons => rfl
  have q3 : ((bs want).toList == (bs want).toList) = true := by simp
  have HE := Lib.hid he; clear he HR hne
  go_enter Tryz.func13, Tryz.ntmps13
  go_wp2_with fail
  refine (base_any _).mono ?_
  rintro r w1 ⟨rfl, hb⟩
  have HB1 := Lib.hid hb
  clear hb
  go_wp2_with fail
  refine (HR2.out _ (HE.out.bel HB1.out)).mono ?_
  rintro r w2 ⟨rfl, hb⟩
  have HB2 := Lib.hid (HB1.out.trans (hb.mono HB1.out.size))
  clear hb HB1
  have hal : Below w2.heap.size w2 (w2.alloc (.cells #[.string (bs qsc), .string (bs qho), .int .i64 qpo, .string (bs qpa), .string (bs qqu), .bool qhq] 23)) := (Below.refl _ _).alloc (Nat.le_refl _) _
  have HB3 := Lib.hid (HB2.out.trans (hal.mono HB2.out.size))
  have HU3 := Lib.hid (ubk.new w2 #[.string (bs qsc), .string (bs qho), .int .i64 qpo, .string (bs qpa), .string (bs qqu), .bool qhq] 23)
  clear hal HB2
  have uc0 := HU3.out.cell 0 (.string (bs qsc)) rfl
  have uc1 := HU3.out.cell 1 (.string (bs qho)) rfl
  have uc2 := HU3.out.cell 2 (.int .i64 qpo) rfl
  have uc3 := HU3.out.cell 3 (.string (bs qpa)) rfl
  have uc4 := HU3.out.cell 4 (.string (bs qqu)) rfl
  have uc5 := HU3.out.cell 5 (.bool qhq) rfl
  go_wp2_with fail
  refine (HPT.out _ (HE.out.bel HB3.out)).mono ?_
  rintro r w4 ⟨rfl, hb⟩
  have HB4 := Lib.hid (HB3.out.trans (hb.mono HB3.out.size))
  have HU4 := Lib.hid (HU3.out.below hb)
  clear hb HB3 HU3
  clear uc0 uc1 uc2 uc3 uc4 uc5
  go_wp2_with fail
  go_ret
  exact ⟨rfl, HB4.out⟩
set_option maxHeartbeats 2000000 in
set_option maxRecDepth 100000 in
theorem means_no (r : List UInt8) (w : World) (he : EnvU w) (h : refU baseU r = (ur0, 4)) :
    Calls Tryz.prog 13 #[.string (bs r), .string ⟨#[]⟩] w fun r w' => r = .returned (.bool true) ∧ Below w.heap.size w w' := by
  have HR := Lib.hid (fun W (hb : EnvU W) => ref_any baseU r W hb ⟨by decide, by decide, by decide⟩)
  rw [h] at HR
  have HR2 : Hid (∀ W, EnvU W → Calls Tryz.prog 8 #[.agg #[.string ⟨#[104, 116, 116, 112]⟩, .string ⟨#[97]⟩, .int .i64 0, .string ⟨#[47, 98, 47, 99, 47, 100, 59, 112]⟩, .string ⟨#[113]⟩, .bool true], .string (bs r)] W fun e w' => e = .returned (.tuple #[.agg #[.string ⟨#[]⟩, .string ⟨#[]⟩, .int .i64 0, .string ⟨#[]⟩, .string ⟨#[]⟩, .bool false], .int .i64 4]) ∧ Below W.heap.size W w') := HR.out
  have HE := Lib.hid he; clear he HR h
  go_enter Tryz.func13, Tryz.ntmps13
  go_wp2_with fail
  refine (base_any _).mono ?_
  rintro r w1 ⟨rfl, hb⟩
  have HB1 := Lib.hid hb
  clear hb
  go_wp2_with fail
  refine (HR2.out _ (HE.out.bel HB1.out)).mono ?_
  rintro r w2 ⟨rfl, hb⟩
  have HB2 := Lib.hid (HB1.out.trans (hb.mono HB1.out.size))
  clear hb HB1
  have hal : Below w2.heap.size w2 (w2.alloc (.cells #[.string ⟨#[]⟩, .string ⟨#[]⟩, .int .i64 0, .string ⟨#[]⟩, .string ⟨#[]⟩, .bool false] 23)) := (Below.refl _ _).alloc (Nat.le_refl _) _
  have HB3 := Lib.hid (HB2.out.trans (hal.mono HB2.out.size))
  have HU3 := Lib.hid (ubk.new w2 #[.string ⟨#[]⟩, .string ⟨#[]⟩, .int .i64 0, .string ⟨#[]⟩, .string ⟨#[]⟩, .bool false] 23)
  clear hal HB2
  have uc0 := HU3.out.cell 0 (.string ⟨#[]⟩) rfl
  have uc1 := HU3.out.cell 1 (.string ⟨#[]⟩) rfl
  have uc2 := HU3.out.cell 2 (.int .i64 0) rfl
  have uc3 := HU3.out.cell 3 (.string ⟨#[]⟩) rfl
  have uc4 := HU3.out.cell 4 (.string ⟨#[]⟩) rfl
  have uc5 := HU3.out.cell 5 (.bool false) rfl
  go_wp2_with fail
  go_ret
  exact ⟨rfl, HB3.out⟩
theorem wkr0 : (refU baseU [103]).2 = 0 ∧ (refU baseU [103]).1.put = [104, 116, 116, 112, 58, 47, 47, 97, 47, 98, 47, 99, 47, 103] := ⟨by kernel_rfl, by kernel_rfl⟩
theorem wkr1 : (refU baseU [46, 46, 47, 103]).2 = 0 ∧ (refU baseU [46, 46, 47, 103]).1.put = [104, 116, 116, 112, 58, 47, 47, 97, 47, 98, 47, 103] := ⟨by kernel_rfl, by kernel_rfl⟩
theorem wkr2 : (refU baseU [63, 121]).2 = 0 ∧ (refU baseU [63, 121]).1.put = [104, 116, 116, 112, 58, 47, 47, 97, 47, 98, 47, 99, 47, 100, 59, 112, 63, 121] := ⟨by kernel_rfl, by kernel_rfl⟩
theorem wkr3 : refU baseU [103, 58, 104] = (ur0, 4) := by kernel_rfl
set_option maxHeartbeats 2000000 in
set_option maxRecDepth 100000 in
theorem works_any (w : World) (he : EnvU w) :
    Calls Tryz.prog 7 #[] w fun r w' => r = .returned (.bool true) ∧ Below w.heap.size w w' := by
  have K0 := Lib.hid (fun W (hb : EnvU W) => means_yes _ _ W hb wkr0.1 wkr0.2 (by decide))
  have K1 := Lib.hid (fun W (hb : EnvU W) => means_yes _ _ W hb wkr1.1 wkr1.2 (by decide))
  have K2 := Lib.hid (fun W (hb : EnvU W) => means_yes _ _ W hb wkr2.1 wkr2.2 (by decide))
  have K3 := Lib.hid (fun W (hb : EnvU W) => means_no _ W hb wkr3)
  have HE := Lib.hid he; clear he
  go_enter Tryz.func7, Tryz.ntmps7
  go_wp2_with fail
  refine (K0.out _ HE.out).mono ?_
  rintro r w1 ⟨rfl, hb⟩
  have HB1 := Lib.hid hb
  clear hb
  go_wp2_with fail
  refine (K1.out _ (HE.out.bel HB1.out)).mono ?_
  rintro r w2 ⟨rfl, hb⟩
  have HB2 := Lib.hid (HB1.out.trans (hb.mono HB1.out.size))
  clear hb HB1
  go_wp2_with fail
  refine (K2.out _ (HE.out.bel HB2.out)).mono ?_
  rintro r w3 ⟨rfl, hb⟩
  have HB3 := Lib.hid (HB2.out.trans (hb.mono HB2.out.size))
  clear hb HB2
  go_wp2_with fail
  refine (K3.out _ (HE.out.bel HB3.out)).mono ?_
  rintro r w4 ⟨rfl, hb⟩
  have HB4 := Lib.hid (HB3.out.trans (hb.mono HB3.out.size))
  clear hb HB3
  go_wp2_with fail
  go_ret
  exact ⟨rfl, HB4.out⟩
set_option maxHeartbeats 2000000 in
set_option maxRecDepth 100000 in
theorem resolveRefs_law (u : Ur) (s : ByteArray) (w : World) (hu : u.sized) (_ : s.size ≤ maxLen) (hm : MaxU w) (hl0 : Env w) :
    Calls Tryz.prog 3 #[.agg #[.string (bs u.sc), .string (bs u.ho), .int .i64 u.po, .string (bs u.pa), .string (bs u.qu), .bool u.hq], .string s] w fun e w' => e = .returned (.bool true) ∧ Below w.heap.size w w' := by
  have HE : Hid (EnvU w) := ⟨hm, hl0⟩
  clear hm hl0
  have HFW := Lib.hid (fun W => fewU_any u W hu)
  have HRF := Lib.hid (fun W (hb : EnvU W) (hf : fewU u = true) => ref_any u s.data.toList W hb (few_okW hu hf))
  have HRD := Lib.hid (fun W (hf : fewU u = true) => udref_any u s.data.toList W (few_okW hu hf))
  rw [bs_self] at HRF HRD
  generalize refU u s.data.toList = X at *
  obtain ⟨⟨qsc, qho, qpo, qpa, qqu, qhq⟩, qe⟩ := X
  unfold RetU at HRF HRD
  generalize fewU u = f at *
  obtain ⟨sc, ho, po, pa, qu, hq⟩ := u
  simp only at HFW HRF HRD ⊢
  clear hu
  cases f
  · clear HRF HRD
    have hal : Below w.heap.size w (w.alloc (.cells #[.string (bs sc), .string (bs ho), .int .i64 po, .string (bs pa), .string (bs qu), .bool hq] 23)) := (Below.refl _ _).alloc (Nat.le_refl _) _
    have HB1 := Lib.hid hal
    have HA1 := Lib.hid (ubk.new w #[.string (bs sc), .string (bs ho), .int .i64 po, .string (bs pa), .string (bs qu), .bool hq] 23)
    clear hal
    have ac0 := HA1.out.cell 0 (.string (bs sc)) rfl
    have ac1 := HA1.out.cell 1 (.string (bs ho)) rfl
    have ac2 := HA1.out.cell 2 (.int .i64 po) rfl
    have ac3 := HA1.out.cell 3 (.string (bs pa)) rfl
    have ac4 := HA1.out.cell 4 (.string (bs qu)) rfl
    have ac5 := HA1.out.cell 5 (.bool hq) rfl
    go_enter Tryz.func3, Tryz.ntmps3
    go_wp2_with fail
    refine (HFW.out _).mono ?_
    rintro r w2 ⟨rfl, hb⟩
    have HB2 := Lib.hid (HB1.out.trans (hb.mono HB1.out.size))
    have HA2 := Lib.hid (HA1.out.below hb)
    clear hb HB1 HA1
    clear ac0 ac1 ac2 ac3 ac4 ac5
    go_wp2_with fail
    refine (works_any _ (HE.out.bel HB2.out)).mono ?_
    rintro r w3 ⟨rfl, hb⟩
    have HB3 := Lib.hid (HB2.out.trans (hb.mono HB2.out.size))
    have HA3 := Lib.hid (HA2.out.below hb)
    clear hb HB2 HA2
    go_wp2_with fail
    go_ret
    exact ⟨rfl, HB3.out⟩
  · have HRF2 := Lib.hid (fun W hb => HRF.out W hb rfl)
    have HRD2 := Lib.hid (fun W => HRD.out W rfl)
    clear HRF HRD
    by_cases hl : 3000 < s.size
    · have hl2 : (3000 : Int) < (s.size : Int) := by omega
      have hal : Below w.heap.size w (w.alloc (.cells #[.string (bs sc), .string (bs ho), .int .i64 po, .string (bs pa), .string (bs qu), .bool hq] 23)) := (Below.refl _ _).alloc (Nat.le_refl _) _
      have HB1 := Lib.hid hal
      have HA1 := Lib.hid (ubk.new w #[.string (bs sc), .string (bs ho), .int .i64 po, .string (bs pa), .string (bs qu), .bool hq] 23)
      clear hal
      have ac0 := HA1.out.cell 0 (.string (bs sc)) rfl
      have ac1 := HA1.out.cell 1 (.string (bs ho)) rfl
      have ac2 := HA1.out.cell 2 (.int .i64 po) rfl
      have ac3 := HA1.out.cell 3 (.string (bs pa)) rfl
      have ac4 := HA1.out.cell 4 (.string (bs qu)) rfl
      have ac5 := HA1.out.cell 5 (.bool hq) rfl
      go_enter Tryz.func3, Tryz.ntmps3
      go_wp2_with fail
      refine (HFW.out _).mono ?_
      rintro r w2 ⟨rfl, hb⟩
      have HB2 := Lib.hid (HB1.out.trans (hb.mono HB1.out.size))
      have HA2 := Lib.hid (HA1.out.below hb)
      clear hb HB1 HA1
      clear ac0 ac1 ac2 ac3 ac4 ac5
      go_wp2_with fail
      refine (works_any _ (HE.out.bel HB2.out)).mono ?_
      rintro r w3 ⟨rfl, hb⟩
      have HB3 := Lib.hid (HB2.out.trans (hb.mono HB2.out.size))
      have HA3 := Lib.hid (HA2.out.below hb)
      clear hb HB2 HA2
      go_wp2_with fail
      go_ret
      exact ⟨rfl, HB3.out⟩
    · have hl2 : ¬ (3000 : Int) < (s.size : Int) := by omega
      have hal : Below w.heap.size w (w.alloc (.cells #[.string (bs sc), .string (bs ho), .int .i64 po, .string (bs pa), .string (bs qu), .bool hq] 23)) := (Below.refl _ _).alloc (Nat.le_refl _) _
      have HB1 := Lib.hid hal
      have HA1 := Lib.hid (ubk.new w #[.string (bs sc), .string (bs ho), .int .i64 po, .string (bs pa), .string (bs qu), .bool hq] 23)
      clear hal
      have ac0 := HA1.out.cell 0 (.string (bs sc)) rfl
      have ac1 := HA1.out.cell 1 (.string (bs ho)) rfl
      have ac2 := HA1.out.cell 2 (.int .i64 po) rfl
      have ac3 := HA1.out.cell 3 (.string (bs pa)) rfl
      have ac4 := HA1.out.cell 4 (.string (bs qu)) rfl
      have ac5 := HA1.out.cell 5 (.bool hq) rfl
      go_enter Tryz.func3, Tryz.ntmps3
      go_wp2_with fail
      refine (HFW.out _).mono ?_
      rintro r w2 ⟨rfl, hb⟩
      have HB2 := Lib.hid (HB1.out.trans (hb.mono HB1.out.size))
      have HA2 := Lib.hid (HA1.out.below hb)
      clear hb HB1 HA1
      clear ac0 ac1 ac2 ac3 ac4 ac5
      have ac0 := HA2.out.cell 0 (.string (bs sc)) rfl
      have ac1 := HA2.out.cell 1 (.string (bs ho)) rfl
      have ac2 := HA2.out.cell 2 (.int .i64 po) rfl
      have ac3 := HA2.out.cell 3 (.string (bs pa)) rfl
      have ac4 := HA2.out.cell 4 (.string (bs qu)) rfl
      have ac5 := HA2.out.cell 5 (.bool hq) rfl
      go_wp2_with fail
      refine (HRF2.out _ (HE.out.bel HB2.out)).mono ?_
      rintro r w3 ⟨rfl, hb⟩
      have HB3 := Lib.hid (HB2.out.trans (hb.mono HB2.out.size))
      have HA3 := Lib.hid (HA2.out.below hb)
      clear hb HB2 HA2
      clear ac0 ac1 ac2 ac3 ac4 ac5
      have hal : Below w3.heap.size w3 (w3.alloc (.cells #[.string (bs qsc), .string (bs qho), .int .i64 qpo, .string (bs qpa), .string (bs qqu), .bool qhq] 23)) := (Below.refl _ _).alloc (Nat.le_refl _) _
      have HB4 := Lib.hid (HB3.out.trans (hal.mono HB3.out.size))
      have HA4 := Lib.hid (HA3.out.alloc (.cells #[.string (bs qsc), .string (bs qho), .int .i64 qpo, .string (bs qpa), .string (bs qqu), .bool qhq] 23))
      have HU4 := Lib.hid (ubk.new w3 #[.string (bs qsc), .string (bs qho), .int .i64 qpo, .string (bs qpa), .string (bs qqu), .bool qhq] 23)
      clear hal HB3 HA3
      have ac0 := HA4.out.cell 0 (.string (bs sc)) rfl
      have ac1 := HA4.out.cell 1 (.string (bs ho)) rfl
      have ac2 := HA4.out.cell 2 (.int .i64 po) rfl
      have ac3 := HA4.out.cell 3 (.string (bs pa)) rfl
      have ac4 := HA4.out.cell 4 (.string (bs qu)) rfl
      have ac5 := HA4.out.cell 5 (.bool hq) rfl
      go_wp2_with fail
      refine (HRD2.out _).mono ?_
      rintro r w5 ⟨rfl, hb⟩
      have HB5 := Lib.hid (HB4.out.trans (hb.mono HB4.out.size))
      have HA5 := Lib.hid (HA4.out.below hb)
      have HU5 := Lib.hid (HU4.out.below hb)
      clear hb HB4 HA4 HU4
      clear ac0 ac1 ac2 ac3 ac4 ac5
      have hal : Below w5.heap.size w5 (w5.alloc (.cells #[.string (bs qsc), .string (bs qho), .int .i64 qpo, .string (bs qpa), .string (bs qqu), .bool qhq] 23)) := (Below.refl _ _).alloc (Nat.le_refl _) _
      have HB6 := Lib.hid (HB5.out.trans (hal.mono HB5.out.size))
      have HA6 := Lib.hid (HA5.out.alloc (.cells #[.string (bs qsc), .string (bs qho), .int .i64 qpo, .string (bs qpa), .string (bs qqu), .bool qhq] 23))
      have HU6 := Lib.hid (HU5.out.alloc (.cells #[.string (bs qsc), .string (bs qho), .int .i64 qpo, .string (bs qpa), .string (bs qqu), .bool qhq] 23))
      have HV6 := Lib.hid (ubk.new w5 #[.string (bs qsc), .string (bs qho), .int .i64 qpo, .string (bs qpa), .string (bs qqu), .bool qhq] 23)
      clear hal HB5 HA5 HU5
      have uc0 := HU6.out.cell 0 (.string (bs qsc)) rfl
      have uc1 := HU6.out.cell 1 (.string (bs qho)) rfl
      have uc2 := HU6.out.cell 2 (.int .i64 qpo) rfl
      have uc3 := HU6.out.cell 3 (.string (bs qpa)) rfl
      have uc4 := HU6.out.cell 4 (.string (bs qqu)) rfl
      have uc5 := HU6.out.cell 5 (.bool qhq) rfl
      have vc0 := HV6.out.cell 0 (.string (bs qsc)) rfl
      have vc1 := HV6.out.cell 1 (.string (bs qho)) rfl
      have vc2 := HV6.out.cell 2 (.int .i64 qpo) rfl
      have vc3 := HV6.out.cell 3 (.string (bs qpa)) rfl
      have vc4 := HV6.out.cell 4 (.string (bs qqu)) rfl
      have vc5 := HV6.out.cell 5 (.bool qhq) rfl
      go_wp2_with fail
      refine (works_any _ (HE.out.bel HB6.out)).mono ?_
      rintro r w7 ⟨rfl, hb⟩
      have HB7 := Lib.hid (HB6.out.trans (hb.mono HB6.out.size))
      have HA7 := Lib.hid (HA6.out.below hb)
      have HU7 := Lib.hid (HU6.out.below hb)
      have HV7 := Lib.hid (HV6.out.below hb)
      clear hb HB6 HA6 HU6 HV6
      clear uc0 uc1 uc2 uc3 uc4 uc5 vc0 vc1 vc2 vc3 vc4 vc5
      go_wp2_with fail
      go_ret
      exact ⟨rfl, HB7.out⟩
end Go.Proofs.YtekaiafhnnpkgaaGreatDoor
