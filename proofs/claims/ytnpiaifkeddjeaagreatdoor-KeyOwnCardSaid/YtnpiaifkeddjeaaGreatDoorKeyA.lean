/- The key layer's small functions, and the document's: a URI's key and origin, which methods change something. -/
import Derived.Test.YtnpiaifkeddjeaaGreatDoorKPlainU
import Derived.Test.YtnpiaifkeddjeaaGreatDoorKUriJ
import Derived.Test.YtnpiaifkeddjeaaGreatDoorKUriP
import Derived.Test.YtnpiaifkeddjeaaGreatDoorKUriN
import Derived.Test.YtnpiaifkeddjeaaGreatDoorKUriG
import Derived.Test.YtnpiaifkeddjeaaGreatDoorKUriS
import Derived.Test.YtnpiaifkeddjeaaGreatDoorKResA
import Derived.Laws.StructEq
namespace Go.Proofs.YtnpiaifkeddjeaaGreatDoor
open Go.RowKit

theorem normal_okW (u : Ur) : u.normal.okW := by
  by_cases h : u.check = 0
  · obtain ⟨⟨h1, h2, h3, h4⟩, h5, h6⟩ := lens_of (normal_ok h).2.1
    exact ⟨by omega, by omega, by omega⟩
  · rw [show u.normal = ur0 from if_neg h]; exact ⟨by decide, by decide, by decide⟩
theorem ref_okW (u : Ur) (r : List UInt8) : (refU u r).1.okW := by
  by_cases h : (refU u r).2 = 0
  · obtain ⟨⟨h1, h2, h3, h4⟩, h5, h6⟩ := lens_of (ref_key h).1
    exact ⟨by omega, by omega, by omega⟩
  · rw [ref_no h]; exact ⟨by decide, by decide, by decide⟩
theorem okW_pa {u : Ur} (hl : longB u = false) : u.pa.length ≤ 3000 := by have h2 := of_decide_eq_false hl; omega
theorem ref_pa (u : Ur) (r : List UInt8) : (refU u r).1.pa.length ≤ 10000000 := by
  by_cases h : (refU u r).2 = 0
  · have := (lens_of (ref_key h).1).1.2.2.1; omega
  · rw [ref_no h]; decide
set_option maxHeartbeats 2000000 in
set_option maxRecDepth 100000 in
theorem keyOf_any (u : Ur) (w : World) (he : EnvU w) (hu : u.okW) :
    Calls Tryz.prog 25 #[.agg #[.string (bs u.sc), .string (bs u.ho), .int .i64 u.po, .string (bs u.pa), .string (bs u.qu), .bool u.hq]] w fun r w' => r = .returned (.string (bs (keyU u))) ∧ Below w.heap.size w w' := by
  have HNA := Lib.hid (fun W (h : EnvU W) => normal_any u W h hu)
  have HPT := Lib.hid (fun W (h : EnvU W) => uriPut_any u.normal W h (normal_okW u))
  have hk : keyU u = u.normal.put := rfl
  rw [hk]; clear hk
  generalize u.normal.put = p at *
  generalize u.normal = n at *
  clear hu
  have HE := Lib.hid he; clear he
  obtain ⟨sc, ho, po, pa, qu, hq⟩ := u
  obtain ⟨nsc, nho, npo, npa, nqu, nhq⟩ := n
  simp only at HNA HPT ⊢
  have hal : Below w.heap.size w (w.alloc (.cells #[.string (bs sc), .string (bs ho), .int .i64 po, .string (bs pa), .string (bs qu), .bool hq] 23)) := (Below.refl _ _).alloc (Nat.le_refl _) _
  have HB1 := Lib.hid hal
  have hn := ubk.new w #[.string (bs sc), .string (bs ho), .int .i64 po, .string (bs pa), .string (bs qu), .bool hq] 23
  have HU1 := Lib.hid hn; clear hn
  clear hal
  go_enter Tryz.func25, Tryz.ntmps25
  have uc0 := HU1.out.cell 0 (.string (bs sc)) rfl
  have uc1 := HU1.out.cell 1 (.string (bs ho)) rfl
  have uc2 := HU1.out.cell 2 (.int .i64 po) rfl
  have uc3 := HU1.out.cell 3 (.string (bs pa)) rfl
  have uc4 := HU1.out.cell 4 (.string (bs qu)) rfl
  have uc5 := HU1.out.cell 5 (.bool hq) rfl
  go_wp2_with fail
  refine (HNA.out _ (HE.out.bel HB1.out)).mono ?_
  rintro r w2 ⟨rfl, hb⟩
  have HB2 := Lib.hid (HB1.out.trans (hb.mono HB1.out.size))
  have HU2 := Lib.hid (HU1.out.below hb)
  clear hb HB1 HU1
  clear uc0 uc1 uc2 uc3 uc4 uc5
  go_wp2_with fail
  refine (HPT.out _ (HE.out.bel HB2.out)).mono ?_
  rintro r w3 ⟨rfl, hb⟩
  have HB3 := Lib.hid (HB2.out.trans (hb.mono HB2.out.size))
  have HU3 := Lib.hid (HU2.out.below hb)
  clear hb HB2 HU2
  go_wp2_with fail
  go_ret
  exact ⟨rfl, HB3.out⟩
set_option maxHeartbeats 2000000 in
set_option maxRecDepth 100000 in
theorem rkey_any (u : Ur) (w : World) (hu : u.okW) (hp : u.pa.length ≤ 10000000) :
    Calls Tryz.prog 26 #[.agg #[.string (bs u.sc), .string (bs u.ho), .int .i64 u.po, .string (bs u.pa), .string (bs u.qu), .bool u.hq]] w fun r w' => r = .returned (.string (bs (keyU u))) ∧ Below w.heap.size w w' := by
  have HNA := Lib.hid (fun W => unormal_any u W hu hp)
  have HPT := Lib.hid (fun W => uput_any u.normal W (normal_okW u))
  have hk : keyU u = u.normal.put := rfl
  rw [hk]; clear hk
  generalize u.normal.put = p at *
  generalize u.normal = n at *
  clear hu hp
  obtain ⟨sc, ho, po, pa, qu, hq⟩ := u
  obtain ⟨nsc, nho, npo, npa, nqu, nhq⟩ := n
  simp only at HNA HPT ⊢
  have hal : Below w.heap.size w (w.alloc (.cells #[.string (bs sc), .string (bs ho), .int .i64 po, .string (bs pa), .string (bs qu), .bool hq] 23)) := (Below.refl _ _).alloc (Nat.le_refl _) _
  have HB1 := Lib.hid hal
  have hn := ubk.new w #[.string (bs sc), .string (bs ho), .int .i64 po, .string (bs pa), .string (bs qu), .bool hq] 23
  have HU1 := Lib.hid hn; clear hn
  clear hal
  go_enter Tryz.func26, Tryz.ntmps26
  have uc0 := HU1.out.cell 0 (.string (bs sc)) rfl
  have uc1 := HU1.out.cell 1 (.string (bs ho)) rfl
  have uc2 := HU1.out.cell 2 (.int .i64 po) rfl
  have uc3 := HU1.out.cell 3 (.string (bs pa)) rfl
  have uc4 := HU1.out.cell 4 (.string (bs qu)) rfl
  have uc5 := HU1.out.cell 5 (.bool hq) rfl
  go_wp2_with fail
  refine (HNA.out _).mono ?_
  rintro r w2 ⟨rfl, hb⟩
  have HB2 := Lib.hid (HB1.out.trans (hb.mono HB1.out.size))
  have HU2 := Lib.hid (HU1.out.below hb)
  clear hb HB1 HU1
  clear uc0 uc1 uc2 uc3 uc4 uc5
  go_wp2_with fail
  refine (HPT.out _).mono ?_
  rintro r w3 ⟨rfl, hb⟩
  have HB3 := Lib.hid (HB2.out.trans (hb.mono HB2.out.size))
  have HU3 := Lib.hid (HU2.out.below hb)
  clear hb HB2 HU2
  go_wp2_with fail
  go_ret
  exact ⟨rfl, HB3.out⟩
set_option maxHeartbeats 2000000 in
set_option maxRecDepth 100000 in
theorem kof_any (m : List UInt8) (u : Ur) (w : World) (he : EnvU w) (hu : u.okW) :
    Calls Tryz.prog 10 #[.string (bs m), .agg #[.string (bs u.sc), .string (bs u.ho), .int .i64 u.po, .string (bs u.pa), .string (bs u.qu), .bool u.hq]] w fun r w' => r = .returned (.string (bs (ofK m u))) ∧ Below w.heap.size w w' := by
  have HKO := Lib.hid (fun W (h : EnvU W) => keyOf_any u W h hu)
  have hof : ofK m u = if m = getK ∨ m = headK then keyU u else [] := rfl
  rw [hof]; clear hof
  generalize keyU u = k at *
  clear hu
  have HE := Lib.hid he; clear he
  obtain ⟨sc, ho, po, pa, qu, hq⟩ := u
  simp only at HKO ⊢
  have d1 : ((bs m).toList == [71, 69, 84]) = (m == getK) := beq_lit _ _
  have d2 : ((bs m).toList == [72, 69, 65, 68]) = (m == headK) := beq_lit _ _
  by_cases h1 : m = getK
  · rw [if_pos (.inl h1)]
    rw [beq_iff_eq.2 h1] at d1
    rw [show (m == headK) = false from beq_eq_false_iff_ne.2 (by rw [h1]; decide)] at d2
    clear h1
    have hal : Below w.heap.size w (w.alloc (.cells #[.string (bs sc), .string (bs ho), .int .i64 po, .string (bs pa), .string (bs qu), .bool hq] 23)) := (Below.refl _ _).alloc (Nat.le_refl _) _
    have HB1 := Lib.hid hal
    have hn := ubk.new w #[.string (bs sc), .string (bs ho), .int .i64 po, .string (bs pa), .string (bs qu), .bool hq] 23
    have HU1 := Lib.hid hn; clear hn
    clear hal
    go_enter Tryz.func10, Tryz.ntmps10
    have uc0 := HU1.out.cell 0 (.string (bs sc)) rfl
    have uc1 := HU1.out.cell 1 (.string (bs ho)) rfl
    have uc2 := HU1.out.cell 2 (.int .i64 po) rfl
    have uc3 := HU1.out.cell 3 (.string (bs pa)) rfl
    have uc4 := HU1.out.cell 4 (.string (bs qu)) rfl
    have uc5 := HU1.out.cell 5 (.bool hq) rfl
    go_wp2_with fail
    refine (HKO.out _ (HE.out.bel HB1.out)).mono ?_
    rintro r w2 ⟨rfl, hb⟩
    have HB2 := Lib.hid (HB1.out.trans (hb.mono HB1.out.size))
    have HU2 := Lib.hid (HU1.out.below hb)
    clear hb HB1 HU1
    clear uc0 uc1 uc2 uc3 uc4 uc5
    go_wp2_with fail
    go_ret
    exact ⟨rfl, HB2.out⟩
  · rw [beq_eq_false_iff_ne.2 h1] at d1
    by_cases h2 : m = headK
    · rw [if_pos (.inr h2)]
      rw [beq_iff_eq.2 h2] at d2
      clear h1 h2
      have hal : Below w.heap.size w (w.alloc (.cells #[.string (bs sc), .string (bs ho), .int .i64 po, .string (bs pa), .string (bs qu), .bool hq] 23)) := (Below.refl _ _).alloc (Nat.le_refl _) _
      have HB1 := Lib.hid hal
      have hn := ubk.new w #[.string (bs sc), .string (bs ho), .int .i64 po, .string (bs pa), .string (bs qu), .bool hq] 23
      have HU1 := Lib.hid hn; clear hn
      clear hal
      go_enter Tryz.func10, Tryz.ntmps10
      have uc0 := HU1.out.cell 0 (.string (bs sc)) rfl
      have uc1 := HU1.out.cell 1 (.string (bs ho)) rfl
      have uc2 := HU1.out.cell 2 (.int .i64 po) rfl
      have uc3 := HU1.out.cell 3 (.string (bs pa)) rfl
      have uc4 := HU1.out.cell 4 (.string (bs qu)) rfl
      have uc5 := HU1.out.cell 5 (.bool hq) rfl
      go_wp2_with fail
      refine (HKO.out _ (HE.out.bel HB1.out)).mono ?_
      rintro r w2 ⟨rfl, hb⟩
      have HB2 := Lib.hid (HB1.out.trans (hb.mono HB1.out.size))
      have HU2 := Lib.hid (HU1.out.below hb)
      clear hb HB1 HU1
      clear uc0 uc1 uc2 uc3 uc4 uc5
      go_wp2_with fail
      go_ret
      exact ⟨rfl, HB2.out⟩
    · rw [if_neg (fun h => h.elim h1 h2)]
      rw [beq_eq_false_iff_ne.2 h2] at d2
      clear h1 h2 HKO
      have hal : Below w.heap.size w (w.alloc (.cells #[.string (bs sc), .string (bs ho), .int .i64 po, .string (bs pa), .string (bs qu), .bool hq] 23)) := (Below.refl _ _).alloc (Nat.le_refl _) _
      have HB1 := Lib.hid hal
      have hn := ubk.new w #[.string (bs sc), .string (bs ho), .int .i64 po, .string (bs pa), .string (bs qu), .bool hq] 23
      have HU1 := Lib.hid hn; clear hn
      clear hal
      go_enter Tryz.func10, Tryz.ntmps10
      have uc0 := HU1.out.cell 0 (.string (bs sc)) rfl
      have uc1 := HU1.out.cell 1 (.string (bs ho)) rfl
      have uc2 := HU1.out.cell 2 (.int .i64 po) rfl
      have uc3 := HU1.out.cell 3 (.string (bs pa)) rfl
      have uc4 := HU1.out.cell 4 (.string (bs qu)) rfl
      have uc5 := HU1.out.cell 5 (.bool hq) rfl
      go_wp2_with fail
      go_ret
      exact ⟨rfl, HB1.out⟩
set_option maxHeartbeats 2000000 in
set_option maxRecDepth 100000 in
theorem rkof_any (m : List UInt8) (u : Ur) (w : World) (hu : u.okW) (hp : u.pa.length ≤ 10000000) :
    Calls Tryz.prog 11 #[.string (bs m), .agg #[.string (bs u.sc), .string (bs u.ho), .int .i64 u.po, .string (bs u.pa), .string (bs u.qu), .bool u.hq]] w fun r w' => r = .returned (.string (bs (ofK m u))) ∧ Below w.heap.size w w' := by
  have HKO := Lib.hid (fun W => rkey_any u W hu hp)
  have hof : ofK m u = if m = getK ∨ m = headK then keyU u else [] := rfl
  rw [hof]; clear hof
  generalize keyU u = k at *
  clear hu hp
  obtain ⟨sc, ho, po, pa, qu, hq⟩ := u
  simp only at HKO ⊢
  have d1 : ((bs m).toList == [71, 69, 84]) = (m == getK) := beq_lit _ _
  have d2 : ((bs m).toList == [72, 69, 65, 68]) = (m == headK) := beq_lit _ _
  by_cases h1 : m = getK
  · rw [if_pos (.inl h1)]
    rw [beq_iff_eq.2 h1] at d1
    rw [show (m == headK) = false from beq_eq_false_iff_ne.2 (by rw [h1]; decide)] at d2
    clear h1
    have hal : Below w.heap.size w (w.alloc (.cells #[.string (bs sc), .string (bs ho), .int .i64 po, .string (bs pa), .string (bs qu), .bool hq] 23)) := (Below.refl _ _).alloc (Nat.le_refl _) _
    have HB1 := Lib.hid hal
    have hn := ubk.new w #[.string (bs sc), .string (bs ho), .int .i64 po, .string (bs pa), .string (bs qu), .bool hq] 23
    have HU1 := Lib.hid hn; clear hn
    clear hal
    go_enter Tryz.func11, Tryz.ntmps11
    have uc0 := HU1.out.cell 0 (.string (bs sc)) rfl
    have uc1 := HU1.out.cell 1 (.string (bs ho)) rfl
    have uc2 := HU1.out.cell 2 (.int .i64 po) rfl
    have uc3 := HU1.out.cell 3 (.string (bs pa)) rfl
    have uc4 := HU1.out.cell 4 (.string (bs qu)) rfl
    have uc5 := HU1.out.cell 5 (.bool hq) rfl
    go_wp2_with fail
    refine (HKO.out _).mono ?_
    rintro r w2 ⟨rfl, hb⟩
    have HB2 := Lib.hid (HB1.out.trans (hb.mono HB1.out.size))
    have HU2 := Lib.hid (HU1.out.below hb)
    clear hb HB1 HU1
    clear uc0 uc1 uc2 uc3 uc4 uc5
    go_wp2_with fail
    go_ret
    exact ⟨rfl, HB2.out⟩
  · rw [beq_eq_false_iff_ne.2 h1] at d1
    by_cases h2 : m = headK
    · rw [if_pos (.inr h2)]
      rw [beq_iff_eq.2 h2] at d2
      clear h1 h2
      have hal : Below w.heap.size w (w.alloc (.cells #[.string (bs sc), .string (bs ho), .int .i64 po, .string (bs pa), .string (bs qu), .bool hq] 23)) := (Below.refl _ _).alloc (Nat.le_refl _) _
      have HB1 := Lib.hid hal
      have hn := ubk.new w #[.string (bs sc), .string (bs ho), .int .i64 po, .string (bs pa), .string (bs qu), .bool hq] 23
      have HU1 := Lib.hid hn; clear hn
      clear hal
      go_enter Tryz.func11, Tryz.ntmps11
      have uc0 := HU1.out.cell 0 (.string (bs sc)) rfl
      have uc1 := HU1.out.cell 1 (.string (bs ho)) rfl
      have uc2 := HU1.out.cell 2 (.int .i64 po) rfl
      have uc3 := HU1.out.cell 3 (.string (bs pa)) rfl
      have uc4 := HU1.out.cell 4 (.string (bs qu)) rfl
      have uc5 := HU1.out.cell 5 (.bool hq) rfl
      go_wp2_with fail
      refine (HKO.out _).mono ?_
      rintro r w2 ⟨rfl, hb⟩
      have HB2 := Lib.hid (HB1.out.trans (hb.mono HB1.out.size))
      have HU2 := Lib.hid (HU1.out.below hb)
      clear hb HB1 HU1
      clear uc0 uc1 uc2 uc3 uc4 uc5
      go_wp2_with fail
      go_ret
      exact ⟨rfl, HB2.out⟩
    · rw [if_neg (fun h => h.elim h1 h2)]
      rw [beq_eq_false_iff_ne.2 h2] at d2
      clear h1 h2 HKO
      have hal : Below w.heap.size w (w.alloc (.cells #[.string (bs sc), .string (bs ho), .int .i64 po, .string (bs pa), .string (bs qu), .bool hq] 23)) := (Below.refl _ _).alloc (Nat.le_refl _) _
      have HB1 := Lib.hid hal
      have hn := ubk.new w #[.string (bs sc), .string (bs ho), .int .i64 po, .string (bs pa), .string (bs qu), .bool hq] 23
      have HU1 := Lib.hid hn; clear hn
      clear hal
      go_enter Tryz.func11, Tryz.ntmps11
      have uc0 := HU1.out.cell 0 (.string (bs sc)) rfl
      have uc1 := HU1.out.cell 1 (.string (bs ho)) rfl
      have uc2 := HU1.out.cell 2 (.int .i64 po) rfl
      have uc3 := HU1.out.cell 3 (.string (bs pa)) rfl
      have uc4 := HU1.out.cell 4 (.string (bs qu)) rfl
      have uc5 := HU1.out.cell 5 (.bool hq) rfl
      go_wp2_with fail
      go_ret
      exact ⟨rfl, HB1.out⟩
set_option maxHeartbeats 2000000 in
set_option maxRecDepth 100000 in
theorem kuns_any (m : List UInt8) (w : World) :
    Calls Tryz.prog 12 #[.string (bs m)] w fun r w' => r = .returned (.bool (unsB m)) ∧ w = w' := by
  have hun : unsB m = (m == postK || (m == putK || (m == delK || m == patK))) := rfl
  rw [hun]; clear hun
  have d0 : ((bs m).toList == [80, 79, 83, 84]) = (m == postK) := beq_lit _ _
  have d1 : ((bs m).toList == [80, 85, 84]) = (m == putK) := beq_lit _ _
  have d2 : ((bs m).toList == [68, 69, 76, 69, 84, 69]) = (m == delK) := beq_lit _ _
  have d3 : ((bs m).toList == [80, 65, 84, 67, 72]) = (m == patK) := beq_lit _ _
  generalize (m == postK) = b0 at *
  generalize (m == putK) = b1 at *
  generalize (m == delK) = b2 at *
  generalize (m == patK) = b3 at *
  generalize bs m = s at *
  cases b0 <;> cases b1 <;> cases b2 <;> cases b3
  all_goals
    go_enter Tryz.func12, Tryz.ntmps12
    go_wp2_with fail
    go_ret
    exact ⟨rfl, rfl⟩
set_option maxHeartbeats 2000000 in
set_option maxRecDepth 100000 in
theorem rkuns_any (m : List UInt8) (w : World) :
    Calls Tryz.prog 13 #[.string (bs m)] w fun r w' => r = .returned (.bool (unsB m)) ∧ w = w' := by
  have hun : unsB m = (m == postK || (m == putK || (m == delK || m == patK))) := rfl
  rw [hun]; clear hun
  have d0 : ((bs m).toList == [80, 79, 83, 84]) = (m == postK) := beq_lit _ _
  have d1 : ((bs m).toList == [80, 85, 84]) = (m == putK) := beq_lit _ _
  have d2 : ((bs m).toList == [68, 69, 76, 69, 84, 69]) = (m == delK) := beq_lit _ _
  have d3 : ((bs m).toList == [80, 65, 84, 67, 72]) = (m == patK) := beq_lit _ _
  generalize (m == postK) = b0 at *
  generalize (m == putK) = b1 at *
  generalize (m == delK) = b2 at *
  generalize (m == patK) = b3 at *
  generalize bs m = s at *
  cases b0 <;> cases b1 <;> cases b2 <;> cases b3
  all_goals
    go_enter Tryz.func13, Tryz.ntmps13
    go_wp2_with fail
    go_ret
    exact ⟨rfl, rfl⟩
set_option maxHeartbeats 2000000 in
set_option maxRecDepth 100000 in
theorem succeeded_any (st : Int) (w : World) :
    Calls Tryz.prog 27 #[.int .i64 st] w fun r w' => r = .returned (.bool (decide (200 ≤ st ∧ st ≤ 399))) ∧ w = w' := by
  by_cases h1 : 200 ≤ st
  · by_cases h2 : st ≤ 399
    · rw [decide_eq_true ⟨h1, h2⟩]
      go_enter Tryz.func27, Tryz.ntmps27
      go_wp2_with fail
      go_ret
      exact ⟨ret_bool (by simp), rfl⟩
    · rw [decide_eq_false (fun h => h2 h.2)]
      go_enter Tryz.func27, Tryz.ntmps27
      go_wp2_with fail
      go_ret
      exact ⟨ret_bool (by simp), rfl⟩
  · rw [decide_eq_false (fun h => h1 h.1)]
    go_enter Tryz.func27, Tryz.ntmps27
    go_wp2_with fail
    go_ret
    exact ⟨ret_bool (by simp), rfl⟩
set_option maxHeartbeats 2000000 in
set_option maxRecDepth 100000 in
theorem originOf_any (u : Ur) (w : World) (he : EnvU w) (hu : u.okW) :
    Calls Tryz.prog 28 #[.agg #[.string (bs u.sc), .string (bs u.ho), .int .i64 u.po, .string (bs u.pa), .string (bs u.qu), .bool u.hq]] w fun r w' => r = .returned (.agg #[.string (bs u.normal.sc), .string (bs u.normal.ho), .int .i64 u.normal.po]) ∧ Below w.heap.size w w' := by
  have HNA := Lib.hid (fun W (h : EnvU W) => normal_any u W h hu)
  generalize u.normal = n at *
  clear hu
  have HE := Lib.hid he; clear he
  obtain ⟨sc, ho, po, pa, qu, hq⟩ := u
  obtain ⟨nsc, nho, npo, npa, nqu, nhq⟩ := n
  simp only at HNA ⊢
  have hal : Below w.heap.size w (w.alloc (.cells #[.string (bs sc), .string (bs ho), .int .i64 po, .string (bs pa), .string (bs qu), .bool hq] 23)) := (Below.refl _ _).alloc (Nat.le_refl _) _
  have HB1 := Lib.hid hal
  have hn := ubk.new w #[.string (bs sc), .string (bs ho), .int .i64 po, .string (bs pa), .string (bs qu), .bool hq] 23
  have HU1 := Lib.hid hn; clear hn
  clear hal
  have hal : Below (w.alloc (.cells #[.string (bs sc), .string (bs ho), .int .i64 po, .string (bs pa), .string (bs qu), .bool hq] 23)).heap.size (w.alloc (.cells #[.string (bs sc), .string (bs ho), .int .i64 po, .string (bs pa), .string (bs qu), .bool hq] 23)) ((w.alloc (.cells #[.string (bs sc), .string (bs ho), .int .i64 po, .string (bs pa), .string (bs qu), .bool hq] 23)).alloc (.cells #[.string ⟨#[]⟩, .string ⟨#[]⟩, .int .i64 0] 53)) := (Below.refl _ _).alloc (Nat.le_refl _) _
  have HB2 := Lib.hid (HB1.out.trans (hal.mono HB1.out.size))
  have HU2 := Lib.hid (HU1.out.alloc (.cells #[.string ⟨#[]⟩, .string ⟨#[]⟩, .int .i64 0] 53))
  have hn := ubk.new (w.alloc (.cells #[.string (bs sc), .string (bs ho), .int .i64 po, .string (bs pa), .string (bs qu), .bool hq] 23)) #[.string ⟨#[]⟩, .string ⟨#[]⟩, .int .i64 0] 53
  rw [World.size_alloc] at hn
  have HR2 := Lib.hid hn; clear hn
  clear hal HB1 HU1
  go_enter Tryz.func28, Tryz.ntmps28
  have uc0 := HU2.out.cell 0 (.string (bs sc)) rfl
  have uc1 := HU2.out.cell 1 (.string (bs ho)) rfl
  have uc2 := HU2.out.cell 2 (.int .i64 po) rfl
  have uc3 := HU2.out.cell 3 (.string (bs pa)) rfl
  have uc4 := HU2.out.cell 4 (.string (bs qu)) rfl
  have uc5 := HU2.out.cell 5 (.bool hq) rfl
  go_wp2_with fail
  refine (HNA.out _ (HE.out.bel HB2.out)).mono ?_
  rintro r w3 ⟨rfl, hb⟩
  have HB3 := Lib.hid (HB2.out.trans (hb.mono HB2.out.size))
  have HU3 := Lib.hid (HU2.out.below hb)
  have HR3 := Lib.hid (HR2.out.below hb)
  clear hb HB2 HU2 HR2
  clear uc0 uc1 uc2 uc3 uc4 uc5
  have hal : Below w3.heap.size w3 (w3.alloc (.cells #[.string (bs nsc), .string (bs nho), .int .i64 npo, .string (bs npa), .string (bs nqu), .bool nhq] 23)) := (Below.refl _ _).alloc (Nat.le_refl _) _
  have HB4 := Lib.hid (HB3.out.trans (hal.mono HB3.out.size))
  have HU4 := Lib.hid (HU3.out.alloc (.cells #[.string (bs nsc), .string (bs nho), .int .i64 npo, .string (bs npa), .string (bs nqu), .bool nhq] 23))
  have HR4 := Lib.hid (HR3.out.alloc (.cells #[.string (bs nsc), .string (bs nho), .int .i64 npo, .string (bs npa), .string (bs nqu), .bool nhq] 23))
  have hn := ubk.new w3 #[.string (bs nsc), .string (bs nho), .int .i64 npo, .string (bs npa), .string (bs nqu), .bool nhq] 23
  have HN4 := Lib.hid hn; clear hn
  clear hal HB3 HU3 HR3
  have nc0 := HN4.out.cell 0 (.string (bs nsc)) rfl
  have nc1 := HN4.out.cell 1 (.string (bs nho)) rfl
  have nc2 := HN4.out.cell 2 (.int .i64 npo) rfl
  have nc3 := HN4.out.cell 3 (.string (bs npa)) rfl
  have nc4 := HN4.out.cell 4 (.string (bs nqu)) rfl
  have nc5 := HN4.out.cell 5 (.bool nhq) rfl
  have rf0 := HR4.out.cell 0 (.string ⟨#[]⟩) rfl
  have rz0 := HR4.out.free 0
  have rf1 := (HR4.out.set 0 (.string (bs nsc))).cell 1 (.string ⟨#[]⟩) rfl
  have rz1 := (HR4.out.set 0 (.string (bs nsc))).free 1
  have rf2 := ((HR4.out.set 0 (.string (bs nsc))).set 1 (.string (bs nho))).cell 2 (.int .i64 0) rfl
  have rz2 := ((HR4.out.set 0 (.string (bs nsc))).set 1 (.string (bs nho))).free 2
  have hq0 := (((HR4.out.set 0 (.string (bs nsc))).set 1 (.string (bs nho))).set 2 (.int .i64 npo))
  simp only [List.setIfInBounds_toArray, List.set_cons_zero, List.set_cons_succ] at hq0
  have HQ := Lib.hid hq0; clear hq0
  have HBF : Hid (Below w.heap.size w ((((w3.alloc (.cells #[.string (bs nsc), .string (bs nho), .int .i64 npo, .string (bs npa), .string (bs nqu), .bool nhq] 23)).setCell ⟨w.heap.size + 1, 0, none⟩ (.string (bs nsc))).setCell ⟨w.heap.size + 1, 1, none⟩ (.string (bs nho))).setCell ⟨w.heap.size + 1, 2, none⟩ (.int .i64 npo))) := (((HB4.out.setCell (p := ⟨w.heap.size + 1, 0, none⟩) (Nat.le_succ _) (.string (bs nsc))).setCell (p := ⟨w.heap.size + 1, 1, none⟩) (Nat.le_succ _) (.string (bs nho))).setCell (p := ⟨w.heap.size + 1, 2, none⟩) (Nat.le_succ _) (.int .i64 npo))
  go_wp2_with fail
  have m0 := HQ.out.cell 0 (.string (bs nsc)) rfl
  have m1 := HQ.out.cell 1 (.string (bs nho)) rfl
  have m2 := HQ.out.cell 2 (.int .i64 npo) rfl
  refine bodyPost_ret (v := .agg #[.string (bs nsc), .string (bs nho), .int .i64 npo]) (by simp [results, Tryz.results28, go_sem, m0, m1, m2]) rfl ⟨?_, HBF.out⟩
  rfl
theorem run_neqO (a1 a2 : List UInt8) (a3 : Int) (b1 b2 : List UInt8) (b3 : Int) (w : World) : (binOp .neq 53 (.agg #[.string (bs a1), .string (bs a2), .int .i64 a3]) (.agg #[.string (bs b1), .string (bs b2), .int .i64 b3])).run Tryz.prog w = .ok (.bool (!(decide ((a1, a2, a3) = (b1, b2, b3))))) w := by
  have u9 := Tryz.underlying9
  have a9 := Tryz.isAgg9
  have z9 := Tryz.sizeOf9
  have u4 := Tryz.underlying3
  have a4 := Tryz.isAgg3
  have z4 := Tryz.sizeOf3
  have hS : Tryz.prog.underlying 53 = some (.struct (Tryz.prog.fieldsOf 53)) := by kernel_rfl
  have hp : Tryz.prog.stoodInHeld 53 = false := by kernel_rfl
  rw [run_neq_struct, show (10000 : Nat) = 9999 + 1 from rfl, run_equalIn_agg w 9999 53 _ _ hS hp]
  simp only [Program.fieldsOf, Tryz.underlying53]
  go_simp
  by_cases h1 : a1 = b1 <;> by_cases h2 : a2 = b2 <;> by_cases h3 : a3 = b3 <;> simp [h1, h2, h3, Lib.toList_data]
theorem run_eqlU (x y : Ur) (w : World) : (binOp .eql 23 (.agg #[.string (bs x.sc), .string (bs x.ho), .int .i64 x.po, .string (bs x.pa), .string (bs x.qu), .bool x.hq]) (.agg #[.string (bs y.sc), .string (bs y.ho), .int .i64 y.po, .string (bs y.pa), .string (bs y.qu), .bool y.hq])).run Tryz.prog w = .ok (.bool (decide (x = y))) w := by
  have u9 := Tryz.underlying9
  have a9 := Tryz.isAgg9
  have z9 := Tryz.sizeOf9
  have u4 := Tryz.underlying3
  have a4 := Tryz.isAgg3
  have z4 := Tryz.sizeOf3
  have u3 := Tryz.underlying4
  have a3 := Tryz.isAgg4
  have z3 := Tryz.sizeOf4
  have hS : Tryz.prog.underlying 23 = some (.struct (Tryz.prog.fieldsOf 23)) := by kernel_rfl
  have hp : Tryz.prog.stoodInHeld 23 = false := by kernel_rfl
  obtain ⟨x1, x2, x3, x4, x5, x6⟩ := x
  obtain ⟨y1, y2, y3, y4, y5, y6⟩ := y
  rw [run_eql_struct, show (10000 : Nat) = 9999 + 1 from rfl, run_equalIn_agg w 9999 23 _ _ hS hp]
  simp only [Program.fieldsOf, Tryz.underlying23]
  go_simp
  by_cases h1 : x1 = y1 <;> by_cases h2 : x2 = y2 <;> by_cases h3 : x3 = y3 <;> by_cases h4 : x4 = y4 <;> by_cases h5 : x5 = y5 <;> by_cases h6 : x6 = y6 <;> simp [h1, h2, h3, h4, h5, h6, Lib.toList_data]
set_option maxHeartbeats 1000000 in
set_option maxRecDepth 100000 in
theorem klong_any (u : Ur) (w : World) (h : u.sized) :
    Calls Tryz.prog 8 #[.agg #[.string (bs u.sc), .string (bs u.ho), .int .i64 u.po, .string (bs u.pa), .string (bs u.qu), .bool u.hq]] w fun r w' => r = .returned (.bool (longB u)) ∧ Below w.heap.size w w' := by
  obtain ⟨h1, h2, h3, h4, -⟩ := h
  unfold longB
  obtain ⟨sc, ho, po, pa, qu, hq⟩ := u
  simp only at h1 h2 h3 h4 ⊢
  have hal : Below w.heap.size w (w.alloc (.cells #[.string (bs sc), .string (bs ho), .int .i64 po, .string (bs pa), .string (bs qu), .bool hq] 23)) := (Below.refl _ _).alloc (Nat.le_refl _) _
  have HAL := Lib.hid hal; clear hal
  have hx := ubk.new w #[.string (bs sc), .string (bs ho), .int .i64 po, .string (bs pa), .string (bs qu), .bool hq] 23
  have xc0 := hx.cell 0 (.string (bs sc)) rfl
  have xc1 := hx.cell 1 (.string (bs ho)) rfl
  have xc2 := hx.cell 2 (.int .i64 po) rfl
  have xc3 := hx.cell 3 (.string (bs pa)) rfl
  have xc4 := hx.cell 4 (.string (bs qu)) rfl
  have xc5 := hx.cell 5 (.bool hq) rfl
  clear hx
  have z1 := bs_size sc
  have z2 := bs_size ho
  have z3 := bs_size pa
  have z4 := bs_size qu
  go_enter Tryz.func8, Tryz.ntmps8
  go_wp2_with fail
  have HF : Hid (decide ((3000 : Int) < ↑sc.length + ↑ho.length + ↑pa.length + ↑qu.length) = decide (3000 < sc.length + ho.length + pa.length + qu.length)) := by
    show _ = _
    rw [Bool.eq_iff_iff, decide_eq_true_eq, decide_eq_true_eq]
    omega
  go_ret
  exact ⟨ret_bool HF.out, HAL.out⟩
end Go.Proofs.YtnpiaifkeddjeaaGreatDoor
