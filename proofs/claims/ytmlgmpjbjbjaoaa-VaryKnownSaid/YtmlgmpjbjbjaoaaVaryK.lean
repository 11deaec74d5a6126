/- The closed statement VaryKnown. -/
import Derived.Test.YtmlgmpjbjbjaoaaVaryF
namespace Go.Proofs.Ytmlgmpjbjbjaoaa
open Go.RowKit

set_option maxRecDepth 100000 in
set_option maxHeartbeats 4000000 in
theorem varyKnown_law (w : World) : Calls Try.prog 5 #[] w fun e w' => e = .returned (.bool true) ∧ Below w.heap.size w w' := by
  have n0 : ∀ W, Calls Try.prog 18 #[.slice (some ⟨W.heap.size, 0, none⟩) 2 2] (W.alloc (.cells #[.string ⟨#[118, 97, 114, 121]⟩, .string ⟨#[97, 44, 32, 40]⟩] 9)) fun e w' => e = .returned (.string ⟨#[97, 108, 108]⟩) ∧ Below W.heap.size W w' := fun W => names_lit [([118, 97, 114, 121], [97, 44, 32, 40])] [97, 108, 108] W (by decide) (by kernel_rfl) (by decide)
  have N0 := Lib.hid n0; clear n0
  have n1 : ∀ W, Calls Try.prog 18 #[.slice (some ⟨W.heap.size, 0, none⟩) 2 2] (W.alloc (.cells #[.string ⟨#[118, 97, 114, 121]⟩, .string ⟨#[34]⟩] 9)) fun e w' => e = .returned (.string ⟨#[97, 108, 108]⟩) ∧ Below W.heap.size W w' := fun W => names_lit [([118, 97, 114, 121], [34])] [97, 108, 108] W (by decide) (by kernel_rfl) (by decide)
  have N1 := Lib.hid n1; clear n1
  have n2 : ∀ W, Calls Try.prog 18 #[.slice none 0 0] W fun e w' => e = .returned (.string ⟨#[]⟩) ∧ Below W.heap.size W w' := fun W => names_nil W
  have N2 := Lib.hid n2; clear n2
  have n3 : ∀ W, Calls Try.prog 18 #[.slice (some ⟨W.heap.size, 0, none⟩) 2 2] (W.alloc (.cells #[.string ⟨#[118, 97, 114, 121]⟩, .string ⟨#[]⟩] 9)) fun e w' => e = .returned (.string ⟨#[]⟩) ∧ Below W.heap.size W w' := fun W => names_lit [([118, 97, 114, 121], [])] [] W (by decide) (by kernel_rfl) (by decide)
  have N3 := Lib.hid n3; clear n3
  have n4 : ∀ W, Calls Try.prog 18 #[.slice (some ⟨W.heap.size, 0, none⟩) 4 4] (W.alloc (.cells #[.string ⟨#[118, 97, 114, 121]⟩, .string ⟨#[97]⟩, .string ⟨#[86, 97, 114, 121]⟩, .string ⟨#[42]⟩] 9)) fun e w' => e = .returned (.string ⟨#[97, 108, 108]⟩) ∧ Below W.heap.size W w' := fun W => names_lit [([118, 97, 114, 121], [97]), ([86, 97, 114, 121], [42])] [97, 108, 108] W (by decide) (by kernel_rfl) (by decide)
  have N4 := Lib.hid n4; clear n4
  have n5 : ∀ W, Calls Try.prog 18 #[.slice (some ⟨W.heap.size, 0, none⟩) 4 4] (W.alloc (.cells #[.string ⟨#[120]⟩, .string ⟨#[42]⟩, .string ⟨#[86, 65, 82, 89]⟩, .string ⟨#[65, 44, 97, 44, 66]⟩] 9)) fun e w' => e = .returned (.string ⟨#[97, 32, 98]⟩) ∧ Below W.heap.size W w' := fun W => names_lit [([120], [42]), ([86, 65, 82, 89], [65, 44, 97, 44, 66])] [97, 32, 98] W (by decide) (by kernel_rfl) (by decide)
  have N5 := Lib.hid n5; clear n5
  have m0 : ∀ W, Calls Try.prog 20 #[.string ⟨#[]⟩, .slice none 0 0] W fun e w' => e = .returned (.bool true) ∧ Below W.heap.size W w' := fun W => matches_nil [] true W (by decide) (by kernel_rfl)
  have M0 := Lib.hid m0; clear m0
  have m1 : ∀ W, Calls Try.prog 20 #[.string ⟨#[]⟩, .slice (some ⟨W.heap.size, 0, none⟩) 2 2] (W.alloc (.cells #[.string ⟨#[97, 99, 99, 101, 112, 116]⟩, .string ⟨#[32, 44, 32]⟩] 9)) fun e w' => e = .returned (.bool true) ∧ Below W.heap.size W w' := fun W => matches_lit [] [([97, 99, 99, 101, 112, 116], [32, 44, 32])] true W (by decide) (by decide) (by kernel_rfl) (by decide)
  have M1 := Lib.hid m1; clear m1
  have m2 : ∀ W, Calls Try.prog 20 #[.string ⟨#[]⟩, .slice (some ⟨W.heap.size, 0, none⟩) 2 2] (W.alloc (.cells #[.string ⟨#[97, 99, 99, 101, 112, 116]⟩, .string ⟨#[97]⟩] 9)) fun e w' => e = .returned (.bool false) ∧ Below W.heap.size W w' := fun W => matches_lit [] [([97, 99, 99, 101, 112, 116], [97])] false W (by decide) (by decide) (by kernel_rfl) (by decide)
  have M2 := Lib.hid m2; clear m2
  have m3 : ∀ W, Calls Try.prog 20 #[.string ⟨#[34, 97]⟩, .slice (some ⟨W.heap.size, 0, none⟩) 2 2] (W.alloc (.cells #[.string ⟨#[97, 99, 99, 101, 112, 116]⟩, .string ⟨#[32, 34, 97]⟩] 9)) fun e w' => e = .returned (.bool true) ∧ Below W.heap.size W w' := fun W => matches_lit [34, 97] [([97, 99, 99, 101, 112, 116], [32, 34, 97])] true W (by decide) (by decide) (by kernel_rfl) (by decide)
  have M3 := Lib.hid m3; clear m3
  have m4 : ∀ W, Calls Try.prog 20 #[.string ⟨#[97]⟩, .slice (some ⟨W.heap.size, 0, none⟩) 2 2] (W.alloc (.cells #[.string ⟨#[97, 99, 99, 101, 112, 116]⟩, .string ⟨#[65]⟩] 9)) fun e w' => e = .returned (.bool false) ∧ Below W.heap.size W w' := fun W => matches_lit [97] [([97, 99, 99, 101, 112, 116], [65])] false W (by decide) (by decide) (by kernel_rfl) (by decide)
  have M4 := Lib.hid m4; clear m4
  have m5 : ∀ W, Calls Try.prog 20 #[.string ⟨#[97, 44, 32, 34, 98, 44, 99, 34]⟩, .slice (some ⟨W.heap.size, 0, none⟩) 6 6] (W.alloc (.cells #[.string ⟨#[97, 99, 99, 101, 112, 116]⟩, .string ⟨#[97]⟩, .string ⟨#[120]⟩, .string ⟨#[121]⟩, .string ⟨#[65, 99, 99, 101, 112, 116]⟩, .string ⟨#[34, 98, 44, 99, 34]⟩] 9)) fun e w' => e = .returned (.bool true) ∧ Below W.heap.size W w' := fun W => matches_lit [97, 44, 32, 34, 98, 44, 99, 34] [([97, 99, 99, 101, 112, 116], [97]), ([120], [121]), ([65, 99, 99, 101, 112, 116], [34, 98, 44, 99, 34])] true W (by decide) (by decide) (by kernel_rfl) (by decide)
  have M5 := Lib.hid m5; clear m5
  have HW := Lib.hid vawake_any
  go_enter Try.func5, Try.ntmps5
  go_wp2_with fail
  refine (N0.out _).mono ?_
  rintro e w1 ⟨rfl, hb⟩
  have HB1 : Hid (Below w.heap.size w w1) := hb; clear hb
  go_wp2_with fail
  refine (N1.out _).mono ?_
  rintro e w2 ⟨rfl, hb⟩
  have HB2 : Hid (Below w.heap.size w w2) := HB1.out.trans (hb.mono HB1.out.size); clear hb
  go_wp2_with fail
  refine (N2.out _).mono ?_
  rintro e w3 ⟨rfl, hb⟩
  have HB3 : Hid (Below w.heap.size w w3) := HB2.out.trans (hb.mono HB2.out.size); clear hb
  go_wp2_with fail
  refine (N3.out _).mono ?_
  rintro e w4 ⟨rfl, hb⟩
  have HB4 : Hid (Below w.heap.size w w4) := HB3.out.trans (hb.mono HB3.out.size); clear hb
  go_wp2_with fail
  refine (N4.out _).mono ?_
  rintro e w5 ⟨rfl, hb⟩
  have HB5 : Hid (Below w.heap.size w w5) := HB4.out.trans (hb.mono HB4.out.size); clear hb
  go_wp2_with fail
  refine (N5.out _).mono ?_
  rintro e w6 ⟨rfl, hb⟩
  have HB6 : Hid (Below w.heap.size w w6) := HB5.out.trans (hb.mono HB5.out.size); clear hb
  -- Select of two names
  have e0 : SL (w6.alloc (.cells #[.string ⟨#[97, 99, 99, 101, 112, 116]⟩, .string ⟨#[120]⟩] 9)) (.slice (some ⟨w6.heap.size, 0, none⟩) 2 2) [[97, 99, 99, 101, 112, 116], [120]] := SL_litsV w6 [[97, 99, 99, 101, 112, 116], [120]]
  have b0 : Below w6.heap.size w6 (w6.alloc (.cells #[.string ⟨#[97, 99, 99, 101, 112, 116]⟩, .string ⟨#[120]⟩] 9)) := (Below.refl _ _).alloc (Nat.le_refl _) _
  have hs6 : (w6.alloc (.cells #[.string ⟨#[97, 99, 99, 101, 112, 116]⟩, .string ⟨#[120]⟩] 9)).heap.size = w6.heap.size + 1 := by simp
  have HE := Lib.hid e0; have HB0 := Lib.hid b0
  clear e0 b0
  go_wp2_with fail
  generalize w6.alloc (.cells #[.string ⟨#[97, 99, 99, 101, 112, 116]⟩, .string ⟨#[120]⟩] 9) = W6 at *
  rw [← hs6]
  have HB1 := Lib.hid (HB6.out.trans (HB0.out.mono HB6.out.size))
  have b1 : Below W6.heap.size W6 (W6.alloc (.cells #[.string ⟨#[65, 99, 99, 101, 112, 116]⟩, .string ⟨#[97, 32, 44, 98]⟩, .string ⟨#[65, 67, 67, 69, 80, 84]⟩, .string ⟨#[99]⟩, .string ⟨#[89]⟩, .string ⟨#[100]⟩] 9)) := (Below.refl _ _).alloc (Nat.le_refl _) _
  have hof : Calls Try.prog 19 #[.slice (some ⟨W6.heap.size, 0, none⟩) 6 6] (W6.alloc (.cells #[.string ⟨#[65, 99, 99, 101, 112, 116]⟩, .string ⟨#[97, 32, 44, 98]⟩, .string ⟨#[65, 67, 67, 69, 80, 84]⟩, .string ⟨#[99]⟩, .string ⟨#[89]⟩, .string ⟨#[100]⟩] 9)) (RetF (W6.alloc (.cells #[.string ⟨#[65, 99, 99, 101, 112, 116]⟩, .string ⟨#[97, 32, 44, 98]⟩, .string ⟨#[65, 67, 67, 69, 80, 84]⟩, .string ⟨#[99]⟩, .string ⟨#[89]⟩, .string ⟨#[100]⟩] 9)) [([65, 99, 99, 101, 112, 116], [97, 32, 44, 98]), ([65, 67, 67, 69, 80, 84], [99]), ([89], [100])]) := vof_any _ [([65, 99, 99, 101, 112, 116], [97, 32, 44, 98]), ([65, 67, 67, 69, 80, 84], [99]), ([89], [100])] _ (SL_litsV W6 (flatN [([65, 99, 99, 101, 112, 116], [97, 32, 44, 98]), ([65, 67, 67, 69, 80, 84], [99]), ([89], [100])])) (by decide)
  refine hof.mono ?_
  rintro e w7 ⟨u7, rfl, ho7, hb⟩
  have HB7 := Lib.hid (HB1.out.trans ((b1.trans (hb.mono b1.size)).mono HB1.out.size))
  have HE7 := Lib.hid (HE.out.bel (b1.trans (hb.mono b1.size)))
  have HS7 := Lib.hid (vselect_any w7 HE7.out ho7.fl (by decide) (by decide) (by decide))
  obtain ⟨A7, c7, rfl⟩ := ho7.form
  clear hof hb ho7 b1
  go_wp2_with fail
  refine HS7.out.mono ?_
  rintro e w8 ⟨u8, rfl, ho8, hb⟩
  have hse : selectL [[97, 99, 99, 101, 112, 116], [120]] [([65, 99, 99, 101, 112, 116], [97, 32, 44, 98]), ([65, 67, 67, 69, 80, 84], [99]), ([89], [100])] = [([97, 99, 99, 101, 112, 116], [97, 44, 32, 98, 44, 32, 99]), ([120], [])] := by kernel_rfl
  rw [hse] at ho8
  have HB8 := Lib.hid (HB7.out.trans (hb.mono HB7.out.size))
  have HF8 := Lib.hid ho8.fl
  obtain ⟨A8, c8, hu8⟩ := ho8.form
  replace hu8 : u8 = .slice A8 2 c8 := hu8
  subst hu8
  clear hb ho8 hse
  obtain ⟨b8, o8, rfl, _, d0, d1⟩ := HF8.out.get 0 (by decide)
  obtain ⟨b9, o9, he9, _, d2, d3⟩ := HF8.out.get 1 (by decide)
  cases he9
  replace d0 : w8.cell? ⟨b8, o8, none⟩ = some (.string ⟨#[97, 99, 99, 101, 112, 116]⟩) := d0
  replace d1 : w8.cell? ⟨b8, o8 + 1, none⟩ = some (.string ⟨#[97, 44, 32, 98, 44, 32, 99]⟩) := d1
  replace d2 : w8.cell? ⟨b8, o8 + 2, none⟩ = some (.string ⟨#[120]⟩) := d2
  replace d3 : w8.cell? ⟨b8, o8 + 2 + 1, none⟩ = some (.string ⟨#[]⟩) := d3
  have q1 : ∀ W, (binOp .neq 41 (.agg #[.string ⟨#[97, 99, 99, 101, 112, 116]⟩, .string ⟨#[97, 44, 32, 98, 44, 32, 99]⟩]) (.agg #[.string ⟨#[97, 99, 99, 101, 112, 116]⟩, .string ⟨#[97, 44, 32, 98, 44, 32, 99]⟩])).run Try.prog W = .ok (.bool false) W := fun W => run_neqF ([97, 99, 99, 101, 112, 116], [97, 44, 32, 98, 44, 32, 99]) ([97, 99, 99, 101, 112, 116], [97, 44, 32, 98, 44, 32, 99]) W
  have q2 : ∀ W, (binOp .neq 41 (.agg #[.string ⟨#[120]⟩, .string ⟨#[]⟩]) (.agg #[.string ⟨#[120]⟩, .string ⟨#[]⟩])).run Try.prog W = .ok (.bool false) W := fun W => run_neqF ([120], []) ([120], []) W
  go_wp2_with fail
  clear d0 d1 d2 d3 q1 q2
  have b2 : Below w8.heap.size w8 (w8.alloc (.cells #[.string ⟨#[97]⟩, .string ⟨#[98]⟩] 9)) := (Below.refl _ _).alloc (Nat.le_refl _) _
  have hof : Calls Try.prog 19 #[.slice (some ⟨w8.heap.size, 0, none⟩) 2 2] (w8.alloc (.cells #[.string ⟨#[97]⟩, .string ⟨#[98]⟩] 9)) (RetF (w8.alloc (.cells #[.string ⟨#[97]⟩, .string ⟨#[98]⟩] 9)) [([97], [98])]) := vof_any _ [([97], [98])] _ (SL_litsV w8 (flatN [([97], [98])])) (by decide)
  refine hof.mono ?_
  rintro e w9 ⟨u9, rfl, ho9, hb⟩
  have HB9 := Lib.hid (HB8.out.trans ((b2.trans (hb.mono b2.size)).mono HB8.out.size))
  have hm9 := vmatches_any (a0 := .int .i64 0) (a1 := .string ⟨#[]⟩) (a2 := .int .i64 0) (a3 := .slice none 0 0) (a4 := .string ⟨#[]⟩) (a5 := .int .i64 0) (a6 := .int .i64 0) w9 (FL_nil w9) ho9.fl (by decide) (fun j hj => absurd hj (by simp)) (by decide)
  rw [show matchB [] [([97], [98])] = true from rfl] at hm9
  have HM9 := Lib.hid hm9
  obtain ⟨A9, c9, rfl⟩ := ho9.form
  clear hof hb ho9 b2 hm9
  go_wp2_with fail
  refine HM9.out.mono ?_
  rintro e w10 ⟨rfl, hb⟩
  have HB10 : Hid (Below w.heap.size w w10) := HB9.out.trans (hb.mono HB9.out.size); clear hb
  go_wp2_with fail
  refine (M0.out _).mono ?_
  rintro e w11 ⟨rfl, hb⟩
  have HB11 : Hid (Below w.heap.size w w11) := HB10.out.trans (hb.mono HB10.out.size); clear hb
  go_wp2_with fail
  refine (M1.out _).mono ?_
  rintro e w12 ⟨rfl, hb⟩
  have HB12 : Hid (Below w.heap.size w w12) := HB11.out.trans (hb.mono HB11.out.size); clear hb
  go_wp2_with fail
  refine (M2.out _).mono ?_
  rintro e w13 ⟨rfl, hb⟩
  have HB13 : Hid (Below w.heap.size w w13) := HB12.out.trans (hb.mono HB12.out.size); clear hb
  go_wp2_with fail
  refine (M3.out _).mono ?_
  rintro e w14 ⟨rfl, hb⟩
  have HB14 : Hid (Below w.heap.size w w14) := HB13.out.trans (hb.mono HB13.out.size); clear hb
  go_wp2_with fail
  refine (M4.out _).mono ?_
  rintro e w15 ⟨rfl, hb⟩
  have HB15 : Hid (Below w.heap.size w w15) := HB14.out.trans (hb.mono HB14.out.size); clear hb
  go_wp2_with fail
  refine (M5.out _).mono ?_
  rintro e w16 ⟨rfl, hb⟩
  have HB16 : Hid (Below w.heap.size w w16) := HB15.out.trans (hb.mono HB15.out.size); clear hb
  go_wp2_with fail
  refine (HW.out _).mono ?_
  rintro e w17 ⟨rfl, hb⟩
  have HB17 : Hid (Below w.heap.size w w17) := HB16.out.trans (hb.mono HB16.out.size); clear hb
  go_wp2_with fail
  go_ret
  exact ⟨rfl, HB17.out⟩
end Go.Proofs.Ytmlgmpjbjbjaoaa
