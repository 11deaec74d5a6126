/- The statement RefreshKnown. -/
import Derived.Test.YtdaiielhohdgiaaDoorRefH
namespace Go.Proofs.YtdaiielhohdgiaaDoor
open Go.RowKit Go.Shelf

theorem of_k1 (w : World) : Calls Tryd.prog 14 #[.slice (some ⟨w.heap.size, 0, none⟩) 6 6] (w.alloc (.cells #[.string ⟨#[65]⟩, .string ⟨#[49]⟩, .string ⟨#[65, 103, 101]⟩, .string ⟨#[53]⟩, .string ⟨#[69, 84, 97, 103]⟩, .string ⟨#[34, 97, 34]⟩] 9)) fun e w' => ∃ A c, e = .returned (.agg #[.int .i64 200, .string ⟨#[79, 75]⟩, .int .i64 1, .slice A 3 c, .string ⟨#[98]⟩, .int .i64 0, .int .i64 0, .slice none 0 0]) ∧ FL w' (.slice A 3 c) [([65], [49]), ([65, 103, 101], [53]), ([69, 84, 97, 103], [34, 97, 34])] ∧ Below w.heap.size w w' := by
  have hal : Below w.heap.size w (w.alloc (.cells #[.string ⟨#[65]⟩, .string ⟨#[49]⟩, .string ⟨#[65, 103, 101]⟩, .string ⟨#[53]⟩, .string ⟨#[69, 84, 97, 103]⟩, .string ⟨#[34, 97, 34]⟩] 9)) := (Below.refl _ _).alloc (Nat.le_refl _) _
  have h := ofQ_any _ [([65], [49]), ([65, 103, 101], [53]), ([69, 84, 97, 103], [34, 97, 34])] _ (SL_strs w (flatN [([65], [49]), ([65, 103, 101], [53]), ([69, 84, 97, 103], [34, 97, 34])])) (by decide)
  refine h.mono ?_
  rintro e w' ⟨A, c, rfl, hf, hb⟩
  exact ⟨A, c, rfl, hf, hal.trans (hb.mono hal.size)⟩

theorem of_k2 (w : World) : Calls Tryd.prog 14 #[.slice (some ⟨w.heap.size, 0, none⟩) 10 10] (w.alloc (.cells #[.string ⟨#[97]⟩, .string ⟨#[50]⟩, .string ⟨#[68, 97, 116, 101]⟩, .string ⟨#[100]⟩, .string ⟨#[67, 111, 110, 116, 101, 110, 116, 45, 76, 101, 110, 103, 116, 104]⟩, .string ⟨#[57]⟩, .string ⟨#[67, 111, 110, 110, 101, 99, 116, 105, 111, 110]⟩, .string ⟨#[120]⟩, .string ⟨#[88]⟩, .string ⟨#[49]⟩] 9)) fun e w' => ∃ A c, e = .returned (.agg #[.int .i64 200, .string ⟨#[79, 75]⟩, .int .i64 1, .slice A 5 c, .string ⟨#[98]⟩, .int .i64 0, .int .i64 0, .slice none 0 0]) ∧ FL w' (.slice A 5 c) [([97], [50]), ([68, 97, 116, 101], [100]), ([67, 111, 110, 116, 101, 110, 116, 45, 76, 101, 110, 103, 116, 104], [57]), ([67, 111, 110, 110, 101, 99, 116, 105, 111, 110], [120]), ([88], [49])] ∧ Below w.heap.size w w' := by
  have hal : Below w.heap.size w (w.alloc (.cells #[.string ⟨#[97]⟩, .string ⟨#[50]⟩, .string ⟨#[68, 97, 116, 101]⟩, .string ⟨#[100]⟩, .string ⟨#[67, 111, 110, 116, 101, 110, 116, 45, 76, 101, 110, 103, 116, 104]⟩, .string ⟨#[57]⟩, .string ⟨#[67, 111, 110, 110, 101, 99, 116, 105, 111, 110]⟩, .string ⟨#[120]⟩, .string ⟨#[88]⟩, .string ⟨#[49]⟩] 9)) := (Below.refl _ _).alloc (Nat.le_refl _) _
  have h := ofQ_any _ [([97], [50]), ([68, 97, 116, 101], [100]), ([67, 111, 110, 116, 101, 110, 116, 45, 76, 101, 110, 103, 116, 104], [57]), ([67, 111, 110, 110, 101, 99, 116, 105, 111, 110], [120]), ([88], [49])] _ (SL_strs w (flatN [([97], [50]), ([68, 97, 116, 101], [100]), ([67, 111, 110, 116, 101, 110, 116, 45, 76, 101, 110, 103, 116, 104], [57]), ([67, 111, 110, 110, 101, 99, 116, 105, 111, 110], [120]), ([88], [49])])) (by decide)
  refine h.mono ?_
  rintro e w' ⟨A, c, rfl, hf, hb⟩
  exact ⟨A, c, rfl, hf, hal.trans (hb.mono hal.size)⟩

theorem of_k3 (w : World) : Calls Tryd.prog 14 #[.slice (some ⟨w.heap.size, 0, none⟩) 2 2] (w.alloc (.cells #[.string ⟨#[69, 84, 97, 103]⟩, .string ⟨#[97]⟩] 9)) fun e w' => ∃ A c, e = .returned (.agg #[.int .i64 200, .string ⟨#[79, 75]⟩, .int .i64 1, .slice A 1 c, .string ⟨#[98]⟩, .int .i64 0, .int .i64 0, .slice none 0 0]) ∧ FL w' (.slice A 1 c) [([69, 84, 97, 103], [97])] ∧ Below w.heap.size w w' := by
  have hal : Below w.heap.size w (w.alloc (.cells #[.string ⟨#[69, 84, 97, 103]⟩, .string ⟨#[97]⟩] 9)) := (Below.refl _ _).alloc (Nat.le_refl _) _
  have h := ofQ_any _ [([69, 84, 97, 103], [97])] _ (SL_strs w (flatN [([69, 84, 97, 103], [97])])) (by decide)
  refine h.mono ?_
  rintro e w' ⟨A, c, rfl, hf, hb⟩
  exact ⟨A, c, rfl, hf, hal.trans (hb.mono hal.size)⟩

theorem of_k5 (w : World) : Calls Tryd.prog 14 #[.slice (some ⟨w.heap.size, 0, none⟩) 2 2] (w.alloc (.cells #[.string ⟨#[76, 97, 115, 116, 45, 77, 111, 100, 105, 102, 105, 101, 100]⟩, .string ⟨#[120]⟩] 9)) fun e w' => ∃ A c, e = .returned (.agg #[.int .i64 200, .string ⟨#[79, 75]⟩, .int .i64 1, .slice A 1 c, .string ⟨#[98]⟩, .int .i64 0, .int .i64 0, .slice none 0 0]) ∧ FL w' (.slice A 1 c) [([76, 97, 115, 116, 45, 77, 111, 100, 105, 102, 105, 101, 100], [120])] ∧ Below w.heap.size w w' := by
  have hal : Below w.heap.size w (w.alloc (.cells #[.string ⟨#[76, 97, 115, 116, 45, 77, 111, 100, 105, 102, 105, 101, 100]⟩, .string ⟨#[120]⟩] 9)) := (Below.refl _ _).alloc (Nat.le_refl _) _
  have h := ofQ_any _ [([76, 97, 115, 116, 45, 77, 111, 100, 105, 102, 105, 101, 100], [120])] _ (SL_strs w (flatN [([76, 97, 115, 116, 45, 77, 111, 100, 105, 102, 105, 101, 100], [120])])) (by decide)
  refine h.mono ?_
  rintro e w' ⟨A, c, rfl, hf, hb⟩
  exact ⟨A, c, rfl, hf, hal.trans (hb.mono hal.size)⟩

theorem of_k4 (w : World) : Calls Tryd.prog 14 #[.slice none 0 0] w fun e w' => ∃ A c, e = .returned (.agg #[.int .i64 200, .string ⟨#[79, 75]⟩, .int .i64 1, .slice A 0 c, .string ⟨#[98]⟩, .int .i64 0, .int .i64 0, .slice none 0 0]) ∧ FL w' (.slice A 0 c) [] ∧ Below w.heap.size w w' := by
  have h := ofQ_any (.slice none 0 0) [] w (.inl ⟨rfl, _, _, rfl⟩) (by decide)
  refine h.mono ?_
  rintro e w' ⟨A, c, rfl, hf, hb⟩
  exact ⟨A, c, rfl, hf, hb⟩

theorem ask_k3 {w : World} {A : Option Addr} {c : Nat} (h1 : FL w (.slice A 1 c) [([69, 84, 97, 103], [97])]) (ht : Tabs w) :
    Calls Tryd.prog 15 #[.agg #[.int .i64 200, .string ⟨#[79, 75]⟩, .int .i64 1, .slice A 1 c, .string ⟨#[98]⟩, .int .i64 0, .int .i64 0, .slice none 0 0]] w fun e w' => ∃ A3 c3, e = .returned (.slice A3 0 c3) ∧ FL w' (.slice A3 0 c3) [] ∧ Below w.heap.size w w' := by
  have h := xask_any ⟨200, [79, 75], 1, [([69, 84, 97, 103], [97])], [98], 0, 0, []⟩ (.slice A 1 c) (.slice none 0 0) 1970 w h1 (FL_nil w) (QH.qf ⟨by decide, by decide⟩) ⟨0, 1, 0, 0, 0, by unfold IsT IsD clampI; decide⟩ ht
  have hm : askL 1970 [([69, 84, 97, 103], [97])] = [] := of_decide_eq_true (by kernel_rfl)
  simp only [hm] at h
  refine h.mono ?_
  rintro e w' ⟨v, rfl, hf, hb⟩
  obtain ⟨A3, c3, rfl⟩ := hf.form
  exact ⟨A3, c3, rfl, hf.fl, hb⟩

theorem ask_k4 {w : World} {A : Option Addr} {c : Nat} (h1 : FL w (.slice A 0 c) []) (ht : Tabs w) :
    Calls Tryd.prog 15 #[.agg #[.int .i64 200, .string ⟨#[79, 75]⟩, .int .i64 1, .slice A 0 c, .string ⟨#[98]⟩, .int .i64 0, .int .i64 0, .slice none 0 0]] w fun e w' => ∃ A3 c3, e = .returned (.slice A3 0 c3) ∧ FL w' (.slice A3 0 c3) [] ∧ Below w.heap.size w w' := by
  have h := xask_any ⟨200, [79, 75], 1, [], [98], 0, 0, []⟩ (.slice A 0 c) (.slice none 0 0) 1970 w h1 (FL_nil w) (QH.qf ⟨by decide, by decide⟩) ⟨0, 1, 0, 0, 0, by unfold IsT IsD clampI; decide⟩ ht
  have hm : askL 1970 [] = [] := of_decide_eq_true (by kernel_rfl)
  simp only [hm] at h
  refine h.mono ?_
  rintro e w' ⟨v, rfl, hf, hb⟩
  obtain ⟨A3, c3, rfl⟩ := hf.form
  exact ⟨A3, c3, rfl, hf.fl, hb⟩

theorem ask_k5 {w : World} {A : Option Addr} {c : Nat} (h1 : FL w (.slice A 1 c) [([76, 97, 115, 116, 45, 77, 111, 100, 105, 102, 105, 101, 100], [120])]) (ht : Tabs w) :
    Calls Tryd.prog 15 #[.agg #[.int .i64 200, .string ⟨#[79, 75]⟩, .int .i64 1, .slice A 1 c, .string ⟨#[98]⟩, .int .i64 0, .int .i64 0, .slice none 0 0]] w fun e w' => ∃ A3 c3, e = .returned (.slice A3 0 c3) ∧ FL w' (.slice A3 0 c3) [] ∧ Below w.heap.size w w' := by
  have h := xask_any ⟨200, [79, 75], 1, [([76, 97, 115, 116, 45, 77, 111, 100, 105, 102, 105, 101, 100], [120])], [98], 0, 0, []⟩ (.slice A 1 c) (.slice none 0 0) 1970 w h1 (FL_nil w) (QH.qf ⟨by decide, by decide⟩) ⟨0, 1, 0, 0, 0, by unfold IsT IsD clampI; decide⟩ ht
  have hm : askL 1970 [([76, 97, 115, 116, 45, 77, 111, 100, 105, 102, 105, 101, 100], [120])] = [] := of_decide_eq_true (by kernel_rfl)
  simp only [hm] at h
  refine h.mono ?_
  rintro e w' ⟨v, rfl, hf, hb⟩
  obtain ⟨A3, c3, rfl⟩ := hf.form
  exact ⟨A3, c3, rfl, hf.fl, hb⟩

theorem with_k12 {w : World} {A A2 : Option Addr} {c c2 : Nat} (h1 : FL w (.slice A 3 c) [([65], [49]), ([65, 103, 101], [53]), ([69, 84, 97, 103], [34, 97, 34])]) (h2 : FL w (.slice A2 5 c2) [([97], [50]), ([68, 97, 116, 101], [100]), ([67, 111, 110, 116, 101, 110, 116, 45, 76, 101, 110, 103, 116, 104], [57]), ([67, 111, 110, 110, 101, 99, 116, 105, 111, 110], [120]), ([88], [49])]) (ht : Spc w) :
    Calls Tryd.prog 7 #[.agg #[.int .i64 200, .string ⟨#[79, 75]⟩, .int .i64 1, .slice A 3 c, .string ⟨#[98]⟩, .int .i64 0, .int .i64 0, .slice none 0 0], .agg #[.int .i64 200, .string ⟨#[79, 75]⟩, .int .i64 1, .slice A2 5 c2, .string ⟨#[98]⟩], .int .i64 3, .int .i64 4] w fun e w' => ∃ A3 c3 A4 c4, e = .returned (.agg #[.int .i64 200, .string ⟨#[79, 75]⟩, .int .i64 1, .slice A3 3 c3, .string ⟨#[98]⟩, .int .i64 3, .int .i64 4, .slice A4 0 c4]) ∧ FL w' (.slice A3 3 c3) [([69, 84, 97, 103], [34, 97, 34]), ([97], [50]), ([68, 97, 116, 101], [100])] ∧ Below w.heap.size w w' := by
  have h := xwith_any (st := 200) (mi := 1) (re := ⟨#[79, 75]⟩) (bo := ⟨#[98]⟩) ⟨200, [79, 75], 1, [([65], [49]), ([65, 103, 101], [53]), ([69, 84, 97, 103], [34, 97, 34])], [98], 0, 0, []⟩ (.slice A 3 c) (.slice none 0 0) (.slice A2 5 c2) [([97], [50]), ([68, 97, 116, 101], [100]), ([67, 111, 110, 116, 101, 110, 116, 45, 76, 101, 110, 103, 116, 104], [57]), ([67, 111, 110, 110, 101, 99, 116, 105, 111, 110], [120]), ([88], [49])] 3 4 w h1 (FL_nil w) h2 (QH.qf ⟨by decide, by decide⟩) ⟨by decide, by decide⟩ ⟨by decide, by decide⟩ (by decide) (by decide) ht
  have hm : madeL [([65], [49]), ([65, 103, 101], [53]), ([69, 84, 97, 103], [34, 97, 34])] [([97], [50]), ([68, 97, 116, 101], [100]), ([67, 111, 110, 116, 101, 110, 116, 45, 76, 101, 110, 103, 116, 104], [57]), ([67, 111, 110, 110, 101, 99, 116, 105, 111, 110], [120]), ([88], [49])] = [([69, 84, 97, 103], [34, 97, 34]), ([97], [50]), ([68, 97, 116, 101], [100])] := of_decide_eq_true (by kernel_rfl)
  simp only [hm] at h
  refine h.mono ?_
  rintro e w' ⟨vf, vv, rfl, hf, hv, hb⟩
  obtain ⟨A3, c3, rfl⟩ := hf.form
  obtain ⟨A4, c4, rfl⟩ := hv.form
  exact ⟨A3, c3, A4, c4, rfl, hf.fl, hb⟩

set_option maxRecDepth 100000 in
set_option maxHeartbeats 1500000 in
theorem refreshKnown_law (w : World) (ht : TabsP w) : Calls Tryd.prog 4 #[] w fun e w' => e = .returned (.bool true) ∧ Below w.heap.size w w' := by
  have HT := Lib.hid ht
  have HW := Lib.hid (fun W (hb : Below w.heap.size w W) => worksQ_any W (ht.below hb))
  have HO1 := Lib.hid of_k1; have HO2 := Lib.hid of_k2; have HO3 := Lib.hid of_k3; have HO4 := Lib.hid of_k4; have HO5 := Lib.hid of_k5
  clear ht
  go_enter Tryd.func4, Tryd.ntmps4
  go_wp2_with fail
  refine (HO1.out w).mono ?_
  rintro e w1 ⟨A1, c1, rfl, hf, hb⟩
  have HB1 := Lib.hid hb
  have HE := Lib.hid hf; clear hf
  clear hb
  go_wp2_with fail
  refine (HO2.out w1).mono ?_
  rintro e w2 ⟨A2, c2, rfl, hf, hb⟩
  have HB2 := Lib.hid (HB1.out.trans (hb.mono HB1.out.size))
  have HE2 := Lib.hid (HE.out.bel hb); have HR := Lib.hid hf; clear hf HE
  clear hb
  have hfd : ∀ W : World, (Instr.field 26 (.agg #[.int .i64 200, .string ⟨#[79, 75]⟩, .int .i64 1, .slice A2 5 c2, .string ⟨#[98]⟩, .int .i64 0, .int .i64 0, .slice none 0 0]) 0).run Tryd.prog W = .ok (.agg #[.int .i64 200, .string ⟨#[79, 75]⟩, .int .i64 1, .slice A2 5 c2, .string ⟨#[98]⟩]) W := fun W => by kernel_rfl
  go_wp2_with fail
  refine (with_k12 HE2.out HR.out (HT.out.2.below HB2.out)).mono ?_
  rintro e w3 ⟨A6, c6, A7, c7, rfl, hf, hb⟩
  have HB3 := Lib.hid (HB2.out.trans (hb.mono HB2.out.size))
  have HN := Lib.hid hf; clear hf HE2 HR hfd
  clear hb
  have hal : Below w3.heap.size w3 (w3.alloc (.cells #[.int .i64 200, .string ⟨#[79, 75]⟩, .int .i64 1, .slice A6 3 c6, .string ⟨#[98]⟩, .int .i64 3, .int .i64 4, .slice A7 0 c7] 26)) := (Below.refl _ _).alloc (Nat.le_refl _) _
  have HX4 := Lib.hid (bk.new w3 #[.int .i64 200, .string ⟨#[79, 75]⟩, .int .i64 1, .slice A6 3 c6, .string ⟨#[98]⟩, .int .i64 3, .int .i64 4, .slice A7 0 c7] 26)
  have HB4 := Lib.hid (HB3.out.trans (hal.mono HB3.out.size)); have HN4 := Lib.hid (HN.out.bel hal)
  clear hal HN
  go_wp2_with fail
  generalize w3.alloc (.cells #[.int .i64 200, .string ⟨#[79, 75]⟩, .int .i64 1, .slice A6 3 c6, .string ⟨#[98]⟩, .int .i64 3, .int .i64 4, .slice A7 0 c7] 26) = w4 at *
  refine (HW.out _ HB4.out).mono ?_
  rintro e w5 ⟨rfl, hb⟩
  have HB5 := Lib.hid (HB4.out.trans (hb.mono HB4.out.size)); have HX5 := Lib.hid (HX4.out.below hb); have HN5 := Lib.hid (HN4.out.bel hb)
  clear hb HX4 HN4
  go_wp2_with fail
  refine (HO3.out w5).mono ?_
  rintro e w6 ⟨A8, c8, rfl, hf, hb⟩
  have HB6 := Lib.hid (HB5.out.trans (hb.mono HB5.out.size)); have HX6 := Lib.hid (HX5.out.below hb); have HN6 := Lib.hid (HN5.out.bel hb)
  have HF := Lib.hid hf; clear hf
  clear hb HX5 HN5
  go_wp2_with fail
  refine (ask_k3 HF.out (HT.out.2.below HB6.out)).mono ?_
  rintro e w7 ⟨A9, c9, rfl, -, hb⟩
  have HB7 := Lib.hid (HB6.out.trans (hb.mono HB6.out.size)); have HX7 := Lib.hid (HX6.out.below hb); have HN7 := Lib.hid (HN6.out.bel hb)
  clear HF
  clear hb HX6 HN6
  go_wp2_with fail
  refine (HO4.out w7).mono ?_
  rintro e w8 ⟨B1, l1, rfl, hf, hb⟩
  have HB8 := Lib.hid (HB7.out.trans (hb.mono HB7.out.size)); have HX8 := Lib.hid (HX7.out.below hb); have HN8 := Lib.hid (HN7.out.bel hb)
  have HF := Lib.hid hf; clear hf
  clear hb HX7 HN7
  go_wp2_with fail
  refine (ask_k4 HF.out (HT.out.2.below HB8.out)).mono ?_
  rintro e w9 ⟨B2, l2, rfl, -, hb⟩
  have HB9 := Lib.hid (HB8.out.trans (hb.mono HB8.out.size)); have HX9 := Lib.hid (HX8.out.below hb); have HN9 := Lib.hid (HN8.out.bel hb)
  clear HF
  clear hb HX8 HN8
  go_wp2_with fail
  refine (HO5.out w9).mono ?_
  rintro e w10 ⟨B3, l3, rfl, hf, hb⟩
  have HB10 := Lib.hid (HB9.out.trans (hb.mono HB9.out.size)); have HX10 := Lib.hid (HX9.out.below hb); have HN10 := Lib.hid (HN9.out.bel hb)
  have HF := Lib.hid hf; clear hf
  clear hb HX9 HN9
  go_wp2_with fail
  refine (ask_k5 HF.out (HT.out.2.below HB10.out)).mono ?_
  rintro e w11 ⟨B4, l4, rfl, -, hb⟩
  have HB11 := Lib.hid (HB10.out.trans (hb.mono HB10.out.size)); have HX11 := Lib.hid (HX10.out.below hb); have HN11 := Lib.hid (HN10.out.bel hb)
  clear HF
  clear hb HX10 HN10
  have n3 := HX11.out.cell 3 (.slice A6 3 c6) rfl
  go_wp2_with fail
  refine (putLQ HN11.out (QH.qf ⟨by decide, by decide⟩) ⟨#[69, 84, 97, 103, 58, 32, 34, 97, 34, 13, 10, 97, 58, 32, 50, 13, 10, 68, 97, 116, 101, 58, 32, 100, 13, 10]⟩ (by kernel_rfl)).mono ?_
  rintro e w12 ⟨rfl, hb⟩
  have HB12 := Lib.hid (HB11.out.trans (hb.mono HB11.out.size)); have HX12 := Lib.hid (HX11.out.below hb); have HN12 := Lib.hid (HN11.out.bel hb)
  clear n3
  clear hb HX11 HN11
  have n0 := HX12.out.cell 0 (.int .i64 200) rfl
  have n4 := HX12.out.cell 4 (.string ⟨#[98]⟩) rfl
  have n1 := HX12.out.cell 1 (.string ⟨#[79, 75]⟩) rfl
  go_wp2_with fail
  refine (HW.out _ HB12.out).mono ?_
  rintro e w13 ⟨rfl, hb⟩
  have HB13 := Lib.hid (HB12.out.trans (hb.mono HB12.out.size)); have HX13 := Lib.hid (HX12.out.below hb); have HN13 := Lib.hid (HN12.out.bel hb)
  clear n0 n1 n4
  clear hb HX12 HN12
  go_wp2_with fail
  go_ret
  exact ⟨rfl, HB13.out⟩
end Go.Proofs.YtdaiielhohdgiaaDoor
