/- The statements' small sentences: is, awake; FreshKnown. -/
import Derived.Test.YthjgedafcihheaaGreatDoorKFreF
namespace Go.Proofs.YthjgedafcihheaaGreatDoor
open Go.RowKit

theorem ny110 : ∃ m d h i s, IsT (clampI 110) 1970 m d h i s := ⟨0, 1, 0, 1, 50, by unfold IsT IsD clampI; decide⟩
theorem ny0 : ∃ m d h i s, IsT (clampI (-9223372036854775808)) 1970 m d h i s := ⟨0, 1, 0, 0, 0, by unfold IsT IsD clampI; decide⟩
theorem en110 {w W : World} {v : Value} {l : List Fld} (hm : MaxD w) (ht : Tabs w) (hf : Fe l) (hv : FL W v l) (hb : Below w.heap.size w W) : EnW W v l 100 110 1970 :=
  ⟨hv, hf, hm.bel hb, ht.below hb, ny110, by decide, by decide, by decide, by decide⟩
set_option maxRecDepth 100000 in
set_option maxHeartbeats 2000000 in
theorem is_any (life age : Int) (v : Value) (l : List Fld) (w : World) (h : SL w v (flatN l)) (hf : Fe l) (hl : l.length ≤ 64) (hm : MaxD w) (ht : Tabs w) (hL : lifeI 1970 l 110 [100] = life) (hA : ageI 1970 l 100 110 130 = age) :
    Calls Tryz.prog 18 #[.int .i64 life, .int .i64 age, v] w fun e w' => e = .returned (.bool true) ∧ Below w.heap.size w w' := by
  have hen := fun W A c (hv : FL W (.slice A l.length c) l) (hb : Below w.heap.size w W) => en110 hm ht hf hv hb
  have hli := fun W A c (h : EnW W (.slice A l.length c) l 100 110 1970) => life_any (st := 0) (mi := 0) (re := ⟨#[]⟩) (bo := ⟨#[]⟩) (vA := none) (vn := 0) (vc := 0) [100] W h
  have hag := fun W A c (h : EnW W (.slice A l.length c) l 100 110 1970) => age_any (st := 0) (mi := 0) (re := ⟨#[]⟩) (bo := ⟨#[]⟩) (vA := none) (vn := 0) (vc := 0) 130 W h (by decide)
  have hfr := fun W A c (h : EnW W (.slice A l.length c) l 100 110 1970) => fresh_any (st := 0) (mi := 0) (re := ⟨#[]⟩) (bo := ⟨#[]⟩) (vA := none) (vn := 0) (vc := 0) 130 [100] W h (by decide)
  have hen2 := fun W => entry_any v l W
  rw [hL] at hli hfr
  rw [hA] at hag hfr
  have b1 : (life == life) = true := beq_self_eq_true _
  have b2 : (age == age) = true := beq_self_eq_true _
  have HEN := Lib.hid hen; have HLI := Lib.hid hli; have HAG := Lib.hid hag; have HFR := Lib.hid hfr
  have HE2 := Lib.hid (hen2 w h hl)
  clear hen hli hag hfr hen2 hL hA h hf hl hm ht
  go_enter Tryz.func18, Tryz.ntmps18
  go_wp2_with fail
  refine HE2.out.mono ?_
  rintro e w1 ⟨A, c, rfl, hfl, hb⟩
  have hal : Below w1.heap.size w1 (w1.alloc (.cells #[.int .i64 0, .string ⟨#[]⟩, .int .i64 0, .slice A l.length c, .string ⟨#[]⟩, .int .i64 100, .int .i64 110, .slice none 0 0] 26)) := (Below.refl _ _).alloc (Nat.le_refl _) _
  have HD2 := Lib.hid (dbk.new w1 #[.int .i64 0, .string ⟨#[]⟩, .int .i64 0, .slice A l.length c, .string ⟨#[]⟩, .int .i64 100, .int .i64 110, .slice none 0 0] 26)
  have HF2 := Lib.hid (hfl.bel hal); have HB2 := Lib.hid (hb.trans (hal.mono hb.size))
  clear hb hal hfl HE2
  go_wp2_with fail
  generalize hx : w1.alloc (.cells #[.int .i64 0, .string ⟨#[]⟩, .int .i64 0, .slice A l.length c, .string ⟨#[]⟩, .int .i64 100, .int .i64 110, .slice none 0 0] 26) = x2 at *
  clear hx
  refine (HLI.out _ _ _ (HEN.out _ _ _ HF2.out HB2.out)).mono ?_
  rintro e w3 ⟨rfl, hb⟩
  have HB3 := Lib.hid (HB2.out.trans (hb.mono HB2.out.size)); have HD3 := Lib.hid (HD2.out.below hb); have HF3 := Lib.hid (HF2.out.bel hb)
  clear hb HB2 HD2 HF2
  obtain ⟨k0, k1, k2, k3, k4, k5, k6, k7⟩ := HD3.out.eight
  go_wp2_with fail
  refine (HAG.out _ _ _ (HEN.out _ _ _ HF3.out HB3.out)).mono ?_
  rintro e w4 ⟨rfl, hb⟩
  have HB4 := Lib.hid (HB3.out.trans (hb.mono HB3.out.size)); have HD4 := Lib.hid (HD3.out.below hb); have HF4 := Lib.hid (HF3.out.bel hb)
  clear hb HB3 HD3 HF3 k0 k1 k2 k3 k4 k5 k6 k7
  obtain ⟨k0, k1, k2, k3, k4, k5, k6, k7⟩ := HD4.out.eight
  go_wp2_with fail
  refine (HFR.out _ _ _ (HEN.out _ _ _ HF4.out HB4.out)).mono ?_
  by_cases hlt : age < life
  · rw [decide_eq_true hlt]
    rintro e w5 ⟨rfl, hb⟩
    have HB5 := Lib.hid (HB4.out.trans (hb.mono HB4.out.size))
    clear hb HB4 k0 k1 k2 k3 k4 k5 k6 k7
    go_wp2_with fail
    go_ret
    exact ⟨rfl, HB5.out⟩
  · rw [decide_eq_false hlt]
    rintro e w5 ⟨rfl, hb⟩
    have HB5 := Lib.hid (HB4.out.trans (hb.mono HB4.out.size))
    clear hb HB4 k0 k1 k2 k3 k4 k5 k6 k7
    go_wp2_with fail
    go_ret
    exact ⟨ret_bool (by simp [hlt]), HB5.out⟩
theorem SL_strs (w : World) (L : List (List UInt8)) : SL (w.alloc (.cells (strs L) 9)) (.slice (some ⟨w.heap.size, 0, none⟩) L.length L.length) L := by
  refine .inr ⟨w.heap.size, 0, L.length, rfl, by simp, fun j hj => ?_⟩
  rw [Nat.zero_add]
  exact strs_cell w L j hj
theorem is_lit (life age : Int) (l : List Fld) (w : World) (hm : MaxD w) (ht : Tabs w) (hf : (decide (l.length ≤ 60) && l.all fun f => decide (f.1.length ≤ 3000) && decide (f.2.length ≤ 3000)) = true) (hL : lifeI 1970 l 110 [100] = life) (hA : ageI 1970 l 100 110 130 = age) :
    Calls Tryz.prog 18 #[.int .i64 life, .int .i64 age, .slice (some ⟨w.heap.size, 0, none⟩) (flatN l).length (flatN l).length] (w.alloc (.cells (strs (flatN l)) 9)) fun e w' => e = .returned (.bool true) ∧ Below w.heap.size w w' := by
  have hb : Below w.heap.size w (w.alloc (.cells (strs (flatN l)) 9)) := (Below.refl _ _).alloc (Nat.le_refl _) _
  simp only [Bool.and_eq_true, decide_eq_true_eq, List.all_eq_true] at hf
  refine (is_any life age _ l _ (SL_strs w _) ⟨by omega, hf.2⟩ (by omega) (hm.bel hb) (ht.below hb) hL hA).mono ?_
  rintro e w' ⟨he, hb2⟩
  exact ⟨he, hb.trans (hb2.mono hb.size)⟩
set_option maxRecDepth 100000 in
theorem kn1 (w : World) (hm : MaxD w) (ht : Tabs w) : Calls Tryz.prog 18 #[.int .i64 30, .int .i64 30, .slice (some ⟨w.heap.size, 0, none⟩) 2 2] (w.alloc (.cells #[.string ⟨#[99, 97, 99, 104, 101, 45, 99, 111, 110, 116, 114, 111, 108]⟩, .string ⟨#[109, 97, 120, 45, 97, 103, 101, 61, 51, 48]⟩] 9)) fun e w' => e = .returned (.bool true) ∧ Below w.heap.size w w' :=
  is_lit 30 30 [([99, 97, 99, 104, 101, 45, 99, 111, 110, 116, 114, 111, 108], [109, 97, 120, 45, 97, 103, 101, 61, 51, 48])] w hm ht (by decide +kernel) (by kernel_rfl) (by kernel_rfl)
set_option maxRecDepth 100000 in
theorem kn2 (w : World) (hm : MaxD w) (ht : Tabs w) : Calls Tryz.prog 18 #[.int .i64 31, .int .i64 30, .slice (some ⟨w.heap.size, 0, none⟩) 2 2] (w.alloc (.cells #[.string ⟨#[67, 97, 99, 104, 101, 45, 67, 111, 110, 116, 114, 111, 108]⟩, .string ⟨#[109, 97, 120, 45, 97, 103, 101, 61, 51, 48, 44, 32, 115, 45, 109, 97, 120, 97, 103, 101, 61, 51, 49]⟩] 9)) fun e w' => e = .returned (.bool true) ∧ Below w.heap.size w w' :=
  is_lit 31 30 [([67, 97, 99, 104, 101, 45, 67, 111, 110, 116, 114, 111, 108], [109, 97, 120, 45, 97, 103, 101, 61, 51, 48, 44, 32, 115, 45, 109, 97, 120, 97, 103, 101, 61, 51, 49])] w hm ht (by decide +kernel) (by kernel_rfl) (by kernel_rfl)
set_option maxRecDepth 100000 in
theorem kn3 (w : World) (hm : MaxD w) (ht : Tabs w) : Calls Tryz.prog 18 #[.int .i64 60, .int .i64 70, .slice (some ⟨w.heap.size, 0, none⟩) 6 6] (w.alloc (.cells #[.string ⟨#[97, 103, 101]⟩, .string ⟨#[53]⟩, .string ⟨#[101, 120, 112, 105, 114, 101, 115]⟩, .string ⟨#[84, 104, 117, 44, 32, 48, 49, 32, 74, 97, 110, 32, 49, 57, 55, 48, 32, 48, 48, 58, 48, 50, 58, 48, 48, 32, 71, 77, 84]⟩, .string ⟨#[100, 97, 116, 101]⟩, .string ⟨#[84, 104, 117, 44, 32, 48, 49, 32, 74, 97, 110, 32, 49, 57, 55, 48, 32, 48, 48, 58, 48, 49, 58, 48, 48, 32, 71, 77, 84]⟩] 9)) fun e w' => e = .returned (.bool true) ∧ Below w.heap.size w w' :=
  is_lit 60 70 [([97, 103, 101], [53]), ([101, 120, 112, 105, 114, 101, 115], [84, 104, 117, 44, 32, 48, 49, 32, 74, 97, 110, 32, 49, 57, 55, 48, 32, 48, 48, 58, 48, 50, 58, 48, 48, 32, 71, 77, 84]), ([100, 97, 116, 101], [84, 104, 117, 44, 32, 48, 49, 32, 74, 97, 110, 32, 49, 57, 55, 48, 32, 48, 48, 58, 48, 49, 58, 48, 48, 32, 71, 77, 84])] w hm ht (by decide +kernel) (by kernel_rfl) (by kernel_rfl)
set_option maxRecDepth 100000 in
theorem kn4 (w : World) (hm : MaxD w) (ht : Tabs w) : Calls Tryz.prog 18 #[.int .i64 0, .int .i64 30, .slice (some ⟨w.heap.size, 0, none⟩) 2 2] (w.alloc (.cells #[.string ⟨#[99, 97, 99, 104, 101, 45, 99, 111, 110, 116, 114, 111, 108]⟩, .string ⟨#[109, 97, 120, 45, 97, 103, 101, 61, 51, 48, 44, 32, 110, 111, 45, 99, 97, 99, 104, 101]⟩] 9)) fun e w' => e = .returned (.bool true) ∧ Below w.heap.size w w' :=
  is_lit 0 30 [([99, 97, 99, 104, 101, 45, 99, 111, 110, 116, 114, 111, 108], [109, 97, 120, 45, 97, 103, 101, 61, 51, 48, 44, 32, 110, 111, 45, 99, 97, 99, 104, 101])] w hm ht (by decide +kernel) (by kernel_rfl) (by kernel_rfl)
set_option maxRecDepth 100000 in
theorem kn5 (w : World) (hm : MaxD w) (ht : Tabs w) : Calls Tryz.prog 18 #[.int .i64 40, .int .i64 30, .slice (some ⟨w.heap.size, 0, none⟩) 4 4] (w.alloc (.cells #[.string ⟨#[99, 97, 99, 104, 101, 45, 99, 111, 110, 116, 114, 111, 108]⟩, .string ⟨#[110, 111, 45, 99, 97, 99, 104, 101]⟩, .string ⟨#[115, 117, 114, 114, 111, 103, 97, 116, 101, 45, 99, 111, 110, 116, 114, 111, 108]⟩, .string ⟨#[109, 97, 120, 45, 97, 103, 101, 61, 52, 48, 43, 57]⟩] 9)) fun e w' => e = .returned (.bool true) ∧ Below w.heap.size w w' :=
  is_lit 40 30 [([99, 97, 99, 104, 101, 45, 99, 111, 110, 116, 114, 111, 108], [110, 111, 45, 99, 97, 99, 104, 101]), ([115, 117, 114, 114, 111, 103, 97, 116, 101, 45, 99, 111, 110, 116, 114, 111, 108], [109, 97, 120, 45, 97, 103, 101, 61, 52, 48, 43, 57])] w hm ht (by decide +kernel) (by kernel_rfl) (by kernel_rfl)
set_option maxRecDepth 100000 in
theorem kn6 (w : World) (hm : MaxD w) (ht : Tabs w) : Calls Tryz.prog 18 #[.int .i64 0, .int .i64 30, .slice (some ⟨w.heap.size, 0, none⟩) 2 2] (w.alloc (.cells #[.string ⟨#[99, 97, 99, 104, 101, 45, 99, 111, 110, 116, 114, 111, 108]⟩, .string ⟨#[109, 97, 120, 45, 97, 103, 101, 61, 120]⟩] 9)) fun e w' => e = .returned (.bool true) ∧ Below w.heap.size w w' :=
  is_lit 0 30 [([99, 97, 99, 104, 101, 45, 99, 111, 110, 116, 114, 111, 108], [109, 97, 120, 45, 97, 103, 101, 61, 120])] w hm ht (by decide +kernel) (by kernel_rfl) (by kernel_rfl)
set_option maxRecDepth 100000 in
theorem kn7 (w : World) (hm : MaxD w) (ht : Tabs w) : Calls Tryz.prog 18 #[.int .i64 0, .int .i64 30, .slice (some ⟨w.heap.size, 0, none⟩) 2 2] (w.alloc (.cells #[.string ⟨#[101, 120, 112, 105, 114, 101, 115]⟩, .string ⟨#[48]⟩] 9)) fun e w' => e = .returned (.bool true) ∧ Below w.heap.size w w' :=
  is_lit 0 30 [([101, 120, 112, 105, 114, 101, 115], [48])] w hm ht (by decide +kernel) (by kernel_rfl) (by kernel_rfl)
set_option maxRecDepth 100000 in
theorem kn8 (w : World) (hm : MaxD w) (ht : Tabs w) : Calls Tryz.prog 18 #[.int .i64 0, .int .i64 30, .slice (some ⟨w.heap.size, 0, none⟩) 2 2] (w.alloc (.cells #[.string ⟨#[99, 97, 99, 104, 101, 45, 99, 111, 110, 116, 114, 111, 108]⟩, .string ⟨#[115, 45, 109, 97, 120, 97, 103, 101, 44, 32, 109, 97, 120, 45, 97, 103, 101, 61, 57]⟩] 9)) fun e w' => e = .returned (.bool true) ∧ Below w.heap.size w w' :=
  is_lit 0 30 [([99, 97, 99, 104, 101, 45, 99, 111, 110, 116, 114, 111, 108], [115, 45, 109, 97, 120, 97, 103, 101, 44, 32, 109, 97, 120, 45, 97, 103, 101, 61, 57])] w hm ht (by decide +kernel) (by kernel_rfl) (by kernel_rfl)
set_option maxRecDepth 100000 in
theorem kn9 (w : World) (hm : MaxD w) (ht : Tabs w) : Calls Tryz.prog 18 #[.int .i64 10, .int .i64 30, .slice (some ⟨w.heap.size, 0, none⟩) 2 2] (w.alloc (.cells #[.string ⟨#[101, 120, 112, 105, 114, 101, 115]⟩, .string ⟨#[84, 104, 117, 44, 32, 48, 49, 32, 74, 97, 110, 32, 49, 57, 55, 48, 32, 48, 48, 58, 48, 50, 58, 48, 48, 32, 71, 77, 84]⟩] 9)) fun e w' => e = .returned (.bool true) ∧ Below w.heap.size w w' :=
  is_lit 10 30 [([101, 120, 112, 105, 114, 101, 115], [84, 104, 117, 44, 32, 48, 49, 32, 74, 97, 110, 32, 49, 57, 55, 48, 32, 48, 48, 58, 48, 50, 58, 48, 48, 32, 71, 77, 84])] w hm ht (by decide +kernel) (by kernel_rfl) (by kernel_rfl)
set_option maxRecDepth 100000 in
theorem kn10 (w : World) (hm : MaxD w) (ht : Tabs w) : Calls Tryz.prog 18 #[.int .i64 0, .int .i64 30, .slice (some ⟨w.heap.size, 0, none⟩) 4 4] (w.alloc (.cells #[.string ⟨#[101, 120, 112, 105, 114, 101, 115]⟩, .string ⟨#[84, 104, 117, 44, 32, 48, 49, 32, 74, 97, 110, 32, 49, 57, 55, 48, 32, 48, 48, 58, 48, 50, 58, 48, 48, 32, 71, 77, 84]⟩, .string ⟨#[101, 120, 112, 105, 114, 101, 115]⟩, .string ⟨#[84, 104, 117, 44, 32, 48, 49, 32, 74, 97, 110, 32, 49, 57, 55, 48, 32, 48, 48, 58, 48, 50, 58, 48, 48, 32, 71, 77, 84]⟩] 9)) fun e w' => e = .returned (.bool true) ∧ Below w.heap.size w w' :=
  is_lit 0 30 [([101, 120, 112, 105, 114, 101, 115], [84, 104, 117, 44, 32, 48, 49, 32, 74, 97, 110, 32, 49, 57, 55, 48, 32, 48, 48, 58, 48, 50, 58, 48, 48, 32, 71, 77, 84]), ([101, 120, 112, 105, 114, 101, 115], [84, 104, 117, 44, 32, 48, 49, 32, 74, 97, 110, 32, 49, 57, 55, 48, 32, 48, 48, 58, 48, 50, 58, 48, 48, 32, 71, 77, 84])] w hm ht (by decide +kernel) (by kernel_rfl) (by kernel_rfl)
set_option maxRecDepth 100000 in
theorem kn11 (w : World) (hm : MaxD w) (ht : Tabs w) : Calls Tryz.prog 18 #[.int .i64 9, .int .i64 30, .slice (some ⟨w.heap.size, 0, none⟩) 2 2] (w.alloc (.cells #[.string ⟨#[99, 97, 99, 104, 101, 45, 99, 111, 110, 116, 114, 111, 108]⟩, .string ⟨#[109, 97, 120, 45, 97, 103, 101, 61, 57, 44, 32, 109, 97, 120, 45, 97, 103, 101, 61, 57, 57]⟩] 9)) fun e w' => e = .returned (.bool true) ∧ Below w.heap.size w w' :=
  is_lit 9 30 [([99, 97, 99, 104, 101, 45, 99, 111, 110, 116, 114, 111, 108], [109, 97, 120, 45, 97, 103, 101, 61, 57, 44, 32, 109, 97, 120, 45, 97, 103, 101, 61, 57, 57])] w hm ht (by decide +kernel) (by kernel_rfl) (by kernel_rfl)
set_option maxRecDepth 100000 in
theorem kn12 (w : World) (hm : MaxD w) (ht : Tabs w) : Calls Tryz.prog 18 #[.int .i64 99, .int .i64 37, .slice (some ⟨w.heap.size, 0, none⟩) 4 4] (w.alloc (.cells #[.string ⟨#[99, 97, 99, 104, 101, 45, 99, 111, 110, 116, 114, 111, 108]⟩, .string ⟨#[109, 97, 120, 45, 97, 103, 101, 61, 34, 57, 57, 34]⟩, .string ⟨#[97, 103, 101]⟩, .string ⟨#[55]⟩] 9)) fun e w' => e = .returned (.bool true) ∧ Below w.heap.size w w' :=
  is_lit 99 37 [([99, 97, 99, 104, 101, 45, 99, 111, 110, 116, 114, 111, 108], [109, 97, 120, 45, 97, 103, 101, 61, 34, 57, 57, 34]), ([97, 103, 101], [55])] w hm ht (by decide +kernel) (by kernel_rfl) (by kernel_rfl)
set_option maxRecDepth 100000 in
theorem kn13 (w : World) (hm : MaxD w) (ht : Tabs w) : Calls Tryz.prog 18 #[.int .i64 9, .int .i64 30, .slice (some ⟨w.heap.size, 0, none⟩) 4 4] (w.alloc (.cells #[.string ⟨#[99, 97, 99, 104, 101, 45, 99, 111, 110, 116, 114, 111, 108]⟩, .string ⟨#[109, 97, 120, 45, 97, 103, 101, 61, 57]⟩, .string ⟨#[97, 103, 101]⟩, .string ⟨#[45, 55]⟩] 9)) fun e w' => e = .returned (.bool true) ∧ Below w.heap.size w w' :=
  is_lit 9 30 [([99, 97, 99, 104, 101, 45, 99, 111, 110, 116, 114, 111, 108], [109, 97, 120, 45, 97, 103, 101, 61, 57]), ([97, 103, 101], [45, 55])] w hm ht (by decide +kernel) (by kernel_rfl) (by kernel_rfl)
set_option maxRecDepth 100000 in
theorem kn14 (w : World) (hm : MaxD w) (ht : Tabs w) : Calls Tryz.prog 18 #[.int .i64 9, .int .i64 30, .slice (some ⟨w.heap.size, 0, none⟩) 4 4] (w.alloc (.cells #[.string ⟨#[99, 97, 99, 104, 101, 45, 99, 111, 110, 116, 114, 111, 108]⟩, .string ⟨#[109, 97, 120, 45, 97, 103, 101, 61, 57]⟩, .string ⟨#[100, 97, 116, 101]⟩, .string ⟨#[84, 104, 117, 44, 32, 48, 49, 32, 74, 97, 110, 32, 49, 57, 55, 48, 32, 48, 48, 58, 48, 50, 58, 48, 48, 32, 71, 77, 84]⟩] 9)) fun e w' => e = .returned (.bool true) ∧ Below w.heap.size w w' :=
  is_lit 9 30 [([99, 97, 99, 104, 101, 45, 99, 111, 110, 116, 114, 111, 108], [109, 97, 120, 45, 97, 103, 101, 61, 57]), ([100, 97, 116, 101], [84, 104, 117, 44, 32, 48, 49, 32, 74, 97, 110, 32, 49, 57, 55, 48, 32, 48, 48, 58, 48, 50, 58, 48, 48, 32, 71, 77, 84])] w hm ht (by decide +kernel) (by kernel_rfl) (by kernel_rfl)
set_option maxRecDepth 100000 in
theorem kn15 (w : World) (hm : MaxD w) (ht : Tabs w) : Calls Tryz.prog 18 #[.int .i64 2147483648, .int .i64 2147483648, .slice (some ⟨w.heap.size, 0, none⟩) 4 4] (w.alloc (.cells #[.string ⟨#[99, 97, 99, 104, 101, 45, 99, 111, 110, 116, 114, 111, 108]⟩, .string ⟨#[109, 97, 120, 45, 97, 103, 101, 61, 57, 57, 57, 57, 57, 57, 57, 57, 57, 57, 57, 57, 57, 57]⟩, .string ⟨#[97, 103, 101]⟩, .string ⟨#[57, 57, 57, 57, 57, 57, 57, 57, 57, 57, 57, 57, 57, 57]⟩] 9)) fun e w' => e = .returned (.bool true) ∧ Below w.heap.size w w' :=
  is_lit 2147483648 2147483648 [([99, 97, 99, 104, 101, 45, 99, 111, 110, 116, 114, 111, 108], [109, 97, 120, 45, 97, 103, 101, 61, 57, 57, 57, 57, 57, 57, 57, 57, 57, 57, 57, 57, 57, 57]), ([97, 103, 101], [57, 57, 57, 57, 57, 57, 57, 57, 57, 57, 57, 57, 57, 57])] w hm ht (by decide +kernel) (by kernel_rfl) (by kernel_rfl)
theorem kn_none (w : World) (hm : MaxD w) (ht : Tabs w) : Calls Tryz.prog 18 #[.int .i64 0, .int .i64 30, .slice none 0 0] w fun e w' => e = .returned (.bool true) ∧ Below w.heap.size w w' :=
  is_any 0 30 _ [] w (SL_nil w) ⟨by decide, by decide⟩ (by decide) hm ht (by kernel_rfl) (by kernel_rfl)
set_option maxRecDepth 100000 in
theorem awake_any (w : World) (hm : MaxD w) (ht : Tabs w) : Calls Tryz.prog 9 #[] w fun e w' => e = .returned (.bool true) ∧ Below w.heap.size w w' := by
  have HM := Lib.hid hm; have HT := Lib.hid ht
  clear hm ht
  have HB0 := Lib.hid (Below.refl w.heap.size w)
  go_enter Tryz.func9, Tryz.ntmps9
  go_wp2_with fail
  refine (kn1 _ (HM.out.bel HB0.out) (HT.out.below HB0.out)).mono ?_
  rintro e w1 ⟨rfl, hb⟩
  have HB1 := Lib.hid (HB0.out.trans (hb.mono HB0.out.size))
  clear hb HB0
  go_wp2_with fail
  refine (kn2 _ (HM.out.bel HB1.out) (HT.out.below HB1.out)).mono ?_
  rintro e w2 ⟨rfl, hb⟩
  have HB2 := Lib.hid (HB1.out.trans (hb.mono HB1.out.size))
  clear hb HB1
  go_wp2_with fail
  refine (kn3 _ (HM.out.bel HB2.out) (HT.out.below HB2.out)).mono ?_
  rintro e w3 ⟨rfl, hb⟩
  have HB3 := Lib.hid (HB2.out.trans (hb.mono HB2.out.size))
  clear hb HB2
  go_wp2_with fail
  go_ret
  exact ⟨rfl, HB3.out⟩
def e9 : List Fld := [(scN, [109, 97, 120, 45, 97, 103, 101, 61, 52, 48, 43, 57])]
theorem e9_fe : Fe e9 := ⟨by decide, by decide⟩
theorem turn_en {w W : World} (hm : MaxD w) (ht : Tabs w) (hb : Below w.heap.size w W) : EnW W (.slice none 0 0) [] 9223372036854775807 (-9223372036854775808) 1970 :=
  ⟨FL_nil _, ⟨by decide, by decide⟩, hm.bel hb, ht.below hb, ny0, by decide, by decide, by decide, by decide⟩
section
variable {A : Option Addr} {c : Nat} {w W : World}
theorem entry_e9 (w : World) : Calls Tryz.prog 19 #[.slice (some ⟨w.heap.size, 0, none⟩) 2 2] (w.alloc (.cells #[.string ⟨#[115, 117, 114, 114, 111, 103, 97, 116, 101, 45, 99, 111, 110, 116, 114, 111, 108]⟩, .string ⟨#[109, 97, 120, 45, 97, 103, 101, 61, 52, 48, 43, 57]⟩] 9)) fun e w' => ∃ A c, e = .returned (.agg #[.int .i64 0, .string ⟨#[]⟩, .int .i64 0, .slice A 1 c, .string ⟨#[]⟩, .int .i64 100, .int .i64 110, .slice none 0 0]) ∧ FL w' (.slice A 1 c) e9 ∧ Below w.heap.size w w' := by
  have hb : Below w.heap.size w (w.alloc (.cells (strs (flatN e9)) 9)) := (Below.refl _ _).alloc (Nat.le_refl _) _
  have h := entry_any _ e9 _ (SL_strs w (flatN e9)) (by decide)
  exact h.mono fun e w' ⟨A, c, he, hf, hb2⟩ => ⟨A, c, he, hf, hb.trans (hb2.mono hb.size)⟩
theorem ek1 (hm : MaxD w) (ht : Tabs w) (hb : Below w.heap.size w W) (hv : FL W (.slice A 1 c) e9) : Calls Tryz.prog 12 #[.agg #[.int .i64 0, .string ⟨#[]⟩, .int .i64 0, .slice A 1 c, .string ⟨#[]⟩, .int .i64 100, .int .i64 110, .slice none 0 0], .string ⟨#[100]⟩] W fun e w' => e = .returned (.int .i64 9) ∧ Below W.heap.size W w' := by
  have h := extra_any (st := 0) (mi := 0) (re := ⟨#[]⟩) (bo := ⟨#[]⟩) (vA := none) (vn := 0) (vc := 0) [100] W (en110 hm ht e9_fe hv hb)
  rw [show (ctlE e9 [100]).2.2.2.2.2 = 9 from by kernel_rfl] at h
  exact h
theorem ek0 (W : World) : Calls Tryz.prog 19 #[.slice none 0 0] W fun e w' => ∃ A c, e = .returned (.agg #[.int .i64 0, .string ⟨#[]⟩, .int .i64 0, .slice A 0 c, .string ⟨#[]⟩, .int .i64 100, .int .i64 110, .slice none 0 0]) ∧ Below W.heap.size W w' := by
  have h := entry_any (.slice none 0 0) [] W (SL_nil W) (by decide)
  exact h.mono fun e w' ⟨A, c, he, hf, hb2⟩ => ⟨A, c, he, hb2⟩
theorem ek2 (hm : MaxD w) (ht : Tabs w) (hb : Below w.heap.size w W) : Calls Tryz.prog 12 #[.agg #[.int .i64 0, .string ⟨#[]⟩, .int .i64 0, .slice A 0 c, .string ⟨#[]⟩, .int .i64 100, .int .i64 110, .slice none 0 0], .string ⟨#[100]⟩] W fun e w' => e = .returned (.int .i64 0) ∧ Below W.heap.size W w' := by
  have h := extra_any (st := 0) (mi := 0) (re := ⟨#[]⟩) (bo := ⟨#[]⟩) (vA := none) (vn := 0) (vc := 0) [100] W (en110 (v := .slice A 0 c) hm ht (l := []) ⟨by decide, by decide⟩ (.inl ⟨rfl, A, c, rfl⟩) hb)
  rw [show (ctlE [] [100]).2.2.2.2.2 = 0 from by kernel_rfl] at h
  exact h
theorem ek3 (hm : MaxD w) (ht : Tabs w) (hb : Below w.heap.size w W) (hv : FL W (.slice A 1 c) e9) : Calls Tryz.prog 16 #[.agg #[.int .i64 0, .string ⟨#[]⟩, .int .i64 0, .slice A 1 c, .string ⟨#[]⟩, .int .i64 100, .int .i64 110, .slice none 0 0], .int .i64 139, .string ⟨#[100]⟩] W fun e w' => e = .returned (.bool true) ∧ Below W.heap.size W w' := by
  have h := fresh_any (st := 0) (mi := 0) (re := ⟨#[]⟩) (bo := ⟨#[]⟩) (vA := none) (vn := 0) (vc := 0) 139 [100] W (en110 hm ht e9_fe hv hb) (by decide)
  rw [show decide (ageI 1970 e9 100 110 139 < lifeI 1970 e9 110 [100]) = true from by kernel_rfl] at h
  exact h
theorem ek4 (hm : MaxD w) (ht : Tabs w) (hb : Below w.heap.size w W) (hv : FL W (.slice A 1 c) e9) : Calls Tryz.prog 16 #[.agg #[.int .i64 0, .string ⟨#[]⟩, .int .i64 0, .slice A 1 c, .string ⟨#[]⟩, .int .i64 100, .int .i64 110, .slice none 0 0], .int .i64 140, .string ⟨#[100]⟩] W fun e w' => e = .returned (.bool false) ∧ Below W.heap.size W w' := by
  have h := fresh_any (st := 0) (mi := 0) (re := ⟨#[]⟩) (bo := ⟨#[]⟩) (vA := none) (vn := 0) (vc := 0) 140 [100] W (en110 hm ht e9_fe hv hb) (by decide)
  rw [show decide (ageI 1970 e9 100 110 140 < lifeI 1970 e9 110 [100]) = false from by kernel_rfl] at h
  exact h
theorem ek5 (hm : MaxD w) (ht : Tabs w) (hb : Below w.heap.size w W) (hv : FL W (.slice A 1 c) e9) : Calls Tryz.prog 14 #[.agg #[.int .i64 0, .string ⟨#[]⟩, .int .i64 0, .slice A 1 c, .string ⟨#[]⟩, .int .i64 100, .int .i64 110, .slice none 0 0], .int .i64 50] W fun e w' => e = .returned (.int .i64 10) ∧ Below W.heap.size W w' := by
  have h := age_any (st := 0) (mi := 0) (re := ⟨#[]⟩) (bo := ⟨#[]⟩) (vA := none) (vn := 0) (vc := 0) 50 W (en110 hm ht e9_fe hv hb) (by decide)
  rw [show ageI 1970 e9 100 110 50 = 10 from by kernel_rfl] at h
  exact h
theorem ek6 (hm : MaxD w) (ht : Tabs w) (hb : Below w.heap.size w W) : Calls Tryz.prog 14 #[.agg #[.int .i64 0, .string ⟨#[]⟩, .int .i64 0, .slice none 0 0, .string ⟨#[]⟩, .int .i64 9223372036854775807, .int .i64 (-9223372036854775808), .slice none 0 0], .int .i64 9223372036854775807] W fun e w' => e = .returned (.int .i64 2147483648) ∧ Below W.heap.size W w' := by
  have h := age_any (st := 0) (mi := 0) (re := ⟨#[]⟩) (bo := ⟨#[]⟩) (vA := none) (vn := 0) (vc := 0) 9223372036854775807 W (turn_en hm ht hb) (by decide)
  rw [show ageI 1970 [] 9223372036854775807 (-9223372036854775808) 9223372036854775807 = 2147483648 from by kernel_rfl] at h
  exact h
end
set_option maxRecDepth 100000 in
set_option maxHeartbeats 4000000 in
theorem freshKnown_any (w : World) (hm : MaxD w) (ht : Tabs w) : Calls Tryz.prog 5 #[] w fun e w' => e = .returned (.bool true) ∧ Below w.heap.size w w' := by
  have HM := Lib.hid hm; have HT := Lib.hid ht
  have HEK0 := Lib.hid ek0; have HEK1 := Lib.hid (fun A c W => (ek1 (A := A) (c := c) (w := w) (W := W) hm ht)); have HEK2 := Lib.hid (fun A c W => (ek2 (A := A) (c := c) (w := w) (W := W) hm ht))
  have HEK3 := Lib.hid (fun A c W => (ek3 (A := A) (c := c) (w := w) (W := W) hm ht)); have HEK4 := Lib.hid (fun A c W => (ek4 (A := A) (c := c) (w := w) (W := W) hm ht)); have HEK5 := Lib.hid (fun A c W => (ek5 (A := A) (c := c) (w := w) (W := W) hm ht)); have HEK6 := Lib.hid (fun W => (ek6 (w := w) (W := W) hm ht)); have HENT := Lib.hid entry_e9
  clear hm ht
  have HB0 := Lib.hid (Below.refl w.heap.size w)
  go_enter Tryz.func5, Tryz.ntmps5
  go_wp2_with fail
  refine (kn4 _ (HM.out.bel HB0.out) (HT.out.below HB0.out)).mono ?_
  rintro e w1 ⟨rfl, hb⟩
  have HB1 := Lib.hid (HB0.out.trans (hb.mono HB0.out.size))
  clear hb HB0
  go_wp2_with fail
  refine (kn5 _ (HM.out.bel HB1.out) (HT.out.below HB1.out)).mono ?_
  rintro e w2 ⟨rfl, hb⟩
  have HB2 := Lib.hid (HB1.out.trans (hb.mono HB1.out.size))
  clear hb HB1
  go_wp2_with fail
  refine (kn6 _ (HM.out.bel HB2.out) (HT.out.below HB2.out)).mono ?_
  rintro e w3 ⟨rfl, hb⟩
  have HB3 := Lib.hid (HB2.out.trans (hb.mono HB2.out.size))
  clear hb HB2
  go_wp2_with fail
  refine (kn7 _ (HM.out.bel HB3.out) (HT.out.below HB3.out)).mono ?_
  rintro e w4 ⟨rfl, hb⟩
  have HB4 := Lib.hid (HB3.out.trans (hb.mono HB3.out.size))
  clear hb HB3
  go_wp2_with fail
  refine (kn_none _ (HM.out.bel HB4.out) (HT.out.below HB4.out)).mono ?_
  rintro e w5 ⟨rfl, hb⟩
  have HB5 := Lib.hid (HB4.out.trans (hb.mono HB4.out.size))
  clear hb HB4
  go_wp2_with fail
  refine (kn8 _ (HM.out.bel HB5.out) (HT.out.below HB5.out)).mono ?_
  rintro e w6 ⟨rfl, hb⟩
  have HB6 := Lib.hid (HB5.out.trans (hb.mono HB5.out.size))
  clear hb HB5
  go_wp2_with fail
  refine (kn9 _ (HM.out.bel HB6.out) (HT.out.below HB6.out)).mono ?_
  rintro e w7 ⟨rfl, hb⟩
  have HB7 := Lib.hid (HB6.out.trans (hb.mono HB6.out.size))
  clear hb HB6
  go_wp2_with fail
  refine (kn10 _ (HM.out.bel HB7.out) (HT.out.below HB7.out)).mono ?_
  rintro e w8 ⟨rfl, hb⟩
  have HB8 := Lib.hid (HB7.out.trans (hb.mono HB7.out.size))
  clear hb HB7
  go_wp2_with fail
  refine (kn11 _ (HM.out.bel HB8.out) (HT.out.below HB8.out)).mono ?_
  rintro e w9 ⟨rfl, hb⟩
  have HB9 := Lib.hid (HB8.out.trans (hb.mono HB8.out.size))
  clear hb HB8
  go_wp2_with fail
  refine (kn12 _ (HM.out.bel HB9.out) (HT.out.below HB9.out)).mono ?_
  rintro e w10 ⟨rfl, hb⟩
  have HB10 := Lib.hid (HB9.out.trans (hb.mono HB9.out.size))
  clear hb HB9
  go_wp2_with fail
  refine (kn13 _ (HM.out.bel HB10.out) (HT.out.below HB10.out)).mono ?_
  rintro e w11 ⟨rfl, hb⟩
  have HB11 := Lib.hid (HB10.out.trans (hb.mono HB10.out.size))
  clear hb HB10
  go_wp2_with fail
  refine (kn14 _ (HM.out.bel HB11.out) (HT.out.below HB11.out)).mono ?_
  rintro e w12 ⟨rfl, hb⟩
  have HB12 := Lib.hid (HB11.out.trans (hb.mono HB11.out.size))
  clear hb HB11
  go_wp2_with fail
  refine (kn15 _ (HM.out.bel HB12.out) (HT.out.below HB12.out)).mono ?_
  rintro e w13 ⟨rfl, hb⟩
  have HB13 := Lib.hid (HB12.out.trans (hb.mono HB12.out.size))
  clear hb HB12
  go_wp2_with fail
  refine (HENT.out _).mono ?_
  rintro e w14 ⟨A, c, rfl, hfl, hb⟩
  have HB14 := Lib.hid (HB13.out.trans (hb.mono HB13.out.size))
  clear hb HB13
  have HF14 := Lib.hid hfl; clear hfl
  have hal : Below w14.heap.size w14 (w14.alloc (.cells #[.int .i64 0, .string ⟨#[]⟩, .int .i64 0, .slice A 1 c, .string ⟨#[]⟩, .int .i64 100, .int .i64 110, .slice none 0 0] 26)) := (Below.refl _ _).alloc (Nat.le_refl _) _
  have HB15 := Lib.hid (HB14.out.trans (hal.mono HB14.out.size))
  have HF15 := Lib.hid (HF14.out.bel hal)
  clear hal HB14 HF14
  have HD15 := Lib.hid (dbk.new w14 #[.int .i64 0, .string ⟨#[]⟩, .int .i64 0, .slice A 1 c, .string ⟨#[]⟩, .int .i64 100, .int .i64 110, .slice none 0 0] 26)
  have HLT15 := Lib.hid HD15.out.lt
  go_wp2_with fail
  have hal : Below (w14.alloc (.cells #[.int .i64 0, .string ⟨#[]⟩, .int .i64 0, .slice A 1 c, .string ⟨#[]⟩, .int .i64 100, .int .i64 110, .slice none 0 0] 26)).heap.size (w14.alloc (.cells #[.int .i64 0, .string ⟨#[]⟩, .int .i64 0, .slice A 1 c, .string ⟨#[]⟩, .int .i64 100, .int .i64 110, .slice none 0 0] 26)) ((w14.alloc (.cells #[.int .i64 0, .string ⟨#[]⟩, .int .i64 0, .slice A 1 c, .string ⟨#[]⟩, .int .i64 100, .int .i64 110, .slice none 0 0] 26)).alloc (.cells #[.int .i64 0, .string ⟨#[]⟩, .int .i64 0, .slice none 0 0, .string ⟨#[]⟩, .int .i64 9223372036854775807, .int .i64 (-9223372036854775808), .slice none 0 0] 26)) := (Below.refl _ _).alloc (Nat.le_refl _) _
  have hdt := dbk.new (w14.alloc (.cells #[.int .i64 0, .string ⟨#[]⟩, .int .i64 0, .slice A 1 c, .string ⟨#[]⟩, .int .i64 100, .int .i64 110, .slice none 0 0] 26)) #[.int .i64 0, .string ⟨#[]⟩, .int .i64 0, .slice none 0 0, .string ⟨#[]⟩, .int .i64 9223372036854775807, .int .i64 (-9223372036854775808), .slice none 0 0] 26
  rw [World.size_alloc] at hdt
  have HDT := Lib.hid hdt; clear hdt
  have HB16 := Lib.hid (HB15.out.trans (hal.mono HB15.out.size))
  have HF16 := Lib.hid (HF15.out.bel hal); have HD16 := Lib.hid (HD15.out.below hal); have HT_16 := HDT
  clear hal HB15 HF15 HD15 HDT HLT15
  generalize hcb : w14.heap.size = cb at *
  generalize hx : ((w14.alloc (.cells #[.int .i64 0, .string ⟨#[]⟩, .int .i64 0, .slice A 1 c, .string ⟨#[]⟩, .int .i64 100, .int .i64 110, .slice none 0 0] 26)).alloc (.cells #[.int .i64 0, .string ⟨#[]⟩, .int .i64 0, .slice none 0 0, .string ⟨#[]⟩, .int .i64 9223372036854775807, .int .i64 (-9223372036854775808), .slice none 0 0] 26)) = x1 at *
  clear hx hcb
  obtain ⟨k0, k1, k2, k3, k4, k5, k6, k7⟩ := HD16.out.eight
  go_wp2_with fail
  refine (HEK1.out _ _ _ HB16.out HF16.out).mono ?_
  rintro e w17 ⟨rfl, hb⟩
  clear k0 k1 k2 k3 k4 k5 k6 k7
  have HB17 := Lib.hid (HB16.out.trans (hb.mono HB16.out.size))
  have HF17 := Lib.hid (HF16.out.bel hb)
  have HD17 := Lib.hid (HD16.out.below hb)
  have HT_17 := Lib.hid (HT_16.out.below hb)
  clear hb HB16 HF16 HD16 HT_16
  go_wp2_with fail
  refine (HEK0.out _).mono ?_
  rintro e w18 ⟨A0, c0, rfl, hb⟩
  have HB18 := Lib.hid (HB17.out.trans (hb.mono HB17.out.size))
  have HF18 := Lib.hid (HF17.out.bel hb)
  have HD18 := Lib.hid (HD17.out.below hb)
  have HT_18 := Lib.hid (HT_17.out.below hb)
  clear hb HB17 HF17 HD17 HT_17
  go_wp2_with fail
  refine (HEK2.out _ _ _ HB18.out).mono ?_
  rintro e w19 ⟨rfl, hb⟩
  have HB19 := Lib.hid (HB18.out.trans (hb.mono HB18.out.size))
  have HF19 := Lib.hid (HF18.out.bel hb)
  have HD19 := Lib.hid (HD18.out.below hb)
  have HT_19 := Lib.hid (HT_18.out.below hb)
  clear hb HB18 HF18 HD18 HT_18
  obtain ⟨k0, k1, k2, k3, k4, k5, k6, k7⟩ := HD19.out.eight
  go_wp2_with fail
  refine (HEK3.out _ _ _ HB19.out HF19.out).mono ?_
  rintro e w20 ⟨rfl, hb⟩
  clear k0 k1 k2 k3 k4 k5 k6 k7
  have HB20 := Lib.hid (HB19.out.trans (hb.mono HB19.out.size))
  have HF20 := Lib.hid (HF19.out.bel hb)
  have HD20 := Lib.hid (HD19.out.below hb)
  have HT_20 := Lib.hid (HT_19.out.below hb)
  clear hb HB19 HF19 HD19 HT_19
  obtain ⟨k0, k1, k2, k3, k4, k5, k6, k7⟩ := HD20.out.eight
  go_wp2_with fail
  refine (HEK4.out _ _ _ HB20.out HF20.out).mono ?_
  rintro e w21 ⟨rfl, hb⟩
  clear k0 k1 k2 k3 k4 k5 k6 k7
  have HB21 := Lib.hid (HB20.out.trans (hb.mono HB20.out.size))
  have HF21 := Lib.hid (HF20.out.bel hb)
  have HD21 := Lib.hid (HD20.out.below hb)
  have HT_21 := Lib.hid (HT_20.out.below hb)
  clear hb HB20 HF20 HD20 HT_20
  obtain ⟨k0, k1, k2, k3, k4, k5, k6, k7⟩ := HD21.out.eight
  go_wp2_with fail
  refine (HEK5.out _ _ _ HB21.out HF21.out).mono ?_
  rintro e w22 ⟨rfl, hb⟩
  clear k0 k1 k2 k3 k4 k5 k6 k7
  have HB22 := Lib.hid (HB21.out.trans (hb.mono HB21.out.size))
  have HF22 := Lib.hid (HF21.out.bel hb)
  have HD22 := Lib.hid (HD21.out.below hb)
  have HT_22 := Lib.hid (HT_21.out.below hb)
  clear hb HB21 HF21 HD21 HT_21
  obtain ⟨k0, k1, k2, k3, k4, k5, k6, k7⟩ := HT_22.out.eight
  go_wp2_with fail
  refine (HEK6.out _ HB22.out).mono ?_
  rintro e w23 ⟨rfl, hb⟩
  clear k0 k1 k2 k3 k4 k5 k6 k7
  have HB23 := Lib.hid (HB22.out.trans (hb.mono HB22.out.size))
  have HF23 := Lib.hid (HF22.out.bel hb)
  have HD23 := Lib.hid (HD22.out.below hb)
  have HT_23 := Lib.hid (HT_22.out.below hb)
  clear hb HB22 HF22 HD22 HT_22
  go_wp2_with fail
  refine (awake_any _ (HM.out.bel HB23.out) (HT.out.below HB23.out)).mono ?_
  rintro e w24 ⟨rfl, hb⟩
  have HB24 := Lib.hid (HB23.out.trans (hb.mono HB23.out.size))
  have HF24 := Lib.hid (HF23.out.bel hb)
  have HD24 := Lib.hid (HD23.out.below hb)
  have HT_24 := Lib.hid (HT_23.out.below hb)
  clear hb HB23 HF23 HD23 HT_23
  go_wp2_with fail
  go_ret
  exact ⟨rfl, HB24.out⟩
end Go.Proofs.YthjgedafcihheaaGreatDoor
