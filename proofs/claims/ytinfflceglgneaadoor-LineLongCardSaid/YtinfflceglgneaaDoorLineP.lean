/- LineKnown: walked. -/
import Derived.Test.YtinfflceglgneaaDoorLineO
namespace Go.Proofs.YtinfflceglgneaaDoor
open Go.RowKit
theorem make_bytes (n : Nat) (w : World) (hn : n ≤ 4294967296) :
    (Instr.makeSlice 42 (.int .i64 (n : Int)) (.int .i64 (n : Int))).run Tryd.prog w = .ok (.slice (some ⟨w.heap.size, 0, none⟩) n n) (w.alloc (.cells (Lib.byteCells (List.replicate n 0)).toArray 5)) := by
  obtain ⟨i0, hi, hz0, hz1, hz2⟩ := info_parts infoB
  have h := run_make (P := Tryd.prog) w 42 5 i0 (.int .u8 0) Tryd.underlying42 hi hz0 .i64 .i64 (n : Int) (n : Int) (by omega) (by omega) (by rw [hz2]; omega) (by omega)
  have e : madeCells (Value.int .u8 0).cells (((n : Nat) : Int).toNat * i0.size) = (Lib.byteCells (List.replicate n 0)).toArray := by
    apply Array.toList_inj.1
    rw [hz1, Nat.mul_one, Int.toNat_natCast]
    have := toList_madeCells_one (Value.int .u8 0) n
    simpa [Value.cells, Lib.byteCells] using this
  rw [e] at h
  simpa using h
theorem rowB_made (w : World) (n : Nat) : rowB (w.alloc (.cells (Lib.byteCells (List.replicate n 0)).toArray 5)) w.heap.size n (List.replicate n 0) :=
  ⟨_, _, _, _, heap_alloc_new w _, .inr rfl, by simp, by simp [Lib.byteCells]⟩
/-- so many zero bytes, a name -/
def zeros (n : Nat) : ByteArray := bs (List.replicate n 0)
theorem zeros_size (n : Nat) : (zeros n).size = n := by unfold zeros; rw [bs_size, List.length_replicate]
/-- a new row of zero bytes, behind 'make' -/
def madeW (w : World) (n : Nat) : World := w.alloc (.cells (Lib.byteCells (List.replicate n 0)).toArray 5)
theorem make_z (n : Nat) (w : World) (hn : n ≤ 4294967296) : (Instr.makeSlice 42 (.int .i64 (n : Int)) (.int .i64 (n : Int))).run Tryd.prog w = .ok (.slice (some ⟨w.heap.size, 0, none⟩) n n) (madeW w n) := make_bytes n w hn
theorem conv_z (n : Nat) (w : World) : (convert 42 9 (.slice (some ⟨w.heap.size, 0, none⟩) n n)).run Tryd.prog (madeW w n) = .ok (.string (zeros n)) (madeW w n) := (rowB_made w n).back n
theorem below_z (n : Nat) (w : World) : Below w.heap.size w (madeW w n) := (Below.refl _ _).alloc (Nat.le_refl _) _
theorem k_long : reqE (zeros 2049).data.toList = 3 ∧ staE (zeros 2049).data.toList = 3 := by
  have h : 2048 < (zeros 2049).data.toList.length := by rw [← size_len, zeros_size]; decide
  exact ⟨req_long h, sta_long h⟩
theorem kn0 : reqE [71, 69, 84, 32, 47, 97, 32, 72, 84, 84, 80, 47, 49, 46, 48] = 0 ∧ reqM [71, 69, 84, 32, 47, 97, 32, 72, 84, 84, 80, 47, 49, 46, 48] = [71, 69, 84] ∧ reqT [71, 69, 84, 32, 47, 97, 32, 72, 84, 84, 80, 47, 49, 46, 48] = [47, 97] ∧ reqN [71, 69, 84, 32, 47, 97, 32, 72, 84, 84, 80, 47, 49, 46, 48] = 0 := by decide +kernel
theorem kn1 : reqE [77, 32, 42, 32, 72, 84, 84, 80, 47, 49, 46, 55] = 0 ∧ reqM [77, 32, 42, 32, 72, 84, 84, 80, 47, 49, 46, 55] = [77] ∧ reqT [77, 32, 42, 32, 72, 84, 84, 80, 47, 49, 46, 55] = [42] ∧ reqN [77, 32, 42, 32, 72, 84, 84, 80, 47, 49, 46, 55] = 1 := by decide +kernel
theorem kn2 : reqE [71, 69, 84, 32, 47, 97, 32, 72, 84, 84, 80, 47, 50, 46, 48] = 9 ∧ staE [71, 69, 84, 32, 47, 97, 32, 72, 84, 84, 80, 47, 50, 46, 48] = 4 := by decide +kernel
theorem kn3 : reqE [71, 69, 84, 32, 47, 97, 32, 104, 116, 116, 112, 47, 49, 46, 49] = 4 ∧ staE [71, 69, 84, 32, 47, 97, 32, 104, 116, 116, 112, 47, 49, 46, 49] = 4 := by decide +kernel
theorem kn4 : reqE [71, 69, 84, 32, 32, 47, 97, 32, 72, 84, 84, 80, 47, 49, 46, 49] = 4 ∧ staE [71, 69, 84, 32, 32, 47, 97, 32, 72, 84, 84, 80, 47, 49, 46, 49] = 4 := by decide +kernel
theorem kn5 : reqE [71, 69, 84, 32, 47, 97, 32, 72, 84, 84, 80, 47, 49, 46, 49, 32] = 4 ∧ staE [71, 69, 84, 32, 47, 97, 32, 72, 84, 84, 80, 47, 49, 46, 49, 32] = 4 := by decide +kernel
theorem kn6 : reqE [71, 69, 84, 32, 47, 97] = 4 ∧ staE [71, 69, 84, 32, 47, 97] = 4 := by decide +kernel
theorem kn7 : reqE [71, 69, 84, 32, 47, 97, 32, 72, 84, 84, 80, 47, 49, 49] = 4 ∧ staE [71, 69, 84, 32, 47, 97, 32, 72, 84, 84, 80, 47, 49, 49] = 4 := by decide +kernel
theorem kn8 : reqE [] = 4 ∧ staE [] = 4 := by decide +kernel
theorem kn9 : reqE [71, 69, 84, 32, 32, 72, 84, 84, 80, 47, 49, 46, 49] = 4 ∧ staE [71, 69, 84, 32, 32, 72, 84, 84, 80, 47, 49, 46, 49] = 4 := by decide +kernel
theorem kn10 : reqE [71, 40, 84, 32, 47, 97, 32, 72, 84, 84, 80, 47, 50, 46, 49] = 4 ∧ staE [71, 40, 84, 32, 47, 97, 32, 72, 84, 84, 80, 47, 50, 46, 49] = 4 := by decide +kernel
theorem kn11 : staE [72, 84, 84, 80, 47, 49, 46, 49, 32, 52, 48, 52, 32] = 0 ∧ staC [72, 84, 84, 80, 47, 49, 46, 49, 32, 52, 48, 52, 32] = 404 ∧ staR [72, 84, 84, 80, 47, 49, 46, 49, 32, 52, 48, 52, 32] = [] ∧ staN [72, 84, 84, 80, 47, 49, 46, 49, 32, 52, 48, 52, 32] = 1 := by decide +kernel
theorem kn12 : reqE [72, 84, 84, 80, 47, 49, 46, 49, 32, 52, 48, 52] = 4 ∧ staE [72, 84, 84, 80, 47, 49, 46, 49, 32, 52, 48, 52] = 4 := by decide +kernel
theorem kn13 : reqE [72, 84, 84, 80, 47, 49, 46, 49, 32, 54, 48, 48, 32, 120] = 4 ∧ staE [72, 84, 84, 80, 47, 49, 46, 49, 32, 54, 48, 48, 32, 120] = 4 := by decide +kernel
theorem kn14 : reqE [72, 84, 84, 80, 47, 48, 46, 57, 32, 50, 48, 48, 32, 79, 75] = 4 ∧ staE [72, 84, 84, 80, 47, 48, 46, 57, 32, 50, 48, 48, 32, 79, 75] = 9 := by decide +kernel
theorem kn15 : staE [72, 84, 84, 80, 47, 49, 46, 48, 32, 49, 48, 48, 32, 128, 9, 120] = 0 ∧ staC [72, 84, 84, 80, 47, 49, 46, 48, 32, 49, 48, 48, 32, 128, 9, 120] = 100 ∧ staR [72, 84, 84, 80, 47, 49, 46, 48, 32, 49, 48, 48, 32, 128, 9, 120] = [128, 9, 120] ∧ staN [72, 84, 84, 80, 47, 49, 46, 48, 32, 49, 48, 48, 32, 128, 9, 120] = 0 := by decide +kernel
theorem kn16 : reqE [72, 84, 84, 80, 47, 49, 46, 49, 32, 50, 48, 48, 32, 127] = 4 ∧ staE [72, 84, 84, 80, 47, 49, 46, 49, 32, 50, 48, 48, 32, 127] = 4 := by decide +kernel
theorem kn17 : reqE [72, 84, 84, 80, 47, 49, 46, 49, 32, 50, 48, 32, 79, 75] = 4 ∧ staE [72, 84, 84, 80, 47, 49, 46, 49, 32, 50, 48, 32, 79, 75] = 4 := by decide +kernel
theorem kn18 : reqE [72, 84, 84, 80, 47, 49, 46, 49, 32, 32, 50, 48, 48, 32, 79, 75] = 4 ∧ staE [72, 84, 84, 80, 47, 49, 46, 49, 32, 32, 50, 48, 48, 32, 79, 75] = 4 := by decide +kernel
theorem kn19 : putRL [71, 32, 84] [47, 97] 1 = [] ∧ putRQ [71, 32, 84] [47, 97] 1 = 4 := by decide +kernel
theorem kn20 : putRL [71, 69, 84] [] 1 = [] ∧ putRQ [71, 69, 84] [] 1 = 4 := by decide +kernel
theorem kn21 : putRL [71, 69, 84] [47, 97] 2 = [] ∧ putRQ [71, 69, 84] [47, 97] 2 = 4 := by decide +kernel
theorem kn22 : putSL 304 [] (0) = [72, 84, 84, 80, 47, 49, 46, 48, 32, 51, 48, 52, 32] ∧ putSQ 304 [] (0) = 0 := by decide +kernel
theorem kn23 : putSL 99 [120] (1) = [] ∧ putSQ 99 [120] (1) = 4 := by decide +kernel
theorem kn24 : putSL 200 [10] (1) = [] ∧ putSQ 200 [10] (1) = 4 := by decide +kernel
theorem kn25 : putSL 600 [120] (1) = [] ∧ putSQ 600 [120] (1) = 4 := by decide +kernel
theorem kn26 : putSL 200 [120] (-1) = [] ∧ putSQ 200 [120] (-1) = 4 := by decide +kernel

set_option maxRecDepth 100000 in
set_option maxHeartbeats 4000000 in
theorem lineKnown_any (w : World) (he : Env w) :
    Calls Tryd.prog 6 #[] w fun e w' => e = .returned (.bool true) ∧ Below w.heap.size w w' := by
  have HE0 := Lib.hid he; clear he
  have HB0 : Hid (Below w.heap.size w w) := Below.refl _ _
  go_enter Tryd.func6, Tryd.ntmps6
  go_wp2_with fail
  refine (asks_yes _ _ HE0.out (by decide) ⟨#[71, 69, 84]⟩ ⟨#[47, 97]⟩ 0 kn0).mono ?_
  rintro e w1 ⟨rfl, hb⟩
  have HB1 : Hid (Below w.heap.size w w1) := HB0.out.trans (hb.mono HB0.out.size)
  clear hb HB0
  have HE1 : Hid (Env w1) := HE0.out.below HB1.out (Nat.le_refl _)
  go_wp2_with fail
  refine (asks_yes _ _ HE1.out (by decide) ⟨#[77]⟩ ⟨#[42]⟩ 1 kn1).mono ?_
  rintro e w2 ⟨rfl, hb⟩
  have HB2 : Hid (Below w.heap.size w w2) := HB1.out.trans (hb.mono HB1.out.size)
  clear hb HB1 HE1
  have HE2 : Hid (Env w2) := HE0.out.below HB2.out (Nat.le_refl _)
  go_wp2_with fail
  refine (no_yes _ _ HE2.out (by decide) 9 4 (by decide) (by decide) kn2).mono ?_
  rintro e w3 ⟨rfl, hb⟩
  have HB3 : Hid (Below w.heap.size w w3) := HB2.out.trans (hb.mono HB2.out.size)
  clear hb HB2 HE2
  have HE3 : Hid (Env w3) := HE0.out.below HB3.out (Nat.le_refl _)
  go_wp2_with fail
  refine (no_yes _ _ HE3.out (by decide) 4 4 (by decide) (by decide) kn3).mono ?_
  rintro e w4 ⟨rfl, hb⟩
  have HB4 : Hid (Below w.heap.size w w4) := HB3.out.trans (hb.mono HB3.out.size)
  clear hb HB3 HE3
  have HE4 : Hid (Env w4) := HE0.out.below HB4.out (Nat.le_refl _)
  go_wp2_with fail
  refine (no_yes _ _ HE4.out (by decide) 4 4 (by decide) (by decide) kn4).mono ?_
  rintro e w5 ⟨rfl, hb⟩
  have HB5 : Hid (Below w.heap.size w w5) := HB4.out.trans (hb.mono HB4.out.size)
  clear hb HB4 HE4
  have HE5 : Hid (Env w5) := HE0.out.below HB5.out (Nat.le_refl _)
  go_wp2_with fail
  refine (no_yes _ _ HE5.out (by decide) 4 4 (by decide) (by decide) kn5).mono ?_
  rintro e w6 ⟨rfl, hb⟩
  have HB6 : Hid (Below w.heap.size w w6) := HB5.out.trans (hb.mono HB5.out.size)
  clear hb HB5 HE5
  have HE6 : Hid (Env w6) := HE0.out.below HB6.out (Nat.le_refl _)
  go_wp2_with fail
  refine (no_yes _ _ HE6.out (by decide) 4 4 (by decide) (by decide) kn6).mono ?_
  rintro e w7 ⟨rfl, hb⟩
  have HB7 : Hid (Below w.heap.size w w7) := HB6.out.trans (hb.mono HB6.out.size)
  clear hb HB6 HE6
  have HE7 : Hid (Env w7) := HE0.out.below HB7.out (Nat.le_refl _)
  go_wp2_with fail
  refine (no_yes _ _ HE7.out (by decide) 4 4 (by decide) (by decide) kn7).mono ?_
  rintro e w8 ⟨rfl, hb⟩
  have HB8 : Hid (Below w.heap.size w w8) := HB7.out.trans (hb.mono HB7.out.size)
  clear hb HB7 HE7
  have HE8 : Hid (Env w8) := HE0.out.below HB8.out (Nat.le_refl _)
  go_wp2_with fail
  refine (no_yes _ _ HE8.out (by decide) 4 4 (by decide) (by decide) kn8).mono ?_
  rintro e w9 ⟨rfl, hb⟩
  have HB9 : Hid (Below w.heap.size w w9) := HB8.out.trans (hb.mono HB8.out.size)
  clear hb HB8 HE8
  have HE9 : Hid (Env w9) := HE0.out.below HB9.out (Nat.le_refl _)
  go_wp2_with fail
  refine (no_yes _ _ HE9.out (by decide) 4 4 (by decide) (by decide) kn9).mono ?_
  rintro e w10 ⟨rfl, hb⟩
  have HB10 : Hid (Below w.heap.size w w10) := HB9.out.trans (hb.mono HB9.out.size)
  clear hb HB9 HE9
  have HE10 : Hid (Env w10) := HE0.out.below HB10.out (Nat.le_refl _)
  go_wp2_with fail
  refine (no_yes _ _ HE10.out (by decide) 4 4 (by decide) (by decide) kn10).mono ?_
  rintro e w11 ⟨rfl, hb⟩
  have HB11 : Hid (Below w.heap.size w w11) := HB10.out.trans (hb.mono HB10.out.size)
  clear hb HB10 HE10
  have HE11 : Hid (Env w11) := HE0.out.below HB11.out (Nat.le_refl _)
  go_wp2_with fail
  refine (says_yes _ _ HE11.out (by decide) ⟨#[]⟩ 404 1 kn11).mono ?_
  rintro e w12 ⟨rfl, hb⟩
  have HB12 : Hid (Below w.heap.size w w12) := HB11.out.trans (hb.mono HB11.out.size)
  clear hb HB11 HE11
  have HE12 : Hid (Env w12) := HE0.out.below HB12.out (Nat.le_refl _)
  go_wp2_with fail
  refine (no_yes _ _ HE12.out (by decide) 4 4 (by decide) (by decide) kn12).mono ?_
  rintro e w13 ⟨rfl, hb⟩
  have HB13 : Hid (Below w.heap.size w w13) := HB12.out.trans (hb.mono HB12.out.size)
  clear hb HB12 HE12
  have HE13 : Hid (Env w13) := HE0.out.below HB13.out (Nat.le_refl _)
  go_wp2_with fail
  refine (no_yes _ _ HE13.out (by decide) 4 4 (by decide) (by decide) kn13).mono ?_
  rintro e w14 ⟨rfl, hb⟩
  have HB14 : Hid (Below w.heap.size w w14) := HB13.out.trans (hb.mono HB13.out.size)
  clear hb HB13 HE13
  have HE14 : Hid (Env w14) := HE0.out.below HB14.out (Nat.le_refl _)
  go_wp2_with fail
  refine (no_yes _ _ HE14.out (by decide) 4 9 (by decide) (by decide) kn14).mono ?_
  rintro e w15 ⟨rfl, hb⟩
  have HB15 : Hid (Below w.heap.size w w15) := HB14.out.trans (hb.mono HB14.out.size)
  clear hb HB14 HE14
  have HE15 : Hid (Env w15) := HE0.out.below HB15.out (Nat.le_refl _)
  go_wp2_with fail
  refine (says_yes _ _ HE15.out (by decide) ⟨#[128, 9, 120]⟩ 100 0 kn15).mono ?_
  rintro e w16 ⟨rfl, hb⟩
  have HB16 : Hid (Below w.heap.size w w16) := HB15.out.trans (hb.mono HB15.out.size)
  clear hb HB15 HE15
  have HE16 : Hid (Env w16) := HE0.out.below HB16.out (Nat.le_refl _)
  go_wp2_with fail
  refine (no_yes _ _ HE16.out (by decide) 4 4 (by decide) (by decide) kn16).mono ?_
  rintro e w17 ⟨rfl, hb⟩
  have HB17 : Hid (Below w.heap.size w w17) := HB16.out.trans (hb.mono HB16.out.size)
  clear hb HB16 HE16
  have HE17 : Hid (Env w17) := HE0.out.below HB17.out (Nat.le_refl _)
  go_wp2_with fail
  refine (no_yes _ _ HE17.out (by decide) 4 4 (by decide) (by decide) kn17).mono ?_
  rintro e w18 ⟨rfl, hb⟩
  have HB18 : Hid (Below w.heap.size w w18) := HB17.out.trans (hb.mono HB17.out.size)
  clear hb HB17 HE17
  have HE18 : Hid (Env w18) := HE0.out.below HB18.out (Nat.le_refl _)
  go_wp2_with fail
  refine (no_yes _ _ HE18.out (by decide) 4 4 (by decide) (by decide) kn18).mono ?_
  rintro e w19 ⟨rfl, hb⟩
  have HB19 : Hid (Below w.heap.size w w19) := HB18.out.trans (hb.mono HB18.out.size)
  clear hb HB18 HE18
  have HE19 : Hid (Env w19) := HE0.out.below HB19.out (Nat.le_refl _)
  go_wp2_with fail
  refine (putRequest_any ⟨#[71, 32, 84]⟩ ⟨#[47, 97]⟩ 1 _ (by decide) (by decide)).mono ?_
  rw [show (⟨#[71, 32, 84]⟩ : ByteArray).data.toList = [71, 32, 84] from rfl, show (⟨#[47, 97]⟩ : ByteArray).data.toList = [47, 97] from rfl, kn19.1, kn19.2, show bs [] = ⟨#[]⟩ from rfl]
  rintro e w20 ⟨rfl, hb⟩
  have HB20 : Hid (Below w.heap.size w w20) := HB19.out.trans (hb.mono HB19.out.size)
  clear hb HB19 HE19
  have HE20 : Hid (Env w20) := HE0.out.below HB20.out (Nat.le_refl _)
  go_wp2_with fail
  refine (putRequest_any ⟨#[71, 69, 84]⟩ ⟨#[]⟩ 1 _ (by decide) (by decide)).mono ?_
  rw [show (⟨#[71, 69, 84]⟩ : ByteArray).data.toList = [71, 69, 84] from rfl, show (⟨#[]⟩ : ByteArray).data.toList = [] from rfl, kn20.1, kn20.2, show bs [] = ⟨#[]⟩ from rfl]
  rintro e w21 ⟨rfl, hb⟩
  have HB21 : Hid (Below w.heap.size w w21) := HB20.out.trans (hb.mono HB20.out.size)
  clear hb HB20 HE20
  have HE21 : Hid (Env w21) := HE0.out.below HB21.out (Nat.le_refl _)
  go_wp2_with fail
  refine (putRequest_any ⟨#[71, 69, 84]⟩ ⟨#[47, 97]⟩ 2 _ (by decide) (by decide)).mono ?_
  rw [show (⟨#[71, 69, 84]⟩ : ByteArray).data.toList = [71, 69, 84] from rfl, show (⟨#[47, 97]⟩ : ByteArray).data.toList = [47, 97] from rfl, kn21.1, kn21.2, show bs [] = ⟨#[]⟩ from rfl]
  rintro e w22 ⟨rfl, hb⟩
  have HB22 : Hid (Below w.heap.size w w22) := HB21.out.trans (hb.mono HB21.out.size)
  clear hb HB21 HE21
  have HE22 : Hid (Env w22) := HE0.out.below HB22.out (Nat.le_refl _)
  go_wp2_with fail
  refine (putStatus_any (304) ⟨#[]⟩ (0) _ (by decide) HE22.out).mono ?_
  rw [show (⟨#[]⟩ : ByteArray).data.toList = [] from rfl, kn22.1, kn22.2, show bs [72, 84, 84, 80, 47, 49, 46, 48, 32, 51, 48, 52, 32] = ⟨#[72, 84, 84, 80, 47, 49, 46, 48, 32, 51, 48, 52, 32]⟩ from rfl]
  rintro e w23 ⟨rfl, hb⟩
  have HB23 : Hid (Below w.heap.size w w23) := HB22.out.trans (hb.mono HB22.out.size)
  clear hb HB22 HE22
  have HE23 : Hid (Env w23) := HE0.out.below HB23.out (Nat.le_refl _)
  go_wp2_with fail
  refine (putStatus_any (99) ⟨#[120]⟩ (1) _ (by decide) HE23.out).mono ?_
  rw [show (⟨#[120]⟩ : ByteArray).data.toList = [120] from rfl, kn23.1, kn23.2, show bs [] = ⟨#[]⟩ from rfl]
  rintro e w24 ⟨rfl, hb⟩
  have HB24 : Hid (Below w.heap.size w w24) := HB23.out.trans (hb.mono HB23.out.size)
  clear hb HB23 HE23
  have HE24 : Hid (Env w24) := HE0.out.below HB24.out (Nat.le_refl _)
  go_wp2_with fail
  refine (putStatus_any (200) ⟨#[10]⟩ (1) _ (by decide) HE24.out).mono ?_
  rw [show (⟨#[10]⟩ : ByteArray).data.toList = [10] from rfl, kn24.1, kn24.2, show bs [] = ⟨#[]⟩ from rfl]
  rintro e w25 ⟨rfl, hb⟩
  have HB25 : Hid (Below w.heap.size w w25) := HB24.out.trans (hb.mono HB24.out.size)
  clear hb HB24 HE24
  have HE25 : Hid (Env w25) := HE0.out.below HB25.out (Nat.le_refl _)
  go_wp2_with fail
  refine (putStatus_any (600) ⟨#[120]⟩ (1) _ (by decide) HE25.out).mono ?_
  rw [show (⟨#[120]⟩ : ByteArray).data.toList = [120] from rfl, kn25.1, kn25.2, show bs [] = ⟨#[]⟩ from rfl]
  rintro e w26 ⟨rfl, hb⟩
  have HB26 : Hid (Below w.heap.size w w26) := HB25.out.trans (hb.mono HB25.out.size)
  clear hb HB25 HE25
  have HE26 : Hid (Env w26) := HE0.out.below HB26.out (Nat.le_refl _)
  go_wp2_with fail
  refine (putStatus_any (200) ⟨#[120]⟩ (-1) _ (by decide) HE26.out).mono ?_
  rw [show (⟨#[120]⟩ : ByteArray).data.toList = [120] from rfl, kn26.1, kn26.2, show bs [] = ⟨#[]⟩ from rfl]
  rintro e w27 ⟨rfl, hb⟩
  have HB27 : Hid (Below w.heap.size w w27) := HB26.out.trans (hb.mono HB26.out.size)
  clear hb HB26 HE26
  have HE27 : Hid (Env w27) := HE0.out.below HB27.out (Nat.le_refl _)
  have hmk : (Instr.makeSlice 42 (.int .i64 2049) (.int .i64 2049)).run Tryd.prog w27 = .ok (.slice (some ⟨w27.heap.size, 0, none⟩) 2049 2049) (madeW w27 2049) := make_z 2049 w27 (by decide)
  have hcv := conv_z 2049 w27
  go_wp2_with fail
  have HB28 : Hid (Below w.heap.size w (madeW w27 2049)) := HB27.out.trans ((below_z 2049 w27).mono HB27.out.size)
  have HE28 : Hid (Env (madeW w27 2049)) := HE0.out.below HB28.out (Nat.le_refl _)
  clear hmk hcv HB27 HE27
  generalize madeW w27 2049 = w28 at HB28 HE28 ⊢
  refine (no_yes _ _ HE28.out (by rw [zeros_size]; decide) 3 3 (by decide) (by decide) k_long).mono ?_
  rintro e w29 ⟨rfl, hb⟩
  have HB29 : Hid (Below w.heap.size w w29) := HB28.out.trans (hb.mono HB28.out.size)
  clear hb HB28 HE28
  have HE29 : Hid (Env w29) := HE0.out.below HB29.out (Nat.le_refl _)
  go_wp2_with fail
  refine (awake_any _ HE29.out).mono ?_
  rintro e w30 ⟨rfl, hb⟩
  have HB30 : Hid (Below w.heap.size w w30) := HB29.out.trans (hb.mono HB29.out.size)
  clear hb HB29 HE29
  have HE30 : Hid (Env w30) := HE0.out.below HB30.out (Nat.le_refl _)
  go_wp2_with fail
  go_ret
  exact ⟨rfl, HB30.out⟩
end Go.Proofs.YtinfflceglgneaaDoor
