/- The closed statement KeyKnown. -/
import Derived.Test.YtnpiaifkeddjeaaGreatDoorKeyE
namespace Go.Proofs.YtnpiaifkeddjeaaGreatDoor
open Go.RowKit Go.Shelf

set_option maxRecDepth 100000 in
set_option maxHeartbeats 4000000 in
theorem keyKnown_law (w : World) (hm : MaxU w) (hl0 : Env w) : Calls Tryz.prog 5 #[] w fun e w' => e = .returned (.bool true) ∧ Below w.heap.size w w' := by
  have he : EnvU w := ⟨hm, hl0⟩
  clear hm hl0
  have k0 : ∀ W, Below w.heap.size w W → Calls Tryz.prog 18 #[.string ⟨#[72, 69, 65, 68]⟩, .string ⟨#[104, 116, 116, 112, 58, 47, 47, 65, 58, 56, 48, 47, 120, 47, 46, 46, 47, 121, 63]⟩] W fun e w' => e = .returned (.string ⟨#[104, 116, 116, 112, 58, 47, 47, 97, 47, 121, 63]⟩) ∧ Below W.heap.size W w' := fun W hW => by have he := he.bel hW; exact of_litK [72, 69, 65, 68] [104, 116, 116, 112, 58, 47, 47, 65, 58, 56, 48, 47, 120, 47, 46, 46, 47, 121, 63] [104, 116, 116, 112, 58, 47, 47, 97, 47, 121, 63] W he (by kernel_rfl)
  have K0 := Lib.hid k0; clear k0
  have k1 : ∀ W, Below w.heap.size w W → Calls Tryz.prog 18 #[.string ⟨#[80, 79, 83, 84]⟩, .string ⟨#[104, 116, 116, 112, 58, 47, 47, 97, 47]⟩] W fun e w' => e = .returned (.string ⟨#[]⟩) ∧ Below W.heap.size W w' := fun W hW => by have he := he.bel hW; exact of_litK [80, 79, 83, 84] [104, 116, 116, 112, 58, 47, 47, 97, 47] [] W he (by kernel_rfl)
  have K1 := Lib.hid k1; clear k1
  have k2 : ∀ W, Below w.heap.size w W → Calls Tryz.prog 18 #[.string ⟨#[103, 101, 116]⟩, .string ⟨#[104, 116, 116, 112, 58, 47, 47, 97, 47]⟩] W fun e w' => e = .returned (.string ⟨#[]⟩) ∧ Below W.heap.size W w' := fun W hW => by have he := he.bel hW; exact of_litK [103, 101, 116] [104, 116, 116, 112, 58, 47, 47, 97, 47] [] W he (by kernel_rfl)
  have K2 := Lib.hid k2; clear k2
  have k3 : ∀ W, Below w.heap.size w W → Calls Tryz.prog 18 #[.string ⟨#[71, 69, 84]⟩, .string ⟨#[]⟩] W fun e w' => e = .returned (.string ⟨#[]⟩) ∧ Below W.heap.size W w' := fun W hW => by have he := he.bel hW; exact of_litK [71, 69, 84] [] [] W he (by kernel_rfl)
  have K3 := Lib.hid k3; clear k3
  have k4 : ∀ W, Below w.heap.size w W → Calls Tryz.prog 12 #[.string ⟨#[112, 97, 116, 99, 104]⟩] W fun e w' => e = .returned (.bool false) ∧ W = w' := fun W hW => by have he := he.bel hW; exact kuns_any [112, 97, 116, 99, 104] W
  have K4 := Lib.hid k4; clear k4
  have k5 : ∀ W, Below w.heap.size w W → Calls Tryz.prog 12 #[.string ⟨#[71, 69, 84]⟩] W fun e w' => e = .returned (.bool false) ∧ W = w' := fun W hW => by have he := he.bel hW; exact kuns_any [71, 69, 84] W
  have K5 := Lib.hid k5; clear k5
  have k6 : ∀ W, Below w.heap.size w W → Calls Tryz.prog 12 #[.string ⟨#[]⟩] W fun e w' => e = .returned (.bool false) ∧ W = w' := fun W hW => by have he := he.bel hW; exact kuns_any [] W
  have K6 := Lib.hid k6; clear k6
  have k7 : ∀ W, Below w.heap.size w W → Calls Tryz.prog 12 #[.string ⟨#[68, 69, 76, 69, 84, 69]⟩] W fun e w' => e = .returned (.bool true) ∧ W = w' := fun W hW => by have he := he.bel hW; exact kuns_any [68, 69, 76, 69, 84, 69] W
  have K7 := Lib.hid k7; clear k7
  have k8 : ∀ W, Below w.heap.size w W → Calls Tryz.prog 12 #[.string ⟨#[80, 79, 83, 84]⟩] W fun e w' => e = .returned (.bool true) ∧ W = w' := fun W hW => by have he := he.bel hW; exact kuns_any [80, 79, 83, 84] W
  have K8 := Lib.hid k8; clear k8
  have k9 : ∀ W, Below w.heap.size w W → Calls Tryz.prog 12 #[.string ⟨#[80, 85, 84]⟩] W fun e w' => e = .returned (.bool true) ∧ W = w' := fun W hW => by have he := he.bel hW; exact kuns_any [80, 85, 84] W
  have K9 := Lib.hid k9; clear k9
  have k10 : ∀ W, Below w.heap.size w W → Calls Tryz.prog 19 #[.string ⟨#[104, 116, 116, 112, 58, 47, 47, 97, 47, 98]⟩, .int .i64 400, .slice (some ⟨W.heap.size, 0, none⟩) 2 2] (W.alloc (.cells #[.string ⟨#[108, 111, 99, 97, 116, 105, 111, 110]⟩, .string ⟨#[47, 99]⟩] 9)) fun e w' => e = .returned (.string ⟨#[]⟩) ∧ Below W.heap.size W w' := fun W hW => by have he := he.bel hW; exact gone_litK [104, 116, 116, 112, 58, 47, 47, 97, 47, 98] 400 [([108, 111, 99, 97, 116, 105, 111, 110], [47, 99])] [] W he (by decide) (by unfold KfB; decide) (by kernel_rfl)
  have K10 := Lib.hid k10; clear k10
  have k11 : ∀ W, Below w.heap.size w W → Calls Tryz.prog 19 #[.string ⟨#[104, 116, 116, 112, 58, 47, 47, 97, 47, 98]⟩, .int .i64 204, .slice (some ⟨W.heap.size, 0, none⟩) 2 2] (W.alloc (.cells #[.string ⟨#[108, 111, 99, 97, 116, 105, 111, 110]⟩, .string ⟨#[98]⟩] 9)) fun e w' => e = .returned (.string ⟨#[104, 116, 116, 112, 58, 47, 47, 97, 47, 98]⟩) ∧ Below W.heap.size W w' := fun W hW => by have he := he.bel hW; exact gone_litK [104, 116, 116, 112, 58, 47, 47, 97, 47, 98] 204 [([108, 111, 99, 97, 116, 105, 111, 110], [98])] [104, 116, 116, 112, 58, 47, 47, 97, 47, 98] W he (by decide) (by unfold KfB; decide) (by kernel_rfl)
  have K11 := Lib.hid k11; clear k11
  have k12 : ∀ W, Below w.heap.size w W → Calls Tryz.prog 19 #[.string ⟨#[104, 116, 116, 112, 58, 47, 47, 97, 47, 98]⟩, .int .i64 399, .slice (some ⟨W.heap.size, 0, none⟩) 2 2] (W.alloc (.cells #[.string ⟨#[108, 111, 99, 97, 116, 105, 111, 110]⟩, .string ⟨#[104, 116, 116, 112, 115, 58, 47, 47, 97, 47]⟩] 9)) fun e w' => e = .returned (.string ⟨#[104, 116, 116, 112, 58, 47, 47, 97, 47, 98]⟩) ∧ Below W.heap.size W w' := fun W hW => by have he := he.bel hW; exact gone_litK [104, 116, 116, 112, 58, 47, 47, 97, 47, 98] 399 [([108, 111, 99, 97, 116, 105, 111, 110], [104, 116, 116, 112, 115, 58, 47, 47, 97, 47])] [104, 116, 116, 112, 58, 47, 47, 97, 47, 98] W he (by decide) (by unfold KfB; decide) (by kernel_rfl)
  have K12 := Lib.hid k12; clear k12
  have k13 : ∀ W, Below w.heap.size w W → Calls Tryz.prog 19 #[.string ⟨#[104, 116, 116, 112, 58, 47, 47, 97, 47, 98]⟩, .int .i64 200, .slice (some ⟨W.heap.size, 0, none⟩) 2 2] (W.alloc (.cells #[.string ⟨#[108, 111, 99, 97, 116, 105, 111, 110]⟩, .string ⟨#[104, 116, 116, 112, 58, 47, 47, 65, 58, 56, 48, 47, 37, 54, 51]⟩] 9)) fun e w' => e = .returned (.string ⟨#[104, 116, 116, 112, 58, 47, 47, 97, 47, 98, 32, 104, 116, 116, 112, 58, 47, 47, 97, 47, 99]⟩) ∧ Below W.heap.size W w' := fun W hW => by have he := he.bel hW; exact gone_litK [104, 116, 116, 112, 58, 47, 47, 97, 47, 98] 200 [([108, 111, 99, 97, 116, 105, 111, 110], [104, 116, 116, 112, 58, 47, 47, 65, 58, 56, 48, 47, 37, 54, 51])] [104, 116, 116, 112, 58, 47, 47, 97, 47, 98, 32, 104, 116, 116, 112, 58, 47, 47, 97, 47, 99] W he (by decide) (by unfold KfB; decide) (by kernel_rfl)
  have K13 := Lib.hid k13; clear k13
  have k14 : ∀ W, Below w.heap.size w W → Calls Tryz.prog 19 #[.string ⟨#[104, 116, 116, 112, 58, 47, 47, 97, 47, 98]⟩, .int .i64 199, .slice none 0 0] W fun e w' => e = .returned (.string ⟨#[]⟩) ∧ Below W.heap.size W w' := fun W hW => by have he := he.bel hW; exact gone_nilK [104, 116, 116, 112, 58, 47, 47, 97, 47, 98] 199 [] W he (by kernel_rfl)
  have K14 := Lib.hid k14; clear k14
  have k15 : ∀ W, Below w.heap.size w W → Calls Tryz.prog 19 #[.string ⟨#[]⟩, .int .i64 200, .slice none 0 0] W fun e w' => e = .returned (.string ⟨#[]⟩) ∧ Below W.heap.size W w' := fun W hW => by have he := he.bel hW; exact gone_nilK [] 200 [] W he (by kernel_rfl)
  have K15 := Lib.hid k15; clear k15
  have k16 : ∀ W, Below w.heap.size w W → Calls Tryz.prog 19 #[.string ⟨#[104, 116, 116, 112, 58, 47, 47, 97, 47, 98]⟩, .int .i64 301, .slice (some ⟨W.heap.size, 0, none⟩) 6 6] (W.alloc (.cells #[.string ⟨#[108, 111, 99, 97, 116, 105, 111, 110]⟩, .string ⟨#[104, 116, 116, 112, 58, 47, 47, 97, 58, 56, 49, 47]⟩, .string ⟨#[99, 111, 110, 116, 101, 110, 116, 45, 108, 111, 99, 97, 116, 105, 111, 110]⟩, .string ⟨#[102, 116, 112, 58, 47, 47, 97, 47]⟩, .string ⟨#[67, 111, 110, 116, 101, 110, 116, 45, 76, 111, 99, 97, 116, 105, 111, 110]⟩, .string ⟨#[63, 113]⟩] 9)) fun e w' => e = .returned (.string ⟨#[104, 116, 116, 112, 58, 47, 47, 97, 47, 98, 32, 104, 116, 116, 112, 58, 47, 47, 97, 47, 98, 63, 113]⟩) ∧ Below W.heap.size W w' := fun W hW => by have he := he.bel hW; exact gone_litK [104, 116, 116, 112, 58, 47, 47, 97, 47, 98] 301 [([108, 111, 99, 97, 116, 105, 111, 110], [104, 116, 116, 112, 58, 47, 47, 97, 58, 56, 49, 47]), ([99, 111, 110, 116, 101, 110, 116, 45, 108, 111, 99, 97, 116, 105, 111, 110], [102, 116, 112, 58, 47, 47, 97, 47]), ([67, 111, 110, 116, 101, 110, 116, 45, 76, 111, 99, 97, 116, 105, 111, 110], [63, 113])] [104, 116, 116, 112, 58, 47, 47, 97, 47, 98, 32, 104, 116, 116, 112, 58, 47, 47, 97, 47, 98, 63, 113] W he (by decide) (by unfold KfB; decide) (by kernel_rfl)
  have K16 := Lib.hid k16; clear k16
  have K17 := Lib.hid (fun W (h : Below w.heap.size w W) => kawake_any W (he.bel h))
  clear he
  go_enter Tryz.func5, Tryz.ntmps5
  go_wp2_with fail
  refine (K0.out _ (Below.refl _ _)).mono ?_
  rintro e w1 ⟨rfl, hb⟩
  have HB1 : Hid (Below w.heap.size w w1) := hb; clear hb
  go_wp2_with fail
  refine (K1.out _ HB1.out).mono ?_
  rintro e w2 ⟨rfl, hb⟩
  have HB2 : Hid (Below w.heap.size w w2) := HB1.out.trans (hb.mono HB1.out.size); clear hb
  go_wp2_with fail
  refine (K2.out _ HB2.out).mono ?_
  rintro e w3 ⟨rfl, hb⟩
  have HB3 : Hid (Below w.heap.size w w3) := HB2.out.trans (hb.mono HB2.out.size); clear hb
  go_wp2_with fail
  refine (K3.out _ HB3.out).mono ?_
  rintro e w4 ⟨rfl, hb⟩
  have HB4 : Hid (Below w.heap.size w w4) := HB3.out.trans (hb.mono HB3.out.size); clear hb
  go_wp2_with fail
  refine (K4.out _ HB4.out).mono ?_
  rintro e wx ⟨rfl, rfl⟩
  go_wp2_with fail
  refine (K5.out _ HB4.out).mono ?_
  rintro e wx ⟨rfl, rfl⟩
  go_wp2_with fail
  refine (K6.out _ HB4.out).mono ?_
  rintro e wx ⟨rfl, rfl⟩
  go_wp2_with fail
  refine (K7.out _ HB4.out).mono ?_
  rintro e wx ⟨rfl, rfl⟩
  go_wp2_with fail
  refine (K8.out _ HB4.out).mono ?_
  rintro e wx ⟨rfl, rfl⟩
  go_wp2_with fail
  refine (K9.out _ HB4.out).mono ?_
  rintro e wx ⟨rfl, rfl⟩
  go_wp2_with fail
  refine (K10.out _ HB4.out).mono ?_
  rintro e w5 ⟨rfl, hb⟩
  have HB5 : Hid (Below w.heap.size w w5) := HB4.out.trans (hb.mono HB4.out.size); clear hb
  go_wp2_with fail
  refine (K11.out _ HB5.out).mono ?_
  rintro e w6 ⟨rfl, hb⟩
  have HB6 : Hid (Below w.heap.size w w6) := HB5.out.trans (hb.mono HB5.out.size); clear hb
  go_wp2_with fail
  refine (K12.out _ HB6.out).mono ?_
  rintro e w7 ⟨rfl, hb⟩
  have HB7 : Hid (Below w.heap.size w w7) := HB6.out.trans (hb.mono HB6.out.size); clear hb
  go_wp2_with fail
  refine (K13.out _ HB7.out).mono ?_
  rintro e w8 ⟨rfl, hb⟩
  have HB8 : Hid (Below w.heap.size w w8) := HB7.out.trans (hb.mono HB7.out.size); clear hb
  go_wp2_with fail
  refine (K14.out _ HB8.out).mono ?_
  rintro e w9 ⟨rfl, hb⟩
  have HB9 : Hid (Below w.heap.size w w9) := HB8.out.trans (hb.mono HB8.out.size); clear hb
  go_wp2_with fail
  refine (K15.out _ HB9.out).mono ?_
  rintro e w10 ⟨rfl, hb⟩
  have HB10 : Hid (Below w.heap.size w w10) := HB9.out.trans (hb.mono HB9.out.size); clear hb
  go_wp2_with fail
  refine (K16.out _ HB10.out).mono ?_
  rintro e w11 ⟨rfl, hb⟩
  have HB11 : Hid (Below w.heap.size w w11) := HB10.out.trans (hb.mono HB10.out.size); clear hb
  go_wp2_with fail
  refine (K17.out _ HB11.out).mono ?_
  rintro e w12 ⟨rfl, hb⟩
  have HB12 : Hid (Below w.heap.size w w12) := HB11.out.trans (hb.mono HB11.out.size); clear hb
  go_wp2_with fail
  go_ret
  exact ⟨rfl, HB12.out⟩
end Go.Proofs.YtnpiaifkeddjeaaGreatDoor
