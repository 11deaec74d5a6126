/- The statement StorableKnown. -/
import Derived.Test.YtfobjaccpnondaaGreatDoorStoE
namespace Go.Proofs.YtfobjaccpnondaaGreatDoor
open Go.RowKit Go.Shelf

theorem ny00 : ∃ m d h i s, IsT (clampI 0) 1970 m d h i s := ⟨0, 1, 0, 0, 0, by unfold IsT IsD clampI; decide⟩
theorem put50 (w : World) (ht : TabsP w) : Calls Tryz.prog 14 #[.int .i64 50] w fun e w' => e = .returned (.string ⟨#[84, 104, 117, 44, 32, 48, 49, 32, 74, 97, 110, 32, 49, 57, 55, 48, 32, 48, 48, 58, 48, 48, 58, 53, 48, 32, 71, 77, 84]⟩) ∧ Below w.heap.size w w' := by
  have h := put_ok 50 1970 (0 : Nat) 1 0 0 50 w (by unfold IsT IsD; decide) ht
  rw [show bs (fixT (wdN 1970 0 1) 0 1 1970 0 0 50) = ⟨#[84, 104, 117, 44, 32, 48, 49, 32, 74, 97, 110, 32, 49, 57, 55, 48, 32, 48, 48, 58, 48, 48, 58, 53, 48, 32, 71, 77, 84]⟩ from by kernel_rfl] at h
  exact h
set_option maxRecDepth 100000 in
theorem ka0 (W : World) (hm : MaxD W) (ht : Tabs W) : Calls Tryz.prog 13 #[.slice (some ⟨W.heap.size, 0, none⟩) 2 2] (W.alloc (.cells #[.string ⟨#[67, 97, 99, 104, 101, 45, 67, 111, 110, 116, 114, 111, 108]⟩, .string ⟨#[109, 97, 120, 45, 97, 103, 101, 61, 48]⟩] 9)) fun e w' => e = .returned (.bool false) ∧ Below W.heap.size W w' :=
  may_lit [([67, 97, 99, 104, 101, 45, 67, 111, 110, 116, 114, 111, 108], [109, 97, 120, 45, 97, 103, 101, 61, 48])] false W (by decide) (by kernel_rfl) (by decide) hm ht
set_option maxRecDepth 100000 in
theorem ka1 (W : World) (hm : MaxD W) (ht : Tabs W) : Calls Tryz.prog 13 #[.slice (some ⟨W.heap.size, 0, none⟩) 2 2] (W.alloc (.cells #[.string ⟨#[69, 84, 97, 103]⟩, .string ⟨#[34, 97, 34]⟩] 9)) fun e w' => e = .returned (.bool true) ∧ Below W.heap.size W w' :=
  may_lit [([69, 84, 97, 103], [34, 97, 34])] true W (by decide) (by kernel_rfl) (by decide) hm ht
set_option maxRecDepth 100000 in
theorem ka2 (W : World) (hm : MaxD W) (ht : Tabs W) : Calls Tryz.prog 13 #[.slice (some ⟨W.heap.size, 0, none⟩) 2 2] (W.alloc (.cells #[.string ⟨#[76, 97, 115, 116, 45, 77, 111, 100, 105, 102, 105, 101, 100]⟩, .string ⟨#[84, 104, 117, 44, 32, 48, 49, 32, 74, 97, 110, 32, 49, 57, 55, 48, 32, 48, 48, 58, 48, 48, 58, 53, 48, 32, 71, 77, 84]⟩] 9)) fun e w' => e = .returned (.bool true) ∧ Below W.heap.size W w' :=
  may_lit [([76, 97, 115, 116, 45, 77, 111, 100, 105, 102, 105, 101, 100], [84, 104, 117, 44, 32, 48, 49, 32, 74, 97, 110, 32, 49, 57, 55, 48, 32, 48, 48, 58, 48, 48, 58, 53, 48, 32, 71, 77, 84])] true W (by decide) (by kernel_rfl) (by decide) hm ht
set_option maxRecDepth 100000 in
theorem ka3 (W : World) (hm : MaxD W) (ht : Tabs W) : Calls Tryz.prog 13 #[.slice (some ⟨W.heap.size, 0, none⟩) 2 2] (W.alloc (.cells #[.string ⟨#[69, 84, 97, 103]⟩, .string ⟨#[97]⟩] 9)) fun e w' => e = .returned (.bool false) ∧ Below W.heap.size W w' :=
  may_lit [([69, 84, 97, 103], [97])] false W (by decide) (by kernel_rfl) (by decide) hm ht
set_option maxRecDepth 100000 in
theorem ka4 (W : World) (hm : MaxD W) (ht : Tabs W) : Calls Tryz.prog 13 #[.slice (some ⟨W.heap.size, 0, none⟩) 2 2] (W.alloc (.cells #[.string ⟨#[99, 97, 99, 104, 101, 45, 99, 111, 110, 116, 114, 111, 108]⟩, .string ⟨#[112, 114, 105, 118, 97, 116, 101, 44, 32, 109, 97, 120, 45, 97, 103, 101, 61, 53]⟩] 9)) fun e w' => e = .returned (.bool false) ∧ Below W.heap.size W w' :=
  may_lit [([99, 97, 99, 104, 101, 45, 99, 111, 110, 116, 114, 111, 108], [112, 114, 105, 118, 97, 116, 101, 44, 32, 109, 97, 120, 45, 97, 103, 101, 61, 53])] false W (by decide) (by kernel_rfl) (by decide) hm ht
set_option maxRecDepth 100000 in
theorem ka5 (W : World) (hm : MaxD W) (ht : Tabs W) : Calls Tryz.prog 13 #[.slice (some ⟨W.heap.size, 0, none⟩) 2 2] (W.alloc (.cells #[.string ⟨#[99, 97, 99, 104, 101, 45, 99, 111, 110, 116, 114, 111, 108]⟩, .string ⟨#[109, 97, 120, 45, 97, 103, 101, 61, 53, 44, 32, 34]⟩] 9)) fun e w' => e = .returned (.bool false) ∧ Below W.heap.size W w' :=
  may_lit [([99, 97, 99, 104, 101, 45, 99, 111, 110, 116, 114, 111, 108], [109, 97, 120, 45, 97, 103, 101, 61, 53, 44, 32, 34])] false W (by decide) (by kernel_rfl) (by decide) hm ht
set_option maxRecDepth 100000 in
theorem kb0 (W : World) (hm : MaxD W) (ht : Tabs W) : Calls Tryz.prog 13 #[.slice (some ⟨W.heap.size, 0, none⟩) 2 2] (W.alloc (.cells #[.string ⟨#[115, 117, 114, 114, 111, 103, 97, 116, 101, 45, 99, 111, 110, 116, 114, 111, 108]⟩, .string ⟨#[109, 97, 120, 45, 97, 103, 101, 61, 53]⟩] 9)) fun e w' => e = .returned (.bool true) ∧ Below W.heap.size W w' :=
  may_lit [([115, 117, 114, 114, 111, 103, 97, 116, 101, 45, 99, 111, 110, 116, 114, 111, 108], [109, 97, 120, 45, 97, 103, 101, 61, 53])] true W (by decide) (by kernel_rfl) (by decide) hm ht
set_option maxRecDepth 100000 in
theorem kb1 (W : World) (hm : MaxD W) (ht : Tabs W) : Calls Tryz.prog 13 #[.slice (some ⟨W.heap.size, 0, none⟩) 2 2] (W.alloc (.cells #[.string ⟨#[115, 117, 114, 114, 111, 103, 97, 116, 101, 45, 99, 111, 110, 116, 114, 111, 108]⟩, .string ⟨#[109, 97, 120, 45, 97, 103, 101, 61, 53, 44, 32, 110, 111, 45, 115, 116, 111, 114, 101, 59, 100]⟩] 9)) fun e w' => e = .returned (.bool false) ∧ Below W.heap.size W w' :=
  may_lit [([115, 117, 114, 114, 111, 103, 97, 116, 101, 45, 99, 111, 110, 116, 114, 111, 108], [109, 97, 120, 45, 97, 103, 101, 61, 53, 44, 32, 110, 111, 45, 115, 116, 111, 114, 101, 59, 100])] false W (by decide) (by kernel_rfl) (by decide) hm ht
set_option maxRecDepth 100000 in
theorem kb2 (W : World) (hm : MaxD W) (ht : Tabs W) : Calls Tryz.prog 13 #[.slice (some ⟨W.heap.size, 0, none⟩) 2 2] (W.alloc (.cells #[.string ⟨#[115, 117, 114, 114, 111, 103, 97, 116, 101, 45, 99, 111, 110, 116, 114, 111, 108]⟩, .string ⟨#[109, 97, 120, 45, 97, 103, 101, 61, 53, 44, 32, 110, 111, 45, 115, 116, 111, 114, 101, 59, 101]⟩] 9)) fun e w' => e = .returned (.bool true) ∧ Below W.heap.size W w' :=
  may_lit [([115, 117, 114, 114, 111, 103, 97, 116, 101, 45, 99, 111, 110, 116, 114, 111, 108], [109, 97, 120, 45, 97, 103, 101, 61, 53, 44, 32, 110, 111, 45, 115, 116, 111, 114, 101, 59, 101])] true W (by decide) (by kernel_rfl) (by decide) hm ht
set_option maxRecDepth 100000 in
theorem kb3 (W : World) (hm : MaxD W) (ht : Tabs W) : Calls Tryz.prog 13 #[.slice (some ⟨W.heap.size, 0, none⟩) 4 4] (W.alloc (.cells #[.string ⟨#[99, 97, 99, 104, 101, 45, 99, 111, 110, 116, 114, 111, 108]⟩, .string ⟨#[109, 97, 120, 45, 97, 103, 101, 61, 53]⟩, .string ⟨#[118, 97, 114, 121]⟩, .string ⟨#[42]⟩] 9)) fun e w' => e = .returned (.bool false) ∧ Below W.heap.size W w' :=
  may_lit [([99, 97, 99, 104, 101, 45, 99, 111, 110, 116, 114, 111, 108], [109, 97, 120, 45, 97, 103, 101, 61, 53]), ([118, 97, 114, 121], [42])] false W (by decide) (by kernel_rfl) (by decide) hm ht
set_option maxRecDepth 100000 in
theorem kb4 (W : World) (hm : MaxD W) (ht : Tabs W) : Calls Tryz.prog 13 #[.slice (some ⟨W.heap.size, 0, none⟩) 4 4] (W.alloc (.cells #[.string ⟨#[99, 97, 99, 104, 101, 45, 99, 111, 110, 116, 114, 111, 108]⟩, .string ⟨#[109, 97, 120, 45, 97, 103, 101, 61, 53]⟩, .string ⟨#[118, 97, 114, 121]⟩, .string ⟨#[97]⟩] 9)) fun e w' => e = .returned (.bool true) ∧ Below W.heap.size W w' :=
  may_lit [([99, 97, 99, 104, 101, 45, 99, 111, 110, 116, 114, 111, 108], [109, 97, 120, 45, 97, 103, 101, 61, 53]), ([118, 97, 114, 121], [97])] true W (by decide) (by kernel_rfl) (by decide) hm ht
set_option maxRecDepth 100000 in
theorem kb5 (W : World) (hm : MaxD W) (ht : Tabs W) : Calls Tryz.prog 13 #[.slice (some ⟨W.heap.size, 0, none⟩) 4 4] (W.alloc (.cells #[.string ⟨#[115, 117, 114, 114, 111, 103, 97, 116, 101, 45, 99, 111, 110, 116, 114, 111, 108]⟩, .string ⟨#[109, 97, 120, 45, 97, 103, 101, 61, 53]⟩, .string ⟨#[99, 97, 99, 104, 101, 45, 99, 111, 110, 116, 114, 111, 108]⟩, .string ⟨#[110, 111, 45, 115, 116, 111, 114, 101]⟩] 9)) fun e w' => e = .returned (.bool false) ∧ Below W.heap.size W w' :=
  may_lit [([115, 117, 114, 114, 111, 103, 97, 116, 101, 45, 99, 111, 110, 116, 114, 111, 108], [109, 97, 120, 45, 97, 103, 101, 61, 53]), ([99, 97, 99, 104, 101, 45, 99, 111, 110, 116, 114, 111, 108], [110, 111, 45, 115, 116, 111, 114, 101])] false W (by decide) (by kernel_rfl) (by decide) hm ht
set_option maxRecDepth 100000 in
theorem km0 (W : World) (vq ve : Value) (hq : FL W vq [([65, 117, 116, 104, 111, 114, 105, 122, 97, 116, 105, 111, 110], [120])]) (he : FL W ve [([99, 97, 99, 104, 101, 45, 99, 111, 110, 116, 114, 111, 108], [109, 97, 120, 45, 97, 103, 101, 61, 53])]) (hm : MaxD W) (ht : Tabs W) : Calls Tryz.prog 8 #[.string ⟨#[71, 69, 84]⟩, vq, .agg #[.int .i64 200, .string ⟨#[]⟩, .int .i64 0, ve, .string ⟨#[]⟩, .int .i64 0, .int .i64 0, .slice none 0 0], .string ⟨#[100]⟩] W fun e w' => e = .returned (.bool false) ∧ Below W.heap.size W w' := by
  have h := smay_any (st := 200) (mi := 0) (asked := 0) (got := 0) (Y := 1970) (re := ⟨#[]⟩) (bo := ⟨#[]⟩) (vA := none) (vn := 0) (vc := 0) [71, 69, 84] [100] W hq (by decide) ⟨he, by decide, hm, ht, ny00, by decide, by decide, by decide, by decide⟩
  rw [show stoB [71, 69, 84] 200 [([65, 117, 116, 104, 111, 114, 105, 122, 97, 116, 105, 111, 110], [120])] [([99, 97, 99, 104, 101, 45, 99, 111, 110, 116, 114, 111, 108], [109, 97, 120, 45, 97, 103, 101, 61, 53])] 1970 0 [100] = false from by kernel_rfl] at h
  exact h
set_option maxRecDepth 100000 in
theorem km1 (W : World) (vq ve : Value) (hq : FL W vq [([65, 117, 116, 104, 111, 114, 105, 122, 97, 116, 105, 111, 110], [120])]) (he : FL W ve [([99, 97, 99, 104, 101, 45, 99, 111, 110, 116, 114, 111, 108], [109, 97, 120, 45, 97, 103, 101, 61, 53, 44, 32, 112, 117, 98, 108, 105, 99])]) (hm : MaxD W) (ht : Tabs W) : Calls Tryz.prog 8 #[.string ⟨#[71, 69, 84]⟩, vq, .agg #[.int .i64 200, .string ⟨#[]⟩, .int .i64 0, ve, .string ⟨#[]⟩, .int .i64 0, .int .i64 0, .slice none 0 0], .string ⟨#[100]⟩] W fun e w' => e = .returned (.bool true) ∧ Below W.heap.size W w' := by
  have h := smay_any (st := 200) (mi := 0) (asked := 0) (got := 0) (Y := 1970) (re := ⟨#[]⟩) (bo := ⟨#[]⟩) (vA := none) (vn := 0) (vc := 0) [71, 69, 84] [100] W hq (by decide) ⟨he, by decide, hm, ht, ny00, by decide, by decide, by decide, by decide⟩
  rw [show stoB [71, 69, 84] 200 [([65, 117, 116, 104, 111, 114, 105, 122, 97, 116, 105, 111, 110], [120])] [([99, 97, 99, 104, 101, 45, 99, 111, 110, 116, 114, 111, 108], [109, 97, 120, 45, 97, 103, 101, 61, 53, 44, 32, 112, 117, 98, 108, 105, 99])] 1970 0 [100] = true from by kernel_rfl] at h
  exact h
set_option maxRecDepth 100000 in
theorem km2 (W : World) (vq ve : Value) (hq : FL W vq []) (he : FL W ve [([99, 97, 99, 104, 101, 45, 99, 111, 110, 116, 114, 111, 108], [109, 97, 120, 45, 97, 103, 101, 61, 53])]) (hm : MaxD W) (ht : Tabs W) : Calls Tryz.prog 8 #[.string ⟨#[71, 69, 84]⟩, vq, .agg #[.int .i64 302, .string ⟨#[]⟩, .int .i64 0, ve, .string ⟨#[]⟩, .int .i64 0, .int .i64 0, .slice none 0 0], .string ⟨#[100]⟩] W fun e w' => e = .returned (.bool false) ∧ Below W.heap.size W w' := by
  have h := smay_any (st := 302) (mi := 0) (asked := 0) (got := 0) (Y := 1970) (re := ⟨#[]⟩) (bo := ⟨#[]⟩) (vA := none) (vn := 0) (vc := 0) [71, 69, 84] [100] W hq (by decide) ⟨he, by decide, hm, ht, ny00, by decide, by decide, by decide, by decide⟩
  rw [show stoB [71, 69, 84] 302 [] [([99, 97, 99, 104, 101, 45, 99, 111, 110, 116, 114, 111, 108], [109, 97, 120, 45, 97, 103, 101, 61, 53])] 1970 0 [100] = false from by kernel_rfl] at h
  exact h
set_option maxRecDepth 100000 in
theorem km3 (W : World) (vq ve : Value) (hq : FL W vq []) (he : FL W ve [([99, 97, 99, 104, 101, 45, 99, 111, 110, 116, 114, 111, 108], [109, 97, 120, 45, 97, 103, 101, 61, 53])]) (hm : MaxD W) (ht : Tabs W) : Calls Tryz.prog 8 #[.string ⟨#[72, 69, 65, 68]⟩, vq, .agg #[.int .i64 200, .string ⟨#[]⟩, .int .i64 0, ve, .string ⟨#[]⟩, .int .i64 0, .int .i64 0, .slice none 0 0], .string ⟨#[100]⟩] W fun e w' => e = .returned (.bool false) ∧ Below W.heap.size W w' := by
  have h := smay_any (st := 200) (mi := 0) (asked := 0) (got := 0) (Y := 1970) (re := ⟨#[]⟩) (bo := ⟨#[]⟩) (vA := none) (vn := 0) (vc := 0) [72, 69, 65, 68] [100] W hq (by decide) ⟨he, by decide, hm, ht, ny00, by decide, by decide, by decide, by decide⟩
  rw [show stoB [72, 69, 65, 68] 200 [] [([99, 97, 99, 104, 101, 45, 99, 111, 110, 116, 114, 111, 108], [109, 97, 120, 45, 97, 103, 101, 61, 53])] 1970 0 [100] = false from by kernel_rfl] at h
  exact h
set_option maxRecDepth 100000 in
theorem km4 (W : World) (vq ve : Value) (hq : FL W vq []) (he : FL W ve [([99, 97, 99, 104, 101, 45, 99, 111, 110, 116, 114, 111, 108], [109, 97, 120, 45, 97, 103, 101, 61, 53])]) (hm : MaxD W) (ht : Tabs W) : Calls Tryz.prog 8 #[.string ⟨#[103, 101, 116]⟩, vq, .agg #[.int .i64 200, .string ⟨#[]⟩, .int .i64 0, ve, .string ⟨#[]⟩, .int .i64 0, .int .i64 0, .slice none 0 0], .string ⟨#[100]⟩] W fun e w' => e = .returned (.bool false) ∧ Below W.heap.size W w' := by
  have h := smay_any (st := 200) (mi := 0) (asked := 0) (got := 0) (Y := 1970) (re := ⟨#[]⟩) (bo := ⟨#[]⟩) (vA := none) (vn := 0) (vc := 0) [103, 101, 116] [100] W hq (by decide) ⟨he, by decide, hm, ht, ny00, by decide, by decide, by decide, by decide⟩
  rw [show stoB [103, 101, 116] 200 [] [([99, 97, 99, 104, 101, 45, 99, 111, 110, 116, 114, 111, 108], [109, 97, 120, 45, 97, 103, 101, 61, 53])] 1970 0 [100] = false from by kernel_rfl] at h
  exact h
set_option maxRecDepth 100000 in
theorem km5 (W : World) (vq ve : Value) (hq : FL W vq [([99, 97, 99, 104, 101, 45, 99, 111, 110, 116, 114, 111, 108], [78, 111, 45, 83, 116, 111, 114, 101])]) (he : FL W ve [([99, 97, 99, 104, 101, 45, 99, 111, 110, 116, 114, 111, 108], [109, 97, 120, 45, 97, 103, 101, 61, 53])]) (hm : MaxD W) (ht : Tabs W) : Calls Tryz.prog 8 #[.string ⟨#[71, 69, 84]⟩, vq, .agg #[.int .i64 200, .string ⟨#[]⟩, .int .i64 0, ve, .string ⟨#[]⟩, .int .i64 0, .int .i64 0, .slice none 0 0], .string ⟨#[100]⟩] W fun e w' => e = .returned (.bool false) ∧ Below W.heap.size W w' := by
  have h := smay_any (st := 200) (mi := 0) (asked := 0) (got := 0) (Y := 1970) (re := ⟨#[]⟩) (bo := ⟨#[]⟩) (vA := none) (vn := 0) (vc := 0) [71, 69, 84] [100] W hq (by decide) ⟨he, by decide, hm, ht, ny00, by decide, by decide, by decide, by decide⟩
  rw [show stoB [71, 69, 84] 200 [([99, 97, 99, 104, 101, 45, 99, 111, 110, 116, 114, 111, 108], [78, 111, 45, 83, 116, 111, 114, 101])] [([99, 97, 99, 104, 101, 45, 99, 111, 110, 116, 114, 111, 108], [109, 97, 120, 45, 97, 103, 101, 61, 53])] 1970 0 [100] = false from by kernel_rfl] at h
  exact h
set_option maxRecDepth 100000 in
theorem km6 (W : World) (vq ve : Value) (hq : FL W vq [([99, 111, 111, 107, 105, 101], [97, 61, 98])]) (he : FL W ve [([99, 97, 99, 104, 101, 45, 99, 111, 110, 116, 114, 111, 108], [109, 97, 120, 45, 97, 103, 101, 61, 53])]) (hm : MaxD W) (ht : Tabs W) : Calls Tryz.prog 8 #[.string ⟨#[71, 69, 84]⟩, vq, .agg #[.int .i64 200, .string ⟨#[]⟩, .int .i64 0, ve, .string ⟨#[]⟩, .int .i64 0, .int .i64 0, .slice none 0 0], .string ⟨#[100]⟩] W fun e w' => e = .returned (.bool true) ∧ Below W.heap.size W w' := by
  have h := smay_any (st := 200) (mi := 0) (asked := 0) (got := 0) (Y := 1970) (re := ⟨#[]⟩) (bo := ⟨#[]⟩) (vA := none) (vn := 0) (vc := 0) [71, 69, 84] [100] W hq (by decide) ⟨he, by decide, hm, ht, ny00, by decide, by decide, by decide, by decide⟩
  rw [show stoB [71, 69, 84] 200 [([99, 111, 111, 107, 105, 101], [97, 61, 98])] [([99, 97, 99, 104, 101, 45, 99, 111, 110, 116, 114, 111, 108], [109, 97, 120, 45, 97, 103, 101, 61, 53])] 1970 0 [100] = true from by kernel_rfl] at h
  exact h
set_option maxRecDepth 100000 in
set_option maxHeartbeats 8000000 in
theorem storableKnown_law (w : World) (hm : MaxD w) (htp : TabsP w) : Calls Tryz.prog 5 #[] w fun e w' => e = .returned (.bool true) ∧ Below w.heap.size w w' := by
  have ht := htp.2
  have HP := Lib.hid fun W (hb : Below w.heap.size w W) => put50 W (htp.below hb)
  have HWK := Lib.hid fun W (hb : Below w.heap.size w W) => sworks_any W (hm.bel hb) (ht.below hb)
  have KA0 := Lib.hid fun W (hb : Below w.heap.size w W) => ka0 W (hm.bel hb) (ht.below hb)
  have KA1 := Lib.hid fun W (hb : Below w.heap.size w W) => ka1 W (hm.bel hb) (ht.below hb)
  have KA2 := Lib.hid fun W (hb : Below w.heap.size w W) => ka2 W (hm.bel hb) (ht.below hb)
  have KA3 := Lib.hid fun W (hb : Below w.heap.size w W) => ka3 W (hm.bel hb) (ht.below hb)
  have KA4 := Lib.hid fun W (hb : Below w.heap.size w W) => ka4 W (hm.bel hb) (ht.below hb)
  have KA5 := Lib.hid fun W (hb : Below w.heap.size w W) => ka5 W (hm.bel hb) (ht.below hb)
  have KB0 := Lib.hid fun W (hb : Below w.heap.size w W) => kb0 W (hm.bel hb) (ht.below hb)
  have KB1 := Lib.hid fun W (hb : Below w.heap.size w W) => kb1 W (hm.bel hb) (ht.below hb)
  have KB2 := Lib.hid fun W (hb : Below w.heap.size w W) => kb2 W (hm.bel hb) (ht.below hb)
  have KB3 := Lib.hid fun W (hb : Below w.heap.size w W) => kb3 W (hm.bel hb) (ht.below hb)
  have KB4 := Lib.hid fun W (hb : Below w.heap.size w W) => kb4 W (hm.bel hb) (ht.below hb)
  have KB5 := Lib.hid fun W (hb : Below w.heap.size w W) => kb5 W (hm.bel hb) (ht.below hb)
  have KM0 := Lib.hid fun W vq ve (hb : Below w.heap.size w W) hq he => km0 W vq ve hq he (hm.bel hb) (ht.below hb)
  have KM1 := Lib.hid fun W vq ve (hb : Below w.heap.size w W) hq he => km1 W vq ve hq he (hm.bel hb) (ht.below hb)
  have KM2 := Lib.hid fun W vq ve (hb : Below w.heap.size w W) hq he => km2 W vq ve hq he (hm.bel hb) (ht.below hb)
  have KM3 := Lib.hid fun W vq ve (hb : Below w.heap.size w W) hq he => km3 W vq ve hq he (hm.bel hb) (ht.below hb)
  have KM4 := Lib.hid fun W vq ve (hb : Below w.heap.size w W) hq he => km4 W vq ve hq he (hm.bel hb) (ht.below hb)
  have KM5 := Lib.hid fun W vq ve (hb : Below w.heap.size w W) hq he => km5 W vq ve hq he (hm.bel hb) (ht.below hb)
  have KM6 := Lib.hid fun W vq ve (hb : Below w.heap.size w W) hq he => km6 W vq ve hq he (hm.bel hb) (ht.below hb)
  clear hm ht htp
  go_enter Tryz.func5, Tryz.ntmps5
  go_wp2_with fail
  refine (HWK.out _ (Below.refl _ _)).mono ?_
  rintro e w1 ⟨rfl, hb⟩
  have HB1 : Hid (Below w.heap.size w w1) := hb; clear hb
  go_wp2_with fail
  refine (KA0.out _ HB1.out).mono ?_
  rintro e w2 ⟨rfl, hb⟩
  have HB2 : Hid (Below w.heap.size w w2) := HB1.out.trans (hb.mono HB1.out.size); clear hb
  go_wp2_with fail
  refine (KA1.out _ HB2.out).mono ?_
  rintro e w3 ⟨rfl, hb⟩
  have HB3 : Hid (Below w.heap.size w w3) := HB2.out.trans (hb.mono HB2.out.size); clear hb
  go_wp2_with fail
  refine (HP.out _ HB3.out).mono ?_
  rintro e w4 ⟨rfl, hb⟩
  have HB4 : Hid (Below w.heap.size w w4) := HB3.out.trans (hb.mono HB3.out.size); clear hb
  go_wp2_with fail
  refine (KA2.out _ HB4.out).mono ?_
  rintro e w5 ⟨rfl, hb⟩
  have HB5 : Hid (Below w.heap.size w w5) := HB4.out.trans (hb.mono HB4.out.size); clear hb
  go_wp2_with fail
  refine (KA3.out _ HB5.out).mono ?_
  rintro e w6 ⟨rfl, hb⟩
  have HB6 : Hid (Below w.heap.size w w6) := HB5.out.trans (hb.mono HB5.out.size); clear hb
  go_wp2_with fail
  refine (KA4.out _ HB6.out).mono ?_
  rintro e w7 ⟨rfl, hb⟩
  have HB7 : Hid (Below w.heap.size w w7) := HB6.out.trans (hb.mono HB6.out.size); clear hb
  go_wp2_with fail
  refine (KA5.out _ HB7.out).mono ?_
  rintro e w8 ⟨rfl, hb⟩
  have HB8 : Hid (Below w.heap.size w w8) := HB7.out.trans (hb.mono HB7.out.size); clear hb
  go_wp2_with fail
  refine (KB0.out _ HB8.out).mono ?_
  rintro e w9 ⟨rfl, hb⟩
  have HB9 : Hid (Below w.heap.size w w9) := HB8.out.trans (hb.mono HB8.out.size); clear hb
  go_wp2_with fail
  refine (KB1.out _ HB9.out).mono ?_
  rintro e w10 ⟨rfl, hb⟩
  have HB10 : Hid (Below w.heap.size w w10) := HB9.out.trans (hb.mono HB9.out.size); clear hb
  go_wp2_with fail
  refine (KB2.out _ HB10.out).mono ?_
  rintro e w11 ⟨rfl, hb⟩
  have HB11 : Hid (Below w.heap.size w w11) := HB10.out.trans (hb.mono HB10.out.size); clear hb
  go_wp2_with fail
  refine (KB3.out _ HB11.out).mono ?_
  rintro e w12 ⟨rfl, hb⟩
  have HB12 : Hid (Below w.heap.size w w12) := HB11.out.trans (hb.mono HB11.out.size); clear hb
  go_wp2_with fail
  refine (KB4.out _ HB12.out).mono ?_
  rintro e w13 ⟨rfl, hb⟩
  have HB13 : Hid (Below w.heap.size w w13) := HB12.out.trans (hb.mono HB12.out.size); clear hb
  go_wp2_with fail
  refine (KB5.out _ HB13.out).mono ?_
  rintro e w14 ⟨rfl, hb⟩
  have HB14 : Hid (Below w.heap.size w w14) := HB13.out.trans (hb.mono HB13.out.size); clear hb
  have hal : Below w14.heap.size w14 (w14.alloc (.cells #[.string ⟨#[99, 97, 99, 104, 101, 45, 99, 111, 110, 116, 114, 111, 108]⟩, .string ⟨#[109, 97, 120, 45, 97, 103, 101, 61, 53]⟩] 9)) := (Below.refl _ _).alloc (Nat.le_refl _) _
  have hsl : SL (w14.alloc (.cells #[.string ⟨#[99, 97, 99, 104, 101, 45, 99, 111, 110, 116, 114, 111, 108]⟩, .string ⟨#[109, 97, 120, 45, 97, 103, 101, 61, 53]⟩] 9)) (.slice (some ⟨w14.heap.size, 0, none⟩) 2 2) (flatN [([99, 97, 99, 104, 101, 45, 99, 111, 110, 116, 114, 111, 108], [109, 97, 120, 45, 97, 103, 101, 61, 53])]) := SL_litsS w14 (flatN [([99, 97, 99, 104, 101, 45, 99, 111, 110, 116, 114, 111, 108], [109, 97, 120, 45, 97, 103, 101, 61, 53])])
  have HO := Lib.hid (sof16_any _ [([99, 97, 99, 104, 101, 45, 99, 111, 110, 116, 114, 111, 108], [109, 97, 120, 45, 97, 103, 101, 61, 53])] _ hsl (by decide))
  have HAL := Lib.hid hal; clear hal hsl
  go_wp2_with fail
  refine HO.out.mono ?_
  rintro e w15 ⟨u1, rfl, ho, hb0⟩
  have hb := HAL.out.trans (hb0.mono HAL.out.size)
  have HF1 := Lib.hid ho.fl; obtain ⟨A1, c1, rfl⟩ := ho.fl.form
  have HB15 : Hid (Below w.heap.size w w15) := HB14.out.trans (hb.mono HB14.out.size); clear hb hb0 ho HO HAL
  have hal : Below w15.heap.size w15 (w15.alloc (.cells #[.int .i64 200, .string ⟨#[]⟩, .int .i64 0, .slice A1 1 c1, .string ⟨#[]⟩, .int .i64 0, .int .i64 0, .slice none 0 0] 28)) := (Below.refl _ _).alloc (Nat.le_refl _) _
  have HD1 := Lib.hid (dbk.new w15 #[.int .i64 200, .string ⟨#[]⟩, .int .i64 0, .slice A1 1 c1, .string ⟨#[]⟩, .int .i64 0, .int .i64 0, .slice none 0 0] 28)
  replace HF1 := Lib.hid (HF1.out.bel hal)
  have HBx : Hid (Below w.heap.size w (w15.alloc (.cells #[.int .i64 200, .string ⟨#[]⟩, .int .i64 0, .slice A1 1 c1, .string ⟨#[]⟩, .int .i64 0, .int .i64 0, .slice none 0 0] 28))) := HB15.out.trans (hal.mono HB15.out.size); clear hal
  go_wp2_with fail
  try simp only [Exit.then]
  have hz1 : (w15.alloc (.cells #[.int .i64 200, .string ⟨#[]⟩, .int .i64 0, .slice A1 1 c1, .string ⟨#[]⟩, .int .i64 0, .int .i64 0, .slice none 0 0] 28)).heap.size = w15.heap.size + 1 := World.size_alloc _ _
  generalize hg1 : w15.alloc (.cells #[.int .i64 200, .string ⟨#[]⟩, .int .i64 0, .slice A1 1 c1, .string ⟨#[]⟩, .int .i64 0, .int .i64 0, .slice none 0 0] 28) = w16 at *
  generalize hs1 : w15.heap.size = g1 at *
  clear hg1 hs1
  have HB16 := HBx; clear HBx
  have hal : Below w16.heap.size w16 (w16.alloc (.cells #[.string ⟨#[99, 97, 99, 104, 101, 45, 99, 111, 110, 116, 114, 111, 108]⟩, .string ⟨#[109, 97, 120, 45, 97, 103, 101, 61, 53, 44, 32, 112, 117, 98, 108, 105, 99]⟩] 9)) := (Below.refl _ _).alloc (Nat.le_refl _) _
  have hsl : SL (w16.alloc (.cells #[.string ⟨#[99, 97, 99, 104, 101, 45, 99, 111, 110, 116, 114, 111, 108]⟩, .string ⟨#[109, 97, 120, 45, 97, 103, 101, 61, 53, 44, 32, 112, 117, 98, 108, 105, 99]⟩] 9)) (.slice (some ⟨w16.heap.size, 0, none⟩) 2 2) (flatN [([99, 97, 99, 104, 101, 45, 99, 111, 110, 116, 114, 111, 108], [109, 97, 120, 45, 97, 103, 101, 61, 53, 44, 32, 112, 117, 98, 108, 105, 99])]) := SL_litsS w16 (flatN [([99, 97, 99, 104, 101, 45, 99, 111, 110, 116, 114, 111, 108], [109, 97, 120, 45, 97, 103, 101, 61, 53, 44, 32, 112, 117, 98, 108, 105, 99])])
  rw [hz1] at hsl
  clear hz1
  have HO := Lib.hid (sof16_any _ [([99, 97, 99, 104, 101, 45, 99, 111, 110, 116, 114, 111, 108], [109, 97, 120, 45, 97, 103, 101, 61, 53, 44, 32, 112, 117, 98, 108, 105, 99])] _ hsl (by decide))
  have HAL := Lib.hid hal; clear hal hsl
  refine HO.out.mono ?_
  rintro e w17 ⟨u2, rfl, ho, hb0⟩
  have hb := HAL.out.trans (hb0.mono HAL.out.size)
  have HF2 := Lib.hid ho.fl; obtain ⟨A2, c2, rfl⟩ := ho.fl.form
  replace HF1 := Lib.hid (HF1.out.bel hb); replace HD1 := Lib.hid (HD1.out.below hb)
  have HB17 : Hid (Below w.heap.size w w17) := HB16.out.trans (hb.mono HB16.out.size); clear hb hb0 ho HO HAL
  have hal : Below w17.heap.size w17 (w17.alloc (.cells #[.int .i64 200, .string ⟨#[]⟩, .int .i64 0, .slice A2 1 c2, .string ⟨#[]⟩, .int .i64 0, .int .i64 0, .slice none 0 0] 28)) := (Below.refl _ _).alloc (Nat.le_refl _) _
  have HD2 := Lib.hid (dbk.new w17 #[.int .i64 200, .string ⟨#[]⟩, .int .i64 0, .slice A2 1 c2, .string ⟨#[]⟩, .int .i64 0, .int .i64 0, .slice none 0 0] 28)
  replace HF1 := Lib.hid (HF1.out.bel hal); replace HD1 := Lib.hid (HD1.out.below hal)
  replace HF2 := Lib.hid (HF2.out.bel hal)
  have HBx : Hid (Below w.heap.size w (w17.alloc (.cells #[.int .i64 200, .string ⟨#[]⟩, .int .i64 0, .slice A2 1 c2, .string ⟨#[]⟩, .int .i64 0, .int .i64 0, .slice none 0 0] 28))) := HB17.out.trans (hal.mono HB17.out.size); clear hal
  go_wp2_with fail
  try simp only [Exit.then]
  have hz2 : (w17.alloc (.cells #[.int .i64 200, .string ⟨#[]⟩, .int .i64 0, .slice A2 1 c2, .string ⟨#[]⟩, .int .i64 0, .int .i64 0, .slice none 0 0] 28)).heap.size = w17.heap.size + 1 := World.size_alloc _ _
  generalize hg2 : w17.alloc (.cells #[.int .i64 200, .string ⟨#[]⟩, .int .i64 0, .slice A2 1 c2, .string ⟨#[]⟩, .int .i64 0, .int .i64 0, .slice none 0 0] 28) = w18 at *
  generalize hs2 : w17.heap.size = g2 at *
  clear hg2 hs2
  have HB18 := HBx; clear HBx
  have hal : Below w18.heap.size w18 (w18.alloc (.cells #[.string ⟨#[99, 97, 99, 104, 101, 45, 99, 111, 110, 116, 114, 111, 108]⟩, .string ⟨#[109, 97, 120, 45, 97, 103, 101, 61, 53]⟩] 9)) := (Below.refl _ _).alloc (Nat.le_refl _) _
  have hsl : SL (w18.alloc (.cells #[.string ⟨#[99, 97, 99, 104, 101, 45, 99, 111, 110, 116, 114, 111, 108]⟩, .string ⟨#[109, 97, 120, 45, 97, 103, 101, 61, 53]⟩] 9)) (.slice (some ⟨w18.heap.size, 0, none⟩) 2 2) (flatN [([99, 97, 99, 104, 101, 45, 99, 111, 110, 116, 114, 111, 108], [109, 97, 120, 45, 97, 103, 101, 61, 53])]) := SL_litsS w18 (flatN [([99, 97, 99, 104, 101, 45, 99, 111, 110, 116, 114, 111, 108], [109, 97, 120, 45, 97, 103, 101, 61, 53])])
  rw [hz2] at hsl
  clear hz2
  have HO := Lib.hid (sof16_any _ [([99, 97, 99, 104, 101, 45, 99, 111, 110, 116, 114, 111, 108], [109, 97, 120, 45, 97, 103, 101, 61, 53])] _ hsl (by decide))
  have HAL := Lib.hid hal; clear hal hsl
  refine HO.out.mono ?_
  rintro e w19 ⟨u3, rfl, ho, hb0⟩
  have hb := HAL.out.trans (hb0.mono HAL.out.size)
  have HF3 := Lib.hid ho.fl; obtain ⟨A3, c3, rfl⟩ := ho.fl.form
  replace HF1 := Lib.hid (HF1.out.bel hb); replace HD1 := Lib.hid (HD1.out.below hb)
  replace HF2 := Lib.hid (HF2.out.bel hb); replace HD2 := Lib.hid (HD2.out.below hb)
  have HB19 : Hid (Below w.heap.size w w19) := HB18.out.trans (hb.mono HB18.out.size); clear hb hb0 ho HO HAL
  have hal : Below w19.heap.size w19 (w19.alloc (.cells #[.int .i64 302, .string ⟨#[]⟩, .int .i64 0, .slice A3 1 c3, .string ⟨#[]⟩, .int .i64 0, .int .i64 0, .slice none 0 0] 28)) := (Below.refl _ _).alloc (Nat.le_refl _) _
  have HD3 := Lib.hid (dbk.new w19 #[.int .i64 302, .string ⟨#[]⟩, .int .i64 0, .slice A3 1 c3, .string ⟨#[]⟩, .int .i64 0, .int .i64 0, .slice none 0 0] 28)
  replace HF1 := Lib.hid (HF1.out.bel hal); replace HD1 := Lib.hid (HD1.out.below hal)
  replace HF2 := Lib.hid (HF2.out.bel hal); replace HD2 := Lib.hid (HD2.out.below hal)
  replace HF3 := Lib.hid (HF3.out.bel hal)
  have HBx : Hid (Below w.heap.size w (w19.alloc (.cells #[.int .i64 302, .string ⟨#[]⟩, .int .i64 0, .slice A3 1 c3, .string ⟨#[]⟩, .int .i64 0, .int .i64 0, .slice none 0 0] 28))) := HB19.out.trans (hal.mono HB19.out.size); clear hal
  go_wp2_with fail
  try simp only [Exit.then]
  have hz3 : (w19.alloc (.cells #[.int .i64 302, .string ⟨#[]⟩, .int .i64 0, .slice A3 1 c3, .string ⟨#[]⟩, .int .i64 0, .int .i64 0, .slice none 0 0] 28)).heap.size = w19.heap.size + 1 := World.size_alloc _ _
  generalize hg3 : w19.alloc (.cells #[.int .i64 302, .string ⟨#[]⟩, .int .i64 0, .slice A3 1 c3, .string ⟨#[]⟩, .int .i64 0, .int .i64 0, .slice none 0 0] 28) = w20 at *
  generalize hs3 : w19.heap.size = g3 at *
  clear hg3 hs3
  have HB20 := HBx; clear HBx
  have hal : Below w20.heap.size w20 (w20.alloc (.cells #[.string ⟨#[65, 117, 116, 104, 111, 114, 105, 122, 97, 116, 105, 111, 110]⟩, .string ⟨#[120]⟩] 9)) := (Below.refl _ _).alloc (Nat.le_refl _) _
  have hsl : SL (w20.alloc (.cells #[.string ⟨#[65, 117, 116, 104, 111, 114, 105, 122, 97, 116, 105, 111, 110]⟩, .string ⟨#[120]⟩] 9)) (.slice (some ⟨w20.heap.size, 0, none⟩) 2 2) (flatN [([65, 117, 116, 104, 111, 114, 105, 122, 97, 116, 105, 111, 110], [120])]) := SL_litsS w20 (flatN [([65, 117, 116, 104, 111, 114, 105, 122, 97, 116, 105, 111, 110], [120])])
  rw [hz3] at hsl
  clear hz3
  have HO := Lib.hid (sof16_any _ [([65, 117, 116, 104, 111, 114, 105, 122, 97, 116, 105, 111, 110], [120])] _ hsl (by decide))
  have HAL := Lib.hid hal; clear hal hsl
  refine HO.out.mono ?_
  rintro e w21 ⟨u4, rfl, ho, hb0⟩
  have hb := HAL.out.trans (hb0.mono HAL.out.size)
  have HF4 := Lib.hid ho.fl; obtain ⟨A4, c4, rfl⟩ := ho.fl.form
  replace HF1 := Lib.hid (HF1.out.bel hb); replace HD1 := Lib.hid (HD1.out.below hb)
  replace HF2 := Lib.hid (HF2.out.bel hb); replace HD2 := Lib.hid (HD2.out.below hb)
  replace HF3 := Lib.hid (HF3.out.bel hb); replace HD3 := Lib.hid (HD3.out.below hb)
  have HB21 : Hid (Below w.heap.size w w21) := HB20.out.trans (hb.mono HB20.out.size); clear hb hb0 ho HO HAL
  go_wp2_with fail
  obtain ⟨C, hC⟩ : ∃ C, C = w21 := ⟨_, rfl⟩
  subst hC
  refine wp_region_growS (.one 0 false (.one 1 false (.one 2 true (.one 3 false (.one 4 false (.one 5 false (.one 6 false (.one 7 true (.one 8 false (.one 9 false (.one 10 false (.one 11 true (.one 12 false (.one 13 false (.one 14 false (.one 15 false (.one 16 true (.one 17 false (.one 18 false (.one 19 false (.one 20 false (.one 21 true (.one 22 false (.one 23 false (.one 24 false (.one 27 false (.one 25 true (.one 26 true (.one 28 true (.one 29 false (.one 30 false (.one 31 false (.one 34 false (.one 32 true (.one 33 true (.one 35 true (.one 36 false (.one 37 false (.one 38 true (.one 39 false (.one 40 false .done)))))))))))))))))))))))))))))))))))))))))
    (fun W => Below C.heap.size C W) (by kernel_rfl) (by kernel_rfl) rfl (by kernel_rfl) (by kernel_rfl) ((Below.refl _ _).drew) (fun ops hops => ?_)
  simp only [GT.ins, List.getD_cons_zero, List.getD_cons_succ]
  have g4 : (ops[4]?).bind (·.dst) = some 77 := by rw [hops.out]; rfl
  have g9 : (ops[9]?).bind (·.dst) = some 82 := by rw [hops.out]; rfl
  have g14 : (ops[14]?).bind (·.dst) = some 87 := by rw [hops.out]; rfl
  have g19 : (ops[19]?).bind (·.dst) = some 92 := by rw [hops.out]; rfl
  have g24 : (ops[24]?).bind (·.dst) = some 97 := by rw [hops.out]; rfl
  have g31 : (ops[31]?).bind (·.dst) = some 104 := by rw [hops.out]; rfl
  have g37 : (ops[37]?).bind (·.dst) = some 110 := by rw [hops.out]; rfl
  have G4 := Lib.hid g4
  have G9 := Lib.hid g9
  have G14 := Lib.hid g14
  have G19 := Lib.hid g19
  have G24 := Lib.hid g24
  have G31 := Lib.hid g31
  have G37 := Lib.hid g37
  clear hops g4 g9 g14 g19 g24 g31 g37
  iterate 2
    refine growS_take (by rfl) ?_
    apply Exists.intro
    refine ⟨fun w' hE => ?_, ?_⟩
    · obtain ⟨y10, y11, y12, y13, y14, y15, y16, y17⟩ := (HD1.out.below hE).eight; obtain ⟨y20, y21, y22, y23, y24, y25, y26, y27⟩ := (HD2.out.below hE).eight; obtain ⟨y30, y31, y32, y33, y34, y35, y36, y37⟩ := (HD3.out.below hE).eight
      go_simp
      try with_reducible rfl
    simp only [Act.put, List.setIfInBounds_toArray, List.set_cons_zero, List.set_cons_succ]
  refine growS_call (by rfl) (fun K hK => ?_)
  go_simp
  refine (KM0.out _ _ _ (HB21.out.trans (((Below.refl _ _).drew : Below C.heap.size C C.drew).mono HB21.out.size)) (HF4.out.bel ((Below.refl _ _).drew : Below C.heap.size C C.drew)) (HF1.out.bel ((Below.refl _ _).drew : Below C.heap.size C C.drew))).mono ?_
  rintro e x1 ⟨rfl, hb⟩
  have hz : Below C.heap.size C x1 := ((Below.refl _ _).drew : Below C.heap.size C C.drew).trans (hb.mono ((Below.refl _ _).drew : Below C.heap.size C C.drew).size)
  have HZ1 := Lib.hid hz
  refine hK.out _ _ hz ?_
  clear hK K hb hz
  iterate 2
    refine growS_take (by rfl) ?_
    apply Exists.intro
    refine ⟨fun w' hE => ?_, ?_⟩
    · obtain ⟨y10, y11, y12, y13, y14, y15, y16, y17⟩ := (HD1.out.below hE).eight; obtain ⟨y20, y21, y22, y23, y24, y25, y26, y27⟩ := (HD2.out.below hE).eight; obtain ⟨y30, y31, y32, y33, y34, y35, y36, y37⟩ := (HD3.out.below hE).eight
      go_simp
      try with_reducible rfl
    simp only [Act.put, List.setIfInBounds_toArray, List.set_cons_zero, List.set_cons_succ]
  iterate 2
    refine growS_take (wantedS G4.out rfl rfl) ?_
    apply Exists.intro
    refine ⟨fun w' hE => ?_, ?_⟩
    · obtain ⟨y10, y11, y12, y13, y14, y15, y16, y17⟩ := (HD1.out.below hE).eight; obtain ⟨y20, y21, y22, y23, y24, y25, y26, y27⟩ := (HD2.out.below hE).eight; obtain ⟨y30, y31, y32, y33, y34, y35, y36, y37⟩ := (HD3.out.below hE).eight
      go_simp
      try with_reducible rfl
    simp only [Act.put, List.setIfInBounds_toArray, List.set_cons_zero, List.set_cons_succ]
  refine growS_call (wantedS G4.out rfl rfl) (fun K hK => ?_)
  go_simp
  refine (KM1.out _ _ _ (HB21.out.trans (HZ1.out.mono HB21.out.size)) (HF4.out.bel HZ1.out) (HF2.out.bel HZ1.out)).mono ?_
  rintro e x2 ⟨rfl, hb⟩
  have hz : Below C.heap.size C x2 := HZ1.out.trans (hb.mono HZ1.out.size)
  have HZ2 := Lib.hid hz
  refine hK.out _ _ hz ?_
  clear hK K hb hz
  iterate 2
    refine growS_take (by rfl) ?_
    apply Exists.intro
    refine ⟨fun w' hE => ?_, ?_⟩
    · obtain ⟨y10, y11, y12, y13, y14, y15, y16, y17⟩ := (HD1.out.below hE).eight; obtain ⟨y20, y21, y22, y23, y24, y25, y26, y27⟩ := (HD2.out.below hE).eight; obtain ⟨y30, y31, y32, y33, y34, y35, y36, y37⟩ := (HD3.out.below hE).eight
      go_simp
      try with_reducible rfl
    simp only [Act.put, List.setIfInBounds_toArray, List.set_cons_zero, List.set_cons_succ]
  iterate 1
    refine growS_take (wantedS G9.out rfl rfl) ?_
    apply Exists.intro
    refine ⟨fun w' hE => ?_, ?_⟩
    · obtain ⟨y10, y11, y12, y13, y14, y15, y16, y17⟩ := (HD1.out.below hE).eight; obtain ⟨y20, y21, y22, y23, y24, y25, y26, y27⟩ := (HD2.out.below hE).eight; obtain ⟨y30, y31, y32, y33, y34, y35, y36, y37⟩ := (HD3.out.below hE).eight
      go_simp
      try with_reducible rfl
    simp only [Act.put, List.setIfInBounds_toArray, List.set_cons_zero, List.set_cons_succ]
  refine growS_call (wantedS G9.out rfl rfl) (fun K hK => ?_)
  go_simp
  refine (KM2.out _ _ _ (HB21.out.trans (HZ2.out.mono HB21.out.size)) (FL_nil _) (HF3.out.bel HZ2.out)).mono ?_
  rintro e x3 ⟨rfl, hb⟩
  have hz : Below C.heap.size C x3 := HZ2.out.trans (hb.mono HZ2.out.size)
  have HZ3 := Lib.hid hz
  refine hK.out _ _ hz ?_
  clear hK K hb hz
  iterate 1
    refine growS_take (wantedS G9.out rfl rfl) ?_
    apply Exists.intro
    refine ⟨fun w' hE => ?_, ?_⟩
    · obtain ⟨y10, y11, y12, y13, y14, y15, y16, y17⟩ := (HD1.out.below hE).eight; obtain ⟨y20, y21, y22, y23, y24, y25, y26, y27⟩ := (HD2.out.below hE).eight; obtain ⟨y30, y31, y32, y33, y34, y35, y36, y37⟩ := (HD3.out.below hE).eight
      go_simp
      try with_reducible rfl
    simp only [Act.put, List.setIfInBounds_toArray, List.set_cons_zero, List.set_cons_succ]
  iterate 2
    refine growS_take (by rfl) ?_
    apply Exists.intro
    refine ⟨fun w' hE => ?_, ?_⟩
    · obtain ⟨y10, y11, y12, y13, y14, y15, y16, y17⟩ := (HD1.out.below hE).eight; obtain ⟨y20, y21, y22, y23, y24, y25, y26, y27⟩ := (HD2.out.below hE).eight; obtain ⟨y30, y31, y32, y33, y34, y35, y36, y37⟩ := (HD3.out.below hE).eight
      go_simp
      try with_reducible rfl
    simp only [Act.put, List.setIfInBounds_toArray, List.set_cons_zero, List.set_cons_succ]
  iterate 1
    refine growS_take (wantedS G14.out rfl rfl) ?_
    apply Exists.intro
    refine ⟨fun w' hE => ?_, ?_⟩
    · obtain ⟨y10, y11, y12, y13, y14, y15, y16, y17⟩ := (HD1.out.below hE).eight; obtain ⟨y20, y21, y22, y23, y24, y25, y26, y27⟩ := (HD2.out.below hE).eight; obtain ⟨y30, y31, y32, y33, y34, y35, y36, y37⟩ := (HD3.out.below hE).eight
      go_simp
      try with_reducible rfl
    simp only [Act.put, List.setIfInBounds_toArray, List.set_cons_zero, List.set_cons_succ]
  refine growS_call (wantedS G14.out rfl rfl) (fun K hK => ?_)
  go_simp
  refine (KM3.out _ _ _ (HB21.out.trans (HZ3.out.mono HB21.out.size)) (FL_nil _) (HF1.out.bel HZ3.out)).mono ?_
  rintro e x4 ⟨rfl, hb⟩
  have hz : Below C.heap.size C x4 := HZ3.out.trans (hb.mono HZ3.out.size)
  have HZ4 := Lib.hid hz
  refine hK.out _ _ hz ?_
  clear hK K hb hz
  iterate 1
    refine growS_take (wantedS G14.out rfl rfl) ?_
    apply Exists.intro
    refine ⟨fun w' hE => ?_, ?_⟩
    · obtain ⟨y10, y11, y12, y13, y14, y15, y16, y17⟩ := (HD1.out.below hE).eight; obtain ⟨y20, y21, y22, y23, y24, y25, y26, y27⟩ := (HD2.out.below hE).eight; obtain ⟨y30, y31, y32, y33, y34, y35, y36, y37⟩ := (HD3.out.below hE).eight
      go_simp
      try with_reducible rfl
    simp only [Act.put, List.setIfInBounds_toArray, List.set_cons_zero, List.set_cons_succ]
  iterate 2
    refine growS_take (by rfl) ?_
    apply Exists.intro
    refine ⟨fun w' hE => ?_, ?_⟩
    · obtain ⟨y10, y11, y12, y13, y14, y15, y16, y17⟩ := (HD1.out.below hE).eight; obtain ⟨y20, y21, y22, y23, y24, y25, y26, y27⟩ := (HD2.out.below hE).eight; obtain ⟨y30, y31, y32, y33, y34, y35, y36, y37⟩ := (HD3.out.below hE).eight
      go_simp
      try with_reducible rfl
    simp only [Act.put, List.setIfInBounds_toArray, List.set_cons_zero, List.set_cons_succ]
  iterate 1
    refine growS_take (wantedS G19.out rfl rfl) ?_
    apply Exists.intro
    refine ⟨fun w' hE => ?_, ?_⟩
    · obtain ⟨y10, y11, y12, y13, y14, y15, y16, y17⟩ := (HD1.out.below hE).eight; obtain ⟨y20, y21, y22, y23, y24, y25, y26, y27⟩ := (HD2.out.below hE).eight; obtain ⟨y30, y31, y32, y33, y34, y35, y36, y37⟩ := (HD3.out.below hE).eight
      go_simp
      try with_reducible rfl
    simp only [Act.put, List.setIfInBounds_toArray, List.set_cons_zero, List.set_cons_succ]
  refine growS_call (wantedS G19.out rfl rfl) (fun K hK => ?_)
  go_simp
  refine (KM4.out _ _ _ (HB21.out.trans (HZ4.out.mono HB21.out.size)) (FL_nil _) (HF1.out.bel HZ4.out)).mono ?_
  rintro e x5 ⟨rfl, hb⟩
  have hz : Below C.heap.size C x5 := HZ4.out.trans (hb.mono HZ4.out.size)
  have HZ5 := Lib.hid hz
  refine hK.out _ _ hz ?_
  clear hK K hb hz
  iterate 1
    refine growS_take (wantedS G19.out rfl rfl) ?_
    apply Exists.intro
    refine ⟨fun w' hE => ?_, ?_⟩
    · obtain ⟨y10, y11, y12, y13, y14, y15, y16, y17⟩ := (HD1.out.below hE).eight; obtain ⟨y20, y21, y22, y23, y24, y25, y26, y27⟩ := (HD2.out.below hE).eight; obtain ⟨y30, y31, y32, y33, y34, y35, y36, y37⟩ := (HD3.out.below hE).eight
      go_simp
      try with_reducible rfl
    simp only [Act.put, List.setIfInBounds_toArray, List.set_cons_zero, List.set_cons_succ]
  iterate 2
    refine growS_take (by rfl) ?_
    apply Exists.intro
    refine ⟨fun w' hE => ?_, ?_⟩
    · obtain ⟨y10, y11, y12, y13, y14, y15, y16, y17⟩ := (HD1.out.below hE).eight; obtain ⟨y20, y21, y22, y23, y24, y25, y26, y27⟩ := (HD2.out.below hE).eight; obtain ⟨y30, y31, y32, y33, y34, y35, y36, y37⟩ := (HD3.out.below hE).eight
      go_simp
      try with_reducible rfl
    simp only [Act.put, List.setIfInBounds_toArray, List.set_cons_zero, List.set_cons_succ]
  iterate 1
    refine growS_take (wantedS G24.out rfl rfl) ?_
    apply Exists.intro
    refine ⟨fun w' hE => ?_, ?_⟩
    · obtain ⟨y10, y11, y12, y13, y14, y15, y16, y17⟩ := (HD1.out.below hE).eight; obtain ⟨y20, y21, y22, y23, y24, y25, y26, y27⟩ := (HD2.out.below hE).eight; obtain ⟨y30, y31, y32, y33, y34, y35, y36, y37⟩ := (HD3.out.below hE).eight
      go_simp
      try with_reducible rfl
    simp only [Act.put, List.setIfInBounds_toArray, List.set_cons_zero, List.set_cons_succ]
  refine growS_call (wantedS G24.out rfl rfl) (fun K hK => ?_)
  go_simp
  have hal : Below x5.heap.size x5 (x5.alloc (.cells #[.string ⟨#[99, 97, 99, 104, 101, 45, 99, 111, 110, 116, 114, 111, 108]⟩, .string ⟨#[78, 111, 45, 83, 116, 111, 114, 101]⟩] 9)) := (Below.refl _ _).alloc (Nat.le_refl _) _
  have hz : Below C.heap.size C (x5.alloc (.cells #[.string ⟨#[99, 97, 99, 104, 101, 45, 99, 111, 110, 116, 114, 111, 108]⟩, .string ⟨#[78, 111, 45, 83, 116, 111, 114, 101]⟩] 9)) := HZ5.out.trans (hal.mono HZ5.out.size)
  have hsl : SL (x5.alloc (.cells #[.string ⟨#[99, 97, 99, 104, 101, 45, 99, 111, 110, 116, 114, 111, 108]⟩, .string ⟨#[78, 111, 45, 83, 116, 111, 114, 101]⟩] 9)) (.slice (some ⟨x5.heap.size, 0, none⟩) 2 2) (flatN [([99, 97, 99, 104, 101, 45, 99, 111, 110, 116, 114, 111, 108], [78, 111, 45, 83, 116, 111, 114, 101])]) := SL_litsS x5 (flatN [([99, 97, 99, 104, 101, 45, 99, 111, 110, 116, 114, 111, 108], [78, 111, 45, 83, 116, 111, 114, 101])])
  have HZ6 := Lib.hid hz; have HSL6 := Lib.hid hsl
  refine hK.out _ _ hz ?_
  clear hK K hal hz hsl
  generalize hgx : x5.alloc (.cells #[.string ⟨#[99, 97, 99, 104, 101, 45, 99, 111, 110, 116, 114, 111, 108]⟩, .string ⟨#[78, 111, 45, 83, 116, 111, 114, 101]⟩] 9) = x6 at *
  generalize hgs : x5.heap.size = s6 at *
  clear hgx hgs
  refine growS_call (wantedS G24.out rfl rfl) (fun K hK => ?_)
  go_simp
  refine (sof16_any _ [([99, 97, 99, 104, 101, 45, 99, 111, 110, 116, 114, 111, 108], [78, 111, 45, 83, 116, 111, 114, 101])] _ HSL6.out (by decide)).mono ?_
  rintro e x7 ⟨u, rfl, ho, hb⟩
  have hz : Below C.heap.size C x7 := HZ6.out.trans (hb.mono HZ6.out.size)
  have HZ7 := Lib.hid hz; have HO7 := Lib.hid ho.fl
  obtain ⟨uA, uc, rfl⟩ := ho.fl.form
  refine hK.out _ _ hz ?_
  clear hK K hb hz ho
  refine growS_call (wantedS G24.out rfl rfl) (fun K hK => ?_)
  go_simp
  refine (KM5.out _ _ _ (HB21.out.trans (HZ7.out.mono HB21.out.size)) HO7.out (HF1.out.bel HZ7.out)).mono ?_
  rintro e x8 ⟨rfl, hb⟩
  have hz : Below C.heap.size C x8 := HZ7.out.trans (hb.mono HZ7.out.size)
  have HZ8 := Lib.hid hz
  refine hK.out _ _ hz ?_
  clear hK K hb hz
  iterate 1
    refine growS_take (wantedS G24.out rfl rfl) ?_
    apply Exists.intro
    refine ⟨fun w' hE => ?_, ?_⟩
    · obtain ⟨y10, y11, y12, y13, y14, y15, y16, y17⟩ := (HD1.out.below hE).eight; obtain ⟨y20, y21, y22, y23, y24, y25, y26, y27⟩ := (HD2.out.below hE).eight; obtain ⟨y30, y31, y32, y33, y34, y35, y36, y37⟩ := (HD3.out.below hE).eight
      go_simp
      try with_reducible rfl
    simp only [Act.put, List.setIfInBounds_toArray, List.set_cons_zero, List.set_cons_succ]
  iterate 2
    refine growS_take (by rfl) ?_
    apply Exists.intro
    refine ⟨fun w' hE => ?_, ?_⟩
    · obtain ⟨y10, y11, y12, y13, y14, y15, y16, y17⟩ := (HD1.out.below hE).eight; obtain ⟨y20, y21, y22, y23, y24, y25, y26, y27⟩ := (HD2.out.below hE).eight; obtain ⟨y30, y31, y32, y33, y34, y35, y36, y37⟩ := (HD3.out.below hE).eight
      go_simp
      try with_reducible rfl
    simp only [Act.put, List.setIfInBounds_toArray, List.set_cons_zero, List.set_cons_succ]
  iterate 1
    refine growS_take (wantedS G31.out rfl rfl) ?_
    apply Exists.intro
    refine ⟨fun w' hE => ?_, ?_⟩
    · obtain ⟨y10, y11, y12, y13, y14, y15, y16, y17⟩ := (HD1.out.below hE).eight; obtain ⟨y20, y21, y22, y23, y24, y25, y26, y27⟩ := (HD2.out.below hE).eight; obtain ⟨y30, y31, y32, y33, y34, y35, y36, y37⟩ := (HD3.out.below hE).eight
      go_simp
      try with_reducible rfl
    simp only [Act.put, List.setIfInBounds_toArray, List.set_cons_zero, List.set_cons_succ]
  refine growS_call (wantedS G31.out rfl rfl) (fun K hK => ?_)
  go_simp
  have hal : Below x8.heap.size x8 (x8.alloc (.cells #[.string ⟨#[99, 111, 111, 107, 105, 101]⟩, .string ⟨#[97, 61, 98]⟩] 9)) := (Below.refl _ _).alloc (Nat.le_refl _) _
  have hz : Below C.heap.size C (x8.alloc (.cells #[.string ⟨#[99, 111, 111, 107, 105, 101]⟩, .string ⟨#[97, 61, 98]⟩] 9)) := HZ8.out.trans (hal.mono HZ8.out.size)
  have hsl : SL (x8.alloc (.cells #[.string ⟨#[99, 111, 111, 107, 105, 101]⟩, .string ⟨#[97, 61, 98]⟩] 9)) (.slice (some ⟨x8.heap.size, 0, none⟩) 2 2) (flatN [([99, 111, 111, 107, 105, 101], [97, 61, 98])]) := SL_litsS x8 (flatN [([99, 111, 111, 107, 105, 101], [97, 61, 98])])
  have HZ9 := Lib.hid hz; have HSL9 := Lib.hid hsl
  refine hK.out _ _ hz ?_
  clear hK K hal hz hsl
  generalize hgx : x8.alloc (.cells #[.string ⟨#[99, 111, 111, 107, 105, 101]⟩, .string ⟨#[97, 61, 98]⟩] 9) = x9 at *
  generalize hgs : x8.heap.size = s9 at *
  clear hgx hgs
  refine growS_call (wantedS G31.out rfl rfl) (fun K hK => ?_)
  go_simp
  refine (sof16_any _ [([99, 111, 111, 107, 105, 101], [97, 61, 98])] _ HSL9.out (by decide)).mono ?_
  rintro e x10 ⟨u, rfl, ho, hb⟩
  have hz : Below C.heap.size C x10 := HZ9.out.trans (hb.mono HZ9.out.size)
  have HZ10 := Lib.hid hz; have HO10 := Lib.hid ho.fl
  obtain ⟨uA, uc, rfl⟩ := ho.fl.form
  refine hK.out _ _ hz ?_
  clear hK K hb hz ho
  refine growS_call (wantedS G31.out rfl rfl) (fun K hK => ?_)
  go_simp
  refine (KM6.out _ _ _ (HB21.out.trans (HZ10.out.mono HB21.out.size)) HO10.out (HF1.out.bel HZ10.out)).mono ?_
  rintro e x11 ⟨rfl, hb⟩
  have hz : Below C.heap.size C x11 := HZ10.out.trans (hb.mono HZ10.out.size)
  have HZ11 := Lib.hid hz
  refine hK.out _ _ hz ?_
  clear hK K hb hz
  iterate 2
    refine growS_take (by rfl) ?_
    apply Exists.intro
    refine ⟨fun w' hE => ?_, ?_⟩
    · obtain ⟨y10, y11, y12, y13, y14, y15, y16, y17⟩ := (HD1.out.below hE).eight; obtain ⟨y20, y21, y22, y23, y24, y25, y26, y27⟩ := (HD2.out.below hE).eight; obtain ⟨y30, y31, y32, y33, y34, y35, y36, y37⟩ := (HD3.out.below hE).eight
      go_simp
      try with_reducible rfl
    simp only [Act.put, List.setIfInBounds_toArray, List.set_cons_zero, List.set_cons_succ]
  refine growS_call (wantedS G37.out rfl rfl) (fun K hK => ?_)
  go_simp
  refine (HWK.out _ (HB21.out.trans (HZ11.out.mono HB21.out.size))).mono ?_
  rintro e x12 ⟨rfl, hb⟩
  have hz : Below C.heap.size C x12 := HZ11.out.trans (hb.mono HZ11.out.size)
  have HZ12 := Lib.hid hz
  refine hK.out _ _ hz ?_
  clear hK K hb hz
  iterate 2
    refine growS_take (by rfl) ?_
    apply Exists.intro
    refine ⟨fun w' hE => ?_, ?_⟩
    · obtain ⟨y10, y11, y12, y13, y14, y15, y16, y17⟩ := (HD1.out.below hE).eight; obtain ⟨y20, y21, y22, y23, y24, y25, y26, y27⟩ := (HD2.out.below hE).eight; obtain ⟨y30, y31, y32, y33, y34, y35, y36, y37⟩ := (HD3.out.below hE).eight
      go_simp
      try with_reducible rfl
    simp only [Act.put, List.setIfInBounds_toArray, List.set_cons_zero, List.set_cons_succ]
  refine growS_done (NoPanic.normal ?_)
  try simp only [Exit.then]
  go_wp2_with fail
  go_ret
  exact ⟨rfl, HB21.out.trans (HZ12.out.mono HB21.out.size)⟩
end Go.Proofs.YtfobjaccpnondaaGreatDoor
