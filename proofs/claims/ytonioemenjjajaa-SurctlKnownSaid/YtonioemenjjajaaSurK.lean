/- The statement SurctlKnown. -/
import Derived.Test.YtonioemenjjajaaSurH
import Derived.Test.YtonioemenjjajaaDirH
namespace Go.Proofs.Ytonioemenjjajaa
open Go.RowKit

theorem kn1 (w : World) (hm : MaxD w) : Calls Try.prog 21 #[.string ⟨#[120]⟩, .agg #[.bool false, .bool false, .bool false, .bool false, .int .i64 0, .int .i64 0]] w fun e w' => e = .returned (.bool true) ∧ Below w.heap.size w w' :=
  says_is [120] (false, false, false, false, 0, 0) (by decide) (by kernel_rfl) w hm
theorem kn2 (w : World) (hm : MaxD w) : Calls Try.prog 21 #[.string ⟨#[109, 97, 120, 45, 97, 103, 101, 61, 54, 48, 59, 101, 44, 32, 110, 111, 45, 115, 116, 111, 114, 101, 59, 100]⟩, .agg #[.bool true, .bool false, .bool false, .bool false, .int .i64 0, .int .i64 0]] w fun e w' => e = .returned (.bool true) ∧ Below w.heap.size w w' :=
  says_is [109, 97, 120, 45, 97, 103, 101, 61, 54, 48, 59, 101, 44, 32, 110, 111, 45, 115, 116, 111, 114, 101, 59, 100] (true, false, false, false, 0, 0) (by decide) (by kernel_rfl) w hm
theorem kn3 (w : World) (hm : MaxD w) : Calls Try.prog 21 #[.string ⟨#[99, 111, 110, 116, 101, 110, 116, 61, 34, 97, 32, 69, 83, 73, 47, 49, 46, 48, 34, 59, 100, 44, 32, 99, 111, 110, 116, 101, 110, 116, 61, 34, 120, 34]⟩, .agg #[.bool false, .bool false, .bool true, .bool false, .int .i64 0, .int .i64 0]] w fun e w' => e = .returned (.bool true) ∧ Below w.heap.size w w' :=
  says_is [99, 111, 110, 116, 101, 110, 116, 61, 34, 97, 32, 69, 83, 73, 47, 49, 46, 48, 34, 59, 100, 44, 32, 99, 111, 110, 116, 101, 110, 116, 61, 34, 120, 34] (false, false, true, false, 0, 0) (by decide) (by kernel_rfl) w hm
theorem kn4 (w : World) (hm : MaxD w) : Calls Try.prog 21 #[.string ⟨#[99, 111, 110, 116, 101, 110, 116, 61, 69, 83, 73, 47, 49, 46, 48]⟩, .agg #[.bool false, .bool false, .bool false, .bool false, .int .i64 0, .int .i64 0]] w fun e w' => e = .returned (.bool true) ∧ Below w.heap.size w w' :=
  says_is [99, 111, 110, 116, 101, 110, 116, 61, 69, 83, 73, 47, 49, 46, 48] (false, false, false, false, 0, 0) (by decide) (by kernel_rfl) w hm
theorem kn5 (w : World) (hm : MaxD w) : Calls Try.prog 21 #[.string ⟨#[99, 111, 110, 116, 101, 110, 116, 61, 34, 101, 115, 105, 47, 49, 46, 48, 34]⟩, .agg #[.bool false, .bool false, .bool false, .bool false, .int .i64 0, .int .i64 0]] w fun e w' => e = .returned (.bool true) ∧ Below w.heap.size w w' :=
  says_is [99, 111, 110, 116, 101, 110, 116, 61, 34, 101, 115, 105, 47, 49, 46, 48, 34] (false, false, false, false, 0, 0) (by decide) (by kernel_rfl) w hm
theorem kn6 (w : World) (hm : MaxD w) : Calls Try.prog 21 #[.string ⟨#[67, 79, 78, 84, 69, 78, 84, 61, 34, 69, 83, 73, 47, 49, 46, 48, 92, 116, 98, 34]⟩, .agg #[.bool false, .bool false, .bool false, .bool false, .int .i64 0, .int .i64 0]] w fun e w' => e = .returned (.bool true) ∧ Below w.heap.size w w' :=
  says_is [67, 79, 78, 84, 69, 78, 84, 61, 34, 69, 83, 73, 47, 49, 46, 48, 92, 116, 98, 34] (false, false, false, false, 0, 0) (by decide) (by kernel_rfl) w hm
theorem kn7 (w : World) (hm : MaxD w) : Calls Try.prog 21 #[.string ⟨#[67, 79, 78, 84, 69, 78, 84, 61, 34, 98, 9, 69, 83, 73, 47, 49, 46, 48, 34]⟩, .agg #[.bool false, .bool false, .bool true, .bool false, .int .i64 0, .int .i64 0]] w fun e w' => e = .returned (.bool true) ∧ Below w.heap.size w w' :=
  says_is [67, 79, 78, 84, 69, 78, 84, 61, 34, 98, 9, 69, 83, 73, 47, 49, 46, 48, 34] (false, false, true, false, 0, 0) (by decide) (by kernel_rfl) w hm
theorem kn8 (w : World) (hm : MaxD w) : Calls Try.prog 21 #[.string ⟨#[109, 97, 120, 45, 97, 103, 101]⟩, .agg #[.bool false, .bool false, .bool false, .bool true, .int .i64 0, .int .i64 0]] w fun e w' => e = .returned (.bool true) ∧ Below w.heap.size w w' :=
  says_is [109, 97, 120, 45, 97, 103, 101] (false, false, false, true, 0, 0) (by decide) (by kernel_rfl) w hm
theorem kn9 (w : World) (hm : MaxD w) : Calls Try.prog 21 #[.string ⟨#[109, 97, 120, 45, 97, 103, 101, 61, 49, 43, 50, 43, 51]⟩, .agg #[.bool false, .bool false, .bool false, .bool true, .int .i64 0, .int .i64 0]] w fun e w' => e = .returned (.bool true) ∧ Below w.heap.size w w' :=
  says_is [109, 97, 120, 45, 97, 103, 101, 61, 49, 43, 50, 43, 51] (false, false, false, true, 0, 0) (by decide) (by kernel_rfl) w hm
theorem kn10 (w : World) (hm : MaxD w) : Calls Try.prog 21 #[.string ⟨#[109, 97, 120, 45, 97, 103, 101, 61, 43, 51]⟩, .agg #[.bool false, .bool false, .bool false, .bool true, .int .i64 0, .int .i64 0]] w fun e w' => e = .returned (.bool true) ∧ Below w.heap.size w w' :=
  says_is [109, 97, 120, 45, 97, 103, 101, 61, 43, 51] (false, false, false, true, 0, 0) (by decide) (by kernel_rfl) w hm
theorem kn11 (w : World) (hm : MaxD w) : Calls Try.prog 21 #[.string ⟨#[109, 97, 120, 45, 97, 103, 101, 61, 51, 43]⟩, .agg #[.bool false, .bool false, .bool false, .bool true, .int .i64 0, .int .i64 0]] w fun e w' => e = .returned (.bool true) ∧ Below w.heap.size w w' :=
  says_is [109, 97, 120, 45, 97, 103, 101, 61, 51, 43] (false, false, false, true, 0, 0) (by decide) (by kernel_rfl) w hm
theorem kn12 (w : World) (hm : MaxD w) : Calls Try.prog 21 #[.string ⟨#[109, 97, 120, 45, 97, 103, 101, 61, 34, 55, 34]⟩, .agg #[.bool false, .bool false, .bool false, .bool true, .int .i64 7, .int .i64 0]] w fun e w' => e = .returned (.bool true) ∧ Below w.heap.size w w' :=
  says_is [109, 97, 120, 45, 97, 103, 101, 61, 34, 55, 34] (false, false, false, true, 7, 0) (by decide) (by kernel_rfl) w hm
theorem kn13 (w : World) (hm : MaxD w) : Calls Try.prog 21 #[.string ⟨#[109, 97, 120, 45, 97, 103, 101, 61, 57, 57, 57, 57, 57, 57, 57, 57, 57, 57, 57, 43, 49]⟩, .agg #[.bool false, .bool false, .bool false, .bool true, .int .i64 2147483648, .int .i64 1]] w fun e w' => e = .returned (.bool true) ∧ Below w.heap.size w w' :=
  says_is [109, 97, 120, 45, 97, 103, 101, 61, 57, 57, 57, 57, 57, 57, 57, 57, 57, 57, 57, 43, 49] (false, false, false, true, 2147483648, 1) (by decide) (by kernel_rfl) w hm
theorem kn14 (w : World) (hm : MaxD w) : Calls Try.prog 21 #[.string ⟨#[109, 97, 120, 45, 97, 103, 101, 61, 49, 44, 32, 109, 97, 120, 45, 97, 103, 101, 61, 50]⟩, .agg #[.bool false, .bool false, .bool false, .bool true, .int .i64 1, .int .i64 0]] w fun e w' => e = .returned (.bool true) ∧ Below w.heap.size w w' :=
  says_is [109, 97, 120, 45, 97, 103, 101, 61, 49, 44, 32, 109, 97, 120, 45, 97, 103, 101, 61, 50] (false, false, false, true, 1, 0) (by decide) (by kernel_rfl) w hm
theorem kn15 (w : World) (hm : MaxD w) : Calls Try.prog 21 #[.string ⟨#[97, 61, 34]⟩, .agg #[.bool true, .bool false, .bool false, .bool false, .int .i64 0, .int .i64 0]] w fun e w' => e = .returned (.bool true) ∧ Below w.heap.size w w' :=
  says_is [97, 61, 34] (true, false, false, false, 0, 0) (by decide) (by kernel_rfl) w hm
theorem kn16 (w : World) (hm : MaxD w) : Calls Try.prog 21 #[.string ⟨#[110, 111, 45, 115, 116, 111, 114, 101, 59, 100, 59, 101]⟩, .agg #[.bool false, .bool false, .bool false, .bool false, .int .i64 0, .int .i64 0]] w fun e w' => e = .returned (.bool true) ∧ Below w.heap.size w w' :=
  says_is [110, 111, 45, 115, 116, 111, 114, 101, 59, 100, 59, 101] (false, false, false, false, 0, 0) (by decide) (by kernel_rfl) w hm
theorem kn17 (w : World) (hm : MaxD w) : Calls Try.prog 21 #[.string ⟨#[110, 111, 45, 115, 116, 111, 114, 101, 59, 40, 100, 41]⟩, .agg #[.bool false, .bool false, .bool false, .bool false, .int .i64 0, .int .i64 0]] w fun e w' => e = .returned (.bool true) ∧ Below w.heap.size w w' :=
  says_is [110, 111, 45, 115, 116, 111, 114, 101, 59, 40, 100, 41] (false, false, false, false, 0, 0) (by decide) (by kernel_rfl) w hm
theorem kn18 (w : World) (hm : MaxD w) : Calls Try.prog 21 #[.string ⟨#[110, 111, 45, 115, 116, 111, 114, 101, 45, 114, 101, 109, 111, 116, 101, 32, 59, 32, 100]⟩, .agg #[.bool false, .bool true, .bool false, .bool false, .int .i64 0, .int .i64 0]] w fun e w' => e = .returned (.bool true) ∧ Below w.heap.size w w' :=
  says_is [110, 111, 45, 115, 116, 111, 114, 101, 45, 114, 101, 109, 111, 116, 101, 32, 59, 32, 100] (false, true, false, false, 0, 0) (by decide) (by kernel_rfl) w hm
theorem kn_nil (w : World) (hm : MaxD w) : Calls Try.prog 16 #[.slice none 0 0, .string ⟨#[100]⟩] w fun e w' => e = .returned (.agg #[.bool false, .bool false, .bool false, .bool false, .int .i64 0, .int .i64 0]) ∧ Below w.heap.size w w' := by
  have h := sof_any (.slice none 0 0) [] [100] w hm (SL_nil w) (fun x hx => by cases hx) (by simp)
  rw [show ofC [] [100] = ctl0 from by kernel_rfl] at h
  exact h
theorem kn_two (w : World) (hm : MaxD w) : Calls Try.prog 16 #[.slice (some ⟨w.heap.size, 0, none⟩) 2 2, .string ⟨#[]⟩] (w.alloc (.cells #[.string ⟨#[110, 111, 45, 115, 116, 111, 114, 101, 59, 100]⟩, .string ⟨#[109, 97, 120, 45, 97, 103, 101, 61, 50]⟩] 9)) fun e w' => e = .returned (.agg #[.bool false, .bool false, .bool false, .bool true, .int .i64 2, .int .i64 0]) ∧ Below w.heap.size w w' := by
  have hb : Below w.heap.size w (w.alloc (.cells #[.string ⟨#[110, 111, 45, 115, 116, 111, 114, 101, 59, 100]⟩, .string ⟨#[109, 97, 120, 45, 97, 103, 101, 61, 50]⟩] 9)) := (Below.refl _ _).alloc (Nat.le_refl _) _
  have hsl : SL (w.alloc (.cells #[.string ⟨#[110, 111, 45, 115, 116, 111, 114, 101, 59, 100]⟩, .string ⟨#[109, 97, 120, 45, 97, 103, 101, 61, 50]⟩] 9)) (.slice (some ⟨w.heap.size, 0, none⟩) 2 2) [[110, 111, 45, 115, 116, 111, 114, 101, 59, 100], [109, 97, 120, 45, 97, 103, 101, 61, 50]] := by
    refine .inr ⟨w.heap.size, 0, 2, rfl, by simp, fun j hj => ?_⟩
    have hn := dbk.new w #[.string ⟨#[110, 111, 45, 115, 116, 111, 114, 101, 59, 100]⟩, .string ⟨#[109, 97, 120, 45, 97, 103, 101, 61, 50]⟩] 9
    rw [Nat.zero_add]
    rcases (by have : j < 2 := hj; omega : j = 0 ∨ j = 1) with rfl | rfl
    · exact hn.cell 0 _ rfl
    · exact hn.cell 1 _ rfl
  have h := sof_any _ [[110, 111, 45, 115, 116, 111, 114, 101, 59, 100], [109, 97, 120, 45, 97, 103, 101, 61, 50]] [] _ (hm.bel hb) hsl (fun x hx => by
    simp only [List.mem_cons, List.not_mem_nil, or_false] at hx
    rcases hx with rfl | rfl <;> decide) (by decide)
  rw [show ofC [[110, 111, 45, 115, 116, 111, 114, 101, 59, 100], [109, 97, 120, 45, 97, 103, 101, 61, 50]] [] = (false, false, false, true, 2, 0) from by kernel_rfl] at h
  refine h.mono ?_
  rintro e w' ⟨he, hb2⟩
  exact ⟨he, hb.trans (hb2.mono hb.size)⟩
theorem kc_d (w : World) : Calls Try.prog 18 #[.string ⟨#[100]⟩] w fun e w' => e = .returned (.string ⟨#[100, 61, 34, 83, 117, 114, 114, 111, 103, 97, 116, 101, 47, 49, 46, 48, 32, 69, 83, 73, 47, 49, 46, 48, 34]⟩) ∧ w = w' := by
  have h := cap_any [100] w (by decide)
  rw [show capL [100] = [100, 61, 34, 83, 117, 114, 114, 111, 103, 97, 116, 101, 47, 49, 46, 48, 32, 69, 83, 73, 47, 49, 46, 48, 34] from by kernel_rfl] at h
  exact h
theorem kc_nil (w : World) : Calls Try.prog 18 #[.string ⟨#[]⟩] w fun e w' => e = .returned (.string ⟨#[]⟩) ∧ w = w' := by
  have h := cap_any [] w (by decide)
  rw [show capL [] = [] from by kernel_rfl] at h
  exact h
theorem kc_ab (w : World) : Calls Try.prog 18 #[.string ⟨#[97, 32, 98]⟩] w fun e w' => e = .returned (.string ⟨#[]⟩) ∧ w = w' := by
  have h := cap_any [97, 32, 98] w (by decide)
  rw [show capL [97, 32, 98] = [] from by kernel_rfl] at h
  exact h
theorem eql_zero (w : World) : (binOp .eql 32 (.agg #[.bool false, .bool false, .bool false, .bool false, .int .i64 0, .int .i64 0]) (.agg #[.bool false, .bool false, .bool false, .bool false, .int .i64 0, .int .i64 0])).run Try.prog w = .ok (.bool true) w := run_eqlC ctl0 ctl0 w
theorem neq_zero (w : World) : (binOp .neq 32 (.agg #[.bool false, .bool false, .bool false, .bool false, .int .i64 0, .int .i64 0]) (.agg #[.bool false, .bool false, .bool false, .bool false, .int .i64 0, .int .i64 0])).run Try.prog w = .ok (.bool false) w := by
  have u3 := Try.underlying3
  have a3 := Try.isAgg3
  have z3 := Try.sizeOf3
  have u4 := Try.underlying4
  have a4 := Try.isAgg4
  have z4 := Try.sizeOf4
  have hS : Try.prog.underlying 32 = some (.struct (Try.prog.fieldsOf 32)) := by kernel_rfl
  have hp : Try.prog.stoodInHeld 32 = false := by kernel_rfl
  rw [run_neq_struct, show (10000 : Nat) = 9999 + 1 from rfl, run_equalIn_agg w 9999 32 _ _ hS hp]
  simp only [Program.fieldsOf, Try.underlying32]
  go_simp
theorem eql_two (w : World) : (binOp .eql 32 (.agg #[.bool false, .bool false, .bool false, .bool true, .int .i64 2, .int .i64 0]) (.agg #[.bool false, .bool false, .bool false, .bool true, .int .i64 2, .int .i64 0])).run Try.prog w = .ok (.bool true) w := run_eqlC (false, false, false, true, 2, 0) (false, false, false, true, 2, 0) w
set_option maxRecDepth 100000 in
set_option maxHeartbeats 8000000 in
theorem surctlKnown_any (w : World) (hm : MaxD w) :
    Calls Try.prog 7 #[] w fun e w' => e = .returned (.bool true) ∧ Below w.heap.size w w' := by
  have HM := Lib.hid hm; clear hm
  have hb1 : Below w.heap.size w (w.alloc (.cells #[.bool false, .bool false, .bool false, .bool false, .int .i64 0, .int .i64 0] 32)) := (Below.refl _ _).alloc (Nat.le_refl _) _
  have hb2 : Below w.heap.size w ((w.alloc (.cells #[.bool false, .bool false, .bool false, .bool false, .int .i64 0, .int .i64 0] 32)).alloc (.cells #[.bool false, .bool false, .bool true, .bool false, .int .i64 0, .int .i64 0] 32)) := hb1.alloc hb1.size _
  have hb3 : Below w.heap.size w (((w.alloc (.cells #[.bool false, .bool false, .bool false, .bool false, .int .i64 0, .int .i64 0] 32)).alloc (.cells #[.bool false, .bool false, .bool true, .bool false, .int .i64 0, .int .i64 0] 32)).alloc (.cells #[.bool true, .bool false, .bool false, .bool false, .int .i64 0, .int .i64 0] 32)) := hb2.alloc hb2.size _
  have hN : dbk (((w.alloc (.cells #[.bool false, .bool false, .bool false, .bool false, .int .i64 0, .int .i64 0] 32)).alloc (.cells #[.bool false, .bool false, .bool true, .bool false, .int .i64 0, .int .i64 0] 32)).alloc (.cells #[.bool true, .bool false, .bool false, .bool false, .int .i64 0, .int .i64 0] 32)) w.heap.size #[.bool false, .bool false, .bool false, .bool false, .int .i64 0, .int .i64 0] := ((dbk.new w #[.bool false, .bool false, .bool false, .bool false, .int .i64 0, .int .i64 0] 32).alloc _).alloc _
  have hE0 := dbk.new (w.alloc (.cells #[.bool false, .bool false, .bool false, .bool false, .int .i64 0, .int .i64 0] 32)) #[.bool false, .bool false, .bool true, .bool false, .int .i64 0, .int .i64 0] 32
  have hO0 := dbk.new ((w.alloc (.cells #[.bool false, .bool false, .bool false, .bool false, .int .i64 0, .int .i64 0] 32)).alloc (.cells #[.bool false, .bool false, .bool true, .bool false, .int .i64 0, .int .i64 0] 32)) #[.bool true, .bool false, .bool false, .bool false, .int .i64 0, .int .i64 0] 32
  simp only [World.size_alloc] at hE0 hO0
  have hE : dbk (((w.alloc (.cells #[.bool false, .bool false, .bool false, .bool false, .int .i64 0, .int .i64 0] 32)).alloc (.cells #[.bool false, .bool false, .bool true, .bool false, .int .i64 0, .int .i64 0] 32)).alloc (.cells #[.bool true, .bool false, .bool false, .bool false, .int .i64 0, .int .i64 0] 32)) (w.heap.size + 1) #[.bool false, .bool false, .bool true, .bool false, .int .i64 0, .int .i64 0] := hE0.alloc _
  have hO : dbk (((w.alloc (.cells #[.bool false, .bool false, .bool false, .bool false, .int .i64 0, .int .i64 0] 32)).alloc (.cells #[.bool false, .bool false, .bool true, .bool false, .int .i64 0, .int .i64 0] 32)).alloc (.cells #[.bool true, .bool false, .bool false, .bool false, .int .i64 0, .int .i64 0] 32)) (w.heap.size + 1 + 1) #[.bool true, .bool false, .bool false, .bool false, .int .i64 0, .int .i64 0] := hO0
  have HN := Lib.hid hN; have HE := Lib.hid hE; have HO := Lib.hid hO; have HB := Lib.hid hb3
  clear hb1 hb2 hb3 hE0 hO0 hN hE hO
  have ez := neq_zero
  go_enter Try.func7, Try.ntmps7
  go_wp2_with fail
  generalize (((w.alloc (.cells #[.bool false, .bool false, .bool false, .bool false, .int .i64 0, .int .i64 0] 32)).alloc (.cells #[.bool false, .bool false, .bool true, .bool false, .int .i64 0, .int .i64 0] 32)).alloc (.cells #[.bool true, .bool false, .bool false, .bool false, .int .i64 0, .int .i64 0] 32)) = C at *
  refine wp_region_growS (.one 0 true (.one 1 false (.one 2 false (.one 4 false (.one 3 true (.one 5 false (.one 6 false (.one 7 false (.one 8 false (.one 9 true (.one 10 false (.one 11 false (.one 12 false (.one 13 false (.one 14 true (.one 15 false (.one 16 false (.one 17 false (.one 18 false (.one 19 true (.one 20 false (.one 21 false (.one 22 false (.one 23 false (.one 24 true (.one 25 false (.one 26 false (.one 27 false (.one 28 false (.one 29 true (.one 30 false (.one 31 false (.one 32 false (.one 33 false (.one 34 true (.one 35 false (.one 36 false (.one 37 false (.one 38 false (.one 39 true (.one 40 false (.one 41 false .done))))))))))))))))))))))))))))))))))))))))))
    (fun W => Below C.heap.size C W) (by kernel_rfl) (by kernel_rfl) rfl (by kernel_rfl) (by kernel_rfl) ((Below.refl _ _).drew) (fun ops hops => ?_)
  simp only [GT.ins, List.getD_cons_zero, List.getD_cons_succ]
  have g2 : (ops[2]?).bind (·.dst) = some 11 := by rw [hops.out]; rfl
  have g7 : (ops[7]?).bind (·.dst) = some 16 := by rw [hops.out]; rfl
  have g12 : (ops[12]?).bind (·.dst) = some 21 := by rw [hops.out]; rfl
  have g17 : (ops[17]?).bind (·.dst) = some 26 := by rw [hops.out]; rfl
  have g22 : (ops[22]?).bind (·.dst) = some 31 := by rw [hops.out]; rfl
  have g27 : (ops[27]?).bind (·.dst) = some 36 := by rw [hops.out]; rfl
  have g32 : (ops[32]?).bind (·.dst) = some 41 := by rw [hops.out]; rfl
  have g37 : (ops[37]?).bind (·.dst) = some 46 := by rw [hops.out]; rfl
  have G2 := Lib.hid g2
  have G7 := Lib.hid g7
  have G12 := Lib.hid g12
  have G17 := Lib.hid g17
  have G22 := Lib.hid g22
  have G27 := Lib.hid g27
  have G32 := Lib.hid g32
  have G37 := Lib.hid g37
  clear hops g2 g7 g12 g17 g22 g27 g32 g37
  refine growS_call (by rfl) (fun K hK => ?_)
  go_simp
  refine (sworks_any _ (HM.out.bel (HB.out.trans (((Below.refl _ _).drew : Below C.heap.size C C.drew).mono HB.out.size)))).mono ?_
  rintro e z1 ⟨rfl, hb⟩
  have hz := ((Below.refl _ _).drew : Below C.heap.size C C.drew).trans (hb.mono ((Below.refl _ _).drew : Below C.heap.size C C.drew).size)
  have HZ1 := Lib.hid hz
  refine hK.out _ _ hz ?_
  clear hK K hb hz
  iterate 2
    refine growS_take (by rfl) ?_
    apply Exists.intro
    refine ⟨fun w' hE => ?_, ?_⟩
    · have ya0 := (HN.out.below hE).cell 0 _ rfl; have ya1 := (HN.out.below hE).cell 1 _ rfl; have ya2 := (HN.out.below hE).cell 2 _ rfl; have ya3 := (HN.out.below hE).cell 3 _ rfl; have ya4 := (HN.out.below hE).cell 4 _ rfl; have ya5 := (HN.out.below hE).cell 5 _ rfl; have yb0 := (HE.out.below hE).cell 0 _ rfl; have yb1 := (HE.out.below hE).cell 1 _ rfl; have yb2 := (HE.out.below hE).cell 2 _ rfl; have yb3 := (HE.out.below hE).cell 3 _ rfl; have yb4 := (HE.out.below hE).cell 4 _ rfl; have yb5 := (HE.out.below hE).cell 5 _ rfl; have yc0 := (HO.out.below hE).cell 0 _ rfl; have yc1 := (HO.out.below hE).cell 1 _ rfl; have yc2 := (HO.out.below hE).cell 2 _ rfl; have yc3 := (HO.out.below hE).cell 3 _ rfl; have yc4 := (HO.out.below hE).cell 4 _ rfl; have yc5 := (HO.out.below hE).cell 5 _ rfl
      go_simp
      try with_reducible rfl
    simp only [Act.put, List.setIfInBounds_toArray, List.set_cons_zero, List.set_cons_succ]
  iterate 1
    refine growS_take (wantedS G2.out rfl rfl) ?_
    apply Exists.intro
    refine ⟨fun w' hE => ?_, ?_⟩
    · have ya0 := (HN.out.below hE).cell 0 _ rfl; have ya1 := (HN.out.below hE).cell 1 _ rfl; have ya2 := (HN.out.below hE).cell 2 _ rfl; have ya3 := (HN.out.below hE).cell 3 _ rfl; have ya4 := (HN.out.below hE).cell 4 _ rfl; have ya5 := (HN.out.below hE).cell 5 _ rfl; have yb0 := (HE.out.below hE).cell 0 _ rfl; have yb1 := (HE.out.below hE).cell 1 _ rfl; have yb2 := (HE.out.below hE).cell 2 _ rfl; have yb3 := (HE.out.below hE).cell 3 _ rfl; have yb4 := (HE.out.below hE).cell 4 _ rfl; have yb5 := (HE.out.below hE).cell 5 _ rfl; have yc0 := (HO.out.below hE).cell 0 _ rfl; have yc1 := (HO.out.below hE).cell 1 _ rfl; have yc2 := (HO.out.below hE).cell 2 _ rfl; have yc3 := (HO.out.below hE).cell 3 _ rfl; have yc4 := (HO.out.below hE).cell 4 _ rfl; have yc5 := (HO.out.below hE).cell 5 _ rfl
      go_simp
      try with_reducible rfl
    simp only [Act.put, List.setIfInBounds_toArray, List.set_cons_zero, List.set_cons_succ]
  refine growS_call (wantedS G2.out rfl rfl) (fun K hK => ?_)
  go_simp
  refine (kn_nil _ (HM.out.bel (HB.out.trans (HZ1.out.mono HB.out.size)))).mono ?_
  rintro e z2 ⟨rfl, hb⟩
  have hz := HZ1.out.trans (hb.mono HZ1.out.size)
  have HZ2 := Lib.hid hz
  refine hK.out _ _ hz ?_
  clear hK K hb hz HZ1
  iterate 1
    refine growS_take (wantedS G2.out rfl rfl) ?_
    apply Exists.intro
    refine ⟨fun w' hE => ?_, ?_⟩
    · have ya0 := (HN.out.below hE).cell 0 _ rfl; have ya1 := (HN.out.below hE).cell 1 _ rfl; have ya2 := (HN.out.below hE).cell 2 _ rfl; have ya3 := (HN.out.below hE).cell 3 _ rfl; have ya4 := (HN.out.below hE).cell 4 _ rfl; have ya5 := (HN.out.below hE).cell 5 _ rfl; have yb0 := (HE.out.below hE).cell 0 _ rfl; have yb1 := (HE.out.below hE).cell 1 _ rfl; have yb2 := (HE.out.below hE).cell 2 _ rfl; have yb3 := (HE.out.below hE).cell 3 _ rfl; have yb4 := (HE.out.below hE).cell 4 _ rfl; have yb5 := (HE.out.below hE).cell 5 _ rfl; have yc0 := (HO.out.below hE).cell 0 _ rfl; have yc1 := (HO.out.below hE).cell 1 _ rfl; have yc2 := (HO.out.below hE).cell 2 _ rfl; have yc3 := (HO.out.below hE).cell 3 _ rfl; have yc4 := (HO.out.below hE).cell 4 _ rfl; have yc5 := (HO.out.below hE).cell 5 _ rfl
      go_simp
      try with_reducible rfl
    simp only [Act.put, List.setIfInBounds_toArray, List.set_cons_zero, List.set_cons_succ]
  iterate 2
    refine growS_take (by rfl) ?_
    apply Exists.intro
    refine ⟨fun w' hE => ?_, ?_⟩
    · have ya0 := (HN.out.below hE).cell 0 _ rfl; have ya1 := (HN.out.below hE).cell 1 _ rfl; have ya2 := (HN.out.below hE).cell 2 _ rfl; have ya3 := (HN.out.below hE).cell 3 _ rfl; have ya4 := (HN.out.below hE).cell 4 _ rfl; have ya5 := (HN.out.below hE).cell 5 _ rfl; have yb0 := (HE.out.below hE).cell 0 _ rfl; have yb1 := (HE.out.below hE).cell 1 _ rfl; have yb2 := (HE.out.below hE).cell 2 _ rfl; have yb3 := (HE.out.below hE).cell 3 _ rfl; have yb4 := (HE.out.below hE).cell 4 _ rfl; have yb5 := (HE.out.below hE).cell 5 _ rfl; have yc0 := (HO.out.below hE).cell 0 _ rfl; have yc1 := (HO.out.below hE).cell 1 _ rfl; have yc2 := (HO.out.below hE).cell 2 _ rfl; have yc3 := (HO.out.below hE).cell 3 _ rfl; have yc4 := (HO.out.below hE).cell 4 _ rfl; have yc5 := (HO.out.below hE).cell 5 _ rfl
      go_simp
      try with_reducible rfl
    simp only [Act.put, List.setIfInBounds_toArray, List.set_cons_zero, List.set_cons_succ]
  iterate 1
    refine growS_take (wantedS G7.out rfl rfl) ?_
    apply Exists.intro
    refine ⟨fun w' hE => ?_, ?_⟩
    · have ya0 := (HN.out.below hE).cell 0 _ rfl; have ya1 := (HN.out.below hE).cell 1 _ rfl; have ya2 := (HN.out.below hE).cell 2 _ rfl; have ya3 := (HN.out.below hE).cell 3 _ rfl; have ya4 := (HN.out.below hE).cell 4 _ rfl; have ya5 := (HN.out.below hE).cell 5 _ rfl; have yb0 := (HE.out.below hE).cell 0 _ rfl; have yb1 := (HE.out.below hE).cell 1 _ rfl; have yb2 := (HE.out.below hE).cell 2 _ rfl; have yb3 := (HE.out.below hE).cell 3 _ rfl; have yb4 := (HE.out.below hE).cell 4 _ rfl; have yb5 := (HE.out.below hE).cell 5 _ rfl; have yc0 := (HO.out.below hE).cell 0 _ rfl; have yc1 := (HO.out.below hE).cell 1 _ rfl; have yc2 := (HO.out.below hE).cell 2 _ rfl; have yc3 := (HO.out.below hE).cell 3 _ rfl; have yc4 := (HO.out.below hE).cell 4 _ rfl; have yc5 := (HO.out.below hE).cell 5 _ rfl
      go_simp
      try with_reducible rfl
    simp only [Act.put, List.setIfInBounds_toArray, List.set_cons_zero, List.set_cons_succ]
  refine growS_call (wantedS G7.out rfl rfl) (fun K hK => ?_)
  go_simp
  refine (kn1 _ (HM.out.bel (HB.out.trans (HZ2.out.mono HB.out.size)))).mono ?_
  rintro e z3 ⟨rfl, hb⟩
  have hz := HZ2.out.trans (hb.mono HZ2.out.size)
  have HZ3 := Lib.hid hz
  refine hK.out _ _ hz ?_
  clear hK K hb hz HZ2
  iterate 1
    refine growS_take (wantedS G7.out rfl rfl) ?_
    apply Exists.intro
    refine ⟨fun w' hE => ?_, ?_⟩
    · have ya0 := (HN.out.below hE).cell 0 _ rfl; have ya1 := (HN.out.below hE).cell 1 _ rfl; have ya2 := (HN.out.below hE).cell 2 _ rfl; have ya3 := (HN.out.below hE).cell 3 _ rfl; have ya4 := (HN.out.below hE).cell 4 _ rfl; have ya5 := (HN.out.below hE).cell 5 _ rfl; have yb0 := (HE.out.below hE).cell 0 _ rfl; have yb1 := (HE.out.below hE).cell 1 _ rfl; have yb2 := (HE.out.below hE).cell 2 _ rfl; have yb3 := (HE.out.below hE).cell 3 _ rfl; have yb4 := (HE.out.below hE).cell 4 _ rfl; have yb5 := (HE.out.below hE).cell 5 _ rfl; have yc0 := (HO.out.below hE).cell 0 _ rfl; have yc1 := (HO.out.below hE).cell 1 _ rfl; have yc2 := (HO.out.below hE).cell 2 _ rfl; have yc3 := (HO.out.below hE).cell 3 _ rfl; have yc4 := (HO.out.below hE).cell 4 _ rfl; have yc5 := (HO.out.below hE).cell 5 _ rfl
      go_simp
      try with_reducible rfl
    simp only [Act.put, List.setIfInBounds_toArray, List.set_cons_zero, List.set_cons_succ]
  iterate 2
    refine growS_take (by rfl) ?_
    apply Exists.intro
    refine ⟨fun w' hE => ?_, ?_⟩
    · have ya0 := (HN.out.below hE).cell 0 _ rfl; have ya1 := (HN.out.below hE).cell 1 _ rfl; have ya2 := (HN.out.below hE).cell 2 _ rfl; have ya3 := (HN.out.below hE).cell 3 _ rfl; have ya4 := (HN.out.below hE).cell 4 _ rfl; have ya5 := (HN.out.below hE).cell 5 _ rfl; have yb0 := (HE.out.below hE).cell 0 _ rfl; have yb1 := (HE.out.below hE).cell 1 _ rfl; have yb2 := (HE.out.below hE).cell 2 _ rfl; have yb3 := (HE.out.below hE).cell 3 _ rfl; have yb4 := (HE.out.below hE).cell 4 _ rfl; have yb5 := (HE.out.below hE).cell 5 _ rfl; have yc0 := (HO.out.below hE).cell 0 _ rfl; have yc1 := (HO.out.below hE).cell 1 _ rfl; have yc2 := (HO.out.below hE).cell 2 _ rfl; have yc3 := (HO.out.below hE).cell 3 _ rfl; have yc4 := (HO.out.below hE).cell 4 _ rfl; have yc5 := (HO.out.below hE).cell 5 _ rfl
      go_simp
      try with_reducible rfl
    simp only [Act.put, List.setIfInBounds_toArray, List.set_cons_zero, List.set_cons_succ]
  iterate 1
    refine growS_take (wantedS G12.out rfl rfl) ?_
    apply Exists.intro
    refine ⟨fun w' hE => ?_, ?_⟩
    · have ya0 := (HN.out.below hE).cell 0 _ rfl; have ya1 := (HN.out.below hE).cell 1 _ rfl; have ya2 := (HN.out.below hE).cell 2 _ rfl; have ya3 := (HN.out.below hE).cell 3 _ rfl; have ya4 := (HN.out.below hE).cell 4 _ rfl; have ya5 := (HN.out.below hE).cell 5 _ rfl; have yb0 := (HE.out.below hE).cell 0 _ rfl; have yb1 := (HE.out.below hE).cell 1 _ rfl; have yb2 := (HE.out.below hE).cell 2 _ rfl; have yb3 := (HE.out.below hE).cell 3 _ rfl; have yb4 := (HE.out.below hE).cell 4 _ rfl; have yb5 := (HE.out.below hE).cell 5 _ rfl; have yc0 := (HO.out.below hE).cell 0 _ rfl; have yc1 := (HO.out.below hE).cell 1 _ rfl; have yc2 := (HO.out.below hE).cell 2 _ rfl; have yc3 := (HO.out.below hE).cell 3 _ rfl; have yc4 := (HO.out.below hE).cell 4 _ rfl; have yc5 := (HO.out.below hE).cell 5 _ rfl
      go_simp
      try with_reducible rfl
    simp only [Act.put, List.setIfInBounds_toArray, List.set_cons_zero, List.set_cons_succ]
  refine growS_call (wantedS G12.out rfl rfl) (fun K hK => ?_)
  go_simp
  refine (kn2 _ (HM.out.bel (HB.out.trans (HZ3.out.mono HB.out.size)))).mono ?_
  rintro e z4 ⟨rfl, hb⟩
  have hz := HZ3.out.trans (hb.mono HZ3.out.size)
  have HZ4 := Lib.hid hz
  refine hK.out _ _ hz ?_
  clear hK K hb hz HZ3
  iterate 1
    refine growS_take (wantedS G12.out rfl rfl) ?_
    apply Exists.intro
    refine ⟨fun w' hE => ?_, ?_⟩
    · have ya0 := (HN.out.below hE).cell 0 _ rfl; have ya1 := (HN.out.below hE).cell 1 _ rfl; have ya2 := (HN.out.below hE).cell 2 _ rfl; have ya3 := (HN.out.below hE).cell 3 _ rfl; have ya4 := (HN.out.below hE).cell 4 _ rfl; have ya5 := (HN.out.below hE).cell 5 _ rfl; have yb0 := (HE.out.below hE).cell 0 _ rfl; have yb1 := (HE.out.below hE).cell 1 _ rfl; have yb2 := (HE.out.below hE).cell 2 _ rfl; have yb3 := (HE.out.below hE).cell 3 _ rfl; have yb4 := (HE.out.below hE).cell 4 _ rfl; have yb5 := (HE.out.below hE).cell 5 _ rfl; have yc0 := (HO.out.below hE).cell 0 _ rfl; have yc1 := (HO.out.below hE).cell 1 _ rfl; have yc2 := (HO.out.below hE).cell 2 _ rfl; have yc3 := (HO.out.below hE).cell 3 _ rfl; have yc4 := (HO.out.below hE).cell 4 _ rfl; have yc5 := (HO.out.below hE).cell 5 _ rfl
      go_simp
      try with_reducible rfl
    simp only [Act.put, List.setIfInBounds_toArray, List.set_cons_zero, List.set_cons_succ]
  iterate 2
    refine growS_take (by rfl) ?_
    apply Exists.intro
    refine ⟨fun w' hE => ?_, ?_⟩
    · have ya0 := (HN.out.below hE).cell 0 _ rfl; have ya1 := (HN.out.below hE).cell 1 _ rfl; have ya2 := (HN.out.below hE).cell 2 _ rfl; have ya3 := (HN.out.below hE).cell 3 _ rfl; have ya4 := (HN.out.below hE).cell 4 _ rfl; have ya5 := (HN.out.below hE).cell 5 _ rfl; have yb0 := (HE.out.below hE).cell 0 _ rfl; have yb1 := (HE.out.below hE).cell 1 _ rfl; have yb2 := (HE.out.below hE).cell 2 _ rfl; have yb3 := (HE.out.below hE).cell 3 _ rfl; have yb4 := (HE.out.below hE).cell 4 _ rfl; have yb5 := (HE.out.below hE).cell 5 _ rfl; have yc0 := (HO.out.below hE).cell 0 _ rfl; have yc1 := (HO.out.below hE).cell 1 _ rfl; have yc2 := (HO.out.below hE).cell 2 _ rfl; have yc3 := (HO.out.below hE).cell 3 _ rfl; have yc4 := (HO.out.below hE).cell 4 _ rfl; have yc5 := (HO.out.below hE).cell 5 _ rfl
      go_simp
      try with_reducible rfl
    simp only [Act.put, List.setIfInBounds_toArray, List.set_cons_zero, List.set_cons_succ]
  iterate 1
    refine growS_take (wantedS G17.out rfl rfl) ?_
    apply Exists.intro
    refine ⟨fun w' hE => ?_, ?_⟩
    · have ya0 := (HN.out.below hE).cell 0 _ rfl; have ya1 := (HN.out.below hE).cell 1 _ rfl; have ya2 := (HN.out.below hE).cell 2 _ rfl; have ya3 := (HN.out.below hE).cell 3 _ rfl; have ya4 := (HN.out.below hE).cell 4 _ rfl; have ya5 := (HN.out.below hE).cell 5 _ rfl; have yb0 := (HE.out.below hE).cell 0 _ rfl; have yb1 := (HE.out.below hE).cell 1 _ rfl; have yb2 := (HE.out.below hE).cell 2 _ rfl; have yb3 := (HE.out.below hE).cell 3 _ rfl; have yb4 := (HE.out.below hE).cell 4 _ rfl; have yb5 := (HE.out.below hE).cell 5 _ rfl; have yc0 := (HO.out.below hE).cell 0 _ rfl; have yc1 := (HO.out.below hE).cell 1 _ rfl; have yc2 := (HO.out.below hE).cell 2 _ rfl; have yc3 := (HO.out.below hE).cell 3 _ rfl; have yc4 := (HO.out.below hE).cell 4 _ rfl; have yc5 := (HO.out.below hE).cell 5 _ rfl
      go_simp
      try with_reducible rfl
    simp only [Act.put, List.setIfInBounds_toArray, List.set_cons_zero, List.set_cons_succ]
  refine growS_call (wantedS G17.out rfl rfl) (fun K hK => ?_)
  go_simp
  refine (kn3 _ (HM.out.bel (HB.out.trans (HZ4.out.mono HB.out.size)))).mono ?_
  rintro e z5 ⟨rfl, hb⟩
  have hz := HZ4.out.trans (hb.mono HZ4.out.size)
  have HZ5 := Lib.hid hz
  refine hK.out _ _ hz ?_
  clear hK K hb hz HZ4
  iterate 1
    refine growS_take (wantedS G17.out rfl rfl) ?_
    apply Exists.intro
    refine ⟨fun w' hE => ?_, ?_⟩
    · have ya0 := (HN.out.below hE).cell 0 _ rfl; have ya1 := (HN.out.below hE).cell 1 _ rfl; have ya2 := (HN.out.below hE).cell 2 _ rfl; have ya3 := (HN.out.below hE).cell 3 _ rfl; have ya4 := (HN.out.below hE).cell 4 _ rfl; have ya5 := (HN.out.below hE).cell 5 _ rfl; have yb0 := (HE.out.below hE).cell 0 _ rfl; have yb1 := (HE.out.below hE).cell 1 _ rfl; have yb2 := (HE.out.below hE).cell 2 _ rfl; have yb3 := (HE.out.below hE).cell 3 _ rfl; have yb4 := (HE.out.below hE).cell 4 _ rfl; have yb5 := (HE.out.below hE).cell 5 _ rfl; have yc0 := (HO.out.below hE).cell 0 _ rfl; have yc1 := (HO.out.below hE).cell 1 _ rfl; have yc2 := (HO.out.below hE).cell 2 _ rfl; have yc3 := (HO.out.below hE).cell 3 _ rfl; have yc4 := (HO.out.below hE).cell 4 _ rfl; have yc5 := (HO.out.below hE).cell 5 _ rfl
      go_simp
      try with_reducible rfl
    simp only [Act.put, List.setIfInBounds_toArray, List.set_cons_zero, List.set_cons_succ]
  iterate 2
    refine growS_take (by rfl) ?_
    apply Exists.intro
    refine ⟨fun w' hE => ?_, ?_⟩
    · have ya0 := (HN.out.below hE).cell 0 _ rfl; have ya1 := (HN.out.below hE).cell 1 _ rfl; have ya2 := (HN.out.below hE).cell 2 _ rfl; have ya3 := (HN.out.below hE).cell 3 _ rfl; have ya4 := (HN.out.below hE).cell 4 _ rfl; have ya5 := (HN.out.below hE).cell 5 _ rfl; have yb0 := (HE.out.below hE).cell 0 _ rfl; have yb1 := (HE.out.below hE).cell 1 _ rfl; have yb2 := (HE.out.below hE).cell 2 _ rfl; have yb3 := (HE.out.below hE).cell 3 _ rfl; have yb4 := (HE.out.below hE).cell 4 _ rfl; have yb5 := (HE.out.below hE).cell 5 _ rfl; have yc0 := (HO.out.below hE).cell 0 _ rfl; have yc1 := (HO.out.below hE).cell 1 _ rfl; have yc2 := (HO.out.below hE).cell 2 _ rfl; have yc3 := (HO.out.below hE).cell 3 _ rfl; have yc4 := (HO.out.below hE).cell 4 _ rfl; have yc5 := (HO.out.below hE).cell 5 _ rfl
      go_simp
      try with_reducible rfl
    simp only [Act.put, List.setIfInBounds_toArray, List.set_cons_zero, List.set_cons_succ]
  iterate 1
    refine growS_take (wantedS G22.out rfl rfl) ?_
    apply Exists.intro
    refine ⟨fun w' hE => ?_, ?_⟩
    · have ya0 := (HN.out.below hE).cell 0 _ rfl; have ya1 := (HN.out.below hE).cell 1 _ rfl; have ya2 := (HN.out.below hE).cell 2 _ rfl; have ya3 := (HN.out.below hE).cell 3 _ rfl; have ya4 := (HN.out.below hE).cell 4 _ rfl; have ya5 := (HN.out.below hE).cell 5 _ rfl; have yb0 := (HE.out.below hE).cell 0 _ rfl; have yb1 := (HE.out.below hE).cell 1 _ rfl; have yb2 := (HE.out.below hE).cell 2 _ rfl; have yb3 := (HE.out.below hE).cell 3 _ rfl; have yb4 := (HE.out.below hE).cell 4 _ rfl; have yb5 := (HE.out.below hE).cell 5 _ rfl; have yc0 := (HO.out.below hE).cell 0 _ rfl; have yc1 := (HO.out.below hE).cell 1 _ rfl; have yc2 := (HO.out.below hE).cell 2 _ rfl; have yc3 := (HO.out.below hE).cell 3 _ rfl; have yc4 := (HO.out.below hE).cell 4 _ rfl; have yc5 := (HO.out.below hE).cell 5 _ rfl
      go_simp
      try with_reducible rfl
    simp only [Act.put, List.setIfInBounds_toArray, List.set_cons_zero, List.set_cons_succ]
  refine growS_call (wantedS G22.out rfl rfl) (fun K hK => ?_)
  go_simp
  refine (kn4 _ (HM.out.bel (HB.out.trans (HZ5.out.mono HB.out.size)))).mono ?_
  rintro e z6 ⟨rfl, hb⟩
  have hz := HZ5.out.trans (hb.mono HZ5.out.size)
  have HZ6 := Lib.hid hz
  refine hK.out _ _ hz ?_
  clear hK K hb hz HZ5
  iterate 1
    refine growS_take (wantedS G22.out rfl rfl) ?_
    apply Exists.intro
    refine ⟨fun w' hE => ?_, ?_⟩
    · have ya0 := (HN.out.below hE).cell 0 _ rfl; have ya1 := (HN.out.below hE).cell 1 _ rfl; have ya2 := (HN.out.below hE).cell 2 _ rfl; have ya3 := (HN.out.below hE).cell 3 _ rfl; have ya4 := (HN.out.below hE).cell 4 _ rfl; have ya5 := (HN.out.below hE).cell 5 _ rfl; have yb0 := (HE.out.below hE).cell 0 _ rfl; have yb1 := (HE.out.below hE).cell 1 _ rfl; have yb2 := (HE.out.below hE).cell 2 _ rfl; have yb3 := (HE.out.below hE).cell 3 _ rfl; have yb4 := (HE.out.below hE).cell 4 _ rfl; have yb5 := (HE.out.below hE).cell 5 _ rfl; have yc0 := (HO.out.below hE).cell 0 _ rfl; have yc1 := (HO.out.below hE).cell 1 _ rfl; have yc2 := (HO.out.below hE).cell 2 _ rfl; have yc3 := (HO.out.below hE).cell 3 _ rfl; have yc4 := (HO.out.below hE).cell 4 _ rfl; have yc5 := (HO.out.below hE).cell 5 _ rfl
      go_simp
      try with_reducible rfl
    simp only [Act.put, List.setIfInBounds_toArray, List.set_cons_zero, List.set_cons_succ]
  iterate 2
    refine growS_take (by rfl) ?_
    apply Exists.intro
    refine ⟨fun w' hE => ?_, ?_⟩
    · have ya0 := (HN.out.below hE).cell 0 _ rfl; have ya1 := (HN.out.below hE).cell 1 _ rfl; have ya2 := (HN.out.below hE).cell 2 _ rfl; have ya3 := (HN.out.below hE).cell 3 _ rfl; have ya4 := (HN.out.below hE).cell 4 _ rfl; have ya5 := (HN.out.below hE).cell 5 _ rfl; have yb0 := (HE.out.below hE).cell 0 _ rfl; have yb1 := (HE.out.below hE).cell 1 _ rfl; have yb2 := (HE.out.below hE).cell 2 _ rfl; have yb3 := (HE.out.below hE).cell 3 _ rfl; have yb4 := (HE.out.below hE).cell 4 _ rfl; have yb5 := (HE.out.below hE).cell 5 _ rfl; have yc0 := (HO.out.below hE).cell 0 _ rfl; have yc1 := (HO.out.below hE).cell 1 _ rfl; have yc2 := (HO.out.below hE).cell 2 _ rfl; have yc3 := (HO.out.below hE).cell 3 _ rfl; have yc4 := (HO.out.below hE).cell 4 _ rfl; have yc5 := (HO.out.below hE).cell 5 _ rfl
      go_simp
      try with_reducible rfl
    simp only [Act.put, List.setIfInBounds_toArray, List.set_cons_zero, List.set_cons_succ]
  iterate 1
    refine growS_take (wantedS G27.out rfl rfl) ?_
    apply Exists.intro
    refine ⟨fun w' hE => ?_, ?_⟩
    · have ya0 := (HN.out.below hE).cell 0 _ rfl; have ya1 := (HN.out.below hE).cell 1 _ rfl; have ya2 := (HN.out.below hE).cell 2 _ rfl; have ya3 := (HN.out.below hE).cell 3 _ rfl; have ya4 := (HN.out.below hE).cell 4 _ rfl; have ya5 := (HN.out.below hE).cell 5 _ rfl; have yb0 := (HE.out.below hE).cell 0 _ rfl; have yb1 := (HE.out.below hE).cell 1 _ rfl; have yb2 := (HE.out.below hE).cell 2 _ rfl; have yb3 := (HE.out.below hE).cell 3 _ rfl; have yb4 := (HE.out.below hE).cell 4 _ rfl; have yb5 := (HE.out.below hE).cell 5 _ rfl; have yc0 := (HO.out.below hE).cell 0 _ rfl; have yc1 := (HO.out.below hE).cell 1 _ rfl; have yc2 := (HO.out.below hE).cell 2 _ rfl; have yc3 := (HO.out.below hE).cell 3 _ rfl; have yc4 := (HO.out.below hE).cell 4 _ rfl; have yc5 := (HO.out.below hE).cell 5 _ rfl
      go_simp
      try with_reducible rfl
    simp only [Act.put, List.setIfInBounds_toArray, List.set_cons_zero, List.set_cons_succ]
  refine growS_call (wantedS G27.out rfl rfl) (fun K hK => ?_)
  go_simp
  refine (kn5 _ (HM.out.bel (HB.out.trans (HZ6.out.mono HB.out.size)))).mono ?_
  rintro e z7 ⟨rfl, hb⟩
  have hz := HZ6.out.trans (hb.mono HZ6.out.size)
  have HZ7 := Lib.hid hz
  refine hK.out _ _ hz ?_
  clear hK K hb hz HZ6
  iterate 1
    refine growS_take (wantedS G27.out rfl rfl) ?_
    apply Exists.intro
    refine ⟨fun w' hE => ?_, ?_⟩
    · have ya0 := (HN.out.below hE).cell 0 _ rfl; have ya1 := (HN.out.below hE).cell 1 _ rfl; have ya2 := (HN.out.below hE).cell 2 _ rfl; have ya3 := (HN.out.below hE).cell 3 _ rfl; have ya4 := (HN.out.below hE).cell 4 _ rfl; have ya5 := (HN.out.below hE).cell 5 _ rfl; have yb0 := (HE.out.below hE).cell 0 _ rfl; have yb1 := (HE.out.below hE).cell 1 _ rfl; have yb2 := (HE.out.below hE).cell 2 _ rfl; have yb3 := (HE.out.below hE).cell 3 _ rfl; have yb4 := (HE.out.below hE).cell 4 _ rfl; have yb5 := (HE.out.below hE).cell 5 _ rfl; have yc0 := (HO.out.below hE).cell 0 _ rfl; have yc1 := (HO.out.below hE).cell 1 _ rfl; have yc2 := (HO.out.below hE).cell 2 _ rfl; have yc3 := (HO.out.below hE).cell 3 _ rfl; have yc4 := (HO.out.below hE).cell 4 _ rfl; have yc5 := (HO.out.below hE).cell 5 _ rfl
      go_simp
      try with_reducible rfl
    simp only [Act.put, List.setIfInBounds_toArray, List.set_cons_zero, List.set_cons_succ]
  iterate 2
    refine growS_take (by rfl) ?_
    apply Exists.intro
    refine ⟨fun w' hE => ?_, ?_⟩
    · have ya0 := (HN.out.below hE).cell 0 _ rfl; have ya1 := (HN.out.below hE).cell 1 _ rfl; have ya2 := (HN.out.below hE).cell 2 _ rfl; have ya3 := (HN.out.below hE).cell 3 _ rfl; have ya4 := (HN.out.below hE).cell 4 _ rfl; have ya5 := (HN.out.below hE).cell 5 _ rfl; have yb0 := (HE.out.below hE).cell 0 _ rfl; have yb1 := (HE.out.below hE).cell 1 _ rfl; have yb2 := (HE.out.below hE).cell 2 _ rfl; have yb3 := (HE.out.below hE).cell 3 _ rfl; have yb4 := (HE.out.below hE).cell 4 _ rfl; have yb5 := (HE.out.below hE).cell 5 _ rfl; have yc0 := (HO.out.below hE).cell 0 _ rfl; have yc1 := (HO.out.below hE).cell 1 _ rfl; have yc2 := (HO.out.below hE).cell 2 _ rfl; have yc3 := (HO.out.below hE).cell 3 _ rfl; have yc4 := (HO.out.below hE).cell 4 _ rfl; have yc5 := (HO.out.below hE).cell 5 _ rfl
      go_simp
      try with_reducible rfl
    simp only [Act.put, List.setIfInBounds_toArray, List.set_cons_zero, List.set_cons_succ]
  iterate 1
    refine growS_take (wantedS G32.out rfl rfl) ?_
    apply Exists.intro
    refine ⟨fun w' hE => ?_, ?_⟩
    · have ya0 := (HN.out.below hE).cell 0 _ rfl; have ya1 := (HN.out.below hE).cell 1 _ rfl; have ya2 := (HN.out.below hE).cell 2 _ rfl; have ya3 := (HN.out.below hE).cell 3 _ rfl; have ya4 := (HN.out.below hE).cell 4 _ rfl; have ya5 := (HN.out.below hE).cell 5 _ rfl; have yb0 := (HE.out.below hE).cell 0 _ rfl; have yb1 := (HE.out.below hE).cell 1 _ rfl; have yb2 := (HE.out.below hE).cell 2 _ rfl; have yb3 := (HE.out.below hE).cell 3 _ rfl; have yb4 := (HE.out.below hE).cell 4 _ rfl; have yb5 := (HE.out.below hE).cell 5 _ rfl; have yc0 := (HO.out.below hE).cell 0 _ rfl; have yc1 := (HO.out.below hE).cell 1 _ rfl; have yc2 := (HO.out.below hE).cell 2 _ rfl; have yc3 := (HO.out.below hE).cell 3 _ rfl; have yc4 := (HO.out.below hE).cell 4 _ rfl; have yc5 := (HO.out.below hE).cell 5 _ rfl
      go_simp
      try with_reducible rfl
    simp only [Act.put, List.setIfInBounds_toArray, List.set_cons_zero, List.set_cons_succ]
  refine growS_call (wantedS G32.out rfl rfl) (fun K hK => ?_)
  go_simp
  refine (kn6 _ (HM.out.bel (HB.out.trans (HZ7.out.mono HB.out.size)))).mono ?_
  rintro e z8 ⟨rfl, hb⟩
  have hz := HZ7.out.trans (hb.mono HZ7.out.size)
  have HZ8 := Lib.hid hz
  refine hK.out _ _ hz ?_
  clear hK K hb hz HZ7
  iterate 1
    refine growS_take (wantedS G32.out rfl rfl) ?_
    apply Exists.intro
    refine ⟨fun w' hE => ?_, ?_⟩
    · have ya0 := (HN.out.below hE).cell 0 _ rfl; have ya1 := (HN.out.below hE).cell 1 _ rfl; have ya2 := (HN.out.below hE).cell 2 _ rfl; have ya3 := (HN.out.below hE).cell 3 _ rfl; have ya4 := (HN.out.below hE).cell 4 _ rfl; have ya5 := (HN.out.below hE).cell 5 _ rfl; have yb0 := (HE.out.below hE).cell 0 _ rfl; have yb1 := (HE.out.below hE).cell 1 _ rfl; have yb2 := (HE.out.below hE).cell 2 _ rfl; have yb3 := (HE.out.below hE).cell 3 _ rfl; have yb4 := (HE.out.below hE).cell 4 _ rfl; have yb5 := (HE.out.below hE).cell 5 _ rfl; have yc0 := (HO.out.below hE).cell 0 _ rfl; have yc1 := (HO.out.below hE).cell 1 _ rfl; have yc2 := (HO.out.below hE).cell 2 _ rfl; have yc3 := (HO.out.below hE).cell 3 _ rfl; have yc4 := (HO.out.below hE).cell 4 _ rfl; have yc5 := (HO.out.below hE).cell 5 _ rfl
      go_simp
      try with_reducible rfl
    simp only [Act.put, List.setIfInBounds_toArray, List.set_cons_zero, List.set_cons_succ]
  iterate 2
    refine growS_take (by rfl) ?_
    apply Exists.intro
    refine ⟨fun w' hE => ?_, ?_⟩
    · have ya0 := (HN.out.below hE).cell 0 _ rfl; have ya1 := (HN.out.below hE).cell 1 _ rfl; have ya2 := (HN.out.below hE).cell 2 _ rfl; have ya3 := (HN.out.below hE).cell 3 _ rfl; have ya4 := (HN.out.below hE).cell 4 _ rfl; have ya5 := (HN.out.below hE).cell 5 _ rfl; have yb0 := (HE.out.below hE).cell 0 _ rfl; have yb1 := (HE.out.below hE).cell 1 _ rfl; have yb2 := (HE.out.below hE).cell 2 _ rfl; have yb3 := (HE.out.below hE).cell 3 _ rfl; have yb4 := (HE.out.below hE).cell 4 _ rfl; have yb5 := (HE.out.below hE).cell 5 _ rfl; have yc0 := (HO.out.below hE).cell 0 _ rfl; have yc1 := (HO.out.below hE).cell 1 _ rfl; have yc2 := (HO.out.below hE).cell 2 _ rfl; have yc3 := (HO.out.below hE).cell 3 _ rfl; have yc4 := (HO.out.below hE).cell 4 _ rfl; have yc5 := (HO.out.below hE).cell 5 _ rfl
      go_simp
      try with_reducible rfl
    simp only [Act.put, List.setIfInBounds_toArray, List.set_cons_zero, List.set_cons_succ]
  iterate 1
    refine growS_take (wantedS G37.out rfl rfl) ?_
    apply Exists.intro
    refine ⟨fun w' hE => ?_, ?_⟩
    · have ya0 := (HN.out.below hE).cell 0 _ rfl; have ya1 := (HN.out.below hE).cell 1 _ rfl; have ya2 := (HN.out.below hE).cell 2 _ rfl; have ya3 := (HN.out.below hE).cell 3 _ rfl; have ya4 := (HN.out.below hE).cell 4 _ rfl; have ya5 := (HN.out.below hE).cell 5 _ rfl; have yb0 := (HE.out.below hE).cell 0 _ rfl; have yb1 := (HE.out.below hE).cell 1 _ rfl; have yb2 := (HE.out.below hE).cell 2 _ rfl; have yb3 := (HE.out.below hE).cell 3 _ rfl; have yb4 := (HE.out.below hE).cell 4 _ rfl; have yb5 := (HE.out.below hE).cell 5 _ rfl; have yc0 := (HO.out.below hE).cell 0 _ rfl; have yc1 := (HO.out.below hE).cell 1 _ rfl; have yc2 := (HO.out.below hE).cell 2 _ rfl; have yc3 := (HO.out.below hE).cell 3 _ rfl; have yc4 := (HO.out.below hE).cell 4 _ rfl; have yc5 := (HO.out.below hE).cell 5 _ rfl
      go_simp
      try with_reducible rfl
    simp only [Act.put, List.setIfInBounds_toArray, List.set_cons_zero, List.set_cons_succ]
  refine growS_call (wantedS G37.out rfl rfl) (fun K hK => ?_)
  go_simp
  refine (kn7 _ (HM.out.bel (HB.out.trans (HZ8.out.mono HB.out.size)))).mono ?_
  rintro e z9 ⟨rfl, hb⟩
  have hz := HZ8.out.trans (hb.mono HZ8.out.size)
  have HZ9 := Lib.hid hz
  refine hK.out _ _ hz ?_
  clear hK K hb hz HZ8
  iterate 1
    refine growS_take (wantedS G37.out rfl rfl) ?_
    apply Exists.intro
    refine ⟨fun w' hE => ?_, ?_⟩
    · have ya0 := (HN.out.below hE).cell 0 _ rfl; have ya1 := (HN.out.below hE).cell 1 _ rfl; have ya2 := (HN.out.below hE).cell 2 _ rfl; have ya3 := (HN.out.below hE).cell 3 _ rfl; have ya4 := (HN.out.below hE).cell 4 _ rfl; have ya5 := (HN.out.below hE).cell 5 _ rfl; have yb0 := (HE.out.below hE).cell 0 _ rfl; have yb1 := (HE.out.below hE).cell 1 _ rfl; have yb2 := (HE.out.below hE).cell 2 _ rfl; have yb3 := (HE.out.below hE).cell 3 _ rfl; have yb4 := (HE.out.below hE).cell 4 _ rfl; have yb5 := (HE.out.below hE).cell 5 _ rfl; have yc0 := (HO.out.below hE).cell 0 _ rfl; have yc1 := (HO.out.below hE).cell 1 _ rfl; have yc2 := (HO.out.below hE).cell 2 _ rfl; have yc3 := (HO.out.below hE).cell 3 _ rfl; have yc4 := (HO.out.below hE).cell 4 _ rfl; have yc5 := (HO.out.below hE).cell 5 _ rfl
      go_simp
      try with_reducible rfl
    simp only [Act.put, List.setIfInBounds_toArray, List.set_cons_zero, List.set_cons_succ]
  iterate 1
    refine growS_take (by rfl) ?_
    apply Exists.intro
    refine ⟨fun w' hE => ?_, ?_⟩
    · have ya0 := (HN.out.below hE).cell 0 _ rfl; have ya1 := (HN.out.below hE).cell 1 _ rfl; have ya2 := (HN.out.below hE).cell 2 _ rfl; have ya3 := (HN.out.below hE).cell 3 _ rfl; have ya4 := (HN.out.below hE).cell 4 _ rfl; have ya5 := (HN.out.below hE).cell 5 _ rfl; have yb0 := (HE.out.below hE).cell 0 _ rfl; have yb1 := (HE.out.below hE).cell 1 _ rfl; have yb2 := (HE.out.below hE).cell 2 _ rfl; have yb3 := (HE.out.below hE).cell 3 _ rfl; have yb4 := (HE.out.below hE).cell 4 _ rfl; have yb5 := (HE.out.below hE).cell 5 _ rfl; have yc0 := (HO.out.below hE).cell 0 _ rfl; have yc1 := (HO.out.below hE).cell 1 _ rfl; have yc2 := (HO.out.below hE).cell 2 _ rfl; have yc3 := (HO.out.below hE).cell 3 _ rfl; have yc4 := (HO.out.below hE).cell 4 _ rfl; have yc5 := (HO.out.below hE).cell 5 _ rfl
      go_simp
      try with_reducible rfl
    simp only [Act.put, List.setIfInBounds_toArray, List.set_cons_zero, List.set_cons_succ]
  refine growS_done (NoPanic.normal ?_)
  have HB1 := Lib.hid (HB.out.trans (HZ9.out.mono HB.out.size)); have HE1 := Lib.hid (HE.out.below HZ9.out); have HO1 := Lib.hid (HO.out.below HZ9.out); have HN1 := Lib.hid (HN.out.below HZ9.out)
  clear HB HE HO HN HZ9 ez
  have hal : Below z9.heap.size z9 (z9.alloc (.cells #[.bool false, .bool false, .bool false, .bool true, .int .i64 0, .int .i64 0] 32)) := (Below.refl _ _).alloc (Nat.le_refl _) _
  have hA := dbk.new z9 #[.bool false, .bool false, .bool false, .bool true, .int .i64 0, .int .i64 0] 32
  have ya0 := hA.cell 0 _ rfl
  have ya1 := hA.cell 1 _ rfl
  have ya2 := hA.cell 2 _ rfl
  have ya3 := hA.cell 3 _ rfl
  have ya4 := hA.cell 4 _ rfl
  have ya5 := hA.cell 5 _ rfl
  have HA := Lib.hid hA; have HB2 := Lib.hid (HB1.out.trans (hal.mono HB1.out.size)); have HO2 := Lib.hid (HO1.out.below hal); have HN2 := Lib.hid (HN1.out.below hal)
  clear hal hA HB1 HE1 HO1 HN1
  go_wp2_with fail
  clear ya0 ya1 ya2 ya3 ya4 ya5
  generalize (z9.alloc (.cells #[.bool false, .bool false, .bool false, .bool true, .int .i64 0, .int .i64 0] 32)) = V0 at *
  refine (kn8 _ (HM.out.bel HB2.out)).mono ?_
  rintro e V1 ⟨rfl, hb⟩
  have HB3 := Lib.hid (HB2.out.trans (hb.mono HB2.out.size))
  have HA_3 := Lib.hid (HA.out.below hb)
  have HN_3 := Lib.hid (HN2.out.below hb)
  have HO_3 := Lib.hid (HO2.out.below hb)
  clear hb HB2 HA HN2 HO2
  have ya0 := HA_3.out.cell 0 _ rfl
  have ya1 := HA_3.out.cell 1 _ rfl
  have ya2 := HA_3.out.cell 2 _ rfl
  have ya3 := HA_3.out.cell 3 _ rfl
  have ya4 := HA_3.out.cell 4 _ rfl
  have ya5 := HA_3.out.cell 5 _ rfl
  go_wp2_with fail
  clear ya0 ya1 ya2 ya3 ya4 ya5
  refine (kn9 _ (HM.out.bel HB3.out)).mono ?_
  rintro e V2 ⟨rfl, hb⟩
  have HB4 := Lib.hid (HB3.out.trans (hb.mono HB3.out.size))
  have HA_4 := Lib.hid (HA_3.out.below hb)
  have HN_4 := Lib.hid (HN_3.out.below hb)
  have HO_4 := Lib.hid (HO_3.out.below hb)
  clear hb HB3 HA_3 HN_3 HO_3
  have ya0 := HA_4.out.cell 0 _ rfl
  have ya1 := HA_4.out.cell 1 _ rfl
  have ya2 := HA_4.out.cell 2 _ rfl
  have ya3 := HA_4.out.cell 3 _ rfl
  have ya4 := HA_4.out.cell 4 _ rfl
  have ya5 := HA_4.out.cell 5 _ rfl
  go_wp2_with fail
  clear ya0 ya1 ya2 ya3 ya4 ya5
  refine (kn10 _ (HM.out.bel HB4.out)).mono ?_
  rintro e V3 ⟨rfl, hb⟩
  have HB5 := Lib.hid (HB4.out.trans (hb.mono HB4.out.size))
  have HA_5 := Lib.hid (HA_4.out.below hb)
  have HN_5 := Lib.hid (HN_4.out.below hb)
  have HO_5 := Lib.hid (HO_4.out.below hb)
  clear hb HB4 HA_4 HN_4 HO_4
  have ya0 := HA_5.out.cell 0 _ rfl
  have ya1 := HA_5.out.cell 1 _ rfl
  have ya2 := HA_5.out.cell 2 _ rfl
  have ya3 := HA_5.out.cell 3 _ rfl
  have ya4 := HA_5.out.cell 4 _ rfl
  have ya5 := HA_5.out.cell 5 _ rfl
  go_wp2_with fail
  clear ya0 ya1 ya2 ya3 ya4 ya5
  refine (kn11 _ (HM.out.bel HB5.out)).mono ?_
  rintro e V4 ⟨rfl, hb⟩
  have HB6 := Lib.hid (HB5.out.trans (hb.mono HB5.out.size))
  have HA_6 := Lib.hid (HA_5.out.below hb)
  have HN_6 := Lib.hid (HN_5.out.below hb)
  have HO_6 := Lib.hid (HO_5.out.below hb)
  clear hb HB5 HA_5 HN_5 HO_5
  go_wp2_with fail
  refine (kn12 _ (HM.out.bel HB6.out)).mono ?_
  rintro e V5 ⟨rfl, hb⟩
  have HB7 := Lib.hid (HB6.out.trans (hb.mono HB6.out.size))
  have HA_7 := Lib.hid (HA_6.out.below hb)
  have HN_7 := Lib.hid (HN_6.out.below hb)
  have HO_7 := Lib.hid (HO_6.out.below hb)
  clear hb HB6 HA_6 HN_6 HO_6
  go_wp2_with fail
  refine (kn13 _ (HM.out.bel HB7.out)).mono ?_
  rintro e V6 ⟨rfl, hb⟩
  have HB8 := Lib.hid (HB7.out.trans (hb.mono HB7.out.size))
  have HA_8 := Lib.hid (HA_7.out.below hb)
  have HN_8 := Lib.hid (HN_7.out.below hb)
  have HO_8 := Lib.hid (HO_7.out.below hb)
  clear hb HB7 HA_7 HN_7 HO_7
  go_wp2_with fail
  refine (kn14 _ (HM.out.bel HB8.out)).mono ?_
  rintro e V7 ⟨rfl, hb⟩
  have HB9 := Lib.hid (HB8.out.trans (hb.mono HB8.out.size))
  have HA_9 := Lib.hid (HA_8.out.below hb)
  have HN_9 := Lib.hid (HN_8.out.below hb)
  have HO_9 := Lib.hid (HO_8.out.below hb)
  clear hb HB8 HA_8 HN_8 HO_8
  have yb0 := HO_9.out.cell 0 _ rfl
  have yb1 := HO_9.out.cell 1 _ rfl
  have yb2 := HO_9.out.cell 2 _ rfl
  have yb3 := HO_9.out.cell 3 _ rfl
  have yb4 := HO_9.out.cell 4 _ rfl
  have yb5 := HO_9.out.cell 5 _ rfl
  go_wp2_with fail
  clear yb0 yb1 yb2 yb3 yb4 yb5
  refine (kn15 _ (HM.out.bel HB9.out)).mono ?_
  rintro e V8 ⟨rfl, hb⟩
  have HB10 := Lib.hid (HB9.out.trans (hb.mono HB9.out.size))
  have HA_10 := Lib.hid (HA_9.out.below hb)
  have HN_10 := Lib.hid (HN_9.out.below hb)
  have HO_10 := Lib.hid (HO_9.out.below hb)
  clear hb HB9 HA_9 HN_9 HO_9
  have yc0 := HN_10.out.cell 0 _ rfl
  have yc1 := HN_10.out.cell 1 _ rfl
  have yc2 := HN_10.out.cell 2 _ rfl
  have yc3 := HN_10.out.cell 3 _ rfl
  have yc4 := HN_10.out.cell 4 _ rfl
  have yc5 := HN_10.out.cell 5 _ rfl
  go_wp2_with fail
  clear yc0 yc1 yc2 yc3 yc4 yc5
  refine (kn16 _ (HM.out.bel HB10.out)).mono ?_
  rintro e V9 ⟨rfl, hb⟩
  have HB11 := Lib.hid (HB10.out.trans (hb.mono HB10.out.size))
  have HA_11 := Lib.hid (HA_10.out.below hb)
  have HN_11 := Lib.hid (HN_10.out.below hb)
  have HO_11 := Lib.hid (HO_10.out.below hb)
  clear hb HB10 HA_10 HN_10 HO_10
  have yc0 := HN_11.out.cell 0 _ rfl
  have yc1 := HN_11.out.cell 1 _ rfl
  have yc2 := HN_11.out.cell 2 _ rfl
  have yc3 := HN_11.out.cell 3 _ rfl
  have yc4 := HN_11.out.cell 4 _ rfl
  have yc5 := HN_11.out.cell 5 _ rfl
  go_wp2_with fail
  clear yc0 yc1 yc2 yc3 yc4 yc5
  refine (kn17 _ (HM.out.bel HB11.out)).mono ?_
  rintro e V10 ⟨rfl, hb⟩
  have HB12 := Lib.hid (HB11.out.trans (hb.mono HB11.out.size))
  have HA_12 := Lib.hid (HA_11.out.below hb)
  have HN_12 := Lib.hid (HN_11.out.below hb)
  have HO_12 := Lib.hid (HO_11.out.below hb)
  clear hb HB11 HA_11 HN_11 HO_11
  go_wp2_with fail
  refine (kn18 _ (HM.out.bel HB12.out)).mono ?_
  rintro e V11 ⟨rfl, hb⟩
  have HB13 := Lib.hid (HB12.out.trans (hb.mono HB12.out.size))
  have HA_13 := Lib.hid (HA_12.out.below hb)
  have HN_13 := Lib.hid (HN_12.out.below hb)
  have HO_13 := Lib.hid (HO_12.out.below hb)
  clear hb HB12 HA_12 HN_12 HO_12
  go_wp2_with fail
  refine (kn_two _ (HM.out.bel HB13.out)).mono ?_
  rintro e Y ⟨rfl, hb⟩
  have hy : Below Y.heap.size Y (Y.alloc (.cells #[.bool false, .bool false, .bool false, .bool true, .int .i64 2, .int .i64 0] 32)) := (Below.refl _ _).alloc (Nat.le_refl _) _
  have hY := dbk.new Y #[.bool false, .bool false, .bool false, .bool true, .int .i64 2, .int .i64 0] 32
  have ya0 := hY.cell 0 _ rfl
  have ya1 := hY.cell 1 _ rfl
  have ya2 := hY.cell 2 _ rfl
  have ya3 := hY.cell 3 _ rfl
  have ya4 := hY.cell 4 _ rfl
  have ya5 := hY.cell 5 _ rfl
  have hb9 := hb.trans (hy.mono hb.size)
  have HBY := Lib.hid (HB13.out.trans (hb9.mono HB13.out.size))
  clear hb hy hY hb9 HB13 HA_13 HN_13 HO_13
  have e2 := eql_two
  go_wp2_with fail
  refine (kc_d _).mono ?_
  rintro e Y2 ⟨rfl, rfl⟩
  go_wp2_with fail
  refine (kc_nil _).mono ?_
  rintro e Y2 ⟨rfl, rfl⟩
  go_wp2_with fail
  refine (kc_ab _).mono ?_
  rintro e Y2 ⟨rfl, rfl⟩
  go_wp2_with fail
  refine (sworks_any _ (HM.out.bel HBY.out)).mono ?_
  rintro e Y3 ⟨rfl, hb⟩
  have HBZ := Lib.hid (HBY.out.trans (hb.mono HBY.out.size)); clear hb HBY
  go_wp2_with fail
  go_ret
  exact ⟨rfl, HBZ.out⟩
end Go.Proofs.Ytonioemenjjajaa
