/- What the small lists say of a request and of replies: says. -/
import Derived.Test.YtnhkebbmgiokbaaDoorFramingK
import Derived.Laws.StructEq
namespace Go.Proofs.YtnhkebbmgiokbaaDoor
open Go.RowKit

/-- two framings held against each other -/
theorem run_neqR (a b c d : Int) (w : World) : (binOp .neq 26 (.agg #[.int .i64 a, .int .i64 b]) (.agg #[.int .i64 c, .int .i64 d])).run Tryd.prog w = .ok (.bool (!(a == c && b == d))) w := by
  have u9 := Tryd.underlying3
  have a9 := Tryd.isAgg3
  have z9 := Tryd.sizeOf3
  have hS : Tryd.prog.underlying 26 = some (.struct (Tryd.prog.fieldsOf 26)) := by kernel_rfl
  have hp : Tryd.prog.stoodInHeld 26 = false := by kernel_rfl
  rw [run_neq_struct, show (10000 : Nat) = 9999 + 1 from rfl, run_equalIn_agg w 9999 26 _ _ hS hp]
  simp only [Program.fieldsOf, Tryd.underlying26]
  go_simp
  by_cases h1 : a = c <;> by_cases h2 : b = d <;> simp [h1, h2]
theorem run_neqR_same (a b : Int) (w : World) : (binOp .neq 26 (.agg #[.int .i64 a, .int .i64 b]) (.agg #[.int .i64 a, .int .i64 b])).run Tryd.prog w = .ok (.bool false) w := by
  rw [run_neqR]; simp
/-- what says asks of an answer: a kind below 0 is an error -/
def okR (r : Int × Int × Int) (k n : Int) : Prop := if k < 0 then r = (0, 0, -k) else r = (k, if k = 1 then n else 0, 0)
instance (r : Int × Int × Int) (k n : Int) : Decidable (okR r k n) := by unfold okR; infer_instance
theorem okR_neg {r : Int × Int × Int} {k n : Int} (h : okR r k n) (hk : k < 0) : r = (0, 0, -k) := by unfold okR at h; rwa [if_pos hk] at h
theorem okR_one {r : Int × Int × Int} {n : Int} (h : okR r 1 n) : r = (1, n, 0) := h
theorem okR_pos {r : Int × Int × Int} {k n : Int} (h : okR r k n) (hk : ¬ k < 0) (h1 : k ≠ 1) : r = (k, 0, 0) := by unfold okR at h; rw [if_neg hk, if_neg h1] at h; exact h
/-- an answer of the function f at these arguments, in every world behind w -/
def Ans (w : World) (f : FuncId) (args : Array Value) (r : Int × Int × Int) : Prop := ∀ W, Below w.heap.size w W → Calls Tryd.prog f args W fun e w' => e = .returned (ansV r) ∧ Below W.heap.size W w'
theorem Ans.later {w w1 : World} {f : FuncId} {args : Array Value} {r : Int × Int × Int} (h : Ans w f args r) (hb : Below w.heap.size w w1) : Ans w1 f args r := fun W h2 => h W (hb.trans (h2.mono hb.size))

set_option maxRecDepth 100000 in
set_option maxHeartbeats 8000000 in
theorem says_any (v : Value) (L : List Fld) (ask tell bare n : Int) (w : World) (h0 : Ans w 9 #[v] (askR L)) (h1 : Ans w 12 #[v, .int .i64 200, .bool false] (tellR L 200 false)) (h2 : Ans w 12 #[v, .int .i64 304, .bool false] (tellR L 304 false))
    (ra : -1000 ≤ ask ∧ ask ≤ 1000) (rt : -1000 ≤ tell ∧ tell ≤ 1000) (rn : -1000 ≤ bare ∧ bare ≤ 1000) (k0 : okR (askR L) ask n) (k1 : okR (tellR L 200 false) tell n) (k2 : okR (tellR L 304 false) bare n) :
    Calls Tryd.prog 15 #[v, .int .i64 ask, .int .i64 tell, .int .i64 bare, .int .i64 n] w fun e w' => e = .returned (.bool true) ∧ Below w.heap.size w w' := by
  have hal : Below w.heap.size w (w.alloc (.cells #[.int .i64 ask, .int .i64 tell, .int .i64 bare] 3)) := (Below.refl _ _).alloc (Nat.le_refl _) _
  have hkb := blk.new w #[.int .i64 ask, .int .i64 tell, .int .i64 bare] 3
  have H0 := Lib.hid (h0.later hal); have H1 := Lib.hid (h1.later hal); have H2 := Lib.hid (h2.later hal)
  have HAL := Lib.hid hal; have HKB := Lib.hid hkb
  have K0 := Lib.hid k0; have K1 := Lib.hid k1; have K2 := Lib.hid k2
  clear h0 h1 h2 hal hkb k0 k1 k2
  go_enter Tryd.func15, Tryd.ntmps15
  go_wp2_with fail
  generalize w.alloc (.cells #[.int .i64 ask, .int .i64 tell, .int .i64 bare] 3) = w1 at *
  go_loopw [12] (fun i wr => ∃ k : Nat, k ≤ 3 ∧ i = .int .i64 k ∧ Below w1.heap.size w1 wr) (fun i _ => 3 - (intOf i).toNat)
  case atStart => exact ⟨0, by omega, rfl, Below.refl _ _⟩
  case round =>
    obtain ⟨k, hk, rfl, hb⟩ := hrel
    have HB := Lib.hid hb; clear hb
    obtain rfl | rfl | rfl | rfl : k = 0 ∨ k = 1 ∨ k = 2 ∨ k = 3 := by omega
    · have hk3 : (0 : Int) < 3 := by decide
      by_cases hneg : ask < 0
      · have hr := okR_neg K0.out hneg
        have hwn : IntKind.i64.wrap (-ask) = -ask := by rw [IntKind.wrap_i64]; omega
        have hcmp := run_neqR_same 0 0
        have hne1 : (ask == 1) = false := by rw [beq_eq_false_iff_ne]; omega
        have hkind : ∀ W, Below w1.heap.size w1 W → W.cell? ⟨w.heap.size, 0, none⟩ = some (.int .i64 ask) := fun W hb => ((HKB.out.below hb).cell 0 (.int .i64 ask) rfl)
        have HKIND := Lib.hid hkind; clear hkind
        have h0 := H0.out _ HB.out
        rw [hr] at h0
        have HA0 := Lib.hid h0; clear h0 hr
        go_wp2_with fail
        refine HA0.out.mono ?_
        rintro e w2 ⟨rfl, hb2⟩
        have HB2 := Lib.hid (HB.out.trans (hb2.mono HB.out.size)); clear hb2 HA0
        unfold ansV
        have hb3 : Below w1.heap.size w1 (w2.alloc (.cells #[.int .i64 0, .int .i64 0] 26)) := (HB2.out.alloc HB2.out.size (.cells #[.int .i64 0, .int .i64 0] 26))
        have hb4 := hb3.alloc hb3.size (.cells #[.int .i64 ask, .int .i64 0] 26)
        have hb4' := hb3.alloc hb3.size (.cells #[.int .i64 ask, .int .i64 0] 26)
        have q3 := HKIND.out _ hb3
        have q4 := HKIND.out _ hb4
        have q4' := HKIND.out _ hb4'
        have d4 := ((blk.new w2 #[.int .i64 0, .int .i64 0] 26).alloc (.cells #[.int .i64 ask, .int .i64 0] 26)).cell 0 (.int .i64 0) rfl
        have d5 := ((blk.new w2 #[.int .i64 0, .int .i64 0] 26).alloc (.cells #[.int .i64 ask, .int .i64 0] 26)).cell 1 (.int .i64 0) rfl
        have HB4 := Lib.hid hb4'
        clear hb3 hb4 hb4'
        go_wp2_with fail
        go_roundw
        case rel => exact ⟨1, by omega, by go_num, HB4.out⟩
        case measure => simp [intOf]
      · by_cases hone : ask = 1
        · have h1 := K0.out
          rw [hone] at h1
          have hr := okR_one h1
          have HONE := Lib.hid hone
          clear hone
          clear h1
          have hcmp := run_neqR_same 1 n
          have hkind : ∀ W, Below w1.heap.size w1 W → W.cell? ⟨w.heap.size, 0, none⟩ = some (.int .i64 1) := fun W hb => (HONE.out ▸ (HKB.out.below hb).cell 0 (.int .i64 ask) rfl)
          have HKIND := Lib.hid hkind; clear hkind
          have h0 := H0.out _ HB.out
          rw [hr] at h0
          have HA0 := Lib.hid h0; clear h0 hr
          go_wp2_with fail
          refine HA0.out.mono ?_
          rintro e w2 ⟨rfl, hb2⟩
          have HB2 := Lib.hid (HB.out.trans (hb2.mono HB.out.size)); clear hb2 HA0
          unfold ansV
          have hb3 : Below w1.heap.size w1 (w2.alloc (.cells #[.int .i64 1, .int .i64 n] 26)) := (HB2.out.alloc HB2.out.size (.cells #[.int .i64 1, .int .i64 n] 26))
          have hb4 := hb3.alloc hb3.size (.cells #[.int .i64 1, .int .i64 0] 26)
          have hb4' := hb3.alloc hb3.size (.cells #[.int .i64 1, .int .i64 n] 26)
          have q3 := HKIND.out _ hb3
          have q4 := HKIND.out _ hb4
          have q4' := HKIND.out _ hb4'
          have d4 := ((blk.new w2 #[.int .i64 1, .int .i64 n] 26).alloc (.cells #[.int .i64 1, .int .i64 n] 26)).cell 0 (.int .i64 1) rfl
          have d5 := ((blk.new w2 #[.int .i64 1, .int .i64 n] 26).alloc (.cells #[.int .i64 1, .int .i64 n] 26)).cell 1 (.int .i64 n) rfl
          have HB4 := Lib.hid hb4'
          clear hb3 hb4 hb4'
          go_wp2_with fail
          go_roundw
          case rel => exact ⟨1, by omega, by go_num, HB4.out⟩
          case measure => simp [intOf]
        · have hr := okR_pos K0.out hneg hone
          have hcmp := run_neqR_same ask 0
          have hne1 : (ask == 1) = false := by rw [beq_eq_false_iff_ne]; exact hone
          have hge : 0 ≤ ask := by omega
          have hkind : ∀ W, Below w1.heap.size w1 W → W.cell? ⟨w.heap.size, 0, none⟩ = some (.int .i64 ask) := fun W hb => ((HKB.out.below hb).cell 0 (.int .i64 ask) rfl)
          have HKIND := Lib.hid hkind; clear hkind
          have h0 := H0.out _ HB.out
          rw [hr] at h0
          have HA0 := Lib.hid h0; clear h0 hr
          go_wp2_with fail
          refine HA0.out.mono ?_
          rintro e w2 ⟨rfl, hb2⟩
          have HB2 := Lib.hid (HB.out.trans (hb2.mono HB.out.size)); clear hb2 HA0
          unfold ansV
          have hb3 : Below w1.heap.size w1 (w2.alloc (.cells #[.int .i64 ask, .int .i64 0] 26)) := (HB2.out.alloc HB2.out.size (.cells #[.int .i64 ask, .int .i64 0] 26))
          have hb4 := hb3.alloc hb3.size (.cells #[.int .i64 ask, .int .i64 0] 26)
          have hb4' := hb3.alloc hb3.size (.cells #[.int .i64 ask, .int .i64 0] 26)
          have q3 := HKIND.out _ hb3
          have q4 := HKIND.out _ hb4
          have q4' := HKIND.out _ hb4'
          have d4 := ((blk.new w2 #[.int .i64 ask, .int .i64 0] 26).alloc (.cells #[.int .i64 ask, .int .i64 0] 26)).cell 0 (.int .i64 ask) rfl
          have d5 := ((blk.new w2 #[.int .i64 ask, .int .i64 0] 26).alloc (.cells #[.int .i64 ask, .int .i64 0] 26)).cell 1 (.int .i64 0) rfl
          have HB4 := Lib.hid hb4'
          clear hb3 hb4 hb4'
          go_wp2_with fail
          go_roundw
          case rel => exact ⟨1, by omega, by go_num, HB4.out⟩
          case measure => simp [intOf]
    · have hk3 : (1 : Int) < 3 := by decide
      by_cases hneg : tell < 0
      · have hr := okR_neg K1.out hneg
        have hwn : IntKind.i64.wrap (-tell) = -tell := by rw [IntKind.wrap_i64]; omega
        have hcmp := run_neqR_same 0 0
        have hne1 : (tell == 1) = false := by rw [beq_eq_false_iff_ne]; omega
        have hkind : ∀ W, Below w1.heap.size w1 W → W.cell? ⟨w.heap.size, 1, none⟩ = some (.int .i64 tell) := fun W hb => ((HKB.out.below hb).cell 1 (.int .i64 tell) rfl)
        have HKIND := Lib.hid hkind; clear hkind
        have HAk := Lib.hid (hr ▸ H1.out)
        clear hr
        go_wp2_with fail
        refine (H0.out _ HB.out).mono ?_
        rintro e w2 ⟨rfl, hb2⟩
        have HB2 := Lib.hid (HB.out.trans (hb2.mono HB.out.size)); clear hb2
        generalize askR L = rq at *
        obtain ⟨x0, x1, x2⟩ := rq
        unfold ansV
        have HC2 := Lib.hid ((blk.new w2 #[.int .i64 x0, .int .i64 x1] 26).alloc (.cells #[.int .i64 0, .int .i64 200, .int .i64 304] 3))
        have hc33 := (blk.new (w2.alloc (.cells #[.int .i64 x0, .int .i64 x1] 26)) #[.int .i64 0, .int .i64 200, .int .i64 304] 3).cell 1 (.int .i64 200) rfl
        rw [World.size_alloc] at hc33
        have HB3 := Lib.hid ((HB2.out.alloc HB2.out.size (.cells #[.int .i64 x0, .int .i64 x1] 26)).alloc (HB2.out.alloc HB2.out.size (.cells #[.int .i64 x0, .int .i64 x1] 26)).size (.cells #[.int .i64 0, .int .i64 200, .int .i64 304] 3))
        go_wp2_with fail
        refine (HAk.out _ HB3.out).mono ?_
        rintro e w5 ⟨rfl, hb5⟩
        have HC5 := Lib.hid (HC2.out.below hb5); have HB5 := Lib.hid (HB3.out.trans (hb5.mono HB3.out.size)); clear hb5 hc33
        have HZ5 : Hid (w1.heap.size ≤ w2.heap.size) := HB2.out.size
        generalize w2.heap.size = B13 at *
        unfold ansV
        obtain ⟨⟨s1, s2⟩, ⟨s3, s4⟩, m1, m2⟩ := HC5.out.asks2 (.int .i64 0) (.int .i64 0)
        have hb3 : Below w1.heap.size w1 ((w5.setCell ⟨B13, 0, none⟩ (.int .i64 0)).setCell ⟨B13, 1, none⟩ (.int .i64 0)) := ((HB5.out.setCell (p := ⟨B13, 0, none⟩) HZ5.out (.int .i64 0)).setCell (p := ⟨B13, 1, none⟩) HZ5.out (.int .i64 0))
        have hb4 := hb3.alloc hb3.size (.cells #[.int .i64 tell, .int .i64 0] 26)
        have hb4' := hb3.alloc hb3.size (.cells #[.int .i64 tell, .int .i64 0] 26)
        have q3 := HKIND.out _ hb3
        have q4 := HKIND.out _ hb4
        have q4' := HKIND.out _ hb4'
        have d4 := ((HC5.out.two (.int .i64 0) (.int .i64 0)).alloc (.cells #[.int .i64 tell, .int .i64 0] 26)).cell 0 (.int .i64 0) rfl
        have d5 := ((HC5.out.two (.int .i64 0) (.int .i64 0)).alloc (.cells #[.int .i64 tell, .int .i64 0] 26)).cell 1 (.int .i64 0) rfl
        have HB4 := Lib.hid hb4'
        clear hb3 hb4 hb4'
        go_wp2_with fail
        go_roundw
        case rel => exact ⟨2, by omega, by go_num, HB4.out⟩
        case measure => simp [intOf]
      · by_cases hone : tell = 1
        · have h1 := K1.out
          rw [hone] at h1
          have hr := okR_one h1
          have HONE := Lib.hid hone
          clear hone
          clear h1
          have hcmp := run_neqR_same 1 n
          have hkind : ∀ W, Below w1.heap.size w1 W → W.cell? ⟨w.heap.size, 1, none⟩ = some (.int .i64 1) := fun W hb => (HONE.out ▸ (HKB.out.below hb).cell 1 (.int .i64 tell) rfl)
          have HKIND := Lib.hid hkind; clear hkind
          have HAk := Lib.hid (hr ▸ H1.out)
          clear hr
          go_wp2_with fail
          refine (H0.out _ HB.out).mono ?_
          rintro e w2 ⟨rfl, hb2⟩
          have HB2 := Lib.hid (HB.out.trans (hb2.mono HB.out.size)); clear hb2
          generalize askR L = rq at *
          obtain ⟨x0, x1, x2⟩ := rq
          unfold ansV
          have HC2 := Lib.hid ((blk.new w2 #[.int .i64 x0, .int .i64 x1] 26).alloc (.cells #[.int .i64 0, .int .i64 200, .int .i64 304] 3))
          have hc33 := (blk.new (w2.alloc (.cells #[.int .i64 x0, .int .i64 x1] 26)) #[.int .i64 0, .int .i64 200, .int .i64 304] 3).cell 1 (.int .i64 200) rfl
          rw [World.size_alloc] at hc33
          have HB3 := Lib.hid ((HB2.out.alloc HB2.out.size (.cells #[.int .i64 x0, .int .i64 x1] 26)).alloc (HB2.out.alloc HB2.out.size (.cells #[.int .i64 x0, .int .i64 x1] 26)).size (.cells #[.int .i64 0, .int .i64 200, .int .i64 304] 3))
          go_wp2_with fail
          refine (HAk.out _ HB3.out).mono ?_
          rintro e w5 ⟨rfl, hb5⟩
          have HC5 := Lib.hid (HC2.out.below hb5); have HB5 := Lib.hid (HB3.out.trans (hb5.mono HB3.out.size)); clear hb5 hc33
          have HZ5 : Hid (w1.heap.size ≤ w2.heap.size) := HB2.out.size
          generalize w2.heap.size = B13 at *
          unfold ansV
          obtain ⟨⟨s1, s2⟩, ⟨s3, s4⟩, m1, m2⟩ := HC5.out.asks2 (.int .i64 1) (.int .i64 n)
          have hb3 : Below w1.heap.size w1 ((w5.setCell ⟨B13, 0, none⟩ (.int .i64 1)).setCell ⟨B13, 1, none⟩ (.int .i64 n)) := ((HB5.out.setCell (p := ⟨B13, 0, none⟩) HZ5.out (.int .i64 1)).setCell (p := ⟨B13, 1, none⟩) HZ5.out (.int .i64 n))
          have hb4 := hb3.alloc hb3.size (.cells #[.int .i64 1, .int .i64 0] 26)
          have hb4' := hb3.alloc hb3.size (.cells #[.int .i64 1, .int .i64 n] 26)
          have q3 := HKIND.out _ hb3
          have q4 := HKIND.out _ hb4
          have q4' := HKIND.out _ hb4'
          have d4 := ((HC5.out.two (.int .i64 1) (.int .i64 n)).alloc (.cells #[.int .i64 1, .int .i64 n] 26)).cell 0 (.int .i64 1) rfl
          have d5 := ((HC5.out.two (.int .i64 1) (.int .i64 n)).alloc (.cells #[.int .i64 1, .int .i64 n] 26)).cell 1 (.int .i64 n) rfl
          have HB4 := Lib.hid hb4'
          clear hb3 hb4 hb4'
          go_wp2_with fail
          go_roundw
          case rel => exact ⟨2, by omega, by go_num, HB4.out⟩
          case measure => simp [intOf]
        · have hr := okR_pos K1.out hneg hone
          have hcmp := run_neqR_same tell 0
          have hne1 : (tell == 1) = false := by rw [beq_eq_false_iff_ne]; exact hone
          have hge : 0 ≤ tell := by omega
          have hkind : ∀ W, Below w1.heap.size w1 W → W.cell? ⟨w.heap.size, 1, none⟩ = some (.int .i64 tell) := fun W hb => ((HKB.out.below hb).cell 1 (.int .i64 tell) rfl)
          have HKIND := Lib.hid hkind; clear hkind
          have HAk := Lib.hid (hr ▸ H1.out)
          clear hr
          go_wp2_with fail
          refine (H0.out _ HB.out).mono ?_
          rintro e w2 ⟨rfl, hb2⟩
          have HB2 := Lib.hid (HB.out.trans (hb2.mono HB.out.size)); clear hb2
          generalize askR L = rq at *
          obtain ⟨x0, x1, x2⟩ := rq
          unfold ansV
          have HC2 := Lib.hid ((blk.new w2 #[.int .i64 x0, .int .i64 x1] 26).alloc (.cells #[.int .i64 0, .int .i64 200, .int .i64 304] 3))
          have hc33 := (blk.new (w2.alloc (.cells #[.int .i64 x0, .int .i64 x1] 26)) #[.int .i64 0, .int .i64 200, .int .i64 304] 3).cell 1 (.int .i64 200) rfl
          rw [World.size_alloc] at hc33
          have HB3 := Lib.hid ((HB2.out.alloc HB2.out.size (.cells #[.int .i64 x0, .int .i64 x1] 26)).alloc (HB2.out.alloc HB2.out.size (.cells #[.int .i64 x0, .int .i64 x1] 26)).size (.cells #[.int .i64 0, .int .i64 200, .int .i64 304] 3))
          go_wp2_with fail
          refine (HAk.out _ HB3.out).mono ?_
          rintro e w5 ⟨rfl, hb5⟩
          have HC5 := Lib.hid (HC2.out.below hb5); have HB5 := Lib.hid (HB3.out.trans (hb5.mono HB3.out.size)); clear hb5 hc33
          have HZ5 : Hid (w1.heap.size ≤ w2.heap.size) := HB2.out.size
          generalize w2.heap.size = B13 at *
          unfold ansV
          obtain ⟨⟨s1, s2⟩, ⟨s3, s4⟩, m1, m2⟩ := HC5.out.asks2 (.int .i64 tell) (.int .i64 0)
          have hb3 : Below w1.heap.size w1 ((w5.setCell ⟨B13, 0, none⟩ (.int .i64 tell)).setCell ⟨B13, 1, none⟩ (.int .i64 0)) := ((HB5.out.setCell (p := ⟨B13, 0, none⟩) HZ5.out (.int .i64 tell)).setCell (p := ⟨B13, 1, none⟩) HZ5.out (.int .i64 0))
          have hb4 := hb3.alloc hb3.size (.cells #[.int .i64 tell, .int .i64 0] 26)
          have hb4' := hb3.alloc hb3.size (.cells #[.int .i64 tell, .int .i64 0] 26)
          have q3 := HKIND.out _ hb3
          have q4 := HKIND.out _ hb4
          have q4' := HKIND.out _ hb4'
          have d4 := ((HC5.out.two (.int .i64 tell) (.int .i64 0)).alloc (.cells #[.int .i64 tell, .int .i64 0] 26)).cell 0 (.int .i64 tell) rfl
          have d5 := ((HC5.out.two (.int .i64 tell) (.int .i64 0)).alloc (.cells #[.int .i64 tell, .int .i64 0] 26)).cell 1 (.int .i64 0) rfl
          have HB4 := Lib.hid hb4'
          clear hb3 hb4 hb4'
          go_wp2_with fail
          go_roundw
          case rel => exact ⟨2, by omega, by go_num, HB4.out⟩
          case measure => simp [intOf]
    · have hk3 : (2 : Int) < 3 := by decide
      by_cases hneg : bare < 0
      · have hr := okR_neg K2.out hneg
        have hwn : IntKind.i64.wrap (-bare) = -bare := by rw [IntKind.wrap_i64]; omega
        have hcmp := run_neqR_same 0 0
        have hne1 : (bare == 1) = false := by rw [beq_eq_false_iff_ne]; omega
        have hkind : ∀ W, Below w1.heap.size w1 W → W.cell? ⟨w.heap.size, 2, none⟩ = some (.int .i64 bare) := fun W hb => ((HKB.out.below hb).cell 2 (.int .i64 bare) rfl)
        have HKIND := Lib.hid hkind; clear hkind
        have HAk := Lib.hid (hr ▸ H2.out)
        clear hr
        go_wp2_with fail
        refine (H0.out _ HB.out).mono ?_
        rintro e w2 ⟨rfl, hb2⟩
        have HB2 := Lib.hid (HB.out.trans (hb2.mono HB.out.size)); clear hb2
        generalize askR L = rq at *
        obtain ⟨x0, x1, x2⟩ := rq
        unfold ansV
        have HC2 := Lib.hid ((blk.new w2 #[.int .i64 x0, .int .i64 x1] 26).alloc (.cells #[.int .i64 0, .int .i64 200, .int .i64 304] 3))
        have hc33 := (blk.new (w2.alloc (.cells #[.int .i64 x0, .int .i64 x1] 26)) #[.int .i64 0, .int .i64 200, .int .i64 304] 3).cell 2 (.int .i64 304) rfl
        rw [World.size_alloc] at hc33
        have HB3 := Lib.hid ((HB2.out.alloc HB2.out.size (.cells #[.int .i64 x0, .int .i64 x1] 26)).alloc (HB2.out.alloc HB2.out.size (.cells #[.int .i64 x0, .int .i64 x1] 26)).size (.cells #[.int .i64 0, .int .i64 200, .int .i64 304] 3))
        go_wp2_with fail
        refine (HAk.out _ HB3.out).mono ?_
        rintro e w5 ⟨rfl, hb5⟩
        have HC5 := Lib.hid (HC2.out.below hb5); have HB5 := Lib.hid (HB3.out.trans (hb5.mono HB3.out.size)); clear hb5 hc33
        have HZ5 : Hid (w1.heap.size ≤ w2.heap.size) := HB2.out.size
        generalize w2.heap.size = B13 at *
        unfold ansV
        obtain ⟨⟨s1, s2⟩, ⟨s3, s4⟩, m1, m2⟩ := HC5.out.asks2 (.int .i64 0) (.int .i64 0)
        have hb3 : Below w1.heap.size w1 ((w5.setCell ⟨B13, 0, none⟩ (.int .i64 0)).setCell ⟨B13, 1, none⟩ (.int .i64 0)) := ((HB5.out.setCell (p := ⟨B13, 0, none⟩) HZ5.out (.int .i64 0)).setCell (p := ⟨B13, 1, none⟩) HZ5.out (.int .i64 0))
        have hb4 := hb3.alloc hb3.size (.cells #[.int .i64 bare, .int .i64 0] 26)
        have hb4' := hb3.alloc hb3.size (.cells #[.int .i64 bare, .int .i64 0] 26)
        have q3 := HKIND.out _ hb3
        have q4 := HKIND.out _ hb4
        have q4' := HKIND.out _ hb4'
        have d4 := ((HC5.out.two (.int .i64 0) (.int .i64 0)).alloc (.cells #[.int .i64 bare, .int .i64 0] 26)).cell 0 (.int .i64 0) rfl
        have d5 := ((HC5.out.two (.int .i64 0) (.int .i64 0)).alloc (.cells #[.int .i64 bare, .int .i64 0] 26)).cell 1 (.int .i64 0) rfl
        have HB4 := Lib.hid hb4'
        clear hb3 hb4 hb4'
        go_wp2_with fail
        go_roundw
        case rel => exact ⟨3, by omega, by go_num, HB4.out⟩
        case measure => simp [intOf]
      · by_cases hone : bare = 1
        · have h1 := K2.out
          rw [hone] at h1
          have hr := okR_one h1
          have HONE := Lib.hid hone
          clear hone
          clear h1
          have hcmp := run_neqR_same 1 n
          have hkind : ∀ W, Below w1.heap.size w1 W → W.cell? ⟨w.heap.size, 2, none⟩ = some (.int .i64 1) := fun W hb => (HONE.out ▸ (HKB.out.below hb).cell 2 (.int .i64 bare) rfl)
          have HKIND := Lib.hid hkind; clear hkind
          have HAk := Lib.hid (hr ▸ H2.out)
          clear hr
          go_wp2_with fail
          refine (H0.out _ HB.out).mono ?_
          rintro e w2 ⟨rfl, hb2⟩
          have HB2 := Lib.hid (HB.out.trans (hb2.mono HB.out.size)); clear hb2
          generalize askR L = rq at *
          obtain ⟨x0, x1, x2⟩ := rq
          unfold ansV
          have HC2 := Lib.hid ((blk.new w2 #[.int .i64 x0, .int .i64 x1] 26).alloc (.cells #[.int .i64 0, .int .i64 200, .int .i64 304] 3))
          have hc33 := (blk.new (w2.alloc (.cells #[.int .i64 x0, .int .i64 x1] 26)) #[.int .i64 0, .int .i64 200, .int .i64 304] 3).cell 2 (.int .i64 304) rfl
          rw [World.size_alloc] at hc33
          have HB3 := Lib.hid ((HB2.out.alloc HB2.out.size (.cells #[.int .i64 x0, .int .i64 x1] 26)).alloc (HB2.out.alloc HB2.out.size (.cells #[.int .i64 x0, .int .i64 x1] 26)).size (.cells #[.int .i64 0, .int .i64 200, .int .i64 304] 3))
          go_wp2_with fail
          refine (HAk.out _ HB3.out).mono ?_
          rintro e w5 ⟨rfl, hb5⟩
          have HC5 := Lib.hid (HC2.out.below hb5); have HB5 := Lib.hid (HB3.out.trans (hb5.mono HB3.out.size)); clear hb5 hc33
          have HZ5 : Hid (w1.heap.size ≤ w2.heap.size) := HB2.out.size
          generalize w2.heap.size = B13 at *
          unfold ansV
          obtain ⟨⟨s1, s2⟩, ⟨s3, s4⟩, m1, m2⟩ := HC5.out.asks2 (.int .i64 1) (.int .i64 n)
          have hb3 : Below w1.heap.size w1 ((w5.setCell ⟨B13, 0, none⟩ (.int .i64 1)).setCell ⟨B13, 1, none⟩ (.int .i64 n)) := ((HB5.out.setCell (p := ⟨B13, 0, none⟩) HZ5.out (.int .i64 1)).setCell (p := ⟨B13, 1, none⟩) HZ5.out (.int .i64 n))
          have hb4 := hb3.alloc hb3.size (.cells #[.int .i64 1, .int .i64 0] 26)
          have hb4' := hb3.alloc hb3.size (.cells #[.int .i64 1, .int .i64 n] 26)
          have q3 := HKIND.out _ hb3
          have q4 := HKIND.out _ hb4
          have q4' := HKIND.out _ hb4'
          have d4 := ((HC5.out.two (.int .i64 1) (.int .i64 n)).alloc (.cells #[.int .i64 1, .int .i64 n] 26)).cell 0 (.int .i64 1) rfl
          have d5 := ((HC5.out.two (.int .i64 1) (.int .i64 n)).alloc (.cells #[.int .i64 1, .int .i64 n] 26)).cell 1 (.int .i64 n) rfl
          have HB4 := Lib.hid hb4'
          clear hb3 hb4 hb4'
          go_wp2_with fail
          go_roundw
          case rel => exact ⟨3, by omega, by go_num, HB4.out⟩
          case measure => simp [intOf]
        · have hr := okR_pos K2.out hneg hone
          have hcmp := run_neqR_same bare 0
          have hne1 : (bare == 1) = false := by rw [beq_eq_false_iff_ne]; exact hone
          have hge : 0 ≤ bare := by omega
          have hkind : ∀ W, Below w1.heap.size w1 W → W.cell? ⟨w.heap.size, 2, none⟩ = some (.int .i64 bare) := fun W hb => ((HKB.out.below hb).cell 2 (.int .i64 bare) rfl)
          have HKIND := Lib.hid hkind; clear hkind
          have HAk := Lib.hid (hr ▸ H2.out)
          clear hr
          go_wp2_with fail
          refine (H0.out _ HB.out).mono ?_
          rintro e w2 ⟨rfl, hb2⟩
          have HB2 := Lib.hid (HB.out.trans (hb2.mono HB.out.size)); clear hb2
          generalize askR L = rq at *
          obtain ⟨x0, x1, x2⟩ := rq
          unfold ansV
          have HC2 := Lib.hid ((blk.new w2 #[.int .i64 x0, .int .i64 x1] 26).alloc (.cells #[.int .i64 0, .int .i64 200, .int .i64 304] 3))
          have hc33 := (blk.new (w2.alloc (.cells #[.int .i64 x0, .int .i64 x1] 26)) #[.int .i64 0, .int .i64 200, .int .i64 304] 3).cell 2 (.int .i64 304) rfl
          rw [World.size_alloc] at hc33
          have HB3 := Lib.hid ((HB2.out.alloc HB2.out.size (.cells #[.int .i64 x0, .int .i64 x1] 26)).alloc (HB2.out.alloc HB2.out.size (.cells #[.int .i64 x0, .int .i64 x1] 26)).size (.cells #[.int .i64 0, .int .i64 200, .int .i64 304] 3))
          go_wp2_with fail
          refine (HAk.out _ HB3.out).mono ?_
          rintro e w5 ⟨rfl, hb5⟩
          have HC5 := Lib.hid (HC2.out.below hb5); have HB5 := Lib.hid (HB3.out.trans (hb5.mono HB3.out.size)); clear hb5 hc33
          have HZ5 : Hid (w1.heap.size ≤ w2.heap.size) := HB2.out.size
          generalize w2.heap.size = B13 at *
          unfold ansV
          obtain ⟨⟨s1, s2⟩, ⟨s3, s4⟩, m1, m2⟩ := HC5.out.asks2 (.int .i64 bare) (.int .i64 0)
          have hb3 : Below w1.heap.size w1 ((w5.setCell ⟨B13, 0, none⟩ (.int .i64 bare)).setCell ⟨B13, 1, none⟩ (.int .i64 0)) := ((HB5.out.setCell (p := ⟨B13, 0, none⟩) HZ5.out (.int .i64 bare)).setCell (p := ⟨B13, 1, none⟩) HZ5.out (.int .i64 0))
          have hb4 := hb3.alloc hb3.size (.cells #[.int .i64 bare, .int .i64 0] 26)
          have hb4' := hb3.alloc hb3.size (.cells #[.int .i64 bare, .int .i64 0] 26)
          have q3 := HKIND.out _ hb3
          have q4 := HKIND.out _ hb4
          have q4' := HKIND.out _ hb4'
          have d4 := ((HC5.out.two (.int .i64 bare) (.int .i64 0)).alloc (.cells #[.int .i64 bare, .int .i64 0] 26)).cell 0 (.int .i64 bare) rfl
          have d5 := ((HC5.out.two (.int .i64 bare) (.int .i64 0)).alloc (.cells #[.int .i64 bare, .int .i64 0] 26)).cell 1 (.int .i64 0) rfl
          have HB4 := Lib.hid hb4'
          clear hb3 hb4 hb4'
          go_wp2_with fail
          go_roundw
          case rel => exact ⟨3, by omega, by go_num, HB4.out⟩
          case measure => simp [intOf]
    · go_wp2_with fail
      go_ret
      exact ⟨rfl, HAL.out.trans (HB.out.mono HAL.out.size)⟩
end Go.Proofs.YtnhkebbmgiokbaaDoor
