/- LinePuts, LineBack, LineAgain: walked. -/
import Derived.Test.YtinfflceglgneaaDoorLineL
namespace Go.Proofs.YtinfflceglgneaaDoor
open Go.RowKit

/-- block B holds a pair of numbers -/
def Two (w : World) (B : Nat) (n c : Int) : Prop := w.heap[B]? = some (.cells #[.int .i64 n, .int .i64 c] 33 (0, 0))
theorem Two.cells {w : World} {B : Nat} {n c : Int} (h : Two w B n c) : w.cell? ⟨B, 0, none⟩ = some (.int .i64 n) ∧ w.cell? ⟨B, 1, none⟩ = some (.int .i64 c) := by
  unfold Two at h
  constructor <;> · rw [World.cell?, h]; rfl
theorem Two.keep {w w' : World} {B : Nat} {n c : Int} (h : Two w B n c) (hb : Below w.heap.size w w') : Two w' B n c := (hb.block B (lt_of_block h)).trans h
theorem two_new (w : World) (n c : Int) : Two (w.alloc (.cells #[.int .i64 n, .int .i64 c] 33)) w.heap.size n c := heap_alloc_new w _

set_option maxRecDepth 100000 in
set_option maxHeartbeats 1000000 in
theorem linePuts_any (a b : ByteArray) (n c : Int) (w : World) (ha : a.size ≤ maxLen) (hb : b.size ≤ maxLen) (he : Env w) :
    Calls Tryd.prog 4 #[.string a, .string b, .agg #[.int .i64 n, .int .i64 c]] w fun e w' => e = .returned (.bool true) ∧ Below w.heap.size w w' := by
  unfold maxLen at ha hb
  have HE := Lib.hid he; clear he
  have HB0 : Hid (Below w.heap.size w (w.alloc (.cells #[.int .i64 n, .int .i64 c] 33))) := (Below.refl _ _).alloc (Nat.le_refl _) _
  by_cases h5 : 5000 < a.size ∨ 5000 < b.size
  · rcases h5 with h5 | h5
    · go_enter Tryd.func4, Tryd.ntmps4
      go_wp2_with fail
      refine (awake_any _ (HE.out.below HB0.out (Nat.le_refl _))).mono ?_
      rintro e w1 ⟨rfl, hb1⟩
      go_wp2_with fail
      go_ret
      exact ⟨rfl, HB0.out.trans (hb1.mono HB0.out.size)⟩
    · by_cases h6 : 5000 < a.size
      all_goals
        go_enter Tryd.func4, Tryd.ntmps4
        go_wp2_with fail
        refine (awake_any _ (HE.out.below HB0.out (Nat.le_refl _))).mono ?_
        rintro e w1 ⟨rfl, hb1⟩
        go_wp2_with fail
        go_ret
        exact ⟨rfl, HB0.out.trans (hb1.mono HB0.out.size)⟩
  · have h6 : ¬ 5000 < a.size := by omega
    have h7 : ¬ 5000 < b.size := by omega
    clear h5
    go_enter Tryd.func4, Tryd.ntmps4
    go_wp2_with fail
    have T0 := two_new w n c
    have HE0 : Hid (Env (w.alloc (.cells #[.int .i64 n, .int .i64 c] 33))) := HE.out.below HB0.out (Nat.le_refl _)
    clear HE
    generalize w.alloc (.cells #[.int .i64 n, .int .i64 c] 33) = w0 at T0 HE0 HB0 ⊢
    obtain ⟨c0, c1⟩ := T0.cells
    have HT0 := Lib.hid T0; clear T0
    refine (putRequest_any a b n _ (by omega) (by omega)).mono ?_
    rintro e w1 ⟨rfl, hb1⟩
    have T1 := HT0.out.keep hb1
    have HE1 : Hid (Env w1) := HE0.out.below hb1 (Nat.le_refl _)
    have HB1 : Hid (Below w.heap.size w w1) := HB0.out.trans (hb1.mono HB0.out.size)
    clear c0 c1 hb1 HT0 HE0 HB0
    obtain ⟨c0, c1⟩ := T1.cells
    have HT1 := Lib.hid T1; clear T1
    go_wp2_with fail
    refine (rputRequest_any a b n _ (by omega) (by omega)).mono ?_
    rintro e w2 ⟨rfl, rfl⟩
    go_wp2_with fail
    refine (putStatus_any c b n _ (by omega) HE1.out).mono ?_
    rintro e w2 ⟨rfl, hb2⟩
    have T2 := HT1.out.keep hb2
    have HE2 : Hid (Env w2) := HE1.out.below hb2 (Nat.le_refl _)
    have HB2 : Hid (Below w.heap.size w w2) := HB1.out.trans (hb2.mono HB1.out.size)
    clear c0 c1 hb2 HT1 HE1 HB1
    obtain ⟨c0, c1⟩ := T2.cells
    have HT2 := Lib.hid T2; clear T2
    go_wp2_with fail
    refine (rputStatus_any c b n _ (by omega)).mono ?_
    rintro e w3 ⟨rfl, hb3⟩
    have T3 := HT2.out.keep hb3
    have HE3 : Hid (Env w3) := HE2.out.below hb3 (Nat.le_refl _)
    have HB3 : Hid (Below w.heap.size w w3) := HB2.out.trans (hb3.mono HB2.out.size)
    clear c0 c1 hb3 HT2 HE2 HB2
    obtain ⟨c0, c1⟩ := T3.cells
    have HT3 := Lib.hid T3; clear T3
    go_wp2_with fail
    refine (awake_any _ HE3.out).mono ?_
    rintro e w5 ⟨rfl, hb5⟩
    go_wp2_with fail
    go_ret
    exact ⟨rfl, HB3.out.trans (hb5.mono HB3.out.size)⟩
end Go.Proofs.YtinfflceglgneaaDoor
