/- FramingTells, FramingKnown: walked. -/
import Derived.Test.YtnhkebbmgiokbaaDoorFramingM
import Derived.Test.YtnhkebbmgiokbaaDoorShelf
namespace Go.Proofs.YtnhkebbmgiokbaaDoor
open Go.RowKit

set_option maxRecDepth 100000 in
set_option maxHeartbeats 2000000 in
theorem framingTells_any (v : Value) (l : List Fld) (n : Int) (d : Bool) (w : World) (h : FL w v l) (hs : ∀ j (hj : j < l.length), l[j].1.length ≤ 9223372036854775807 ∧ l[j].2.length ≤ 9223372036854775807) (hl : l.length ≤ 9223372036854775807) (_wn : (Lit.int .i64 n).wf = true) (he : Env w) :
    Calls Tryd.prog 4 #[v, .int .i64 n, .bool d] w fun e w' => e = .returned (.bool true) ∧ Below w.heap.size w w' := by
  have hfw := few_any v l w h hs hl
  have HE := Lib.hid he; have HF := Lib.hid h; clear he h hs hl
  have hcmp := run_eqlD_same
  cases hf : fewB l
  · rw [hf] at hfw
    have HFW := Lib.hid hfw; clear hfw hf
    go_enter Tryd.func4, Tryd.ntmps4
    go_wp2_with fail
    refine HFW.out.mono ?_
    rintro e w1 ⟨rfl, hb1⟩
    have HB1 := Lib.hid hb1; clear hb1
    go_wp2_with fail
    refine (works_any _ (HE.out.below HB1.out (Nat.le_refl _))).mono ?_
    rintro e w2 ⟨rfl, hb2⟩
    have HB2 := Lib.hid (HB1.out.trans (hb2.mono HB1.out.size)); clear hb2
    go_wp2_with fail
    go_ret
    exact ⟨rfl, HB2.out⟩
  · rw [hf] at hfw
    obtain ⟨hl80, hz, hsm⟩ := few_small hf
    have HFW := Lib.hid hfw; have HSM := Lib.hid hsm; clear hfw hf hsm
    go_enter Tryd.func4, Tryd.ntmps4
    go_wp2_with fail
    refine HFW.out.mono ?_
    rintro e w2 ⟨rfl, hb2⟩
    have HB2 := Lib.hid hb2; clear hb2
    go_wp2_with fail
    refine (reply_any _ l n d _ (HE.out.below HB2.out (Nat.le_refl _)) (HF.out.bel HB2.out) HSM.out (by omega)).mono ?_
    rintro e w3 ⟨rfl, hb3⟩
    have HB3 := Lib.hid (HB2.out.trans (hb3.mono HB2.out.size)); clear hb3
    generalize hr : tellR l n d = r at *
    have HR := Lib.hid hr; clear hr
    obtain ⟨r0, r1, r2⟩ := r
    unfold ansV
    have h4 : Below w.heap.size w (w3.alloc (.cells #[.int .i64 r0, .int .i64 r1] 26)) := HB3.out.alloc HB3.out.size _
    have HB4 := Lib.hid h4
    have HC4 := Lib.hid (blk.new w3 #[.int .i64 r0, .int .i64 r1] 26)
    clear h4
    go_wp2_with fail
    generalize w3.alloc (.cells #[.int .i64 r0, .int .i64 r1] 26) = w4 at *
    generalize w3.heap.size = B4 at *
    refine (rreply6_any _ l n d _ (HF.out.bel HB4.out) HSM.out (by omega) (by omega)).mono ?_
    rw [HR.out]
    rintro e w5 ⟨rfl, hb5⟩
    unfold ansV
    have HB5 := Lib.hid (HB4.out.trans (hb5.mono HB4.out.size)); have HC5 := Lib.hid (HC4.out.below hb5); clear hb5
    have h56 : Below w5.heap.size w5 (w5.alloc (.cells #[.int .i64 r0, .int .i64 r1] 30)) := (Below.refl _ _).alloc (Nat.le_refl _) _
    have HB6 := Lib.hid (HB5.out.trans (h56.mono HB5.out.size))
    have HD6 := Lib.hid (blk.new w5 #[.int .i64 r0, .int .i64 r1] 30)
    have p0 := (HC5.out.below h56).cell 0 (.int .i64 r0) rfl
    have p1 := (HC5.out.below h56).cell 1 (.int .i64 r1) rfl
    have p2 := HD6.out.cell 0 (.int .i64 r0) rfl
    have p3 := HD6.out.cell 1 (.int .i64 r1) rfl
    clear h56
    go_wp2_with fail
    refine (works_any _ (HE.out.below HB6.out (Nat.le_refl _))).mono ?_
    rintro e w8 ⟨rfl, hb8⟩
    have HB8 := Lib.hid (HB6.out.trans (hb8.mono HB6.out.size)); clear hb8
    go_wp2_with fail
    go_ret
    exact ⟨rfl, HB8.out⟩

/-- two framings of the program held against each other -/
theorem run_eqlR_same (a b : Int) (w : World) : (binOp .eql 26 (.agg #[.int .i64 a, .int .i64 b]) (.agg #[.int .i64 a, .int .i64 b])).run Tryd.prog w = .ok (.bool true) w := by
  have u9 := Tryd.underlying3
  have a9 := Tryd.isAgg3
  have z9 := Tryd.sizeOf3
  have hS : Tryd.prog.underlying 26 = some (.struct (Tryd.prog.fieldsOf 26)) := by kernel_rfl
  have hp : Tryd.prog.stoodInHeld 26 = false := by kernel_rfl
  rw [run_eql_struct, show (10000 : Nat) = 9999 + 1 from rfl, run_equalIn_agg w 9999 26 _ _ hS hp]
  simp only [Program.fieldsOf, Tryd.underlying26]
  go_simp
/-- the texts that are no lengths -/
def badT : List (List UInt8) := [[43, 53], [], [53, 59], [53, 34], [49, 49, 49, 49, 49, 49, 49, 49, 49, 49, 49, 49, 49, 49, 49, 49, 49, 49, 49], [53, 44, 120], [32, 44, 32]]
theorem bad_all : ∀ x ∈ badT, okR (askR [([67, 111, 110, 116, 101, 110, 116, 45, 76, 101, 110, 103, 116, 104], x)]) (-4) 0 ∧ okR (tellR [([67, 111, 110, 116, 101, 110, 116, 45, 76, 101, 110, 103, 116, 104], x)] 200 false) (-4) 0 ∧ okR (tellR [([67, 111, 110, 116, 101, 110, 116, 45, 76, 101, 110, 103, 116, 104], x)] 304 false) (-4) 0 ∧ sizeL [([67, 111, 110, 116, 101, 110, 116, 45, 76, 101, 110, 103, 116, 104], x)] ≤ 1048576 := by decide +kernel
theorem rep1 (w : World) : Calls Tryd.prog 17 #[.string ⟨#[49]⟩, .int .i64 19] w fun e w' => e = .returned (.string (bs ([49, 49, 49, 49, 49, 49, 49, 49, 49, 49, 49, 49, 49, 49, 49, 49, 49, 49, 49]))) ∧ Below w.heap.size w w' := Tryd.strings_Repeat (⟨#[49]⟩ : ByteArray) 19 w (by decide) (by decide)
theorem rep0 (w : World) : Calls Tryd.prog 17 #[.string ⟨#[48]⟩, .int .i64 17] w fun e w' => e = .returned (.string (bs ([48, 48, 48, 48, 48, 48, 48, 48, 48, 48, 48, 48, 48, 48, 48, 48, 48]))) ∧ Below w.heap.size w w' := Tryd.strings_Repeat (⟨#[48]⟩ : ByteArray) 17 w (by decide) (by decide)

set_option maxRecDepth 100000 in
set_option maxHeartbeats 8000000 in
theorem framingKnown_any (w : World) (he : Env w) :
    Calls Tryd.prog 6 #[] w fun e w' => e = .returned (.bool true) ∧ Below w.heap.size w w' := by
  have HE := Lib.hid he; clear he
  have hcmp := run_eqlR_same
  go_enter Tryd.func6, Tryd.ntmps6
  go_wp2_with fail
  refine (works_any _ HE.out).mono ?_
  rintro e w1 ⟨rfl, hb1⟩
  have HB1 := Lib.hid hb1; clear hb1
  go_wp2_with fail
  have hal2 : Below w1.heap.size w1 (w1.alloc (.cells (strCs (flatN [([67, 111, 110, 116, 101, 110, 116, 45, 76, 101, 110, 103, 116, 104], [53, 44, 32, 48, 48, 53]), ([99, 111, 110, 116, 101, 110, 116, 45, 108, 101, 110, 103, 116, 104], [53])])).toArray 9)) := (Below.refl _ _).alloc (Nat.le_refl _) _
  refine (of_any _ [([67, 111, 110, 116, 101, 110, 116, 45, 76, 101, 110, 103, 116, 104], [53, 44, 32, 48, 48, 53]), ([99, 111, 110, 116, 101, 110, 116, 45, 108, 101, 110, 103, 116, 104], [53])] _ (SL_new w1 9 (flatN [([67, 111, 110, 116, 101, 110, 116, 45, 76, 101, 110, 103, 116, 104], [53, 44, 32, 48, 48, 53]), ([99, 111, 110, 116, 101, 110, 116, 45, 108, 101, 110, 103, 116, 104], [53])])) (by simp)).mono ?_
  rintro e a2 ⟨v2, rfl, ho2, hb2⟩
  obtain ⟨A2, c2, rfl⟩ := ho2.form
  have HO2 := Lib.hid ho2.fl
  have HX2 := Lib.hid (HB1.out.trans ((hal2.trans (hb2.mono hal2.size)).mono HB1.out.size))
  clear hal2 hb2 ho2
  go_wp2_with fail
  refine (says_of _ [([67, 111, 110, 116, 101, 110, 116, 45, 76, 101, 110, 103, 116, 104], [53, 44, 32, 48, 48, 53]), ([99, 111, 110, 116, 101, 110, 116, 45, 108, 101, 110, 103, 116, 104], [53])] (1) (1) (0) (5) _ (HE.out.below HX2.out (Nat.le_refl _)) HO2.out (by decide) (by simp) (by decide) (by decide) (by decide) (by decide +kernel) (by decide +kernel) (by decide +kernel)).mono ?_
  rintro e w2 ⟨rfl, hc2⟩
  have HB2 := Lib.hid (HX2.out.trans (hc2.mono HX2.out.size)); clear hc2 HX2
  go_wp2_with fail
  have hal3 : Below w2.heap.size w2 (w2.alloc (.cells (strCs (flatN [([67, 111, 110, 116, 101, 110, 116, 45, 76, 101, 110, 103, 116, 104], [54, 53, 53, 51, 55])])).toArray 9)) := (Below.refl _ _).alloc (Nat.le_refl _) _
  refine (of_any _ [([67, 111, 110, 116, 101, 110, 116, 45, 76, 101, 110, 103, 116, 104], [54, 53, 53, 51, 55])] _ (SL_new w2 9 (flatN [([67, 111, 110, 116, 101, 110, 116, 45, 76, 101, 110, 103, 116, 104], [54, 53, 53, 51, 55])])) (by simp)).mono ?_
  rintro e a3 ⟨v3, rfl, ho3, hb3⟩
  obtain ⟨A3, c3, rfl⟩ := ho3.form
  have HO3 := Lib.hid ho3.fl
  have HX3 := Lib.hid (HB2.out.trans ((hal3.trans (hb3.mono hal3.size)).mono HB2.out.size))
  clear hal3 hb3 ho3
  go_wp2_with fail
  refine (says_of _ [([67, 111, 110, 116, 101, 110, 116, 45, 76, 101, 110, 103, 116, 104], [54, 53, 53, 51, 55])] (-3) (1) (0) (65537) _ (HE.out.below HX3.out (Nat.le_refl _)) HO3.out (by decide) (by simp) (by decide) (by decide) (by decide) (by decide +kernel) (by decide +kernel) (by decide +kernel)).mono ?_
  rintro e w3 ⟨rfl, hc3⟩
  have HB3 := Lib.hid (HX3.out.trans (hc3.mono HX3.out.size)); clear hc3 HX3
  go_wp2_with fail
  have hal4 : Below w3.heap.size w3 (w3.alloc (.cells (strCs (flatN [([67, 111, 110, 116, 101, 110, 116, 45, 76, 101, 110, 103, 116, 104], [50, 54, 50, 49, 52, 53])])).toArray 9)) := (Below.refl _ _).alloc (Nat.le_refl _) _
  refine (of_any _ [([67, 111, 110, 116, 101, 110, 116, 45, 76, 101, 110, 103, 116, 104], [50, 54, 50, 49, 52, 53])] _ (SL_new w3 9 (flatN [([67, 111, 110, 116, 101, 110, 116, 45, 76, 101, 110, 103, 116, 104], [50, 54, 50, 49, 52, 53])])) (by simp)).mono ?_
  rintro e a4 ⟨v4, rfl, ho4, hb4⟩
  obtain ⟨A4, c4, rfl⟩ := ho4.form
  have HO4 := Lib.hid ho4.fl
  have HX4 := Lib.hid (HB3.out.trans ((hal4.trans (hb4.mono hal4.size)).mono HB3.out.size))
  clear hal4 hb4 ho4
  go_wp2_with fail
  refine (says_of _ [([67, 111, 110, 116, 101, 110, 116, 45, 76, 101, 110, 103, 116, 104], [50, 54, 50, 49, 52, 53])] (-3) (-3) (0) (0) _ (HE.out.below HX4.out (Nat.le_refl _)) HO4.out (by decide) (by simp) (by decide) (by decide) (by decide) (by decide +kernel) (by decide +kernel) (by decide +kernel)).mono ?_
  rintro e w4 ⟨rfl, hc4⟩
  have HB4 := Lib.hid (HX4.out.trans (hc4.mono HX4.out.size)); clear hc4 HX4
  go_wp2_with fail
  have hal5 : Below w4.heap.size w4 (w4.alloc (.cells (strCs (flatN [([67, 111, 110, 116, 101, 110, 116, 45, 76, 101, 110, 103, 116, 104], [50, 54, 50, 49, 52, 52])])).toArray 9)) := (Below.refl _ _).alloc (Nat.le_refl _) _
  refine (of_any _ [([67, 111, 110, 116, 101, 110, 116, 45, 76, 101, 110, 103, 116, 104], [50, 54, 50, 49, 52, 52])] _ (SL_new w4 9 (flatN [([67, 111, 110, 116, 101, 110, 116, 45, 76, 101, 110, 103, 116, 104], [50, 54, 50, 49, 52, 52])])) (by simp)).mono ?_
  rintro e a5 ⟨v5, rfl, ho5, hb5⟩
  obtain ⟨A5, c5, rfl⟩ := ho5.form
  have HO5 := Lib.hid ho5.fl
  have HX5 := Lib.hid (HB4.out.trans ((hal5.trans (hb5.mono hal5.size)).mono HB4.out.size))
  clear hal5 hb5 ho5
  go_wp2_with fail
  refine (says_of _ [([67, 111, 110, 116, 101, 110, 116, 45, 76, 101, 110, 103, 116, 104], [50, 54, 50, 49, 52, 52])] (-3) (1) (0) (262144) _ (HE.out.below HX5.out (Nat.le_refl _)) HO5.out (by decide) (by simp) (by decide) (by decide) (by decide) (by decide +kernel) (by decide +kernel) (by decide +kernel)).mono ?_
  rintro e w5 ⟨rfl, hc5⟩
  have HB5 := Lib.hid (HX5.out.trans (hc5.mono HX5.out.size)); clear hc5 HX5
  go_wp2_with fail
  have hal6 : Below w5.heap.size w5 (w5.alloc (.cells (strCs (flatN [([67, 111, 110, 116, 101, 110, 116, 45, 76, 101, 110, 103, 116, 104], [54, 53, 53, 51, 54])])).toArray 9)) := (Below.refl _ _).alloc (Nat.le_refl _) _
  refine (of_any _ [([67, 111, 110, 116, 101, 110, 116, 45, 76, 101, 110, 103, 116, 104], [54, 53, 53, 51, 54])] _ (SL_new w5 9 (flatN [([67, 111, 110, 116, 101, 110, 116, 45, 76, 101, 110, 103, 116, 104], [54, 53, 53, 51, 54])])) (by simp)).mono ?_
  rintro e a6 ⟨v6, rfl, ho6, hb6⟩
  obtain ⟨A6, c6, rfl⟩ := ho6.form
  have HO6 := Lib.hid ho6.fl
  have HX6 := Lib.hid (HB5.out.trans ((hal6.trans (hb6.mono hal6.size)).mono HB5.out.size))
  clear hal6 hb6 ho6
  go_wp2_with fail
  refine (says_of _ [([67, 111, 110, 116, 101, 110, 116, 45, 76, 101, 110, 103, 116, 104], [54, 53, 53, 51, 54])] (1) (1) (0) (65536) _ (HE.out.below HX6.out (Nat.le_refl _)) HO6.out (by decide) (by simp) (by decide) (by decide) (by decide) (by decide +kernel) (by decide +kernel) (by decide +kernel)).mono ?_
  rintro e w6 ⟨rfl, hc6⟩
  have HB6 := Lib.hid (HX6.out.trans (hc6.mono HX6.out.size)); clear hc6 HX6
  go_wp2_with fail
  refine (rep1 _).mono ?_
  rintro e wr1 ⟨rfl, hbr⟩
  have HBR := Lib.hid (HB6.out.trans (hbr.mono HB6.out.size)); clear hbr
  have hal : Below wr1.heap.size wr1 (wr1.alloc (.cells (strCs badT).toArray 9)) := (Below.refl _ _).alloc (Nat.le_refl _) _
  have HBD : Hid (SL (wr1.alloc (.cells (strCs badT).toArray 9)) (.slice (some ⟨wr1.heap.size, 0, none⟩) 7 7) badT) := SL_new wr1 9 badT
  have HB0 := Lib.hid (HBR.out.trans (hal.mono HBR.out.size)); clear hal
  have HWE : Hid (wr1.alloc (.cells (strCs badT).toArray 9) = wr1.alloc (.cells #[.string ⟨#[43, 53]⟩, .string ⟨#[]⟩, .string ⟨#[53, 59]⟩, .string ⟨#[53, 34]⟩, .string (bs ([49, 49, 49, 49, 49, 49, 49, 49, 49, 49, 49, 49, 49, 49, 49, 49, 49, 49, 49])), .string ⟨#[53, 44, 120]⟩, .string ⟨#[32, 44, 32]⟩] 9)) := rfl
  rw [HWE.out] at HBD HB0
  clear HWE
  go_wp2_with fail
  generalize wr1.alloc (.cells #[.string ⟨#[43, 53]⟩, .string ⟨#[]⟩, .string ⟨#[53, 59]⟩, .string ⟨#[53, 34]⟩, .string (bs ([49, 49, 49, 49, 49, 49, 49, 49, 49, 49, 49, 49, 49, 49, 49, 49, 49, 49, 49])), .string ⟨#[53, 44, 120]⟩, .string ⟨#[32, 44, 32]⟩] 9) = wb at *
  generalize wr1.heap.size = Bb at *
  go_loopw [2] (fun i wr => ∃ k : Nat, k ≤ 7 ∧ i = .int .i64 k ∧ Below wb.heap.size wb wr) (fun i _ => 7 - (intOf i).toNat)
  case atStart => exact ⟨0, by omega, rfl, Below.refl _ _⟩
  case round =>
    obtain ⟨k, hk, rfl, hb⟩ := hrel
    have HBk := Lib.hid (HB0.out.trans (hb.mono HB0.out.size)); have HBw := Lib.hid hb
    by_cases hlt : k < 7
    · have hlt2 : k < badT.length := hlt
      obtain ⟨bb, off, he2, _, hc⟩ := (HBD.out.bel hb).get k hlt2
      obtain ⟨rfl, rfl⟩ : Bb = bb ∧ off = 0 := by
        simp only [Option.some.injEq, Addr.mk.injEq, and_true] at he2
        exact ⟨he2.1, he2.2.symm⟩
      rw [Nat.zero_add] at hc
      clear he2 hb
      obtain ⟨q1, q2, q3, q4⟩ := bad_all _ (List.getElem_mem hlt2)
      have Q1 := Lib.hid q1; have Q2 := Lib.hid q2; have Q3 := Lib.hid q3; have Q4 := Lib.hid q4; clear q1 q2 q3 q4
      generalize badT[k] = x at *
      go_wp2_with fail
      have hal51 : Below wr.heap.size wr (wr.alloc (.cells (strCs [[67, 111, 110, 116, 101, 110, 116, 45, 76, 101, 110, 103, 116, 104], x]).toArray 9)) := (Below.refl _ _).alloc (Nat.le_refl _) _
      refine (of_any _ [([67, 111, 110, 116, 101, 110, 116, 45, 76, 101, 110, 103, 116, 104], x)] _ (SL_new wr 9 [[67, 111, 110, 116, 101, 110, 116, 45, 76, 101, 110, 103, 116, 104], x]) (by simp)).mono ?_
      rintro e a51 ⟨v51, rfl, ho51, hb51⟩
      obtain ⟨A51, c51, rfl⟩ := ho51.form
      have HO51 := Lib.hid ho51.fl
      have HX51 := Lib.hid (HBk.out.trans ((hal51.trans (hb51.mono hal51.size)).mono HBk.out.size))
      have HXW1 := Lib.hid (hal51.trans (hb51.mono hal51.size))
      clear hal51 hb51 ho51
      go_wp2_with fail
      refine (says_of _ [([67, 111, 110, 116, 101, 110, 116, 45, 76, 101, 110, 103, 116, 104], x)] (-4) (-4) (-4) (0) _ (HE.out.below HX51.out (Nat.le_refl _)) HO51.out Q4.out (by simp) (by decide) (by decide) (by decide) Q1.out Q2.out Q3.out).mono ?_
      rintro e w51 ⟨rfl, hc51⟩
      have HXW := Lib.hid (HXW1.out.trans (hc51.mono HXW1.out.size))
      have HB51 := Lib.hid (HX51.out.trans (hc51.mono HX51.out.size)); clear hc51 HX51
      have HBn : Hid (Below wb.heap.size wb w51) := HBw.out.trans (HXW.out.mono HBw.out.size)
      go_wp2_with fail
      go_roundw
      case rel => exact ⟨k + 1, by omega, by go_num, HBn.out⟩
      case measure => simp [intOf]; omega
    · clear hb
      go_wp2_with fail
      refine (rep0 _).mono ?_
      rintro e w60 ⟨rfl, hb60⟩
      have HB60 := Lib.hid (HBk.out.trans (hb60.mono HBk.out.size)); clear hb60
      have hadd := fun W => add_l ([48, 48, 48, 48, 48, 48, 48, 48, 48, 48, 48, 48, 48, 48, 48, 48, 48]) [55] W (by decide)
      rw [show bs [55] = ⟨#[55]⟩ from rfl] at hadd
      go_wp2_with fail
      have hal61 : Below w60.heap.size w60 (w60.alloc (.cells (strCs (flatN [([67, 111, 110, 116, 101, 110, 116, 45, 76, 101, 110, 103, 116, 104], [48, 48, 48, 48, 48, 48, 48, 48, 48, 48, 48, 48, 48, 48, 48, 48, 48, 55])])).toArray 9)) := (Below.refl _ _).alloc (Nat.le_refl _) _
      refine (of_any _ [([67, 111, 110, 116, 101, 110, 116, 45, 76, 101, 110, 103, 116, 104], [48, 48, 48, 48, 48, 48, 48, 48, 48, 48, 48, 48, 48, 48, 48, 48, 48, 55])] _ (SL_new w60 9 (flatN [([67, 111, 110, 116, 101, 110, 116, 45, 76, 101, 110, 103, 116, 104], [48, 48, 48, 48, 48, 48, 48, 48, 48, 48, 48, 48, 48, 48, 48, 48, 48, 55])])) (by simp)).mono ?_
      rintro e a61 ⟨v61, rfl, ho61, hb61⟩
      obtain ⟨A61, c61, rfl⟩ := ho61.form
      have HO61 := Lib.hid ho61.fl
      have HX61 := Lib.hid (HB60.out.trans ((hal61.trans (hb61.mono hal61.size)).mono HB60.out.size))
      clear hal61 hb61 ho61
      go_wp2_with fail
      refine (says_of _ [([67, 111, 110, 116, 101, 110, 116, 45, 76, 101, 110, 103, 116, 104], [48, 48, 48, 48, 48, 48, 48, 48, 48, 48, 48, 48, 48, 48, 48, 48, 48, 55])] (1) (1) (0) (7) _ (HE.out.below HX61.out (Nat.le_refl _)) HO61.out (by decide) (by simp) (by decide) (by decide) (by decide) (by decide +kernel) (by decide +kernel) (by decide +kernel)).mono ?_
      rintro e w61 ⟨rfl, hc61⟩
      have HB61 := Lib.hid (HX61.out.trans (hc61.mono HX61.out.size)); clear hc61 HX61
      go_wp2_with fail
      have hal62 : Below w61.heap.size w61 (w61.alloc (.cells (strCs (flatN [([84, 114, 97, 110, 115, 102, 101, 114, 45, 69, 110, 99, 111, 100, 105, 110, 103], [67, 104, 117, 110, 107, 101, 100])])).toArray 9)) := (Below.refl _ _).alloc (Nat.le_refl _) _
      refine (of_any _ [([84, 114, 97, 110, 115, 102, 101, 114, 45, 69, 110, 99, 111, 100, 105, 110, 103], [67, 104, 117, 110, 107, 101, 100])] _ (SL_new w61 9 (flatN [([84, 114, 97, 110, 115, 102, 101, 114, 45, 69, 110, 99, 111, 100, 105, 110, 103], [67, 104, 117, 110, 107, 101, 100])])) (by simp)).mono ?_
      rintro e a62 ⟨v62, rfl, ho62, hb62⟩
      obtain ⟨A62, c62, rfl⟩ := ho62.form
      have HO62 := Lib.hid ho62.fl
      have HX62 := Lib.hid (HB61.out.trans ((hal62.trans (hb62.mono hal62.size)).mono HB61.out.size))
      clear hal62 hb62 ho62
      go_wp2_with fail
      refine (says_of _ [([84, 114, 97, 110, 115, 102, 101, 114, 45, 69, 110, 99, 111, 100, 105, 110, 103], [67, 104, 117, 110, 107, 101, 100])] (2) (2) (0) (0) _ (HE.out.below HX62.out (Nat.le_refl _)) HO62.out (by decide) (by simp) (by decide) (by decide) (by decide) (by decide +kernel) (by decide +kernel) (by decide +kernel)).mono ?_
      rintro e w62 ⟨rfl, hc62⟩
      have HB62 := Lib.hid (HX62.out.trans (hc62.mono HX62.out.size)); clear hc62 HX62
      go_wp2_with fail
      have hal63 : Below w62.heap.size w62 (w62.alloc (.cells (strCs (flatN [([84, 114, 97, 110, 115, 102, 101, 114, 45, 69, 110, 99, 111, 100, 105, 110, 103], [103, 122, 105, 112, 44, 32, 99, 104, 117, 110, 107, 101, 100])])).toArray 9)) := (Below.refl _ _).alloc (Nat.le_refl _) _
      refine (of_any _ [([84, 114, 97, 110, 115, 102, 101, 114, 45, 69, 110, 99, 111, 100, 105, 110, 103], [103, 122, 105, 112, 44, 32, 99, 104, 117, 110, 107, 101, 100])] _ (SL_new w62 9 (flatN [([84, 114, 97, 110, 115, 102, 101, 114, 45, 69, 110, 99, 111, 100, 105, 110, 103], [103, 122, 105, 112, 44, 32, 99, 104, 117, 110, 107, 101, 100])])) (by simp)).mono ?_
      rintro e a63 ⟨v63, rfl, ho63, hb63⟩
      obtain ⟨A63, c63, rfl⟩ := ho63.form
      have HO63 := Lib.hid ho63.fl
      have HX63 := Lib.hid (HB62.out.trans ((hal63.trans (hb63.mono hal63.size)).mono HB62.out.size))
      clear hal63 hb63 ho63
      go_wp2_with fail
      refine (says_of _ [([84, 114, 97, 110, 115, 102, 101, 114, 45, 69, 110, 99, 111, 100, 105, 110, 103], [103, 122, 105, 112, 44, 32, 99, 104, 117, 110, 107, 101, 100])] (-4) (-4) (-4) (0) _ (HE.out.below HX63.out (Nat.le_refl _)) HO63.out (by decide) (by simp) (by decide) (by decide) (by decide) (by decide +kernel) (by decide +kernel) (by decide +kernel)).mono ?_
      rintro e w63 ⟨rfl, hc63⟩
      have HB63 := Lib.hid (HX63.out.trans (hc63.mono HX63.out.size)); clear hc63 HX63
      go_wp2_with fail
      have hal64 : Below w63.heap.size w63 (w63.alloc (.cells (strCs (flatN [([84, 114, 97, 110, 115, 102, 101, 114, 45, 69, 110, 99, 111, 100, 105, 110, 103], [99, 104, 117, 110, 107, 101, 100, 44, 32, 99, 104, 117, 110, 107, 101, 100])])).toArray 9)) := (Below.refl _ _).alloc (Nat.le_refl _) _
      refine (of_any _ [([84, 114, 97, 110, 115, 102, 101, 114, 45, 69, 110, 99, 111, 100, 105, 110, 103], [99, 104, 117, 110, 107, 101, 100, 44, 32, 99, 104, 117, 110, 107, 101, 100])] _ (SL_new w63 9 (flatN [([84, 114, 97, 110, 115, 102, 101, 114, 45, 69, 110, 99, 111, 100, 105, 110, 103], [99, 104, 117, 110, 107, 101, 100, 44, 32, 99, 104, 117, 110, 107, 101, 100])])) (by simp)).mono ?_
      rintro e a64 ⟨v64, rfl, ho64, hb64⟩
      obtain ⟨A64, c64, rfl⟩ := ho64.form
      have HO64 := Lib.hid ho64.fl
      have HX64 := Lib.hid (HB63.out.trans ((hal64.trans (hb64.mono hal64.size)).mono HB63.out.size))
      clear hal64 hb64 ho64
      go_wp2_with fail
      refine (says_of _ [([84, 114, 97, 110, 115, 102, 101, 114, 45, 69, 110, 99, 111, 100, 105, 110, 103], [99, 104, 117, 110, 107, 101, 100, 44, 32, 99, 104, 117, 110, 107, 101, 100])] (-4) (-4) (-4) (0) _ (HE.out.below HX64.out (Nat.le_refl _)) HO64.out (by decide) (by simp) (by decide) (by decide) (by decide) (by decide +kernel) (by decide +kernel) (by decide +kernel)).mono ?_
      rintro e w64 ⟨rfl, hc64⟩
      have HB64 := Lib.hid (HX64.out.trans (hc64.mono HX64.out.size)); clear hc64 HX64
      go_wp2_with fail
      have hal65 : Below w64.heap.size w64 (w64.alloc (.cells (strCs (flatN [([84, 114, 97, 110, 115, 102, 101, 114, 45, 69, 110, 99, 111, 100, 105, 110, 103], [99, 104, 117, 110, 107, 101, 100]), ([67, 111, 110, 116, 101, 110, 116, 45, 76, 101, 110, 103, 116, 104], [120])])).toArray 9)) := (Below.refl _ _).alloc (Nat.le_refl _) _
      refine (of_any _ [([84, 114, 97, 110, 115, 102, 101, 114, 45, 69, 110, 99, 111, 100, 105, 110, 103], [99, 104, 117, 110, 107, 101, 100]), ([67, 111, 110, 116, 101, 110, 116, 45, 76, 101, 110, 103, 116, 104], [120])] _ (SL_new w64 9 (flatN [([84, 114, 97, 110, 115, 102, 101, 114, 45, 69, 110, 99, 111, 100, 105, 110, 103], [99, 104, 117, 110, 107, 101, 100]), ([67, 111, 110, 116, 101, 110, 116, 45, 76, 101, 110, 103, 116, 104], [120])])) (by simp)).mono ?_
      rintro e a65 ⟨v65, rfl, ho65, hb65⟩
      obtain ⟨A65, c65, rfl⟩ := ho65.form
      have HO65 := Lib.hid ho65.fl
      have HX65 := Lib.hid (HB64.out.trans ((hal65.trans (hb65.mono hal65.size)).mono HB64.out.size))
      clear hal65 hb65 ho65
      go_wp2_with fail
      refine (says_of _ [([84, 114, 97, 110, 115, 102, 101, 114, 45, 69, 110, 99, 111, 100, 105, 110, 103], [99, 104, 117, 110, 107, 101, 100]), ([67, 111, 110, 116, 101, 110, 116, 45, 76, 101, 110, 103, 116, 104], [120])] (-8) (-8) (-8) (0) _ (HE.out.below HX65.out (Nat.le_refl _)) HO65.out (by decide) (by simp) (by decide) (by decide) (by decide) (by decide +kernel) (by decide +kernel) (by decide +kernel)).mono ?_
      rintro e w65 ⟨rfl, hc65⟩
      have HB65 := Lib.hid (HX65.out.trans (hc65.mono HX65.out.size)); clear hc65 HX65
      go_wp2_with fail
      have hal66 : Below w65.heap.size w65 (w65.alloc (.cells (strCs (flatN [([84, 114, 97, 110, 115, 102, 101, 114, 45, 69, 110, 99, 111, 100, 105, 110, 103], [])])).toArray 9)) := (Below.refl _ _).alloc (Nat.le_refl _) _
      refine (of_any _ [([84, 114, 97, 110, 115, 102, 101, 114, 45, 69, 110, 99, 111, 100, 105, 110, 103], [])] _ (SL_new w65 9 (flatN [([84, 114, 97, 110, 115, 102, 101, 114, 45, 69, 110, 99, 111, 100, 105, 110, 103], [])])) (by simp)).mono ?_
      rintro e a66 ⟨v66, rfl, ho66, hb66⟩
      obtain ⟨A66, c66, rfl⟩ := ho66.form
      have HO66 := Lib.hid ho66.fl
      have HX66 := Lib.hid (HB65.out.trans ((hal66.trans (hb66.mono hal66.size)).mono HB65.out.size))
      clear hal66 hb66 ho66
      go_wp2_with fail
      refine (says_of _ [([84, 114, 97, 110, 115, 102, 101, 114, 45, 69, 110, 99, 111, 100, 105, 110, 103], [])] (-4) (-4) (-4) (0) _ (HE.out.below HX66.out (Nat.le_refl _)) HO66.out (by decide) (by simp) (by decide) (by decide) (by decide) (by decide +kernel) (by decide +kernel) (by decide +kernel)).mono ?_
      rintro e w66 ⟨rfl, hc66⟩
      have HB66 := Lib.hid (HX66.out.trans (hc66.mono HX66.out.size)); clear hc66 HX66
      go_wp2_with fail
      have hal80 : Below w66.heap.size w66 (w66.alloc (.cells (strCs (flatN [([67, 111, 110, 116, 101, 110, 116, 45, 76, 101, 110, 103, 116, 104], [50, 54, 50, 49, 52, 53])])).toArray 9)) := (Below.refl _ _).alloc (Nat.le_refl _) _
      refine (of_any _ [([67, 111, 110, 116, 101, 110, 116, 45, 76, 101, 110, 103, 116, 104], [50, 54, 50, 49, 52, 53])] _ (SL_new w66 9 (flatN [([67, 111, 110, 116, 101, 110, 116, 45, 76, 101, 110, 103, 116, 104], [50, 54, 50, 49, 52, 53])])) (by decide)).mono ?_
      rintro e a80 ⟨v80, rfl, ho80, hb80⟩
      obtain ⟨A80, c80, rfl⟩ := ho80.form
      have HO80 := Lib.hid ho80.fl
      have HX80 := Lib.hid (HB66.out.trans ((hal80.trans (hb80.mono hal80.size)).mono HB66.out.size))
      clear hal80 hb80 ho80
      go_wp2_with fail
      refine (reply_any _ [([67, 111, 110, 116, 101, 110, 116, 45, 76, 101, 110, 103, 116, 104], [50, 54, 50, 49, 52, 53])] 200 true _ (HE.out.below HX80.out (Nat.le_refl _)) HO80.out (small_of (by decide)) (by decide)).mono ?_
      rw [show tellR [([67, 111, 110, 116, 101, 110, 116, 45, 76, 101, 110, 103, 116, 104], [50, 54, 50, 49, 52, 53])] 200 true = (0, 0, 0) from by decide +kernel]
      rintro e w80 ⟨rfl, hb⟩
      have HB80 := Lib.hid (HX80.out.trans (hb.mono HX80.out.size)); clear hb
      have HC80 := Lib.hid (HB80.out.alloc HB80.out.size (.cells #[.int .i64 0, .int .i64 0] 26))
      have HD80 := Lib.hid (blk.new w80 #[.int .i64 0, .int .i64 0] 26)
      unfold ansV
      go_wp2_with fail
      generalize hG : w80.alloc (.cells #[.int .i64 0, .int .i64 0] 26) = g80 at *
      clear hG
      generalize w80.heap.size = B80 at *
      refine (reply_any _ [] 204 false _ (HE.out.below HC80.out (Nat.le_refl _)) (FL_nil _) (small_of (by decide)) (by decide)).mono ?_
      rw [show tellR [] 204 false = (0, 0, 0) from by decide +kernel]
      rintro e w81 ⟨rfl, hb⟩
      have HD80 := Lib.hid (HD80.out.below hb)
      have HD80 := Lib.hid (HD80.out.alloc (.cells #[.int .i64 0, .int .i64 0] 26))
      have HB81 := Lib.hid (HC80.out.trans (hb.mono HC80.out.size)); clear hb
      have HC81 := Lib.hid (HB81.out.alloc HB81.out.size (.cells #[.int .i64 0, .int .i64 0] 26))
      have HD81 := Lib.hid (blk.new w81 #[.int .i64 0, .int .i64 0] 26)
      unfold ansV
      go_wp2_with fail
      generalize hG : w81.alloc (.cells #[.int .i64 0, .int .i64 0] 26) = g81 at *
      clear hG
      generalize w81.heap.size = B81 at *
      refine (reply_any _ [] 199 false _ (HE.out.below HC81.out (Nat.le_refl _)) (FL_nil _) (small_of (by decide)) (by decide)).mono ?_
      rw [show tellR [] 199 false = (0, 0, 0) from by decide +kernel]
      rintro e w82 ⟨rfl, hb⟩
      have HD80 := Lib.hid (HD80.out.below hb)
      have HD81 := Lib.hid (HD81.out.below hb)
      have HD80 := Lib.hid (HD80.out.alloc (.cells #[.int .i64 0, .int .i64 0] 26))
      have HD81 := Lib.hid (HD81.out.alloc (.cells #[.int .i64 0, .int .i64 0] 26))
      have HB82 := Lib.hid (HC81.out.trans (hb.mono HC81.out.size)); clear hb
      have HC82 := Lib.hid (HB82.out.alloc HB82.out.size (.cells #[.int .i64 0, .int .i64 0] 26))
      have HD82 := Lib.hid (blk.new w82 #[.int .i64 0, .int .i64 0] 26)
      unfold ansV
      go_wp2_with fail
      generalize hG : w82.alloc (.cells #[.int .i64 0, .int .i64 0] 26) = g82 at *
      clear hG
      generalize w82.heap.size = B82 at *
      refine (reply_any _ [] 205 false _ (HE.out.below HC82.out (Nat.le_refl _)) (FL_nil _) (small_of (by decide)) (by decide)).mono ?_
      rw [show tellR [] 205 false = (3, 0, 0) from by decide +kernel]
      rintro e w83 ⟨rfl, hb⟩
      have HD80 := Lib.hid (HD80.out.below hb)
      have HD81 := Lib.hid (HD81.out.below hb)
      have HD82 := Lib.hid (HD82.out.below hb)
      have HB83 := Lib.hid (HC82.out.trans (hb.mono HC82.out.size)); clear hb
      unfold ansV
      have HC83 := Lib.hid (HB83.out.alloc HB83.out.size (.cells #[.int .i64 3, .int .i64 0] 26))
      have HC84 := Lib.hid (HC83.out.alloc HC83.out.size (.cells #[.int .i64 0, .int .i64 0] 26))
      have HE80 := Lib.hid ((HD80.out.alloc (.cells #[.int .i64 3, .int .i64 0] 26)).alloc (.cells #[.int .i64 0, .int .i64 0] 26))
      have x80 := HE80.out.cell 0 (.int .i64 0) rfl
      have y80 := HE80.out.cell 1 (.int .i64 0) rfl
      have HE81 := Lib.hid ((HD81.out.alloc (.cells #[.int .i64 3, .int .i64 0] 26)).alloc (.cells #[.int .i64 0, .int .i64 0] 26))
      have x81 := HE81.out.cell 0 (.int .i64 0) rfl
      have y81 := HE81.out.cell 1 (.int .i64 0) rfl
      have HE82 := Lib.hid ((HD82.out.alloc (.cells #[.int .i64 3, .int .i64 0] 26)).alloc (.cells #[.int .i64 0, .int .i64 0] 26))
      have x82 := HE82.out.cell 0 (.int .i64 0) rfl
      have y82 := HE82.out.cell 1 (.int .i64 0) rfl
      have HE83 := Lib.hid ((blk.new w83 #[.int .i64 3, .int .i64 0] 26).alloc (.cells #[.int .i64 0, .int .i64 0] 26))
      have x83 := HE83.out.cell 0 (.int .i64 3) rfl
      go_wp2_with fail
      refine (works_any _ (HE.out.below HC84.out (Nat.le_refl _))).mono ?_
      rintro e w90 ⟨rfl, hb⟩
      have HB90 := Lib.hid (HC84.out.trans (hb.mono HC84.out.size)); clear hb
      go_wp2_with fail
      go_ret
      exact ⟨rfl, HB90.out⟩
end Go.Proofs.YtnhkebbmgiokbaaDoor
