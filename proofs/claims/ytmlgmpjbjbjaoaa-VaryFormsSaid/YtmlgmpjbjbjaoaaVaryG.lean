/- The statement VaryNames. -/
import Derived.Test.YtmlgmpjbjbjaoaaVaryF
import Derived.Test.YtmlgmpjbjbjaoaaOpenW
namespace Go.Proofs.Ytmlgmpjbjbjaoaa
open Go.RowKit

theorem vbk.five {w : World} {b : Nat} {x0 x1 x2 x3 x4 : Value} (h : vbk w b #[x0, x1, x2, x3, x4]) :
    w.cell? ⟨b, 0, none⟩ = some x0 ∧ w.cell? ⟨b, 1, none⟩ = some x1 ∧ w.cell? ⟨b, 2, none⟩ = some x2 ∧ w.cell? ⟨b, 3, none⟩ = some x3 ∧ w.cell? ⟨b, 4, none⟩ = some x4 :=
  ⟨h.cell 0 _ rfl, h.cell 1 _ rfl, h.cell 2 _ rfl, h.cell 3 _ rfl, h.cell 4 _ rfl⟩
theorem SzF.few {l : List Fld} {v : Value} {w : World} (h : SzF l) (hv : FL w v l) : Calls Try.prog 8 #[v] w fun e w' => e = .returned (.bool (fewV l)) ∧ Below w.heap.size w w' := fewV_any v l w hv h.1 h.2

set_option maxRecDepth 100000 in
set_option maxHeartbeats 4000000 in
theorem varyNames_law {st mi : Int} {re bo : ByteArray} {fs : Value} {l : List Fld} (w : World) (hv : FL w fs l) (hz : SzF l) :
    Calls Try.prog 3 #[.agg #[.int .i64 st, .string re, .int .i64 mi, fs, .string bo]] w fun e w' => e = .returned (.bool true) ∧ Below w.heap.size w w' := by
  have hx : Below w.heap.size w (w.alloc (.cells #[.int .i64 st, .string re, .int .i64 mi, fs, .string bo] 24)) := (Below.refl _ _).alloc (Nat.le_refl _) _
  have hd := vbk.new w #[.int .i64 st, .string re, .int .i64 mi, fs, .string bo] 24
  have hf := hz.few (hv.bel hx)
  have HW := Lib.hid vawake_any
  cases hq : fewV l
  · rw [hq] at hf
    have HF := Lib.hid hf; have HX := Lib.hid hx
    obtain ⟨A, c, rfl⟩ := hv.form
    clear hf hx hd hv hz hq
    go_enter Try.func3, Try.ntmps3
    go_wp2_with fail
    refine HF.out.mono ?_
    rintro e w1 ⟨rfl, hb⟩
    have HB1 := Lib.hid (HX.out.trans (hb.mono HX.out.size)); clear hb
    go_wp2_with fail
    refine (HW.out _).mono ?_
    rintro e w2 ⟨rfl, hb⟩
    have HB2 := Lib.hid (HB1.out.trans (hb.mono HB1.out.size)); clear hb
    go_wp2_with fail
    go_ret
    exact ⟨rfl, HB2.out⟩
  · rw [hq] at hf
    have hvf := fewV_vf hq
    have HP := Lib.hid fun W (h : Below w.heap.size w W) => vnames_any (st := st) (mi := mi) (re := re) (bo := bo) W (hv.bel h) hvf
    have HR := Lib.hid fun W (h : Below w.heap.size w W) => rvnames_any (st := st) (mi := mi) (re := re) (bo := bo) W (hv.bel h) hvf
    obtain ⟨hN1, hN2⟩ := hvf.vals varyN
    have HNL := Lib.hid (namesA_len hN1)
    have HF := Lib.hid hf; have HX := Lib.hid hx; have HD := Lib.hid hd
    obtain ⟨A, c, rfl⟩ := hv.form
    clear hf hx hd hv hz hq hvf hN1 hN2
    unfold RetN at HP HR
    generalize valsL l varyN = N at *
    generalize namesA N = L at *
    generalize (!allB N) = z at *
    go_enter Try.func3, Try.ntmps3
    go_wp2_with fail
    refine HF.out.mono ?_
    rintro e w1 ⟨rfl, hb⟩
    have HD1 := Lib.hid (HD.out.below hb); have HB1 := Lib.hid (HX.out.trans (hb.mono HX.out.size)); clear hb HD
    obtain ⟨y0, y1, y2, y3, y4⟩ := HD1.out.five
    go_wp2_with fail
    refine (HP.out _ HB1.out).mono ?_
    rintro e w2 ⟨u2, rfl, ho2, hb⟩
    have HD2 := Lib.hid (HD1.out.below hb); have HB2 := Lib.hid (HB1.out.trans (hb.mono HB1.out.size)); have HO2 := Lib.hid ho2
    clear hb HD1 ho2 y0 y1 y2 y3 y4
    obtain ⟨y0, y1, y2, y3, y4⟩ := HD2.out.five
    obtain ⟨A2, c2, rfl⟩ := HO2.out.form
    go_wp2_with fail
    refine (HR.out _ HB2.out).mono ?_
    rintro e w3 ⟨u3, rfl, ho3, hb⟩
    have HB3 := Lib.hid (HB2.out.trans (hb.mono HB2.out.size)); have HO3 := Lib.hid ho3; have HO4 := Lib.hid (HO2.out.bel hb)
    clear hb HD2 ho3 HO2 y0 y1 y2 y3 y4
    obtain ⟨A3, c3, rfl⟩ := HO3.out.form
    have ht := texts_any _ _ _ _ L L w3 HO4.out HO3.out (by have := HNL.out; omega)
    rw [show (L == L) = true from by simp] at ht
    have HT := Lib.hid ht; clear ht
    go_wp2_with fail
    refine HT.out.mono ?_
    rintro e w4 ⟨rfl, hb⟩
    have HB4 := Lib.hid (HB3.out.trans (hb.mono HB3.out.size)); clear hb
    cases z
    all_goals
      go_wp2_with fail
      refine (HW.out _).mono ?_
      rintro e w5 ⟨rfl, hb⟩
      have HB5 := Lib.hid (HB4.out.trans (hb.mono HB4.out.size)); clear hb
      go_wp2_with fail
      go_ret
      exact ⟨rfl, HB5.out⟩
end Go.Proofs.Ytmlgmpjbjbjaoaa
