/- What any text is as a URI, and any path without dots, are the document's: the statements' own walks. -/
import Derived.Test.YtigaghdalecdlaaDoorUriR
import Derived.Test.YtigaghdalecdlaaDoorUriP
import Derived.Test.YtigaghdalecdlaaDoorUriS
namespace Go.Proofs.YtigaghdalecdlaaDoor
open Go.RowKit

theorem drewU (w : World) : Below w.heap.size w w.drew := by
  have h := Below.refl w.heap.size w
  exact ⟨h.os, h.tape, h.output, h.size, h.block⟩
set_option maxHeartbeats 1000000 in
set_option maxRecDepth 100000 in
theorem uriParses_law (s : ByteArray) (w : World) (_ : s.size ≤ maxLen) (hm : MaxU w) (hl0 : Env w) :
    Calls Tryd.prog 3 #[.string s] w fun e w' => e = .returned (.bool true) ∧ Below w.heap.size w w' := by
  have HE : Hid (EnvU w) := ⟨hm, hl0⟩
  clear hm hl0
  by_cases hl : 5000 < s.size
  · have hl2 : (5000 : Int) < (s.size : Int) := by omega
    go_enter Tryd.func3, Tryd.ntmps3
    go_wp2_with fail
    refine (awakeU_any _ HE.out).mono ?_
    rintro r w1 ⟨rfl, hb1⟩
    have HB1 := Lib.hid hb1; clear hb1
    go_wp2_with fail
    go_ret
    exact ⟨rfl, HB1.out⟩
  · have hl2 : ¬ (5000 : Int) < (s.size : Int) := by omega
    have HP := Lib.hid (fun W (hb : EnvU W) => parse_any s.data.toList W hb)
    have HQ := Lib.hid (fun W => uparse_any s W)
    rw [doc_eq] at HQ
    rw [bs_self] at HP
    generalize parseU s.data.toList = P at *
    obtain ⟨⟨sc, ho, po, pa, qu, hq⟩, e⟩ := P
    unfold RetU at HP HQ
    simp only at HP HQ
    go_enter Tryd.func3, Tryd.ntmps3
    go_wp2_with fail
    refine (HP.out _ HE.out).mono ?_
    rintro r w1 ⟨rfl, hb1⟩
    have hal : Below w1.heap.size w1 (w1.alloc (.cells #[.string (bs sc), .string (bs ho), .int .i64 po, .string (bs pa), .string (bs qu), .bool hq] 24)) := (Below.refl _ _).alloc (Nat.le_refl _) _
    have HB1 := Lib.hid (hb1.trans (hal.mono hb1.size)); clear hal hb1
    have HX := Lib.hid (ubk.new w1 #[.string (bs sc), .string (bs ho), .int .i64 po, .string (bs pa), .string (bs qu), .bool hq] 24)
    go_wp2_with fail
    refine (HQ.out _).mono ?_
    rintro r w2 ⟨rfl, hb2⟩
    have HB2 := Lib.hid (HB1.out.trans (hb2.mono HB1.out.size))
    have hx := (HX.out.below hb2).alloc (.cells #[.string (bs sc), .string (bs ho), .int .i64 po, .string (bs pa), .string (bs qu), .bool hq] 24)
    have hy := ubk.new w2 #[.string (bs sc), .string (bs ho), .int .i64 po, .string (bs pa), .string (bs qu), .bool hq] 24
    have hal : Below w2.heap.size w2 (w2.alloc (.cells #[.string (bs sc), .string (bs ho), .int .i64 po, .string (bs pa), .string (bs qu), .bool hq] 24)) := (Below.refl _ _).alloc (Nat.le_refl _) _
    have HB3 := Lib.hid (HB2.out.trans (hal.mono HB2.out.size)); clear hal hb2 HX
    have xc0 := hx.cell 0 (.string (bs sc)) rfl
    have xc1 := hx.cell 1 (.string (bs ho)) rfl
    have xc2 := hx.cell 2 (.int .i64 po) rfl
    have xc3 := hx.cell 3 (.string (bs pa)) rfl
    have xc4 := hx.cell 4 (.string (bs qu)) rfl
    have xc5 := hx.cell 5 (.bool hq) rfl
    have yc0 := hy.cell 0 (.string (bs sc)) rfl
    have yc1 := hy.cell 1 (.string (bs ho)) rfl
    have yc2 := hy.cell 2 (.int .i64 po) rfl
    have yc3 := hy.cell 3 (.string (bs pa)) rfl
    have yc4 := hy.cell 4 (.string (bs qu)) rfl
    have yc5 := hy.cell 5 (.bool hq) rfl
    clear hx hy
    go_wp2_with fail
    refine (awakeU_any _ (HE.out.bel HB3.out)).mono ?_
    rintro r w4 ⟨rfl, hb4⟩
    have HB4 := Lib.hid (HB3.out.trans (hb4.mono HB3.out.size)); clear hb4
    go_wp2_with fail
    go_ret
    exact ⟨rfl, HB4.out⟩
set_option maxHeartbeats 1000000 in
set_option maxRecDepth 100000 in
theorem uriDots_law (s : ByteArray) (w : World) (_ : s.size ≤ maxLen) (hm : MaxU w) (hl0 : Env w) :
    Calls Tryd.prog 4 #[.string s] w fun e w' => e = .returned (.bool true) ∧ Below w.heap.size w w' := by
  have HE : Hid (EnvU w) := ⟨hm, hl0⟩
  clear hm hl0
  by_cases hl : 3000 < s.size
  · have hl2 : (3000 : Int) < (s.size : Int) := by omega
    go_enter Tryd.func4, Tryd.ntmps4
    go_wp2_with fail
    refine (awakeU_any _ HE.out).mono ?_
    rintro r w1 ⟨rfl, hb1⟩
    have HB1 := Lib.hid hb1; clear hb1
    go_wp2_with fail
    go_ret
    exact ⟨rfl, HB1.out⟩
  · have hl2 : ¬ (3000 : Int) < (s.size : Int) := by omega
    have HP := Lib.hid (fun W (hb : EnvU W) => dots_any s.data.toList W hb (by rw [← size_len]; omega))
    have HQ := Lib.hid (fun W => udots_any s W (by omega))
    rw [bs_self] at HP
    generalize dotsL s.data.toList = P at *
    go_enter Tryd.func4, Tryd.ntmps4
    go_wp2_with fail
    refine (HP.out _ HE.out).mono ?_
    rintro r w1 ⟨rfl, hb1⟩
    have HB1 := Lib.hid hb1; clear hb1
    go_wp2_with fail
    refine (HQ.out _).mono ?_
    rintro r w2 ⟨rfl, rfl⟩
    go_wp2_with fail
    refine (awakeU_any _ (HE.out.bel HB1.out)).mono ?_
    rintro r w3 ⟨rfl, hb3⟩
    have HBZ := Lib.hid (HB1.out.trans (hb3.mono HB1.out.size)); clear hb3
    go_wp2_with fail
    go_ret
    exact ⟨rfl, HBZ.out⟩
end Go.Proofs.YtigaghdalecdlaaDoor
