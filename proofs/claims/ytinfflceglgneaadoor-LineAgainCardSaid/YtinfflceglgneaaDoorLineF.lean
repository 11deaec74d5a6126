/- A reply's line, read. -/
import Derived.Test.YtinfflceglgneaaDoorLineE
namespace Go.Proofs.YtinfflceglgneaaDoor
open Go.RowKit
section
variable (B : Nat) (s t : List UInt8) (c n : Int) (r : Rs) (w : World)
set_option maxRecDepth 100000 in
set_option maxHeartbeats 400000 in
theorem staEnd_0 (h : Six w B 3 9 3 (.int .i64 c) (.string (bs t)) (.int .i64 n) 0 s r) (hs : s.length ≤ 281474976710656) (hq : r.fault s = 0) (u : FrameMode) :
    CallsD Tryd.prog 34 #[.pointer (some ⟨B + 1 + 1 + 1 + 1 + 1, 0, none⟩), .pointer (some ⟨B + 1 + 1 + 1, 0, none⟩), .pointer (some ⟨B, 0, none⟩), .pointer (some ⟨B + 1, 0, none⟩), .pointer (some ⟨B + 1 + 1, 0, none⟩)] u w
      fun e u' w' => u' = u ∧ (e = .returned (.tuple #[]) ∧ w' = w.setCell ⟨B + 1 + 1 + 1, 0, none⟩ (.int .i64 0)) := by
  obtain ⟨c0, c1, c2, c3, c5, f0, f1, f2, f3, f5⟩ := h.cells
  have HS := Lib.hid h; clear h
  have HF := Lib.hid hq; clear hq
  go_enter_d Tryd.func34, Tryd.ntmps34
  go_wp2_with fail
  refine (fault_any (B + 1 + 1 + 1 + 1) s r _ HS.out.rd hs).mono ?_
  rw [HF.out]
  rintro e w' ⟨rfl, rfl⟩
  go_wp2_with fail
  go_end0
  exact ⟨rfl, rfl⟩

set_option maxRecDepth 100000 in
set_option maxHeartbeats 400000 in
theorem staEnd_x (h : Six w B 3 9 3 (.int .i64 c) (.string (bs t)) (.int .i64 n) 0 s r) (hs : s.length ≤ 281474976710656) (_hq : (r.fault s == 0) = false) (hq2 : (r.fault s != 0) = true) (u : FrameMode) :
    CallsD Tryd.prog 34 #[.pointer (some ⟨B + 1 + 1 + 1 + 1 + 1, 0, none⟩), .pointer (some ⟨B + 1 + 1 + 1, 0, none⟩), .pointer (some ⟨B, 0, none⟩), .pointer (some ⟨B + 1, 0, none⟩), .pointer (some ⟨B + 1 + 1, 0, none⟩)] u w
      fun e u' w' => u' = u ∧ (e = .returned (.tuple #[]) ∧ w' = (((w.setCell ⟨B + 1 + 1 + 1, 0, none⟩ (.int .i64 (r.fault s))).setCell ⟨B, 0, none⟩ (.int .i64 0)).setCell ⟨B + 1, 0, none⟩ (.string ⟨#[]⟩)).setCell ⟨B + 1 + 1, 0, none⟩ (.int .i64 0)) := by
  obtain ⟨c0, c1, c2, c3, c5, f0, f1, f2, f3, f5⟩ := h.cells
  have HS := Lib.hid h; clear h
  go_enter_d Tryd.func34, Tryd.ntmps34
  go_wp2_with fail
  refine (fault_any (B + 1 + 1 + 1 + 1) s r _ HS.out.rd hs).mono ?_
  rintro e w' ⟨rfl, rfl⟩
  go_wp2_with fail
  go_end0
  exact ⟨rfl, rfl⟩

theorem staEnd_any (h : Six w B 3 9 3 (.int .i64 c) (.string (bs t)) (.int .i64 n) 0 s r) (hs : s.length ≤ 281474976710656) (u : FrameMode) :
    CallsD Tryd.prog 34 #[.pointer (some ⟨B + 1 + 1 + 1 + 1 + 1, 0, none⟩), .pointer (some ⟨B + 1 + 1 + 1, 0, none⟩), .pointer (some ⟨B, 0, none⟩), .pointer (some ⟨B + 1, 0, none⟩), .pointer (some ⟨B + 1 + 1, 0, none⟩)] u w
      fun e u' w' => u' = u ∧ (e = .returned (.tuple #[]) ∧ Hid (Six w' B 3 9 3 (.int .i64 (if r.fault s = 0 then c else 0)) (.string (bs (if r.fault s = 0 then t else []))) (.int .i64 (if r.fault s = 0 then n else 0)) (r.fault s) s r) ∧ Hid (Below B w w')) := by
  by_cases hq : r.fault s = 0
  · rw [hq]
    refine (staEnd_0 B s t c n r w h hs hq u).mono ?_
    rintro e u' w' ⟨rfl, rfl, rfl⟩
    exact ⟨rfl, rfl, h.set3 0, (Below.refl _ _).setCell (by simp <;> omega) _⟩
  · rw [if_neg hq, if_neg hq, if_neg hq]
    refine (staEnd_x B s t c n r w h hs (by simpa using hq) (by simpa using hq) u).mono ?_
    rintro e u' w' ⟨rfl, rfl, rfl⟩
    exact ⟨rfl, rfl, (((h.set3 _).set0 _).set1 _).set2 _, ((((Below.refl _ _).setCell (by simp <;> omega) _).setCell (by simp <;> omega) _).setCell (by simp <;> omega) _).setCell (by simp <;> omega) _⟩
end
theorem valid_still (n : Int) (w : World) : Calls Tryd.prog 36 #[.int .i64 n] w fun e w' => e = .returned (.bool (validS n)) ∧ w' = w :=
  (validStatus_any n w).mono fun _ _ h => ⟨h.1, h.2.symm⟩

set_option maxRecDepth 100000 in
set_option maxHeartbeats 1000000 in
theorem status_any (s : ByteArray) (w : World) (he : Env w) (hs : s.size ≤ 1048576) :
    Calls Tryd.prog 12 #[.string s] w fun e w' =>
      e = .returned (.tuple #[.int .i64 (staC s.data.toList), .string (bs (staR s.data.toList)), .int .i64 (staN s.data.toList), .int .i64 (staE s.data.toList)]) ∧ Below w.heap.size w w' := by
  have hl : s.data.toList.length ≤ 1048576 := by rw [← size_len]; exact hs
  have hl2 : s.data.toList.length ≤ 281474976710656 := by omega
  have lA : (staA s.data.toList).rest.length ≤ s.data.toList.length := Nat.le_trans (Rs.fixed_le _ _) (Rs.ver_le (rs0 s.data.toList))
  have lB : (staB s.data.toList).rest.length ≤ s.data.toList.length := Nat.le_trans (Nat.le_trans (Rs.fixed_le _ _) (Rs.num_le (staA s.data.toList) 3)) lA
  have HE := Lib.hid he; clear he
  have hmf : ∀ (fn : Fn) (first cap : Array Value) (w : World), (Instr.makeFunc fn first cap).run Tryd.prog w = .ok (.func fn first cap) w := fun _ _ _ _ => rfl
  go_enter_defers Tryd.func12, Tryd.ntmps12
  go_wp2_with fail
  refine (begin_eq _ _).mono ?_
  rintro e w1 ⟨rfl, rfl⟩
  go_wp2_with fail
  have S0 := six_new w 3 9 3 (.int .i64 0) (.string ⟨#[]⟩) (.int .i64 0) s
  have HB0 := Lib.hid (six_below w 3 9 3 (.int .i64 0) (.string ⟨#[]⟩) (.int .i64 0) s)
  generalize ((((((w.alloc (.cells #[.int .i64 0] 3)).alloc (.cells #[.string ⟨#[]⟩] 9)).alloc (.cells #[.int .i64 0] 3)).alloc (.cells #[.int .i64 0] 23)).alloc (.cells #[.string s, .string s, .bool false, .int .i64 0] 63)).alloc (.cells #[.pointer (some ⟨w.heap.size + 1 + 1 + 1 + 1, 0, none⟩)] 47)) = w0 at S0 HB0 ⊢
  have E0 : Hid (Env w0) := HE.out.below HB0.out (Nat.le_refl _)
  clear HE
  generalize hB : w.heap.size = B at S0 HB0 ⊢
  have HBB := Lib.hid hB; clear hB
  obtain ⟨c0, c1, c2, c3, c5, f0, f1, f2, f3, f5⟩ := S0.cells
  have H0 := Lib.hid S0; clear S0
  -- BY gen_line.py
  refine (version_any (B + 1 + 1 + 1 + 1) s.data.toList (rs0 s.data.toList) _ E0.out H0.out.rd hl2).mono ?_
  rintro e w1 ⟨rfl, hr1, hg1⟩
  have S1 : Six w1 B 3 9 3 (.int .i64 0) (.string ⟨#[]⟩) (.int .i64 0) 0 s.data.toList (rs0 s.data.toList).ver := H0.out.step hr1 hg1
  have E1 : Hid (Env w1) := E0.out.rd _ _ _ _ H0.out.rd hg1
  have HB1 : Hid (Below B w w1) := HB0.out.grown hg1 H0.out.le (by simp <;> omega)
  clear c0 c1 c2 c3 c5 f0 f1 f2 f3 f5 H0 E0 HB0 hr1 hg1
  obtain ⟨c0, c1, c2, c3, c5, f0, f1, f2, f3, f5⟩ := S1.cells
  have H1 := Lib.hid S1; clear S1
  go_wp2_with fail
  have S2 := H1.out.set2 (.int .i64 (rs0 s.data.toList).verV)
  have E2 : Hid (Env (w1.setCell ⟨B + 1 + 1, 0, none⟩ (.int .i64 (rs0 s.data.toList).verV))) := E1.out.one H1.out.b2 (by intro tp p h; cases h)
  have HB2 : Hid (Below B w (w1.setCell ⟨B + 1 + 1, 0, none⟩ (.int .i64 (rs0 s.data.toList).verV))) := HB1.out.setCell (by simp <;> omega) _
  clear c0 c1 c2 c3 c5 f0 f1 f2 f3 f5 H1 E1 HB1
  generalize w1.setCell ⟨B + 1 + 1, 0, none⟩ (.int .i64 (rs0 s.data.toList).verV) = w2 at S2 E2 HB2 ⊢
  obtain ⟨c0, c1, c2, c3, c5, f0, f1, f2, f3, f5⟩ := S2.cells
  have H2 := Lib.hid S2; clear S2
  go_wp2_with fail
  refine (fixed_any (B + 1 + 1 + 1 + 1) s.data.toList _ _ ⟨#[32]⟩ H2.out.rd).mono ?_
  rintro e w3 ⟨rfl, hr3, hg3⟩
  have S3 : Six w3 B 3 9 3 (.int .i64 0) (.string ⟨#[]⟩) (.int .i64 (rs0 s.data.toList).verV) 0 s.data.toList (staA s.data.toList) := H2.out.step hr3 hg3
  have E3 : Hid (Env w3) := E2.out.rd _ _ _ _ H2.out.rd hg3
  have HB3 : Hid (Below B w w3) := HB2.out.grown hg3 H2.out.le (by simp <;> omega)
  clear c0 c1 c2 c3 c5 f0 f1 f2 f3 f5 H2 E2 HB2 hr3 hg3
  obtain ⟨c0, c1, c2, c3, c5, f0, f1, f2, f3, f5⟩ := S3.cells
  have H3 := Lib.hid S3; clear S3
  go_wp2_with fail
  refine (number_any (B + 1 + 1 + 1 + 1) s.data.toList (staA s.data.toList) _ 3 E3.out H3.out.rd (Nat.le_trans lA hl2)).mono ?_
  rintro e w4 ⟨rfl, hr4, hg4⟩
  have S4 : Six w4 B 3 9 3 (.int .i64 0) (.string ⟨#[]⟩) (.int .i64 (rs0 s.data.toList).verV) 0 s.data.toList ((staA s.data.toList).num 3) := H3.out.step hr4 hg4
  have E4 : Hid (Env w4) := E3.out.rd _ _ _ _ H3.out.rd hg4
  have HB4 : Hid (Below B w w4) := HB3.out.grown hg4 H3.out.le (by simp <;> omega)
  clear c0 c1 c2 c3 c5 f0 f1 f2 f3 f5 H3 E3 HB3 hr4 hg4
  obtain ⟨c0, c1, c2, c3, c5, f0, f1, f2, f3, f5⟩ := S4.cells
  have H4 := Lib.hid S4; clear S4
  go_wp2_with fail
  have S5 := H4.out.set0 (.int .i64 (staA s.data.toList).numV)
  have E5 : Hid (Env (w4.setCell ⟨B, 0, none⟩ (.int .i64 (staA s.data.toList).numV))) := E4.out.one H4.out.b0 (by intro tp p h; cases h)
  have HB5 : Hid (Below B w (w4.setCell ⟨B, 0, none⟩ (.int .i64 (staA s.data.toList).numV))) := HB4.out.setCell (by simp <;> omega) _
  clear c0 c1 c2 c3 c5 f0 f1 f2 f3 f5 H4 E4 HB4
  generalize w4.setCell ⟨B, 0, none⟩ (.int .i64 (staA s.data.toList).numV) = w5 at S5 E5 HB5 ⊢
  obtain ⟨c0, c1, c2, c3, c5, f0, f1, f2, f3, f5⟩ := S5.cells
  have H5 := Lib.hid S5; clear S5
  refine tail_drew 3 (by kernel_rfl) (by kernel_rfl) ?_
  simp only [List.take_succ_cons, List.take_zero, List.drop_succ_cons, List.drop_zero]
  have S6 := H5.out.drew
  have E6 : Hid (Env w5.drew) := E5.out
  have HB6 : Hid (Below B w w5.drew) := HB5.out.drew
  clear c0 c1 c2 c3 c5 f0 f1 f2 f3 f5 H5 E5 HB5
  generalize w5.drew = w6 at S6 E6 HB6 ⊢
  obtain ⟨c0, c1, c2, c3, c5, f0, f1, f2, f3, f5⟩ := S6.cells
  have H6 := Lib.hid S6; clear S6
  still_step
  still_step
  still_call (valid_still _ _)
  refine wpStill_nil ?_
  go_wp2_with fail
  refine (expect_any (B + 1 + 1 + 1 + 1) s.data.toList ((staA s.data.toList).num 3) _ _ H6.out.rd).mono ?_
  rintro e w7 ⟨rfl, hr7, hg7⟩
  have S7 : Six w7 B 3 9 3 (.int .i64 (staA s.data.toList).numV) (.string ⟨#[]⟩) (.int .i64 (rs0 s.data.toList).verV) 0 s.data.toList (((staA s.data.toList).num 3).expect (validS (staA s.data.toList).numV)) := H6.out.step hr7 hg7
  have E7 : Hid (Env w7) := E6.out.rd _ _ _ _ H6.out.rd hg7
  have HB7 : Hid (Below B w w7) := HB6.out.grown hg7 H6.out.le (by simp <;> omega)
  clear c0 c1 c2 c3 c5 f0 f1 f2 f3 f5 H6 E6 HB6 hr7 hg7
  obtain ⟨c0, c1, c2, c3, c5, f0, f1, f2, f3, f5⟩ := S7.cells
  have H7 := Lib.hid S7; clear S7
  go_wp2_with fail
  refine (fixed_any (B + 1 + 1 + 1 + 1) s.data.toList _ _ ⟨#[32]⟩ H7.out.rd).mono ?_
  rintro e w8 ⟨rfl, hr8, hg8⟩
  have S8 : Six w8 B 3 9 3 (.int .i64 (staA s.data.toList).numV) (.string ⟨#[]⟩) (.int .i64 (rs0 s.data.toList).verV) 0 s.data.toList (staB s.data.toList) := H7.out.step hr8 hg8
  have E8 : Hid (Env w8) := E7.out.rd _ _ _ _ H7.out.rd hg8
  have HB8 : Hid (Below B w w8) := HB7.out.grown hg8 H7.out.le (by simp <;> omega)
  clear c0 c1 c2 c3 c5 f0 f1 f2 f3 f5 H7 E7 HB7 hr8 hg8
  obtain ⟨c0, c1, c2, c3, c5, f0, f1, f2, f3, f5⟩ := S8.cells
  have H8 := Lib.hid S8; clear S8
  go_wp2_with fail
  refine (runReason (B + 1 + 1 + 1 + 1) s.data.toList (staB s.data.toList) _ H8.out.rd (Nat.le_trans lB hl2)).mono ?_
  rintro e w9 ⟨rfl, hr9, hg9⟩
  have S9 : Six w9 B 3 9 3 (.int .i64 (staA s.data.toList).numV) (.string ⟨#[]⟩) (.int .i64 (rs0 s.data.toList).verV) 0 s.data.toList (staZ s.data.toList) := H8.out.step hr9 hg9
  have E9 : Hid (Env w9) := E8.out.rd _ _ _ _ H8.out.rd hg9
  have HB9 : Hid (Below B w w9) := HB8.out.grown hg9 H8.out.le (by simp <;> omega)
  clear c0 c1 c2 c3 c5 f0 f1 f2 f3 f5 H8 E8 HB8 hr9 hg9
  obtain ⟨c0, c1, c2, c3, c5, f0, f1, f2, f3, f5⟩ := S9.cells
  have H9 := Lib.hid S9; clear S9
  go_wp2_with fail
  have S10 := H9.out.set1 (.string (bs ((staB s.data.toList).got mayB)))
  have E10 : Hid (Env (w9.setCell ⟨B + 1, 0, none⟩ (.string (bs ((staB s.data.toList).got mayB))))) := E9.out.one H9.out.b1 (by intro tp p h; cases h)
  have HB10 : Hid (Below B w (w9.setCell ⟨B + 1, 0, none⟩ (.string (bs ((staB s.data.toList).got mayB))))) := HB9.out.setCell (by simp <;> omega) _
  clear c0 c1 c2 c3 c5 f0 f1 f2 f3 f5 H9 E9 HB9
  generalize w9.setCell ⟨B + 1, 0, none⟩ (.string (bs ((staB s.data.toList).got mayB))) = w10 at S10 E10 HB10 ⊢
  obtain ⟨c0, c1, c2, c3, c5, f0, f1, f2, f3, f5⟩ := S10.cells
  have H10 := Lib.hid S10; clear S10
  go_region
  have S11 := ((((H10.out.set0 (.int .i64 (staA s.data.toList).numV)).set1 (.string (bs ((staB s.data.toList).got mayB)))).set2 (.int .i64 (rs0 s.data.toList).verV)).set3 0).drew
  have HB11 : Hid (Below B w (((((w10.setCell ⟨B, 0, none⟩ (.int .i64 (staA s.data.toList).numV)).setCell ⟨B + 1, 0, none⟩ (.string (bs ((staB s.data.toList).got mayB)))).setCell ⟨B + 1 + 1, 0, none⟩ (.int .i64 (rs0 s.data.toList).verV)).setCell ⟨B + 1 + 1 + 1, 0, none⟩ (.int .i64 0)).drew)) := ((((HB10.out.setCell (by simp <;> omega) _).setCell (by simp <;> omega) _).setCell (by simp <;> omega) _).setCell (by simp <;> omega) _).drew
  clear c0 c1 c2 c3 c5 f0 f1 f2 f3 f5 H10 E10 HB10
  generalize ((((w10.setCell ⟨B, 0, none⟩ (.int .i64 (staA s.data.toList).numV)).setCell ⟨B + 1, 0, none⟩ (.string (bs ((staB s.data.toList).got mayB)))).setCell ⟨B + 1 + 1, 0, none⟩ (.int .i64 (rs0 s.data.toList).verV)).setCell ⟨B + 1 + 1 + 1, 0, none⟩ (.int .i64 0)).drew = w11 at S11 HB11 ⊢
  have H11 := Lib.hid S11; clear S11
  go_wp2
  refine leaves_cons (f := 34) (args := #[.pointer (some ⟨B + 1 + 1 + 1 + 1 + 1, 0, none⟩), .pointer (some ⟨B + 1 + 1 + 1, 0, none⟩), .pointer (some ⟨B, 0, none⟩), .pointer (some ⟨B + 1, 0, none⟩), .pointer (some ⟨B + 1 + 1, 0, none⟩)]) (by simp) (by simp [go_sem]) ?_
  refine (staEnd_any B s.data.toList _ _ _ (staZ s.data.toList) w11 H11.out hl2 .returning).mono ?_
  rintro e u' wz ⟨rfl, rfl, HS, HBz⟩
  obtain ⟨c0, c1, c2, c3, -⟩ := HS.out.cells
  have HQ : (staZ s.data.toList).fault s.data.toList = staE s.data.toList := rfl
  rw [HQ] at c0 c1 c2 c3
  refine ⟨.tuple #[.int .i64 (staC s.data.toList), .string (bs (staR s.data.toList)), .int .i64 (staN s.data.toList), .int .i64 (staE s.data.toList)], ?_, rfl, ?_⟩
  · simp [results, Tryd.results12, go_sem, c0, c1, c2, c3, staC, staR, staN]
  · rw [HBB.out]; exact HB11.out.trans HBz.out
end Go.Proofs.YtinfflceglgneaaDoor
