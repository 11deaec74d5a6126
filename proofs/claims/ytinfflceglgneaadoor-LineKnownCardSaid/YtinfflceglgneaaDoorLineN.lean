/- LineBack, LineAgain: walked. -/
import Derived.Test.YtinfflceglgneaaDoorLineM
namespace Go.Proofs.YtinfflceglgneaaDoor
open Go.RowKit
theorem putRL_len (m t : ByteArray) (n : Int) (hm : m.size ≤ 5000) (ht : t.size ≤ 5000) : (putRL m.data.toList t.data.toList n).length ≤ 1048576 := by
  unfold putRL; split
  · rw [reqLine_len]; omega
  · simp
theorem putSL_len (r : ByteArray) (c n : Int) (hr : r.size ≤ 5000) : (putSL c r.data.toList n).length ≤ 1048576 := by
  unfold putSL; split
  · rw [staLine_len]; omega
  · simp

section
variable (a b : ByteArray) (n c : Int) (w : World) (ha : a.size ≤ 5000) (hb : b.size ≤ 5000) (he : Env w)
include ha hb he
set_option maxRecDepth 100000 in
set_option maxHeartbeats 1000000 in
theorem lineBack_11 (h1 : putRQ a.data.toList b.data.toList n = 0) (h2 : putSQ c b.data.toList n = 0) :
    Calls Tryd.prog 7 #[.string a, .string b, .agg #[.int .i64 n, .int .i64 c]] w fun e w' => e = .returned (.bool true) ∧ Below w.heap.size w w' := by
  have HE := Lib.hid he; clear he
  have HB0 : Hid (Below w.heap.size w (w.alloc (.cells #[.int .i64 n, .int .i64 c] 33))) := (Below.refl _ _).alloc (Nat.le_refl _) _
  have h6 : ¬ 5000 < a.size := by omega
  have h7 : ¬ 5000 < b.size := by omega
  have HK := Lib.hid (back_req h1)
  have HL := Lib.hid (putRL_len a b n ha hb)
  have H1 := Lib.hid h1
  obtain ⟨S, hS⟩ : ∃ S, S = bs (putRL a.data.toList b.data.toList n) := ⟨_, rfl⟩
  have HS : Hid (S.data.toList = putRL a.data.toList b.data.toList n) := by show _ = _; rw [hS, bs_data]
  have hSl : S.size ≤ 2048 := by rw [size_len, HS.out]; exact HK.out.2.2
  have HSS := Lib.hid hS
  clear h1 hS
  have HM := Lib.hid (back_sta h2)
  have HL2 := Lib.hid (putSL_len b c n hb)
  have H2 := Lib.hid h2
  obtain ⟨T, hT⟩ : ∃ T, T = bs (putSL c b.data.toList n) := ⟨_, rfl⟩
  have HT : Hid (T.data.toList = putSL c b.data.toList n) := by show _ = _; rw [hT, bs_data]
  have hTl : T.size ≤ 2048 := by rw [size_len, HT.out]; exact HM.out.2.2
  have HTT := Lib.hid hT
  clear h2 hT
  go_enter Tryd.func7, Tryd.ntmps7
  go_wp2_with fail
  have T0 := two_new w n c
  have HE0 : Hid (Env (w.alloc (.cells #[.int .i64 n, .int .i64 c] 33))) := HE.out.below HB0.out (Nat.le_refl _)
  clear HE
  generalize w.alloc (.cells #[.int .i64 n, .int .i64 c] 33) = w0 at T0 HE0 HB0 ⊢
  obtain ⟨c0, c1⟩ := T0.cells
  have HT0 := Lib.hid T0; clear T0
  refine (putRequest_any a b n _ (by omega) (by omega)).mono ?_
  rw [H1.out, ← HSS.out]
  rintro e w1 ⟨rfl, hb1⟩
  have T1 := HT0.out.keep hb1
  have HE1 : Hid (Env w1) := HE0.out.below hb1 (Nat.le_refl _)
  have HB1 : Hid (Below w.heap.size w w1) := HB0.out.trans (hb1.mono HB0.out.size)
  clear c0 c1 hb1 HT0 HE0 HB0
  obtain ⟨c0, c1⟩ := T1.cells
  have HT1 := Lib.hid T1; clear T1
  go_wp2_with fail
  refine (putStatus_any c b n _ (by omega) HE1.out).mono ?_
  rw [H2.out, ← HTT.out]
  rintro e w2 ⟨rfl, hb2⟩
  have T2 := HT1.out.keep hb2
  have HE2 : Hid (Env w2) := HE1.out.below hb2 (Nat.le_refl _)
  have HB2 : Hid (Below w.heap.size w w2) := HB1.out.trans (hb2.mono HB1.out.size)
  clear c0 c1 hb2 HT1 HE1 HB1
  obtain ⟨c0, c1⟩ := T2.cells
  have HT2 := Lib.hid T2; clear T2
  go_wp2_with fail
  refine (status_any S _ HE2.out (by omega)).mono ?_
  rw [HS.out, HK.out.2.1]
  rintro e w3 ⟨rfl, hb3⟩
  have T3 := HT2.out.keep hb3
  have HE3 : Hid (Env w3) := HE2.out.below hb3 (Nat.le_refl _)
  have HB3 : Hid (Below w.heap.size w w3) := HB2.out.trans (hb3.mono HB2.out.size)
  clear c0 c1 hb3 HT2 HE2 HB2
  obtain ⟨c0, c1⟩ := T3.cells
  have HT3 := Lib.hid T3; clear T3
  go_wp2_with fail
  refine (asks_yes S _ HE3.out (by omega) a b n (by rw [HS.out]; exact HK.out.1)).mono ?_
  rintro e w4 ⟨rfl, hb4⟩
  have T4 := HT3.out.keep hb4
  have HE4 : Hid (Env w4) := HE3.out.below hb4 (Nat.le_refl _)
  have HB4 : Hid (Below w.heap.size w w4) := HB3.out.trans (hb4.mono HB3.out.size)
  clear c0 c1 hb4 HT3 HE3 HB3
  obtain ⟨c0, c1⟩ := T4.cells
  have HT4 := Lib.hid T4; clear T4
  go_wp2_with fail
  refine (request_any T _ HE4.out (by omega)).mono ?_
  rw [HT.out, HM.out.2.1]
  rintro e w5 ⟨rfl, hb5⟩
  have T5 := HT4.out.keep hb5
  have HE5 : Hid (Env w5) := HE4.out.below hb5 (Nat.le_refl _)
  have HB5 : Hid (Below w.heap.size w w5) := HB4.out.trans (hb5.mono HB4.out.size)
  clear c0 c1 hb5 HT4 HE4 HB4
  obtain ⟨c0, c1⟩ := T5.cells
  have HT5 := Lib.hid T5; clear T5
  go_wp2_with fail
  refine (says_yes T _ HE5.out (by omega) b c n (by rw [HT.out]; exact HM.out.1)).mono ?_
  rintro e w6 ⟨rfl, hb6⟩
  have T6 := HT5.out.keep hb6
  have HE6 : Hid (Env w6) := HE5.out.below hb6 (Nat.le_refl _)
  have HB6 : Hid (Below w.heap.size w w6) := HB5.out.trans (hb6.mono HB5.out.size)
  clear c0 c1 hb6 HT5 HE5 HB5
  obtain ⟨c0, c1⟩ := T6.cells
  have HT6 := Lib.hid T6; clear T6
  go_wp2_with fail
  refine (awake_any _ HE6.out).mono ?_
  rintro e wz ⟨rfl, hbz⟩
  go_wp2_with fail
  go_ret
  exact ⟨rfl, HB6.out.trans (hbz.mono HB6.out.size)⟩

set_option maxRecDepth 100000 in
set_option maxHeartbeats 1000000 in
theorem lineBack_10 (h1 : putRQ a.data.toList b.data.toList n = 0) (h2 : putSQ c b.data.toList n ≠ 0) :
    Calls Tryd.prog 7 #[.string a, .string b, .agg #[.int .i64 n, .int .i64 c]] w fun e w' => e = .returned (.bool true) ∧ Below w.heap.size w w' := by
  have HE := Lib.hid he; clear he
  have HB0 : Hid (Below w.heap.size w (w.alloc (.cells #[.int .i64 n, .int .i64 c] 33))) := (Below.refl _ _).alloc (Nat.le_refl _) _
  have h6 : ¬ 5000 < a.size := by omega
  have h7 : ¬ 5000 < b.size := by omega
  have HK := Lib.hid (back_req h1)
  have HL := Lib.hid (putRL_len a b n ha hb)
  have H1 := Lib.hid h1
  obtain ⟨S, hS⟩ : ∃ S, S = bs (putRL a.data.toList b.data.toList n) := ⟨_, rfl⟩
  have HS : Hid (S.data.toList = putRL a.data.toList b.data.toList n) := by show _ = _; rw [hS, bs_data]
  have hSl : S.size ≤ 2048 := by rw [size_len, HS.out]; exact HK.out.2.2
  have HSS := Lib.hid hS
  clear h1 hS
  have h2z : putSL c b.data.toList n = [] := by unfold putSL; rw [if_neg h2]
  have H2Z := Lib.hid h2z
  obtain ⟨L, hL⟩ : ∃ L, L = putSQ c b.data.toList n := ⟨_, rfl⟩
  have k2 : (L == 0) = false := by rw [hL]; simpa using h2
  have HLL := Lib.hid hL
  clear h2 h2z hL
  go_enter Tryd.func7, Tryd.ntmps7
  go_wp2_with fail
  have T0 := two_new w n c
  have HE0 : Hid (Env (w.alloc (.cells #[.int .i64 n, .int .i64 c] 33))) := HE.out.below HB0.out (Nat.le_refl _)
  clear HE
  generalize w.alloc (.cells #[.int .i64 n, .int .i64 c] 33) = w0 at T0 HE0 HB0 ⊢
  obtain ⟨c0, c1⟩ := T0.cells
  have HT0 := Lib.hid T0; clear T0
  refine (putRequest_any a b n _ (by omega) (by omega)).mono ?_
  rw [H1.out, ← HSS.out]
  rintro e w1 ⟨rfl, hb1⟩
  have T1 := HT0.out.keep hb1
  have HE1 : Hid (Env w1) := HE0.out.below hb1 (Nat.le_refl _)
  have HB1 : Hid (Below w.heap.size w w1) := HB0.out.trans (hb1.mono HB0.out.size)
  clear c0 c1 hb1 HT0 HE0 HB0
  obtain ⟨c0, c1⟩ := T1.cells
  have HT1 := Lib.hid T1; clear T1
  go_wp2_with fail
  refine (putStatus_any c b n _ (by omega) HE1.out).mono ?_
  rw [H2Z.out, ← HLL.out, show bs [] = ⟨#[]⟩ from rfl]
  rintro e w2 ⟨rfl, hb2⟩
  have T2 := HT1.out.keep hb2
  have HE2 : Hid (Env w2) := HE1.out.below hb2 (Nat.le_refl _)
  have HB2 : Hid (Below w.heap.size w w2) := HB1.out.trans (hb2.mono HB1.out.size)
  clear c0 c1 hb2 HT1 HE1 HB1
  obtain ⟨c0, c1⟩ := T2.cells
  have HT2 := Lib.hid T2; clear T2
  go_wp2_with fail
  refine (status_any S _ HE2.out (by omega)).mono ?_
  rw [HS.out, HK.out.2.1]
  rintro e w3 ⟨rfl, hb3⟩
  have T3 := HT2.out.keep hb3
  have HE3 : Hid (Env w3) := HE2.out.below hb3 (Nat.le_refl _)
  have HB3 : Hid (Below w.heap.size w w3) := HB2.out.trans (hb3.mono HB2.out.size)
  clear c0 c1 hb3 HT2 HE2 HB2
  obtain ⟨c0, c1⟩ := T3.cells
  have HT3 := Lib.hid T3; clear T3
  go_wp2_with fail
  refine (asks_yes S _ HE3.out (by omega) a b n (by rw [HS.out]; exact HK.out.1)).mono ?_
  rintro e w4 ⟨rfl, hb4⟩
  have T4 := HT3.out.keep hb4
  have HE4 : Hid (Env w4) := HE3.out.below hb4 (Nat.le_refl _)
  have HB4 : Hid (Below w.heap.size w w4) := HB3.out.trans (hb4.mono HB3.out.size)
  clear c0 c1 hb4 HT3 HE3 HB3
  obtain ⟨c0, c1⟩ := T4.cells
  have HT4 := Lib.hid T4; clear T4
  go_wp2_with fail
  refine (awake_any _ HE4.out).mono ?_
  rintro e wz ⟨rfl, hbz⟩
  go_wp2_with fail
  go_ret
  exact ⟨rfl, HB4.out.trans (hbz.mono HB4.out.size)⟩

set_option maxRecDepth 100000 in
set_option maxHeartbeats 1000000 in
theorem lineBack_01 (h1 : putRQ a.data.toList b.data.toList n ≠ 0) (h2 : putSQ c b.data.toList n = 0) :
    Calls Tryd.prog 7 #[.string a, .string b, .agg #[.int .i64 n, .int .i64 c]] w fun e w' => e = .returned (.bool true) ∧ Below w.heap.size w w' := by
  have HE := Lib.hid he; clear he
  have HB0 : Hid (Below w.heap.size w (w.alloc (.cells #[.int .i64 n, .int .i64 c] 33))) := (Below.refl _ _).alloc (Nat.le_refl _) _
  have h6 : ¬ 5000 < a.size := by omega
  have h7 : ¬ 5000 < b.size := by omega
  have h1z : putRL a.data.toList b.data.toList n = [] := by unfold putRL; rw [if_neg h1]
  have H1Z := Lib.hid h1z
  obtain ⟨K, hK⟩ : ∃ K, K = putRQ a.data.toList b.data.toList n := ⟨_, rfl⟩
  have k1 : (K == 0) = false := by rw [hK]; simpa using h1
  have HKK := Lib.hid hK
  clear h1 h1z hK
  have HM := Lib.hid (back_sta h2)
  have HL2 := Lib.hid (putSL_len b c n hb)
  have H2 := Lib.hid h2
  obtain ⟨T, hT⟩ : ∃ T, T = bs (putSL c b.data.toList n) := ⟨_, rfl⟩
  have HT : Hid (T.data.toList = putSL c b.data.toList n) := by show _ = _; rw [hT, bs_data]
  have hTl : T.size ≤ 2048 := by rw [size_len, HT.out]; exact HM.out.2.2
  have HTT := Lib.hid hT
  clear h2 hT
  go_enter Tryd.func7, Tryd.ntmps7
  go_wp2_with fail
  have T0 := two_new w n c
  have HE0 : Hid (Env (w.alloc (.cells #[.int .i64 n, .int .i64 c] 33))) := HE.out.below HB0.out (Nat.le_refl _)
  clear HE
  generalize w.alloc (.cells #[.int .i64 n, .int .i64 c] 33) = w0 at T0 HE0 HB0 ⊢
  obtain ⟨c0, c1⟩ := T0.cells
  have HT0 := Lib.hid T0; clear T0
  refine (putRequest_any a b n _ (by omega) (by omega)).mono ?_
  rw [H1Z.out, ← HKK.out, show bs [] = ⟨#[]⟩ from rfl]
  rintro e w1 ⟨rfl, hb1⟩
  have T1 := HT0.out.keep hb1
  have HE1 : Hid (Env w1) := HE0.out.below hb1 (Nat.le_refl _)
  have HB1 : Hid (Below w.heap.size w w1) := HB0.out.trans (hb1.mono HB0.out.size)
  clear c0 c1 hb1 HT0 HE0 HB0
  obtain ⟨c0, c1⟩ := T1.cells
  have HT1 := Lib.hid T1; clear T1
  go_wp2_with fail
  refine (putStatus_any c b n _ (by omega) HE1.out).mono ?_
  rw [H2.out, ← HTT.out]
  rintro e w2 ⟨rfl, hb2⟩
  have T2 := HT1.out.keep hb2
  have HE2 : Hid (Env w2) := HE1.out.below hb2 (Nat.le_refl _)
  have HB2 : Hid (Below w.heap.size w w2) := HB1.out.trans (hb2.mono HB1.out.size)
  clear c0 c1 hb2 HT1 HE1 HB1
  obtain ⟨c0, c1⟩ := T2.cells
  have HT2 := Lib.hid T2; clear T2
  go_wp2_with fail
  refine (request_any T _ HE2.out (by omega)).mono ?_
  rw [HT.out, HM.out.2.1]
  rintro e w3 ⟨rfl, hb3⟩
  have T3 := HT2.out.keep hb3
  have HE3 : Hid (Env w3) := HE2.out.below hb3 (Nat.le_refl _)
  have HB3 : Hid (Below w.heap.size w w3) := HB2.out.trans (hb3.mono HB2.out.size)
  clear c0 c1 hb3 HT2 HE2 HB2
  obtain ⟨c0, c1⟩ := T3.cells
  have HT3 := Lib.hid T3; clear T3
  go_wp2_with fail
  refine (says_yes T _ HE3.out (by omega) b c n (by rw [HT.out]; exact HM.out.1)).mono ?_
  rintro e w4 ⟨rfl, hb4⟩
  have T4 := HT3.out.keep hb4
  have HE4 : Hid (Env w4) := HE3.out.below hb4 (Nat.le_refl _)
  have HB4 : Hid (Below w.heap.size w w4) := HB3.out.trans (hb4.mono HB3.out.size)
  clear c0 c1 hb4 HT3 HE3 HB3
  obtain ⟨c0, c1⟩ := T4.cells
  have HT4 := Lib.hid T4; clear T4
  go_wp2_with fail
  refine (awake_any _ HE4.out).mono ?_
  rintro e wz ⟨rfl, hbz⟩
  go_wp2_with fail
  go_ret
  exact ⟨rfl, HB4.out.trans (hbz.mono HB4.out.size)⟩

set_option maxRecDepth 100000 in
set_option maxHeartbeats 1000000 in
theorem lineBack_00 (h1 : putRQ a.data.toList b.data.toList n ≠ 0) (h2 : putSQ c b.data.toList n ≠ 0) :
    Calls Tryd.prog 7 #[.string a, .string b, .agg #[.int .i64 n, .int .i64 c]] w fun e w' => e = .returned (.bool true) ∧ Below w.heap.size w w' := by
  have HE := Lib.hid he; clear he
  have HB0 : Hid (Below w.heap.size w (w.alloc (.cells #[.int .i64 n, .int .i64 c] 33))) := (Below.refl _ _).alloc (Nat.le_refl _) _
  have h6 : ¬ 5000 < a.size := by omega
  have h7 : ¬ 5000 < b.size := by omega
  have h1z : putRL a.data.toList b.data.toList n = [] := by unfold putRL; rw [if_neg h1]
  have H1Z := Lib.hid h1z
  obtain ⟨K, hK⟩ : ∃ K, K = putRQ a.data.toList b.data.toList n := ⟨_, rfl⟩
  have k1 : (K == 0) = false := by rw [hK]; simpa using h1
  have HKK := Lib.hid hK
  clear h1 h1z hK
  have h2z : putSL c b.data.toList n = [] := by unfold putSL; rw [if_neg h2]
  have H2Z := Lib.hid h2z
  obtain ⟨L, hL⟩ : ∃ L, L = putSQ c b.data.toList n := ⟨_, rfl⟩
  have k2 : (L == 0) = false := by rw [hL]; simpa using h2
  have HLL := Lib.hid hL
  clear h2 h2z hL
  go_enter Tryd.func7, Tryd.ntmps7
  go_wp2_with fail
  have T0 := two_new w n c
  have HE0 : Hid (Env (w.alloc (.cells #[.int .i64 n, .int .i64 c] 33))) := HE.out.below HB0.out (Nat.le_refl _)
  clear HE
  generalize w.alloc (.cells #[.int .i64 n, .int .i64 c] 33) = w0 at T0 HE0 HB0 ⊢
  obtain ⟨c0, c1⟩ := T0.cells
  have HT0 := Lib.hid T0; clear T0
  refine (putRequest_any a b n _ (by omega) (by omega)).mono ?_
  rw [H1Z.out, ← HKK.out, show bs [] = ⟨#[]⟩ from rfl]
  rintro e w1 ⟨rfl, hb1⟩
  have T1 := HT0.out.keep hb1
  have HE1 : Hid (Env w1) := HE0.out.below hb1 (Nat.le_refl _)
  have HB1 : Hid (Below w.heap.size w w1) := HB0.out.trans (hb1.mono HB0.out.size)
  clear c0 c1 hb1 HT0 HE0 HB0
  obtain ⟨c0, c1⟩ := T1.cells
  have HT1 := Lib.hid T1; clear T1
  go_wp2_with fail
  refine (putStatus_any c b n _ (by omega) HE1.out).mono ?_
  rw [H2Z.out, ← HLL.out, show bs [] = ⟨#[]⟩ from rfl]
  rintro e w2 ⟨rfl, hb2⟩
  have T2 := HT1.out.keep hb2
  have HE2 : Hid (Env w2) := HE1.out.below hb2 (Nat.le_refl _)
  have HB2 : Hid (Below w.heap.size w w2) := HB1.out.trans (hb2.mono HB1.out.size)
  clear c0 c1 hb2 HT1 HE1 HB1
  obtain ⟨c0, c1⟩ := T2.cells
  have HT2 := Lib.hid T2; clear T2
  go_wp2_with fail
  refine (awake_any _ HE2.out).mono ?_
  rintro e wz ⟨rfl, hbz⟩
  go_wp2_with fail
  go_ret
  exact ⟨rfl, HB2.out.trans (hbz.mono HB2.out.size)⟩

end
end Go.Proofs.YtinfflceglgneaaDoor
