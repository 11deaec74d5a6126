/- Lines that are put, whole: requests' and replies'. -/
import Derived.Test.YtinfflceglgneaaDoorLineC
namespace Go.Proofs.YtinfflceglgneaaDoor
open Go.RowKit

theorem putRequest_any (m t : ByteArray) (n : Int) (w : World) (hm : m.size ≤ 1048576) (ht : t.size ≤ 1048576) :
    Calls Tryd.prog 14 #[.string m, .string t, .int .i64 n] w fun e w' => e = .returned (.tuple #[.string (bs (putRL m.data.toList t.data.toList n)), .int .i64 (putRQ m.data.toList t.data.toList n)]) ∧ Below w.heap.size w w' := by
  cases h : (token m.data.toList && target t.data.toList && validM n)
  · have hq : putRQ m.data.toList t.data.toList n = 4 := by unfold putRQ; rw [if_neg (by rw [h]; simp)]
    have hl : putRL m.data.toList t.data.toList n = [] := by unfold putRL; rw [hq]; rfl
    rw [hq, hl]
    exact putRequest_bad m t n w hm ht h
  · exact putRequest_good m t n w hm ht h

section
variable (c : Int) (r : ByteArray) (n : Int) (w : World) (hr : r.size ≤ 1048576)
theorem staLine_txt : bs (verN n) ++ ⟨#[32]⟩ ++ bs (code3 c) ++ ⟨#[32]⟩ ++ r = bs (staLine c r.data.toList n) := by
  unfold staLine
  rw [← bs_append, ← bs_append, ← bs_append, ← bs_append]
  rfl
theorem code3_len (c : Int) : (code3 c).length = 3 := rfl
theorem staLine_len : (staLine c r.data.toList n).length = 8 + 1 + 3 + 1 + r.size := by
  unfold staLine; rw [size_len]; simp [verN_len, code3_len]; omega
include hr
set_option maxRecDepth 100000 in
set_option maxHeartbeats 400000 in
theorem putStatus_bad (h : (validS c && r.data.toList.all mayB && validM n) = false) :
    Calls Tryd.prog 16 #[.int .i64 c, .string r, .int .i64 n] w fun e w' => e = .returned (.tuple #[.string ⟨#[]⟩, .int .i64 4]) ∧ Below w.heap.size w w' := by
  cases h1 : validS c
  · have H1 := Lib.hid h1; clear h1 h
    go_enter Tryd.func16, Tryd.ntmps16
    go_wp2_with fail
    refine (validStatus_any c _).mono ?_
    rw [H1.out]
    rintro e w1 ⟨rfl, rfl⟩
    go_wp2_with fail
    go_ret2
    exact ⟨rfl, Below.refl _ _⟩
  · cases h3 : r.data.toList.all mayB
    · have H1 := Lib.hid h1
      have H3 := Lib.hid h3
      clear h1 h3 h
      go_enter Tryd.func16, Tryd.ntmps16
      go_wp2_with fail
      refine (validStatus_any c _).mono ?_
      rw [H1.out]
      rintro e w1 ⟨rfl, rfl⟩
      go_wp2_with fail
      refine (consReason r _ (by omega)).mono ?_
      rw [H3.out]
      rintro e w2 ⟨rfl, hb2⟩
      go_wp2_with fail
      go_ret2
      exact ⟨rfl, hb2⟩
    · have h4 : validM n = false := by rw [h1, h3] at h; simpa using h
      have H1 := Lib.hid h1
      have H3 := Lib.hid h3
      have H4 := Lib.hid h4
      clear h1 h3 h4 h
      go_enter Tryd.func16, Tryd.ntmps16
      go_wp2_with fail
      refine (validStatus_any c _).mono ?_
      rw [H1.out]
      rintro e w1 ⟨rfl, rfl⟩
      go_wp2_with fail
      refine (consReason r _ (by omega)).mono ?_
      rw [H3.out]
      rintro e w2 ⟨rfl, hb2⟩
      go_wp2_with fail
      refine (validMinor_any n _).mono ?_
      rw [H4.out]
      rintro e w3 ⟨rfl, rfl⟩
      go_wp2_with fail
      go_ret2
      exact ⟨rfl, hb2⟩

set_option maxRecDepth 100000 in
set_option maxHeartbeats 400000 in
theorem putStatus_good (he : Env w) (h : (validS c && r.data.toList.all mayB && validM n) = true) :
    Calls Tryd.prog 16 #[.int .i64 c, .string r, .int .i64 n] w fun e w' => e = .returned (.tuple #[.string (bs (putSL c r.data.toList n)), .int .i64 (putSQ c r.data.toList n)]) ∧ Below w.heap.size w w' := by
  have HQ : Hid (putSQ c r.data.toList n = if 2048 < (staLine c r.data.toList n).length then 3 else 0) := by
    show putSQ _ _ _ = _
    unfold putSQ; rw [if_pos h]
  have HE := Lib.hid he; clear he
  rw [Bool.and_eq_true, Bool.and_eq_true] at h
  obtain ⟨⟨h1, h4⟩, h3⟩ := h
  have hc : 100 ≤ c ∧ c ≤ 599 := by unfold validS at h1; simpa using h1
  have H1 := Lib.hid h1
  have H3 := Lib.hid h3
  have H4 := Lib.hid h4
  have HC := Lib.hid hc
  clear h1 h3 h4 hc
  go_enter Tryd.func16, Tryd.ntmps16
  go_wp2_with fail
  refine (validStatus_any c _).mono ?_
  rw [H1.out]
  rintro e w1 ⟨rfl, rfl⟩
  go_wp2_with fail
  refine (consReason r _ (by omega)).mono ?_
  rw [H4.out]
  rintro e w2 ⟨rfl, hb2⟩
  have HB := Lib.hid hb2; clear hb2
  have HE2 : Hid (Env w2) := HE.out.below HB.out (Nat.le_refl _)
  go_wp2_with fail
  refine (validMinor_any n _).mono ?_
  rw [H3.out]
  rintro e w3 ⟨rfl, rfl⟩
  go_wp2_with fail
  refine (versionOf_any n _ H3.out).mono ?_
  rintro e w3 ⟨rfl, rfl⟩
  have hv := verN_len n
  go_wp2_with fail
  refine (itoa_any c _ (by have := HC.out; omega) (by have := HC.out; omega) HE2.out).mono ?_
  rw [itoa3 HC.out.1 HC.out.2]
  rintro e w4 ⟨rfl, hb4⟩
  have HB4 : Hid (Below w.heap.size w w4) := HB.out.trans (hb4.mono HB.out.size)
  clear hb4
  have hv2 := code3_len c
  have hl := Lib.hid (staLine_len c r n)
  by_cases c2 : 2048 < 8 + 1 + 3 + 1 + r.size
  · have HQ1 : Hid (putSQ c r.data.toList n = 3) := by show _ = _; rw [HQ.out, if_pos (by rw [hl.out]; exact c2)]
    have c3 : (2048 : Int) < 13 + r.size := by omega
    go_wp2_with fail
    go_ret2
    exact ⟨ret_put (by unfold putSL; rw [HQ1.out]; rfl) HQ1.out.symm, HB4.out⟩
  · have HQ1 : Hid (putSQ c r.data.toList n = 0) := by show _ = _; rw [HQ.out, if_neg (by rw [hl.out]; omega)]
    have c3 : ¬ (2048 : Int) < 13 + r.size := by omega
    go_wp2_with fail
    go_ret2
    exact ⟨ret_put (by unfold putSL; rw [HQ1.out]; exact staLine_txt c r n) HQ1.out.symm, HB4.out⟩

theorem putStatus_any (he : Env w) :
    Calls Tryd.prog 16 #[.int .i64 c, .string r, .int .i64 n] w fun e w' => e = .returned (.tuple #[.string (bs (putSL c r.data.toList n)), .int .i64 (putSQ c r.data.toList n)]) ∧ Below w.heap.size w w' := by
  cases h : (validS c && r.data.toList.all mayB && validM n)
  · have hq : putSQ c r.data.toList n = 4 := by unfold putSQ; rw [if_neg (by rw [h]; simp)]
    have hl : putSL c r.data.toList n = [] := by unfold putSL; rw [hq]; rfl
    rw [hq, hl]
    exact putStatus_bad c r n w hr h
  · exact putStatus_good c r n w hr he h
end
end Go.Proofs.YtinfflceglgneaaDoor
