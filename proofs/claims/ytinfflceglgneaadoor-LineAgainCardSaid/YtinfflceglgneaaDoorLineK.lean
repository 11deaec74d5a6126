/- The document's own replies' lines that are put. -/
import Derived.Test.YtinfflceglgneaaDoorLineJ
namespace Go.Proofs.YtinfflceglgneaaDoor
open Go.RowKit

theorem code3_eq {c : Int} (h : 100 ≤ c ∧ c ≤ 599) : [UInt8.ofNat (48 + c / 100).toNat, UInt8.ofNat (48 + c / 10 % 10).toNat, UInt8.ofNat (48 + c % 10).toNat] = code3 c := by
  unfold code3
  rw [show (48 + c / 100).toNat = 48 + c.toNat / 100 from by omega, show (48 + c / 10 % 10).toNat = 48 + c.toNat / 10 % 10 from by omega, show (48 + c % 10).toNat = 48 + c.toNat % 10 from by omega]
section
variable (c : Int) (r : ByteArray) (n : Int) (w : World) (hr : r.size ≤ 1048576)
include hr
set_option maxRecDepth 100000 in
set_option maxHeartbeats 400000 in
theorem rputStatus_bad (h : (validS c && r.data.toList.all mayB && validM n) = false) :
    Calls Tryd.prog 17 #[.int .i64 c, .string r, .int .i64 n] w fun e w' => e = .returned (.tuple #[.string ⟨#[]⟩, .int .i64 4]) ∧ Below w.heap.size w w' := by
  by_cases h1 : c < 100
  · clear h
    go_enter Tryd.func17, Tryd.ntmps17
    go_wp2_with fail
    go_ret2
    exact ⟨rfl, Below.refl _ _⟩
  · by_cases h2 : 599 < c
    · clear h
      go_enter Tryd.func17, Tryd.ntmps17
      go_wp2_with fail
      go_ret2
      exact ⟨rfl, Below.refl _ _⟩
    · have hc : validS c = true := by unfold validS; simp; omega
      rw [hc, Bool.true_and] at h
      clear hc
      cases h3 : r.data.toList.all mayB
      · have H3 := Lib.hid h3
        clear h3 h
        go_enter Tryd.func17, Tryd.ntmps17
        go_wp2_with fail
        refine (rreason_any r _ (by unfold maxLen; omega)).mono ?_
        rw [H3.out]
        rintro e w2 ⟨rfl, rfl⟩
        go_wp2_with fail
        go_ret2
        exact ⟨rfl, Below.refl _ _⟩
      · obtain ⟨b0, b1⟩ := minor_bad (n := n) (by rw [h3] at h; simpa using h)
        have H3 := Lib.hid h3
        clear h3 h
        go_enter Tryd.func17, Tryd.ntmps17
        go_wp2_with fail
        refine (rreason_any r _ (by unfold maxLen; omega)).mono ?_
        rw [H3.out]
        rintro e w2 ⟨rfl, rfl⟩
        go_wp2_with fail
        go_ret2
        exact ⟨rfl, Below.refl _ _⟩

set_option maxRecDepth 100000 in
set_option maxHeartbeats 1000000 in
theorem rputStatus_good (h : (validS c && r.data.toList.all mayB && validM n) = true) :
    Calls Tryd.prog 17 #[.int .i64 c, .string r, .int .i64 n] w fun e w' => e = .returned (.tuple #[.string (bs (putSL c r.data.toList n)), .int .i64 (putSQ c r.data.toList n)]) ∧ Below w.heap.size w w' := by
  have HQ : Hid (putSQ c r.data.toList n = if 2048 < (staLine c r.data.toList n).length then 3 else 0) := by
    show putSQ _ _ _ = _
    unfold putSQ; rw [if_pos h]
  rw [Bool.and_eq_true, Bool.and_eq_true] at h
  obtain ⟨⟨h1, h4⟩, h3⟩ := h
  have hc : 100 ≤ c ∧ c ≤ 599 := by unfold validS at h1; simpa using h1
  have HC := Lib.hid hc
  obtain ⟨c1, c2⟩ := hc
  have H3 := Lib.hid h3
  have H4 := Lib.hid h4
  have hmg := minor_good h3
  have hv := verN_len n
  have hv2 := code3_len c
  have hl := Lib.hid (staLine_len c r n)
  have hb := three_back w (48 + c / 100) (48 + c / 10 % 10) (48 + c % 10) (by omega) (by omega) (by omega)
  rw [code3_eq HC.out] at hb
  clear h1 h3 h4
  rcases hmg with b0 | ⟨b0, b1⟩
  all_goals
    by_cases c3 : 2048 < 8 + 1 + 3 + 1 + r.size
    · have HQ1 : Hid (putSQ c r.data.toList n = 3) := by show _ = _; rw [HQ.out, if_pos (by rw [hl.out]; exact c3)]
      have c4 : (2048 : Int) < 13 + r.size := by omega
      go_enter Tryd.func17, Tryd.ntmps17
      go_wp2_with fail
      refine (rreason_any r _ (by unfold maxLen; omega)).mono ?_
      rw [H4.out]
      rintro e w2 ⟨rfl, rfl⟩
      go_wp2_with fail
      refine (rversionOf_any n _ H3.out).mono ?_
      rintro e w1 ⟨rfl, rfl⟩
      go_wp2_with fail
      go_ret2
      exact ⟨ret_put (by unfold putSL; rw [HQ1.out]; rfl) HQ1.out.symm, (Below.refl _ _).alloc (Nat.le_refl _) _⟩
    · have HQ1 : Hid (putSQ c r.data.toList n = 0) := by show _ = _; rw [HQ.out, if_neg (by rw [hl.out]; omega)]
      have c4 : ¬ (2048 : Int) < 13 + r.size := by omega
      go_enter Tryd.func17, Tryd.ntmps17
      go_wp2_with fail
      refine (rreason_any r _ (by unfold maxLen; omega)).mono ?_
      rw [H4.out]
      rintro e w2 ⟨rfl, rfl⟩
      go_wp2_with fail
      refine (rversionOf_any n _ H3.out).mono ?_
      rintro e w1 ⟨rfl, rfl⟩
      go_wp2_with fail
      go_ret2
      exact ⟨ret_put (by unfold putSL; rw [HQ1.out]; exact staLine_txt c r n) HQ1.out.symm, (Below.refl _ _).alloc (Nat.le_refl _) _⟩
theorem rputStatus_any :
    Calls Tryd.prog 17 #[.int .i64 c, .string r, .int .i64 n] w fun e w' => e = .returned (.tuple #[.string (bs (putSL c r.data.toList n)), .int .i64 (putSQ c r.data.toList n)]) ∧ Below w.heap.size w w' := by
  cases h : (validS c && r.data.toList.all mayB && validM n)
  · have hq : putSQ c r.data.toList n = 4 := by unfold putSQ; rw [if_neg (by rw [h]; simp)]
    have hl : putSL c r.data.toList n = [] := by unfold putSL; rw [hq]; rfl
    rw [hq, hl]
    exact rputStatus_bad c r n w hr h
  · exact rputStatus_good c r n w hr h
end
end Go.Proofs.YtinfflceglgneaaDoor
