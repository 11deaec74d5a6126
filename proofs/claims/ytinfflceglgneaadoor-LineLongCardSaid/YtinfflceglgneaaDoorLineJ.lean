/- The document's own answers on lines, at every text: what is read, what is put. -/
import Derived.Test.YtinfflceglgneaaDoorLineI
namespace Go.Proofs.YtinfflceglgneaaDoor
open Go.RowKit

theorem rstatus_any (s : ByteArray) (w : World) (hs : s.size ≤ 1048576) :
    Calls Tryd.prog 13 #[.string s] w fun e w' => e = .returned (staV s.data.toList) ∧ Below w.heap.size w w' := by
  have key : Calls Tryd.prog 13 #[.string s] w fun e w' => e = .returned (staV s.data.toList) ∧ ∃ k, w' = w.drewN k := by
    rcases Nat.lt_or_ge 2048 s.size with g1 | g1
    · exact rstatus_long s w g1 hs
    · rcases Nat.lt_or_ge s.size 13 with g2 | g2
      · exact rstatus_short s w g2
      · have k5 : 5 < s.size := by omega
        have k8 : 8 < s.size := by omega
        have k9 : 9 < s.size := by omega
        have k10 : 10 < s.size := by omega
        have k11 : 11 < s.size := by omega
        have k12 : 12 < s.size := by omega
        cases h1 : isVer (s.extract 0 8).data.toList
        · exact rstatus_v s w g2 g1 h1
        · cases h2 : ((s[8].toNat : Int) == 32)
          · exact rstatus_8 s w g2 k8 g1 h1 h2
          · rcases Int.lt_or_le (s[9].toNat : Int) 49 with h3 | h3
            · exact rstatus_a s w g2 k8 k9 g1 h1 h2 h3
            · rcases Int.lt_or_le 53 (s[9].toNat : Int) with h4 | h4
              · exact rstatus_b s w g2 k8 k9 g1 h1 h2 h3 h4
              · cases h5 : digI (s[10].toNat : Int)
                · exact rstatus_c s w g2 k8 k9 k10 g1 h1 h2 h3 h4 h5
                · cases h6 : digI (s[11].toNat : Int)
                  · exact rstatus_d s w g2 k8 k9 k10 k11 g1 h1 h2 h3 h4 h5 h6
                  · cases h7 : ((s[12].toNat : Int) == 32)
                    · exact rstatus_e s w g2 k8 k9 k10 k11 k12 g1 h1 h2 h3 h4 h5 h6 h7
                    · cases h8 : (s.extract 13 s.size).data.toList.all mayB
                      · exact rstatus_f s w g2 k8 k9 k10 k11 k12 g1 h1 h2 h3 h4 h5 h6 h7 h8
                      · exact rstatus_good s w g2 k8 k9 k10 k11 k12 g1 k5 h1 h2 h3 h4 h5 h6 h7 h8
  refine key.mono ?_
  rintro e w' ⟨rfl, k, rfl⟩
  exact ⟨rfl, below_drewN _ _ _⟩

theorem minor_bad {n : Int} (h : validM n = false) : (n != 0) = true ∧ (n != 1) = true := by
  unfold validM at h; simp at h
  exact ⟨by simpa using h.1, by simpa using h.2⟩
theorem minor_good {n : Int} (h : validM n = true) : (n != 0) = false ∨ ((n != 0) = true ∧ (n != 1) = false) := by
  unfold validM at h; simp at h
  rcases h with rfl | rfl
  · exact .inl rfl
  · exact .inr ⟨rfl, rfl⟩

section
variable (m t : ByteArray) (n : Int) (w : World) (hm : m.size ≤ 1048576) (ht : t.size ≤ 1048576)
include hm ht
set_option maxRecDepth 100000 in
set_option maxHeartbeats 400000 in
theorem rputRequest_bad (h : (token m.data.toList && target t.data.toList && validM n) = false) :
    Calls Tryd.prog 15 #[.string m, .string t, .int .i64 n] w fun e w' => e = .returned (.tuple #[.string ⟨#[]⟩, .int .i64 4]) ∧ w = w' := by
  cases h1 : token m.data.toList
  · have H1 := Lib.hid h1; clear h1 h
    go_enter Tryd.func15, Tryd.ntmps15
    go_wp2_with fail
    refine (rtoken_any m _ (by unfold maxLen; omega)).mono ?_
    rw [H1.out]
    rintro e w1 ⟨rfl, rfl⟩
    go_wp2_with fail
    go_ret2
    exact ⟨rfl, rfl⟩
  · cases h2 : target t.data.toList
    · have H1 := Lib.hid h1
      have H2 := Lib.hid h2
      clear h1 h2 h
      go_enter Tryd.func15, Tryd.ntmps15
      go_wp2_with fail
      refine (rtoken_any m _ (by unfold maxLen; omega)).mono ?_
      rw [H1.out]
      rintro e w1 ⟨rfl, rfl⟩
      go_wp2_with fail
      refine (rtarget_any t _ (by unfold maxLen; omega)).mono ?_
      rw [H2.out]
      rintro e w1 ⟨rfl, rfl⟩
      go_wp2_with fail
      go_ret2
      exact ⟨rfl, rfl⟩
    · obtain ⟨b0, b1⟩ := minor_bad (n := n) (by rw [h1, h2] at h; simpa using h)
      have H1 := Lib.hid h1
      have H2 := Lib.hid h2
      clear h1 h2 h
      go_enter Tryd.func15, Tryd.ntmps15
      go_wp2_with fail
      refine (rtoken_any m _ (by unfold maxLen; omega)).mono ?_
      rw [H1.out]
      rintro e w1 ⟨rfl, rfl⟩
      go_wp2_with fail
      refine (rtarget_any t _ (by unfold maxLen; omega)).mono ?_
      rw [H2.out]
      rintro e w1 ⟨rfl, rfl⟩
      go_wp2_with fail
      go_ret2
      exact ⟨rfl, rfl⟩

set_option maxRecDepth 100000 in
set_option maxHeartbeats 1000000 in
theorem rputRequest_good (h : (token m.data.toList && target t.data.toList && validM n) = true) :
    Calls Tryd.prog 15 #[.string m, .string t, .int .i64 n] w fun e w' => e = .returned (.tuple #[.string (bs (putRL m.data.toList t.data.toList n)), .int .i64 (putRQ m.data.toList t.data.toList n)]) ∧ w = w' := by
  have HQ : Hid (putRQ m.data.toList t.data.toList n = if 1024 < t.data.toList.length ∨ 2048 < (reqLine m.data.toList t.data.toList n).length then 3 else 0) := by
    show putRQ _ _ _ = _
    unfold putRQ; rw [if_pos h]
  rw [Bool.and_eq_true, Bool.and_eq_true] at h
  obtain ⟨⟨h1, h2⟩, h3⟩ := h
  have hv := verN_len n
  have hl := Lib.hid (reqLine_len m t n)
  have hT := Lib.hid (size_len t)
  have H1 := Lib.hid h1
  have H2 := Lib.hid h2
  have H3 := Lib.hid h3
  have hmg := minor_good h3
  clear h1 h2 h3
  by_cases c1 : 1024 < t.size
  · have HQ1 : Hid (putRQ m.data.toList t.data.toList n = 3) := by show _ = _; rw [HQ.out, if_pos (.inl (by rw [← hT.out]; exact c1))]
    rcases hmg with b0 | ⟨b0, b1⟩
    all_goals
      go_enter Tryd.func15, Tryd.ntmps15
      go_wp2_with fail
      refine (rtoken_any m _ (by unfold maxLen; omega)).mono ?_
      rw [H1.out]
      rintro e w1 ⟨rfl, rfl⟩
      go_wp2_with fail
      refine (rtarget_any t _ (by unfold maxLen; omega)).mono ?_
      rw [H2.out]
      rintro e w1 ⟨rfl, rfl⟩
      go_wp2_with fail
      refine (rversionOf_any n _ H3.out).mono ?_
      rintro e w1 ⟨rfl, rfl⟩
      go_wp2_with fail
      go_ret2
      exact ⟨ret_put (by unfold putRL; rw [HQ1.out]; rfl) HQ1.out.symm, rfl⟩
  · by_cases c2 : 2048 < m.size + 1 + t.size + 1 + 8
    · have HQ1 : Hid (putRQ m.data.toList t.data.toList n = 3) := by show _ = _; rw [HQ.out, if_pos (.inr (by rw [hl.out]; exact c2))]
      have c3 : (2048 : Int) < (m.size : Int) + 1 + t.size + 1 + 8 := by omega
      rcases hmg with b0 | ⟨b0, b1⟩
      all_goals
        go_enter Tryd.func15, Tryd.ntmps15
        go_wp2_with fail
        refine (rtoken_any m _ (by unfold maxLen; omega)).mono ?_
        rw [H1.out]
        rintro e w1 ⟨rfl, rfl⟩
        go_wp2_with fail
        refine (rtarget_any t _ (by unfold maxLen; omega)).mono ?_
        rw [H2.out]
        rintro e w1 ⟨rfl, rfl⟩
        go_wp2_with fail
        refine (rversionOf_any n _ H3.out).mono ?_
        rintro e w1 ⟨rfl, rfl⟩
        go_wp2_with fail
        go_ret2
        exact ⟨ret_put (by unfold putRL; rw [HQ1.out]; rfl) HQ1.out.symm, rfl⟩
    · have HQ1 : Hid (putRQ m.data.toList t.data.toList n = 0) := by show _ = _; rw [HQ.out, if_neg (by rw [hl.out, ← hT.out]; omega)]
      have c3 : ¬ (2048 : Int) < (m.size : Int) + 1 + t.size + 1 + 8 := by omega
      rcases hmg with b0 | ⟨b0, b1⟩
      all_goals
        go_enter Tryd.func15, Tryd.ntmps15
        go_wp2_with fail
        refine (rtoken_any m _ (by unfold maxLen; omega)).mono ?_
        rw [H1.out]
        rintro e w1 ⟨rfl, rfl⟩
        go_wp2_with fail
        refine (rtarget_any t _ (by unfold maxLen; omega)).mono ?_
        rw [H2.out]
        rintro e w1 ⟨rfl, rfl⟩
        go_wp2_with fail
        refine (rversionOf_any n _ H3.out).mono ?_
        rintro e w1 ⟨rfl, rfl⟩
        go_wp2_with fail
        go_ret2
        exact ⟨ret_put (by unfold putRL; rw [HQ1.out]; exact line_txt m t n) HQ1.out.symm, rfl⟩
theorem rputRequest_any :
    Calls Tryd.prog 15 #[.string m, .string t, .int .i64 n] w fun e w' => e = .returned (.tuple #[.string (bs (putRL m.data.toList t.data.toList n)), .int .i64 (putRQ m.data.toList t.data.toList n)]) ∧ w = w' := by
  cases h : (token m.data.toList && target t.data.toList && validM n)
  · have hq : putRQ m.data.toList t.data.toList n = 4 := by unfold putRQ; rw [if_neg (by rw [h]; simp)]
    have hl : putRL m.data.toList t.data.toList n = [] := by unfold putRL; rw [hq]; rfl
    rw [hq, hl]
    exact rputRequest_bad m t n w hm ht h
  · exact rputRequest_good m t n w hm ht h
end

/-- a text of three bytes, out of a slice literal -/
theorem three_back (w : World) (a b c : Int) (ha : 0 ≤ a ∧ a < 256) (hb : 0 ≤ b ∧ b < 256) (hc : 0 ≤ c ∧ c < 256) :
    (convert 42 9 (.slice (some ⟨w.heap.size, 0, none⟩) 3 3)).run Tryd.prog (w.alloc (.cells #[.int .u8 a, .int .u8 b, .int .u8 c] 5)) = .ok (.string (bs [UInt8.ofNat a.toNat, UInt8.ofNat b.toNat, UInt8.ofNat c.toNat])) (w.alloc (.cells #[.int .u8 a, .int .u8 b, .int .u8 c] 5)) := by
  have h : rowB (w.alloc (.cells #[.int .u8 a, .int .u8 b, .int .u8 c] 5)) w.heap.size 3 [UInt8.ofNat a.toNat, UInt8.ofNat b.toNat, UInt8.ofNat c.toNat] := by
    refine ⟨_, _, _, _, heap_alloc_new w _, .inr rfl, rfl, ?_⟩

    simp [Lib.byteCells]; omega
  exact h.back 3
end Go.Proofs.YtinfflceglgneaaDoor
