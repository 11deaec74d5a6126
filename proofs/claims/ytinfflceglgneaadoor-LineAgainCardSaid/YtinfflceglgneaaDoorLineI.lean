/- The document's own answers on replies' lines, and on lines that are put. -/
import Derived.Test.YtinfflceglgneaaDoorLineH
namespace Go.Proofs.YtinfflceglgneaaDoor
open Go.RowKit

/-- what is handed back of a reply's line -/
abbrev staV (s : List UInt8) : Value := .tuple #[.int .i64 (staC s), .string (bs (staR s)), .int .i64 (staN s), .int .i64 (staE s)]
theorem staV_err {s : List UInt8} {k : Int} (hk : k ≠ 0) (h : staE s = k) : Ending.returned (.tuple #[.int .i64 0, .string ⟨#[]⟩, .int .i64 0, .int .i64 k]) = .returned (staV s) := by
  have h0 : staE s ≠ 0 := by rw [h]; exact hk
  obtain ⟨a, b, c⟩ := sta_zero h0
  rw [staV, a, b, c, h]; rfl
theorem staV_ok {s r : List UInt8} {c n : Int} (h : staE s = 0 ∧ staC s = c ∧ staR s = r ∧ staN s = n) {b : ByteArray} (hb : b = bs r) {k j : Int} (hk : k = n) (hj : j = c) : Ending.returned (.tuple #[.int .i64 j, .string b, .int .i64 k, .int .i64 0]) = .returned (staV s) := by
  obtain ⟨h0, h1, h2, h3⟩ := h
  rw [staV, h0, h1, h2, h3, hb, hk, hj]
theorem sta_no {s : List UInt8} (h : s.length ≤ 2048) (hn : isSt s = false) : staE s = 4 := sta_none h fun d1 d2 a b c r hr => by
  have := isSt_of hr
  rw [hn] at this; cases this
theorem isSt_eq (s : ByteArray) (h : 13 ≤ s.size) : isSt s.data.toList = (isVer (s.extract 0 8).data.toList && ((s[8].toNat : Int) == 32) && decide (49 ≤ (s[9].toNat : Int)) && decide ((s[9].toNat : Int) ≤ 53) && digI (s[10].toNat : Int) && digI (s[11].toNat : Int) && ((s[12].toNat : Int) == 32) && (s.extract 13 s.size).data.toList.all mayB) := by
  have hl : 13 ≤ s.data.toList.length := by rw [← size_len]; exact h
  unfold isSt
  rw [decide_eq_true hl, at_getD (show 8 < s.size from by omega), at_getD (show 9 < s.size from by omega), at_getD (show 10 < s.size from by omega), at_getD (show 11 < s.size from by omega), at_getD (show 12 < s.size from by omega), Lib.extract_from_zero, Lib.extract_to_end, Bool.true_and]; rfl
section
variable (s : ByteArray) (w : World)
set_option maxRecDepth 100000 in
set_option maxHeartbeats 1000000 in
theorem rstatus_long (h : 2048 < s.size) (hs : s.size ≤ 1048576) :
    Calls Tryd.prog 13 #[.string s] w fun e w' => e = .returned (staV s.data.toList) ∧ ∃ k, w' = w.drewN k := by
  have HE : Hid (staE s.data.toList = 3) := sta_long (by rw [← size_len]; exact h)
  go_enter Tryd.func13, Tryd.ntmps13
  go_wp2_with fail
  (try simp only [Exit.inBlock, Exit.then])
  refine bodyPost_ret (results_tmp4 rfl _ _ _) rfl ?_
  exact ⟨staV_err (by decide) HE.out, 0, rfl⟩

set_option maxRecDepth 100000 in
set_option maxHeartbeats 1000000 in
theorem rstatus_short (h : s.size < 13) :
    Calls Tryd.prog 13 #[.string s] w fun e w' => e = .returned (staV s.data.toList) ∧ ∃ k, w' = w.drewN k := by
  have HE : Hid (staE s.data.toList = 4) := sta_no (by rw [← size_len]; omega) (by unfold isSt; rw [← size_len, decide_eq_false (by omega)]; rfl)
  go_enter Tryd.func13, Tryd.ntmps13
  go_wp2_with fail
  (try simp only [Exit.inBlock, Exit.then])
  refine bodyPost_ret (results_tmp4 rfl _ _ _) rfl ?_
  exact ⟨staV_err (by decide) HE.out, 0, rfl⟩

set_option maxRecDepth 100000 in
set_option maxHeartbeats 1000000 in
theorem rstatus_v (h : 13 ≤ s.size) (hs : s.size ≤ 2048)  (h1 : isVer (s.extract 0 8).data.toList = false) :
    Calls Tryd.prog 13 #[.string s] w fun e w' => e = .returned (staV s.data.toList) ∧ ∃ k, w' = w.drewN k := by
  have HE : Hid (staE s.data.toList = 4) := sta_no (by rw [← size_len]; exact hs) (by rw [isSt_eq s h, h1]; simp)
  have H1 := Lib.hid h1; clear h1
  go_enter Tryd.func13, Tryd.ntmps13
  go_wp2_with fail
  refine (rversion_any _ _).mono ?_
  rw [H1.out]
  rintro e w' ⟨rfl, rfl⟩
  go_wp2_with fail
  (try simp only [Exit.inBlock, Exit.then])
  refine bodyPost_ret (results_tmp4 rfl _ _ _) rfl ?_
  exact ⟨staV_err (by decide) HE.out, 0, rfl⟩

set_option maxRecDepth 100000 in
set_option maxHeartbeats 1000000 in
theorem rstatus_8 (h : 13 ≤ s.size) (k8 : 8 < s.size) (hs : s.size ≤ 2048) (h1 : isVer (s.extract 0 8).data.toList = true) (h2 : ((s[8].toNat : Int) == 32) = false) :
    Calls Tryd.prog 13 #[.string s] w fun e w' => e = .returned (staV s.data.toList) ∧ ∃ k, w' = w.drewN k := by
  have HE : Hid (staE s.data.toList = 4) := sta_no (by rw [← size_len]; exact hs) (by rw [isSt_eq s h, h1, h2]; simp)
  have z0 : decide ((s.size : Int) < 13) = false := decide_eq_false (by omega)
  have g2 : ((s[8].toNat : Int) != 32) = true := by rw [bne, h2]; rfl
  have H1 := Lib.hid h1; clear h1
  go_enter Tryd.func13, Tryd.ntmps13
  go_wp2_with fail
  refine (rversion_any _ _).mono ?_
  rw [H1.out]
  rintro e w' ⟨rfl, rfl⟩
  go_wp2_with fail
  (try simp only [Exit.inBlock, Exit.then])
  refine bodyPost_ret (results_tmp4 rfl _ _ _) rfl ?_
  exact ⟨staV_err (by decide) HE.out, 0, rfl⟩

set_option maxRecDepth 100000 in
set_option maxHeartbeats 1000000 in
theorem rstatus_a (h : 13 ≤ s.size) (k8 : 8 < s.size) (k9 : 9 < s.size) (hs : s.size ≤ 2048) (h1 : isVer (s.extract 0 8).data.toList = true) (h2 : ((s[8].toNat : Int) == 32) = true) (h3 : (s[9].toNat : Int) < 49) :
    Calls Tryd.prog 13 #[.string s] w fun e w' => e = .returned (staV s.data.toList) ∧ ∃ k, w' = w.drewN k := by
  have HE : Hid (staE s.data.toList = 4) := sta_no (by rw [← size_len]; exact hs) (by rw [isSt_eq s h, h1, h2, decide_eq_false (show ¬ 49 ≤ (s[9].toNat : Int) from by omega)]; simp)
  have z0 : decide ((s.size : Int) < 13) = false := decide_eq_false (by omega)
  have g2 : ((s[8].toNat : Int) != 32) = false := by rw [bne, h2]; rfl
  have H1 := Lib.hid h1; clear h1
  go_enter Tryd.func13, Tryd.ntmps13
  go_wp2_with fail
  refine (rversion_any _ _).mono ?_
  rw [H1.out]
  rintro e w' ⟨rfl, rfl⟩
  go_wp2_with fail
  (try simp only [Exit.inBlock, Exit.then])
  refine bodyPost_ret (results_tmp4 rfl _ _ _) rfl ?_
  exact ⟨staV_err (by decide) HE.out, 0, rfl⟩

set_option maxRecDepth 100000 in
set_option maxHeartbeats 1000000 in
theorem rstatus_b (h : 13 ≤ s.size) (k8 : 8 < s.size) (k9 : 9 < s.size) (hs : s.size ≤ 2048) (h1 : isVer (s.extract 0 8).data.toList = true) (h2 : ((s[8].toNat : Int) == 32) = true) (h3 : 49 ≤ (s[9].toNat : Int)) (h4 : 53 < (s[9].toNat : Int)) :
    Calls Tryd.prog 13 #[.string s] w fun e w' => e = .returned (staV s.data.toList) ∧ ∃ k, w' = w.drewN k := by
  have HE : Hid (staE s.data.toList = 4) := sta_no (by rw [← size_len]; exact hs) (by rw [isSt_eq s h, h1, h2, decide_eq_true h3, decide_eq_false (show ¬ (s[9].toNat : Int) ≤ 53 from by omega)]; simp)
  have z0 : decide ((s.size : Int) < 13) = false := decide_eq_false (by omega)
  have z1 : decide ((s[9].toNat : Int) < 49) = false := decide_eq_false (by omega)
  have g2 : ((s[8].toNat : Int) != 32) = false := by rw [bne, h2]; rfl
  have H1 := Lib.hid h1; clear h1
  go_enter Tryd.func13, Tryd.ntmps13
  go_wp2_with fail
  refine (rversion_any _ _).mono ?_
  rw [H1.out]
  rintro e w' ⟨rfl, rfl⟩
  go_wp2_with fail
  (try simp only [Exit.inBlock, Exit.then])
  refine bodyPost_ret (results_tmp4 rfl _ _ _) rfl ?_
  exact ⟨staV_err (by decide) HE.out, 0, rfl⟩

set_option maxRecDepth 100000 in
set_option maxHeartbeats 1000000 in
theorem rstatus_c (h : 13 ≤ s.size) (k8 : 8 < s.size) (k9 : 9 < s.size) (k10 : 10 < s.size) (hs : s.size ≤ 2048) (h1 : isVer (s.extract 0 8).data.toList = true) (h2 : ((s[8].toNat : Int) == 32) = true) (h3 : 49 ≤ (s[9].toNat : Int)) (h4 : (s[9].toNat : Int) ≤ 53) (h5 : digI (s[10].toNat : Int) = false) :
    Calls Tryd.prog 13 #[.string s] w fun e w' => e = .returned (staV s.data.toList) ∧ ∃ k, w' = w.drewN k := by
  have HE : Hid (staE s.data.toList = 4) := sta_no (by rw [← size_len]; exact hs) (by rw [isSt_eq s h, h1, h2, decide_eq_true h3, decide_eq_true h4, h5]; simp)
  have z0 : decide ((s.size : Int) < 13) = false := decide_eq_false (by omega)
  have z1 : decide ((s[9].toNat : Int) < 49) = false := decide_eq_false (by omega)
  have z2 : decide (53 < (s[9].toNat : Int)) = false := decide_eq_false (by omega)
  have g2 : ((s[8].toNat : Int) != 32) = false := by rw [bne, h2]; rfl
  have H1 := Lib.hid h1; clear h1
  have H5 := Lib.hid h5; clear h5
  go_enter Tryd.func13, Tryd.ntmps13
  go_wp2_with fail
  refine (rversion_any _ _).mono ?_
  rw [H1.out]
  rintro e w' ⟨rfl, rfl⟩
  go_wp2_with fail
  refine (rdigit_any _ _).mono ?_
  rw [H5.out]
  rintro e w' ⟨rfl, rfl⟩
  go_wp2_with fail
  (try simp only [Exit.inBlock, Exit.then])
  refine bodyPost_ret (results_tmp4 rfl _ _ _) rfl ?_
  exact ⟨staV_err (by decide) HE.out, 0, rfl⟩

set_option maxRecDepth 100000 in
set_option maxHeartbeats 1000000 in
theorem rstatus_d (h : 13 ≤ s.size) (k8 : 8 < s.size) (k9 : 9 < s.size) (k10 : 10 < s.size) (k11 : 11 < s.size) (hs : s.size ≤ 2048) (h1 : isVer (s.extract 0 8).data.toList = true) (h2 : ((s[8].toNat : Int) == 32) = true) (h3 : 49 ≤ (s[9].toNat : Int)) (h4 : (s[9].toNat : Int) ≤ 53) (h5 : digI (s[10].toNat : Int) = true) (h6 : digI (s[11].toNat : Int) = false) :
    Calls Tryd.prog 13 #[.string s] w fun e w' => e = .returned (staV s.data.toList) ∧ ∃ k, w' = w.drewN k := by
  have HE : Hid (staE s.data.toList = 4) := sta_no (by rw [← size_len]; exact hs) (by rw [isSt_eq s h, h1, h2, decide_eq_true h3, decide_eq_true h4, h5, h6]; simp)
  have z0 : decide ((s.size : Int) < 13) = false := decide_eq_false (by omega)
  have z1 : decide ((s[9].toNat : Int) < 49) = false := decide_eq_false (by omega)
  have z2 : decide (53 < (s[9].toNat : Int)) = false := decide_eq_false (by omega)
  have g2 : ((s[8].toNat : Int) != 32) = false := by rw [bne, h2]; rfl
  have H1 := Lib.hid h1; clear h1
  have H5 := Lib.hid h5; clear h5
  have H6 := Lib.hid h6; clear h6
  go_enter Tryd.func13, Tryd.ntmps13
  go_wp2_with fail
  refine (rversion_any _ _).mono ?_
  rw [H1.out]
  rintro e w' ⟨rfl, rfl⟩
  go_wp2_with fail
  refine (rdigit_any _ _).mono ?_
  rw [H5.out]
  rintro e w' ⟨rfl, rfl⟩
  go_wp2_with fail
  refine (rdigit_any _ _).mono ?_
  rw [H6.out]
  rintro e w' ⟨rfl, rfl⟩
  go_wp2_with fail
  (try simp only [Exit.inBlock, Exit.then])
  refine bodyPost_ret (results_tmp4 rfl _ _ _) rfl ?_
  exact ⟨staV_err (by decide) HE.out, 0, rfl⟩

set_option maxRecDepth 100000 in
set_option maxHeartbeats 1000000 in
theorem rstatus_e (h : 13 ≤ s.size) (k8 : 8 < s.size) (k9 : 9 < s.size) (k10 : 10 < s.size) (k11 : 11 < s.size) (k12 : 12 < s.size) (hs : s.size ≤ 2048) (h1 : isVer (s.extract 0 8).data.toList = true) (h2 : ((s[8].toNat : Int) == 32) = true) (h3 : 49 ≤ (s[9].toNat : Int)) (h4 : (s[9].toNat : Int) ≤ 53) (h5 : digI (s[10].toNat : Int) = true) (h6 : digI (s[11].toNat : Int) = true) (h7 : ((s[12].toNat : Int) == 32) = false) :
    Calls Tryd.prog 13 #[.string s] w fun e w' => e = .returned (staV s.data.toList) ∧ ∃ k, w' = w.drewN k := by
  have HE : Hid (staE s.data.toList = 4) := sta_no (by rw [← size_len]; exact hs) (by rw [isSt_eq s h, h1, h2, decide_eq_true h3, decide_eq_true h4, h5, h6, h7]; simp)
  have z0 : decide ((s.size : Int) < 13) = false := decide_eq_false (by omega)
  have z1 : decide ((s[9].toNat : Int) < 49) = false := decide_eq_false (by omega)
  have z2 : decide (53 < (s[9].toNat : Int)) = false := decide_eq_false (by omega)
  have g2 : ((s[8].toNat : Int) != 32) = false := by rw [bne, h2]; rfl
  have g7 : ((s[12].toNat : Int) != 32) = true := by rw [bne, h7]; rfl
  have H1 := Lib.hid h1; clear h1
  have H5 := Lib.hid h5; clear h5
  have H6 := Lib.hid h6; clear h6
  go_enter Tryd.func13, Tryd.ntmps13
  go_wp2_with fail
  refine (rversion_any _ _).mono ?_
  rw [H1.out]
  rintro e w' ⟨rfl, rfl⟩
  go_wp2_with fail
  refine (rdigit_any _ _).mono ?_
  rw [H5.out]
  rintro e w' ⟨rfl, rfl⟩
  go_wp2_with fail
  refine (rdigit_any _ _).mono ?_
  rw [H6.out]
  rintro e w' ⟨rfl, rfl⟩
  go_wp2_with fail
  (try simp only [Exit.inBlock, Exit.then])
  refine bodyPost_ret (results_tmp4 rfl _ _ _) rfl ?_
  exact ⟨staV_err (by decide) HE.out, 0, rfl⟩

set_option maxRecDepth 100000 in
set_option maxHeartbeats 1000000 in
theorem rstatus_f (h : 13 ≤ s.size) (k8 : 8 < s.size) (k9 : 9 < s.size) (k10 : 10 < s.size) (k11 : 11 < s.size) (k12 : 12 < s.size) (hs : s.size ≤ 2048) (h1 : isVer (s.extract 0 8).data.toList = true) (h2 : ((s[8].toNat : Int) == 32) = true) (h3 : 49 ≤ (s[9].toNat : Int)) (h4 : (s[9].toNat : Int) ≤ 53) (h5 : digI (s[10].toNat : Int) = true) (h6 : digI (s[11].toNat : Int) = true) (h7 : ((s[12].toNat : Int) == 32) = true) (h8 : (s.extract 13 s.size).data.toList.all mayB = false) :
    Calls Tryd.prog 13 #[.string s] w fun e w' => e = .returned (staV s.data.toList) ∧ ∃ k, w' = w.drewN k := by
  have HE : Hid (staE s.data.toList = 4) := sta_no (by rw [← size_len]; exact hs) (by rw [isSt_eq s h, h1, h2, decide_eq_true h3, decide_eq_true h4, h5, h6, h7, h8]; simp)
  have z0 : decide ((s.size : Int) < 13) = false := decide_eq_false (by omega)
  have z1 : decide ((s[9].toNat : Int) < 49) = false := decide_eq_false (by omega)
  have z2 : decide (53 < (s[9].toNat : Int)) = false := decide_eq_false (by omega)
  have g2 : ((s[8].toNat : Int) != 32) = false := by rw [bne, h2]; rfl
  have g7 : ((s[12].toNat : Int) != 32) = false := by rw [bne, h7]; rfl
  have H1 := Lib.hid h1; clear h1
  have H5 := Lib.hid h5; clear h5
  have H6 := Lib.hid h6; clear h6
  have H8 := Lib.hid h8; clear h8
  go_enter Tryd.func13, Tryd.ntmps13
  go_wp2_with fail
  refine (rversion_any _ _).mono ?_
  rw [H1.out]
  rintro e w' ⟨rfl, rfl⟩
  go_wp2_with fail
  refine (rdigit_any _ _).mono ?_
  rw [H5.out]
  rintro e w' ⟨rfl, rfl⟩
  go_wp2_with fail
  refine (rdigit_any _ _).mono ?_
  rw [H6.out]
  rintro e w' ⟨rfl, rfl⟩
  go_wp2_with fail
  refine (rreason_any _ _ (by unfold maxLen; simp; omega)).mono ?_
  rw [H8.out]
  rintro e w' ⟨rfl, rfl⟩
  go_wp2_with fail
  (try simp only [Exit.inBlock, Exit.then])
  refine bodyPost_ret (results_tmp4 rfl _ _ _) rfl ?_
  exact ⟨staV_err (by decide) HE.out, 0, rfl⟩

set_option maxRecDepth 100000 in
set_option maxHeartbeats 1000000 in
theorem rstatus_good (h : 13 ≤ s.size) (k8 : 8 < s.size) (k9 : 9 < s.size) (k10 : 10 < s.size) (k11 : 11 < s.size) (k12 : 12 < s.size) (hs : s.size ≤ 2048) (k5 : 5 < s.size) (h1 : isVer (s.extract 0 8).data.toList = true) (h2 : ((s[8].toNat : Int) == 32) = true) (h3 : 49 ≤ (s[9].toNat : Int)) (h4 : (s[9].toNat : Int) ≤ 53) (h5 : digI (s[10].toNat : Int) = true) (h6 : digI (s[11].toNat : Int) = true) (h7 : ((s[12].toNat : Int) == 32) = true) (h8 : (s.extract 13 s.size).data.toList.all mayB = true) :
    Calls Tryd.prog 13 #[.string s] w fun e w' => e = .returned (staV s.data.toList) ∧ ∃ k, w' = w.drewN k := by
  have hI := isSta_of (s := s.data.toList) (by rw [isSt_eq s h, h1, h2, decide_eq_true h3, decide_eq_true h4, h5, h6, h7, h8]; rfl)
  have k7 : 7 < s.size := by omega
  have hx : 7 < (s.extract 0 8).size := by rw [ByteArray.size_extract]; omega
  have hm : (s.extract 0 8)[7] = s[7] := by
    rw [← at_getD hx, ← at_getD k7, Lib.extract_from_zero]; simp [List.getD_eq_getElem?_getD]
  have HM := Lib.hid hm
  clear hm
  rw [at_getD k5, at_getD k7, at_getD k9, at_getD k10, at_getD k11] at hI
  have h48 : s.data.toList.length ≤ 2048 := by rw [← size_len]; exact hs
  have d10 : 48 ≤ (s[10].toNat : Int) ∧ (s[10].toNat : Int) ≤ 57 := by unfold digI at h5; simpa using h5
  have d11 : 48 ≤ (s[11].toNat : Int) ∧ (s[11].toNat : Int) ≤ 57 := by unfold digI at h6; simpa using h6
  obtain ⟨p10, q10⟩ := d10
  obtain ⟨p11, q11⟩ := d11
  have z0 : decide ((s.size : Int) < 13) = false := decide_eq_false (by omega)
  have z1 : decide ((s[9].toNat : Int) < 49) = false := decide_eq_false (by omega)
  have z2 : decide (53 < (s[9].toNat : Int)) = false := decide_eq_false (by omega)
  have g2 : ((s[8].toNat : Int) != 32) = false := by rw [bne, h2]; rfl
  have g7 : ((s[12].toNat : Int) != 32) = false := by rw [bne, h7]; rfl
  have H1 := Lib.hid h1; clear h1
  have H5 := Lib.hid h5; clear h5
  have H6 := Lib.hid h6; clear h6
  have H8 := Lib.hid h8; clear h8
  by_cases g1 : s[5].toNat = 49
  · have b1 : ((s[5].toNat : Int) != 49) = false := by rw [bne_eq_false_iff_eq]; omega
    have HE := Lib.hid (sta_ok h48 hI g1)
    clear g1 hI h48
    go_enter Tryd.func13, Tryd.ntmps13
    go_wp2_with fail
    refine (rversion_any _ _).mono ?_
    rw [H1.out]
    rintro e w' ⟨rfl, rfl⟩
    go_wp2_with fail
    refine (rdigit_any _ _).mono ?_
    rw [H5.out]
    rintro e w' ⟨rfl, rfl⟩
    go_wp2_with fail
    refine (rdigit_any _ _).mono ?_
    rw [H6.out]
    rintro e w' ⟨rfl, rfl⟩
    go_wp2_with fail
    refine (rreason_any _ _ (by unfold maxLen; simp; omega)).mono ?_
    rw [H8.out]
    rintro e w' ⟨rfl, rfl⟩
    go_wp2_with fail
    have w9 : IntKind.u8.wrap ((s[9].toNat : Int) - 48) = (s[9].toNat : Int) - 48 := IntWalk.u8_in _ (by omega)
    have w10 : IntKind.u8.wrap ((s[10].toNat : Int) - 48) = (s[10].toNat : Int) - 48 := IntWalk.u8_in _ (by omega)
    have w11 : IntKind.u8.wrap ((s[11].toNat : Int) - 48) = (s[11].toNat : Int) - 48 := IntWalk.u8_in _ (by omega)
    go_quiet ((go_at_call 33; exact Calls.quiet_of_same (rminor_same _ _ (by unfold maxLen; rw [ByteArray.size_extract]; omega) hx)))
    go_wp2_with fail
    (try simp only [Exit.inBlock, Exit.then])
    refine bodyPost_ret (results_tmp4 rfl _ _ _) rfl ?_
    exact ⟨staV_ok HE.out (bs_of (Lib.extract_to_end s 13)) (congrArg minB HM.out) rfl, _, rfl⟩
  · have b1 : ((s[5].toNat : Int) != 49) = true := by rw [bne_iff_ne]; omega
    have HE : Hid (staE s.data.toList = 9) := sta_ver h48 hI g1
    clear g1 hI h48
    go_enter Tryd.func13, Tryd.ntmps13
    go_wp2_with fail
    refine (rversion_any _ _).mono ?_
    rw [H1.out]
    rintro e w' ⟨rfl, rfl⟩
    go_wp2_with fail
    refine (rdigit_any _ _).mono ?_
    rw [H5.out]
    rintro e w' ⟨rfl, rfl⟩
    go_wp2_with fail
    refine (rdigit_any _ _).mono ?_
    rw [H6.out]
    rintro e w' ⟨rfl, rfl⟩
    go_wp2_with fail
    refine (rreason_any _ _ (by unfold maxLen; simp; omega)).mono ?_
    rw [H8.out]
    rintro e w' ⟨rfl, rfl⟩
    go_wp2_with fail
    (try simp only [Exit.inBlock, Exit.then])
    refine bodyPost_ret (results_tmp4 rfl _ _ _) rfl ?_
    exact ⟨staV_err (by decide) HE.out, 0, rfl⟩
end
end Go.Proofs.YtinfflceglgneaaDoor
