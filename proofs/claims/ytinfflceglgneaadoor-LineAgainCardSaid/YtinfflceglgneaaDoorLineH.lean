/- The document's own answers on lines, whole. -/
import Derived.Test.YtinfflceglgneaaDoorLineG
namespace Go.Proofs.YtinfflceglgneaaDoor
open Go.RowKit

theorem results_tmp4 {fn : Func} {t u v x : Tmp} (h : fn.results = #[.tmp t, .tmp u, .tmp v, .tmp x]) (tmps : Array Value) (P : Program) (w : World) :
    (results fn tmps).run P w = .ok (.tuple #[tmps.getD t undef, tmps.getD u undef, tmps.getD v undef, tmps.getD x undef]) w := by
  simp [results, h]
/-- what is handed back of a request's line -/
abbrev reqV (s : List UInt8) : Value := .tuple #[.string (bs (reqM s)), .string (bs (reqT s)), .int .i64 (reqN s), .int .i64 (reqE s)]
theorem reqV_err {s : List UInt8} {k : Int} (hk : k ≠ 0) (h : reqE s = k) : Ending.returned (.tuple #[.string ⟨#[]⟩, .string ⟨#[]⟩, .int .i64 0, .int .i64 k]) = .returned (reqV s) := by
  have h0 : reqE s ≠ 0 := by rw [h]; exact hk
  obtain ⟨a, b, c⟩ := req_zero h0
  rw [reqV, a, b, c, h]; rfl
theorem reqV_ok {s m t : List UInt8} {n : Int} (h : reqE s = 0 ∧ reqM s = m ∧ reqT s = t ∧ reqN s = n) {a b : ByteArray} (ha : a = bs m) (hb : b = bs t) {k : Int} (hk : k = n) : Ending.returned (.tuple #[.string a, .string b, .int .i64 k, .int .i64 0]) = .returned (reqV s) := by
  obtain ⟨h0, h1, h2, h3⟩ := h
  rw [reqV, h0, h1, h2, h3, ha, hb, hk]

theorem extract_mid (s : ByteArray) (a b : Nat) : (s.extract a b).data.toList = (s.data.toList.drop a).take (b - a) := by
  rw [← Lib.toList_data, Lib.extract_toList]
theorem extract_at (s : ByteArray) (a j : Nat) (h : j < (s.extract a s.size).size) (k : a + j < s.size) : (s.extract a s.size)[j] = s[a + j] := by
  rw [← at_getD h, ← at_getD k, Lib.extract_to_end]
  simp [List.getD_eq_getElem?_getD]
theorem cut_eq (s : ByteArray) (n k : Nat) (h : k < s.size) : cutAt s.data.toList n k = (((s[k].toNat : Int) == 32) && (token (s.extract 0 k).data.toList && target (s.extract (k + 1) n).data.toList)) := by
  unfold cutAt; rw [at_getD h, Lib.extract_from_zero, extract_mid, Bool.and_assoc]
theorem cut_next {s : List UInt8} {n k : Nat} (h : ∀ j, j < k → cutAt s n j = false) (hk : cutAt s n k = false) : ∀ j, j < k + 1 → cutAt s n j = false := fun j hj => by
  rcases Nat.lt_or_ge j k with h1 | h1
  · exact h j h1
  · obtain rfl : j = k := by omega
    exact hk
theorem rminor_same (s : ByteArray) (w : World) (hs : s.size ≤ maxLen) (h7 : 7 < s.size) :
    Calls Tryd.prog 33 #[.string s] w fun e w' => e = .returned (.int .i64 (minB s[7])) ∧ w' = w :=
  (rminor_any s w hs h7).mono fun _ _ h => ⟨h.1, h.2.symm⟩
section
variable (s : ByteArray) (w : World)
set_option maxRecDepth 100000 in
set_option maxHeartbeats 1000000 in
theorem rrequest_cut (n : Nat) (k0 : n < s.size) (HN : Hid (s.size = n + 9)) (h2048 : s.size ≤ 2048) (b32 : ((s[n].toNat : Int) != 32) = false) (hv : isVer (s.data.toList.drop (n + 1)) = true) :
    Calls Tryd.prog 11 #[.string s] w fun e w' => e = .returned (reqV s.data.toList) ∧ ∃ k, w' = w.drewN k := by
  have hL : Hid (s.data.toList.length = n + 9) := by show _ = _; rw [← size_len]; exact HN.out
  have h48 : Hid (s.data.toList.length ≤ 2048) := by show _ ≤ _; rw [← size_len]; exact h2048
  have hsz : (s.size : Int) - 9 = n := by have := HN.out; omega
  have HV := Lib.hid hv; clear hv
  have HB : Hid ((s[n].toNat : Int) = 32) := by show _ = _; rwa [bne_eq_false_iff_eq] at b32
  go_enter Tryd.func11, Tryd.ntmps11
  go_wp2_with fail
  refine (rversion_any _ _).mono ?_
  rw [Lib.extract_to_end, HV.out]
  rintro e w' ⟨rfl, rfl⟩
  go_wp2_with fail
  go_loop [7] (fun i => ∃ k : Nat, k ≤ n ∧ i = .int .i64 k ∧ Hid (∀ j, j < k → cutAt s.data.toList n j = false)) (fun i => n - (intOf i).toNat)
  case atStart => exact ⟨0, Nat.zero_le _, rfl, fun j hj => by omega⟩
  case round =>
    obtain ⟨k, hk, rfl, HT⟩ := hrel
    by_cases hlt : k < n
    · have kk : k < s.size := by omega
      have hc := cut_eq s n k kk
      cases c1 : ((s[k].toNat : Int) == 32)
      · have d1 : ((s[k].toNat : Int) != 32) = true := by rw [bne, c1]; rfl
        have HC : Hid (cutAt s.data.toList n k = false) := by show _ = _; rw [hc, c1]; rfl
        clear hc c1
        go_wp2_with fail
        go_round
        case rel => exact ⟨k + 1, by omega, by go_num, cut_next HT.out HC.out⟩
        case measure => simp [intOf]; omega
      · have d1 : ((s[k].toNat : Int) != 32) = false := by rw [bne, c1]; rfl
        rw [c1, Bool.true_and] at hc
        clear c1
        cases c2 : token (s.extract 0 k).data.toList
        · have HC : Hid (cutAt s.data.toList n k = false) := by show _ = _; rw [hc, c2]; rfl
          have H2 := Lib.hid c2
          clear hc c2
          go_wp2_with fail
          refine (rtoken_any _ _ (by unfold maxLen; simp; omega)).mono ?_
          rw [H2.out]
          rintro e w' ⟨rfl, rfl⟩
          go_wp2_with fail
          go_round
          case rel => exact ⟨k + 1, by omega, by go_num, cut_next HT.out HC.out⟩
          case measure => simp [intOf]; omega
        · have H2 := Lib.hid c2
          rw [c2, Bool.true_and] at hc
          clear c2
          cases c3 : target (s.extract (k + 1) n).data.toList
          · have HC : Hid (cutAt s.data.toList n k = false) := by show _ = _; rw [hc, c3]
            have H3 := Lib.hid c3
            clear hc c3
            go_wp2_with fail
            refine (rtoken_any _ _ (by unfold maxLen; simp; omega)).mono ?_
            rw [H2.out]
            rintro e w' ⟨rfl, rfl⟩
            go_wp2_with fail
            refine (rtarget_any _ _ (by unfold maxLen; simp; omega)).mono ?_
            rw [H3.out]
            rintro e w' ⟨rfl, rfl⟩
            go_wp2_with fail
            go_round
            case rel => exact ⟨k + 1, by omega, by go_num, cut_next HT.out HC.out⟩
            case measure => simp [intOf]; omega
          · have H3 := Lib.hid c3
            have HC : Hid (cutAt s.data.toList n k = true) := by show _ = _; rw [hc, c3]
            clear hc c3
            go_wp2_with fail
            refine (rtoken_any _ _ (by unfold maxLen; simp; omega)).mono ?_
            rw [H2.out]
            rintro e w' ⟨rfl, rfl⟩
            go_wp2_with fail
            refine (rtarget_any _ _ (by unfold maxLen; simp; omega)).mono ?_
            rw [H3.out]
            rintro e w' ⟨rfl, rfl⟩
            have hI := isReq_at hL.out hlt (by rw [at_getD k0]; exact HB.out) HV.out HC.out
            have k6 : n + 6 < s.size := by have := HN.out; omega
            have k8 : n + 8 < s.size := by have := HN.out; omega
            rw [at_getD k6, at_getD k8] at hI
            have HI := Lib.hid hI; clear hI
            have htl : ((s.data.toList.drop (k + 1)).take (n - (k + 1))).length = n - (k + 1) := by
              rw [List.length_take, List.length_drop]; have := hL.out; omega
            have HTL := Lib.hid htl; clear htl
            by_cases g1 : s[n + 6].toNat = 49
            · have b1 : ((s[n + 6].toNat : Int) != 49) = false := by rw [bne_eq_false_iff_eq]; omega
              by_cases g2 : 1024 < n - (k + 1)
              · have b2 : 1024 < (n : Int) - k - 1 := by omega
                have HE : Hid (reqE s.data.toList = 3) := req_uri h48.out HI.out g1 (by rw [HTL.out]; exact g2)
                clear g1 g2
                go_wp2_with fail
                (try simp only [Exit.inBlock, Exit.then])
                refine bodyPost_ret (results_tmp4 rfl _ _ _) rfl ?_
                exact ⟨reqV_err (by decide) HE.out, 0, rfl⟩
              · have b2 : ¬ 1024 < (n : Int) - k - 1 := by omega
                have HE := Lib.hid (req_ok h48.out HI.out g1 (by rw [HTL.out]; omega))
                clear g1 g2
                go_wp2_with fail
                have he8 : (s.extract (n + 1) s.size).size = 8 := by have := HN.out; rw [ByteArray.size_extract]; omega
                have HX := Lib.hid he8
                clear he8
                go_quiet ((go_at_call 33; exact Calls.quiet_of_same (rminor_same _ _ (by unfold maxLen; rw [HX.out]; omega) (by rw [HX.out]; omega))))
                go_wp2_with fail
                (try simp only [Exit.inBlock, Exit.then])
                refine bodyPost_ret (results_tmp4 rfl _ _ _) rfl ?_
                exact ⟨reqV_ok HE.out (bs_of (Lib.extract_from_zero s k)) (bs_of (extract_mid s (k + 1) n)) (congrArg minB (extract_at s (n + 1) 7 _ (by omega))), _, rfl⟩
            · have b1 : ((s[n + 6].toNat : Int) != 49) = true := by rw [bne_iff_ne]; omega
              have HE : Hid (reqE s.data.toList = 9) := req_ver h48.out HI.out g1
              clear g1
              go_wp2_with fail
              (try simp only [Exit.inBlock, Exit.then])
              refine bodyPost_ret (results_tmp4 rfl _ _ _) rfl ?_
              exact ⟨reqV_err (by decide) HE.out, 0, rfl⟩
    · have HC : Hid (reqE s.data.toList = 4) := req_none h48.out fun m t d1 d2 hr => by
        obtain ⟨n', e1, _, _, e4, e5⟩ := isReq_cut hr
        have := hL.out
        obtain rfl : n' = n := by omega
        have := HT.out m.length (by omega)
        rw [this] at e5; cases e5
      go_wp2_with fail
      (try simp only [Exit.inBlock, Exit.then])
      refine bodyPost_ret (results_tmp4 rfl _ _ _) rfl ?_
      exact ⟨reqV_err (by decide) HC.out, 0, rfl⟩

set_option maxRecDepth 100000 in
set_option maxHeartbeats 1000000 in
theorem rrequest_long (h : 2048 < s.size) (hs : s.size ≤ 1048576) :
    Calls Tryd.prog 11 #[.string s] w fun e w' => e = .returned (reqV s.data.toList) ∧ ∃ k, w' = w.drewN k := by
  have HE : Hid (reqE s.data.toList = 3) := req_long (by rw [← size_len]; exact h)
  go_enter Tryd.func11, Tryd.ntmps11
  go_wp2_with fail
  (try simp only [Exit.inBlock, Exit.then])
  refine bodyPost_ret (results_tmp4 rfl _ _ _) rfl ?_
  exact ⟨reqV_err (by decide) HE.out, 0, rfl⟩

set_option maxRecDepth 100000 in
set_option maxHeartbeats 1000000 in
theorem rrequest_short (h : s.size < 9) :
    Calls Tryd.prog 11 #[.string s] w fun e w' => e = .returned (reqV s.data.toList) ∧ ∃ k, w' = w.drewN k := by
  have HE : Hid (reqE s.data.toList = 4) := req_none (by rw [← size_len]; omega) fun m t d1 d2 hr => by
    obtain ⟨n', e1, _⟩ := isReq_cut hr
    rw [← size_len] at e1; omega
  have h2 : (s.size : Int) - 9 < 0 := by omega
  have h3 : ¬ 2048 < (s.size : Int) := by omega
  go_enter Tryd.func11, Tryd.ntmps11
  go_wp2_with fail
  (try simp only [Exit.inBlock, Exit.then])
  refine bodyPost_ret (results_tmp4 rfl _ _ _) rfl ?_
  exact ⟨reqV_err (by decide) HE.out, 0, rfl⟩

set_option maxRecDepth 100000 in
set_option maxHeartbeats 1000000 in
theorem rrequest_blank (n : Nat) (k0 : n < s.size) (HN : Hid (s.size = n + 9)) (h2048 : s.size ≤ 2048) (b32 : ((s[n].toNat : Int) != 32) = true) :
    Calls Tryd.prog 11 #[.string s] w fun e w' => e = .returned (reqV s.data.toList) ∧ ∃ k, w' = w.drewN k := by
  have hne := bne_iff_ne.1 b32
  have HE : Hid (reqE s.data.toList = 4) := req_none (by rw [← size_len]; exact h2048) fun m t d1 d2 hr => by
    obtain ⟨n', e1, e2, _⟩ := isReq_cut hr
    have := HN.out
    rw [← size_len] at e1
    obtain rfl : n' = n := by omega
    rw [at_getD k0] at e2; exact hne e2
  clear hne
  have hsz : (s.size : Int) - 9 = n := by have := HN.out; omega
  go_enter Tryd.func11, Tryd.ntmps11
  go_wp2_with fail
  (try simp only [Exit.inBlock, Exit.then])
  refine bodyPost_ret (results_tmp4 rfl _ _ _) rfl ?_
  exact ⟨reqV_err (by decide) HE.out, 0, rfl⟩

set_option maxRecDepth 100000 in
set_option maxHeartbeats 1000000 in
theorem rrequest_ver (n : Nat) (k0 : n < s.size) (HN : Hid (s.size = n + 9)) (h2048 : s.size ≤ 2048) (b32 : ((s[n].toNat : Int) != 32) = false) (hv : isVer (s.data.toList.drop (n + 1)) = false) :
    Calls Tryd.prog 11 #[.string s] w fun e w' => e = .returned (reqV s.data.toList) ∧ ∃ k, w' = w.drewN k := by
  have HE : Hid (reqE s.data.toList = 4) := req_none (by rw [← size_len]; exact h2048) fun m t d1 d2 hr => by
    obtain ⟨n', e1, _, e3, _⟩ := isReq_cut hr
    have := HN.out
    rw [← size_len] at e1
    obtain rfl : n' = n := by omega
    rw [hv] at e3; cases e3
  have HV := Lib.hid hv; clear hv
  have hsz : (s.size : Int) - 9 = n := by have := HN.out; omega
  go_enter Tryd.func11, Tryd.ntmps11
  go_wp2_with fail
  refine (rversion_any _ _).mono ?_
  rw [Lib.extract_to_end, HV.out]
  rintro e w' ⟨rfl, rfl⟩
  go_wp2_with fail
  (try simp only [Exit.inBlock, Exit.then])
  refine bodyPost_ret (results_tmp4 rfl _ _ _) rfl ?_
  exact ⟨reqV_err (by decide) HE.out, 0, rfl⟩

theorem below_drewN (B : Nat) (w : World) (k : Nat) : Below B w (w.drewN k) := ⟨rfl, rfl, rfl, Nat.le_refl _, fun _ _ => rfl⟩
theorem rrequest_any (hs : s.size ≤ 1048576) :
    Calls Tryd.prog 11 #[.string s] w fun e w' => e = .returned (reqV s.data.toList) ∧ Below w.heap.size w w' := by
  have key : Calls Tryd.prog 11 #[.string s] w fun e w' => e = .returned (reqV s.data.toList) ∧ ∃ k, w' = w.drewN k := by
    rcases Nat.lt_or_ge 2048 s.size with h1 | h1
    · exact rrequest_long s w h1 hs
    · rcases Nat.lt_or_ge s.size 9 with h2 | h2
      · exact rrequest_short s w h2
      · obtain ⟨n, hn⟩ : ∃ n, s.size = n + 9 := ⟨s.size - 9, by omega⟩
        have k0 : n < s.size := by omega
        cases b32 : ((s[n].toNat : Int) != 32)
        · cases hv : isVer (s.data.toList.drop (n + 1))
          · exact rrequest_ver s w n k0 hn h1 b32 hv
          · exact rrequest_cut s w n k0 hn h1 b32 hv
        · exact rrequest_blank s w n k0 hn h1 b32
  refine key.mono ?_
  rintro e w' ⟨rfl, k, rfl⟩
  exact ⟨rfl, below_drewN _ _ _⟩
end
end Go.Proofs.YtinfflceglgneaaDoor
