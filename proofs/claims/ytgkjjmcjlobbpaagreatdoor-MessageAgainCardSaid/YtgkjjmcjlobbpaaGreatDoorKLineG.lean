/- The document's own answers on lines: versions, targets, reasons, lines that are put. -/
import Derived.Test.YtgkjjmcjlobbpaaGreatDoorKLineA
import Derived.Test.YtgkjjmcjlobbpaaGreatDoorKPlain
namespace Go.Proofs.YtgkjjmcjlobbpaaGreatDoor
open Go.RowKit

theorem len_posN (s : ByteArray) : decide (0 < s.size) = !s.data.toList.isEmpty := by
  rw [size_len]
  cases s.data.toList with
  | nil => rfl
  | cons a l => simp
set_option maxRecDepth 100000 in
set_option maxHeartbeats 400000 in
theorem rtarget_any (s : ByteArray) (w : World) (hs : s.size ≤ maxLen) :
    Calls Tryz.prog 64 #[.string s] w fun e w' => e = .returned (.bool (target s.data.toList)) ∧ w = w' := by
  unfold maxLen at hs
  go_enter Tryz.func64, Tryz.ntmps64
  go_wp2_with fail
  go_loop [3] (fun i => ∃ k : Nat, k ≤ s.size ∧ i = .int .i64 k ∧ Hid ((s.data.toList.take k).all visB = true)) (fun i => s.size - (intOf i).toNat)
  case atStart => exact ⟨0, Nat.zero_le _, rfl, rfl⟩
  case round =>
    obtain ⟨k, hk, rfl, HT⟩ := hrel
    by_cases hlt : k < s.size
    · cases hp : visB s[k]
      · have HC : Hid (target s.data.toList = false) := by show target _ = false; unfold target; rw [all_not s visB k hlt hp]; rfl
        have hv : (s[k].toNat : Int) < 33 ∨ (¬ (s[k].toNat : Int) < 33 ∧ 126 < (s[k].toNat : Int)) := by unfold visB visI at hp; simp at hp; omega
        clear hp
        rcases hv with hv | ⟨hv, hv2⟩
        · go_wp2_with fail
          go_ret
          exact ⟨ret_bool HC.out.symm, rfl⟩
        · go_wp2_with fail
          go_ret
          exact ⟨ret_bool HC.out.symm, rfl⟩
      · have HP := Lib.hid hp
        have hv : ¬ (s[k].toNat : Int) < 33 := by unfold visB visI at hp; simp at hp; omega
        have hv2 : ¬ 126 < (s[k].toNat : Int) := by unfold visB visI at hp; simp at hp; omega
        clear hp
        go_wp2_with fail
        go_round
        case rel => exact ⟨k + 1, by omega, by go_num, all_snoc s visB k hlt HT.out HP.out⟩
        case measure => simp [intOf]; omega
    · have HC : Hid (s.data.toList.all visB = true) := by have := HT.out; rw [take_all hlt] at this; exact this
      go_wp2_with fail
      go_ret
      exact ⟨ret_bool (by unfold target; rw [HC.out, Bool.true_and]; exact len_posN s), rfl⟩

set_option maxRecDepth 100000 in
set_option maxHeartbeats 400000 in
theorem rreason_any (s : ByteArray) (w : World) (hs : s.size ≤ maxLen) :
    Calls Tryz.prog 72 #[.string s] w fun e w' => e = .returned (.bool (s.data.toList.all mayB)) ∧ w = w' := by
  unfold maxLen at hs
  go_enter Tryz.func72, Tryz.ntmps72
  go_wp2_with fail
  go_loop [3] (fun i => ∃ k : Nat, k ≤ s.size ∧ i = .int .i64 k ∧ Hid ((s.data.toList.take k).all mayB = true)) (fun i => s.size - (intOf i).toNat)
  case atStart => exact ⟨0, Nat.zero_le _, rfl, rfl⟩
  case round =>
    obtain ⟨k, hk, rfl, HT⟩ := hrel
    by_cases hlt : k < s.size
    · cases hp : mayB s[k]
      · have HC : Hid (s.data.toList.all mayB = false) := all_not s mayB k hlt hp
        have hv : (((s[k].toNat : Int) != 9) = true ∧ (s[k].toNat : Int) < 32) ∨ (((s[k].toNat : Int) != 9) = true ∧ ¬ (s[k].toNat : Int) < 32 ∧ ((s[k].toNat : Int) == 127) = true) := by
          unfold mayB mayI at hp; simp at hp ⊢; omega
        clear hp
        rcases hv with ⟨h9, hv⟩ | ⟨h9, hv, h127⟩
        · go_wp2_with fail
          go_ret
          exact ⟨ret_bool (by simpa using HC.out.symm), rfl⟩
        · go_wp2_with fail
          go_ret
          exact ⟨ret_bool (by simpa using HC.out.symm), rfl⟩
      · have HP := Lib.hid hp
        have hv : (((s[k].toNat : Int) != 9) = false ∧ ((s[k].toNat : Int) == 127) = false) ∨ (((s[k].toNat : Int) != 9) = true ∧ ¬ (s[k].toNat : Int) < 32 ∧ ((s[k].toNat : Int) == 127) = false) := by
          unfold mayB mayI at hp; simp at hp ⊢; omega
        clear hp
        rcases hv with ⟨h9, h127⟩ | ⟨h9, hv, h127⟩
        · go_wp2_with fail
          go_round
          case rel => exact ⟨k + 1, by omega, by go_num, all_snoc s mayB k hlt HT.out HP.out⟩
          case measure => simp [intOf]; omega
        · go_wp2_with fail
          go_round
          case rel => exact ⟨k + 1, by omega, by go_num, all_snoc s mayB k hlt HT.out HP.out⟩
          case measure => simp [intOf]; omega
    · have HC : Hid (s.data.toList.all mayB = true) := by have := HT.out; rw [take_all hlt] at this; exact this
      go_wp2_with fail
      go_ret
      exact ⟨ret_bool (by simpa using HC.out.symm), rfl⟩

theorem at_getD {s : ByteArray} {k : Nat} (h : k < s.size) : s.data.toList.getD k 0 = s[k] := by
  simp [List.getD_eq_getElem?_getD, ByteArray.getElem_eq_getElem_data, h]

set_option maxRecDepth 100000 in
set_option maxHeartbeats 400000 in
theorem rversion_any (s : ByteArray) (w : World) :
    Calls Tryz.prog 62 #[.string s] w fun e w' => e = .returned (.bool (isVer s.data.toList)) ∧ w = w' := by
  by_cases h8 : s.size = 8
  · have hl : (s.data.toList.length == 8) = true := by rw [← size_len]; simpa using h8
    have k5 : 5 < s.size := by omega
    have k6 : 6 < s.size := by omega
    have k7 : 7 < s.size := by omega
    have b8 : ((s.size : Int) == 8) = true := by rw [beq_iff_eq]; omega
    have e5 : ((s.extract 0 5).toList == [72, 84, 84, 80, 47]) = (s.data.toList.take 5 == httpL) := by rw [Lib.toList_data, Lib.extract_from_zero]; rfl
    have HV : Hid (isVer s.data.toList = ((s.data.toList.take 5 == httpL) && digI (s[5].toNat : Int) && ((s[6].toNat : Int) == 46) && digI (s[7].toNat : Int))) := by
      show isVer _ = _
      unfold isVer; rw [hl, at_getD k5, at_getD k6, at_getD k7, Bool.true_and]; rfl
    clear hl
    cases c5 : (s.data.toList.take 5 == httpL)
    · rw [c5] at e5
      have HC : Hid (isVer s.data.toList = false) := by show _ = _; rw [HV.out, c5]; rfl
      clear c5
      go_enter Tryz.func62, Tryz.ntmps62
      go_wp2_with fail
      go_ret
      exact ⟨ret_bool HC.out.symm, rfl⟩
    · rw [c5] at e5
      rw [c5, Bool.true_and] at HV
      cases d5 : digI (s[5].toNat : Int)
      · have HC : Hid (isVer s.data.toList = false) := by show _ = _; rw [HV.out, d5]; rfl
        have HD := Lib.hid d5
        clear c5 d5
        go_enter Tryz.func62, Tryz.ntmps62
        go_wp2_with (go_at_call 71; refine (rdigit_any _ _).mono ?_; rw [HD.out]; rintro e w' ⟨rfl, rfl⟩)
        go_ret
        exact ⟨ret_bool HC.out.symm, rfl⟩
      · rw [d5, Bool.true_and] at HV
        have HD := Lib.hid d5
        cases d6 : ((s[6].toNat : Int) == 46)
        · have HC : Hid (isVer s.data.toList = false) := by show _ = _; rw [HV.out, d6]; rfl
          clear c5 d5
          go_enter Tryz.func62, Tryz.ntmps62
          go_wp2_with (go_at_call 71; refine (rdigit_any _ _).mono ?_; rw [HD.out]; rintro e w' ⟨rfl, rfl⟩)
          go_ret
          exact ⟨ret_bool HC.out.symm, rfl⟩
        · rw [d6, Bool.true_and] at HV
          clear c5 d5
          go_enter Tryz.func62, Tryz.ntmps62
          go_wp2_with fail
          refine (rdigit_any _ _).mono ?_
          rw [HD.out]
          rintro e w' ⟨rfl, rfl⟩
          go_wp2_with fail
          refine (rdigit_any _ _).mono ?_
          rintro e w' ⟨rfl, rfl⟩
          go_wp2_with fail
          go_ret
          exact ⟨ret_bool HV.out.symm, rfl⟩
  · have b8 : ((s.size : Int) == 8) = false := by
      rw [beq_eq_false_iff_ne]; omega
    have HC : Hid (isVer s.data.toList = false) := by
      show isVer _ = _
      unfold isVer
      rw [← size_len, beq_eq_false_iff_ne.2 h8]; rfl
    go_enter Tryz.func62, Tryz.ntmps62
    go_wp2_with fail
    go_ret
    exact ⟨ret_bool HC.out.symm, rfl⟩

set_option maxRecDepth 100000 in
set_option maxHeartbeats 400000 in
theorem rminor_any (s : ByteArray) (w : World) (hs : s.size ≤ maxLen) (h7 : 7 < s.size) :
    Calls Tryz.prog 65 #[.string s] w fun e w' => e = .returned (.int .i64 (minB s[7])) ∧ w = w' := by
  unfold maxLen at hs
  by_cases h : s[7].toNat = 48
  · have b : ((s[7].toNat : Int) == 48) = true := by rw [beq_iff_eq]; omega
    have HM : Hid (minB s[7] = 0) := by show minB _ = 0; unfold minB; rw [if_pos h]
    rw [HM.out]
    clear h
    go_enter Tryz.func65, Tryz.ntmps65
    go_wp2_with fail
    go_ret
    exact ⟨rfl, rfl⟩
  · have b : ((s[7].toNat : Int) == 48) = false := by rw [beq_eq_false_iff_ne]; omega
    have HM : Hid (minB s[7] = 1) := by show minB _ = 1; unfold minB; rw [if_neg h]
    rw [HM.out]
    clear h
    go_enter Tryz.func65, Tryz.ntmps65
    go_wp2_with fail
    go_ret
    exact ⟨rfl, rfl⟩

set_option maxRecDepth 100000 in
set_option maxHeartbeats 400000 in
theorem rversionOf_any (n : Int) (w : World) (h : validM n = true) :
    Calls Tryz.prog 81 #[.int .i64 n] w fun e w' => e = .returned (.string (bs (verN n))) ∧ w = w' := by
  unfold validM at h
  simp at h
  rcases h with rfl | rfl
  · go_enter Tryz.func81, Tryz.ntmps81
    go_wp2_with fail
    go_ret
    exact ⟨rfl, rfl⟩
  · go_enter Tryz.func81, Tryz.ntmps81
    go_wp2_with fail
    go_ret
    exact ⟨rfl, rfl⟩
end Go.Proofs.YtgkjjmcjlobbpaaGreatDoor

/- The document's own answers on lines, whole. -/
namespace Go.Proofs.YtgkjjmcjlobbpaaGreatDoor
open Go.RowKit

theorem results_tmp4 {fn : Func} {t u v x : Tmp} (h : fn.results = #[.tmp t, .tmp u, .tmp v, .tmp x]) (tmps : Array Value) (P : Program) (w : World) :
    (results fn tmps).run P w = .ok (.tuple #[tmps.getD t undef, tmps.getD u undef, tmps.getD v undef, tmps.getD x undef]) w := by
  simp [results, h]
/-- what is handed back of a request's line -/
abbrev reqV (s : List UInt8) : Value := .tuple #[.string (bs (reqM s)), .string (bs (reqT s)), .int .i64 (reqN s), .int .i64 (reqE s)]
theorem reqV_err {s : List UInt8} {k : Int} (hk : k ≠ 0) (h : reqE s = k) : Ending.returned (.tuple #[.string ⟨#[]⟩, .string ⟨#[]⟩, .int .i64 0, .int .i64 k]) = .returned (reqV s) := by
  have h0 : reqE s ≠ 0 := by rw [h]; exact hk
  obtain ⟨a, b, c⟩ := req_zero h0
  rw [reqV, a, b, c, h]; rfl
theorem reqV_ok {s m t : List UInt8} {n : Int} (h : reqE s = 0 ∧ reqM s = m ∧ reqT s = t ∧ reqN s = n) {a b : ByteArray} (ha : a = bs m) (hb : b = bs t) {k : Int} (hk : k = n) : Ending.returned (.tuple #[.string a, .string b, .int .i64 k, .int .i64 0]) = .returned (reqV s) := by
  obtain ⟨h0, h1, h2, h3⟩ := h
  rw [reqV, h0, h1, h2, h3, ha, hb, hk]

theorem extract_mid (s : ByteArray) (a b : Nat) : (s.extract a b).data.toList = (s.data.toList.drop a).take (b - a) := by
  rw [← Lib.toList_data, Lib.extract_toList]
theorem extract_at (s : ByteArray) (a j : Nat) (h : j < (s.extract a s.size).size) (k : a + j < s.size) : (s.extract a s.size)[j] = s[a + j] := by
  rw [← at_getD h, ← at_getD k, Lib.extract_to_end]
  simp [List.getD_eq_getElem?_getD]
theorem cut_eq (s : ByteArray) (n k : Nat) (h : k < s.size) : cutAtL s.data.toList n k = (((s[k].toNat : Int) == 32) && (token (s.extract 0 k).data.toList && target (s.extract (k + 1) n).data.toList)) := by
  unfold cutAtL; rw [at_getD h, Lib.extract_from_zero, extract_mid, Bool.and_assoc]
theorem cut_next {s : List UInt8} {n k : Nat} (h : ∀ j, j < k → cutAtL s n j = false) (hk : cutAtL s n k = false) : ∀ j, j < k + 1 → cutAtL s n j = false := fun j hj => by
  rcases Nat.lt_or_ge j k with h1 | h1
  · exact h j h1
  · obtain rfl : j = k := by omega
    exact hk
theorem rminor_same (s : ByteArray) (w : World) (hs : s.size ≤ maxLen) (h7 : 7 < s.size) :
    Calls Tryz.prog 65 #[.string s] w fun e w' => e = .returned (.int .i64 (minB s[7])) ∧ w' = w :=
  (rminor_any s w hs h7).mono fun _ _ h => ⟨h.1, h.2.symm⟩
section
variable (s : ByteArray) (w : World)
set_option maxRecDepth 100000 in
set_option maxHeartbeats 1000000 in
theorem rrequest_cut (n : Nat) (k0 : n < s.size) (HN : Hid (s.size = n + 9)) (h2048 : s.size ≤ 2048) (b32 : ((s[n].toNat : Int) != 32) = false) (hv : isVer (s.data.toList.drop (n + 1)) = true) :
    Calls Tryz.prog 31 #[.string s] w fun e w' => e = .returned (reqV s.data.toList) ∧ ∃ k, w' = w.drewN k := by
  have hL : Hid (s.data.toList.length = n + 9) := by show _ = _; rw [← size_len]; exact HN.out
  have h48 : Hid (s.data.toList.length ≤ 2048) := by show _ ≤ _; rw [← size_len]; exact h2048
  have hsz : (s.size : Int) - 9 = n := by have := HN.out; omega
  have HV := Lib.hid hv; clear hv
  have HB : Hid ((s[n].toNat : Int) = 32) := by show _ = _; rwa [bne_eq_false_iff_eq] at b32
  go_enter Tryz.func31, Tryz.ntmps31
  go_wp2_with fail
  refine (rversion_any _ _).mono ?_
  rw [Lib.extract_to_end, HV.out]
  rintro e w' ⟨rfl, rfl⟩
  go_wp2_with fail
  go_loop [7] (fun i => ∃ k : Nat, k ≤ n ∧ i = .int .i64 k ∧ Hid (∀ j, j < k → cutAtL s.data.toList n j = false)) (fun i => n - (intOf i).toNat)
  case atStart => exact ⟨0, Nat.zero_le _, rfl, fun j hj => by omega⟩
  case round =>
    obtain ⟨k, hk, rfl, HT⟩ := hrel
    by_cases hlt : k < n
    · have kk : k < s.size := by omega
      have hc := cut_eq s n k kk
      cases c1 : ((s[k].toNat : Int) == 32)
      · have d1 : ((s[k].toNat : Int) != 32) = true := by rw [bne, c1]; rfl
        have HC : Hid (cutAtL s.data.toList n k = false) := by show _ = _; rw [hc, c1]; rfl
        clear hc c1
        go_wp2_with fail
        go_round
        case rel => exact ⟨k + 1, by omega, by go_num, cut_next HT.out HC.out⟩
        case measure => simp [intOf]; omega
      · have d1 : ((s[k].toNat : Int) != 32) = false := by rw [bne, c1]; rfl
        rw [c1, Bool.true_and] at hc
        clear c1
        cases c2 : token (s.extract 0 k).data.toList
        · have HC : Hid (cutAtL s.data.toList n k = false) := by show _ = _; rw [hc, c2]; rfl
          have H2 := Lib.hid c2
          clear hc c2
          go_wp2_with fail
          refine (rtoken_any _ _ (by unfold maxLen; simp; omega)).mono ?_
          rw [H2.out]
          rintro e w' ⟨rfl, rfl⟩
          go_wp2_with fail
          go_round
          case rel => exact ⟨k + 1, by omega, by go_num, cut_next HT.out HC.out⟩
          case measure => simp [intOf]; omega
        · have H2 := Lib.hid c2
          rw [c2, Bool.true_and] at hc
          clear c2
          cases c3 : target (s.extract (k + 1) n).data.toList
          · have HC : Hid (cutAtL s.data.toList n k = false) := by show _ = _; rw [hc, c3]
            have H3 := Lib.hid c3
            clear hc c3
            go_wp2_with fail
            refine (rtoken_any _ _ (by unfold maxLen; simp; omega)).mono ?_
            rw [H2.out]
            rintro e w' ⟨rfl, rfl⟩
            go_wp2_with fail
            refine (rtarget_any _ _ (by unfold maxLen; simp; omega)).mono ?_
            rw [H3.out]
            rintro e w' ⟨rfl, rfl⟩
            go_wp2_with fail
            go_round
            case rel => exact ⟨k + 1, by omega, by go_num, cut_next HT.out HC.out⟩
            case measure => simp [intOf]; omega
          · have H3 := Lib.hid c3
            have HC : Hid (cutAtL s.data.toList n k = true) := by show _ = _; rw [hc, c3]
            clear hc c3
            go_wp2_with fail
            refine (rtoken_any _ _ (by unfold maxLen; simp; omega)).mono ?_
            rw [H2.out]
            rintro e w' ⟨rfl, rfl⟩
            go_wp2_with fail
            refine (rtarget_any _ _ (by unfold maxLen; simp; omega)).mono ?_
            rw [H3.out]
            rintro e w' ⟨rfl, rfl⟩
            have hI := isReq_at hL.out hlt (by rw [at_getD k0]; exact HB.out) HV.out HC.out
            have k6 : n + 6 < s.size := by have := HN.out; omega
            have k8 : n + 8 < s.size := by have := HN.out; omega
            rw [at_getD k6, at_getD k8] at hI
            have HI := Lib.hid hI; clear hI
            have htl : ((s.data.toList.drop (k + 1)).take (n - (k + 1))).length = n - (k + 1) := by
              rw [List.length_take, List.length_drop]; have := hL.out; omega
            have HTL := Lib.hid htl; clear htl
            by_cases g1 : s[n + 6].toNat = 49
            · have b1 : ((s[n + 6].toNat : Int) != 49) = false := by rw [bne_eq_false_iff_eq]; omega
              by_cases g2 : 1024 < n - (k + 1)
              · have b2 : 1024 < (n : Int) - k - 1 := by omega
                have HE : Hid (reqE s.data.toList = 3) := req_uri h48.out HI.out g1 (by rw [HTL.out]; exact g2)
                clear g1 g2
                go_wp2_with fail
                (try simp only [Exit.inBlock, Exit.then])
                refine bodyPost_ret (results_tmp4 rfl _ _ _) rfl ?_
                exact ⟨reqV_err (by decide) HE.out, 0, rfl⟩
              · have b2 : ¬ 1024 < (n : Int) - k - 1 := by omega
                have HE := Lib.hid (req_ok h48.out HI.out g1 (by rw [HTL.out]; omega))
                clear g1 g2
                go_wp2_with fail
                have he8 : (s.extract (n + 1) s.size).size = 8 := by have := HN.out; rw [ByteArray.size_extract]; omega
                have HX := Lib.hid he8
                clear he8
                go_quiet ((go_at_call 65; exact Calls.quiet_of_same (rminor_same _ _ (by unfold maxLen; rw [HX.out]; omega) (by rw [HX.out]; omega))))
                go_wp2_with fail
                (try simp only [Exit.inBlock, Exit.then])
                refine bodyPost_ret (results_tmp4 rfl _ _ _) rfl ?_
                exact ⟨reqV_ok HE.out (bs_of (Lib.extract_from_zero s k)) (bs_of (extract_mid s (k + 1) n)) (congrArg minB (extract_at s (n + 1) 7 _ (by omega))), _, rfl⟩
            · have b1 : ((s[n + 6].toNat : Int) != 49) = true := by rw [bne_iff_ne]; omega
              have HE : Hid (reqE s.data.toList = 9) := req_ver h48.out HI.out g1
              clear g1
              go_wp2_with fail
              (try simp only [Exit.inBlock, Exit.then])
              refine bodyPost_ret (results_tmp4 rfl _ _ _) rfl ?_
              exact ⟨reqV_err (by decide) HE.out, 0, rfl⟩
    · have HC : Hid (reqE s.data.toList = 4) := req_none h48.out fun m t d1 d2 hr => by
        obtain ⟨n', e1, _, _, e4, e5⟩ := isReq_cut hr
        have := hL.out
        obtain rfl : n' = n := by omega
        have := HT.out m.length (by omega)
        rw [this] at e5; cases e5
      go_wp2_with fail
      (try simp only [Exit.inBlock, Exit.then])
      refine bodyPost_ret (results_tmp4 rfl _ _ _) rfl ?_
      exact ⟨reqV_err (by decide) HC.out, 0, rfl⟩

set_option maxRecDepth 100000 in
set_option maxHeartbeats 1000000 in
theorem rrequest_long (h : 2048 < s.size) (hs : s.size ≤ 1048576) :
    Calls Tryz.prog 31 #[.string s] w fun e w' => e = .returned (reqV s.data.toList) ∧ ∃ k, w' = w.drewN k := by
  have HE : Hid (reqE s.data.toList = 3) := req_long (by rw [← size_len]; exact h)
  go_enter Tryz.func31, Tryz.ntmps31
  go_wp2_with fail
  (try simp only [Exit.inBlock, Exit.then])
  refine bodyPost_ret (results_tmp4 rfl _ _ _) rfl ?_
  exact ⟨reqV_err (by decide) HE.out, 0, rfl⟩

set_option maxRecDepth 100000 in
set_option maxHeartbeats 1000000 in
theorem rrequest_short (h : s.size < 9) :
    Calls Tryz.prog 31 #[.string s] w fun e w' => e = .returned (reqV s.data.toList) ∧ ∃ k, w' = w.drewN k := by
  have HE : Hid (reqE s.data.toList = 4) := req_none (by rw [← size_len]; omega) fun m t d1 d2 hr => by
    obtain ⟨n', e1, _⟩ := isReq_cut hr
    rw [← size_len] at e1; omega
  have h2 : (s.size : Int) - 9 < 0 := by omega
  have h3 : ¬ 2048 < (s.size : Int) := by omega
  go_enter Tryz.func31, Tryz.ntmps31
  go_wp2_with fail
  (try simp only [Exit.inBlock, Exit.then])
  refine bodyPost_ret (results_tmp4 rfl _ _ _) rfl ?_
  exact ⟨reqV_err (by decide) HE.out, 0, rfl⟩

set_option maxRecDepth 100000 in
set_option maxHeartbeats 1000000 in
theorem rrequest_blank (n : Nat) (k0 : n < s.size) (HN : Hid (s.size = n + 9)) (h2048 : s.size ≤ 2048) (b32 : ((s[n].toNat : Int) != 32) = true) :
    Calls Tryz.prog 31 #[.string s] w fun e w' => e = .returned (reqV s.data.toList) ∧ ∃ k, w' = w.drewN k := by
  have hne := bne_iff_ne.1 b32
  have HE : Hid (reqE s.data.toList = 4) := req_none (by rw [← size_len]; exact h2048) fun m t d1 d2 hr => by
    obtain ⟨n', e1, e2, _⟩ := isReq_cut hr
    have := HN.out
    rw [← size_len] at e1
    obtain rfl : n' = n := by omega
    rw [at_getD k0] at e2; exact hne e2
  clear hne
  have hsz : (s.size : Int) - 9 = n := by have := HN.out; omega
  go_enter Tryz.func31, Tryz.ntmps31
  go_wp2_with fail
  (try simp only [Exit.inBlock, Exit.then])
  refine bodyPost_ret (results_tmp4 rfl _ _ _) rfl ?_
  exact ⟨reqV_err (by decide) HE.out, 0, rfl⟩

set_option maxRecDepth 100000 in
set_option maxHeartbeats 1000000 in
theorem rrequest_ver (n : Nat) (k0 : n < s.size) (HN : Hid (s.size = n + 9)) (h2048 : s.size ≤ 2048) (b32 : ((s[n].toNat : Int) != 32) = false) (hv : isVer (s.data.toList.drop (n + 1)) = false) :
    Calls Tryz.prog 31 #[.string s] w fun e w' => e = .returned (reqV s.data.toList) ∧ ∃ k, w' = w.drewN k := by
  have HE : Hid (reqE s.data.toList = 4) := req_none (by rw [← size_len]; exact h2048) fun m t d1 d2 hr => by
    obtain ⟨n', e1, _, e3, _⟩ := isReq_cut hr
    have := HN.out
    rw [← size_len] at e1
    obtain rfl : n' = n := by omega
    rw [hv] at e3; cases e3
  have HV := Lib.hid hv; clear hv
  have hsz : (s.size : Int) - 9 = n := by have := HN.out; omega
  go_enter Tryz.func31, Tryz.ntmps31
  go_wp2_with fail
  refine (rversion_any _ _).mono ?_
  rw [Lib.extract_to_end, HV.out]
  rintro e w' ⟨rfl, rfl⟩
  go_wp2_with fail
  (try simp only [Exit.inBlock, Exit.then])
  refine bodyPost_ret (results_tmp4 rfl _ _ _) rfl ?_
  exact ⟨reqV_err (by decide) HE.out, 0, rfl⟩

theorem below_drewN (B : Nat) (w : World) (k : Nat) : Below B w (w.drewN k) := ⟨rfl, rfl, rfl, Nat.le_refl _, fun _ _ => rfl⟩
theorem rrequest_any (hs : s.size ≤ 1048576) :
    Calls Tryz.prog 31 #[.string s] w fun e w' => e = .returned (reqV s.data.toList) ∧ Below w.heap.size w w' := by
  have key : Calls Tryz.prog 31 #[.string s] w fun e w' => e = .returned (reqV s.data.toList) ∧ ∃ k, w' = w.drewN k := by
    rcases Nat.lt_or_ge 2048 s.size with h1 | h1
    · exact rrequest_long s w h1 hs
    · rcases Nat.lt_or_ge s.size 9 with h2 | h2
      · exact rrequest_short s w h2
      · obtain ⟨n, hn⟩ : ∃ n, s.size = n + 9 := ⟨s.size - 9, by omega⟩
        have k0 : n < s.size := by omega
        cases b32 : ((s[n].toNat : Int) != 32)
        · cases hv : isVer (s.data.toList.drop (n + 1))
          · exact rrequest_ver s w n k0 hn h1 b32 hv
          · exact rrequest_cut s w n k0 hn h1 b32 hv
        · exact rrequest_blank s w n k0 hn h1 b32
  refine key.mono ?_
  rintro e w' ⟨rfl, k, rfl⟩
  exact ⟨rfl, below_drewN _ _ _⟩
end
end Go.Proofs.YtgkjjmcjlobbpaaGreatDoor

/- The document's own answers on replies' lines, and on lines that are put. -/
namespace Go.Proofs.YtgkjjmcjlobbpaaGreatDoor
open Go.RowKit

/-- what is handed back of a reply's line -/
abbrev staV (s : List UInt8) : Value := .tuple #[.int .i64 (staC s), .string (bs (staR s)), .int .i64 (staN s), .int .i64 (staE s)]
theorem staV_err {s : List UInt8} {k : Int} (hk : k ≠ 0) (h : staE s = k) : Ending.returned (.tuple #[.int .i64 0, .string ⟨#[]⟩, .int .i64 0, .int .i64 k]) = .returned (staV s) := by
  have h0 : staE s ≠ 0 := by rw [h]; exact hk
  obtain ⟨a, b, c⟩ := sta_zero h0
  rw [staV, a, b, c, h]; rfl
theorem staV_ok {s r : List UInt8} {c n : Int} (h : staE s = 0 ∧ staC s = c ∧ staR s = r ∧ staN s = n) {b : ByteArray} (hb : b = bs r) {k j : Int} (hk : k = n) (hj : j = c) : Ending.returned (.tuple #[.int .i64 j, .string b, .int .i64 k, .int .i64 0]) = .returned (staV s) := by
  obtain ⟨h0, h1, h2, h3⟩ := h
  rw [staV, h0, h1, h2, h3, hb, hk, hj]
theorem sta_no {s : List UInt8} (h : s.length ≤ 2048) (hn : isSt s = false) : staE s = 4 := sta_none h fun d1 d2 a b c r hr => by
  have := isSt_of hr
  rw [hn] at this; cases this
theorem isSt_eq (s : ByteArray) (h : 13 ≤ s.size) : isSt s.data.toList = (isVer (s.extract 0 8).data.toList && ((s[8].toNat : Int) == 32) && decide (49 ≤ (s[9].toNat : Int)) && decide ((s[9].toNat : Int) ≤ 53) && digI (s[10].toNat : Int) && digI (s[11].toNat : Int) && ((s[12].toNat : Int) == 32) && (s.extract 13 s.size).data.toList.all mayB) := by
  have hl : 13 ≤ s.data.toList.length := by rw [← size_len]; exact h
  unfold isSt
  rw [decide_eq_true hl, at_getD (show 8 < s.size from by omega), at_getD (show 9 < s.size from by omega), at_getD (show 10 < s.size from by omega), at_getD (show 11 < s.size from by omega), at_getD (show 12 < s.size from by omega), Lib.extract_from_zero, Lib.extract_to_end, Bool.true_and]; rfl
section
variable (s : ByteArray) (w : World)
set_option maxRecDepth 100000 in
set_option maxHeartbeats 1000000 in
theorem rstatus_long (h : 2048 < s.size) (hs : s.size ≤ 1048576) :
    Calls Tryz.prog 37 #[.string s] w fun e w' => e = .returned (staV s.data.toList) ∧ ∃ k, w' = w.drewN k := by
  have HE : Hid (staE s.data.toList = 3) := sta_long (by rw [← size_len]; exact h)
  go_enter Tryz.func37, Tryz.ntmps37
  go_wp2_with fail
  (try simp only [Exit.inBlock, Exit.then])
  refine bodyPost_ret (results_tmp4 rfl _ _ _) rfl ?_
  exact ⟨staV_err (by decide) HE.out, 0, rfl⟩

set_option maxRecDepth 100000 in
set_option maxHeartbeats 1000000 in
theorem rstatus_short (h : s.size < 13) :
    Calls Tryz.prog 37 #[.string s] w fun e w' => e = .returned (staV s.data.toList) ∧ ∃ k, w' = w.drewN k := by
  have HE : Hid (staE s.data.toList = 4) := sta_no (by rw [← size_len]; omega) (by unfold isSt; rw [← size_len, decide_eq_false (by omega)]; rfl)
  go_enter Tryz.func37, Tryz.ntmps37
  go_wp2_with fail
  (try simp only [Exit.inBlock, Exit.then])
  refine bodyPost_ret (results_tmp4 rfl _ _ _) rfl ?_
  exact ⟨staV_err (by decide) HE.out, 0, rfl⟩

set_option maxRecDepth 100000 in
set_option maxHeartbeats 1000000 in
theorem rstatus_v (h : 13 ≤ s.size) (hs : s.size ≤ 2048)  (h1 : isVer (s.extract 0 8).data.toList = false) :
    Calls Tryz.prog 37 #[.string s] w fun e w' => e = .returned (staV s.data.toList) ∧ ∃ k, w' = w.drewN k := by
  have HE : Hid (staE s.data.toList = 4) := sta_no (by rw [← size_len]; exact hs) (by rw [isSt_eq s h, h1]; simp)
  have H1 := Lib.hid h1; clear h1
  go_enter Tryz.func37, Tryz.ntmps37
  go_wp2_with fail
  refine (rversion_any _ _).mono ?_
  rw [H1.out]
  rintro e w' ⟨rfl, rfl⟩
  go_wp2_with fail
  (try simp only [Exit.inBlock, Exit.then])
  refine bodyPost_ret (results_tmp4 rfl _ _ _) rfl ?_
  exact ⟨staV_err (by decide) HE.out, 0, rfl⟩

set_option maxRecDepth 100000 in
set_option maxHeartbeats 1000000 in
theorem rstatus_8 (h : 13 ≤ s.size) (k8 : 8 < s.size) (hs : s.size ≤ 2048) (h1 : isVer (s.extract 0 8).data.toList = true) (h2 : ((s[8].toNat : Int) == 32) = false) :
    Calls Tryz.prog 37 #[.string s] w fun e w' => e = .returned (staV s.data.toList) ∧ ∃ k, w' = w.drewN k := by
  have HE : Hid (staE s.data.toList = 4) := sta_no (by rw [← size_len]; exact hs) (by rw [isSt_eq s h, h1, h2]; simp)
  have z0 : decide ((s.size : Int) < 13) = false := decide_eq_false (by omega)
  have g2 : ((s[8].toNat : Int) != 32) = true := by rw [bne, h2]; rfl
  have H1 := Lib.hid h1; clear h1
  go_enter Tryz.func37, Tryz.ntmps37
  go_wp2_with fail
  refine (rversion_any _ _).mono ?_
  rw [H1.out]
  rintro e w' ⟨rfl, rfl⟩
  go_wp2_with fail
  (try simp only [Exit.inBlock, Exit.then])
  refine bodyPost_ret (results_tmp4 rfl _ _ _) rfl ?_
  exact ⟨staV_err (by decide) HE.out, 0, rfl⟩

set_option maxRecDepth 100000 in
set_option maxHeartbeats 1000000 in
theorem rstatus_a (h : 13 ≤ s.size) (k8 : 8 < s.size) (k9 : 9 < s.size) (hs : s.size ≤ 2048) (h1 : isVer (s.extract 0 8).data.toList = true) (h2 : ((s[8].toNat : Int) == 32) = true) (h3 : (s[9].toNat : Int) < 49) :
    Calls Tryz.prog 37 #[.string s] w fun e w' => e = .returned (staV s.data.toList) ∧ ∃ k, w' = w.drewN k := by
  have HE : Hid (staE s.data.toList = 4) := sta_no (by rw [← size_len]; exact hs) (by rw [isSt_eq s h, h1, h2, decide_eq_false (show ¬ 49 ≤ (s[9].toNat : Int) from by omega)]; simp)
  have z0 : decide ((s.size : Int) < 13) = false := decide_eq_false (by omega)
  have g2 : ((s[8].toNat : Int) != 32) = false := by rw [bne, h2]; rfl
  have H1 := Lib.hid h1; clear h1
  go_enter Tryz.func37, Tryz.ntmps37
  go_wp2_with fail
  refine (rversion_any _ _).mono ?_
  rw [H1.out]
  rintro e w' ⟨rfl, rfl⟩
  go_wp2_with fail
  (try simp only [Exit.inBlock, Exit.then])
  refine bodyPost_ret (results_tmp4 rfl _ _ _) rfl ?_
  exact ⟨staV_err (by decide) HE.out, 0, rfl⟩

set_option maxRecDepth 100000 in
set_option maxHeartbeats 1000000 in
theorem rstatus_b (h : 13 ≤ s.size) (k8 : 8 < s.size) (k9 : 9 < s.size) (hs : s.size ≤ 2048) (h1 : isVer (s.extract 0 8).data.toList = true) (h2 : ((s[8].toNat : Int) == 32) = true) (h3 : 49 ≤ (s[9].toNat : Int)) (h4 : 53 < (s[9].toNat : Int)) :
    Calls Tryz.prog 37 #[.string s] w fun e w' => e = .returned (staV s.data.toList) ∧ ∃ k, w' = w.drewN k := by
  have HE : Hid (staE s.data.toList = 4) := sta_no (by rw [← size_len]; exact hs) (by rw [isSt_eq s h, h1, h2, decide_eq_true h3, decide_eq_false (show ¬ (s[9].toNat : Int) ≤ 53 from by omega)]; simp)
  have z0 : decide ((s.size : Int) < 13) = false := decide_eq_false (by omega)
  have z1 : decide ((s[9].toNat : Int) < 49) = false := decide_eq_false (by omega)
  have g2 : ((s[8].toNat : Int) != 32) = false := by rw [bne, h2]; rfl
  have H1 := Lib.hid h1; clear h1
  go_enter Tryz.func37, Tryz.ntmps37
  go_wp2_with fail
  refine (rversion_any _ _).mono ?_
  rw [H1.out]
  rintro e w' ⟨rfl, rfl⟩
  go_wp2_with fail
  (try simp only [Exit.inBlock, Exit.then])
  refine bodyPost_ret (results_tmp4 rfl _ _ _) rfl ?_
  exact ⟨staV_err (by decide) HE.out, 0, rfl⟩

set_option maxRecDepth 100000 in
set_option maxHeartbeats 1000000 in
theorem rstatus_c (h : 13 ≤ s.size) (k8 : 8 < s.size) (k9 : 9 < s.size) (k10 : 10 < s.size) (hs : s.size ≤ 2048) (h1 : isVer (s.extract 0 8).data.toList = true) (h2 : ((s[8].toNat : Int) == 32) = true) (h3 : 49 ≤ (s[9].toNat : Int)) (h4 : (s[9].toNat : Int) ≤ 53) (h5 : digI (s[10].toNat : Int) = false) :
    Calls Tryz.prog 37 #[.string s] w fun e w' => e = .returned (staV s.data.toList) ∧ ∃ k, w' = w.drewN k := by
  have HE : Hid (staE s.data.toList = 4) := sta_no (by rw [← size_len]; exact hs) (by rw [isSt_eq s h, h1, h2, decide_eq_true h3, decide_eq_true h4, h5]; simp)
  have z0 : decide ((s.size : Int) < 13) = false := decide_eq_false (by omega)
  have z1 : decide ((s[9].toNat : Int) < 49) = false := decide_eq_false (by omega)
  have z2 : decide (53 < (s[9].toNat : Int)) = false := decide_eq_false (by omega)
  have g2 : ((s[8].toNat : Int) != 32) = false := by rw [bne, h2]; rfl
  have H1 := Lib.hid h1; clear h1
  have H5 := Lib.hid h5; clear h5
  go_enter Tryz.func37, Tryz.ntmps37
  go_wp2_with fail
  refine (rversion_any _ _).mono ?_
  rw [H1.out]
  rintro e w' ⟨rfl, rfl⟩
  go_wp2_with fail
  refine (rdigit_any _ _).mono ?_
  rw [H5.out]
  rintro e w' ⟨rfl, rfl⟩
  go_wp2_with fail
  (try simp only [Exit.inBlock, Exit.then])
  refine bodyPost_ret (results_tmp4 rfl _ _ _) rfl ?_
  exact ⟨staV_err (by decide) HE.out, 0, rfl⟩

set_option maxRecDepth 100000 in
set_option maxHeartbeats 1000000 in
theorem rstatus_d (h : 13 ≤ s.size) (k8 : 8 < s.size) (k9 : 9 < s.size) (k10 : 10 < s.size) (k11 : 11 < s.size) (hs : s.size ≤ 2048) (h1 : isVer (s.extract 0 8).data.toList = true) (h2 : ((s[8].toNat : Int) == 32) = true) (h3 : 49 ≤ (s[9].toNat : Int)) (h4 : (s[9].toNat : Int) ≤ 53) (h5 : digI (s[10].toNat : Int) = true) (h6 : digI (s[11].toNat : Int) = false) :
    Calls Tryz.prog 37 #[.string s] w fun e w' => e = .returned (staV s.data.toList) ∧ ∃ k, w' = w.drewN k := by
  have HE : Hid (staE s.data.toList = 4) := sta_no (by rw [← size_len]; exact hs) (by rw [isSt_eq s h, h1, h2, decide_eq_true h3, decide_eq_true h4, h5, h6]; simp)
  have z0 : decide ((s.size : Int) < 13) = false := decide_eq_false (by omega)
  have z1 : decide ((s[9].toNat : Int) < 49) = false := decide_eq_false (by omega)
  have z2 : decide (53 < (s[9].toNat : Int)) = false := decide_eq_false (by omega)
  have g2 : ((s[8].toNat : Int) != 32) = false := by rw [bne, h2]; rfl
  have H1 := Lib.hid h1; clear h1
  have H5 := Lib.hid h5; clear h5
  have H6 := Lib.hid h6; clear h6
  go_enter Tryz.func37, Tryz.ntmps37
  go_wp2_with fail
  refine (rversion_any _ _).mono ?_
  rw [H1.out]
  rintro e w' ⟨rfl, rfl⟩
  go_wp2_with fail
  refine (rdigit_any _ _).mono ?_
  rw [H5.out]
  rintro e w' ⟨rfl, rfl⟩
  go_wp2_with fail
  refine (rdigit_any _ _).mono ?_
  rw [H6.out]
  rintro e w' ⟨rfl, rfl⟩
  go_wp2_with fail
  (try simp only [Exit.inBlock, Exit.then])
  refine bodyPost_ret (results_tmp4 rfl _ _ _) rfl ?_
  exact ⟨staV_err (by decide) HE.out, 0, rfl⟩

set_option maxRecDepth 100000 in
set_option maxHeartbeats 1000000 in
theorem rstatus_e (h : 13 ≤ s.size) (k8 : 8 < s.size) (k9 : 9 < s.size) (k10 : 10 < s.size) (k11 : 11 < s.size) (k12 : 12 < s.size) (hs : s.size ≤ 2048) (h1 : isVer (s.extract 0 8).data.toList = true) (h2 : ((s[8].toNat : Int) == 32) = true) (h3 : 49 ≤ (s[9].toNat : Int)) (h4 : (s[9].toNat : Int) ≤ 53) (h5 : digI (s[10].toNat : Int) = true) (h6 : digI (s[11].toNat : Int) = true) (h7 : ((s[12].toNat : Int) == 32) = false) :
    Calls Tryz.prog 37 #[.string s] w fun e w' => e = .returned (staV s.data.toList) ∧ ∃ k, w' = w.drewN k := by
  have HE : Hid (staE s.data.toList = 4) := sta_no (by rw [← size_len]; exact hs) (by rw [isSt_eq s h, h1, h2, decide_eq_true h3, decide_eq_true h4, h5, h6, h7]; simp)
  have z0 : decide ((s.size : Int) < 13) = false := decide_eq_false (by omega)
  have z1 : decide ((s[9].toNat : Int) < 49) = false := decide_eq_false (by omega)
  have z2 : decide (53 < (s[9].toNat : Int)) = false := decide_eq_false (by omega)
  have g2 : ((s[8].toNat : Int) != 32) = false := by rw [bne, h2]; rfl
  have g7 : ((s[12].toNat : Int) != 32) = true := by rw [bne, h7]; rfl
  have H1 := Lib.hid h1; clear h1
  have H5 := Lib.hid h5; clear h5
  have H6 := Lib.hid h6; clear h6
  go_enter Tryz.func37, Tryz.ntmps37
  go_wp2_with fail
  refine (rversion_any _ _).mono ?_
  rw [H1.out]
  rintro e w' ⟨rfl, rfl⟩
  go_wp2_with fail
  refine (rdigit_any _ _).mono ?_
  rw [H5.out]
  rintro e w' ⟨rfl, rfl⟩
  go_wp2_with fail
  refine (rdigit_any _ _).mono ?_
  rw [H6.out]
  rintro e w' ⟨rfl, rfl⟩
  go_wp2_with fail
  (try simp only [Exit.inBlock, Exit.then])
  refine bodyPost_ret (results_tmp4 rfl _ _ _) rfl ?_
  exact ⟨staV_err (by decide) HE.out, 0, rfl⟩

set_option maxRecDepth 100000 in
set_option maxHeartbeats 1000000 in
theorem rstatus_f (h : 13 ≤ s.size) (k8 : 8 < s.size) (k9 : 9 < s.size) (k10 : 10 < s.size) (k11 : 11 < s.size) (k12 : 12 < s.size) (hs : s.size ≤ 2048) (h1 : isVer (s.extract 0 8).data.toList = true) (h2 : ((s[8].toNat : Int) == 32) = true) (h3 : 49 ≤ (s[9].toNat : Int)) (h4 : (s[9].toNat : Int) ≤ 53) (h5 : digI (s[10].toNat : Int) = true) (h6 : digI (s[11].toNat : Int) = true) (h7 : ((s[12].toNat : Int) == 32) = true) (h8 : (s.extract 13 s.size).data.toList.all mayB = false) :
    Calls Tryz.prog 37 #[.string s] w fun e w' => e = .returned (staV s.data.toList) ∧ ∃ k, w' = w.drewN k := by
  have HE : Hid (staE s.data.toList = 4) := sta_no (by rw [← size_len]; exact hs) (by rw [isSt_eq s h, h1, h2, decide_eq_true h3, decide_eq_true h4, h5, h6, h7, h8]; simp)
  have z0 : decide ((s.size : Int) < 13) = false := decide_eq_false (by omega)
  have z1 : decide ((s[9].toNat : Int) < 49) = false := decide_eq_false (by omega)
  have z2 : decide (53 < (s[9].toNat : Int)) = false := decide_eq_false (by omega)
  have g2 : ((s[8].toNat : Int) != 32) = false := by rw [bne, h2]; rfl
  have g7 : ((s[12].toNat : Int) != 32) = false := by rw [bne, h7]; rfl
  have H1 := Lib.hid h1; clear h1
  have H5 := Lib.hid h5; clear h5
  have H6 := Lib.hid h6; clear h6
  have H8 := Lib.hid h8; clear h8
  go_enter Tryz.func37, Tryz.ntmps37
  go_wp2_with fail
  refine (rversion_any _ _).mono ?_
  rw [H1.out]
  rintro e w' ⟨rfl, rfl⟩
  go_wp2_with fail
  refine (rdigit_any _ _).mono ?_
  rw [H5.out]
  rintro e w' ⟨rfl, rfl⟩
  go_wp2_with fail
  refine (rdigit_any _ _).mono ?_
  rw [H6.out]
  rintro e w' ⟨rfl, rfl⟩
  go_wp2_with fail
  refine (rreason_any _ _ (by unfold maxLen; simp; omega)).mono ?_
  rw [H8.out]
  rintro e w' ⟨rfl, rfl⟩
  go_wp2_with fail
  (try simp only [Exit.inBlock, Exit.then])
  refine bodyPost_ret (results_tmp4 rfl _ _ _) rfl ?_
  exact ⟨staV_err (by decide) HE.out, 0, rfl⟩

set_option maxRecDepth 100000 in
set_option maxHeartbeats 1000000 in
theorem rstatus_good (h : 13 ≤ s.size) (k8 : 8 < s.size) (k9 : 9 < s.size) (k10 : 10 < s.size) (k11 : 11 < s.size) (k12 : 12 < s.size) (hs : s.size ≤ 2048) (k5 : 5 < s.size) (h1 : isVer (s.extract 0 8).data.toList = true) (h2 : ((s[8].toNat : Int) == 32) = true) (h3 : 49 ≤ (s[9].toNat : Int)) (h4 : (s[9].toNat : Int) ≤ 53) (h5 : digI (s[10].toNat : Int) = true) (h6 : digI (s[11].toNat : Int) = true) (h7 : ((s[12].toNat : Int) == 32) = true) (h8 : (s.extract 13 s.size).data.toList.all mayB = true) :
    Calls Tryz.prog 37 #[.string s] w fun e w' => e = .returned (staV s.data.toList) ∧ ∃ k, w' = w.drewN k := by
  have hI := isSta_of (s := s.data.toList) (by rw [isSt_eq s h, h1, h2, decide_eq_true h3, decide_eq_true h4, h5, h6, h7, h8]; rfl)
  have k7 : 7 < s.size := by omega
  have hx : 7 < (s.extract 0 8).size := by rw [ByteArray.size_extract]; omega
  have hm : (s.extract 0 8)[7] = s[7] := by
    rw [← at_getD hx, ← at_getD k7, Lib.extract_from_zero]; simp [List.getD_eq_getElem?_getD]
  have HM := Lib.hid hm
  clear hm
  rw [at_getD k5, at_getD k7, at_getD k9, at_getD k10, at_getD k11] at hI
  have h48 : s.data.toList.length ≤ 2048 := by rw [← size_len]; exact hs
  have d10 : 48 ≤ (s[10].toNat : Int) ∧ (s[10].toNat : Int) ≤ 57 := by unfold digI at h5; simpa using h5
  have d11 : 48 ≤ (s[11].toNat : Int) ∧ (s[11].toNat : Int) ≤ 57 := by unfold digI at h6; simpa using h6
  obtain ⟨p10, q10⟩ := d10
  obtain ⟨p11, q11⟩ := d11
  have z0 : decide ((s.size : Int) < 13) = false := decide_eq_false (by omega)
  have z1 : decide ((s[9].toNat : Int) < 49) = false := decide_eq_false (by omega)
  have z2 : decide (53 < (s[9].toNat : Int)) = false := decide_eq_false (by omega)
  have g2 : ((s[8].toNat : Int) != 32) = false := by rw [bne, h2]; rfl
  have g7 : ((s[12].toNat : Int) != 32) = false := by rw [bne, h7]; rfl
  have H1 := Lib.hid h1; clear h1
  have H5 := Lib.hid h5; clear h5
  have H6 := Lib.hid h6; clear h6
  have H8 := Lib.hid h8; clear h8
  by_cases g1 : s[5].toNat = 49
  · have b1 : ((s[5].toNat : Int) != 49) = false := by rw [bne_eq_false_iff_eq]; omega
    have HE := Lib.hid (sta_ok h48 hI g1)
    clear g1 hI h48
    go_enter Tryz.func37, Tryz.ntmps37
    go_wp2_with fail
    refine (rversion_any _ _).mono ?_
    rw [H1.out]
    rintro e w' ⟨rfl, rfl⟩
    go_wp2_with fail
    refine (rdigit_any _ _).mono ?_
    rw [H5.out]
    rintro e w' ⟨rfl, rfl⟩
    go_wp2_with fail
    refine (rdigit_any _ _).mono ?_
    rw [H6.out]
    rintro e w' ⟨rfl, rfl⟩
    go_wp2_with fail
    refine (rreason_any _ _ (by unfold maxLen; simp; omega)).mono ?_
    rw [H8.out]
    rintro e w' ⟨rfl, rfl⟩
    go_wp2_with fail
    have w9 : IntKind.u8.wrap ((s[9].toNat : Int) - 48) = (s[9].toNat : Int) - 48 := IntWalk.u8_in _ (by omega)
    have w10 : IntKind.u8.wrap ((s[10].toNat : Int) - 48) = (s[10].toNat : Int) - 48 := IntWalk.u8_in _ (by omega)
    have w11 : IntKind.u8.wrap ((s[11].toNat : Int) - 48) = (s[11].toNat : Int) - 48 := IntWalk.u8_in _ (by omega)
    go_quiet ((go_at_call 65; exact Calls.quiet_of_same (rminor_same _ _ (by unfold maxLen; rw [ByteArray.size_extract]; omega) hx)))
    go_wp2_with fail
    (try simp only [Exit.inBlock, Exit.then])
    refine bodyPost_ret (results_tmp4 rfl _ _ _) rfl ?_
    exact ⟨staV_ok HE.out (bs_of (Lib.extract_to_end s 13)) (congrArg minB HM.out) rfl, _, rfl⟩
  · have b1 : ((s[5].toNat : Int) != 49) = true := by rw [bne_iff_ne]; omega
    have HE : Hid (staE s.data.toList = 9) := sta_ver h48 hI g1
    clear g1 hI h48
    go_enter Tryz.func37, Tryz.ntmps37
    go_wp2_with fail
    refine (rversion_any _ _).mono ?_
    rw [H1.out]
    rintro e w' ⟨rfl, rfl⟩
    go_wp2_with fail
    refine (rdigit_any _ _).mono ?_
    rw [H5.out]
    rintro e w' ⟨rfl, rfl⟩
    go_wp2_with fail
    refine (rdigit_any _ _).mono ?_
    rw [H6.out]
    rintro e w' ⟨rfl, rfl⟩
    go_wp2_with fail
    refine (rreason_any _ _ (by unfold maxLen; simp; omega)).mono ?_
    rw [H8.out]
    rintro e w' ⟨rfl, rfl⟩
    go_wp2_with fail
    (try simp only [Exit.inBlock, Exit.then])
    refine bodyPost_ret (results_tmp4 rfl _ _ _) rfl ?_
    exact ⟨staV_err (by decide) HE.out, 0, rfl⟩
end
end Go.Proofs.YtgkjjmcjlobbpaaGreatDoor

/- The document's own answers on lines, at every text: what is read, what is put. -/
namespace Go.Proofs.YtgkjjmcjlobbpaaGreatDoor
open Go.RowKit

theorem rstatus_any (s : ByteArray) (w : World) (hs : s.size ≤ 1048576) :
    Calls Tryz.prog 37 #[.string s] w fun e w' => e = .returned (staV s.data.toList) ∧ Below w.heap.size w w' := by
  have key : Calls Tryz.prog 37 #[.string s] w fun e w' => e = .returned (staV s.data.toList) ∧ ∃ k, w' = w.drewN k := by
    rcases Nat.lt_or_ge 2048 s.size with g1 | g1
    · exact rstatus_long s w g1 hs
    · rcases Nat.lt_or_ge s.size 13 with g2 | g2
      · exact rstatus_short s w g2
      · have k5 : 5 < s.size := by omega
        have k8 : 8 < s.size := by omega
        have k9 : 9 < s.size := by omega
        have k10 : 10 < s.size := by omega
        have k11 : 11 < s.size := by omega
        have k12 : 12 < s.size := by omega
        cases h1 : isVer (s.extract 0 8).data.toList
        · exact rstatus_v s w g2 g1 h1
        · cases h2 : ((s[8].toNat : Int) == 32)
          · exact rstatus_8 s w g2 k8 g1 h1 h2
          · rcases Int.lt_or_le (s[9].toNat : Int) 49 with h3 | h3
            · exact rstatus_a s w g2 k8 k9 g1 h1 h2 h3
            · rcases Int.lt_or_le 53 (s[9].toNat : Int) with h4 | h4
              · exact rstatus_b s w g2 k8 k9 g1 h1 h2 h3 h4
              · cases h5 : digI (s[10].toNat : Int)
                · exact rstatus_c s w g2 k8 k9 k10 g1 h1 h2 h3 h4 h5
                · cases h6 : digI (s[11].toNat : Int)
                  · exact rstatus_d s w g2 k8 k9 k10 k11 g1 h1 h2 h3 h4 h5 h6
                  · cases h7 : ((s[12].toNat : Int) == 32)
                    · exact rstatus_e s w g2 k8 k9 k10 k11 k12 g1 h1 h2 h3 h4 h5 h6 h7
                    · cases h8 : (s.extract 13 s.size).data.toList.all mayB
                      · exact rstatus_f s w g2 k8 k9 k10 k11 k12 g1 h1 h2 h3 h4 h5 h6 h7 h8
                      · exact rstatus_good s w g2 k8 k9 k10 k11 k12 g1 k5 h1 h2 h3 h4 h5 h6 h7 h8
  refine key.mono ?_
  rintro e w' ⟨rfl, k, rfl⟩
  exact ⟨rfl, below_drewN _ _ _⟩

theorem minor_bad {n : Int} (h : validM n = false) : (n != 0) = true ∧ (n != 1) = true := by
  unfold validM at h; simp at h
  exact ⟨by simpa using h.1, by simpa using h.2⟩
theorem minor_good {n : Int} (h : validM n = true) : (n != 0) = false ∨ ((n != 0) = true ∧ (n != 1) = false) := by
  unfold validM at h; simp at h
  rcases h with rfl | rfl
  · exact .inl rfl
  · exact .inr ⟨rfl, rfl⟩

section
variable (m t : ByteArray) (n : Int) (w : World) (hm : m.size ≤ 1048576) (ht : t.size ≤ 1048576)
include hm ht
set_option maxRecDepth 100000 in
set_option maxHeartbeats 400000 in
theorem rputRequest_bad (h : (token m.data.toList && target t.data.toList && validM n) = false) :
    Calls Tryz.prog 43 #[.string m, .string t, .int .i64 n] w fun e w' => e = .returned (.tuple #[.string ⟨#[]⟩, .int .i64 4]) ∧ w = w' := by
  cases h1 : token m.data.toList
  · have H1 := Lib.hid h1; clear h1 h
    go_enter Tryz.func43, Tryz.ntmps43
    go_wp2_with fail
    refine (rtoken_any m _ (by unfold maxLen; omega)).mono ?_
    rw [H1.out]
    rintro e w1 ⟨rfl, rfl⟩
    go_wp2_with fail
    go_ret2
    exact ⟨rfl, rfl⟩
  · cases h2 : target t.data.toList
    · have H1 := Lib.hid h1
      have H2 := Lib.hid h2
      clear h1 h2 h
      go_enter Tryz.func43, Tryz.ntmps43
      go_wp2_with fail
      refine (rtoken_any m _ (by unfold maxLen; omega)).mono ?_
      rw [H1.out]
      rintro e w1 ⟨rfl, rfl⟩
      go_wp2_with fail
      refine (rtarget_any t _ (by unfold maxLen; omega)).mono ?_
      rw [H2.out]
      rintro e w1 ⟨rfl, rfl⟩
      go_wp2_with fail
      go_ret2
      exact ⟨rfl, rfl⟩
    · obtain ⟨b0, b1⟩ := minor_bad (n := n) (by rw [h1, h2] at h; simpa using h)
      have H1 := Lib.hid h1
      have H2 := Lib.hid h2
      clear h1 h2 h
      go_enter Tryz.func43, Tryz.ntmps43
      go_wp2_with fail
      refine (rtoken_any m _ (by unfold maxLen; omega)).mono ?_
      rw [H1.out]
      rintro e w1 ⟨rfl, rfl⟩
      go_wp2_with fail
      refine (rtarget_any t _ (by unfold maxLen; omega)).mono ?_
      rw [H2.out]
      rintro e w1 ⟨rfl, rfl⟩
      go_wp2_with fail
      go_ret2
      exact ⟨rfl, rfl⟩

set_option maxRecDepth 100000 in
set_option maxHeartbeats 1000000 in
theorem rputRequest_good (h : (token m.data.toList && target t.data.toList && validM n) = true) :
    Calls Tryz.prog 43 #[.string m, .string t, .int .i64 n] w fun e w' => e = .returned (.tuple #[.string (bs (putRL m.data.toList t.data.toList n)), .int .i64 (putRQ m.data.toList t.data.toList n)]) ∧ w = w' := by
  have HQ : Hid (putRQ m.data.toList t.data.toList n = if 1024 < t.data.toList.length ∨ 2048 < (reqLine m.data.toList t.data.toList n).length then 3 else 0) := by
    show putRQ _ _ _ = _
    unfold putRQ; rw [if_pos h]
  rw [Bool.and_eq_true, Bool.and_eq_true] at h
  obtain ⟨⟨h1, h2⟩, h3⟩ := h
  have hv := verN_len n
  have hl := Lib.hid (reqLine_len m t n)
  have hT := Lib.hid (size_len t)
  have H1 := Lib.hid h1
  have H2 := Lib.hid h2
  have H3 := Lib.hid h3
  have hmg := minor_good h3
  clear h1 h2 h3
  by_cases c1 : 1024 < t.size
  · have HQ1 : Hid (putRQ m.data.toList t.data.toList n = 3) := by show _ = _; rw [HQ.out, if_pos (.inl (by rw [← hT.out]; exact c1))]
    rcases hmg with b0 | ⟨b0, b1⟩
    all_goals
      go_enter Tryz.func43, Tryz.ntmps43
      go_wp2_with fail
      refine (rtoken_any m _ (by unfold maxLen; omega)).mono ?_
      rw [H1.out]
      rintro e w1 ⟨rfl, rfl⟩
      go_wp2_with fail
      refine (rtarget_any t _ (by unfold maxLen; omega)).mono ?_
      rw [H2.out]
      rintro e w1 ⟨rfl, rfl⟩
      go_wp2_with fail
      refine (rversionOf_any n _ H3.out).mono ?_
      rintro e w1 ⟨rfl, rfl⟩
      go_wp2_with fail
      go_ret2
      exact ⟨ret_put (by unfold putRL; rw [HQ1.out]; rfl) HQ1.out.symm, rfl⟩
  · by_cases c2 : 2048 < m.size + 1 + t.size + 1 + 8
    · have HQ1 : Hid (putRQ m.data.toList t.data.toList n = 3) := by show _ = _; rw [HQ.out, if_pos (.inr (by rw [hl.out]; exact c2))]
      have c3 : (2048 : Int) < (m.size : Int) + 1 + t.size + 1 + 8 := by omega
      rcases hmg with b0 | ⟨b0, b1⟩
      all_goals
        go_enter Tryz.func43, Tryz.ntmps43
        go_wp2_with fail
        refine (rtoken_any m _ (by unfold maxLen; omega)).mono ?_
        rw [H1.out]
        rintro e w1 ⟨rfl, rfl⟩
        go_wp2_with fail
        refine (rtarget_any t _ (by unfold maxLen; omega)).mono ?_
        rw [H2.out]
        rintro e w1 ⟨rfl, rfl⟩
        go_wp2_with fail
        refine (rversionOf_any n _ H3.out).mono ?_
        rintro e w1 ⟨rfl, rfl⟩
        go_wp2_with fail
        go_ret2
        exact ⟨ret_put (by unfold putRL; rw [HQ1.out]; rfl) HQ1.out.symm, rfl⟩
    · have HQ1 : Hid (putRQ m.data.toList t.data.toList n = 0) := by show _ = _; rw [HQ.out, if_neg (by rw [hl.out, ← hT.out]; omega)]
      have c3 : ¬ (2048 : Int) < (m.size : Int) + 1 + t.size + 1 + 8 := by omega
      rcases hmg with b0 | ⟨b0, b1⟩
      all_goals
        go_enter Tryz.func43, Tryz.ntmps43
        go_wp2_with fail
        refine (rtoken_any m _ (by unfold maxLen; omega)).mono ?_
        rw [H1.out]
        rintro e w1 ⟨rfl, rfl⟩
        go_wp2_with fail
        refine (rtarget_any t _ (by unfold maxLen; omega)).mono ?_
        rw [H2.out]
        rintro e w1 ⟨rfl, rfl⟩
        go_wp2_with fail
        refine (rversionOf_any n _ H3.out).mono ?_
        rintro e w1 ⟨rfl, rfl⟩
        go_wp2_with fail
        go_ret2
        exact ⟨ret_put (by unfold putRL; rw [HQ1.out]; exact line_txt m t n) HQ1.out.symm, rfl⟩
theorem rputRequest_any :
    Calls Tryz.prog 43 #[.string m, .string t, .int .i64 n] w fun e w' => e = .returned (.tuple #[.string (bs (putRL m.data.toList t.data.toList n)), .int .i64 (putRQ m.data.toList t.data.toList n)]) ∧ w = w' := by
  cases h : (token m.data.toList && target t.data.toList && validM n)
  · have hq : putRQ m.data.toList t.data.toList n = 4 := by unfold putRQ; rw [if_neg (by rw [h]; simp)]
    have hl : putRL m.data.toList t.data.toList n = [] := by unfold putRL; rw [hq]; rfl
    rw [hq, hl]
    exact rputRequest_bad m t n w hm ht h
  · exact rputRequest_good m t n w hm ht h
end

/-- a text of three bytes, out of a slice literal -/
theorem three_back (w : World) (a b c : Int) (ha : 0 ≤ a ∧ a < 256) (hb : 0 ≤ b ∧ b < 256) (hc : 0 ≤ c ∧ c < 256) :
    (convert 50 9 (.slice (some ⟨w.heap.size, 0, none⟩) 3 3)).run Tryz.prog (w.alloc (.cells #[.int .u8 a, .int .u8 b, .int .u8 c] 5)) = .ok (.string (bs [UInt8.ofNat a.toNat, UInt8.ofNat b.toNat, UInt8.ofNat c.toNat])) (w.alloc (.cells #[.int .u8 a, .int .u8 b, .int .u8 c] 5)) := by
  have h : rowB (w.alloc (.cells #[.int .u8 a, .int .u8 b, .int .u8 c] 5)) w.heap.size 3 [UInt8.ofNat a.toNat, UInt8.ofNat b.toNat, UInt8.ofNat c.toNat] := by
    refine ⟨_, _, _, _, heap_alloc_new w _, .inr rfl, rfl, ?_⟩

    simp [Lib.byteCells]; omega
  exact h.back 3
end Go.Proofs.YtgkjjmcjlobbpaaGreatDoor

/- The document's own replies' lines that are put. -/
namespace Go.Proofs.YtgkjjmcjlobbpaaGreatDoor
open Go.RowKit

theorem code3_eq {c : Int} (h : 100 ≤ c ∧ c ≤ 599) : [UInt8.ofNat (48 + c / 100).toNat, UInt8.ofNat (48 + c / 10 % 10).toNat, UInt8.ofNat (48 + c % 10).toNat] = code3 c := by
  unfold code3
  rw [show (48 + c / 100).toNat = 48 + c.toNat / 100 from by omega, show (48 + c / 10 % 10).toNat = 48 + c.toNat / 10 % 10 from by omega, show (48 + c % 10).toNat = 48 + c.toNat % 10 from by omega]
section
variable (c : Int) (r : ByteArray) (n : Int) (w : World) (hr : r.size ≤ 1048576)
include hr
set_option maxRecDepth 100000 in
set_option maxHeartbeats 400000 in
theorem rputStatus_bad (h : (validS c && r.data.toList.all mayB && validM n) = false) :
    Calls Tryz.prog 47 #[.int .i64 c, .string r, .int .i64 n] w fun e w' => e = .returned (.tuple #[.string ⟨#[]⟩, .int .i64 4]) ∧ Below w.heap.size w w' := by
  by_cases h1 : c < 100
  · clear h
    go_enter Tryz.func47, Tryz.ntmps47
    go_wp2_with fail
    go_ret2
    exact ⟨rfl, Below.refl _ _⟩
  · by_cases h2 : 599 < c
    · clear h
      go_enter Tryz.func47, Tryz.ntmps47
      go_wp2_with fail
      go_ret2
      exact ⟨rfl, Below.refl _ _⟩
    · have hc : validS c = true := by unfold validS; simp; omega
      rw [hc, Bool.true_and] at h
      clear hc
      cases h3 : r.data.toList.all mayB
      · have H3 := Lib.hid h3
        clear h3 h
        go_enter Tryz.func47, Tryz.ntmps47
        go_wp2_with fail
        refine (rreason_any r _ (by unfold maxLen; omega)).mono ?_
        rw [H3.out]
        rintro e w2 ⟨rfl, rfl⟩
        go_wp2_with fail
        go_ret2
        exact ⟨rfl, Below.refl _ _⟩
      · obtain ⟨b0, b1⟩ := minor_bad (n := n) (by rw [h3] at h; simpa using h)
        have H3 := Lib.hid h3
        clear h3 h
        go_enter Tryz.func47, Tryz.ntmps47
        go_wp2_with fail
        refine (rreason_any r _ (by unfold maxLen; omega)).mono ?_
        rw [H3.out]
        rintro e w2 ⟨rfl, rfl⟩
        go_wp2_with fail
        go_ret2
        exact ⟨rfl, Below.refl _ _⟩

set_option maxRecDepth 100000 in
set_option maxHeartbeats 1000000 in
theorem rputStatus_good (h : (validS c && r.data.toList.all mayB && validM n) = true) :
    Calls Tryz.prog 47 #[.int .i64 c, .string r, .int .i64 n] w fun e w' => e = .returned (.tuple #[.string (bs (putSL c r.data.toList n)), .int .i64 (putSQ c r.data.toList n)]) ∧ Below w.heap.size w w' := by
  have HQ : Hid (putSQ c r.data.toList n = if 2048 < (staLine c r.data.toList n).length then 3 else 0) := by
    show putSQ _ _ _ = _
    unfold putSQ; rw [if_pos h]
  rw [Bool.and_eq_true, Bool.and_eq_true] at h
  obtain ⟨⟨h1, h4⟩, h3⟩ := h
  have hc : 100 ≤ c ∧ c ≤ 599 := by unfold validS at h1; simpa using h1
  have HC := Lib.hid hc
  obtain ⟨c1, c2⟩ := hc
  have H3 := Lib.hid h3
  have H4 := Lib.hid h4
  have hmg := minor_good h3
  have hv := verN_len n
  have hv2 := code3_len c
  have hl := Lib.hid (staLine_len c r n)
  have hb := three_back w (48 + c / 100) (48 + c / 10 % 10) (48 + c % 10) (by omega) (by omega) (by omega)
  rw [code3_eq HC.out] at hb
  clear h1 h3 h4
  rcases hmg with b0 | ⟨b0, b1⟩
  all_goals
    by_cases c3 : 2048 < 8 + 1 + 3 + 1 + r.size
    · have HQ1 : Hid (putSQ c r.data.toList n = 3) := by show _ = _; rw [HQ.out, if_pos (by rw [hl.out]; exact c3)]
      have c4 : (2048 : Int) < 13 + r.size := by omega
      go_enter Tryz.func47, Tryz.ntmps47
      go_wp2_with fail
      refine (rreason_any r _ (by unfold maxLen; omega)).mono ?_
      rw [H4.out]
      rintro e w2 ⟨rfl, rfl⟩
      go_wp2_with fail
      refine (rversionOf_any n _ H3.out).mono ?_
      rintro e w1 ⟨rfl, rfl⟩
      go_wp2_with fail
      go_ret2
      exact ⟨ret_put (by unfold putSL; rw [HQ1.out]; rfl) HQ1.out.symm, (Below.refl _ _).alloc (Nat.le_refl _) _⟩
    · have HQ1 : Hid (putSQ c r.data.toList n = 0) := by show _ = _; rw [HQ.out, if_neg (by rw [hl.out]; omega)]
      have c4 : ¬ (2048 : Int) < 13 + r.size := by omega
      go_enter Tryz.func47, Tryz.ntmps47
      go_wp2_with fail
      refine (rreason_any r _ (by unfold maxLen; omega)).mono ?_
      rw [H4.out]
      rintro e w2 ⟨rfl, rfl⟩
      go_wp2_with fail
      refine (rversionOf_any n _ H3.out).mono ?_
      rintro e w1 ⟨rfl, rfl⟩
      go_wp2_with fail
      go_ret2
      exact ⟨ret_put (by unfold putSL; rw [HQ1.out]; exact staLine_txt c r n) HQ1.out.symm, (Below.refl _ _).alloc (Nat.le_refl _) _⟩
theorem rputStatus_any :
    Calls Tryz.prog 47 #[.int .i64 c, .string r, .int .i64 n] w fun e w' => e = .returned (.tuple #[.string (bs (putSL c r.data.toList n)), .int .i64 (putSQ c r.data.toList n)]) ∧ Below w.heap.size w w' := by
  cases h : (validS c && r.data.toList.all mayB && validM n)
  · have hq : putSQ c r.data.toList n = 4 := by unfold putSQ; rw [if_neg (by rw [h]; simp)]
    have hl : putSL c r.data.toList n = [] := by unfold putSL; rw [hq]; rfl
    rw [hq, hl]
    exact rputStatus_bad c r n w hr h
  · exact rputStatus_good c r n w hr h
end
end Go.Proofs.YtgkjjmcjlobbpaaGreatDoor
