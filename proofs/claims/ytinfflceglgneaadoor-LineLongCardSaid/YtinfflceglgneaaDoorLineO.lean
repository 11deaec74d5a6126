/- LineBack, LineAgain: walked, at every input. -/
import Derived.Test.YtinfflceglgneaaDoorLineN
import Derived.Test.YtinfflceglgneaaDoorGrow3
namespace Go.Proofs.YtinfflceglgneaaDoor
open Go.RowKit

set_option maxRecDepth 100000 in
set_option maxHeartbeats 1000000 in
theorem lineBack_far (a b : ByteArray) (n c : Int) (w : World) (ha : a.size ≤ maxLen) (hb : b.size ≤ maxLen) (he : Env w) (h5 : 5000 < a.size ∨ (¬ 5000 < a.size ∧ 5000 < b.size)) :
    Calls Tryd.prog 7 #[.string a, .string b, .agg #[.int .i64 n, .int .i64 c]] w fun e w' => e = .returned (.bool true) ∧ Below w.heap.size w w' := by
  unfold maxLen at ha hb
  have HE := Lib.hid he; clear he
  have HB0 : Hid (Below w.heap.size w (w.alloc (.cells #[.int .i64 n, .int .i64 c] 33))) := (Below.refl _ _).alloc (Nat.le_refl _) _
  rcases h5 with h5 | ⟨h6, h5⟩
  all_goals
    go_enter Tryd.func7, Tryd.ntmps7
    go_wp2_with fail
    refine (awake_any _ (HE.out.below HB0.out (Nat.le_refl _))).mono ?_
    rintro e w1 ⟨rfl, hb1⟩
    go_wp2_with fail
    go_ret
    exact ⟨rfl, HB0.out.trans (hb1.mono HB0.out.size)⟩
theorem lineBack_any (a b : ByteArray) (n c : Int) (w : World) (ha : a.size ≤ maxLen) (hb : b.size ≤ maxLen) (he : Env w) :
    Calls Tryd.prog 7 #[.string a, .string b, .agg #[.int .i64 n, .int .i64 c]] w fun e w' => e = .returned (.bool true) ∧ Below w.heap.size w w' := by
  by_cases h5 : 5000 < a.size ∨ (¬ 5000 < a.size ∧ 5000 < b.size)
  · exact lineBack_far a b n c w ha hb he h5
  · have ha' : a.size ≤ 5000 := by omega
    have hb' : b.size ≤ 5000 := by omega
    by_cases h1 : putRQ a.data.toList b.data.toList n = 0
    · by_cases h2 : putSQ c b.data.toList n = 0
      · exact lineBack_11 a b n c w ha' hb' he h1 h2
      · exact lineBack_10 a b n c w ha' hb' he h1 h2
    · by_cases h2 : putSQ c b.data.toList n = 0
      · exact lineBack_01 a b n c w ha' hb' he h1 h2
      · exact lineBack_00 a b n c w ha' hb' he h1 h2

/-- the place ahead of a text's last byte, as the walk reckons it -/
theorem last_in (s : ByteArray) (h : 1 ≤ s.size) (h2 : s.size ≤ 5000) : Hid (IntKind.i64.wrap ((s.size : Int) - 1) = (s.size : Int) - 1 ∧ (1 : Int) ≤ (s.size : Int) ∧ (s.size : Int) - 1 ≤ s.size ∧ ((s.size : Int) - 1).toNat = s.size - 1) :=
  ⟨IntWalk.i64_in _ (by omega), by omega, by omega, by omega⟩
section
variable (s : ByteArray) (w : World) (he : Env w) (hs : s.size ≤ 5000)
include he hs
set_option maxRecDepth 100000 in
set_option maxHeartbeats 1000000 in
theorem lineAgain_req (h : reqE s.data.toList = 0) :
    Calls Tryd.prog 8 #[.string s] w fun e w' => e = .returned (.bool true) ∧ Below w.heap.size w w' := by
  have HE := Lib.hid he; clear he
  have h6 : ¬ 5000 < s.size := by omega
  obtain ⟨q, hlen, htk, h1, h2048⟩ := again_req h
  have HB := Lib.hid (back_req q)
  have hsta := read_one h
  obtain ⟨K, hK⟩ : ∃ K, K = staE s.data.toList := ⟨_, rfl⟩
  have k2 : (K == 0) = false := by rw [hK]; simpa using hsta
  have k3 : (K != 0) = true := by rw [hK]; simpa using hsta
  obtain ⟨M, hM⟩ : ∃ M, M = bs (reqM s.data.toList) := ⟨_, rfl⟩
  obtain ⟨T, hT⟩ : ∃ T, T = bs (reqT s.data.toList) := ⟨_, rfl⟩
  obtain ⟨S, hS⟩ : ∃ S, S = bs (putRL (reqM s.data.toList) (reqT s.data.toList) (reqN s.data.toList)) := ⟨_, rfl⟩
  have HM : Hid (M.data.toList = reqM s.data.toList) := by show _ = _; rw [hM, bs_data]
  have HT : Hid (T.data.toList = reqT s.data.toList) := by show _ = _; rw [hT, bs_data]
  have HS : Hid (S.data.toList = putRL (reqM s.data.toList) (reqT s.data.toList) (reqN s.data.toList)) := by show _ = _; rw [hS, bs_data]
  have hM5 : M.size ≤ 5000 := by
    have := (req_read h).2
    obtain ⟨m, t, d2, hr, _, e1, _⟩ := this
    have e2 : s.size = _ := (size_len s).trans (congrArg List.length hr.eq)
    rw [size_len, HM.out, e1]; simp at e2; omega
  have hT5 : T.size ≤ 5000 := by
    have := (req_read h).2
    obtain ⟨m, t, d2, hr, hl, e1, e2, _⟩ := this
    rw [size_len, HT.out, e2]; omega
  have hSs : S.size = s.size := by rw [size_len, HS.out, hlen, ← size_len]
  have hS5 : S.size ≤ 5000 := by omega
  have b1 : ((S.size : Int) != (s.size : Int)) = false := by rw [hSs]; simp
  have b2 : ((S.extract 0 (S.size - 1)).toList == (s.extract 0 (s.size - 1)).toList) = true := by
    rw [Lib.toList_data, Lib.toList_data, Lib.extract_from_zero, Lib.extract_from_zero, hSs, HS.out, size_len, htk]; simp
  have z1 : 1 ≤ s.size := by rw [size_len]; exact h1
  have z2 : 1 ≤ S.size := by omega
  have HSS := Lib.hid hS
  have HMM := Lib.hid hM
  have HTT := Lib.hid hT
  have HKK := Lib.hid hK
  have HQ := Lib.hid q
  have H0 := Lib.hid h
  clear hS hM hT hK q h hSs hlen htk h1 h2048 hsta
  go_enter Tryd.func8, Tryd.ntmps8
  go_wp2_with fail
  refine (request_any s _ HE.out (by omega)).mono ?_
  rw [H0.out, ← HMM.out, ← HTT.out]
  rintro e w1 ⟨rfl, hb1⟩
  have HB1 := Lib.hid hb1; clear hb1
  have HE1 : Hid (Env w1) := HE.out.below HB1.out (Nat.le_refl _)
  go_wp2_with fail
  refine (status_any s _ HE1.out (by omega)).mono ?_
  rw [← HKK.out]
  rintro e w2 ⟨rfl, hb2⟩
  have HB2 : Hid (Below w.heap.size w w2) := HB1.out.trans (hb2.mono HB1.out.size)
  clear hb2
  have HE2 : Hid (Env w2) := HE.out.below HB2.out (Nat.le_refl _)
  go_wp2_with fail
  refine (putRequest_any M T (reqN s.data.toList) _ (by omega) (by omega)).mono ?_
  rw [HM.out, HT.out, HQ.out, ← HSS.out]
  rintro e w3 ⟨rfl, hb3⟩
  have HB3 : Hid (Below w.heap.size w w3) := HB2.out.trans (hb3.mono HB2.out.size)
  clear hb3
  have HE3 : Hid (Env w3) := HE.out.below HB3.out (Nat.le_refl _)
  go_wp2_with fail
  have QA := last_in s z1 hs
  have QB := last_in S z2 hS5
  have HB3d : Hid (Below w.heap.size w w3.drew) := HB3.out.drew
  have HE3d : Hid (Env w3.drew) := HE3.out
  clear HB3 HE3
  -- REGION 7
  refine wp_region_growS (.one 0 false (.one 1 false (.one 2 false (.one 3 false (.one 4 false (.one 5 false (.one 6 false (.one 7 true (.one 8 false (.one 9 false (.one 10 false (.one 11 false (.one 12 false (.one 13 false (.one 14 false (.one 15 false (.one 16 false (.one 17 false (.one 18 false (.one 19 false (.one 20 false (.one 21 false (.one 22 false (.one 23 false (.one 24 false (.one 25 false (.one 26 false (.one 27 false (.one 28 false (.one 29 false .done))))))))))))))))))))))))))))))
    (fun _ => True) (by kernel_rfl) (by kernel_rfl) rfl (by kernel_rfl) (by kernel_rfl) trivial (fun ops hops => ?_)
  simp only [GT.ins, List.getD_cons_zero, List.getD_cons_succ]
  have g2 : (ops[2]?).bind (·.dst) = some 44 := by rw [hops.out]; rfl
  have g10 : (ops[10]?).bind (·.dst) = some 52 := by rw [hops.out]; rfl
  have g17 : (ops[17]?).bind (·.dst) = some 59 := by rw [hops.out]; rfl
  have G2 := Lib.hid g2
  have G10 := Lib.hid g10
  have G17 := Lib.hid g17
  clear hops g2 g10 g17
  iterate 3
    refine growS_take (by rfl) ?_
    apply Exists.intro
    refine ⟨fun w' hE => ?_, ?_⟩
    · obtain ⟨q1, q2, q3, q4⟩ := QA.out; obtain ⟨r1, r2, r3, r4⟩ := QB.out
      go_simp
      try with_reducible rfl
    simp only [Act.put, List.setIfInBounds_toArray, List.set_cons_zero, List.set_cons_succ]
  iterate 4
    refine growS_take (wantedS G2.out rfl rfl) ?_
    apply Exists.intro
    refine ⟨fun w' hE => ?_, ?_⟩
    · obtain ⟨q1, q2, q3, q4⟩ := QA.out; obtain ⟨r1, r2, r3, r4⟩ := QB.out
      go_simp
      try with_reducible rfl
    simp only [Act.put, List.setIfInBounds_toArray, List.set_cons_zero, List.set_cons_succ]
  refine growS_call (wantedS G2.out rfl rfl) (fun K hK => ?_)
  go_simp
  refine (asks_yes S _ HE3d.out (by omega) M T (reqN s.data.toList) (by rw [HS.out, HM.out, HT.out]; exact HB.out.1)).mono ?_
  rintro e w4 ⟨rfl, hb⟩
  refine hK.out _ _ trivial ?_
  have HB4 : Hid (Below w.heap.size w w4) := HB3d.out.trans (hb.mono HB3d.out.size)
  clear hK K hb
  iterate 1
    refine growS_take (wantedS G2.out rfl rfl) ?_
    apply Exists.intro
    refine ⟨fun w' hE => ?_, ?_⟩
    · obtain ⟨q1, q2, q3, q4⟩ := QA.out; obtain ⟨r1, r2, r3, r4⟩ := QB.out
      go_simp
      try with_reducible rfl
    simp only [Act.put, List.setIfInBounds_toArray, List.set_cons_zero, List.set_cons_succ]
  iterate 2
    refine growS_take (by rfl) ?_
    apply Exists.intro
    refine ⟨fun w' hE => ?_, ?_⟩
    · obtain ⟨q1, q2, q3, q4⟩ := QA.out; obtain ⟨r1, r2, r3, r4⟩ := QB.out
      go_simp
      try with_reducible rfl
    simp only [Act.put, List.setIfInBounds_toArray, List.set_cons_zero, List.set_cons_succ]
  iterate 5
    refine growS_take (wantedS G10.out rfl rfl) ?_
    apply Exists.intro
    refine ⟨fun w' hE => ?_, ?_⟩
    · obtain ⟨q1, q2, q3, q4⟩ := QA.out; obtain ⟨r1, r2, r3, r4⟩ := QB.out
      go_simp
      try with_reducible rfl
    simp only [Act.put, List.setIfInBounds_toArray, List.set_cons_zero, List.set_cons_succ]
  iterate 2
    refine growS_take (by rfl) ?_
    apply Exists.intro
    refine ⟨fun w' hE => ?_, ?_⟩
    · obtain ⟨q1, q2, q3, q4⟩ := QA.out; obtain ⟨r1, r2, r3, r4⟩ := QB.out
      go_simp
      try with_reducible rfl
    simp only [Act.put, List.setIfInBounds_toArray, List.set_cons_zero, List.set_cons_succ]
  iterate 11
    refine growS_take (wantedS G17.out rfl rfl) ?_
    apply Exists.intro
    refine ⟨fun w' hE => ?_, ?_⟩
    · obtain ⟨q1, q2, q3, q4⟩ := QA.out; obtain ⟨r1, r2, r3, r4⟩ := QB.out
      go_simp
      try with_reducible rfl
    simp only [Act.put, List.setIfInBounds_toArray, List.set_cons_zero, List.set_cons_succ]
  iterate 1
    refine growS_take (by rfl) ?_
    apply Exists.intro
    refine ⟨fun w' hE => ?_, ?_⟩
    · obtain ⟨q1, q2, q3, q4⟩ := QA.out; obtain ⟨r1, r2, r3, r4⟩ := QB.out
      go_simp
      try with_reducible rfl
    simp only [Act.put, List.setIfInBounds_toArray, List.set_cons_zero, List.set_cons_succ]
  refine growS_done (NoPanic.normal ?_)
  -- END
  have HE4 : Hid (Env w4) := HE.out.below HB4.out (Nat.le_refl _)
  go_wp2_with fail
  refine (awake_any _ HE4.out).mono ?_
  rintro e wz ⟨rfl, hbz⟩
  go_wp2_with fail
  go_ret
  exact ⟨rfl, HB4.out.trans (hbz.mono HB4.out.size)⟩

set_option maxRecDepth 100000 in
set_option maxHeartbeats 1000000 in
theorem lineAgain_sta (h : staE s.data.toList = 0) :
    Calls Tryd.prog 8 #[.string s] w fun e w' => e = .returned (.bool true) ∧ Below w.heap.size w w' := by
  have HE := Lib.hid he; clear he
  have h6 : ¬ 5000 < s.size := by omega
  obtain ⟨q, hlen, htk, h1, h2048⟩ := again_sta h
  have HB := Lib.hid (back_sta q)
  have hreq : reqE s.data.toList ≠ 0 := fun hh => read_one hh h
  obtain ⟨K, hK⟩ : ∃ K, K = reqE s.data.toList := ⟨_, rfl⟩
  have k2 : (K == 0) = false := by rw [hK]; simpa using hreq
  have k3 : (K != 0) = true := by rw [hK]; simpa using hreq
  obtain ⟨R, hR⟩ : ∃ R, R = bs (staR s.data.toList) := ⟨_, rfl⟩
  obtain ⟨S, hS⟩ : ∃ S, S = bs (putSL (staC s.data.toList) (staR s.data.toList) (staN s.data.toList)) := ⟨_, rfl⟩
  have HR : Hid (R.data.toList = staR s.data.toList) := by show _ = _; rw [hR, bs_data]
  have HS : Hid (S.data.toList = putSL (staC s.data.toList) (staR s.data.toList) (staN s.data.toList)) := by show _ = _; rw [hS, bs_data]
  have hR5 : R.size ≤ 5000 := by
    obtain ⟨d2, a, b, c, r, hr, _, e1, _⟩ := (sta_read h).2
    have e2 : s.size = _ := (size_len s).trans (congrArg List.length hr.eq)
    rw [size_len, HR.out, e1]; simp at e2; omega
  have hSs : S.size = s.size := by rw [size_len, HS.out, hlen, ← size_len]
  have hS5 : S.size ≤ 5000 := by omega
  have b1 : ((S.size : Int) != (s.size : Int)) = false := by rw [hSs]; simp
  have b2 : ((S.extract 8 S.size).toList == (s.extract 8 s.size).toList) = true := by
    rw [Lib.toList_data, Lib.toList_data, Lib.extract_to_end, Lib.extract_to_end, HS.out, htk]; simp
  have z1 : 8 ≤ s.size := by rw [size_len]; exact h1
  have z2 : 8 ≤ S.size := by omega
  have QQ : Hid ((8 : Int) ≤ (s.size : Int) ∧ (8 : Int) ≤ (S.size : Int)) := ⟨by omega, by omega⟩
  have HSS := Lib.hid hS
  have HRR := Lib.hid hR
  have HKK := Lib.hid hK
  have HQ := Lib.hid q
  have H0 := Lib.hid h
  clear hS hR hK q h hSs hlen htk h1 h2048 hreq
  go_enter Tryd.func8, Tryd.ntmps8
  go_wp2_with fail
  refine (request_any s _ HE.out (by omega)).mono ?_
  rw [← HKK.out]
  rintro e w1 ⟨rfl, hb1⟩
  have HB1 := Lib.hid hb1; clear hb1
  have HE1 : Hid (Env w1) := HE.out.below HB1.out (Nat.le_refl _)
  go_wp2_with fail
  refine (status_any s _ HE1.out (by omega)).mono ?_
  rw [H0.out, ← HRR.out]
  rintro e w2 ⟨rfl, hb2⟩
  have HB2 : Hid (Below w.heap.size w w2) := HB1.out.trans (hb2.mono HB1.out.size)
  clear hb2
  have HE2 : Hid (Env w2) := HE.out.below HB2.out (Nat.le_refl _)
  go_wp2_with fail
  refine (putStatus_any (staC s.data.toList) R (staN s.data.toList) _ (by omega) HE2.out).mono ?_
  rw [HR.out, HQ.out, ← HSS.out]
  rintro e w3 ⟨rfl, hb3⟩
  have HB3 : Hid (Below w.heap.size w w3) := HB2.out.trans (hb3.mono HB2.out.size)
  clear hb3
  have HE3 : Hid (Env w3) := HE.out.below HB3.out (Nat.le_refl _)
  go_wp2_with fail
  have HB3d : Hid (Below w.heap.size w w3.drew) := HB3.out.drew
  have HE3d : Hid (Env w3.drew) := HE3.out
  clear HB3 HE3
  -- REGION 11
  refine wp_region_growS (.one 0 false (.one 1 false (.one 2 false (.one 3 false (.one 4 false (.one 5 false (.one 6 false (.one 7 true (.one 8 false (.one 9 false (.one 10 false (.one 11 false (.one 12 false (.one 13 false (.one 14 false (.one 15 false (.one 16 false (.one 17 false (.one 18 false (.one 19 false (.one 20 false (.one 21 false (.one 22 false (.one 23 false .done))))))))))))))))))))))))
    (fun _ => True) (by kernel_rfl) (by kernel_rfl) rfl (by kernel_rfl) (by kernel_rfl) trivial (fun ops hops => ?_)
  simp only [GT.ins, List.getD_cons_zero, List.getD_cons_succ]
  have g2 : (ops[2]?).bind (·.dst) = some 83 := by rw [hops.out]; rfl
  have g10 : (ops[10]?).bind (·.dst) = some 91 := by rw [hops.out]; rfl
  have g17 : (ops[17]?).bind (·.dst) = some 98 := by rw [hops.out]; rfl
  have G2 := Lib.hid g2
  have G10 := Lib.hid g10
  have G17 := Lib.hid g17
  clear hops g2 g10 g17
  iterate 3
    refine growS_take (by rfl) ?_
    apply Exists.intro
    refine ⟨fun w' hE => ?_, ?_⟩
    · obtain ⟨q1, q2⟩ := QQ.out
      go_simp
      try with_reducible rfl
    simp only [Act.put, List.setIfInBounds_toArray, List.set_cons_zero, List.set_cons_succ]
  iterate 4
    refine growS_take (wantedS G2.out rfl rfl) ?_
    apply Exists.intro
    refine ⟨fun w' hE => ?_, ?_⟩
    · obtain ⟨q1, q2⟩ := QQ.out
      go_simp
      try with_reducible rfl
    simp only [Act.put, List.setIfInBounds_toArray, List.set_cons_zero, List.set_cons_succ]
  refine growS_call (wantedS G2.out rfl rfl) (fun K hK => ?_)
  go_simp
  refine (says_yes S _ HE3d.out (by omega) R (staC s.data.toList) (staN s.data.toList) (by rw [HS.out, HR.out]; exact HB.out.1)).mono ?_
  rintro e w4 ⟨rfl, hb⟩
  refine hK.out _ _ trivial ?_
  have HB4 : Hid (Below w.heap.size w w4) := HB3d.out.trans (hb.mono HB3d.out.size)
  clear hK K hb
  iterate 1
    refine growS_take (wantedS G2.out rfl rfl) ?_
    apply Exists.intro
    refine ⟨fun w' hE => ?_, ?_⟩
    · obtain ⟨q1, q2⟩ := QQ.out
      go_simp
      try with_reducible rfl
    simp only [Act.put, List.setIfInBounds_toArray, List.set_cons_zero, List.set_cons_succ]
  iterate 2
    refine growS_take (by rfl) ?_
    apply Exists.intro
    refine ⟨fun w' hE => ?_, ?_⟩
    · obtain ⟨q1, q2⟩ := QQ.out
      go_simp
      try with_reducible rfl
    simp only [Act.put, List.setIfInBounds_toArray, List.set_cons_zero, List.set_cons_succ]
  iterate 5
    refine growS_take (wantedS G10.out rfl rfl) ?_
    apply Exists.intro
    refine ⟨fun w' hE => ?_, ?_⟩
    · obtain ⟨q1, q2⟩ := QQ.out
      go_simp
      try with_reducible rfl
    simp only [Act.put, List.setIfInBounds_toArray, List.set_cons_zero, List.set_cons_succ]
  iterate 2
    refine growS_take (by rfl) ?_
    apply Exists.intro
    refine ⟨fun w' hE => ?_, ?_⟩
    · obtain ⟨q1, q2⟩ := QQ.out
      go_simp
      try with_reducible rfl
    simp only [Act.put, List.setIfInBounds_toArray, List.set_cons_zero, List.set_cons_succ]
  iterate 5
    refine growS_take (wantedS G17.out rfl rfl) ?_
    apply Exists.intro
    refine ⟨fun w' hE => ?_, ?_⟩
    · obtain ⟨q1, q2⟩ := QQ.out
      go_simp
      try with_reducible rfl
    simp only [Act.put, List.setIfInBounds_toArray, List.set_cons_zero, List.set_cons_succ]
  iterate 1
    refine growS_take (by rfl) ?_
    apply Exists.intro
    refine ⟨fun w' hE => ?_, ?_⟩
    · obtain ⟨q1, q2⟩ := QQ.out
      go_simp
      try with_reducible rfl
    simp only [Act.put, List.setIfInBounds_toArray, List.set_cons_zero, List.set_cons_succ]
  refine growS_done (NoPanic.normal ?_)
  -- END
  have HE4 : Hid (Env w4) := HE.out.below HB4.out (Nat.le_refl _)
  go_wp2_with fail
  refine (awake_any _ HE4.out).mono ?_
  rintro e wz ⟨rfl, hbz⟩
  go_wp2_with fail
  go_ret
  exact ⟨rfl, HB4.out.trans (hbz.mono HB4.out.size)⟩

set_option maxRecDepth 100000 in
set_option maxHeartbeats 1000000 in
theorem lineAgain_no (h : reqE s.data.toList ≠ 0) (h2 : staE s.data.toList ≠ 0) :
    Calls Tryd.prog 8 #[.string s] w fun e w' => e = .returned (.bool true) ∧ Below w.heap.size w w' := by
  have HE := Lib.hid he; clear he
  have h6 : ¬ 5000 < s.size := by omega
  obtain ⟨K, hK⟩ : ∃ K, K = reqE s.data.toList := ⟨_, rfl⟩
  have k2 : (K == 0) = false := by rw [hK]; simpa using h
  have k3 : (K != 0) = true := by rw [hK]; simpa using h
  obtain ⟨L, hL⟩ : ∃ L, L = staE s.data.toList := ⟨_, rfl⟩
  have k4 : (L == 0) = false := by rw [hL]; simpa using h2
  have k5 : (L != 0) = true := by rw [hL]; simpa using h2
  have HKK := Lib.hid hK
  have HLL := Lib.hid hL
  clear hK hL h h2
  go_enter Tryd.func8, Tryd.ntmps8
  go_wp2_with fail
  refine (request_any s _ HE.out (by omega)).mono ?_
  rw [← HKK.out]
  rintro e w1 ⟨rfl, hb1⟩
  have HB1 := Lib.hid hb1; clear hb1
  have HE1 : Hid (Env w1) := HE.out.below HB1.out (Nat.le_refl _)
  go_wp2_with fail
  refine (status_any s _ HE1.out (by omega)).mono ?_
  rw [← HLL.out]
  rintro e w4 ⟨rfl, hb2⟩
  have HB4 : Hid (Below w.heap.size w w4) := HB1.out.trans (hb2.mono HB1.out.size)
  clear hb2
  have HE4 : Hid (Env w4) := HE.out.below HB4.out (Nat.le_refl _)
  go_wp2_with fail
  refine (awake_any _ HE4.out).mono ?_
  rintro e wz ⟨rfl, hbz⟩
  go_wp2_with fail
  go_ret
  exact ⟨rfl, HB4.out.trans (hbz.mono HB4.out.size)⟩
end
set_option maxRecDepth 100000 in
set_option maxHeartbeats 1000000 in
theorem lineAgain_far (s : ByteArray) (w : World) (hs : s.size ≤ maxLen) (he : Env w) (h5 : 5000 < s.size) :
    Calls Tryd.prog 8 #[.string s] w fun e w' => e = .returned (.bool true) ∧ Below w.heap.size w w' := by
  unfold maxLen at hs
  have HE := Lib.hid he; clear he
  go_enter Tryd.func8, Tryd.ntmps8
  go_wp2_with fail
  refine (awake_any _ HE.out).mono ?_
  rintro e w1 ⟨rfl, hb1⟩
  go_wp2_with fail
  go_ret
  exact ⟨rfl, hb1⟩
theorem lineAgain_any (s : ByteArray) (w : World) (hs : s.size ≤ maxLen) (he : Env w) :
    Calls Tryd.prog 8 #[.string s] w fun e w' => e = .returned (.bool true) ∧ Below w.heap.size w w' := by
  rcases Nat.lt_or_ge 5000 s.size with h5 | h5
  · exact lineAgain_far s w hs he h5
  · by_cases h1 : reqE s.data.toList = 0
    · exact lineAgain_req s w he h5 h1
    · by_cases h2 : staE s.data.toList = 0
      · exact lineAgain_sta s w he h5 h2
      · exact lineAgain_no s w he h5 h1 h2
end Go.Proofs.YtinfflceglgneaaDoor
