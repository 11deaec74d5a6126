/- A beginning of what is read lacks bytes; what stands behind makes no difference: the statement's own walk. -/
import Derived.Test.YtoengnefdndgfaaDoorChunkR
import Derived.Test.YtoengnefdndgfaaDoorChunk3
namespace Go.Proofs.YtoengnefdndgfaaDoor
open Go.RowKit

theorem u16_bnd {n : Int} (h : (Lit.int .u16 n).wf = true) : 0 ≤ n ∧ n < 65536 := by
  simp [Lit.wf, IntKind.min, IntKind.max, IntKind.bits, IntKind.signed] at h
  omega
theorem app_bs (a b : ByteArray) : a ++ b = bs (a.data.toList ++ b.data.toList) := bs_of (by rw [ByteArray.data_append, Array.toList_append])
set_option maxHeartbeats 4000000 in
set_option maxRecDepth 100000 in
theorem cutLaw_any (S : ByteArray) (q : Int) (M : ByteArray) (w : World) (hq : 0 ≤ q ∧ q < 65536) (he : EnvC w) :
    Calls Tryd.prog 8 #[.string S, .int .u16 q, .string M] w fun e w' => e = .returned (.bool true) ∧ Below w.heap.size w w' := by
  have haw := fun (w' : World) (hb : EnvC w') => awake_any w' hb
  have HAW := Lib.hid haw; have HE := Lib.hid he
  clear haw he
  obtain ⟨q0, q1⟩ := hq
  by_cases hg : 3000 < S.size ∨ 3000 < M.size
  · have hg2 : (3000 : Int) < S.size ∨ (¬ (3000 : Int) < S.size ∧ (3000 : Int) < M.size) := by omega
    clear hg
    rcases hg2 with g | ⟨g, g2⟩
    all_goals
      go_enter Tryd.func8, Tryd.ntmps8
      go_wp2_with fail
      refine (HAW.out _ HE.out).mono ?_; rintro e w1 ⟨rfl, hb1⟩
      go_wp2_with fail
      go_ret
      exact ⟨rfl, hb1⟩
  · have g1 : ¬ (3000 : Int) < S.size := by omega
    have g2 : ¬ (3000 : Int) < M.size := by omega
    have hd := decode_any S.data.toList 5000 w HE.out (by rw [← size_len]; omega)
    have hp := plain_decL S.data.toList (roomOf 5000)
    have hloc := dec_local S.data.toList.length S.data.toList (roomOf 5000)
    have hll := dec_few S.data.toList 5000
    rw [bs_self] at hd
    unfold RetD at hd
    rw [show decL S.data.toList (roomOf 5000) = decodeL S.data.toList 5000 from rfl] at hp hloc
    generalize decodeL S.data.toList 5000 = D at hd hp hloc hll
    obtain ⟨a, n, l, x⟩ := D
    simp only at hd hll
    have HD := Lib.hid hd; clear hd hg
    by_cases hx : x = 0
    · subst hx
      obtain ⟨n5, nl, h3, h4⟩ := hloc a n l (Nat.le_refl _) rfl
      rw [← size_len] at nl
      obtain ⟨j, hj, hjn⟩ : ∃ j : Nat, q % (n : Int) = (j : Int) ∧ j < n := ⟨(q % (n : Int)).toNat, by have := Int.emod_nonneg q (show (n : Int) ≠ 0 by omega); omega, by have := Int.emod_lt_of_pos q (show (0 : Int) < n by omega); have := Int.emod_nonneg q (show (n : Int) ≠ 0 by omega); omega⟩
      have hcut : S.extract 0 n ++ M = bs (S.data.toList.take n ++ M.data.toList) := by rw [app_bs, Lib.extract_from_zero]
      have htl : (S.data.toList.take n).length = n := by rw [List.length_take, ← size_len]; omega
      have hD2 : decodeL (S.data.toList.take n ++ M.data.toList) 5000 = (a, n, l, 0) := h4 _ (by rw [List.take_append_of_le_length (by omega), List.take_of_length_le (by omega)])
      have hd2 := fun (w' : World) (hb : EnvC w') => decode_any (S.data.toList.take n ++ M.data.toList) 5000 w' hb (by rw [List.length_append, htl, ← size_len]; omega)
      rw [hD2, ← hcut] at hd2
      unfold RetD at hd2
      simp only at hd2
      have hf := fun (w' : World) (hb : EnvC w') => fails_any (S.data.toList.take j) 5000 6 w' hb (by rw [List.length_take, ← size_len]; omega)
      rw [show decodeL (S.data.toList.take j) 5000 = bad 6 from h3 j hjn, show failsB (bad 6) 6 = true from rfl] at hf
      have hex : S.extract 0 j = bs (S.data.toList.take j) := bs_of (by rw [Lib.extract_from_zero])
      rw [← hex] at hf
      have hes : (S.extract 0 n).size = n := by rw [size_len, Lib.extract_from_zero, htl]
      have hns : (n : Int) ≤ S.size := by omega
      have hn5 : ¬ (n : Int) < 5 := by omega
      have hns2 : ¬ (S.size : Int) < (n : Int) := by omega
      obtain ⟨A, hA⟩ : ∃ A, A = bs a := ⟨_, rfl⟩
      rw [← hA] at HD
      simp only [← hA] at hd2
      have hq2 : (A.toList == A.toList) = true := by simp
      have HD2 := Lib.hid hd2; have HF := Lib.hid hf
      clear hd2 hf hD2 h3 h4 hloc hp hcut hex htl hA
      go_enter Tryd.func8, Tryd.ntmps8
      go_wp2_with fail
      refine HD.out.mono ?_; rintro e1 w1 ⟨v1, rfl, ho1, hb1⟩
      obtain ⟨A1, c1, rfl⟩ := ho1.form
      have HO1 := Lib.hid ho1; have HB1 := Lib.hid hb1; have HE1 := Lib.hid (HE.out.bel hb1); clear ho1 hb1
      go_wp2_with fail
      refine (HD2.out _ HE1.out).mono ?_; rintro e2 w2 ⟨v2, rfl, ho2, hb2⟩
      obtain ⟨A2, c2, rfl⟩ := ho2.form
      have HO2 := Lib.hid (HO1.out.bel hb2); have HP2 := Lib.hid ho2; have HB2 := Lib.hid (HB1.out.trans (hb2.mono HB1.out.size)); have HE2 := Lib.hid (HE1.out.bel hb2); clear ho2 hb2
      go_wp2_with fail
      refine (HF.out _ HE2.out).mono ?_; rintro e3 w3 ⟨rfl, hb3⟩
      have hsame := same7_any _ _ l l w3 (HO2.out.bel hb3).fl (HP2.out.bel hb3).fl (by omega)
      have hll2 : (l == l) = true := by simp
      rw [hll2] at hsame
      have HSM := Lib.hid hsame; have HB3 := Lib.hid (HB2.out.trans (hb3.mono HB2.out.size)); have HE3 := Lib.hid (HE2.out.bel hb3); clear hb3 hsame
      go_wp2_with fail
      refine HSM.out.mono ?_; rintro e4 w4 ⟨rfl, hb4⟩
      have HB4 := Lib.hid (HB3.out.trans (hb4.mono HB3.out.size)); have HE4 := Lib.hid (HE3.out.bel hb4); clear hb4
      go_wp2_with fail
      refine (HAW.out _ HE4.out).mono ?_; rintro e5 w5 ⟨rfl, hb5⟩
      have HB5 := Lib.hid (HB4.out.trans (hb5.mono HB4.out.size)); clear hb5
      go_wp2_with fail
      go_ret
      exact ⟨rfl, HB5.out⟩
    · have hb := hp hx
      simp only [bad, Prod.mk.injEq] at hb
      obtain ⟨rfl, rfl, rfl, -⟩ := hb
      have hne : (x != 0) = true := by simpa using hx
      have h00 : (⟨#[]⟩ : ByteArray).toList.isEmpty = true := by rw [Lib.toList_data]; rfl
      rw [show bs ([] : List UInt8) = ⟨#[]⟩ from rfl] at HD
      clear hp hloc hx
      go_enter Tryd.func8, Tryd.ntmps8
      go_wp2_with fail
      refine HD.out.mono ?_; rintro e1 w1 ⟨v1, rfl, ho1, hb1⟩
      obtain ⟨A1, c1, rfl⟩ := ho1.form
      have HB1 := Lib.hid hb1; have HE1 := Lib.hid (HE.out.bel hb1); clear ho1 hb1
      go_wp2_with fail
      refine (HAW.out _ HE1.out).mono ?_; rintro e5 w5 ⟨rfl, hb5⟩
      have HB5 := Lib.hid (HB1.out.trans (hb5.mono HB1.out.size)); clear hb5
      go_wp2_with fail
      go_ret
      exact ⟨rfl, HB5.out⟩
theorem cut_law (S : ByteArray) (q : Int) (M : ByteArray) (w : World) (_ : S.size ≤ maxLen) (h1 : (Lit.int .u16 q).wf = true) (_ : M.size ≤ maxLen) (hm : MaxL w) (hl : LibC w) :
    Calls Tryd.prog 8 #[.string S, .int .u16 q, .string M] w fun e w' => e = .returned (.bool true) ∧ Below w.heap.size w w' := cutLaw_any S q M w (u16_bnd h1) (envC hm hl)
end Go.Proofs.YtoengnefdndgfaaDoor
