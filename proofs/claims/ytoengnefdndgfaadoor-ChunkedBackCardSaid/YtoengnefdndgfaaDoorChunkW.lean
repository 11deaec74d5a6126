/- What is put in chunks of any sizes is read as the body: the statement's own walk. -/
import Derived.Test.YtoengnefdndgfaaDoorChunkR
import Derived.Test.YtoengnefdndgfaaDoorChunk4
import Derived.Test.YtoengnefdndgfaaDoorOpenI
namespace Go.Proofs.YtoengnefdndgfaaDoor
open Go.RowKit

theorem cat_bs (a : List UInt8) (b : ByteArray) : bs a ++ b = bs (a ++ b.data.toList) := bs_of (by rw [ByteArray.data_append, Array.toList_append]; simp [bs])
set_option maxHeartbeats 4000000 in
set_option maxRecDepth 100000 in
theorem backLaw_any (S : ByteArray) (v : Value) (L : List Int) (M : ByteArray) (w : World) (hL : IL w v L) (he : EnvC w) :
    Calls Tryd.prog 7 #[.string S, v, .string M] w fun e w' => e = .returned (.bool true) ∧ Below w.heap.size w w' := by
  have haw := fun (w' : World) (hb : EnvC w') => awake_any w' hb
  have HAW := Lib.hid haw; have HE := Lib.hid he
  clear haw he
  obtain ⟨A0, c0, rfl⟩ := hL.form
  by_cases hg : 20000 < S.size ∨ 100 < L.length ∨ 20000 < M.size
  · have hg2 : (20000 : Int) < S.size ∨ (¬ (20000 : Int) < S.size ∧ (100 : Int) < L.length) ∨ (¬ (20000 : Int) < S.size ∧ ¬ (100 : Int) < L.length ∧ (20000 : Int) < M.size) := by omega
    clear hg hL
    rcases hg2 with g | ⟨g, g2⟩ | ⟨g, g2, g3⟩
    all_goals
      go_enter Tryd.func7, Tryd.ntmps7
      go_wp2_with fail
      refine (HAW.out _ HE.out).mono ?_; rintro e w1 ⟨rfl, hb1⟩
      go_wp2_with fail
      go_ret
      exact ⟨rfl, hb1⟩
  · have g1 : ¬ (20000 : Int) < S.size := by omega
    have g2 : ¬ (100 : Int) < L.length := by omega
    have g3 : ¬ (20000 : Int) < M.size := by omega
    have hz := size_len S
    have hzM := size_len M
    have henc := encode_any S.data.toList (.slice A0 L.length c0) L w HE.out hL (by omega) (by omega)
    rw [bs_self] at henc
    have hel := enc_len S.data.toList L (by omega)
    obtain ⟨b1, b2⟩ := back_enc S.data.toList L M.data.toList S.size (by omega)
    obtain ⟨-, b3⟩ := back_enc S.data.toList L M.data.toList (S.size - 1) (by omega)
    have hgive := fun (w' : World) (hb : EnvC w') => gives_any (encodeL S.data.toList L ++ M.data.toList) S.data.toList (S.size : Int) ((encodeL S.data.toList L).length : Int) 0 w' hb (by rw [List.length_append]; omega)
    have hd1 : decodeL (encodeL S.data.toList L ++ M.data.toList) (S.size : Int) = (S.data.toList, (encodeL S.data.toList L).length, [], 0) := by
      unfold decodeL; rw [room_len (by omega)]; exact b1 (by omega)
    have hgb : givesB (decodeL (encodeL S.data.toList L ++ M.data.toList) (S.size : Int)) S.data.toList ((encodeL S.data.toList L).length : Int) 0 = true := by
      rw [hd1]; simp [givesB]
    rw [hgb, bs_self] at hgive
    have hfail := fun (h0 : 0 < S.size) (w' : World) (hb : EnvC w') => fails_any (encodeL S.data.toList L ++ M.data.toList) ((S.size : Int) - 1) 3 w' hb (by rw [List.length_append]; omega)
    have hd2 : 0 < S.size → failsB (decodeL (encodeL S.data.toList L ++ M.data.toList) ((S.size : Int) - 1)) 3 = true := by
      intro h0
      unfold decodeL; rw [room_less (by omega) h0, b3 (by omega)]; rfl
    rw [← cat_bs] at hgive
    have hfail2 := fun (h0 : 0 < S.size) (w' : World) (hb : EnvC w') => hfail h0 w' hb
    simp only [← cat_bs] at hfail2
    obtain ⟨E, hE⟩ : ∃ E, E = bs (encodeL S.data.toList L) := ⟨_, rfl⟩
    have hEs : E.size = (encodeL S.data.toList L).length := by rw [hE, bs_size]
    rw [← hE] at henc
    simp only [← hE, ← hEs] at hgive hfail2
    have hel2 : E.size ≤ 300000 := by omega
    have hcat : (E ++ M).size = E.size + M.size := ByteArray.size_append
    have HEN := Lib.hid henc; have HG := Lib.hid hgive
    have hsum : E.size + M.size ≤ 400000 := by omega
    by_cases h0 : S.size = 0
    · have hemp : S.toList.isEmpty = true := by rw [Lib.toList_data, nil_of h0]; rfl
      clear henc hgive hfail hfail2 hd1 hd2 hgb b1 b2 b3 hel hE hEs hL hz hzM hg h0
      go_enter Tryd.func7, Tryd.ntmps7
      go_wp2_with fail
      refine HEN.out.mono ?_; rintro e1 w1 ⟨rfl, hb1⟩
      have HB1 := Lib.hid hb1; have HE1 := Lib.hid (HE.out.bel hb1); clear hb1
      go_wp2_with fail
      refine (HG.out _ HE1.out).mono ?_; rintro e2 w2 ⟨rfl, hb2⟩
      have HB2 := Lib.hid (HB1.out.trans (hb2.mono HB1.out.size)); have HE2 := Lib.hid (HE1.out.bel hb2); clear hb2
      go_wp2_with fail
      refine (HAW.out _ HE2.out).mono ?_; rintro e5 w5 ⟨rfl, hb5⟩
      have HB5 := Lib.hid (HB2.out.trans (hb5.mono HB2.out.size)); clear hb5
      go_wp2_with fail
      go_ret
      exact ⟨rfl, HB5.out⟩
    · have h00 : 0 < S.size := by omega
      have hemp : S.toList.isEmpty = false := by rw [Lib.toList_data, cons_of h00]; rfl
      have hfl := hfail2 h00
      rw [hd2 h00] at hfl
      have HF := Lib.hid hfl
      have h1 : 1 ≤ S.size := h00
      clear henc hgive hfail hfail2 hd1 hd2 hgb b1 b2 b3 hel hE hEs hL hz hzM hg h0 h00 hfl
      go_enter Tryd.func7, Tryd.ntmps7
      go_wp2_with fail
      refine HEN.out.mono ?_; rintro e1 w1 ⟨rfl, hb1⟩
      have HB1 := Lib.hid hb1; have HE1 := Lib.hid (HE.out.bel hb1); clear hb1
      go_wp2_with fail
      refine (HF.out _ HE1.out).mono ?_; rintro e2 w2 ⟨rfl, hb2⟩
      have HB2 := Lib.hid (HB1.out.trans (hb2.mono HB1.out.size)); have HE2 := Lib.hid (HE1.out.bel hb2); clear hb2
      go_wp2_with fail
      refine (HG.out _ HE2.out).mono ?_; rintro e3 w3 ⟨rfl, hb3⟩
      have HB3 := Lib.hid (HB2.out.trans (hb3.mono HB2.out.size)); have HE3 := Lib.hid (HE2.out.bel hb3); clear hb3
      go_wp2_with fail
      refine (HAW.out _ HE3.out).mono ?_; rintro e5 w5 ⟨rfl, hb5⟩
      have HB5 := Lib.hid (HB3.out.trans (hb5.mono HB3.out.size)); clear hb5
      go_wp2_with fail
      go_ret
      exact ⟨rfl, HB5.out⟩
theorem back_law (S : ByteArray) (v : Value) (L : List Int) (M : ByteArray) (w : World) (_ : S.size ≤ maxLen) (hL : IL w v L) (_ : True) (_ : L.length ≤ 9223372036854775807) (_ : M.size ≤ maxLen) (hm : MaxL w) (hl : LibC w) :
    Calls Tryd.prog 7 #[.string S, v, .string M] w fun e w' => e = .returned (.bool true) ∧ Below w.heap.size w w' := backLaw_any S v L M w hL (envC hm hl)
end Go.Proofs.YtoengnefdndgfaaDoor
