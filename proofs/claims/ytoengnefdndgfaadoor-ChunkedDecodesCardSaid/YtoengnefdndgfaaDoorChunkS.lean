/- What any bytes are as a body in chunks is the document's: the statement's own walk. -/
import Derived.Test.YtoengnefdndgfaaDoorChunkR
import Derived.Test.YtoengnefdndgfaaDoorChunkP
namespace Go.Proofs.YtoengnefdndgfaaDoor
open Go.RowKit

set_option maxHeartbeats 2000000 in
set_option maxRecDepth 100000 in
theorem decodes_any (S : ByteArray) (most : Int) (w : World) (he : EnvC w) :
    Calls Tryd.prog 3 #[.string S, .int .i64 most] w fun e w' => e = .returned (.bool true) ∧ Below w.heap.size w w' := by
  have haw := fun (w' : World) (hb : EnvC w') => awake_any w' hb
  have HAW := Lib.hid haw; have HE := Lib.hid he
  clear haw he
  by_cases hl : 20000 < S.size
  · have hl2 : (20000 : Int) < S.size := by omega
    clear hl
    go_enter Tryd.func3, Tryd.ntmps3
    go_wp2_with fail
    refine (HAW.out _ HE.out).mono ?_; rintro e w1 ⟨rfl, hb1⟩
    go_wp2_with fail
    go_ret
    exact ⟨rfl, hb1⟩
  · have hl2 : ¬ (20000 : Int) < S.size := by omega
    have hsz : S.data.toList.length ≤ 1048576 := by rw [← size_len]; omega
    have hd := decode_any S.data.toList most w HE.out hsz
    have hr := fun w' => rdecode_any S.data.toList most w' hsz
    rw [bs_self] at hd
    simp only [bs_self] at hr
    unfold RetD at hd hr
    have hll := dec_few S.data.toList most
    generalize decodeL S.data.toList most = D at hd hr hll
    obtain ⟨a, n, l, x⟩ := D
    simp only at hd hr hll
    obtain ⟨A, hA⟩ : ∃ A, A = bs a := ⟨_, rfl⟩
    rw [← hA] at hd
    simp only [← hA] at hr
    have hq : (A.toList == A.toList) = true := by simp
    have HD := Lib.hid hd; have HR := Lib.hid hr
    clear hd hr hl hsz hA
    go_enter Tryd.func3, Tryd.ntmps3
    go_wp2_with fail
    refine HD.out.mono ?_; rintro e1 w1 ⟨v1, rfl, ho1, hb1⟩
    obtain ⟨A1, c1, rfl⟩ := ho1.form
    have HO1 := Lib.hid ho1; have HB1 := Lib.hid hb1; have HE1 := Lib.hid (HE.out.bel hb1); clear ho1 hb1
    go_wp2_with fail
    refine (HR.out _).mono ?_; rintro e2 w2 ⟨v2, rfl, ho2, hb2⟩
    obtain ⟨A2, c2, rfl⟩ := ho2.form
    have hsame := same7_any _ _ l l w2 (HO1.out.bel hb2).fl ho2.fl (by omega)
    have HSM := Lib.hid hsame; have HB2 := Lib.hid (HB1.out.trans (hb2.mono HB1.out.size)); have HE2 := Lib.hid (HE1.out.bel hb2); clear ho2 hb2 hsame
    go_wp2_with fail
    refine HSM.out.mono ?_; rintro e3 w3 ⟨rfl, hb3⟩
    have HB3 := Lib.hid (HB2.out.trans (hb3.mono HB2.out.size)); have HE3 := Lib.hid (HE2.out.bel hb3); clear hb3
    have hll2 : (l == l) = true := by simp
    go_wp2_with fail
    refine (HAW.out _ HE3.out).mono ?_; rintro e4 w4 ⟨rfl, hb4⟩
    have HB4 := Lib.hid (HB3.out.trans (hb4.mono HB3.out.size)); clear hb4
    go_wp2_with fail
    go_ret
    exact ⟨rfl, HB4.out⟩
theorem decodes_law (S : ByteArray) (most : Int) (w : World) (_ : S.size ≤ maxLen) (_ : (Lit.int .i64 most).wf = true) (hm : MaxL w) (hl : LibC w) :
    Calls Tryd.prog 3 #[.string S, .int .i64 most] w fun e w' => e = .returned (.bool true) ∧ Below w.heap.size w w' := decodes_any S most w (envC hm hl)
end Go.Proofs.YtoengnefdndgfaaDoor
