/- What a body becomes in chunks of any sizes is the document's: the statement's own walk. -/
import Derived.Test.YtoengnefdndgfaaDoorChunkR
import Derived.Test.YtoengnefdndgfaaDoorChunkY
import Derived.Test.YtoengnefdndgfaaDoorOpenI
namespace Go.Proofs.YtoengnefdndgfaaDoor
open Go.RowKit

set_option maxHeartbeats 4000000 in
set_option maxRecDepth 100000 in
theorem encodesLaw_any (S : ByteArray) (v : Value) (L : List Int) (w : World) (hL : IL w v L) (he : EnvC w) :
    Calls Tryd.prog 4 #[.string S, v] w fun e w' => e = .returned (.bool true) ∧ Below w.heap.size w w' := by
  have haw := fun (w' : World) (hb : EnvC w') => awake_any w' hb
  have HAW := Lib.hid haw; have HE := Lib.hid he
  clear haw he
  obtain ⟨A0, c0, rfl⟩ := hL.form
  by_cases hg : 20000 < S.size ∨ 100 < L.length
  · have hg2 : (20000 : Int) < S.size ∨ (¬ (20000 : Int) < S.size ∧ (100 : Int) < L.length) := by omega
    clear hg hL
    rcases hg2 with g | ⟨g, g2⟩
    all_goals
      go_enter Tryd.func4, Tryd.ntmps4
      go_wp2_with fail
      refine (HAW.out _ HE.out).mono ?_; rintro e w1 ⟨rfl, hb1⟩
      go_wp2_with fail
      go_ret
      exact ⟨rfl, hb1⟩
  · have g1 : ¬ (20000 : Int) < S.size := by omega
    have g2 : ¬ (100 : Int) < L.length := by omega
    have hz := size_len S
    have henc := encode_any S.data.toList (.slice A0 L.length c0) L w HE.out hL (by omega) (by omega)
    have hren := fun (w' : World) (hb : Below w.heap.size w w') => rencode_any S.data.toList (.slice A0 L.length c0) L w' (hL.bel hb) (by omega) (by omega)
    rw [bs_self] at henc
    simp only [bs_self] at hren
    generalize bs (encodeL S.data.toList L) = E at henc hren
    have HEN := Lib.hid henc; have HRN := Lib.hid hren
    clear henc hren hL hz hg
    go_enter Tryd.func4, Tryd.ntmps4
    go_wp2_with fail
    refine HEN.out.mono ?_; rintro e1 w1 ⟨rfl, hb1⟩
    have HB1 := Lib.hid hb1; have HE1 := Lib.hid (HE.out.bel hb1); clear hb1
    go_wp2_with fail
    refine (HRN.out _ HB1.out).mono ?_; rintro e2 w2 ⟨rfl, hb2⟩
    have HB2 := Lib.hid (HB1.out.trans (hb2.mono HB1.out.size)); have HE2 := Lib.hid (HE1.out.bel hb2); clear hb2
    go_wp2_with fail
    refine (HAW.out _ HE2.out).mono ?_; rintro e5 w5 ⟨rfl, hb5⟩
    have HB5 := Lib.hid (HB2.out.trans (hb5.mono HB2.out.size)); clear hb5
    go_wp2_with fail
    go_ret
    exact ⟨rfl, HB5.out⟩
theorem encodes_law (S : ByteArray) (v : Value) (L : List Int) (w : World) (_ : S.size ≤ maxLen) (hL : IL w v L) (_ : True) (_ : L.length ≤ 9223372036854775807) (hm : MaxL w) (hl : LibC w) :
    Calls Tryd.prog 4 #[.string S, v] w fun e w' => e = .returned (.bool true) ∧ Below w.heap.size w w' := encodesLaw_any S v L w hL (envC hm hl)
end Go.Proofs.YtoengnefdndgfaaDoor
