/- DateReads, walked. -/
import Derived.Test.YtjcllpfncohncaaDoorDateW
import Derived.Test.YtjcllpfncohncaaDoorDateX
import Derived.Test.YtjcllpfncohncaaDoorDate5
namespace Go.Proofs.YtjcllpfncohncaaDoor
open Go.RowKit

set_option maxRecDepth 100000 in
set_option maxHeartbeats 2000000 in
theorem dateReads_any (s : ByteArray) (now : Int) (w : World) (hs : s.size ≤ maxLen) (_wn : (Lit.int .i64 now).wf = true) (ht : Tabs w) :
    Calls Tryd.prog 3 #[.string s, .int .i64 now] w fun e w' => e = .returned (.bool true) ∧ Below w.heap.size w w' := by
  have HT := Lib.hid ht
  clear _wn ht
  obtain ⟨Y, M, D, Hh, I, S, HN⟩ := clamp_ex now
  have HC := Lib.hid HN
  clear HN
  go_enter Tryd.func3, Tryd.ntmps3
  by_cases hbig : s.size ≤ 500
  · go_wp2_with fail
    refine (parse_any s _ _ _ _ _ _ _ _ hs HC.out HT.out).mono ?_
    rintro e w1 ⟨rfl, hb⟩
    have HB := Lib.hid hb
    have HT1 := Lib.hid (HT.out.below hb)
    clear hb
    cases hp : parseL (Y + 50) s.data.toList with
    | none =>
      have HP := Lib.hid hp
      clear hp
      unfold ansV
      go_wp2_with fail
      refine (rparse_any s _ _ _ _ _ _ _ _ hbig HC.out).mono ?_
      rw [rparse_eq, HP.out]
      unfold ansV
      rintro e w2 ⟨rfl, hb2⟩
      have HB2 := Lib.hid (HB.out.trans (hb2.mono HB.out.size))
      have HT2 := Lib.hid (HT1.out.below hb2)
      clear hb2
      go_wp2_with fail
      refine (awake_any _ HT2.out).mono ?_
      rintro e w3 ⟨rfl, hb3⟩
      go_wp2_with fail
      go_ret
      exact ⟨rfl, HB2.out.trans (hb3.mono HB2.out.size)⟩
    | some t =>
      have HP := Lib.hid hp
      clear hp
      unfold ansV
      go_wp2_with fail
      refine (rparse_any s _ _ _ _ _ _ _ _ hbig HC.out).mono ?_
      rw [rparse_eq, HP.out]
      unfold ansV
      rintro e w2 ⟨rfl, hb2⟩
      have HB2 := Lib.hid (HB.out.trans (hb2.mono HB.out.size))
      have HT2 := Lib.hid (HT1.out.below hb2)
      clear hb2
      go_wp2_with fail
      refine (awake_any _ HT2.out).mono ?_
      rintro e w3 ⟨rfl, hb3⟩
      go_wp2_with fail
      go_ret
      exact ⟨rfl, HB2.out.trans (hb3.mono HB2.out.size)⟩
  · go_wp2_with fail
    refine (awake_any _ HT.out).mono ?_
    rintro e w3 ⟨rfl, hb3⟩
    go_wp2_with fail
    go_ret
    exact ⟨rfl, hb3⟩
end Go.Proofs.YtjcllpfncohncaaDoor
