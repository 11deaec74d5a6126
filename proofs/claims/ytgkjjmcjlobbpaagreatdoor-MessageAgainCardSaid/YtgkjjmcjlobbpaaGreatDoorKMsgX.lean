/- MessageAgain: what is read, and written again, is read as it was. -/
import Derived.Test.YtgkjjmcjlobbpaaGreatDoorKMsgWA
import Derived.Test.YtgkjjmcjlobbpaaGreatDoorKMsgWB
import Derived.Test.YtgkjjmcjlobbpaaGreatDoorKMsgWC
namespace Go.Proofs.YtgkjjmcjlobbpaaGreatDoor
open Go.RowKit
set_option maxRecDepth 100000 in
theorem messageAgain_any (s : List UInt8) (w : World) (he : EnvM w) : Calls Tryz.prog 8 #[.string (bs s)] w fun e w' => e = .returned (.bool true) ∧ Below w.heap.size w w' := by
  by_cases hl : 7000 < s.length
  · have HE := Lib.hid he
    have HB0 := Lib.hid (Below.refl w.heap.size w)
    clear he
    go_enter Tryz.func8, Tryz.ntmps8
    go_wp2_with fail
    refine (works_any _ (HE.out.bel HB0.out)).mono ?_
    rintro en yz ⟨rfl, hbz⟩
    have HZ := Lib.hid (HB0.out.trans (hbz.mono HB0.out.size))
    clear hbz
    go_wp2_with fail
    go_ret
    exact ⟨rfl, HZ.out⟩
  · by_cases hq : (askM s).2.2.2 = 0
    · rcases hP : putQ (mM s) (tM s) (nM s) (askM s).1 (askM s).2.1 with ⟨S, e⟩
      have h := (again_ask hq).1
      rw [hP] at h
      rcases h with h | h
      · simp only at h
        subst h
        exact again_c s w he hl hq S hP
      · simp only at h
        subst h
        exact again_b s w he hl hq S hP
    · exact again_a s w he hl hq
theorem messageAgain_law (S : ByteArray) (w : World) (_ : S.size ≤ maxLen) (hm : MaxL w) (hl : LibM w) :
    Calls Tryz.prog 8 #[.string S] w fun e w' => e = .returned (.bool true) ∧ Below w.heap.size w w' := by
  obtain ⟨s, rfl⟩ : ∃ s, S = bs s := ⟨S.data.toList, (bs_of rfl)⟩
  exact messageAgain_any s w (envM hm hl)
end Go.Proofs.YtgkjjmcjlobbpaaGreatDoor
