/- The chapter's answers that each statement asks for; what any bytes are; what any body is in chunks. -/
import Derived.Test.YtoengnefdndgfaaDoorChunkQ
import Derived.Test.YtoengnefdndgfaaDoorChunk2
import Derived.Test.YtoengnefdndgfaaDoorChunkK
namespace Go.Proofs.YtoengnefdndgfaaDoor
open Go.RowKit

theorem abcx_gives : givesB (decodeL [51, 13, 10, 97, 98, 99, 13, 10, 48, 13, 10, 13, 10, 120] 100) [97, 98, 99] 13 0 = true := by rw [dec_abcx]; rfl
theorem ab_fails : failsB (decodeL [51, 13, 10, 97, 98] 100) 6 = true := by rw [dec_ab]; rfl
set_option maxHeartbeats 1000000 in
set_option maxRecDepth 100000 in
theorem awake_any (w : World) (he : EnvC w) : Calls Tryd.prog 9 #[] w fun e w' => e = .returned (.bool true) ∧ Below w.heap.size w w' := by
  have h1 := gives_any [51, 13, 10, 97, 98, 99, 13, 10, 48, 13, 10, 13, 10, 120] [97, 98, 99] 100 13 0 w he (by decide)
  rw [abcx_gives] at h1
  have h2 := fun (w' : World) (hb : EnvC w') => fails_any [51, 13, 10, 97, 98] 100 6 w' hb (by decide)
  rw [ab_fails] at h2
  have h3 := fun (w' : World) (hb : EnvC w') => encode_any [97, 98, 99] (.slice none 0 0) [] w' hb (.inl ⟨rfl, _, _, rfl⟩) (by decide) (by decide)
  rw [enc_abc] at h3
  have H1 := Lib.hid h1; have H2 := Lib.hid h2; have H3 := Lib.hid h3; have HE := Lib.hid he
  clear h1 h2 h3 he
  go_enter Tryd.func9, Tryd.ntmps9
  go_wp2_with fail
  refine H1.out.mono ?_; rintro e w1 ⟨rfl, hb1⟩
  have HE1 := Lib.hid (HE.out.bel hb1); have HB1 := Lib.hid hb1; clear hb1
  go_wp2_with fail
  refine (H2.out _ HE1.out).mono ?_; rintro e w2 ⟨rfl, hb2⟩
  have HE2 := Lib.hid (HE1.out.bel hb2); have HB2 := Lib.hid (HB1.out.trans (hb2.mono HB1.out.size)); clear hb2
  go_wp2_with fail
  refine (H3.out _ HE2.out).mono ?_; rintro e w3 ⟨rfl, hb3⟩
  have HB3 := Lib.hid (HB2.out.trans (hb3.mono HB2.out.size)); clear hb3
  go_wp2_with fail
  go_ret
  exact ⟨ret_bool (by rw [Lib.toList_data]; rfl), HB3.out⟩
end Go.Proofs.YtoengnefdndgfaaDoor
