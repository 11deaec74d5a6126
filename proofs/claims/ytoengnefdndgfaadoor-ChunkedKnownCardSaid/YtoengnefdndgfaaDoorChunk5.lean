/- The chapter's examples of bodies in chunks, plainly. -/
import Derived.Test.YtoengnefdndgfaaDoorChunk2
import Derived.Test.YtoengnefdndgfaaDoorChunk4
namespace Go.Proofs.YtoengnefdndgfaaDoor

theorem parse_step {s c1 c2 : List UInt8} (hc : cutN s = (c1, c2, true)) (h1 : c1.length ≤ 2048) (h0 : oneE c1 = 0) (h2 : c2 = []) : parseL s = ([oneF c1], 0) := by
  subst h2
  unfold parseL
  rw [parseW, dif_pos (by rw [hc]), hc]
  simp only [List.length_nil]
  rw [if_neg (by omega), if_pos h0, parse_nil]
  rfl
theorem parse_off {s c1 c2 : List UInt8} (hc : cutN s = (c1, c2, true)) (h1 : c1.length ≤ 2048) (h0 : oneE c1 = 4) : parseL s = ([], 4) := by
  unfold parseL
  rw [parseW, dif_pos (by rw [hc]), hc]
  simp only [List.length_nil]
  rw [if_neg (by omega), if_neg (by rw [h0]; decide), h0]
theorem p_ab : parseL [65, 58, 32, 98, 13, 10] = ([([65], [98])], 0) := parse_step (c1 := [65, 58, 32, 98]) (c2 := []) (by decide) (by decide) (by decide) rfl
theorem p_off : parseL [65, 32, 98, 13, 10] = ([], 4) := parse_off (c1 := [65, 32, 98]) (c2 := []) (by decide) (by decide) (by decide)

def moreL : List (List UInt8) := [[51, 13, 10, 97, 98, 99], [51, 13, 10, 97, 98, 99, 13], [51], [], [48, 13, 10], [48, 13, 10, 65, 58, 32, 98, 13, 10], [48, 13, 10, 65, 58, 32, 98, 13, 10, 13], [51, 13]]
theorem more_fails : ∀ s ∈ moreL, decodeL s 100 = bad 6 := by
  intro s hs
  simp only [moreL, List.mem_cons, List.not_mem_nil, or_false] at hs
  rcases hs with rfl | rfl | rfl | rfl | rfl | rfl | rfl | rfl
  · exact ex_chunkBad (n := 3) (k := 3) (m := 0) (c := []) (by kernel_rfl) (by decide) rfl (by kernel_rfl) (by decide)
  · exact ex_chunkBad (n := 3) (k := 3) (m := 0) (c := []) (by kernel_rfl) (by decide) rfl (by kernel_rfl) (by decide)
  · exact ex_bad (n := 0) (k := 0) (by kernel_rfl) (by decide)
  · exact ex_bad (n := 0) (k := 0) (by kernel_rfl) (by decide)
  · exact ex_lastBad (k := 3) (m := 0) (l := []) (by kernel_rfl) rfl (lasts_none (by kernel_rfl) (by decide)) (by decide)
  · exact ex_lastBad (k := 3) (m := 0) (l := []) (by kernel_rfl) rfl (lasts_none (by kernel_rfl) (by decide)) (by decide)
  · exact ex_lastBad (k := 3) (m := 0) (l := []) (by kernel_rfl) rfl (lasts_none (by kernel_rfl) (by decide)) (by decide)
  · exact ex_bad (n := 0) (k := 0) (by kernel_rfl) (by decide)
def badL : List (List UInt8) := [[51, 13, 10, 97, 98, 99, 100], [103, 13, 10], [13, 10], [51, 32, 13, 10, 97, 98, 99, 13, 10, 48, 13, 10, 13, 10], [49, 50, 51, 52, 53, 54, 55, 56, 57, 13, 10], [51, 59, 127, 13, 10, 97, 98, 99, 13, 10, 48, 13, 10, 13, 10], [48, 13, 10, 65, 32, 98, 13, 10, 13, 10], [51, 10, 97, 98, 99, 13, 10]]
theorem bad_fails : ∀ s ∈ badL, decodeL s 100 = bad 4 := by
  intro s hs
  simp only [badL, List.mem_cons, List.not_mem_nil, or_false] at hs
  rcases hs with rfl | rfl | rfl | rfl | rfl | rfl | rfl | rfl
  · exact ex_chunkBad (n := 3) (k := 3) (m := 0) (c := []) (by kernel_rfl) (by decide) rfl (by kernel_rfl) (by decide)
  · exact ex_bad (n := 0) (k := 0) (by kernel_rfl) (by decide)
  · exact ex_bad (n := 0) (k := 0) (by kernel_rfl) (by decide)
  · exact ex_bad (n := 0) (k := 0) (by kernel_rfl) (by decide)
  · exact ex_bad (n := 0) (k := 0) (by kernel_rfl) (by decide)
  · exact ex_bad (n := 0) (k := 0) (by kernel_rfl) (by decide)
  · refine ex_lastBad (k := 3) (m := 0) (l := []) (by kernel_rfl) rfl ?_ (by decide)
    exact lasts_at (t := [65, 32, 98, 13, 10, 13, 10]) (n := 5) (l := []) (e := 4) (by kernel_rfl) p_off
  · exact ex_bad (n := 0) (k := 0) (by kernel_rfl) (by decide)
theorem dec_nil : decodeL [48, 13, 10, 13, 10] 100 = ([], 5, [], 0) := by
  show decL _ 100 = _
  exact ex_last (t := [13, 10]) (k := 3) (m := 2) (l := []) (by kernel_rfl) rfl (lasts_zero (by kernel_rfl))
theorem dec_one : decodeL [51, 59, 97, 61, 98, 13, 10, 97, 98, 99, 13, 10, 48, 48, 13, 10, 65, 58, 32, 98, 13, 10, 13, 10] 100 = ([97, 98, 99], 24, [([65], [98])], 0) := by
  show decL _ 100 = _
  rw [ex_chunk (t := [97, 98, 99, 13, 10, 48, 48, 13, 10, 65, 58, 32, 98, 13, 10, 13, 10]) (n := 3) (k := 7) (m := 5) (c := [97, 98, 99]) (by kernel_rfl) (by decide) rfl (by kernel_rfl),
    show List.drop 5 ([97, 98, 99, 13, 10, 48, 48, 13, 10, 65, 58, 32, 98, 13, 10, 13, 10] : List UInt8) = [48, 48, 13, 10, 65, 58, 32, 98, 13, 10, 13, 10] from rfl,
    ex_last (t := [65, 58, 32, 98, 13, 10, 13, 10]) (k := 4) (m := 8) (l := [([65], [98])]) (by kernel_rfl) rfl (lasts_at (n := 6) (l := [([65], [98])]) (e := 0) (by kernel_rfl) p_ab)]
  rfl
theorem dec_ten : decodeL [65, 13, 10, 48, 49, 50, 51, 52, 53, 54, 55, 56, 57, 13, 10, 48, 59, 9, 13, 10, 13, 10] 10 = ([48, 49, 50, 51, 52, 53, 54, 55, 56, 57], 22, [], 0) := by
  show decL _ 10 = _
  rw [ex_chunk (t := [48, 49, 50, 51, 52, 53, 54, 55, 56, 57, 13, 10, 48, 59, 9, 13, 10, 13, 10]) (n := 10) (k := 3) (m := 12) (c := [48, 49, 50, 51, 52, 53, 54, 55, 56, 57]) (by kernel_rfl) (by decide) rfl (by kernel_rfl),
    show List.drop 12 ([48, 49, 50, 51, 52, 53, 54, 55, 56, 57, 13, 10, 48, 59, 9, 13, 10, 13, 10] : List UInt8) = [48, 59, 9, 13, 10, 13, 10] from rfl,
    ex_last (t := [13, 10]) (k := 5) (m := 2) (l := []) (by kernel_rfl) rfl (lasts_zero (by kernel_rfl))]
  rfl
theorem long_1 : decodeL [54, 53, 13, 10] 100 = bad 3 := ex_bad (n := 0) (k := 0) (by kernel_rfl) (by decide)
theorem long_2 : decodeL [102, 102, 102, 102, 102, 102, 102, 102, 13, 10] 100 = bad 3 := ex_bad (n := 0) (k := 0) (by kernel_rfl) (by decide)
theorem long_3 : decodeL [49, 13, 10, 120, 13, 10, 48, 13, 10, 13, 10] (-1) = bad 3 := ex_bad (n := 0) (k := 0) (by kernel_rfl) (by decide)
theorem long_4 : decodeL [52, 48, 48, 48, 49, 13, 10] 1099511627776 = bad 3 := ex_bad (n := 0) (k := 0) (by kernel_rfl) (by decide)
theorem enc_none : encodeL [] [] = [48, 13, 10, 13, 10] := tailE_nil _ _
theorem dig5 : hexL 5 = [53] := by rw [hexL_small (by decide)]; rfl
theorem enc_ex : encodeL [97, 98, 99, 100, 101, 102, 103, 104, 105, 106, 107] [3, 0, 5] = [51, 13, 10, 97, 98, 99, 13, 10, 53, 13, 10, 100, 101, 102, 103, 104, 13, 10, 51, 13, 10, 105, 106, 107, 13, 10, 48, 13, 10, 13, 10] := by
  show tailE [3, 5] 0 [97, 98, 99, 100, 101, 102, 103, 104, 105, 106, 107] = _
  rw [tailE_step ⟨by decide, by decide⟩ 0 (by decide), show List.drop (szAt [3, 5] 0) [97, 98, 99, 100, 101, 102, 103, 104, 105, 106, 107] = [(100 : UInt8), 101, 102, 103, 104, 105, 106, 107] from rfl, show List.take (szAt [3, 5] 0) [97, 98, 99, 100, 101, 102, 103, 104, 105, 106, 107] = [(97 : UInt8), 98, 99] from rfl,
    tailE_step ⟨by decide, by decide⟩ (0 + 1) (by decide), show List.drop (szAt [3, 5] (0 + 1)) [100, 101, 102, 103, 104, 105, 106, 107] = [(105 : UInt8), 106, 107] from rfl, show List.take (szAt [3, 5] (0 + 1)) [100, 101, 102, 103, 104, 105, 106, 107] = [(100 : UInt8), 101, 102, 103, 104] from rfl,
    tailE_step ⟨by decide, by decide⟩ (0 + 1 + 1) (by decide), show List.drop (szAt [3, 5] (0 + 1 + 1)) [105, 106, 107] = ([] : List UInt8) from rfl, show List.take (szAt [3, 5] (0 + 1 + 1)) [105, 106, 107] = [(105 : UInt8), 106, 107] from rfl, tailE_nil]
  unfold chunkT
  rw [show ([97, 98, 99] : List UInt8).length = 3 from rfl, show ([100, 101, 102, 103, 104] : List UInt8).length = 5 from rfl, show ([105, 106, 107] : List UInt8).length = 3 from rfl, dig3, dig5]
  rfl
theorem enc_abc0 : encodeL [97, 98, 99] [0, -5] = [51, 13, 10, 97, 98, 99, 13, 10, 48, 13, 10, 13, 10] := enc_abc
end Go.Proofs.YtoengnefdndgfaaDoor
