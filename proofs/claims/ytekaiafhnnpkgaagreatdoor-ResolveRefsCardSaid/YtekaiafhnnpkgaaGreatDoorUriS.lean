/- The statements' own helpers: is a text this URI; is it none; some of the chapter's answers. -/
import Derived.Test.YtekaiafhnnpkgaaGreatDoorUriI
import Derived.Test.YtekaiafhnnpkgaaGreatDoorUriJ
namespace Go.Proofs.YtekaiafhnnpkgaaGreatDoor
open Go.RowKit

theorem parse_okW (s : List UInt8) : (parseU s).1.okW := by
  have h0 : ur0.okW := ⟨by decide, by decide, by decide⟩
  unfold parseU
  split
  · exact h0
  · rename_i h
    split
    · split
      · exact root_ok (apart_ok s (by omega)) (apart_len s (by omega))
      · exact h0
    · exact h0
theorem ex1 : parseU [104, 116, 116, 112, 58, 47, 47, 65, 46, 98, 58, 56, 48, 56, 48, 47, 120, 63, 121] = (⟨[104, 116, 116, 112], [65, 46, 98], 8080, [47, 120], [121], true⟩, 0) := by kernel_rfl
theorem ex1p : Ur.put ⟨[104, 116, 116, 112], [65, 46, 98], 8080, [47, 120], [121], true⟩ = [104, 116, 116, 112, 58, 47, 47, 65, 46, 98, 58, 56, 48, 56, 48, 47, 120, 63, 121] := by kernel_rfl
theorem ex2 : parseU [102, 116, 112, 58, 47, 47, 97, 47] = (ur0, 4) := by kernel_rfl
theorem ex3 : dotsL [47, 97, 47, 98, 47, 99, 47, 46, 47, 46, 46, 47, 46, 46, 47, 103] = [47, 97, 47, 103] := by kernel_rfl
end Go.Proofs.YtekaiafhnnpkgaaGreatDoor
