/- The statements' own helpers: is a text this URI; is it none; some of the chapter's answers. -/
import Derived.Test.YtnpiaifkeddjeaaGreatDoorKOpen
import Derived.Test.YtnpiaifkeddjeaaGreatDoorKUriG
import Derived.Test.YtnpiaifkeddjeaaGreatDoorKUriJ
namespace Go.Proofs.YtnpiaifkeddjeaaGreatDoor
open Go.RowKit

theorem parse_okW (s : List UInt8) : (parseU s).1.okW := by
  have h0 : ur0.okW := ⟨by decide, by decide, by decide⟩
  unfold parseU
  split
  · exact h0
  · rename_i h
    split
    · split
      · exact root_ok (apart_ok s (by omega)) (apart_len s (by omega))
      · exact h0
    · exact h0
theorem ex1 : parseU [104, 116, 116, 112, 58, 47, 47, 65, 46, 98, 58, 56, 48, 56, 48, 47, 120, 63, 121] = (⟨[104, 116, 116, 112], [65, 46, 98], 8080, [47, 120], [121], true⟩, 0) := by kernel_rfl
theorem ex1p : Ur.put ⟨[104, 116, 116, 112], [65, 46, 98], 8080, [47, 120], [121], true⟩ = [104, 116, 116, 112, 58, 47, 47, 65, 46, 98, 58, 56, 48, 56, 48, 47, 120, 63, 121] := by kernel_rfl
theorem ex2 : parseU [102, 116, 112, 58, 47, 47, 97, 47] = (ur0, 4) := by kernel_rfl
theorem ex3 : dotsL [47, 97, 47, 98, 47, 99, 47, 46, 47, 46, 46, 47, 46, 46, 47, 103] = [47, 97, 47, 103] := by kernel_rfl
end Go.Proofs.YtnpiaifkeddjeaaGreatDoor

/- Is a URI long: the statements' own helper. -/
namespace Go.Proofs.YtnpiaifkeddjeaaGreatDoor
open Go.RowKit

theorem drewU (w : World) : Below w.heap.size w w.drew := by
  have h := Below.refl w.heap.size w
  exact ⟨h.os, h.tape, h.output, h.size, h.block⟩
theorem index_leU (c : UInt8) : ∀ l : List UInt8, Lib.indexByte l c ≤ l.length
  | [] => by simp [Lib.indexByte]
  | b :: l => by
    have ih := index_leU c l
    unfold Lib.indexByte
    rw [List.length_cons]
    split
    · omega
    · split <;> omega
/-- a URI whose texts are no longer than what one row may reach -/
structure Ur.sized (u : Ur) : Prop where
  sc : u.sc.length ≤ 140737488351232
  ho : u.ho.length ≤ 140737488351232
  pa : u.pa.length ≤ 140737488351232
  qu : u.qu.length ≤ 140737488351232
  po : (Lit.int .i64 u.po).wf = true
theorem i64U {n : Int} (h : (Lit.int .i64 n).wf = true) : -9223372036854775808 ≤ n ∧ n ≤ 9223372036854775807 := by
  simp [Lit.wf, IntKind.min, IntKind.max, IntKind.bits, IntKind.signed] at h
  omega
def longB (u : Ur) : Bool := decide (3000 < u.sc.length + u.ho.length + u.pa.length + u.qu.length)
theorem long_okW {u : Ur} (h : u.sized) (hl : longB u = false) : u.okW := by
  unfold longB at hl
  have h1 := of_decide_eq_false hl
  have h2 := i64U h.po
  refine ⟨by omega, ?_, ?_⟩ <;> omega
end Go.Proofs.YtnpiaifkeddjeaaGreatDoor
