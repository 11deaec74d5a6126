/- Is a URI long: the statements' own helper. -/
import Derived.Test.YtekaiafhnnpkgaaGreatDoorUriS
import Derived.Test.YtekaiafhnnpkgaaGreatDoorGrow3
namespace Go.Proofs.YtekaiafhnnpkgaaGreatDoor
open Go.RowKit

theorem drewU (w : World) : Below w.heap.size w w.drew := by
  have h := Below.refl w.heap.size w
  exact ⟨h.os, h.tape, h.output, h.size, h.block⟩
theorem index_leU (c : UInt8) : ∀ l : List UInt8, Lib.indexByte l c ≤ l.length
  | [] => by simp [Lib.indexByte]
  | b :: l => by
    have ih := index_leU c l
    unfold Lib.indexByte
    rw [List.length_cons]
    split
    · omega
    · split <;> omega
/-- a URI whose texts are no longer than what one row may reach -/
structure Ur.sized (u : Ur) : Prop where
  sc : u.sc.length ≤ 140737488351232
  ho : u.ho.length ≤ 140737488351232
  pa : u.pa.length ≤ 140737488351232
  qu : u.qu.length ≤ 140737488351232
  po : (Lit.int .i64 u.po).wf = true
theorem i64U {n : Int} (h : (Lit.int .i64 n).wf = true) : -9223372036854775808 ≤ n ∧ n ≤ 9223372036854775807 := by
  simp [Lit.wf, IntKind.min, IntKind.max, IntKind.bits, IntKind.signed] at h
  omega
def longB (u : Ur) : Bool := decide (3000 < u.sc.length + u.ho.length + u.pa.length + u.qu.length)
theorem long_okW {u : Ur} (h : u.sized) (hl : longB u = false) : u.okW := by
  unfold longB at hl
  have h1 := of_decide_eq_false hl
  have h2 := i64U h.po
  refine ⟨by omega, ?_, ?_⟩ <;> omega
end Go.Proofs.YtekaiafhnnpkgaaGreatDoor
