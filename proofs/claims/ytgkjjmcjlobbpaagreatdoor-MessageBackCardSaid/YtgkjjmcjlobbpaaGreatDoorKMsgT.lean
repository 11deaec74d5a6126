/- What is written is read again: the statement's arguments. -/
import Derived.Test.YtgkjjmcjlobbpaaGreatDoorKMsgM
import Derived.Test.YtgkjjmcjlobbpaaGreatDoorKMsgS
import Derived.Test.YtgkjjmcjlobbpaaGreatDoorKOpen
namespace Go.Proofs.YtgkjjmcjlobbpaaGreatDoor
open Go.RowKit
theorem u16_bd {k : Int} (h : (Lit.int .u16 k).wf = true) : 0 ≤ k ∧ k < 65536 := by
  simp [Lit.wf, IntKind.min, IntKind.max, IntKind.bits, IntKind.signed] at h
  omega
theorem messageBack_law (v : Value) (m t : List UInt8) (n : Int) (vs : Value) (l : List Fld) (b : List UInt8) (v2 : Value) (c0 : Int) (r : List UInt8) (o : Int) (vs2 : Value) (l2 : List Fld) (b2 X : List UInt8) (k : Int) (w : World)
    (h : InQ w v m t n vs l b) (h2 : InY w v2 c0 r o vs2 l2 b2) (_ : X.length ≤ 9223372036854775807) (hk : (Lit.int .u16 k).wf = true) (hm : MaxL w) (hl : LibM w) :
    Calls Tryz.prog 7 #[v, v2, .agg #[.string (bs X), .int .u16 k]] w fun e w' => e = .returned (.bool true) ∧ Below w.heap.size w w' := by
  have hv := h.eq
  have hv2 := h2.eq
  subst hv hv2
  obtain ⟨h3, h4⟩ := u16_bd hk
  obtain ⟨k', rfl⟩ : ∃ k' : Nat, k = k' := ⟨k.toNat, by omega⟩
  exact messageBack_any m t n vs l b c0 r o vs2 l2 b2 X k' w (envM hm hl) h.fl h.big h2.fl h2.big (by omega)
end Go.Proofs.YtgkjjmcjlobbpaaGreatDoor
