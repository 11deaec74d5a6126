/- Two lists of texts held against each other; the statement TextSplits' walk. -/
import Derived.Test.YtonioemenjjajaaTextV
import Derived.Test.YtonioemenjjajaaTextH
namespace Go.Proofs.Ytonioemenjjajaa
open Go.RowKit

theorem ownS.heap {w w' : World} {base : Nat} {v : Value} {l : List (List UInt8)} (h : ownS w base v l) (hh : w'.heap = w.heap) : ownS w' base v l := by
  refine ⟨h.1, ?_⟩
  rw [hh]; exact h.2

theorem take_eq_snoc {L1 L2 : List (List UInt8)} {k : Nat} (h1 : k < L1.length) (h2 : k < L2.length) (h : L1.take k = L2.take k) (he : L1.getD k [] = L2.getD k []) : L1.take (k + 1) = L2.take (k + 1) := by
  rw [List.take_succ_eq_append_getElem h1, List.take_succ_eq_append_getElem h2, h]
  simp [List.getD, h1, h2] at he
  rw [he]


end Go.Proofs.Ytonioemenjjajaa
