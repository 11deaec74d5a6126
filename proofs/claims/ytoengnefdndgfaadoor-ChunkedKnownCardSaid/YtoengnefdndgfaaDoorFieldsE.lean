/- A set of names in a map, and the closures that ask it. -/
import Derived.Test.YtoengnefdndgfaaDoorFieldsD
import Derived.StringKeys
namespace Go.Proofs.YtoengnefdndgfaaDoor
open Go.RowKit

theorem lawS : Go.Maps.Keyed Tryd.prog 9 := Go.Maps.string_keyed Tryd.underlying9
/-- block m is a map whose keys are the texts L -/
def mapAt (w : World) (m k : Nat) (L : List (List UInt8)) : Prop := w.ownsMap (H := Unit) Tryd.prog 9 unitElem m k (Go.Maps.setOf (.agg []) (L.map Lit.string))
theorem below_grown {w w' : World} (hb : Below w.heap.size w w') : w.grownBy w' none := ⟨hb.os, hb.tape, hb.output, hb.size, fun k hk _ => hb.block k hk⟩
theorem mapAt.bel {w w' : World} {m k : Nat} {L : List (List UInt8)} (h : mapAt w m k L) (hb : Below w.heap.size w w') : mapAt w' m k L := World.ownsMap.kept h (below_grown hb) (by simp)
theorem mapAt.lt {w : World} {m k : Nat} {L : List (List UInt8)} (h : mapAt w m k L) : m < w.heap.size := World.ownsMap.lt h
theorem mapAt_new (w : World) : mapAt (w.alloc (.map #[] 0)) w.heap.size 0 [] := World.ownsMap_made w _ _ _
theorem keyLits (L : List (List UInt8)) : ∀ x ∈ L.map Lit.string, WideAt.IsKeyLit x := by
  intro x hx
  obtain ⟨y, _, rfl⟩ := List.mem_map.1 hx
  trivial
theorem has_lits (L : List (List UInt8)) (n : List UInt8) : Go.Maps.has (Go.Maps.setOf (.agg [] : DataW Unit) (L.map Lit.string)) (.string n) = L.any (· == n) := by
  rw [Go.Maps.has_setOf _ _ _ (keyLits L), List.any_map]
  rfl
theorem key_l (n : List UInt8) (h : n.length ≤ maxLen) : keyOf Tryd.prog 9 (.string (bs n)) = some (.string n) := by
  have := Go.WideMaps.keyOf_string_mk (P := Tryd.prog) (k := 9) Tryd.underlying9 (s := bs n) (by rw [bs_size]; exact h)
  rwa [bs_data] at this


/-- the small letters of names -/
def lowsOf (L : List (List UInt8)) : List (List UInt8) := L.map lower
theorem lowsOf_any (L : List (List UInt8)) (n : List UInt8) : (lowsOf L).any (· == lower n) = hasN L n := by
  unfold lowsOf hasN; rw [List.any_map]; rfl


end Go.Proofs.YtoengnefdndgfaaDoor
