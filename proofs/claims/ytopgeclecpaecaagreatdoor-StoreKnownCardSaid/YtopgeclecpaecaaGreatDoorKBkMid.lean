/- Whole structs stored into blocks of given cells, and read out of them. No function of the program is read here. -/
import Derived.Test.YtopgeclecpaecaaGreatDoorKBdM
import Derived.Deep.MidRow
namespace Go.Proofs.YtopgeclecpaecaaGreatDoor
open Go.RowKit
theorem bk.range {w : World} {b : Nat} {cs : Array Value} (h : bk w b cs) (o : Nat) (l : List Value) (hl : ∀ j v, l[j]? = some v → cs[o + j]? = some v) : w.rangeAt b o l := fun j v hv => h.cell (o + j) v (hl j v hv)
theorem bk.range0 {w : World} {b : Nat} {l : List Value} (h : bk w b l.toArray) : w.rangeAt b 0 l := h.range 0 l fun j v hv => by simpa using hv
theorem bk.there {w : World} {b : Nat} {cs : Array Value} (h : bk w b cs) (o n : Nat) (hn : o + n ≤ cs.size) : w.there b o n := fun j hj => by
  refine ⟨?_, h.free _⟩
  have h1 := h.cell (o + j) cs[o + j] (Array.getElem?_eq_getElem (by omega))
  rw [h1]; rfl
theorem bk.cells (b : Nat) : ∀ (l : List Value) (o : Nat) (w : World) (pre : List Value) (cs : List Value), pre.length = o → cs.length = l.length → bk w b (pre ++ cs).toArray → bk (w.setCells b o l) b (pre ++ l).toArray
  | [], _, _, pre, cs, _, hc, h => by
    have : cs = [] := List.eq_nil_of_length_eq_zero hc
    subst this
    exact h
  | v :: r, o, w, pre, cs, ho, hc, h => by
    cases cs with
    | nil => simp at hc
    | cons c cs =>
      have h1 := h.set o v
      have e : (pre ++ c :: cs).toArray.setIfInBounds o v = ((pre ++ [v]) ++ cs).toArray := by
        subst ho
        simp
      rw [e] at h1
      have h2 := bk.cells b r (o + 1) _ (pre ++ [v]) cs (by simp [ho]) (by simpa using hc) h1
      rw [World.setCells]
      simpa using h2
/-- all cells of a block are stored -/
theorem bk.setAll {w : World} {b : Nat} {cs : Array Value} (h : bk w b cs) (l : List Value) (hl : l.length = cs.size) : bk (w.setCells b 0 l) b l.toArray := by
  have := bk.cells b l 0 w [] cs.toList rfl (by simpa using hl.symm) (by simpa using h)
  simpa using this
theorem heap_setCells (b : Nat) : ∀ (l : List Value) (o : Nat) (w : World) (k : Nat), k ≠ b → (w.setCells b o l).heap[k]? = w.heap[k]?
  | [], _, _, _, _ => rfl
  | v :: r, o, w, k, h => by
    rw [World.setCells, heap_setCells b r (o + 1) _ k h]
    exact Below.heap_setCell _ _ _ _ h
theorem Below.cells {B : Nat} {w0 w : World} (h : Below B w0 w) (b : Nat) (hb : B ≤ b) : ∀ (l : List Value) (o : Nat), Below B w0 (w.setCells b o l) := by
  intro l
  induction l generalizing w with
  | nil => intro o; exact h
  | cons v r ih => intro o; exact ih (h.setCell (p := ⟨b, o, none⟩) hb v) (o + 1)
theorem size_setCells (b : Nat) : ∀ (l : List Value) (o : Nat) (w : World), (w.setCells b o l).heap.size = w.heap.size
  | [], _, _ => rfl
  | v :: r, o, w => by rw [World.setCells, size_setCells b r (o + 1)]; simp [World.setCell]
theorem Twin.cells {w : World} {b o : Nat} {l : List Value} : (w.setCells b o l).os = w.os ∧ (w.setCells b o l).tape = w.tape ∧ (w.setCells b o l).output = w.output := by
  induction l generalizing w o with
  | nil => exact ⟨rfl, rfl, rfl⟩
  | cons v r ih => exact ih (w := w.setCell ⟨b, o, none⟩ v)
end Go.Proofs.YtopgeclecpaecaaGreatDoor
