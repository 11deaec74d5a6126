/- Fields without those of names; the values of a name: the fields layer's functions. -/
import Derived.Test.YtoengnefdndgfaaDoorFieldsF
import Derived.Laws.EntriesVeiled
namespace Go.Proofs.YtoengnefdndgfaaDoor
open Go.RowKit Go.Shelf





theorem PredF.later {w w' : World} {g : Nat} {lb : Array Value} {p : Fld → Bool} (h : PredF w g lb p) (hb : Below w.heap.size w w') : PredF w' g lb p :=
  fun W f hW h1 => h W f (hb.trans (hW.mono hb.size)) h1
theorem ownF.later {w w' : World} {B : Nat} {v : Value} {l : List Fld} (h : ownF w B v l) (hb : Below w.heap.size w w') : ownF w' B v l := h.bel hb
theorem RetF.carry {w0 w : World} {l : List Fld} {e : Ending} {w' : World} (hb : Below w0.heap.size w0 w) (h : RetF w l e w') : RetF w0 l e w' := by
  obtain ⟨v', he, ho, hb'⟩ := h
  exact ⟨v', he, ho.mono hb.size, hb.trans (hb'.mono hb.size)⟩
theorem RetS.carry {w0 w : World} {l : List (List UInt8)} {e : Ending} {w' : World} (hb : Below w0.heap.size w0 w) (h : RetS w l e w') : RetS w0 l e w' := by
  obtain ⟨v', he, ho, hb'⟩ := h
  exact ⟨v', he, ho.mono hb.size, hb.trans (hb'.mono hb.size)⟩


theorem smallF_filter {l : List Fld} (h : smallF l) (p : Fld → Bool) : smallF (l.filter p) := fun j hj => by
  have hm : (l.filter p)[j] ∈ l := (List.mem_filter.1 (List.getElem_mem hj)).1
  obtain ⟨i, hi, he⟩ := List.getElem_of_mem hm
  have := h i hi
  rw [he] at this
  exact this

end Go.Proofs.YtoengnefdndgfaaDoor
