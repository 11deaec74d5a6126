/- Slices of fields and of texts: what is read of them, those that a call has made, one more appended to them. -/
import Derived.Test.YtjbkjmceabilaaaStrs
import Derived.Test.YtjbkjmceabilaaaTextC
import Derived.Test.YtjbkjmceabilaaaFields0
import Derived.OneCell
import Derived.Maps.AppendAt
namespace Go.Proofs.Ytjbkjmceabilaaa
open Go.RowKit

/-- a field as a value, and a list's fields as cells -/
def fv (f : Fld) : Value := .agg #[.string (bs f.1), .string (bs f.2)]
def fcs (l : List Fld) : List Value := l.flatMap fun f => [.string (bs f.1), .string (bs f.2)]
theorem fcs_len (l : List Fld) : (fcs l).length = l.length * 2 := by
  induction l with
  | nil => rfl
  | cons f r ih => simp [fcs] at ih ⊢; omega
theorem fcs_append (a b : List Fld) : fcs (a ++ b) = fcs a ++ fcs b := by simp [fcs]
theorem fcs_at (l : List Fld) (j : Nat) (hj : j < l.length) : (fcs l)[j * 2]? = some (.string (bs l[j].1)) ∧ (fcs l)[j * 2 + 1]? = some (.string (bs l[j].2)) := by
  induction l generalizing j with
  | nil => exact absurd hj (by simp)
  | cons f r ih =>
    have e : fcs (f :: r) = .string (bs f.1) :: .string (bs f.2) :: fcs r := by simp [fcs]
    rw [e]
    cases j with
    | zero => exact ⟨rfl, rfl⟩
    | succ k =>
      obtain ⟨h1, h2⟩ := ih k (by simpa using hj)
      rw [show (k + 1) * 2 = k * 2 + 2 from by omega]
      exact ⟨h1, h2⟩
theorem fcs_one (l : List Fld) : ∀ v ∈ fcs l, v.oneCell' = true := by
  intro v hv
  simp only [fcs, List.mem_flatMap] at hv
  obtain ⟨f, _, h⟩ := hv
  simp at h
  rcases h with rfl | rfl <;> rfl

/-- the slice v reads as the fields l -/
def FL (w : World) (v : Value) (l : List Fld) : Prop :=
  (l = [] ∧ ∃ A c, v = .slice A 0 c) ∨ ∃ b off c, v = .slice (some ⟨b, off, none⟩) l.length c ∧ b < w.heap.size ∧
    ∀ j (hj : j < l.length), w.cell? ⟨b, off + j * 2, none⟩ = some (.string (bs l[j].1)) ∧ w.cell? ⟨b, off + j * 2 + 1, none⟩ = some (.string (bs l[j].2))
theorem FL.form {w : World} {v : Value} {l : List Fld} (h : FL w v l) : ∃ A c, v = .slice A l.length c := by
  rcases h with ⟨rfl, A, c, rfl⟩ | ⟨b, off, c, rfl, _⟩
  · exact ⟨A, c, rfl⟩
  · exact ⟨_, _, rfl⟩
theorem FL.bel {w w' : World} {v : Value} {l : List Fld} (h : FL w v l) (hb : Below w.heap.size w w') : FL w' v l := by
  rcases h with h | ⟨b, off, c, hv, hlt, hc⟩
  · exact .inl h
  · exact .inr ⟨b, off, c, hv, Nat.lt_of_lt_of_le hlt hb.size, fun j hj => ⟨(hb.cell (p := ⟨b, off + j * 2, none⟩) hlt).trans (hc j hj).1, (hb.cell (p := ⟨b, off + j * 2 + 1, none⟩) hlt).trans (hc j hj).2⟩⟩
theorem FL.get {w : World} {A : Option Addr} {n c : Nat} {l : List Fld} (h : FL w (.slice A n c) l) (j : Nat) (hj : j < l.length) :
    ∃ b off, A = some ⟨b, off, none⟩ ∧ b < w.heap.size ∧ w.cell? ⟨b, off + j * 2, none⟩ = some (.string (bs l[j].1)) ∧ w.cell? ⟨b, off + j * 2 + 1, none⟩ = some (.string (bs l[j].2)) := by
  rcases h with ⟨rfl, _⟩ | ⟨b, off, c, hv, hlt, hc⟩
  · exact absurd hj (by simp)
  · simp only [Value.slice.injEq] at hv
    exact ⟨b, off, hv.1, hlt, (hc j hj).1, (hc j hj).2⟩
theorem FL_nil (w : World) : FL w (.slice none 0 0) [] := .inl ⟨rfl, _, _, rfl⟩

/-- the slice v reads as the texts L -/
def SL (w : World) (v : Value) (L : List (List UInt8)) : Prop :=
  (L = [] ∧ ∃ A c, v = .slice A 0 c) ∨ ∃ b off c, v = .slice (some ⟨b, off, none⟩) L.length c ∧ b < w.heap.size ∧ ∀ j (hj : j < L.length), w.cell? ⟨b, off + j, none⟩ = some (.string (bs L[j]))
theorem SL.form {w : World} {v : Value} {L : List (List UInt8)} (h : SL w v L) : ∃ A c, v = .slice A L.length c := by
  rcases h with ⟨rfl, A, c, rfl⟩ | ⟨b, off, c, rfl, _⟩
  · exact ⟨A, c, rfl⟩
  · exact ⟨_, _, rfl⟩
theorem SL.bel {w w' : World} {v : Value} {L : List (List UInt8)} (h : SL w v L) (hb : Below w.heap.size w w') : SL w' v L := by
  rcases h with h | ⟨b, off, c, hv, hlt, hc⟩
  · exact .inl h
  · exact .inr ⟨b, off, c, hv, Nat.lt_of_lt_of_le hlt hb.size, fun j hj => (hb.cell (p := ⟨b, off + j, none⟩) hlt).trans (hc j hj)⟩
theorem SL.get {w : World} {A : Option Addr} {n c : Nat} {L : List (List UInt8)} (h : SL w (.slice A n c) L) (j : Nat) (hj : j < L.length) :
    ∃ b off, A = some ⟨b, off, none⟩ ∧ b < w.heap.size ∧ w.cell? ⟨b, off + j, none⟩ = some (.string (bs L[j])) := by
  rcases h with ⟨rfl, _⟩ | ⟨b, off, c, hv, hlt, hc⟩
  · exact absurd hj (by simp)
  · simp only [Value.slice.injEq] at hv
    exact ⟨b, off, hv.1, hlt, hc j hj⟩
theorem SL_nil (w : World) : SL w (.slice none 0 0) [] := .inl ⟨rfl, _, _, rfl⟩
/-- a slice literal of one text -/
theorem SL_lit (w : World) (x : List UInt8) : SL (w.alloc (.cells #[.string (bs x)] 9)) (.slice (some ⟨w.heap.size, 0, none⟩) 1 1) [x] := by
  refine .inr ⟨w.heap.size, 0, 1, rfl, by simp, fun j hj => ?_⟩
  have : j = 0 := by simpa using hj
  subst this
  exact cell_of_one (heap_alloc_new w (.cells #[.string (bs x)] 9))
theorem ownS.sl {w : World} {base : Nat} {v : Value} {L : List (List UInt8)} (h : ownS w base v L) : SL w v L := by
  rcases h.2 with ⟨rfl, hn⟩ | ⟨g, cap, cur, rfl, hb, hg, hnc, hcm, hcs, ht⟩
  · exact .inl ⟨List.eq_nil_of_length_eq_zero hn, _, _, rfl⟩
  · refine .inr ⟨g, 0, cap, rfl, (Array.getElem?_eq_some_iff.1 hg).1, fun j hj => ?_⟩
    obtain ⟨g', e, hc⟩ := ownS.cell h j hj
    simp only [Option.some.injEq, Addr.mk.injEq, and_true] at e
    subst e
    rw [Nat.zero_add, hc]
    simp [List.getD, hj]
theorem ownS.bel {w w' : World} {base : Nat} {v : Value} {L : List (List UInt8)} (h : ownS w base v L) (hb : Below w.heap.size w w') : ownS w' base v L := h.below hb (Nat.le_refl _)

end Go.Proofs.Ytjbkjmceabilaaa
