/- Two lists of texts held against each other; the texts of a list as one. -/
import Derived.Lib.Join
import Derived.Test.YtfjdfdobeiblhaaStrs
import Derived.Test.YtfjdfdobeiblhaaTextC
import Derived.Test.YtfjdfdobeiblhaaShelf
namespace Go.Proofs.Ytfjdfdobeiblhaa
open Go.RowKit

theorem below_dnX {B : Nat} {a w : World} (h : Below B a w) (n : Nat) : Below B a (w.drewN n) := ⟨h.os, h.tape, h.output, h.size, h.block⟩
theorem ownS.heap {w w' : World} {base : Nat} {v : Value} {l : List (List UInt8)} (h : ownS w base v l) (hh : w'.heap = w.heap) : ownS w' base v l := by
  refine ⟨h.1, ?_⟩
  rw [hh]; exact h.2

theorem take_eq_snoc {L1 L2 : List (List UInt8)} {k : Nat} (h1 : k < L1.length) (h2 : k < L2.length) (h : L1.take k = L2.take k) (he : L1.getD k [] = L2.getD k []) : L1.take (k + 1) = L2.take (k + 1) := by
  rw [List.take_succ_eq_append_getElem h1, List.take_succ_eq_append_getElem h2, h]
  simp [List.getD, h1, h2] at he
  rw [he]


theorem bs_lists (l : List (List UInt8)) : (l.map bs).map (fun x => x.data.toList) = l := by
  rw [List.map_map]
  have : (fun x : ByteArray => x.data.toList) ∘ bs = id := by funext x; simp
  rw [this, List.map_id]

/-- 'strings.Join' of a slice of the call's own. -/
theorem join_any (B : Nat) (v : Value) (L : List (List UInt8)) (sep : ByteArray) (w : World) (h : ownS w B v L) (hl : L.length ≤ 4294967296) (hlen : (Lib.join L sep.data.toList).length ≤ 140737488355328) :
    Calls Try.prog 39 #[v, .string sep] w fun e w' => e = .returned (.string (bs (Lib.join L sep.data.toList))) ∧ Below w.heap.size w w' := by
  rcases h.2 with ⟨rfl, hn⟩ | ⟨g, cap, cur, rfl, hb, hg, hnc, r⟩
  · have : L = [] := List.eq_nil_of_length_eq_zero hn
    subst this
    refine (Try.strings_Join_none none 0 sep w).mono ?_
    rintro e w' ⟨rfl, rfl⟩
    exact ⟨rfl, Below.refl _ _⟩
  · have hc := Try.strings_Join g 0 cap (L.map bs) sep w (fun j x hx => by
      have hj : j < L.length := by
        have := (List.getElem?_eq_some_iff.1 hx).1; simpa using this
      have h1 := World.ownsRow.cells h (g := g) rfl j (.string x) (by
        simp only [strCs, List.getElem?_map] at hx ⊢
        rw [List.getElem?_eq_getElem hj] at hx ⊢
        simp at hx ⊢; exact hx)
      rw [show (⟨g, 0, none⟩ : Addr).add j = ⟨g, 0 + j, none⟩ from by unfold Addr.add; split <;> simp_all] at h1
      exact h1) (Array.getElem?_eq_some_iff.1 hg).1 (by rw [List.length_map]; omega) (by rw [List.length_map]; exact hnc) (by rw [bs_lists]; exact hlen)
    rw [bs_lists, List.length_map] at hc
    exact hc

theorem inter_len (c : UInt8) : ∀ L : List (List UInt8), (Lib.join L [c]).length ≤ L.flatten.length + L.length
  | [] => by simp [Lib.join, List.intercalate]
  | [x] => by simp [Lib.join, List.intercalate]
  | x :: y :: r => by
    have h := inter_len c (y :: r)
    have e : Lib.join (x :: y :: r) [c] = x ++ [c] ++ Lib.join (y :: r) [c] := by simp [Lib.join, List.intercalate]
    rw [e]
    simp only [List.length_append, List.flatten_cons, List.length_cons, List.length_nil] at h ⊢
    omega

end Go.Proofs.Ytfjdfdobeiblhaa
