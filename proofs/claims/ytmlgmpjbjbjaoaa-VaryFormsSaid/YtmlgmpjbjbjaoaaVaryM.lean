/- What the loop of VaryForms keeps. -/
import Derived.Test.YtmlgmpjbjbjaoaaVaryI
namespace Go.Proofs.Ytmlgmpjbjbjaoaa
open Go.RowKit Go.Shelf

theorem gaps_repV (c : UInt8) (hc : blankB c = true) : ∀ n, gaps (Lib.repeatL [c] n)
  | 0 => by intro x hx; cases hx
  | n + 1 => by
    intro x hx
    simp only [Lib.repeatL, List.singleton_append, List.mem_cons] at hx
    rcases hx with rfl | hx
    · exact hc
    · exact gaps_repV c hc n x hx
theorem run_eqlF (x y : Fld) (w : World) : (binOp .eql 41 (.agg #[.string (bs x.1), .string (bs x.2)]) (.agg #[.string (bs y.1), .string (bs y.2)])).run Try.prog w = .ok (.bool (x == y)) w := by
  have h := run_neqF x y w
  rw [run_neq_struct] at h
  rw [run_eql_struct]
  generalize (Op.equalIn 10000 41 (.agg #[.string (bs x.1), .string (bs x.2)]) (.agg #[.string (bs y.1), .string (bs y.2)])).run Try.prog w = R at *
  cases R with
  | ok b w' =>
    simp only [Result.andThen_ok, Result.ok.injEq, Value.bool.injEq] at h ⊢
    obtain ⟨h1, h2⟩ := h
    refine ⟨?_, h2⟩
    cases b <;> cases hq : (x == y) <;> simp_all
  | _ => simp_all [Result.andThen]
theorem FL_litsV (w : World) (fs : List Fld) : FL (w.alloc (.cells (fcs fs).toArray 41)) (.slice (some ⟨w.heap.size, 0, none⟩) fs.length fs.length) fs := by
  refine .inr ⟨w.heap.size, 0, fs.length, rfl, by simp, fun j hj => ?_⟩
  have hh := heap_alloc_new w (.cells (fcs fs).toArray 41)
  rw [Nat.zero_add]
  obtain ⟨f1, f2⟩ := fcs_at fs j hj
  have e1 := cell_of_row _ w.heap.size (j * 2) _ _ _ hh
  have e2 := cell_of_row _ w.heap.size (j * 2 + 1) _ _ _ hh
  rw [List.getElem?_toArray] at e1 e2
  exact ⟨e1.trans f1, e2.trans f2⟩
theorem ownsRow_keepG {w w' : World} {base : Nat} {e : TypeId} {size : Nat} {v : Value} {n : Nat} {xs : List Value} (h : w.ownsRow base e size v n xs) (hk : ∀ g, v.ownBlock = some g → w'.heap[g]? = w.heap[g]?) : w'.ownsRow base e size v n xs := by
  refine ⟨h.1, ?_⟩
  rcases h.2 with h2 | ⟨g, cap, cur, rfl, hb, hg, r⟩
  · exact .inl h2
  · exact .inr ⟨g, cap, cur, rfl, hb, (hk g rfl).trans hg, r⟩
/-- texts and fields lie in blocks of their own -/
theorem own_apart {w : World} {b1 b2 : Nat} {v1 v2 : Value} {L : List (List UInt8)} {l : List Fld} (h1 : ownS w b1 v1 L) (h2 : ownF w b2 v2 l) : ∀ g, v1.ownBlock = some g → v2.ownBlock ≠ some g := by
  intro g e1 e2
  rcases h1.2 with ⟨rfl, _⟩ | ⟨g1, c1, cur1, rfl, _, hg1, _⟩
  · simp [Value.ownBlock] at e1
  · rcases h2.2 with ⟨rfl, _⟩ | ⟨g2, c2, cur2, rfl, _, hg2, _⟩
    · simp [Value.ownBlock] at e2
    · obtain rfl : g1 = g := by simpa [Value.ownBlock] using e1
      obtain rfl : g2 = g1 := by simpa [Value.ownBlock] using e2
      rw [hg1] at hg2
      simp at hg2

/-! What the loop keeps. -/
def accC : List UInt8 := [65, 67, 67, 69, 80, 84]
def accA : List UInt8 := [65, 99, 99, 101, 112, 116]
def xN : List UInt8 := [120]
structure FormP (k : Nat) (G : List (List UInt8)) (F : List Fld) (X : List UInt8) (P : List (List UInt8)) : Prop where
  line : lineP X P
  all : partsN F acceptN ++ P = G
  lenF : F.length ≤ 2 * k
  lenG : G.length ≤ k
  lenX : X.length ≤ 60 * k
  sizeF : ∀ f ∈ F, f.1.length ≤ 6 ∧ f.2.length ≤ 60 * k
  sizeG : ∀ x ∈ G, x.length ≤ 50
theorem FormP.nil : FormP 0 [] [] [] [] := ⟨lineP_nil, rfl, Nat.le_refl _, Nat.le_refl _, Nat.le_refl _, (fun f hf => by cases hf), (fun x hx => by cases hx)⟩
theorem FormP.keep {k : Nat} {G : List (List UInt8)} {F : List Fld} {X : List UInt8} {P : List (List UInt8)} (h : FormP k G F X P) : FormP (k + 1) G F X P :=
  ⟨h.line, h.all, by have := h.lenF; omega, by have := h.lenG; omega, by have := h.lenX; omega, fun f hf => by have := h.sizeF f hf; omega, h.sizeG⟩
theorem FormP.put {k : Nat} {G : List (List UInt8)} {F : List Fld} {X : List UInt8} {P : List (List UInt8)} (h : FormP k G F X P) {r1 t r2 : List UInt8} (h1 : gaps r1) (h2 : gaps r2) (z1 : r1.length ≤ 2) (z2 : r2.length ≤ 2) (ht : token t = true) (hz : t.length ≤ 50) :
    FormP (k + 1) (G ++ [t]) F (X ++ r1 ++ t ++ r2 ++ [44]) (P ++ [t]) := by
  refine ⟨lineP_put h.line h1 h2 ht, by rw [← List.append_assoc, h.all], by have := h.lenF; omega, by have := h.lenG; simp; omega, ?_, fun f hf => by have := h.sizeF f hf; omega, fun x hx => ?_⟩
  · have := h.lenX
    simp only [List.length_append, List.length_cons, List.length_nil]
    omega
  · rcases List.mem_append.1 hx with hx | hx
    · exact h.sizeG x hx
    · obtain rfl : x = t := by simpa using hx
      exact hz
theorem FormP.lenP {k : Nat} {G : List (List UInt8)} {F : List Fld} {X : List UInt8} {P : List (List UInt8)} (h : FormP k G F X P) : P.length ≤ k := by
  have h1 := congrArg List.length h.all
  have h2 := h.lenG
  rw [List.length_append] at h1
  omega
theorem FormP.cut {k : Nat} {G : List (List UInt8)} {F : List Fld} {X : List UInt8} {P : List (List UInt8)} (h : FormP (k + 1) G F X P) (hk : k + 1 ≤ 20) {t : List UInt8} (hz : t.length ≤ 50) (hl : F.length ≤ 2 * k) :
    FormP (k + 1) G (F ++ [(accC, X), (xN, t)]) [] [] := by
  have hp := h.lenP
  refine ⟨lineP_nil, ?_, by rw [List.length_append]; simp; omega, h.lenG, by simp, fun f hf => ?_, h.sizeG⟩
  · rw [List.append_nil, partsN_app]
    rw [show ([(accC, X), (xN, t)] : List Fld) = [(accC, X)] ++ [(xN, t)] from rfl, partsN_app, partsN_one, partsN_one]
    rw [if_pos (show sameN accC acceptN = true from by decide), if_neg (show ¬ sameN xN acceptN = true from by decide), List.append_nil]
    rw [show (accC, X).2 = X from rfl, lineP_parts h.line (by omega)]
    exact h.all
  · rcases List.mem_append.1 hf with hf | hf
    · have := h.sizeF f hf; omega
    · have hx := h.lenX
      have hm : f = (accC, X) ∨ f = (xN, t) := by simpa using hf
      rcases hm with rfl | rfl
      · exact ⟨by show 6 ≤ 6; omega, hx⟩
      · exact ⟨by show 1 ≤ 6; omega, by show t.length ≤ _; omega⟩
theorem FormP.done {k : Nat} {G : List (List UInt8)} {F : List Fld} {X : List UInt8} {P : List (List UInt8)} (h : FormP k G F X P) (hk : k ≤ 20) : valueL (F ++ [(accA, X)]) acceptN = Lib.join G [44, 32] := by
  have hp := h.lenP
  unfold valueL
  rw [partsN_app, partsN_one, if_pos (show sameN accA acceptN = true from by decide), show (accA, X).2 = X from rfl, lineP_parts h.line (by omega), h.all]
theorem FormP.vf {k : Nat} {G : List (List UInt8)} {F : List Fld} {X : List UInt8} {P : List (List UInt8)} (h : FormP k G F X P) (hk : k ≤ 20) : VfB (F ++ [(accA, X)]) := by
  refine ⟨by have := h.lenF; rw [List.length_append]; simp; omega, fun f hf => ?_⟩
  rcases List.mem_append.1 hf with hf | hf
  · have := h.sizeF f hf; omega
  · obtain rfl : f = (accA, X) := by simpa using hf
    exact ⟨by show 6 ≤ _; omega, by have := h.lenX; show X.length ≤ _; omega⟩

end Go.Proofs.Ytmlgmpjbjbjaoaa
