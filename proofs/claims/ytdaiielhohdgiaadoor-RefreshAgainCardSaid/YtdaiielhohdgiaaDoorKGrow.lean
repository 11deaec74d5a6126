/- A region that draws its order, whose calls make memory: one walk, in an order of the prover's choice. No program is read here. -/
import Derived.OrdersHeld
import Derived.Deep.RegionHeld3
import Derived.Below
import Derived.Lib.Hide
namespace Go.Proofs.YtdaiielhohdgiaaDoor
open Go.RowKit

section
variable {P : Program} {ops : Array Oper} {Q : Exit → Act → World → Prop} {md : Region.Mode}

theorem wpAnyH_weaker {S S' : World → Prop} (hS : ∀ w, S' w → S w) : ∀ (fuel : Nat) (listed : Array Bool) (a : Act) (w : World), wpAnyH P md ops Q S' fuel listed a w → wpAnyH P md ops Q S fuel listed a w
  | 0, _, _, _, h => h
  | fuel + 1, _, _, _, h => ⟨h.1, fun i hi => wpOp_mono (fun _ _ k => ⟨hS _ k.1, wpAnyH_weaker hS fuel _ _ _ k.2⟩) (h.2 i hi)⟩

/-- The order is one that may be: a step marked 'true' (a call that makes memory) is the only one that may come up; another one may come up, and is apart from whatever may come ahead of it. -/
def growOK (md : Region.Mode) (ops : Array Oper) : List (Nat × Bool) → Array Bool → Bool
  | [], listed => (Region.ready md ops listed).isEmpty
  | (i, c) :: is, listed => (if c then decide (Region.ready md ops listed = [i]) else Region.free md ops listed i && (Region.ready md ops listed).contains i) && growOK md ops is (listed.setIfInBounds i true)

/-- The walk: a step that is no call yields its value in every world that has grown out of the one at hand. -/
def wpGrow (P : Program) (ops : Array Oper) (Q : Exit → Act → World → Prop) : List (Nat × Bool) → Act → World → Prop
  | [], a, w => Q .normal a w
  | (i, c) :: is, a, w => ∃ o, ops[i]? = some o ∧
    ((Region.wanted o (yielded ops a.tmps) = false ∧ wpGrow P ops Q is (a.put o.dst undef) w) ∨
     (Region.wanted o (yielded ops a.tmps) = true ∧ c = true ∧ Oper.wp P o a w (fun a' w' => Below w.heap.size w w' ∧ wpGrow P ops Q is a' w') Q) ∨
     (Region.wanted o (yielded ops a.tmps) = true ∧ c = false ∧ ∃ v, (∀ w', Below w.heap.size w w' → (execOp a.eval o).run P w' = .ok (.value v) w') ∧ wpGrow P ops Q is (a.put o.dst v) w))

theorem grow_sound (hs : Region.noSelect ops = true) (hQ : ∀ c a d v w, Q (.panic c) (Act.put a d v) w → Q (.panic c) a w) : ∀ (is : List (Nat × Bool)) (listed : Array Bool) (a : Act) (w : World),
    growOK md ops is listed = true → wpGrow P ops Q is a w → wpAnyH P md ops Q (fun x => Below w.heap.size w x) is.length listed a w
  | [], listed, a, w, hk, h => wpAnyH_done (by simpa [growOK] using hk) h _
  | (i, c) :: is, listed, a, w, hk, h => by
    rw [growOK, Bool.and_eq_true] at hk
    obtain ⟨hk1, hk2⟩ := hk
    obtain ⟨o, ho, h⟩ := h
    rcases h with ⟨hw, h⟩ | ⟨hw, rfl, h⟩ | ⟨hw, rfl, v, hv, h⟩
    · cases c
      · simp only [Bool.false_eq_true, if_false, Bool.and_eq_true] at hk1
        exact wpAnyH_take ho hs hk1.1 hk1.2 (fun c a w => hQ c a _ _ w) (.inr ⟨hw, rfl⟩) (Below.refl _ _) (grow_sound hs hQ is _ _ _ hk2 h)
      · simp only [if_true] at hk1
        refine wpAnyH_all (of_decide_eq_true hk1) (by simp) fun j hj => ?_
        obtain rfl : j = i := by simpa using hj
        unfold wpOp
        simp only [ho, hw, Bool.false_eq_true, if_false]
        exact ⟨Below.refl _ _, grow_sound hs hQ is _ _ _ hk2 h⟩
    · simp only [if_true] at hk1
      refine wpAnyH_all (of_decide_eq_true hk1) (by simp) fun j hj => ?_
      obtain rfl : j = i := by simpa using hj
      unfold wpOp
      simp only [ho, hw, if_true]
      exact .inl (Oper.wp_mono (fun a' w' k => ⟨k.1, wpAnyH_weaker (fun x hx => k.1.trans (hx.mono k.1.size)) _ _ _ _ (grow_sound hs hQ is _ _ _ hk2 k.2)⟩) h)
    · simp only [Bool.false_eq_true, if_false, Bool.and_eq_true] at hk1
      exact wpAnyH_take ho hs hk1.1 hk1.2 (fun c a w => hQ c a _ _ w) (.inl ⟨hw, hv⟩) (Below.refl _ _) (grow_sound hs hQ is _ _ _ hk2 h)

theorem wp_region_grow {id : Nat} {a : Act} {w : World} (is : List (Nat × Bool)) (hm : P.follows .mixedOrders = true) (hs : Region.noSelect ops = true) (hl : is.length = ops.size) (hk : growOK .any ops is (Array.replicate ops.size false) = true)
    (h : wpGrow P ops (NoPanic Q) is a w.drew) : (Code.region id ops true).wp P Q a w := by
  refine wp_region_noPanic (wp_region_held (S := fun x => Below w.drew.heap.size w.drew x) hm ?_)
  rw [← hl] at hk ⊢
  exact grow_sound hs (fun _ _ _ _ _ h => h) is _ _ _ hk h

/-- The same walk, the operations themselves in that order. -/
def wpGrowL (P : Program) (ops : Array Oper) (Q : Exit → Act → World → Prop) : List (Oper × Bool) → Act → World → Prop
  | [], a, w => Q .normal a w
  | (o, c) :: is, a, w =>
    (Region.wanted o (yielded ops a.tmps) = false ∧ wpGrowL P ops Q is (a.put o.dst undef) w) ∨
    (Region.wanted o (yielded ops a.tmps) = true ∧ c = true ∧ Oper.wp P o a w (fun a' w' => Below w.heap.size w w' ∧ wpGrowL P ops Q is a' w') Q) ∨
    (Region.wanted o (yielded ops a.tmps) = true ∧ c = false ∧ ∃ v, (∀ w', Below w.heap.size w w' → (execOp a.eval o).run P w' = .ok (.value v) w') ∧ wpGrowL P ops Q is (a.put o.dst v) w)
def noOper : Oper := { dst := none, op := .assign (.const undef), type := 0, pos := "", after := #[], guard := none }
/-- The operations in that order. -/
def inOrder (ops : List Oper) : List (Nat × Bool) → List (Oper × Bool)
  | [] => []
  | (i, c) :: is => (ops.getD i noOper, c) :: inOrder ops is
theorem grow_of_list {l : List Oper} : ∀ (is : List (Nat × Bool)) (a : Act) (w : World), (is.all fun x => decide (x.1 < l.length)) = true → wpGrowL P l.toArray Q (inOrder l is) a w → wpGrow P l.toArray Q is a w
  | [], _, _, _, h => h
  | (i, c) :: is, a, w, hl, h => by
    rw [List.all_cons, Bool.and_eq_true] at hl
    have hi : i < l.length := of_decide_eq_true hl.1
    refine ⟨l.getD i noOper, by simp [List.getD_eq_getElem?_getD, hi], ?_⟩
    rcases h with ⟨h1, h3⟩ | ⟨h1, h2, h3⟩ | ⟨h1, h2, v, h3, h4⟩
    · exact .inl ⟨h1, grow_of_list is _ _ hl.2 h3⟩
    · exact .inr (.inl ⟨h1, h2, Oper.wp_mono (fun _ _ k => ⟨k.1, grow_of_list is _ _ hl.2 k.2⟩) h3⟩)
    · exact .inr (.inr ⟨h1, h2, v, h3, grow_of_list is _ _ hl.2 h4⟩)

theorem wp_region_growL {id : Nat} {a : Act} {w : World} {l : List Oper} (is : List (Nat × Bool)) (hm : P.follows .mixedOrders = true) (hs : Region.noSelect l.toArray = true) (hl : is.length = l.toArray.size)
    (hk : growOK .any l.toArray is (Array.replicate l.toArray.size false) = true) (hb : (is.all fun x => decide (x.1 < l.length)) = true)
    (h : ∀ ops, Hid (ops = l.toArray) → wpGrowL P ops (NoPanic Q) (inOrder l is) a w.drew) : (Code.region id l.toArray true).wp P Q a w :=
  wp_region_grow is hm hs hl hk (grow_of_list is _ _ hb (h _ rfl))

theorem growL_call {o : Oper} {is : List (Oper × Bool)} {a : Act} {w : World} (hw : Region.wanted o (yielded ops a.tmps) = true)
    (h : ∀ K : Act → World → Prop, Hid (∀ a' w', Below w.heap.size w w' → wpGrowL P ops Q is a' w' → K a' w') → Oper.wp P o a w K Q) : wpGrowL P ops Q ((o, true) :: is) a w :=
  .inr (.inl ⟨hw, rfl, h _ (fun _ _ h1 h2 => ⟨h1, h2⟩)⟩)
theorem growL_take {o : Oper} {is : List (Oper × Bool)} {a : Act} {w : World} (hw : Region.wanted o (yielded ops a.tmps) = true)
    (h : ∃ v, (∀ w', Below w.heap.size w w' → (execOp a.eval o).run P w' = .ok (.value v) w') ∧ wpGrowL P ops Q is (a.put o.dst v) w) : wpGrowL P ops Q ((o, false) :: is) a w :=
  .inr (.inr ⟨hw, rfl, h⟩)
theorem wanted_of {o : Oper} {tmps : Array Value} {j d : Nat} {e : Bool} (hg : (ops[j]?).bind (·.dst) = some d) (ho : o.guard = some (j, e)) (ht : tmps[d]? = some (.bool e)) : Region.wanted o (yielded ops tmps) = true := by
  unfold Region.wanted yielded
  rw [ho]
  simp [hg, ht]
theorem unwanted_of {o : Oper} {tmps : Array Value} {j d : Nat} {e : Bool} (hg : (ops[j]?).bind (·.dst) = some d) (ho : o.guard = some (j, e)) (ht : tmps[d]? = some (.bool (!e))) : Region.wanted o (yielded ops tmps) = false := by
  unfold Region.wanted yielded
  rw [ho]
  simp [hg, ht]
theorem growL_skip {o : Oper} {c : Bool} {is : List (Oper × Bool)} {a : Act} {w : World} (hw : Region.wanted o (yielded ops a.tmps) = false) (h : wpGrowL P ops Q is (a.put o.dst undef) w) : wpGrowL P ops Q ((o, c) :: is) a w :=
  .inl ⟨hw, h⟩
theorem growL_done {a : Act} {w : World} (h : Q .normal a w) : wpGrowL P ops Q [] a w := h
end
end Go.Proofs.YtdaiielhohdgiaaDoor
