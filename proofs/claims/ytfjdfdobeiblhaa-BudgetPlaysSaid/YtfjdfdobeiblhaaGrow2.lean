/- A region that draws its order, walked once under ONE condition on the world that every step keeps; where two steps that make memory may come up, both ways. No program is read here. -/
import Derived.OrdersHeld
import Derived.Deep.RegionHeld3
import Derived.Below
import Derived.Lib.Hide
namespace Go.Proofs.Ytfjdfdobeiblhaa
open Go.RowKit

/-- an order: one step (true: it makes memory or writes, and is the only one that may come up), or one of two that may come up -/
inductive GT where
  | done
  | one (i : Nat) (c : Bool) (t : GT)
  | two (i j : Nat) (t u : GT)
def GT.depth : GT → Nat
  | .done => 0
  | .one _ _ t => t.depth + 1
  | .two _ _ t _ => t.depth + 1
inductive GTo where
  | done
  | one (o : Oper) (c : Bool) (t : GTo)
  | two (o p : Oper) (t u : GTo)
def noOp : Oper := { dst := none, op := .assign (.const undef), type := 0, pos := "", after := #[], guard := none }
def GT.ins (l : List Oper) : GT → GTo
  | .done => .done
  | .one i c t => .one (l.getD i noOp) c (t.ins l)
  | .two i j t u => .two (l.getD i noOp) (l.getD j noOp) (t.ins l) (u.ins l)
def GT.within (n : Nat) : GT → Bool
  | .done => true
  | .one i _ t => decide (i < n) && t.within n
  | .two i j t u => decide (i < n) && decide (j < n) && t.within n && u.within n

section
variable {P : Program} {ops : Array Oper} {Q : Exit → Act → World → Prop} {md : Region.Mode} {S : World → Prop}

def okT (md : Region.Mode) (ops : Array Oper) : GT → Array Bool → Bool
  | .done, listed => (Region.ready md ops listed).isEmpty
  | .one i c t, listed => (if c then decide (Region.ready md ops listed = [i]) else Region.free md ops listed i && (Region.ready md ops listed).contains i) && okT md ops t (listed.setIfInBounds i true)
  | .two i j t u, listed => decide (Region.ready md ops listed = [i, j]) && decide (t.depth = u.depth) && okT md ops t (listed.setIfInBounds i true) && okT md ops u (listed.setIfInBounds j true)

def wpTo (P : Program) (ops : Array Oper) (Q : Exit → Act → World → Prop) (S : World → Prop) : GTo → Act → World → Prop
  | .done, a, w => Q .normal a w
  | .one o c t, a, w =>
    (Region.wanted o (yielded ops a.tmps) = false ∧ wpTo P ops Q S t (a.put o.dst undef) w) ∨
    (Region.wanted o (yielded ops a.tmps) = true ∧ c = true ∧ Oper.wp P o a w (fun a' w' => S w' ∧ wpTo P ops Q S t a' w') Q) ∨
    (Region.wanted o (yielded ops a.tmps) = true ∧ c = false ∧ ∃ v, (∀ w', S w' → (execOp a.eval o).run P w' = .ok (.value v) w') ∧ wpTo P ops Q S t (a.put o.dst v) w)
  | .two o p t u, a, w =>
    Region.wanted o (yielded ops a.tmps) = true ∧ Region.wanted p (yielded ops a.tmps) = true ∧
    Oper.wp P o a w (fun a' w' => S w' ∧ wpTo P ops Q S t a' w') Q ∧ Oper.wp P p a w (fun a' w' => S w' ∧ wpTo P ops Q S u a' w') Q

theorem growS_sound {l : List Oper} (hs : Region.noSelect l.toArray = true) (hQ : ∀ c a d v w, Q (.panic c) (Act.put a d v) w → Q (.panic c) a w) : ∀ (t : GT) (listed : Array Bool) (a : Act) (w : World),
    okT md l.toArray t listed = true → t.within l.length = true → S w → wpTo P l.toArray Q S (t.ins l) a w → wpAnyH P md l.toArray Q S t.depth listed a w
  | .done, listed, a, w, hk, _, _, h => wpAnyH_done (by simpa [okT] using hk) h _
  | .one i c t, listed, a, w, hk, hin, hS, h => by
    rw [okT, Bool.and_eq_true] at hk
    rw [GT.within, Bool.and_eq_true] at hin
    obtain ⟨hk1, hk2⟩ := hk
    have hi : i < l.length := of_decide_eq_true hin.1
    have ho : l.toArray[i]? = some (l.getD i noOp) := by simp [List.getD_eq_getElem?_getD, hi]
    rw [GT.ins] at h
    rcases h with ⟨hw, h⟩ | ⟨hw, rfl, h⟩ | ⟨hw, rfl, v, hv, h⟩
    · cases c
      · simp only [Bool.false_eq_true, if_false, Bool.and_eq_true] at hk1
        exact wpAnyH_take ho hs hk1.1 hk1.2 (fun c a w => hQ c a _ _ w) (.inr ⟨hw, rfl⟩) hS (growS_sound hs hQ t _ _ _ hk2 hin.2 hS h)
      · simp only [if_true] at hk1
        refine wpAnyH_all (of_decide_eq_true hk1) (by simp) fun j hj => ?_
        obtain rfl : j = i := by simpa using hj
        unfold wpOp
        simp only [ho, hw, Bool.false_eq_true, if_false]
        exact ⟨hS, growS_sound hs hQ t _ _ _ hk2 hin.2 hS h⟩
    · simp only [if_true] at hk1
      refine wpAnyH_all (of_decide_eq_true hk1) (by simp) fun j hj => ?_
      obtain rfl : j = i := by simpa using hj
      unfold wpOp
      simp only [ho, hw, if_true]
      exact .inl (Oper.wp_mono (fun a' w' k => ⟨k.1, growS_sound hs hQ t _ _ _ hk2 hin.2 k.1 k.2⟩) h)
    · simp only [Bool.false_eq_true, if_false, Bool.and_eq_true] at hk1
      exact wpAnyH_take ho hs hk1.1 hk1.2 (fun c a w => hQ c a _ _ w) (.inl ⟨hw, hv⟩) hS (growS_sound hs hQ t _ _ _ hk2 hin.2 hS h)
  | .two i j t u, listed, a, w, hk, hin, hS, h => by
    simp only [okT, Bool.and_eq_true, decide_eq_true_eq] at hk
    simp only [GT.within, Bool.and_eq_true, decide_eq_true_eq] at hin
    obtain ⟨⟨⟨hk1, hd⟩, hk2⟩, hk3⟩ := hk
    obtain ⟨⟨⟨hi, hj⟩, hin1⟩, hin2⟩ := hin
    have ho : l.toArray[i]? = some (l.getD i noOp) := by simp [List.getD_eq_getElem?_getD, hi]
    have hp : l.toArray[j]? = some (l.getD j noOp) := by simp [List.getD_eq_getElem?_getD, hj]
    rw [GT.ins] at h
    obtain ⟨hw1, hw2, h1, h2⟩ := h
    rw [GT.depth]
    refine wpAnyH_all hk1 (by simp) fun k hk => ?_
    rcases List.mem_cons.1 hk with rfl | hk
    · unfold wpOp
      simp only [ho, hw1, if_true]
      exact .inl (Oper.wp_mono (fun a' w' k => ⟨k.1, growS_sound hs hQ t _ _ _ hk2 hin1 k.1 k.2⟩) h1)
    · obtain rfl : k = j := by simpa using hk
      unfold wpOp
      simp only [hp, hw2, if_true]
      refine .inl (Oper.wp_mono (fun a' w' k => ⟨k.1, ?_⟩) h2)
      rw [hd]
      exact growS_sound hs hQ u _ _ _ hk3 hin2 k.1 k.2

/-- The region by a tree of orders, under the condition S. -/
theorem wp_region_growS {id : Nat} {a : Act} {w : World} {l : List Oper} (t : GT) (S : World → Prop) (hm : P.follows .mixedOrders = true) (hs : Region.noSelect l.toArray = true) (hl : t.depth = l.toArray.size)
    (hk : okT .any l.toArray t (Array.replicate l.toArray.size false) = true) (hb : t.within l.length = true) (hS : S w.drew)
    (h : ∀ ops, Hid (ops = l.toArray) → wpTo P ops (NoPanic Q) S (t.ins l) a w.drew) : (Code.region id l.toArray true).wp P Q a w := by
  refine wp_region_noPanic (wp_region_held (S := S) hm ?_)
  rw [← hl] at hk ⊢
  exact growS_sound hs (fun _ _ _ _ _ h => h) t _ _ _ hk hb hS (h _ rfl)

theorem growS_call {o : Oper} {t : GTo} {a : Act} {w : World} (hw : Region.wanted o (yielded ops a.tmps) = true)
    (h : ∀ K : Act → World → Prop, Hid (∀ a' w', S w' → wpTo P ops Q S t a' w' → K a' w') → Oper.wp P o a w K Q) : wpTo P ops Q S (.one o true t) a w :=
  .inr (.inl ⟨hw, rfl, h _ (fun _ _ h1 h2 => ⟨h1, h2⟩)⟩)
theorem growS_take {o : Oper} {t : GTo} {a : Act} {w : World} (hw : Region.wanted o (yielded ops a.tmps) = true)
    (h : ∃ v, (∀ w', S w' → (execOp a.eval o).run P w' = .ok (.value v) w') ∧ wpTo P ops Q S t (a.put o.dst v) w) : wpTo P ops Q S (.one o false t) a w :=
  .inr (.inr ⟨hw, rfl, h⟩)
theorem growS_skip {o : Oper} {c : Bool} {t : GTo} {a : Act} {w : World} (hw : Region.wanted o (yielded ops a.tmps) = false) (h : wpTo P ops Q S t (a.put o.dst undef) w) : wpTo P ops Q S (.one o c t) a w :=
  .inl ⟨hw, h⟩
theorem growS_done {a : Act} {w : World} (h : Q .normal a w) : wpTo P ops Q S .done a w := h
theorem growS_two {o p : Oper} {t u : GTo} {a : Act} {w : World} (hw : Region.wanted o (yielded ops a.tmps) = true) (hw2 : Region.wanted p (yielded ops a.tmps) = true)
    (h1 : ∀ K : Act → World → Prop, Hid (∀ a' w', S w' → wpTo P ops Q S t a' w' → K a' w') → Oper.wp P o a w K Q)
    (h2 : ∀ K : Act → World → Prop, Hid (∀ a' w', S w' → wpTo P ops Q S u a' w' → K a' w') → Oper.wp P p a w K Q) : wpTo P ops Q S (.two o p t u) a w :=
  ⟨hw, hw2, h1 _ (fun _ _ h1 h2 => ⟨h1, h2⟩), h2 _ (fun _ _ h1 h2 => ⟨h1, h2⟩)⟩
end
end Go.Proofs.Ytfjdfdobeiblhaa
