/- What comes in: lists of fields, single fields, lists of texts: what is read of them. -/
import Derived.Test.YtjbkjmceabilaaaDoorKFieldsA
import Derived.Test.YtjbkjmceabilaaaDoorRows
import Derived.Deep.Slices
import Derived.Deep.Fields
import Derived.Lib.SmallJoins
import Derived.OpenShut
import Derived.Carry
namespace Go.Proofs.YtjbkjmceabilaaaDoor
open Go.Joins Go.ChangeShapes Go.WideShapes Go.ChangeAt Go.RowKit Go.Deep
set_option maxRecDepth 100000

theorem list_of {α : Type} (P : Nat → α → Prop) : ∀ n, (∀ i, i < n → ∃ x, P i x) → ∃ L : List α, L.length = n ∧ ∀ i (hi : i < L.length), P i L[i]
  | 0, _ => ⟨[], rfl, fun i hi => absurd hi (by simp)⟩
  | n + 1, h => by
    obtain ⟨L, hl, hp⟩ := list_of P n fun i hi => h i (by omega)
    obtain ⟨x, hx⟩ := h n (by omega)
    refine ⟨L ++ [x], by simp [hl], fun i hi => ?_⟩
    rcases Nat.lt_or_ge i n with h1 | h1
    · rw [List.getElem_append_left (by omega)]; exact hp i (by omega)
    · obtain rfl : i = n := by simp [hl] at hi; omega
      rw [List.getElem_append_right (by omega)]; simpa [hl] using hx
theorem plain_addr {W : World} {a : Addr} {u : Value} (h : W.cell? (a.add 0) = some u) : ∃ b off, a = ⟨b, off, none⟩ := by
  obtain ⟨b, off, spot⟩ := a
  cases spot with
  | none => exact ⟨b, off, rfl⟩
  | some s =>
    unfold Addr.add World.cell? at h
    split at h <;> simp_all

section
variable {H : Type} {enc : TypeId × Value → H} {W : World} {base : Nat} {v : Value} {d : DataW H} {ps : List MemPlace}
theorem open_argF (hv : Value.okWide Tryd.prog W .any base 22 v) (h : DataW.Trod enc Tryd.prog W 0 (fun _ => true) true 22 v d ps) :
    ∃ L : List Fld, FL W v L ∧ (∀ j (hj : j < L.length), L[j].1.length ≤ 9223372036854775807 ∧ L[j].2.length ≤ 9223372036854775807) ∧ L.length ≤ 9223372036854775807 := by
  obtain ⟨a0, len, cap, rfl⟩ := okWide_slice Tryd.underlying22 hv
  obtain ⟨fuel, hf⟩ := h
  have hC : Tryd.prog.cellsOf 37 = 2 := by kernel_rfl
  rcases open_slice Tryd.underlying22 hf with ⟨hcs, _⟩ | ⟨a, len', cap', m, n, D, Pl, hcs, _, hl, hm, hmm, _, hi⟩
  · have e : a0 = none ∧ len = 0 ∧ cap = 0 := by simpa [Value.cells] using hcs
    obtain ⟨rfl, rfl, rfl⟩ := e
    exact ⟨[], FL_nil W, fun j hj => absurd hj (by simp), by simp⟩
  · have e : a0 = some a ∧ len = len' ∧ cap = cap' := by simpa [Value.cells] using hcs
    obtain ⟨rfl, rfl, rfl⟩ := e
    have hml : len ≤ m := by rw [hmm]; split <;> omega
    rw [hC] at hi
    have hex : ∀ i, i < len → ∃ f : Fld, W.cell? (a.add (i * 2)) = some (.string (bs f.1)) ∧ W.cell? (a.add (i * 2 + 1)) = some (.string (bs f.2)) ∧ f.1.length ≤ 9223372036854775807 ∧ f.2.length ≤ 9223372036854775807 := by
      intro i hil
      obtain ⟨cs', hc, ht⟩ := hi i (by omega)
      obtain ⟨xs, n', _, _, hlen, hxl, hg⟩ := DataW.trod_struct Tryd.underlying37 ht
      rw [hC] at hlen
      obtain ⟨_, _, hat⟩ := World.cells?_some hc
      match cs', hlen with
      | [c0, c1], _ =>
        have g0 : DataW.trod enc Tryd.prog W 0 (fun _ => true) true n' 9 (([c0, c1].drop 0).take (Tryd.prog.cellsOf 9)) = xs[0]? := hg 0 _ rfl
        have g1 : DataW.trod enc Tryd.prog W 0 (fun _ => true) true n' 9 (([c0, c1].drop 1).take (Tryd.prog.cellsOf 9)) = xs[1]? := hg 1 _ rfl
        rw [List.getElem?_eq_getElem (by rw [hxl]; decide)] at g0 g1
        have k0 : Tryd.prog.cellsOf 9 = 1 := by kernel_rfl
        rw [k0] at g0 g1
        replace g0 : DataW.trod enc Tryd.prog W 0 (fun _ => true) true n' 9 [c0] = _ := g0
        replace g1 : DataW.trod enc Tryd.prog W 0 (fun _ => true) true n' 9 [c1] = _ := g1
        obtain ⟨s0, e0, _, z0⟩ := DataW.trod_string Tryd.underlying9 g0
        obtain ⟨s1, e1, _, z1⟩ := DataW.trod_string Tryd.underlying9 g1
        obtain rfl : c0 = .string s0 := by simpa using e0
        obtain rfl : c1 = .string s1 := by simpa using e1
        have h0 := hat 0 (by decide)
        have h1 := hat 1 (by decide)
        rw [Go.Deep.add_add] at h0 h1
        unfold maxLen at z0 z1
        exact ⟨(s0.data.toList, s1.data.toList), h0, h1, by rw [← size_len]; omega, by rw [← size_len]; omega⟩
    obtain ⟨L, hLl, hL⟩ := list_of _ len hex
    refine ⟨L, ?_, fun j hj => (hL j hj).2.2, by rw [hLl]; unfold maxLen at hm; omega⟩
    rcases Nat.eq_zero_or_pos len with h0 | h0
    · subst h0
      exact .inl ⟨List.eq_nil_of_length_eq_zero hLl, _, _, rfl⟩
    · have hc0 := (hL 0 (by omega)).1
      rw [Nat.zero_mul] at hc0
      obtain ⟨b, off, rfl⟩ := plain_addr hc0
      refine .inr ⟨b, off, cap, by rw [hLl], block_lt_of_cell (by rw [Addr.add_lit] at hc0; exact hc0), fun j hj => ?_⟩
      have h1 := hL j hj
      rw [Addr.add_lit, Addr.add_lit, ← Nat.add_assoc] at h1
      exact ⟨h1.1, h1.2.1⟩
theorem open_argFc (hv : Value.okWide Tryd.prog W .any base 22 v) (h : DataW.Trod enc Tryd.prog W 0 (fun _ => true) true 22 v d ps) :
    ∃ A n c, v = .slice A n c ∧ n ≤ c ∧ (A = none → c = 0) := by
  obtain ⟨a0, len, cap, rfl⟩ := okWide_slice Tryd.underlying22 hv
  obtain ⟨fuel, hf⟩ := h
  rcases open_slice Tryd.underlying22 hf with ⟨hcs, _⟩ | ⟨a, len', cap', m, n, D, Pl, hcs, _, hl, _⟩
  · have e : a0 = none ∧ len = 0 ∧ cap = 0 := by simpa [Value.cells] using hcs
    obtain ⟨rfl, rfl, rfl⟩ := e
    exact ⟨_, _, _, rfl, Nat.le_refl _, fun _ => rfl⟩
  · have e : a0 = some a ∧ len = len' ∧ cap = cap' := by simpa [Value.cells] using hcs
    obtain ⟨rfl, rfl, rfl⟩ := e
    exact ⟨_, _, _, rfl, hl, fun e => by cases e⟩
theorem open_argTc (hv : Value.okWide Tryd.prog W .any base 32 v) (h : DataW.Trod enc Tryd.prog W 0 (fun _ => true) true 32 v d ps) :
    ∃ A n c, v = .slice A n c ∧ n ≤ c ∧ (A = none → c = 0) := by
  obtain ⟨a0, len, cap, rfl⟩ := okWide_slice Tryd.underlying32 hv
  obtain ⟨fuel, hf⟩ := h
  rcases open_slice Tryd.underlying32 hf with ⟨hcs, _⟩ | ⟨a, len', cap', m, n, D, Pl, hcs, _, hl, _⟩
  · have e : a0 = none ∧ len = 0 ∧ cap = 0 := by simpa [Value.cells] using hcs
    obtain ⟨rfl, rfl, rfl⟩ := e
    exact ⟨_, _, _, rfl, Nat.le_refl _, fun _ => rfl⟩
  · have e : a0 = some a ∧ len = len' ∧ cap = cap' := by simpa [Value.cells] using hcs
    obtain ⟨rfl, rfl, rfl⟩ := e
    exact ⟨_, _, _, rfl, hl, fun e => by cases e⟩
theorem open_argT (hv : Value.okWide Tryd.prog W .any base 32 v) (h : DataW.Trod enc Tryd.prog W 0 (fun _ => true) true 32 v d ps) :
    ∃ L : List (List UInt8), SL W v L ∧ (∀ j (hj : j < L.length), L[j].length ≤ 9223372036854775807) ∧ L.length ≤ 9223372036854775807 := by
  obtain ⟨a0, len, cap, rfl⟩ := okWide_slice Tryd.underlying32 hv
  obtain ⟨fuel, hf⟩ := h
  have hC : Tryd.prog.cellsOf 9 = 1 := by kernel_rfl
  rcases open_slice Tryd.underlying32 hf with ⟨hcs, _⟩ | ⟨a, len', cap', m, n, D, Pl, hcs, _, hl, hm, hmm, _, hi⟩
  · have e : a0 = none ∧ len = 0 ∧ cap = 0 := by simpa [Value.cells] using hcs
    obtain ⟨rfl, rfl, rfl⟩ := e
    exact ⟨[], SL_nil W, fun j hj => absurd hj (by simp), by simp⟩
  · have e : a0 = some a ∧ len = len' ∧ cap = cap' := by simpa [Value.cells] using hcs
    obtain ⟨rfl, rfl, rfl⟩ := e
    have hml : len ≤ m := by rw [hmm]; split <;> omega
    rw [hC] at hi
    have hex : ∀ i, i < len → ∃ x : List UInt8, W.cell? (a.add i) = some (.string (bs x)) ∧ x.length ≤ 9223372036854775807 := by
      intro i hil
      obtain ⟨cs', hc, ht⟩ := hi i (by omega)
      obtain ⟨s0, rfl, _, z0⟩ := DataW.trod_string Tryd.underlying9 ht
      obtain ⟨_, _, hat⟩ := World.cells?_some hc
      have h0 := hat 0 (by decide)
      rw [Go.Deep.add_add] at h0
      unfold maxLen at z0
      exact ⟨s0.data.toList, by simpa using h0, by rw [← size_len]; omega⟩
    obtain ⟨L, hLl, hL⟩ := list_of _ len hex
    refine ⟨L, ?_, fun j hj => (hL j hj).2, by rw [hLl]; unfold maxLen at hm; omega⟩
    rcases Nat.eq_zero_or_pos len with h0 | h0
    · subst h0
      exact .inl ⟨List.eq_nil_of_length_eq_zero hLl, _, _, rfl⟩
    · have hc0 := (hL 0 (by omega)).1
      obtain ⟨b, off, rfl⟩ := plain_addr hc0
      refine .inr ⟨b, off, cap, by rw [hLl], block_lt_of_cell (by rw [Addr.add_lit] at hc0; exact hc0), fun j hj => ?_⟩
      have h1 := hL j hj
      rw [Addr.add_lit] at h1
      exact h1.1
theorem open_argD (hv : Value.okWide Tryd.prog W .any base 37 v) (h : DataW.Trod enc Tryd.prog W 0 (fun _ => true) true 37 v d ps) :
    ∃ f : Fld, v = fv f ∧ f.1.length ≤ 9223372036854775807 ∧ f.2.length ≤ 9223372036854775807 := by
  obtain ⟨v0, v1, y0, y1, n, rfl, _, _, t0, t1⟩ := open_agg2 Tryd.underlying37 (by kernel_rfl) (by kernel_rfl) hv h
  obtain ⟨s0, e0, _, z0⟩ := DataW.trod_string Tryd.underlying9 t0
  obtain ⟨s1, e1, _, z1⟩ := DataW.trod_string Tryd.underlying9 t1
  obtain rfl : v0 = .string s0 := by simpa using e0
  obtain rfl : v1 = .string s1 := by simpa using e1
  unfold maxLen at z0 z1
  exact ⟨(s0.data.toList, s1.data.toList), rfl, by rw [← size_len]; omega, by rw [← size_len]; omega⟩
theorem open_argDd (hv : Value.okWide Tryd.prog W .any base 37 v) (h : DataW.Trod enc Tryd.prog W 0 (fun _ => true) true 37 v d ps) :
    ∃ f : Fld, v = fv f ∧ d = .agg [.lit (.string f.1), .lit (.string f.2)] := by
  obtain ⟨v0, v1, y0, y1, n, rfl, rfl, _, t0, t1⟩ := open_agg2 Tryd.underlying37 (by kernel_rfl) (by kernel_rfl) hv h
  obtain ⟨s0, e0, d0, _⟩ := DataW.trod_string Tryd.underlying9 t0
  obtain ⟨s1, e1, d1, _⟩ := DataW.trod_string Tryd.underlying9 t1
  obtain rfl : v0 = .string s0 := by simpa using e0
  obtain rfl : v1 = .string s1 := by simpa using e1
  exact ⟨(s0.data.toList, s1.data.toList), rfl, by rw [d0, d1]⟩
end
end Go.Proofs.YtjbkjmceabilaaaDoor
