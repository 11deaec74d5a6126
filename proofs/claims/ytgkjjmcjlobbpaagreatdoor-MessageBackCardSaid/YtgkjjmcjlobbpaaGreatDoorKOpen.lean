/- What comes in: lists of fields, single fields, lists of texts: what is read of them. -/
import Derived.Test.YtgkjjmcjlobbpaaGreatDoorKFieldsA
import Derived.Test.YtgkjjmcjlobbpaaGreatDoorRows
import Derived.Deep.Slices
import Derived.Deep.Fields
import Derived.Lib.SmallJoins
import Derived.OpenShut
import Derived.Carry
namespace Go.Proofs.YtgkjjmcjlobbpaaGreatDoor
open Go.Joins Go.ChangeShapes Go.WideShapes Go.ChangeAt Go.RowKit Go.Deep
set_option maxRecDepth 100000

theorem list_of {α : Type} (P : Nat → α → Prop) : ∀ n, (∀ i, i < n → ∃ x, P i x) → ∃ L : List α, L.length = n ∧ ∀ i (hi : i < L.length), P i L[i]
  | 0, _ => ⟨[], rfl, fun i hi => absurd hi (by simp)⟩
  | n + 1, h => by
    obtain ⟨L, hl, hp⟩ := list_of P n fun i hi => h i (by omega)
    obtain ⟨x, hx⟩ := h n (by omega)
    refine ⟨L ++ [x], by simp [hl], fun i hi => ?_⟩
    rcases Nat.lt_or_ge i n with h1 | h1
    · rw [List.getElem_append_left (by omega)]; exact hp i (by omega)
    · obtain rfl : i = n := by simp [hl] at hi; omega
      rw [List.getElem_append_right (by omega)]; simpa [hl] using hx
theorem plain_addr {W : World} {a : Addr} {u : Value} (h : W.cell? (a.add 0) = some u) : ∃ b off, a = ⟨b, off, none⟩ := by
  obtain ⟨b, off, spot⟩ := a
  cases spot with
  | none => exact ⟨b, off, rfl⟩
  | some s =>
    unfold Addr.add World.cell? at h
    split at h <;> simp_all

section
variable {H : Type} {enc : TypeId × Value → H} {W : World} {base : Nat} {v : Value} {d : DataW H} {ps : List MemPlace}
theorem open_argF (hv : Value.okWide Tryz.prog W .any base 23 v) (h : DataW.Trod enc Tryz.prog W 0 (fun _ => true) true 23 v d ps) :
    ∃ L : List Fld, FL W v L ∧ (∀ j (hj : j < L.length), L[j].1.length ≤ 9223372036854775807 ∧ L[j].2.length ≤ 9223372036854775807) ∧ L.length ≤ 9223372036854775807 := by
  obtain ⟨a0, len, cap, rfl⟩ := okWide_slice Tryz.underlying23 hv
  obtain ⟨fuel, hf⟩ := h
  have hC : Tryz.prog.cellsOf 63 = 2 := by kernel_rfl
  rcases open_slice Tryz.underlying23 hf with ⟨hcs, _⟩ | ⟨a, len', cap', m, n, D, Pl, hcs, _, hl, hm, hmm, _, hi⟩
  · have e : a0 = none ∧ len = 0 ∧ cap = 0 := by simpa [Value.cells] using hcs
    obtain ⟨rfl, rfl, rfl⟩ := e
    exact ⟨[], FL_nil W, fun j hj => absurd hj (by simp), by simp⟩
  · have e : a0 = some a ∧ len = len' ∧ cap = cap' := by simpa [Value.cells] using hcs
    obtain ⟨rfl, rfl, rfl⟩ := e
    have hml : len ≤ m := by rw [hmm]; split <;> omega
    rw [hC] at hi
    have hex : ∀ i, i < len → ∃ f : Fld, W.cell? (a.add (i * 2)) = some (.string (bs f.1)) ∧ W.cell? (a.add (i * 2 + 1)) = some (.string (bs f.2)) ∧ f.1.length ≤ 9223372036854775807 ∧ f.2.length ≤ 9223372036854775807 := by
      intro i hil
      obtain ⟨cs', hc, ht⟩ := hi i (by omega)
      obtain ⟨xs, n', _, _, hlen, hxl, hg⟩ := DataW.trod_struct Tryz.underlying63 ht
      rw [hC] at hlen
      obtain ⟨_, _, hat⟩ := World.cells?_some hc
      match cs', hlen with
      | [c0, c1], _ =>
        have g0 : DataW.trod enc Tryz.prog W 0 (fun _ => true) true n' 9 (([c0, c1].drop 0).take (Tryz.prog.cellsOf 9)) = xs[0]? := hg 0 _ rfl
        have g1 : DataW.trod enc Tryz.prog W 0 (fun _ => true) true n' 9 (([c0, c1].drop 1).take (Tryz.prog.cellsOf 9)) = xs[1]? := hg 1 _ rfl
        rw [List.getElem?_eq_getElem (by rw [hxl]; decide)] at g0 g1
        have k0 : Tryz.prog.cellsOf 9 = 1 := by kernel_rfl
        rw [k0] at g0 g1
        replace g0 : DataW.trod enc Tryz.prog W 0 (fun _ => true) true n' 9 [c0] = _ := g0
        replace g1 : DataW.trod enc Tryz.prog W 0 (fun _ => true) true n' 9 [c1] = _ := g1
        obtain ⟨s0, e0, _, z0⟩ := DataW.trod_string Tryz.underlying9 g0
        obtain ⟨s1, e1, _, z1⟩ := DataW.trod_string Tryz.underlying9 g1
        obtain rfl : c0 = .string s0 := by simpa using e0
        obtain rfl : c1 = .string s1 := by simpa using e1
        have h0 := hat 0 (by decide)
        have h1 := hat 1 (by decide)
        rw [Go.Deep.add_add] at h0 h1
        unfold maxLen at z0 z1
        exact ⟨(s0.data.toList, s1.data.toList), h0, h1, by rw [← size_len]; omega, by rw [← size_len]; omega⟩
    obtain ⟨L, hLl, hL⟩ := list_of _ len hex
    refine ⟨L, ?_, fun j hj => (hL j hj).2.2, by rw [hLl]; unfold maxLen at hm; omega⟩
    rcases Nat.eq_zero_or_pos len with h0 | h0
    · subst h0
      exact .inl ⟨List.eq_nil_of_length_eq_zero hLl, _, _, rfl⟩
    · have hc0 := (hL 0 (by omega)).1
      rw [Nat.zero_mul] at hc0
      obtain ⟨b, off, rfl⟩ := plain_addr hc0
      refine .inr ⟨b, off, cap, by rw [hLl], block_lt_of_cell (by rw [Addr.add_lit] at hc0; exact hc0), fun j hj => ?_⟩
      have h1 := hL j hj
      rw [Addr.add_lit, Addr.add_lit, ← Nat.add_assoc] at h1
      exact ⟨h1.1, h1.2.1⟩
theorem open_argFc (hv : Value.okWide Tryz.prog W .any base 23 v) (h : DataW.Trod enc Tryz.prog W 0 (fun _ => true) true 23 v d ps) :
    ∃ A n c, v = .slice A n c ∧ n ≤ c ∧ (A = none → c = 0) := by
  obtain ⟨a0, len, cap, rfl⟩ := okWide_slice Tryz.underlying23 hv
  obtain ⟨fuel, hf⟩ := h
  rcases open_slice Tryz.underlying23 hf with ⟨hcs, _⟩ | ⟨a, len', cap', m, n, D, Pl, hcs, _, hl, _⟩
  · have e : a0 = none ∧ len = 0 ∧ cap = 0 := by simpa [Value.cells] using hcs
    obtain ⟨rfl, rfl, rfl⟩ := e
    exact ⟨_, _, _, rfl, Nat.le_refl _, fun _ => rfl⟩
  · have e : a0 = some a ∧ len = len' ∧ cap = cap' := by simpa [Value.cells] using hcs
    obtain ⟨rfl, rfl, rfl⟩ := e
    exact ⟨_, _, _, rfl, hl, fun e => by cases e⟩
theorem open_argT (hv : Value.okWide Tryz.prog W .any base 51 v) (h : DataW.Trod enc Tryz.prog W 0 (fun _ => true) true 51 v d ps) :
    ∃ L : List (List UInt8), SL W v L ∧ (∀ j (hj : j < L.length), L[j].length ≤ 9223372036854775807) ∧ L.length ≤ 9223372036854775807 := by
  obtain ⟨a0, len, cap, rfl⟩ := okWide_slice Tryz.underlying51 hv
  obtain ⟨fuel, hf⟩ := h
  have hC : Tryz.prog.cellsOf 9 = 1 := by kernel_rfl
  rcases open_slice Tryz.underlying51 hf with ⟨hcs, _⟩ | ⟨a, len', cap', m, n, D, Pl, hcs, _, hl, hm, hmm, _, hi⟩
  · have e : a0 = none ∧ len = 0 ∧ cap = 0 := by simpa [Value.cells] using hcs
    obtain ⟨rfl, rfl, rfl⟩ := e
    exact ⟨[], SL_nil W, fun j hj => absurd hj (by simp), by simp⟩
  · have e : a0 = some a ∧ len = len' ∧ cap = cap' := by simpa [Value.cells] using hcs
    obtain ⟨rfl, rfl, rfl⟩ := e
    have hml : len ≤ m := by rw [hmm]; split <;> omega
    rw [hC] at hi
    have hex : ∀ i, i < len → ∃ x : List UInt8, W.cell? (a.add i) = some (.string (bs x)) ∧ x.length ≤ 9223372036854775807 := by
      intro i hil
      obtain ⟨cs', hc, ht⟩ := hi i (by omega)
      obtain ⟨s0, rfl, _, z0⟩ := DataW.trod_string Tryz.underlying9 ht
      obtain ⟨_, _, hat⟩ := World.cells?_some hc
      have h0 := hat 0 (by decide)
      rw [Go.Deep.add_add] at h0
      unfold maxLen at z0
      exact ⟨s0.data.toList, by simpa using h0, by rw [← size_len]; omega⟩
    obtain ⟨L, hLl, hL⟩ := list_of _ len hex
    refine ⟨L, ?_, fun j hj => (hL j hj).2, by rw [hLl]; unfold maxLen at hm; omega⟩
    rcases Nat.eq_zero_or_pos len with h0 | h0
    · subst h0
      exact .inl ⟨List.eq_nil_of_length_eq_zero hLl, _, _, rfl⟩
    · have hc0 := (hL 0 (by omega)).1
      obtain ⟨b, off, rfl⟩ := plain_addr hc0
      refine .inr ⟨b, off, cap, by rw [hLl], block_lt_of_cell (by rw [Addr.add_lit] at hc0; exact hc0), fun j hj => ?_⟩
      have h1 := hL j hj
      rw [Addr.add_lit] at h1
      exact h1.1
theorem open_argD (hv : Value.okWide Tryz.prog W .any base 63 v) (h : DataW.Trod enc Tryz.prog W 0 (fun _ => true) true 63 v d ps) :
    ∃ f : Fld, v = fv f ∧ f.1.length ≤ 9223372036854775807 ∧ f.2.length ≤ 9223372036854775807 := by
  obtain ⟨v0, v1, y0, y1, n, rfl, _, _, t0, t1⟩ := open_agg2 Tryz.underlying63 (by kernel_rfl) (by kernel_rfl) hv h
  obtain ⟨s0, e0, _, z0⟩ := DataW.trod_string Tryz.underlying9 t0
  obtain ⟨s1, e1, _, z1⟩ := DataW.trod_string Tryz.underlying9 t1
  obtain rfl : v0 = .string s0 := by simpa using e0
  obtain rfl : v1 = .string s1 := by simpa using e1
  unfold maxLen at z0 z1
  exact ⟨(s0.data.toList, s1.data.toList), rfl, by rw [← size_len]; omega, by rw [← size_len]; omega⟩
theorem open_argDd (hv : Value.okWide Tryz.prog W .any base 63 v) (h : DataW.Trod enc Tryz.prog W 0 (fun _ => true) true 63 v d ps) :
    ∃ f : Fld, v = fv f ∧ d = .agg [.lit (.string f.1), .lit (.string f.2)] := by
  obtain ⟨v0, v1, y0, y1, n, rfl, rfl, _, t0, t1⟩ := open_agg2 Tryz.underlying63 (by kernel_rfl) (by kernel_rfl) hv h
  obtain ⟨s0, e0, d0, _⟩ := DataW.trod_string Tryz.underlying9 t0
  obtain ⟨s1, e1, d1, _⟩ := DataW.trod_string Tryz.underlying9 t1
  obtain rfl : v0 = .string s0 := by simpa using e0
  obtain rfl : v1 = .string s1 := by simpa using e1
  exact ⟨(s0.data.toList, s1.data.toList), rfl, by rw [d0, d1]⟩
end
end Go.Proofs.YtgkjjmcjlobbpaaGreatDoor

/- What comes in: requests, replies, bytes and a place: what is read of them. -/
namespace Go.Proofs.YtgkjjmcjlobbpaaGreatDoor
open Go.Joins Go.ChangeShapes Go.WideShapes Go.ChangeAt Go.RowKit Go.Deep
set_option maxRecDepth 100000

theorem array5 {α : Type} {a : Array α} (h : a.size = 5) : ∃ c0 c1 c2 c3 c4, a = #[c0, c1, c2, c3, c4] := by
  obtain ⟨l⟩ := a
  match l, h with
  | [c0, c1, c2, c3, c4], _ => exact ⟨c0, c1, c2, c3, c4, rfl⟩
section
variable {H : Type} {enc : TypeId × Value → H} {W : World} {base : Nat} {v : Value} {d : DataW H} {ps : List MemPlace}
theorem open_cellF {c : Value} {n : Nat} {y : DataW H × List MemPlace} (hf : DataW.trod enc Tryz.prog W 0 (fun _ => true) true n 23 [c] = some y) :
    ∃ L : List Fld, FL W c L ∧ (∀ j (hj : j < L.length), L[j].1.length ≤ 9223372036854775807 ∧ L[j].2.length ≤ 9223372036854775807) ∧ L.length ≤ 9223372036854775807 := by
  have hC : Tryz.prog.cellsOf 63 = 2 := by kernel_rfl
  rcases open_slice Tryz.underlying23 hf with ⟨hcs, _⟩ | ⟨a, len, cap, m, n, D, Pl, hcs, _, hl, hm, hmm, _, hi⟩
  · obtain rfl : c = .slice none 0 0 := by simpa using hcs
    exact ⟨[], FL_nil W, fun j hj => absurd hj (by simp), by simp⟩
  · obtain rfl : c = .slice (some a) len cap := by simpa using hcs
    have hml : len ≤ m := by rw [hmm]; split <;> omega
    rw [hC] at hi
    have hex : ∀ i, i < len → ∃ f : Fld, W.cell? (a.add (i * 2)) = some (.string (bs f.1)) ∧ W.cell? (a.add (i * 2 + 1)) = some (.string (bs f.2)) ∧ f.1.length ≤ 9223372036854775807 ∧ f.2.length ≤ 9223372036854775807 := by
      intro i hil
      obtain ⟨cs', hc, ht⟩ := hi i (by omega)
      obtain ⟨xs, n', _, _, hlen, hxl, hg⟩ := DataW.trod_struct Tryz.underlying63 ht
      rw [hC] at hlen
      obtain ⟨_, _, hat⟩ := World.cells?_some hc
      match cs', hlen with
      | [c0, c1], _ =>
        have g0 : DataW.trod enc Tryz.prog W 0 (fun _ => true) true n' 9 (([c0, c1].drop 0).take (Tryz.prog.cellsOf 9)) = xs[0]? := hg 0 _ rfl
        have g1 : DataW.trod enc Tryz.prog W 0 (fun _ => true) true n' 9 (([c0, c1].drop 1).take (Tryz.prog.cellsOf 9)) = xs[1]? := hg 1 _ rfl
        rw [List.getElem?_eq_getElem (by rw [hxl]; decide)] at g0 g1
        have k0 : Tryz.prog.cellsOf 9 = 1 := by kernel_rfl
        rw [k0] at g0 g1
        replace g0 : DataW.trod enc Tryz.prog W 0 (fun _ => true) true n' 9 [c0] = _ := g0
        replace g1 : DataW.trod enc Tryz.prog W 0 (fun _ => true) true n' 9 [c1] = _ := g1
        obtain ⟨s0, e0, _, z0⟩ := DataW.trod_string Tryz.underlying9 g0
        obtain ⟨s1, e1, _, z1⟩ := DataW.trod_string Tryz.underlying9 g1
        obtain rfl : c0 = .string s0 := by simpa using e0
        obtain rfl : c1 = .string s1 := by simpa using e1
        have h0 := hat 0 (by decide)
        have h1 := hat 1 (by decide)
        rw [Go.Deep.add_add] at h0 h1
        unfold maxLen at z0 z1
        exact ⟨(s0.data.toList, s1.data.toList), h0, h1, by rw [← size_len]; omega, by rw [← size_len]; omega⟩
    obtain ⟨L, hLl, hL⟩ := list_of _ len hex
    refine ⟨L, ?_, fun j hj => (hL j hj).2.2, by rw [hLl]; unfold maxLen at hm; omega⟩
    rcases Nat.eq_zero_or_pos len with h0 | h0
    · subst h0
      exact .inl ⟨List.eq_nil_of_length_eq_zero hLl, _, _, rfl⟩
    · have hc0 := (hL 0 (by omega)).1
      rw [Nat.zero_mul] at hc0
      obtain ⟨b, off, rfl⟩ := plain_addr hc0
      refine .inr ⟨b, off, cap, by rw [hLl], block_lt_of_cell (by rw [Addr.add_lit] at hc0; exact hc0), fun j hj => ?_⟩
      have h1 := hL j hj
      rw [Addr.add_lit, Addr.add_lit, ← Nat.add_assoc] at h1
      exact ⟨h1.1, h1.2.1⟩

theorem open_agg5 {t : TypeId} {f0 f1 f2 f3 f4 : Field} (hs : Tryz.prog.underlying t = some (.struct #[f0, f1, f2, f3, f4])) (hone : oneCellFields Tryz.prog #[f0, f1, f2, f3, f4] = true) (hC : Tryz.prog.cellsOf t = 5)
    (hv : Value.okWide Tryz.prog W .any base t v) (h : DataW.Trod enc Tryz.prog W 0 (fun _ => true) true t v d ps) :
    ∃ (v0 v1 v2 v3 v4 : Value) (y0 y1 y2 y3 y4 : DataW H × List MemPlace) (n : Nat), v = .agg #[v0, v1, v2, v3, v4] ∧ d = .agg [y0.1, y1.1, y2.1, y3.1, y4.1] ∧
      DataW.trod enc Tryz.prog W 0 (fun _ => true) true n f0.type [v0] = some y0 ∧ DataW.trod enc Tryz.prog W 0 (fun _ => true) true n f1.type [v1] = some y1 ∧ DataW.trod enc Tryz.prog W 0 (fun _ => true) true n f2.type [v2] = some y2 ∧
      DataW.trod enc Tryz.prog W 0 (fun _ => true) true n f3.type [v3] = some y3 ∧ DataW.trod enc Tryz.prog W 0 (fun _ => true) true n f4.type [v4] = some y4 := by
  obtain ⟨cs, rfl, hsz⟩ := okWide_struct hs hv
  obtain ⟨c0, c1, c2, c3, c4, rfl⟩ := array5 (hsz.trans hC)
  obtain ⟨fuel, hf⟩ := h
  obtain ⟨xs, n, _, hx, _, hxl, hg⟩ := DataW.trod_struct hs hf
  match xs, hxl with
  | [y0, y1, y2, y3, y4], _ =>
    have g0 := hg 0 f0 rfl
    have g1 := hg 1 f1 rfl
    have g2 := hg 2 f2 rfl
    have g3 := hg 3 f3 rfl
    have g4 := hg 4 f4 rfl
    obtain ⟨o0, k0⟩ := hone_of hone 0 f0 rfl
    obtain ⟨o1, k1⟩ := hone_of hone 1 f1 rfl
    obtain ⟨o2, k2⟩ := hone_of hone 2 f2 rfl
    obtain ⟨o3, k3⟩ := hone_of hone 3 f3 rfl
    obtain ⟨o4, k4⟩ := hone_of hone 4 f4 rfl
    simp only [Prod.mk.injEq] at hx
    exact ⟨c0, c1, c2, c3, c4, y0, y1, y2, y3, y4, n, rfl, by rw [hx.1]; rfl, by simpa [Value.cells, o0, k0] using g0, by simpa [Value.cells, o1, k1] using g1, by simpa [Value.cells, o2, k2] using g2, by simpa [Value.cells, o3, k3] using g3, by simpa [Value.cells, o4, k4] using g4⟩
/-- a text that came in -/
theorem open_cellS {c : Value} {n : Nat} {y : DataW H × List MemPlace} (hf : DataW.trod enc Tryz.prog W 0 (fun _ => true) true n 9 [c] = some y) : ∃ l : List UInt8, c = .string (bs l) ∧ l.length ≤ 9223372036854775807 := by
  obtain ⟨s0, e0, _, z0⟩ := DataW.trod_string Tryz.underlying9 hf
  obtain rfl : c = .string s0 := by simpa using e0
  unfold maxLen at z0
  exact ⟨s0.data.toList, by rw [bs_self], by rw [← size_len]; omega⟩
theorem open_cellI {c : Value} {n : Nat} {y : DataW H × List MemPlace} (hf : DataW.trod enc Tryz.prog W 0 (fun _ => true) true n 3 [c] = some y) : ∃ k : Int, c = .int .i64 k ∧ (Lit.int .i64 k).wf = true := by
  obtain ⟨k, e0, _, z0⟩ := DataW.trod_int Tryz.underlying3 hf
  obtain rfl : c = .int .i64 k := by simpa using e0
  exact ⟨k, rfl, z0⟩
def bigF (l : List Fld) : Prop := (∀ j (hj : j < l.length), l[j].1.length ≤ 9223372036854775807 ∧ l[j].2.length ≤ 9223372036854775807) ∧ l.length ≤ 9223372036854775807
/-- a request that came in -/
structure InQ (W : World) (v : Value) (m t : List UInt8) (n : Int) (vs : Value) (l : List Fld) (b : List UInt8) : Prop where
  eq : v = .agg #[.string (bs m), .string (bs t), .int .i64 n, vs, .string (bs b)]
  fl : FL W vs l
  big : bigF l
  lm : m.length ≤ 9223372036854775807
  lt : t.length ≤ 9223372036854775807
  lb : b.length ≤ 9223372036854775807
  wf : (Lit.int .i64 n).wf = true
structure InY (W : World) (v : Value) (c : Int) (r : List UInt8) (n : Int) (vs : Value) (l : List Fld) (b : List UInt8) : Prop where
  eq : v = .agg #[.int .i64 c, .string (bs r), .int .i64 n, vs, .string (bs b)]
  fl : FL W vs l
  big : bigF l
  lr : r.length ≤ 9223372036854775807
  lb : b.length ≤ 9223372036854775807
  wf : (Lit.int .i64 n).wf = true
  wc : (Lit.int .i64 c).wf = true
theorem open_argQ (hv : Value.okWide Tryz.prog W .any base 25 v) (h : DataW.Trod enc Tryz.prog W 0 (fun _ => true) true 25 v d ps) : ∃ m t n vs l b, InQ W v m t n vs l b := by
  obtain ⟨v0, v1, v2, v3, v4, y0, y1, y2, y3, y4, n, rfl, _, t0, t1, t2, t3, t4⟩ := open_agg5 Tryz.underlying25 (by kernel_rfl) (by kernel_rfl) hv h
  obtain ⟨m, rfl, z0⟩ := open_cellS t0
  obtain ⟨t, rfl, z1⟩ := open_cellS t1
  obtain ⟨k, rfl, z2⟩ := open_cellI t2
  obtain ⟨l, hl, z3⟩ := open_cellF t3
  obtain ⟨b, rfl, z4⟩ := open_cellS t4
  exact ⟨m, t, k, v3, l, b, rfl, hl, z3, z0, z1, z4, z2⟩
theorem open_argY (hv : Value.okWide Tryz.prog W .any base 32 v) (h : DataW.Trod enc Tryz.prog W 0 (fun _ => true) true 32 v d ps) : ∃ c r n vs l b, InY W v c r n vs l b := by
  obtain ⟨v0, v1, v2, v3, v4, y0, y1, y2, y3, y4, n, rfl, _, t0, t1, t2, t3, t4⟩ := open_agg5 Tryz.underlying32 (by kernel_rfl) (by kernel_rfl) hv h
  obtain ⟨c, rfl, z0⟩ := open_cellI t0
  obtain ⟨r, rfl, z1⟩ := open_cellS t1
  obtain ⟨k, rfl, z2⟩ := open_cellI t2
  obtain ⟨l, hl, z3⟩ := open_cellF t3
  obtain ⟨b, rfl, z4⟩ := open_cellS t4
  exact ⟨c, r, k, v3, l, b, rfl, hl, z3, z1, z4, z2, z0⟩
theorem open_argB (hv : Value.okWide Tryz.prog W .any base 56 v) (h : DataW.Trod enc Tryz.prog W 0 (fun _ => true) true 56 v d ps) :
    ∃ (x : List UInt8) (k : Int), v = .agg #[.string (bs x), .int .u16 k] ∧ x.length ≤ 9223372036854775807 ∧ (Lit.int .u16 k).wf = true := by
  obtain ⟨v0, v1, y0, y1, n, rfl, _, _, t0, t1⟩ := open_agg2 Tryz.underlying56 (by kernel_rfl) (by kernel_rfl) hv h
  obtain ⟨x, rfl, z0⟩ := open_cellS t0
  obtain ⟨k, e0, _, z1⟩ := DataW.trod_int Tryz.underlying54 t1
  obtain rfl : v1 = .int .u16 k := by simpa using e0
  exact ⟨x, k, rfl, z0, z1⟩
end
end Go.Proofs.YtgkjjmcjlobbpaaGreatDoor
