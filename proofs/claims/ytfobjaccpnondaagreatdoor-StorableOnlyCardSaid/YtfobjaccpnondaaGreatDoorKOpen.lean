/- Guards in a region that draws its order. No program is read here. -/
import Derived.Test.YtfobjaccpnondaaGreatDoorKBytes
import Derived.Test.YtfobjaccpnondaaGreatDoorKFieldsA
import Derived.Test.YtfobjaccpnondaaGreatDoorRows
import Derived.Deep.Slices
import Derived.Deep.Fields
import Derived.Lib.SmallJoins
import Derived.OpenShut
import Derived.Carry
import Derived.Lib.AppendZeros
namespace Go.Proofs.YtfobjaccpnondaaGreatDoor
open Go.RowKit
theorem wantedS {ops : Array Oper} {o : Oper} {tmps : Array Value} {j d : Nat} {e : Bool} (hg : (ops[j]?).bind (·.dst) = some d) (ho : o.guard = some (j, e)) (ht : tmps[d]? = some (.bool e)) : Region.wanted o (yielded ops tmps) = true := by
  unfold Region.wanted yielded
  rw [ho]
  simp [hg, ht]
theorem unwantedS {ops : Array Oper} {o : Oper} {tmps : Array Value} {j d : Nat} {e : Bool} (hg : (ops[j]?).bind (·.dst) = some d) (ho : o.guard = some (j, e)) (ht : tmps[d]? = some (.bool (!e))) : Region.wanted o (yielded ops tmps) = false := by
  unfold Region.wanted yielded
  rw [ho]
  simp [hg, ht]
end Go.Proofs.YtfobjaccpnondaaGreatDoor

/- What comes in: lists of fields, single fields, lists of texts: what is read of them. -/
namespace Go.Proofs.YtfobjaccpnondaaGreatDoor
open Go.Joins Go.ChangeShapes Go.WideShapes Go.ChangeAt Go.RowKit Go.Deep
set_option maxRecDepth 100000

theorem list_of {α : Type} (P : Nat → α → Prop) : ∀ n, (∀ i, i < n → ∃ x, P i x) → ∃ L : List α, L.length = n ∧ ∀ i (hi : i < L.length), P i L[i]
  | 0, _ => ⟨[], rfl, fun i hi => absurd hi (by simp)⟩
  | n + 1, h => by
    obtain ⟨L, hl, hp⟩ := list_of P n fun i hi => h i (by omega)
    obtain ⟨x, hx⟩ := h n (by omega)
    refine ⟨L ++ [x], by simp [hl], fun i hi => ?_⟩
    rcases Nat.lt_or_ge i n with h1 | h1
    · rw [List.getElem_append_left (by omega)]; exact hp i (by omega)
    · obtain rfl : i = n := by simp [hl] at hi; omega
      rw [List.getElem_append_right (by omega)]; simpa [hl] using hx
theorem plain_addr {W : World} {a : Addr} {u : Value} (h : W.cell? (a.add 0) = some u) : ∃ b off, a = ⟨b, off, none⟩ := by
  obtain ⟨b, off, spot⟩ := a
  cases spot with
  | none => exact ⟨b, off, rfl⟩
  | some s =>
    unfold Addr.add World.cell? at h
    split at h <;> simp_all

section
variable {H : Type} {enc : TypeId × Value → H} {W : World} {base : Nat} {v : Value} {d : DataW H} {ps : List MemPlace}
theorem open_argF (hv : Value.okWide Tryz.prog W .any base 22 v) (h : DataW.Trod enc Tryz.prog W 0 (fun _ => true) true 22 v d ps) :
    ∃ L : List Fld, FL W v L ∧ (∀ j (hj : j < L.length), L[j].1.length ≤ 9223372036854775807 ∧ L[j].2.length ≤ 9223372036854775807) ∧ L.length ≤ 9223372036854775807 := by
  obtain ⟨a0, len, cap, rfl⟩ := okWide_slice Tryz.underlying22 hv
  obtain ⟨fuel, hf⟩ := h
  have hC : Tryz.prog.cellsOf 34 = 2 := by kernel_rfl
  rcases open_slice Tryz.underlying22 hf with ⟨hcs, _⟩ | ⟨a, len', cap', m, n, D, Pl, hcs, _, hl, hm, hmm, _, hi⟩
  · have e : a0 = none ∧ len = 0 ∧ cap = 0 := by simpa [Value.cells] using hcs
    obtain ⟨rfl, rfl, rfl⟩ := e
    exact ⟨[], FL_nil W, fun j hj => absurd hj (by simp), by simp⟩
  · have e : a0 = some a ∧ len = len' ∧ cap = cap' := by simpa [Value.cells] using hcs
    obtain ⟨rfl, rfl, rfl⟩ := e
    have hml : len ≤ m := by rw [hmm]; split <;> omega
    rw [hC] at hi
    have hex : ∀ i, i < len → ∃ f : Fld, W.cell? (a.add (i * 2)) = some (.string (bs f.1)) ∧ W.cell? (a.add (i * 2 + 1)) = some (.string (bs f.2)) ∧ f.1.length ≤ 9223372036854775807 ∧ f.2.length ≤ 9223372036854775807 := by
      intro i hil
      obtain ⟨cs', hc, ht⟩ := hi i (by omega)
      obtain ⟨xs, n', _, _, hlen, hxl, hg⟩ := DataW.trod_struct Tryz.underlying34 ht
      rw [hC] at hlen
      obtain ⟨_, _, hat⟩ := World.cells?_some hc
      match cs', hlen with
      | [c0, c1], _ =>
        have g0 : DataW.trod enc Tryz.prog W 0 (fun _ => true) true n' 9 (([c0, c1].drop 0).take (Tryz.prog.cellsOf 9)) = xs[0]? := hg 0 _ rfl
        have g1 : DataW.trod enc Tryz.prog W 0 (fun _ => true) true n' 9 (([c0, c1].drop 1).take (Tryz.prog.cellsOf 9)) = xs[1]? := hg 1 _ rfl
        rw [List.getElem?_eq_getElem (by rw [hxl]; decide)] at g0 g1
        have k0 : Tryz.prog.cellsOf 9 = 1 := by kernel_rfl
        rw [k0] at g0 g1
        replace g0 : DataW.trod enc Tryz.prog W 0 (fun _ => true) true n' 9 [c0] = _ := g0
        replace g1 : DataW.trod enc Tryz.prog W 0 (fun _ => true) true n' 9 [c1] = _ := g1
        obtain ⟨s0, e0, _, z0⟩ := DataW.trod_string Tryz.underlying9 g0
        obtain ⟨s1, e1, _, z1⟩ := DataW.trod_string Tryz.underlying9 g1
        obtain rfl : c0 = .string s0 := by simpa using e0
        obtain rfl : c1 = .string s1 := by simpa using e1
        have h0 := hat 0 (by decide)
        have h1 := hat 1 (by decide)
        rw [Go.Deep.add_add] at h0 h1
        unfold maxLen at z0 z1
        exact ⟨(s0.data.toList, s1.data.toList), h0, h1, by rw [← size_len]; omega, by rw [← size_len]; omega⟩
    obtain ⟨L, hLl, hL⟩ := list_of _ len hex
    refine ⟨L, ?_, fun j hj => (hL j hj).2.2, by rw [hLl]; unfold maxLen at hm; omega⟩
    rcases Nat.eq_zero_or_pos len with h0 | h0
    · subst h0
      exact .inl ⟨List.eq_nil_of_length_eq_zero hLl, _, _, rfl⟩
    · have hc0 := (hL 0 (by omega)).1
      rw [Nat.zero_mul] at hc0
      obtain ⟨b, off, rfl⟩ := plain_addr hc0
      refine .inr ⟨b, off, cap, by rw [hLl], block_lt_of_cell (by rw [Addr.add_lit] at hc0; exact hc0), fun j hj => ?_⟩
      have h1 := hL j hj
      rw [Addr.add_lit, Addr.add_lit, ← Nat.add_assoc] at h1
      exact ⟨h1.1, h1.2.1⟩
theorem open_argFc (hv : Value.okWide Tryz.prog W .any base 22 v) (h : DataW.Trod enc Tryz.prog W 0 (fun _ => true) true 22 v d ps) :
    ∃ A n c, v = .slice A n c ∧ n ≤ c ∧ (A = none → c = 0) := by
  obtain ⟨a0, len, cap, rfl⟩ := okWide_slice Tryz.underlying22 hv
  obtain ⟨fuel, hf⟩ := h
  rcases open_slice Tryz.underlying22 hf with ⟨hcs, _⟩ | ⟨a, len', cap', m, n, D, Pl, hcs, _, hl, _⟩
  · have e : a0 = none ∧ len = 0 ∧ cap = 0 := by simpa [Value.cells] using hcs
    obtain ⟨rfl, rfl, rfl⟩ := e
    exact ⟨_, _, _, rfl, Nat.le_refl _, fun _ => rfl⟩
  · have e : a0 = some a ∧ len = len' ∧ cap = cap' := by simpa [Value.cells] using hcs
    obtain ⟨rfl, rfl, rfl⟩ := e
    exact ⟨_, _, _, rfl, hl, fun e => by cases e⟩
theorem open_argTc (hv : Value.okWide Tryz.prog W .any base 36 v) (h : DataW.Trod enc Tryz.prog W 0 (fun _ => true) true 36 v d ps) :
    ∃ A n c, v = .slice A n c ∧ n ≤ c ∧ (A = none → c = 0) := by
  obtain ⟨a0, len, cap, rfl⟩ := okWide_slice Tryz.underlying36 hv
  obtain ⟨fuel, hf⟩ := h
  rcases open_slice Tryz.underlying36 hf with ⟨hcs, _⟩ | ⟨a, len', cap', m, n, D, Pl, hcs, _, hl, _⟩
  · have e : a0 = none ∧ len = 0 ∧ cap = 0 := by simpa [Value.cells] using hcs
    obtain ⟨rfl, rfl, rfl⟩ := e
    exact ⟨_, _, _, rfl, Nat.le_refl _, fun _ => rfl⟩
  · have e : a0 = some a ∧ len = len' ∧ cap = cap' := by simpa [Value.cells] using hcs
    obtain ⟨rfl, rfl, rfl⟩ := e
    exact ⟨_, _, _, rfl, hl, fun e => by cases e⟩
theorem open_argT (hv : Value.okWide Tryz.prog W .any base 36 v) (h : DataW.Trod enc Tryz.prog W 0 (fun _ => true) true 36 v d ps) :
    ∃ L : List (List UInt8), SL W v L ∧ (∀ j (hj : j < L.length), L[j].length ≤ 9223372036854775807) ∧ L.length ≤ 9223372036854775807 := by
  obtain ⟨a0, len, cap, rfl⟩ := okWide_slice Tryz.underlying36 hv
  obtain ⟨fuel, hf⟩ := h
  have hC : Tryz.prog.cellsOf 9 = 1 := by kernel_rfl
  rcases open_slice Tryz.underlying36 hf with ⟨hcs, _⟩ | ⟨a, len', cap', m, n, D, Pl, hcs, _, hl, hm, hmm, _, hi⟩
  · have e : a0 = none ∧ len = 0 ∧ cap = 0 := by simpa [Value.cells] using hcs
    obtain ⟨rfl, rfl, rfl⟩ := e
    exact ⟨[], SL_nil W, fun j hj => absurd hj (by simp), by simp⟩
  · have e : a0 = some a ∧ len = len' ∧ cap = cap' := by simpa [Value.cells] using hcs
    obtain ⟨rfl, rfl, rfl⟩ := e
    have hml : len ≤ m := by rw [hmm]; split <;> omega
    rw [hC] at hi
    have hex : ∀ i, i < len → ∃ x : List UInt8, W.cell? (a.add i) = some (.string (bs x)) ∧ x.length ≤ 9223372036854775807 := by
      intro i hil
      obtain ⟨cs', hc, ht⟩ := hi i (by omega)
      obtain ⟨s0, rfl, _, z0⟩ := DataW.trod_string Tryz.underlying9 ht
      obtain ⟨_, _, hat⟩ := World.cells?_some hc
      have h0 := hat 0 (by decide)
      rw [Go.Deep.add_add] at h0
      unfold maxLen at z0
      exact ⟨s0.data.toList, by simpa using h0, by rw [← size_len]; omega⟩
    obtain ⟨L, hLl, hL⟩ := list_of _ len hex
    refine ⟨L, ?_, fun j hj => (hL j hj).2, by rw [hLl]; unfold maxLen at hm; omega⟩
    rcases Nat.eq_zero_or_pos len with h0 | h0
    · subst h0
      exact .inl ⟨List.eq_nil_of_length_eq_zero hLl, _, _, rfl⟩
    · have hc0 := (hL 0 (by omega)).1
      obtain ⟨b, off, rfl⟩ := plain_addr hc0
      refine .inr ⟨b, off, cap, by rw [hLl], block_lt_of_cell (by rw [Addr.add_lit] at hc0; exact hc0), fun j hj => ?_⟩
      have h1 := hL j hj
      rw [Addr.add_lit] at h1
      exact h1.1
theorem open_argD (hv : Value.okWide Tryz.prog W .any base 34 v) (h : DataW.Trod enc Tryz.prog W 0 (fun _ => true) true 34 v d ps) :
    ∃ f : Fld, v = fv f ∧ f.1.length ≤ 9223372036854775807 ∧ f.2.length ≤ 9223372036854775807 := by
  obtain ⟨v0, v1, y0, y1, n, rfl, _, _, t0, t1⟩ := open_agg2 Tryz.underlying34 (by kernel_rfl) (by kernel_rfl) hv h
  obtain ⟨s0, e0, _, z0⟩ := DataW.trod_string Tryz.underlying9 t0
  obtain ⟨s1, e1, _, z1⟩ := DataW.trod_string Tryz.underlying9 t1
  obtain rfl : v0 = .string s0 := by simpa using e0
  obtain rfl : v1 = .string s1 := by simpa using e1
  unfold maxLen at z0 z1
  exact ⟨(s0.data.toList, s1.data.toList), rfl, by rw [← size_len]; omega, by rw [← size_len]; omega⟩
theorem open_argDd (hv : Value.okWide Tryz.prog W .any base 34 v) (h : DataW.Trod enc Tryz.prog W 0 (fun _ => true) true 34 v d ps) :
    ∃ f : Fld, v = fv f ∧ d = .agg [.lit (.string f.1), .lit (.string f.2)] := by
  obtain ⟨v0, v1, y0, y1, n, rfl, rfl, _, t0, t1⟩ := open_agg2 Tryz.underlying34 (by kernel_rfl) (by kernel_rfl) hv h
  obtain ⟨s0, e0, d0, _⟩ := DataW.trod_string Tryz.underlying9 t0
  obtain ⟨s1, e1, d1, _⟩ := DataW.trod_string Tryz.underlying9 t1
  obtain rfl : v0 = .string s0 := by simpa using e0
  obtain rfl : v1 = .string s1 := by simpa using e1
  exact ⟨(s0.data.toList, s1.data.toList), rfl, by rw [d0, d1]⟩
end
end Go.Proofs.YtfobjaccpnondaaGreatDoor

/- Entries that come in: what is read of them, and what their fields' texts weigh. -/
namespace Go.Proofs.YtfobjaccpnondaaGreatDoor
open Go.Joins Go.ChangeShapes Go.WideShapes Go.ChangeAt Go.RowKit Go.Deep
set_option maxRecDepth 100000

theorem array8 {α : Type} {a : Array α} (h : a.size = 8) : ∃ c0 c1 c2 c3 c4 c5 c6 c7, a = #[c0, c1, c2, c3, c4, c5, c6, c7] := by
  obtain ⟨l⟩ := a
  match l, h with
  | [c0, c1, c2, c3, c4, c5, c6, c7], _ => exact ⟨c0, c1, c2, c3, c4, c5, c6, c7, rfl⟩
theorem weightsAllN_mem {H : Type} {P : Program} {e : TypeId} {x : DataW H} {n : Nat} : ∀ {l : List (DataW H)}, x ∈ l → n ∈ x.weights P e → n ∈ DataW.weightsAll P e l
  | [], h, _ => by cases h
  | y :: r, h, hn => by
    rw [DataW.weightsAll, List.mem_append]
    rcases List.mem_cons.1 h with rfl | h
    · exact .inl hn
    · exact .inr (weightsAllN_mem h hn)
/-- a field, as a row writes it down -/
def fdD {H : Type} (f : Fld) : DataW H := .agg [.lit (.string f.1), .lit (.string f.2)]
section
variable {H : Type} {enc : TypeId × Value → H} {W : World} {base : Nat} {v : Value} {d : DataW H} {ps : List MemPlace}
theorem open_cellFd {c : Value} {n : Nat} {y : DataW H × List MemPlace} (hf : DataW.trod enc Tryz.prog W 0 (fun _ => true) true n 22 [c] = some y) :
    ∃ (L : List Fld) (A : Option Addr) (m k : Nat), c = .slice A m k ∧ FL W c L ∧ (∀ j (hj : j < L.length), L[j].1.length ≤ 9223372036854775807 ∧ L[j].2.length ≤ 9223372036854775807) ∧ L.length ≤ 9223372036854775807 ∧
      (L = [] ∨ ∃ sp, y.1 = .slice (L.map fdD) sp) := by
  have hC : Tryz.prog.cellsOf 34 = 2 := by kernel_rfl
  rcases open_slice Tryz.underlying22 hf with ⟨hcs, _⟩ | ⟨a, len, cap, m, n, D, Pl, hcs, _, hl, hm, hmm, hdd, hi⟩
  · obtain rfl : c = .slice none 0 0 := by simpa using hcs
    exact ⟨[], none, 0, 0, rfl, FL_nil W, fun j hj => absurd hj (by simp), by simp, .inl rfl⟩
  · obtain rfl : c = .slice (some a) len cap := by simpa using hcs
    have hml : len ≤ m := by rw [hmm]; split <;> omega
    rw [hC] at hi
    have hex : ∀ i, i < len → ∃ f : Fld, W.cell? (a.add (i * 2)) = some (.string (bs f.1)) ∧ W.cell? (a.add (i * 2 + 1)) = some (.string (bs f.2)) ∧ (f.1.length ≤ 9223372036854775807 ∧ f.2.length ≤ 9223372036854775807) ∧ D i = fdD f := by
      intro i hil
      obtain ⟨cs', hc, ht⟩ := hi i (by omega)
      obtain ⟨xs, n', _, hx, hlen, hxl, hg⟩ := DataW.trod_struct Tryz.underlying34 ht
      rw [hC] at hlen
      obtain ⟨_, _, hat⟩ := World.cells?_some hc
      match cs', hlen, xs, hxl with
      | [c0, c1], _, [x0, x1], _ =>
        have k0 : Tryz.prog.cellsOf 9 = 1 := by kernel_rfl
        have g0 : DataW.trod enc Tryz.prog W 0 (fun _ => true) true n' 9 (([c0, c1].drop 0).take (Tryz.prog.cellsOf 9)) = some x0 := hg 0 _ rfl
        have g1 : DataW.trod enc Tryz.prog W 0 (fun _ => true) true n' 9 (([c0, c1].drop 1).take (Tryz.prog.cellsOf 9)) = some x1 := hg 1 _ rfl
        rw [k0] at g0 g1
        replace g0 : DataW.trod enc Tryz.prog W 0 (fun _ => true) true n' 9 [c0] = _ := g0
        replace g1 : DataW.trod enc Tryz.prog W 0 (fun _ => true) true n' 9 [c1] = _ := g1
        obtain ⟨s0, e0, d0, z0⟩ := DataW.trod_string Tryz.underlying9 g0
        obtain ⟨s1, e1, d1, z1⟩ := DataW.trod_string Tryz.underlying9 g1
        obtain rfl : c0 = .string s0 := by simpa using e0
        obtain rfl : c1 = .string s1 := by simpa using e1
        have h0 := hat 0 (by decide)
        have h1 := hat 1 (by decide)
        rw [Go.Deep.add_add] at h0 h1
        unfold maxLen at z0 z1
        subst d0 d1
        exact ⟨(s0.data.toList, s1.data.toList), h0, h1, ⟨by rw [← size_len]; omega, by rw [← size_len]; omega⟩, (Prod.mk.inj hx).1⟩
    obtain ⟨L, hLl, hL⟩ := list_of _ len hex
    refine ⟨L, some a, len, cap, rfl, ?_, fun j hj => (hL j hj).2.2.1, by rw [hLl]; unfold maxLen at hm; omega, .inr ⟨(List.range (m - len)).map fun j => D (len + j), ?_⟩⟩
    · rcases Nat.eq_zero_or_pos len with h0 | h0
      · subst h0
        exact .inl ⟨List.eq_nil_of_length_eq_zero hLl, _, _, rfl⟩
      · have hc0 := (hL 0 (by omega)).1
        rw [Nat.zero_mul] at hc0
        obtain ⟨b, off, rfl⟩ := plain_addr hc0
        refine .inr ⟨b, off, cap, by rw [hLl], block_lt_of_cell (by rw [Addr.add_lit] at hc0; exact hc0), fun j hj => ?_⟩
        have h1 := hL j hj
        rw [Addr.add_lit, Addr.add_lit, ← Nat.add_assoc] at h1
        exact ⟨h1.1, h1.2.1⟩
    · rw [(Prod.mk.inj hdd).1]
      congr 1
      apply List.ext_getElem
      · simp [hLl]
      · intro i h1 h2
        simp only [List.getElem_map, List.getElem_range]
        exact (hL i (by simpa using h2)).2.2.2
theorem open_cellSd {c : Value} {n : Nat} {y : DataW H × List MemPlace} (hf : DataW.trod enc Tryz.prog W 0 (fun _ => true) true n 9 [c] = some y) : ∃ s : ByteArray, c = .string s := by
  obtain ⟨s0, e0, _, _⟩ := DataW.trod_string Tryz.underlying9 hf
  exact ⟨s0, by simpa using e0⟩
theorem open_cellId {c : Value} {n : Nat} {y : DataW H × List MemPlace} (hf : DataW.trod enc Tryz.prog W 0 (fun _ => true) true n 3 [c] = some y) : ∃ k : Int, c = .int .i64 k := by
  obtain ⟨k, e0, _, _⟩ := DataW.trod_int Tryz.underlying3 hf
  exact ⟨k, by simpa using e0⟩
theorem open_cellLd {c : Value} {n : Nat} {y : DataW H × List MemPlace} (hf : DataW.trod enc Tryz.prog W 0 (fun _ => true) true n 2 [c] = some y) : ∃ k : Int, c = .int .i64 k ∧ (Lit.int .i64 k).wf = true := by
  obtain ⟨k, e0, _, z0⟩ := DataW.trod_int Tryz.underlying2 hf
  exact ⟨k, by simpa using e0, z0⟩
/-- an entry that came in -/
structure InN (W : World) (fs : Value) (l : List Fld) (asked got : Int) : Prop where
  fl : FL W fs l
  big : (∀ j (hj : j < l.length), l[j].1.length ≤ 9223372036854775807 ∧ l[j].2.length ≤ 9223372036854775807)
  len : l.length ≤ 9223372036854775807
  wa : (Lit.int .i64 asked).wf = true
  wg : (Lit.int .i64 got).wf = true
theorem open_argN (hv : Value.okWide Tryz.prog W .any base 28 v) (h : DataW.Trod enc Tryz.prog W 0 (fun _ => true) true 28 v d ps) :
    ∃ (st : Int) (re : ByteArray) (mi : Int) (fs : Value) (bo : ByteArray) (asked got : Int) (vA : Option Addr) (vn vc : Nat) (l : List Fld),
      v = .agg #[.int .i64 st, .string re, .int .i64 mi, fs, .string bo, .int .i64 asked, .int .i64 got, .slice vA vn vc] ∧ InN W fs l asked got ∧
      (l = [] ∨ ∃ sp d0 d1 d2 d4 e1 e2 e3, d = .agg [.agg [d0, d1, d2, .slice (l.map fdD) sp, d4], e1, e2, e3]) := by
  have hE := Tryz.underlying28
  have hR := Tryz.underlying26
  have hC : Tryz.prog.cellsOf 28 = 8 := by kernel_rfl
  have kR : Tryz.prog.cellsOf 26 = 5 := by kernel_rfl
  have kS : Tryz.prog.cellsOf 9 = 1 := by kernel_rfl
  have kI : Tryz.prog.cellsOf 3 = 1 := by kernel_rfl
  have kL : Tryz.prog.cellsOf 2 = 1 := by kernel_rfl
  have kF : Tryz.prog.cellsOf 22 = 1 := by kernel_rfl
  obtain ⟨cs, rfl, hsz⟩ := okWide_struct hE hv
  obtain ⟨c0, c1, c2, c3, c4, c5, c6, c7, rfl⟩ := array8 (hsz.trans hC)
  obtain ⟨fuel, hf⟩ := h
  obtain ⟨xs, n, _, hx, _, hxl, hg⟩ := DataW.trod_struct hE hf
  match xs, hxl with
  | [y0, y1, y2, y3], _ =>
    have g0 : DataW.trod enc Tryz.prog W 0 (fun _ => true) true n 26 (([c0, c1, c2, c3, c4, c5, c6, c7].drop 0).take (Tryz.prog.cellsOf 26)) = some y0 := hg 0 _ rfl
    have g1 : DataW.trod enc Tryz.prog W 0 (fun _ => true) true n 2 (([c0, c1, c2, c3, c4, c5, c6, c7].drop 5).take (Tryz.prog.cellsOf 2)) = some y1 := hg 1 _ rfl
    have g2 : DataW.trod enc Tryz.prog W 0 (fun _ => true) true n 2 (([c0, c1, c2, c3, c4, c5, c6, c7].drop 6).take (Tryz.prog.cellsOf 2)) = some y2 := hg 2 _ rfl
    have g3 : DataW.trod enc Tryz.prog W 0 (fun _ => true) true n 22 (([c0, c1, c2, c3, c4, c5, c6, c7].drop 7).take (Tryz.prog.cellsOf 22)) = some y3 := hg 3 _ rfl
    rw [kR] at g0
    rw [kL] at g1 g2
    rw [kF] at g3
    replace g0 : DataW.trod enc Tryz.prog W 0 (fun _ => true) true n 26 [c0, c1, c2, c3, c4] = some y0 := g0
    replace g1 : DataW.trod enc Tryz.prog W 0 (fun _ => true) true n 2 [c5] = some y1 := g1
    replace g2 : DataW.trod enc Tryz.prog W 0 (fun _ => true) true n 2 [c6] = some y2 := g2
    replace g3 : DataW.trod enc Tryz.prog W 0 (fun _ => true) true n 22 [c7] = some y3 := g3
    obtain ⟨zs, m, _, hz, _, hzl, hk⟩ := DataW.trod_struct hR g0
    match zs, hzl with
    | [z0, z1, z2, z3, z4], _ =>
      have k0 : DataW.trod enc Tryz.prog W 0 (fun _ => true) true m 3 (([c0, c1, c2, c3, c4].drop 0).take (Tryz.prog.cellsOf 3)) = some z0 := hk 0 _ rfl
      have k1 : DataW.trod enc Tryz.prog W 0 (fun _ => true) true m 9 (([c0, c1, c2, c3, c4].drop 1).take (Tryz.prog.cellsOf 9)) = some z1 := hk 1 _ rfl
      have k2 : DataW.trod enc Tryz.prog W 0 (fun _ => true) true m 3 (([c0, c1, c2, c3, c4].drop 2).take (Tryz.prog.cellsOf 3)) = some z2 := hk 2 _ rfl
      have k3 : DataW.trod enc Tryz.prog W 0 (fun _ => true) true m 22 (([c0, c1, c2, c3, c4].drop 3).take (Tryz.prog.cellsOf 22)) = some z3 := hk 3 _ rfl
      have k4 : DataW.trod enc Tryz.prog W 0 (fun _ => true) true m 9 (([c0, c1, c2, c3, c4].drop 4).take (Tryz.prog.cellsOf 9)) = some z4 := hk 4 _ rfl
      rw [kI] at k0 k2
      rw [kS] at k1 k4
      rw [kF] at k3
      replace k0 : DataW.trod enc Tryz.prog W 0 (fun _ => true) true m 3 [c0] = some z0 := k0
      replace k1 : DataW.trod enc Tryz.prog W 0 (fun _ => true) true m 9 [c1] = some z1 := k1
      replace k2 : DataW.trod enc Tryz.prog W 0 (fun _ => true) true m 3 [c2] = some z2 := k2
      replace k3 : DataW.trod enc Tryz.prog W 0 (fun _ => true) true m 22 [c3] = some z3 := k3
      replace k4 : DataW.trod enc Tryz.prog W 0 (fun _ => true) true m 9 [c4] = some z4 := k4
      obtain ⟨st, rfl⟩ := open_cellId k0
      obtain ⟨re, rfl⟩ := open_cellSd k1
      obtain ⟨mi, rfl⟩ := open_cellId k2
      obtain ⟨l, _, _, _, _, hfl, hb, hl, hd⟩ := open_cellFd k3
      obtain ⟨bo, rfl⟩ := open_cellSd k4
      obtain ⟨asked, rfl, wa⟩ := open_cellLd g1
      obtain ⟨got, rfl, wg⟩ := open_cellLd g2
      obtain ⟨_, vA, vn, vc, rfl, _⟩ := open_cellFd g3
      refine ⟨st, re, mi, c3, bo, asked, got, vA, vn, vc, l, rfl, ⟨hfl, hb, hl, wa, wg⟩, ?_⟩
      rcases hd with hd | ⟨sp, hd⟩
      · exact .inl hd
      · refine .inr ⟨sp, z0.1, z1.1, z2.1, z4.1, y1.1, y2.1, y3.1, ?_⟩
        rw [(Prod.mk.inj hx).1, ← hd, hz]
        rfl
theorem entry_sized {ts : List TypeId} {ds : List (DataW H)} {L : List Fld} {sp : List (DataW H)} {d0 d1 d2 d4 e1 e2 e3 : DataW H}
    (h : (DataW.weightsEach Tryz.prog (28 :: ts) (.agg [.agg [d0, d1, d2, .slice (L.map fdD) sp, d4], e1, e2, e3] :: ds)).all (· ≤ reachBytes) = true) :
    ∀ j (hj : j < L.length), L[j].1.length ≤ 140737488351232 ∧ L[j].2.length ≤ 140737488351232 := by
  rw [List.all_eq_true] at h
  have hE := Tryz.underlying28
  have hR := Tryz.underlying26
  have hs := Tryz.underlying22
  have hu := Tryz.underlying34
  intro j hj
  have hm : fdD L[j] ∈ L.map (fdD (H := H)) := List.mem_map.2 ⟨_, List.getElem_mem hj, rfl⟩
  have hin : ∀ n, n ∈ (fdD (H := H) L[j]).weights Tryz.prog 34 → n ≤ 140737488351232 := fun n hn => by
    refine of_decide_eq_true (h n ?_)
    rw [DataW.weightsEach, List.mem_append]
    left
    unfold DataW.weights
    rw [hE]
    show n ∈ DataW.weightsEach Tryz.prog [26, 2, 2, 22] _
    rw [DataW.weightsEach, List.mem_append]
    left
    unfold DataW.weights
    rw [hR]
    show n ∈ DataW.weightsEach Tryz.prog [3, 9, 3, 22, 9] _
    rw [DataW.weightsEach, List.mem_append]
    right
    rw [DataW.weightsEach, List.mem_append]
    right
    rw [DataW.weightsEach, List.mem_append]
    right
    rw [DataW.weightsEach, List.mem_append]
    left
    unfold DataW.weights
    rw [hs]
    exact List.mem_cons_of_mem _ (List.mem_append_left _ (weightsAllN_mem hm hn))
  generalize L[j] = f at *
  exact ⟨hin _ (by simp [fdD, DataW.weightsEach, DataW.weights, hu]), hin _ (by simp [fdD, DataW.weightsEach, DataW.weights, hu])⟩
end
end Go.Proofs.YtfobjaccpnondaaGreatDoor

/- A slice of texts that the call has made, and all texts of another behind it. -/
namespace Go.Proofs.YtfobjaccpnondaaGreatDoor
open Go.RowKit

theorem app_nothingS (ty : TypeId) (A : Option Addr) (n cap c : Nat) (w : World) (hA : A = none → n = 0 ∧ cap = 0) (hn : n ≤ cap) :
    (Builtin.append_ #[36, 36] ty #[.slice A n cap, .slice none 0 c]).run Tryz.prog w = .ok (.slice A n cap) w := by
  obtain ⟨i0, hi, hz0, hz1, hz2⟩ := info_parts infoS
  cases A with
  | none =>
    obtain ⟨rfl, rfl⟩ := hA rfl
    simp [Builtin.append_, run_underlying Tryz.underlying36, sizeOf, typeInfo, hi, Builtin.lenOf, Builtin.firstCells]
  | some a =>
    simp [Builtin.append_, run_underlying Tryz.underlying36, sizeOf, typeInfo, hi, Builtin.lenOf, Builtin.firstCells, hn, storeCells]
/-- 'append(l, m...)': the texts of the one, those of the other. What lies below the slice's base stands. -/
theorem wpList_appSS {w0 w : World} {ops : Array Oper} {rest : List Oper} {o : Oper} {a : Act} {Q : Exit → Act → World → Prop} (hgd : o.guard = none) (s x : Operand)
    (ho : o.op = .call { callee := .builtin .append, args := #[s, x], argTypes := #[36, 36] })
    (base B : Nat) (v vx : Value) (l m : List (List UInt8)) (hs : a.eval s = v) (hown : ownS w base v l) (hb : Below B w0 w) (hBb : B ≤ base) (hbase : base ≤ w.heap.size)
    (hx : a.eval x = vx) (hm : SL w vx m) (hlen : l.length + m.length ≤ 4294967296)
    (h : ∀ v' w', Hid (ownS w' base v' (l ++ m)) → Hid (Below B w0 w') → Hid (∀ b, b < base → w'.heap[b]? = w.heap[b]?) → Hid (w.heap.size ≤ w'.heap.size) → wpList Tryz.prog ops Q rest (a.put o.dst v') w') :
    wpList Tryz.prog ops Q (o :: rest) a w := by
  obtain ⟨i0, hi, hz0, hz1, hz2⟩ := info_parts infoS
  have key : ∀ (ad : Addr) (c : Nat), vx = .slice (some ad) m.length c → (∀ j u, (strCs m)[j]? = some u → w.cell? (ad.add j) = some u) → wpList Tryz.prog ops Q (o :: rest) a w := by
    intro ad c hv hc
    refine wpList_append_own _ hgd s x 36 ho base 9 i0 (.string ⟨#[]⟩) 1 16 Tryz.underlying36 hi hz0 hz1 hz2 rfl (by decide) v l.length _ hs hown ad m.length c (strCs m) (hx.trans hv) (by simp [strCs]) hc ?_ ?_ ?_ hbase ?_
    · intro v hv; simp [strCs] at hv; obtain ⟨y, _, rfl⟩ := hv; rfl
    · unfold maxLen; omega
    · omega
    · intro v' w' h1 h2 _
      have hge : ∀ k, v.ownBlock = some k → base ≤ k := fun k hk => (World.ownsRow.lt hown k hk).1
      refine h v' w' ?_ ?_ ?_ h2.size
      · show ownS _ _ _ _
        unfold ownS
        rw [List.length_append, show strCs (l ++ m) = strCs l ++ strCs m from by simp [strCs]]
        exact h1
      · exact hb.grown h2 (Nat.le_trans hBb hbase) (fun k hk => Nat.le_trans hBb (hge k hk))
      · intro b hb2
        exact h2.block b (by omega) (fun e => by have := hge b e.symm; omega)
  rcases hm with ⟨rfl, A, c, hv⟩ | ⟨b, off, c, hv, _, hc⟩
  · cases A with
    | some ad => exact key ad c hv (fun j u hu => by simp [strCs] at hu)
    | none =>
      have hform : ∃ A n cap, v = .slice A l.length cap ∧ (A = none → l.length = 0 ∧ cap = 0) ∧ l.length ≤ cap ∧ n = l.length := by
        rcases hown.2 with ⟨rfl, hn⟩ | ⟨g, cap, cur, rfl, _, _, hnc, _⟩
        · exact ⟨none, 0, 0, by rw [hn], fun _ => ⟨hn, rfl⟩, by omega, hn.symm⟩
        · exact ⟨some ⟨g, 0, none⟩, l.length, cap, rfl, (fun e => by cases e), hnc, rfl⟩
      obtain ⟨A, _, cap, rfl, h1, h2, _⟩ := hform
      refine Lib.wpList_append_run _ hgd s x 36 36 ho _ _ hs (hx.trans hv) _ _ (app_nothingS _ A l.length cap c w h1 h2) ?_
      exact h _ _ (by rw [List.append_nil]; exact hown) hb (fun _ _ => rfl) (Nat.le_refl _)
  · refine key ⟨b, off, none⟩ c hv fun j u hu => ?_
    have hj : j < m.length := by have := (List.getElem?_eq_some_iff.1 hu).1; simpa [strCs] using this
    rw [Addr.add_lit, hc j hj]
    simp [strCs, hj] at hu
    rw [hu]
end Go.Proofs.YtfobjaccpnondaaGreatDoor

/- Slices of fields appended to each other; a slice literal of one field. -/
namespace Go.Proofs.YtfobjaccpnondaaGreatDoor
open Go.RowKit

theorem FL.src {w : World} {ad : Addr} {n c : Nat} {l : List Fld} (h : FL w (.slice (some ad) n c) l) : ∀ j u, (fcs l)[j]? = some u → w.cell? (ad.add j) = some u := by
  intro j u hu
  have hj : j < l.length * 2 := by have := (List.getElem?_eq_some_iff.1 hu).1; rw [fcs_len] at this; exact this
  obtain ⟨b, off, he, _, h1, h2⟩ := h.get (j / 2) (by omega)
  obtain rfl := Option.some.inj he
  obtain ⟨f1, f2⟩ := fcs_at l (j / 2) (by omega)
  rw [Addr.add_lit]
  rcases Nat.mod_two_eq_zero_or_one j with hm | hm
  · have e : j = j / 2 * 2 := by omega
    rw [e] at hu ⊢
    rw [f1] at hu
    rw [h1]; exact hu
  · have e : j = j / 2 * 2 + 1 := by omega
    rw [e] at hu ⊢
    rw [f2] at hu
    rw [← Nat.add_assoc, h2]; exact hu
theorem app_nothingF (ty : TypeId) (A : Option Addr) (n cap c : Nat) (w : World) (hA : A = none → n = 0 ∧ cap = 0) (hn : n ≤ cap) :
    (Builtin.append_ #[22, 22] ty #[.slice A n cap, .slice none 0 c]).run Tryz.prog w = .ok (.slice A n cap) w := by
  obtain ⟨i0, hi, hz0, hz1, hz2⟩ := info_parts infoF
  cases A with
  | none =>
    obtain ⟨rfl, rfl⟩ := hA rfl
    simp [Builtin.append_, run_underlying Tryz.underlying22, sizeOf, typeInfo, hi, Builtin.lenOf, Builtin.firstCells]
  | some a =>
    simp [Builtin.append_, run_underlying Tryz.underlying22, sizeOf, typeInfo, hi, Builtin.lenOf, Builtin.firstCells, hn, storeCells]
/-- an append of fields to a slice of the call's own: what is known of its run -/
theorem run_appFF (w0 w : World) (ty : TypeId) (base B : Nat) (v vx : Value) (l m : List Fld) (hown : ownF w base v l) (hb : Below B w0 w) (hBb : B ≤ base) (hbase : base ≤ w.heap.size) (hm : FL w vx m) (hlen : l.length + m.length ≤ 4294967296) :
    ∃ v' w', (Builtin.append_ #[22, 22] ty #[v, vx]).run Tryz.prog w = .ok v' w' ∧ ownF w' base v' (l ++ m) ∧ Below B w0 w' ∧ (∀ b, b < base → w'.heap[b]? = w.heap[b]?) ∧ w.heap.size ≤ w'.heap.size ∧ (∀ b, b < w.heap.size → v.ownBlock ≠ some b → w'.heap[b]? = w.heap[b]?) := by
  obtain ⟨i0, hi, hz0, hz1, hz2⟩ := info_parts infoF
  have key : ∀ (ad : Addr) (c : Nat), vx = .slice (some ad) m.length c → (∀ j u, (fcs m)[j]? = some u → w.cell? (ad.add j) = some u) →
      ∃ v' w', (Builtin.append_ #[22, 22] ty #[v, vx]).run Tryz.prog w = .ok v' w' ∧ ownF w' base v' (l ++ m) ∧ Below B w0 w' ∧ (∀ b, b < base → w'.heap[b]? = w.heap[b]?) ∧ w.heap.size ≤ w'.heap.size ∧ (∀ b, b < w.heap.size → v.ownBlock ≠ some b → w'.heap[b]? = w.heap[b]?) := by
    intro ad c hv hc
    subst hv
    obtain ⟨v', w', h1, h2, h3, _⟩ := run_append_own (P := Tryz.prog) w base 22 ty 34 i0 (.agg #[.string ⟨#[]⟩, .string ⟨#[]⟩]) 2 32 Tryz.underlying22 hi hz0 hz1 hz2 rfl (by decide) v l.length _ hown ad m.length c (fcs m) (fcs_len m) hc (fcs_one m) (by unfold maxLen; omega) (by omega) hbase
    have hge : ∀ k, v.ownBlock = some k → base ≤ k := fun k hk => (World.ownsRow.lt hown k hk).1
    refine ⟨v', w', h1, ?_, hb.grown h3 (Nat.le_trans hBb hbase) (fun k hk => Nat.le_trans hBb (hge k hk)), fun b hb2 => h3.block b (by omega) (fun e => by have := hge b e.symm; omega), h3.size, fun b hb2 hne => h3.block b hb2 (fun e => hne e.symm)⟩
    unfold ownF
    rw [List.length_append, fcs_append]
    exact h2
  rcases hm with ⟨rfl, A, c, rfl⟩ | ⟨b, off, c, rfl, hlt, hc⟩
  · cases A with
    | some ad => exact key ad c rfl (fun j u hu => by simp [fcs] at hu)
    | none =>
      have hform : ∃ A cap, v = .slice A l.length cap ∧ (A = none → l.length = 0 ∧ cap = 0) ∧ l.length ≤ cap := by
        rcases hown.2 with ⟨rfl, hn⟩ | ⟨g, cap, cur, rfl, _, _, hnc, _⟩
        · exact ⟨none, 0, by rw [hn], fun _ => ⟨hn, rfl⟩, by omega⟩
        · exact ⟨some ⟨g, 0, none⟩, cap, rfl, (fun e => by cases e), hnc⟩
      obtain ⟨A, cap, rfl, h1, h2⟩ := hform
      exact ⟨_, w, app_nothingF ty A l.length cap c w h1 h2, by rw [List.append_nil]; exact hown, hb, fun _ _ => rfl, Nat.le_refl _, fun _ _ _ => rfl⟩
  · exact key ⟨b, off, none⟩ c rfl (FL.src (n := m.length) (c := c) (.inr ⟨b, off, c, rfl, hlt, hc⟩))
theorem wpList_appFF {w0 w : World} {ops : Array Oper} {rest : List Oper} {o : Oper} {a : Act} {Q : Exit → Act → World → Prop} (hgd : o.guard = none) (s x : Operand)
    (ho : o.op = .call { callee := .builtin .append, args := #[s, x], argTypes := #[22, 22] })
    (base B : Nat) (v vx : Value) (l m : List Fld) (hs : a.eval s = v) (hown : ownF w base v l) (hb : Below B w0 w) (hBb : B ≤ base) (hbase : base ≤ w.heap.size)
    (hx : a.eval x = vx) (hm : FL w vx m) (hlen : l.length + m.length ≤ 4294967296)
    (h : ∀ v' w', Hid (ownF w' base v' (l ++ m)) → Hid (Below B w0 w') → Hid (∀ b, b < base → w'.heap[b]? = w.heap[b]?) → Hid (w.heap.size ≤ w'.heap.size) → wpList Tryz.prog ops Q rest (a.put o.dst v') w') :
    wpList Tryz.prog ops Q (o :: rest) a w := by
  obtain ⟨v', w', hr, h1, h2, h3, h4, _⟩ := run_appFF w0 w o.type base B v vx l m hown hb hBb hbase hm hlen
  exact Lib.wpList_append_run _ hgd s x 22 22 ho _ _ hs hx _ _ hr (h v' w' h1 h2 h3 h4)
theorem wp_appFF {w0 w : World} {o : Oper} {a : Act} {K : Act → World → Prop} {Q : Exit → Act → World → Prop} (s x : Operand)
    (ho : o.op = .call { callee := .builtin .append, args := #[s, x], argTypes := #[22, 22] })
    (base B : Nat) (v vx : Value) (l m : List Fld) (hs : a.eval s = v) (hown : ownF w base v l) (hb : Below B w0 w) (hBb : B ≤ base) (hbase : base ≤ w.heap.size)
    (hx : a.eval x = vx) (hm : FL w vx m) (hlen : l.length + m.length ≤ 4294967296)
    (h : ∀ v' w', Hid (ownF w' base v' (l ++ m)) → Hid (Below B w0 w') → Hid (∀ b, b < base → w'.heap[b]? = w.heap[b]?) → Hid (w.heap.size ≤ w'.heap.size) → K (a.put o.dst v') w') : o.wp Tryz.prog a w K Q := by
  obtain ⟨v', w', hr, h1, h2, h3, h4, _⟩ := run_appFF w0 w o.type base B v vx l m hown hb hBb hbase hm hlen
  exact Lib.wp_append_run w s x 22 22 ho _ _ hs hx _ _ hr (h v' w' h1 h2 h3 h4)
/-- as wpList_appFF; and what becomes of the blocks that are not the slice's own -/
theorem wpList_appFX {w0 w : World} {ops : Array Oper} {rest : List Oper} {o : Oper} {a : Act} {Q : Exit → Act → World → Prop} (hgd : o.guard = none) (s x : Operand)
    (ho : o.op = .call { callee := .builtin .append, args := #[s, x], argTypes := #[22, 22] })
    (base B : Nat) (v vx : Value) (l m : List Fld) (hs : a.eval s = v) (hown : ownF w base v l) (hb : Below B w0 w) (hBb : B ≤ base) (hbase : base ≤ w.heap.size)
    (hx : a.eval x = vx) (hm : FL w vx m) (hlen : l.length + m.length ≤ 4294967296)
    (h : ∀ v' w', Hid (ownF w' base v' (l ++ m)) → Hid (Below B w0 w') → Hid (∀ b, b < w.heap.size → v.ownBlock ≠ some b → w'.heap[b]? = w.heap[b]?) → wpList Tryz.prog ops Q rest (a.put o.dst v') w') :
    wpList Tryz.prog ops Q (o :: rest) a w := by
  obtain ⟨v', w', hr, h1, h2, _, _, h5⟩ := run_appFF w0 w o.type base B v vx l m hown hb hBb hbase hm hlen
  exact Lib.wpList_append_run _ hgd s x 22 22 ho _ _ hs hx _ _ hr (h v' w' h1 h2 h5)
/-- a slice literal of one field -/
theorem FL_lit (w : World) (f : Fld) : FL (w.alloc (.cells #[.string (bs f.1), .string (bs f.2)] 34)) (.slice (some ⟨w.heap.size, 0, none⟩) 1 1) [f] := by
  refine .inr ⟨w.heap.size, 0, 1, rfl, by simp, fun j hj => ?_⟩
  have : j = 0 := by simpa using hj
  subst this
  have hb := heap_alloc_new w (.cells #[.string (bs f.1), .string (bs f.2)] 34)
  constructor <;> (unfold World.cell?; simp only [hb]; rfl)

/-- blocks from base on stand: so does what lies there -/
theorem ownF.stay {W W' : World} {base : Nat} {v : Value} {l : List Fld} (h : ownF W base v l) (k : ∀ b, base ≤ b → W'.heap[b]? = W.heap[b]?) : ownF W' base v l := by
  rcases h with ⟨h1, h2⟩
  refine ⟨h1, ?_⟩
  rcases h2 with h2 | ⟨g, cap, cur, e, hb, hg, hnc, hrest⟩
  · exact .inl h2
  · exact .inr ⟨g, cap, cur, e, hb, by rw [k g hb]; exact hg, hnc, hrest⟩

/-! Names and values in turn. -/
def flatN (l : List Fld) : List (List UInt8) := l.flatMap fun f => [f.1, f.2]
theorem flatN_len (l : List Fld) : (flatN l).length = 2 * l.length := by
  induction l with
  | nil => rfl
  | cons f r ih => simp [flatN] at ih ⊢; omega
theorem flatN_at (l : List Fld) (j : Nat) (hj : j < l.length) : (flatN l)[2 * j]? = some l[j].1 ∧ (flatN l)[2 * j + 1]? = some l[j].2 := by
  induction l generalizing j with
  | nil => exact absurd hj (by simp)
  | cons f r ih =>
    have e : flatN (f :: r) = f.1 :: f.2 :: flatN r := by simp [flatN]
    rw [e]
    cases j with
    | zero => exact ⟨rfl, rfl⟩
    | succ k =>
      obtain ⟨h1, h2⟩ := ih k (by simpa using hj)
      rw [show 2 * (k + 1) = 2 * k + 2 from by omega]
      exact ⟨h1, h2⟩
theorem SL.at2 {w : World} {A : Option Addr} {n c : Nat} {L : List (List UInt8)} {j : Nat} {x : List UInt8} (h : SL w (.slice A n c) L) (hx : L[j]? = some x) : ∃ b off, A = some ⟨b, off, none⟩ ∧ b < w.heap.size ∧ w.cell? ⟨b, off + j, none⟩ = some (.string (bs x)) := by
  obtain ⟨hj, he⟩ := List.getElem?_eq_some_iff.1 hx
  obtain ⟨b, off, h1, h3, h2⟩ := h.get j hj
  exact ⟨b, off, h1, h3, by rw [h2, he]⟩

end Go.Proofs.YtfobjaccpnondaaGreatDoor
