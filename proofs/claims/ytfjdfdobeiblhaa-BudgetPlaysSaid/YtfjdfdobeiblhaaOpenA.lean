/- Acts (calls of a budget) that come in: what is read of them, and what their keys weigh at most. -/
import Derived.Test.YtfjdfdobeiblhaaBudN
import Derived.Test.YtfjdfdobeiblhaaRows
import Derived.Deep.Slices
import Derived.Deep.Fields
import Derived.Lib.SmallJoins
import Derived.OpenShut
import Derived.Carry
namespace Go.Proofs.Ytfjdfdobeiblhaa
open Go.Joins Go.ChangeShapes Go.WideShapes Go.ChangeAt Go.RowKit Go.Deep
set_option maxRecDepth 100000
/-- what a call is, its key, its size, its value -/
structure Ac where
  wh : Int
  key : List UInt8
  sz : Int
  x : Int
structure Ac.Ok (a : Ac) : Prop where
  w1 : 0 ≤ a.wh
  w2 : a.wh ≤ 255
  s1 : -9223372036854775808 ≤ a.sz
  s2 : a.sz ≤ 9223372036854775807
  x1 : -9223372036854775808 ≤ a.x
  x2 : a.x ≤ 9223372036854775807
def Ac.val (a : Ac) : Value := .agg #[.int .u8 a.wh, .string (bs a.key), .int .i64 a.sz, .int .i64 a.x]
def acD {H : Type} (a : Ac) : DataW H := .agg [.lit (.int .u8 a.wh), .lit (.string a.key), .lit (.int .i64 a.sz), .lit (.int .i64 a.x)]
theorem list_ofA {α : Type} (P : Nat → α → Prop) : ∀ n, (∀ i, i < n → ∃ x, P i x) → ∃ L : List α, L.length = n ∧ ∀ i (hi : i < L.length), P i L[i]
  | 0, _ => ⟨[], rfl, fun i hi => absurd hi (by simp)⟩
  | n + 1, h => by
    obtain ⟨L, hl, hp⟩ := list_ofA P n fun i hi => h i (by omega)
    obtain ⟨x, hx⟩ := h n (by omega)
    refine ⟨L ++ [x], by simp [hl], fun i hi => ?_⟩
    rcases Nat.lt_or_ge i n with h1 | h1
    · rw [List.getElem_append_left (by omega)]; exact hp i (by omega)
    · obtain rfl : i = n := by simp [hl] at hi; omega
      rw [List.getElem_append_right (by omega)]; simpa [hl] using hx
theorem plain_addrA {W : World} {a : Addr} {u : Value} (h : W.cell? (a.add 0) = some u) : ∃ b off, a = ⟨b, off, none⟩ := by
  obtain ⟨b, off, spot⟩ := a
  cases spot with
  | none => exact ⟨b, off, rfl⟩
  | some s =>
    unfold Addr.add World.cell? at h
    split at h <;> simp_all
theorem weightsAll_memA {H : Type} {P : Program} {e : TypeId} {x : DataW H} {n : Nat} : ∀ {l : List (DataW H)}, x ∈ l → n ∈ x.weights P e → n ∈ DataW.weightsAll P e l
  | [], h, _ => by cases h
  | y :: r, h, hn => by
    rw [DataW.weightsAll, List.mem_append]
    rcases List.mem_cons.1 h with rfl | h
    · exact .inl hn
    · exact .inr (weightsAll_memA h hn)
theorem weights_nextA {H : Type} {t : TypeId} {d : DataW H} {ts : List TypeId} {ds : List (DataW H)} {p : Nat → Bool} (h : (DataW.weightsEach Try.prog (t :: ts) (d :: ds)).all p = true) : (DataW.weightsEach Try.prog ts ds).all p = true := by
  simp only [DataW.weightsEach, List.all_append, Bool.and_eq_true] at h
  exact h.2
theorem weights_headA {H : Type} {t : TypeId} {d : DataW H} {ts : List TypeId} {ds : List (DataW H)} (h : (DataW.weightsEach Try.prog (t :: ts) (d :: ds)).all (· ≤ reachBytes) = true) : ∀ n ∈ d.weights Try.prog t, n ≤ 140737488351232 := by
  simp only [DataW.weightsEach, List.all_append, Bool.and_eq_true, List.all_eq_true] at h
  intro n hn
  exact of_decide_eq_true (h.1 n hn)
/-- calls in memory -/
def AL (w : World) (v : Value) (l : List Ac) : Prop :=
  (l = [] ∧ ∃ A c, v = .slice A 0 c) ∨ ∃ b off c, v = .slice (some ⟨b, off, none⟩) l.length c ∧ b < w.heap.size ∧
    ∀ j (hj : j < l.length), w.cell? ⟨b, off + j * 4, none⟩ = some (.int .u8 l[j].wh) ∧ w.cell? ⟨b, off + j * 4 + 1, none⟩ = some (.string (bs l[j].key)) ∧ w.cell? ⟨b, off + j * 4 + 2, none⟩ = some (.int .i64 l[j].sz) ∧ w.cell? ⟨b, off + j * 4 + 3, none⟩ = some (.int .i64 l[j].x)
theorem AL.form {w : World} {v : Value} {l : List Ac} (h : AL w v l) : ∃ A c, v = .slice A l.length c := by
  rcases h with ⟨rfl, A, c, rfl⟩ | ⟨b, off, c, rfl, -⟩
  · exact ⟨_, _, rfl⟩
  · exact ⟨_, _, rfl⟩
theorem AL.bel {w w' : World} {v : Value} {l : List Ac} (h : AL w v l) (hb : Below w.heap.size w w') : AL w' v l := by
  rcases h with h | ⟨b, off, c, rfl, hlt, hc⟩
  · exact .inl h
  · refine .inr ⟨b, off, c, rfl, Nat.lt_of_lt_of_le hlt hb.size, fun j hj => ?_⟩
    obtain ⟨h0, h1, h2, h3⟩ := hc j hj
    exact ⟨(hb.cell (p := ⟨b, _, none⟩) hlt).trans h0, (hb.cell (p := ⟨b, _, none⟩) hlt).trans h1, (hb.cell (p := ⟨b, _, none⟩) hlt).trans h2, (hb.cell (p := ⟨b, _, none⟩) hlt).trans h3⟩
theorem AL.get {w : World} {A : Option Addr} {n c : Nat} {l : List Ac} (h : AL w (.slice A n c) l) (j : Nat) (hj : j < l.length) : ∃ b off, A = some ⟨b, off, none⟩ ∧ b < w.heap.size ∧
    w.cell? ⟨b, off + j * 4, none⟩ = some (.int .u8 l[j].wh) ∧ w.cell? ⟨b, off + j * 4 + 1, none⟩ = some (.string (bs l[j].key)) ∧ w.cell? ⟨b, off + j * 4 + 2, none⟩ = some (.int .i64 l[j].sz) ∧ w.cell? ⟨b, off + j * 4 + 3, none⟩ = some (.int .i64 l[j].x) := by
  rcases h with ⟨rfl, -⟩ | ⟨b, off, c', hv, hlt, hc⟩
  · cases hj
  · cases hv
    exact ⟨b, off, rfl, hlt, hc j hj⟩
section
variable {H : Type} {enc : TypeId × Value → H} {W : World} {base : Nat} {v : Value} {d : DataW H} {ps : List MemPlace}
theorem open_argAc (hv : Value.okWide Try.prog W .any base 22 v) (h : DataW.Trod enc Try.prog W 0 (fun _ => true) true 22 v d ps) (hw : ∀ n ∈ d.weights Try.prog 22, n ≤ 140737488351232) :
    ∃ L : List Ac, AL W v L ∧ (∀ j (hj : j < L.length), L[j].Ok ∧ L[j].key.length ≤ KL) ∧ L.length ≤ 9223372036854775807 := by
  obtain ⟨a0, len, cap, rfl⟩ := okWide_slice Try.underlying22 hv
  obtain ⟨fuel, hf⟩ := h
  have hC : Try.prog.cellsOf 32 = 4 := by kernel_rfl
  rcases open_slice Try.underlying22 hf with ⟨hcs, _⟩ | ⟨a, len', cap', m, n, D, Pl, hcs, _, hl, hm, hmm, hdd, hi⟩
  · have e : a0 = none ∧ len = 0 ∧ cap = 0 := by simpa [Value.cells] using hcs
    obtain ⟨rfl, rfl, rfl⟩ := e
    exact ⟨[], .inl ⟨rfl, _, _, rfl⟩, fun j hj => absurd hj (by simp), by simp⟩
  · have e : a0 = some a ∧ len = len' ∧ cap = cap' := by simpa [Value.cells] using hcs
    obtain ⟨rfl, rfl, rfl⟩ := e
    have hml : len ≤ m := by rw [hmm]; split <;> omega
    rw [hC] at hi
    have hex : ∀ i, i < len → ∃ f : Ac, (W.cell? (a.add (i * 4)) = some (.int .u8 f.wh) ∧ W.cell? (a.add (i * 4 + 1)) = some (.string (bs f.key)) ∧ W.cell? (a.add (i * 4 + 2)) = some (.int .i64 f.sz) ∧ W.cell? (a.add (i * 4 + 3)) = some (.int .i64 f.x)) ∧ f.Ok ∧ D i = acD f := by
      intro i hil
      obtain ⟨cs', hc, ht⟩ := hi i (by omega)
      obtain ⟨xs, n', _, hx, hlen, hxl, hg⟩ := DataW.trod_struct Try.underlying32 ht
      rw [hC] at hlen
      obtain ⟨_, _, hat⟩ := World.cells?_some hc
      match cs', hlen, xs, hxl with
      | [c0, c1, c2, c3], _, [x0, x1, x2, x3], _ =>
        have k0 : Try.prog.cellsOf 9 = 1 := by kernel_rfl
        have k1 : Try.prog.cellsOf 5 = 1 := by kernel_rfl
        have k2 : Try.prog.cellsOf 3 = 1 := by kernel_rfl
        have g0 : DataW.trod enc Try.prog W 0 (fun _ => true) true n' 5 (([c0, c1, c2, c3].drop 0).take (Try.prog.cellsOf 5)) = some x0 := hg 0 _ rfl
        have g1 : DataW.trod enc Try.prog W 0 (fun _ => true) true n' 9 (([c0, c1, c2, c3].drop 1).take (Try.prog.cellsOf 9)) = some x1 := hg 1 _ rfl
        have g2 : DataW.trod enc Try.prog W 0 (fun _ => true) true n' 3 (([c0, c1, c2, c3].drop 2).take (Try.prog.cellsOf 3)) = some x2 := hg 2 _ rfl
        have g3 : DataW.trod enc Try.prog W 0 (fun _ => true) true n' 3 (([c0, c1, c2, c3].drop 3).take (Try.prog.cellsOf 3)) = some x3 := hg 3 _ rfl
        rw [k1] at g0
        rw [k0] at g1
        rw [k2] at g2 g3
        replace g0 : DataW.trod enc Try.prog W 0 (fun _ => true) true n' 5 [c0] = _ := g0
        replace g1 : DataW.trod enc Try.prog W 0 (fun _ => true) true n' 9 [c1] = _ := g1
        replace g2 : DataW.trod enc Try.prog W 0 (fun _ => true) true n' 3 [c2] = _ := g2
        replace g3 : DataW.trod enc Try.prog W 0 (fun _ => true) true n' 3 [c3] = _ := g3
        obtain ⟨i0, e0, d0, z0⟩ := DataW.trod_int Try.underlying5 g0
        obtain ⟨s1, e1, d1, z1⟩ := DataW.trod_string Try.underlying9 g1
        obtain ⟨i2, e2, d2, z2⟩ := DataW.trod_int Try.underlying3 g2
        obtain ⟨i3, e3, d3, z3⟩ := DataW.trod_int Try.underlying3 g3
        obtain rfl : c0 = .int .u8 i0 := by simpa using e0
        obtain rfl : c1 = .string s1 := by simpa using e1
        obtain rfl : c2 = .int .i64 i2 := by simpa using e2
        obtain rfl : c3 = .int .i64 i3 := by simpa using e3
        have h0 := hat 0 (by decide)
        have h1 := hat 1 (by decide)
        have h2 := hat 2 (by decide)
        have h3 := hat 3 (by decide)
        rw [Go.Deep.add_add] at h0 h1 h2 h3
        subst d0 d1 d2 d3
        have z0 : 0 ≤ i0 ∧ i0 ≤ 255 := by
          have h := z0
          rw [Lit.wf, Bool.and_eq_true, decide_eq_true_eq, decide_eq_true_eq] at h
          exact h
        have z2 : -9223372036854775808 ≤ i2 ∧ i2 ≤ 9223372036854775807 := by
          have h := z2
          rw [Lit.wf, Bool.and_eq_true, decide_eq_true_eq, decide_eq_true_eq] at h
          exact h
        have z3 : -9223372036854775808 ≤ i3 ∧ i3 ≤ 9223372036854775807 := by
          have h := z3
          rw [Lit.wf, Bool.and_eq_true, decide_eq_true_eq, decide_eq_true_eq] at h
          exact h
        exact ⟨⟨i0, s1.data.toList, i2, i3⟩, ⟨h0, h1, h2, h3⟩, ⟨z0.1, z0.2, z2.1, z2.2, z3.1, z3.2⟩, (Prod.mk.inj hx).1⟩
    obtain ⟨L, hLl, hL⟩ := list_ofA _ len hex
    refine ⟨L, ?_, fun j hj => ⟨(hL j hj).2.1, ?_⟩, by rw [hLl]; unfold maxLen at hm; omega⟩
    · rcases Nat.eq_zero_or_pos len with h0 | h0
      · subst h0
        exact .inl ⟨List.eq_nil_of_length_eq_zero hLl, _, _, rfl⟩
      · have hc0 := (hL 0 (by omega)).1.1
        rw [Nat.zero_mul] at hc0
        obtain ⟨b, off, rfl⟩ := plain_addrA hc0
        refine .inr ⟨b, off, cap, by rw [hLl], block_lt_of_cell (by rw [Addr.add_lit] at hc0; exact hc0), fun j hj => ?_⟩
        have h1 := (hL j hj).1
        rw [Addr.add_lit, Addr.add_lit, Addr.add_lit, Addr.add_lit, ← Nat.add_assoc, ← Nat.add_assoc, ← Nat.add_assoc] at h1
        exact h1
    · have hs := Try.underlying22
      have hu := Try.underlying32
      have hD := (hL j hj).2.2
      have hin : ∀ n, n ∈ (acD (H := H) L[j]).weights Try.prog 32 → n ≤ 140737488351232 := fun n hn => by
        refine hw n ?_
        rw [show d = _ from (Prod.mk.inj hdd).1]
        unfold DataW.weights
        rw [hs]
        exact List.mem_cons_of_mem _ (List.mem_append_left _ (weightsAll_memA (List.mem_map.2 ⟨j, List.mem_range.2 (by omega), hD⟩) hn))
      generalize L[j] = f at *
      have := hin f.key.length (by simp [acD, DataW.weightsEach, DataW.weights, hu])
      unfold KL
      omega
end
end Go.Proofs.Ytfjdfdobeiblhaa
