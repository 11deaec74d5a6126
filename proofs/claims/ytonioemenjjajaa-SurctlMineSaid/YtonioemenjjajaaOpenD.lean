/- Lists of directives that come in: what is read of them, and what they weigh. -/
import Derived.Test.YtonioemenjjajaaOpenF
import Derived.Test.YtonioemenjjajaaDirF
namespace Go.Proofs.Ytonioemenjjajaa
open Go.Joins Go.ChangeShapes Go.WideShapes Go.ChangeAt Go.RowKit Go.Deep
set_option maxRecDepth 100000

theorem weightsAll_mem {H : Type} {P : Program} {e : TypeId} {x : DataW H} {n : Nat} : ∀ {l : List (DataW H)}, x ∈ l → n ∈ x.weights P e → n ∈ DataW.weightsAll P e l
  | [], h, _ => by cases h
  | y :: r, h, hn => by
    rw [DataW.weightsAll, List.mem_append]
    rcases List.mem_cons.1 h with rfl | h
    · exact .inl hn
    · exact .inr (weightsAll_mem h hn)
theorem bulkAll_mem {H : Type} {x : DataW H} : ∀ {l : List (DataW H)}, x ∈ l → Rows.uptoBulk x ≤ Rows.uptoBulkAll l
  | [], h => by cases h
  | y :: r, h => by
    rw [Rows.uptoBulkAll]
    rcases List.mem_cons.1 h with rfl | h
    · omega
    · have := bulkAll_mem h; omega
/-- a directive, as a row writes it down -/
def dvD {H : Type} (f : Dv) : DataW H := .agg [.lit (.string f.1), .lit (.string f.2.1), .lit (.bool f.2.2.1), .lit (.string f.2.2.2)]
section
variable {H : Type} {enc : TypeId × Value → H} {W : World} {base : Nat} {v : Value} {d : DataW H} {ps : List MemPlace}
theorem open_argV (hv : Value.okWide Try.prog W .any base 26 v) (h : DataW.Trod enc Try.prog W 0 (fun _ => true) true 26 v d ps) :
    ∃ L : List Dv, DL W v L ∧ (∀ j (hj : j < L.length), L[j].1.length ≤ 9223372036854775807 ∧ L[j].2.1.length ≤ 9223372036854775807 ∧ L[j].2.2.2.length ≤ 9223372036854775807) ∧ L.length ≤ 9223372036854775807 ∧
      (L = [] ∨ ∃ sp, d = .slice (L.map dvD) sp) := by
  obtain ⟨a0, len, cap, rfl⟩ := okWide_slice Try.underlying26 hv
  obtain ⟨fuel, hf⟩ := h
  have hC : Try.prog.cellsOf 39 = 4 := by kernel_rfl
  rcases open_slice Try.underlying26 hf with ⟨hcs, _⟩ | ⟨a, len', cap', m, n, D, Pl, hcs, _, hl, hm, hmm, hdd, hi⟩
  · have e : a0 = none ∧ len = 0 ∧ cap = 0 := by simpa [Value.cells] using hcs
    obtain ⟨rfl, rfl, rfl⟩ := e
    exact ⟨[], DL_nil W, fun j hj => absurd hj (by simp), by simp, .inl rfl⟩
  · have e : a0 = some a ∧ len = len' ∧ cap = cap' := by simpa [Value.cells] using hcs
    obtain ⟨rfl, rfl, rfl⟩ := e
    have hml : len ≤ m := by rw [hmm]; split <;> omega
    rw [hC] at hi
    have hex : ∀ i, i < len → ∃ f : Dv, W.cell? (a.add (i * 4)) = some (.string (bs f.1)) ∧ W.cell? (a.add (i * 4 + 1)) = some (.string (bs f.2.1)) ∧ W.cell? (a.add (i * 4 + 2)) = some (.bool f.2.2.1) ∧ W.cell? (a.add (i * 4 + 3)) = some (.string (bs f.2.2.2)) ∧
        (f.1.length ≤ 9223372036854775807 ∧ f.2.1.length ≤ 9223372036854775807 ∧ f.2.2.2.length ≤ 9223372036854775807) ∧ D i = dvD f := by
      intro i hil
      obtain ⟨cs', hc, ht⟩ := hi i (by omega)
      obtain ⟨xs, n', _, hx, hlen, hxl, hg⟩ := DataW.trod_struct Try.underlying39 ht
      rw [hC] at hlen
      obtain ⟨_, _, hat⟩ := World.cells?_some hc
      match cs', hlen, xs, hxl with
      | [c0, c1, c2, c3], _, [x0, x1, x2, x3], _ =>
        have k0 : Try.prog.cellsOf 9 = 1 := by kernel_rfl
        have k1 : Try.prog.cellsOf 4 = 1 := by kernel_rfl
        have g0 : DataW.trod enc Try.prog W 0 (fun _ => true) true n' 9 (([c0, c1, c2, c3].drop 0).take (Try.prog.cellsOf 9)) = some x0 := hg 0 _ rfl
        have g1 : DataW.trod enc Try.prog W 0 (fun _ => true) true n' 9 (([c0, c1, c2, c3].drop 1).take (Try.prog.cellsOf 9)) = some x1 := hg 1 _ rfl
        have g2 : DataW.trod enc Try.prog W 0 (fun _ => true) true n' 4 (([c0, c1, c2, c3].drop 2).take (Try.prog.cellsOf 4)) = some x2 := hg 2 _ rfl
        have g3 : DataW.trod enc Try.prog W 0 (fun _ => true) true n' 9 (([c0, c1, c2, c3].drop 3).take (Try.prog.cellsOf 9)) = some x3 := hg 3 _ rfl
        rw [k0] at g0 g1 g3
        rw [k1] at g2
        replace g0 : DataW.trod enc Try.prog W 0 (fun _ => true) true n' 9 [c0] = _ := g0
        replace g1 : DataW.trod enc Try.prog W 0 (fun _ => true) true n' 9 [c1] = _ := g1
        replace g2 : DataW.trod enc Try.prog W 0 (fun _ => true) true n' 4 [c2] = _ := g2
        replace g3 : DataW.trod enc Try.prog W 0 (fun _ => true) true n' 9 [c3] = _ := g3
        obtain ⟨s0, e0, d0, z0⟩ := DataW.trod_string Try.underlying9 g0
        obtain ⟨s1, e1, d1, z1⟩ := DataW.trod_string Try.underlying9 g1
        obtain ⟨b2, e2, d2⟩ := DataW.trod_bool Try.underlying4 g2
        obtain ⟨s3, e3, d3, z3⟩ := DataW.trod_string Try.underlying9 g3
        obtain rfl : c0 = .string s0 := by simpa using e0
        obtain rfl : c1 = .string s1 := by simpa using e1
        obtain rfl : c2 = .bool b2 := by simpa using e2
        obtain rfl : c3 = .string s3 := by simpa using e3
        have h0 := hat 0 (by decide)
        have h1 := hat 1 (by decide)
        have h2 := hat 2 (by decide)
        have h3 := hat 3 (by decide)
        rw [Go.Deep.add_add] at h0 h1 h2 h3
        unfold maxLen at z0 z1 z3
        subst d0 d1 d2 d3
        exact ⟨(s0.data.toList, s1.data.toList, b2, s3.data.toList), h0, h1, h2, h3, ⟨by rw [← size_len]; omega, by rw [← size_len]; omega, by rw [← size_len]; omega⟩, (Prod.mk.inj hx).1⟩
    obtain ⟨L, hLl, hL⟩ := list_of _ len hex
    refine ⟨L, ?_, fun j hj => (hL j hj).2.2.2.2.1, by rw [hLl]; unfold maxLen at hm; omega, .inr ⟨(List.range (m - len)).map fun j => D (len + j), ?_⟩⟩
    · rcases Nat.eq_zero_or_pos len with h0 | h0
      · subst h0
        exact .inl ⟨List.eq_nil_of_length_eq_zero hLl, _, _, rfl⟩
      · have hc0 := (hL 0 (by omega)).1
        rw [Nat.zero_mul] at hc0
        obtain ⟨b, off, rfl⟩ := plain_addr hc0
        refine .inr ⟨b, off, cap, by rw [hLl], block_lt_of_cell (by rw [Addr.add_lit] at hc0; exact hc0), fun j hj => ?_⟩
        have h1 := hL j hj
        rw [Addr.add_lit, Addr.add_lit, Addr.add_lit, Addr.add_lit, ← Nat.add_assoc, ← Nat.add_assoc, ← Nat.add_assoc] at h1
        exact ⟨h1.1, h1.2.1, h1.2.2.1, h1.2.2.2.1⟩
    · rw [(Prod.mk.inj hdd).1]
      congr 1
      apply List.ext_getElem
      · simp [hLl]
      · intro i h1 h2
        simp only [List.getElem_map, List.getElem_range]
        exact (hL i (by simpa using h2)).2.2.2.2.2
/-- the texts of a list's directives are no longer than what one row may reach -/
theorem dirs_sized {ts : List TypeId} {ds : List (DataW H)} {L : List Dv} {sp : List (DataW H)}
    (h : (DataW.weightsEach Try.prog (26 :: ts) (.slice (L.map dvD) sp :: ds)).all (· ≤ reachBytes) = true) : ∀ j (hj : j < L.length), DvW L[j] := by
  rw [List.all_eq_true] at h
  have hs := Try.underlying26
  have hu := Try.underlying39
  intro j hj
  have hm : dvD L[j] ∈ L.map (dvD (H := H)) := List.mem_map.2 ⟨_, List.getElem_mem hj, rfl⟩
  have hin : ∀ n, n ∈ (dvD (H := H) L[j]).weights Try.prog 39 → n ≤ 140737488351232 := fun n hn => by
    refine of_decide_eq_true (h n ?_)
    rw [DataW.weightsEach, List.mem_append]
    left
    unfold DataW.weights
    rw [hs]
    exact List.mem_cons_of_mem _ (List.mem_append_left _ (weightsAll_mem hm hn))
  generalize L[j] = f at *
  exact ⟨hin _ (by simp [dvD, DataW.weightsEach, DataW.weights, hu]), hin _ (by simp [dvD, DataW.weightsEach, DataW.weights, hu]), hin _ (by simp [dvD, DataW.weightsEach, DataW.weights, hu])⟩
/-- where what is read is of small bulk, so are the directives' texts -/
theorem dirs_bulk {L : List Dv} {sp : List (DataW H)} {N : Nat} (h : Rows.uptoBulk (H := H) (.slice (L.map dvD) sp) ≤ N) : ∀ j (hj : j < L.length), L[j].1.length ≤ N ∧ L[j].2.1.length ≤ N ∧ L[j].2.2.2.length ≤ N := by
  intro j hj
  have hm : dvD L[j] ∈ L.map (dvD (H := H)) := List.mem_map.2 ⟨_, List.getElem_mem hj, rfl⟩
  have h1 := bulkAll_mem hm
  rw [Rows.uptoBulk] at h
  generalize L[j] = f at *
  simp only [dvD, Rows.uptoBulk, Rows.uptoBulkAll] at h1
  omega
end
end Go.Proofs.Ytonioemenjjajaa
