/- A list of bytes that comes in: what is read of it. -/
import Derived.Test.YtmlgmpjbjbjaoaaKOpen
namespace Go.Proofs.Ytmlgmpjbjbjaoaa
open Go.Joins Go.ChangeShapes Go.WideShapes Go.ChangeAt Go.RowKit Go.Deep
set_option maxRecDepth 100000
/-- a slice of bytes that comes in -/
def BLv (w : World) (v : Value) : Prop := (∃ a c, v = .slice a 0 c) ∨ ∃ b off len cap, 0 < len ∧ len ≤ 9223372036854775807 ∧ v = .slice (some ⟨b, off, none⟩) len cap ∧ b < w.heap.size ∧ ∀ j, j < len → ∃ x : Nat, x < 256 ∧ w.cell? ⟨b, off + j, none⟩ = some (.int .u8 (x : Int))
theorem BLv.below {w w' : World} {v : Value} (h : BLv w v) (hb : Below w.heap.size w w') : BLv w' v := by
  rcases h with h | ⟨b, off, len, cap, h0, h1, h2, h3, h4⟩
  · exact .inl h
  · refine .inr ⟨b, off, len, cap, h0, h1, h2, Nat.lt_of_lt_of_le h3 hb.size, fun j hj => ?_⟩
    obtain ⟨x, hx, hc⟩ := h4 j hj
    exact ⟨x, hx, (hb.cell (p := ⟨b, off + j, none⟩) h3).trans hc⟩
theorem BLv.form {w : World} {v : Value} (h : BLv w v) : ∃ a len cap, v = .slice a len cap := by
  rcases h with ⟨a, c, rfl⟩ | ⟨b, off, len, cap, _, _, rfl, _⟩
  · exact ⟨_, _, _, rfl⟩
  · exact ⟨_, _, _, rfl⟩
section
variable {H : Type} {enc : TypeId × Value → H} {W : World} {base : Nat} {v : Value} {d : DataW H} {ps : List MemPlace}
theorem open_argBv (hv : Value.okWide Try.prog W .any base 46 v) (h : DataW.Trod enc Try.prog W 0 (fun _ => true) true 46 v d ps) : BLv W v := by
  obtain ⟨a0, len, cap, rfl⟩ := okWide_slice Try.underlying46 hv
  obtain ⟨fuel, hf⟩ := h
  have hC : Try.prog.cellsOf 5 = 1 := by kernel_rfl
  rcases open_slice Try.underlying46 hf with ⟨hcs, _⟩ | ⟨a, len', cap', m, n, D, Pl, hcs, _, hl, hm, hmm, _, hi⟩
  · have e : a0 = none ∧ len = 0 ∧ cap = 0 := by simpa [Value.cells] using hcs
    obtain ⟨rfl, rfl, rfl⟩ := e
    exact .inl ⟨_, _, rfl⟩
  · have e : a0 = some a ∧ len = len' ∧ cap = cap' := by simpa [Value.cells] using hcs
    obtain ⟨rfl, rfl, rfl⟩ := e
    have hml : len ≤ m := by rw [hmm]; split <;> omega
    rw [hC] at hi
    have hex : ∀ i, i < len → ∃ x : Nat, x < 256 ∧ W.cell? (a.add i) = some (.int .u8 (x : Int)) := by
      intro i hil
      obtain ⟨cs', hc, ht⟩ := hi i (by omega)
      obtain ⟨s0, rfl, _, hwf⟩ := DataW.trod_int Try.underlying5 ht
      obtain ⟨_, _, hat⟩ := World.cells?_some hc
      have h0 := hat 0 (by decide)
      rw [Go.Deep.add_add] at h0
      simp [Lit.wf, IntKind.min, IntKind.max, IntKind.bits, IntKind.signed] at hwf
      refine ⟨s0.toNat, by omega, ?_⟩
      rw [show ((s0.toNat : Nat) : Int) = s0 by omega]
      simpa using h0
    rcases Nat.eq_zero_or_pos len with h0 | h0
    · subst h0
      exact .inl ⟨_, _, rfl⟩
    · obtain ⟨x, _, hc0⟩ := hex 0 h0
      obtain ⟨b, off, rfl⟩ := plain_addr hc0
      refine .inr ⟨b, off, len, cap, h0, by unfold maxLen at hm; omega, rfl, block_lt_of_cell (by rw [Addr.add_lit] at hc0; exact hc0), fun j hj => ?_⟩
      obtain ⟨y, hy, h1⟩ := hex j hj
      rw [Addr.add_lit] at h1
      exact ⟨y, hy, h1⟩
end
end Go.Proofs.Ytmlgmpjbjbjaoaa
