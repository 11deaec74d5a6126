/- Directives that are put together, plainly: a name alone, a name and a token, a name and a text in quotes; what they are read as. A slice of bytes that comes in. -/
import Derived.Test.YtfjikkaejhihkaaDirN
namespace Go.Proofs.Ytfjikkaejhihkaa
open Go.RowKit

theorem say_alone {n : List UInt8} (ht : token n = true) (hl : lower n = n) : sayD n = some (n, [], false, []) := by
  unfold sayD
  rw [cutE_none (tok_ne61 ht)]
  simp [ht, hl]
theorem say_bare {n v : List UInt8} (ht : token n = true) (hl : lower n = n) (hv : token v = true) : sayD (n ++ 61 :: v) = some (n, v, true, []) := by
  unfold sayD
  rw [cutE_of (tok_ne61 ht)]
  simp [ht, hl, hv]
theorem tok_quote {v : List UInt8} (h : v.all mayB = true) : token (quoteS v) = false := by
  unfold token quoteS
  rw [if_pos h]
  simp only [List.cons_append, List.all_cons]
  have : tokB 34 = false := by decide
  rw [this]
  simp
theorem say_quoted {n v : List UInt8} (ht : token n = true) (hl : lower n = n) (hv : v.all mayB = true) : sayD (n ++ 61 :: quoteS v) = some (n, v, true, []) := by
  unfold sayD
  rw [cutE_of (tok_ne61 ht)]
  simp [ht, hl, tok_quote hv, unquote_quote v hv]
/-- the pieces that were put together, and the directives that they are -/
structure BackP (g : List UInt8) (W : List (List UInt8)) (M : List Dv) (k : Nat) : Prop where
  map : W.map sayD = M.map some
  pcs : ∀ x ∈ W, Piece x
  len : W.length ≤ k
  siz : (g ++ glued g W).length ≤ 4 + 800 * k
theorem BackP.nil {g : List UInt8} (hg : g.length ≤ 4) : BackP g [] [] 0 := ⟨rfl, (fun x h => by cases h), Nat.le_refl _, by simp [glued]; omega⟩
theorem BackP.skip {g : List UInt8} {W : List (List UInt8)} {M : List Dv} {k : Nat} (h : BackP g W M k) : BackP g W M (k + 1) := ⟨h.map, h.pcs, Nat.le_succ_of_le h.len, Nat.le_trans h.siz (by omega)⟩
theorem BackP.step {g : List UInt8} {W : List (List UInt8)} {M : List Dv} {k : Nat} (h : BackP g W M k) (hg : g.length ≤ 4) {x : List UInt8} {d : Dv} (hs : sayD x = some d) (hp : Piece x) (hx : x.length ≤ 700) : BackP g (W ++ [x]) (M ++ [d]) (k + 1) := by
  refine ⟨by simp [h.map, hs], fun y hy => ?_, by have := h.len; simp; omega, ?_⟩
  · rcases List.mem_append.1 hy with h1 | h1
    · exact h.pcs y h1
    · rw [List.mem_singleton.1 h1]; exact hp
  · have h1 := h.siz
    rw [glued_snoc]
    simp only [List.length_append, List.length_cons] at h1 ⊢
    omega
theorem BackP.eqlen {g : List UInt8} {W : List (List UInt8)} {M : List Dv} {k : Nat} (h : BackP g W M k) : M.length ≤ k := by
  have h1 := congrArg List.length h.map
  have h2 := h.len
  simp only [List.length_map] at h1
  omega
theorem BackP.read {g : List UInt8} {W : List (List UInt8)} {M : List Dv} {k : Nat} (h : BackP g W M k) (hg : gaps g) (hk : k ≤ 64) : dirsAll [g ++ glued g W] = M := by
  obtain ⟨h1, h2⟩ := split_glued hg W h.pcs (Nat.le_trans h.len hk)
  have h3 : dirs (g ++ glued g W) = W.filterMap sayD := by unfold dirs; rw [if_pos h1, h2]
  unfold dirsAll
  rw [List.flatMap_cons, List.flatMap_nil, List.append_nil, h3]
  have h4 : ∀ (W : List (List UInt8)) (M : List Dv), W.map sayD = M.map some → W.filterMap sayD = M := by
    intro W
    induction W with
    | nil => intro M h; cases M with | nil => rfl | cons y r => simp at h
    | cons x t ih =>
      intro M h
      cases M with
      | nil => simp at h
      | cons y r =>
        simp only [List.map_cons, List.cons.injEq] at h
        rw [List.filterMap_cons, h.1]
        simp only
        rw [ih r h.2]
  exact h4 W M h.map
theorem gaps_repD (c : UInt8) (hc : blankB c = true) : ∀ n, gaps (Lib.repeatL [c] n)
  | 0 => by intro x hx; cases hx
  | n + 1 => by
    intro x hx
    simp only [Lib.repeatL, List.singleton_append, List.mem_cons] at hx
    rcases hx with rfl | hx
    · exact hc
    · exact gaps_repD c hc n x hx

/-- a slice of bytes that comes in -/
def BLd (w : World) (v : Value) : Prop := (∃ a c, v = .slice a 0 c) ∨ ∃ b off len cap, 0 < len ∧ len ≤ 9223372036854775807 ∧ v = .slice (some ⟨b, off, none⟩) len cap ∧ b < w.heap.size ∧ ∀ j, j < len → ∃ x : Nat, x < 256 ∧ w.cell? ⟨b, off + j, none⟩ = some (.int .u8 (x : Int))
theorem BLd.below {w w' : World} {v : Value} (h : BLd w v) (hb : Below w.heap.size w w') : BLd w' v := by
  rcases h with h | ⟨b, off, len, cap, h0, h1, h2, h3, h4⟩
  · exact .inl h
  · refine .inr ⟨b, off, len, cap, h0, h1, h2, Nat.lt_of_lt_of_le h3 hb.size, fun j hj => ?_⟩
    obtain ⟨x, hx, hc⟩ := h4 j hj
    exact ⟨x, hx, (hb.cell (p := ⟨b, off + j, none⟩) h3).trans hc⟩
theorem BLd.form {w : World} {v : Value} (h : BLd w v) : ∃ a len cap, v = .slice a len cap := by
  rcases h with ⟨a, c, rfl⟩ | ⟨b, off, len, cap, _, _, rfl, _⟩
  · exact ⟨_, _, _, rfl⟩
  · exact ⟨_, _, _, rfl⟩
end Go.Proofs.Ytfjikkaejhihkaa
