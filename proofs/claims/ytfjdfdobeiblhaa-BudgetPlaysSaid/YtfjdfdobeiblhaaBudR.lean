/- A slice of entries (a key, a size, a number) that lies anywhere in a block: read, and appended to. The document's budget in memory. -/
import Derived.Test.YtfjdfdobeiblhaaBudN
import Derived.Test.YtfjdfdobeiblhaaStrs
import Derived.Deep.Upon
import Derived.OwnWalk
namespace Go.Proofs.Ytfjdfdobeiblhaa
open Go.RowKit
theorem infoO : (Try.prog.info? 62).map (fun i => (i.zero, i.size, i.bytes)) = some (some (.agg #[.string ⟨#[]⟩, .int .i64 0, .int .i64 0]), 3, 32) := by kernel_rfl
def onC (y : It Int) : List Value := [.string (bs y.1), .int .i64 y.2.1, .int .i64 y.2.2]
def onCs (l : List (It Int)) : List Value := l.flatMap onC
theorem onCs_cons (y : It Int) (r : List (It Int)) : onCs (y :: r) = onC y ++ onCs r := rfl
theorem onCs_append (a b : List (It Int)) : onCs (a ++ b) = onCs a ++ onCs b := by simp [onCs]
theorem onCs_len : ∀ l : List (It Int), (onCs l).length = l.length * 3
  | [] => rfl
  | y :: r => by rw [onCs_cons, List.length_append, onCs_len r]; simp [onC]; omega
theorem onCs_one : ∀ l : List (It Int), ∀ u ∈ onCs l, u.oneCell' = true
  | [], _, h => by cases h
  | y :: r, u, h => by
    rw [onCs_cons] at h
    rcases List.mem_append.1 h with h | h
    · simp [onC] at h
      rcases h with rfl | rfl | rfl <;> rfl
    · exact onCs_one r u h
theorem onCs_at (l : List (It Int)) (j : Nat) (hj : j < l.length) : (onCs l)[j * 3]? = some (.string (bs l[j].1)) ∧ (onCs l)[j * 3 + 1]? = some (.int .i64 l[j].2.1) ∧ (onCs l)[j * 3 + 2]? = some (.int .i64 l[j].2.2) := by
  have e : onCs l = onCs (l.take j) ++ (onC l[j] ++ onCs (l.drop (j + 1))) := by
    conv => lhs; rw [← List.take_append_drop j l, List.drop_eq_getElem_cons hj]
    rw [onCs_append, onCs_cons]
  have hl : (onCs (l.take j)).length = j * 3 := by rw [onCs_len, List.length_take, Nat.min_eq_left (by omega)]
  rw [e]
  refine ⟨?_, ?_, ?_⟩
  · rw [List.getElem?_append_right (by omega), hl, Nat.sub_self]; rfl
  · rw [List.getElem?_append_right (by omega), hl, show j * 3 + 1 - j * 3 = 1 from by omega]; rfl
  · rw [List.getElem?_append_right (by omega), hl, show j * 3 + 2 - j * 3 = 2 from by omega]; rfl
/-- the slice: its cells are there, the first of them hold the entries -/
structure OLat (w : World) (g off c : Nat) (l : List (It Int)) : Prop where
  le : l.length ≤ c
  max : c ≤ maxLen
  there : ∀ j, j < c * 3 → (w.cell? ⟨g, off + j, none⟩).isSome = true ∧ w.frozen? ⟨g, off + j, none⟩ = false
  holds : ∀ j, j < l.length * 3 → w.cell? ⟨g, off + j, none⟩ = (onCs l)[j]?
  lt : g < w.heap.size
def OL (w : World) (v : Value) (l : List (It Int)) : Prop := (v = .slice none 0 0 ∧ l = []) ∨ ∃ g off c, v = .slice (some ⟨g, off, none⟩) l.length c ∧ OLat w g off c l
theorem OLat.keep {w w' : World} {g off c : Nat} {l : List (It Int)} (h : OLat w g off c l) (hk : w'.heap[g]? = w.heap[g]?) : OLat w' g off c l :=
  ⟨h.le, h.max, fun j hj => by rw [World.cell?_of_block (a := ⟨g, off + j, none⟩) hk, World.frozen?_of_block (a := ⟨g, off + j, none⟩) hk]; exact h.there j hj,
    fun j hj => (World.cell?_of_block (a := ⟨g, off + j, none⟩) hk).trans (h.holds j hj), by
      have h1 := h.lt
      rw [Array.getElem?_eq_getElem h1] at hk
      exact (Array.getElem?_eq_some_iff.1 hk).1⟩
theorem OL.keep {w w' : World} {v : Value} {l : List (It Int)} (h : OL w v l) (hk : ∀ g, v.ownBlock = some g → w'.heap[g]? = w.heap[g]?) : OL w' v l := by
  rcases h with h | ⟨g, off, c, rfl, h⟩
  · exact .inl h
  · exact .inr ⟨g, off, c, rfl, h.keep (hk g rfl)⟩
theorem OL.lt {w : World} {v : Value} {l : List (It Int)} (h : OL w v l) : ∀ g, v.ownBlock = some g → g < w.heap.size := by
  rcases h with ⟨rfl, -⟩ | ⟨g, off, c, rfl, h⟩
  · intro g hg; simp [Value.ownBlock] at hg
  · intro g' hg
    have : g = g' := by simpa [Value.ownBlock] using hg
    rw [← this]; exact h.lt
theorem OL.form {w : World} {v : Value} {l : List (It Int)} (h : OL w v l) : ∃ A c, v = .slice A l.length c := by
  rcases h with ⟨rfl, rfl⟩ | ⟨g, off, c, rfl, h⟩
  · exact ⟨none, 0, rfl⟩
  · exact ⟨_, _, rfl⟩
theorem OL_nil (w : World) : OL w (.slice none 0 0) [] := .inl ⟨rfl, rfl⟩
theorem OL.get {w : World} {A : Option Addr} {n c : Nat} {l : List (It Int)} (h : OL w (.slice A n c) l) (j : Nat) (hj : j < l.length) : ∃ g off, A = some ⟨g, off, none⟩ ∧ OLat w g off c l ∧
    w.cell? ⟨g, off + j * 3, none⟩ = some (.string (bs l[j].1)) ∧ w.cell? ⟨g, off + j * 3 + 1, none⟩ = some (.int .i64 l[j].2.1) ∧ w.cell? ⟨g, off + j * 3 + 2, none⟩ = some (.int .i64 l[j].2.2) := by
  rcases h with ⟨-, rfl⟩ | ⟨g, off, c', hv, h⟩
  · cases hj
  · cases hv
    obtain ⟨h0, h1, h2⟩ := onCs_at l j hj
    refine ⟨g, off, rfl, h, (h.holds _ (by omega)).trans h0, ?_, ?_⟩
    · have := (h.holds (j * 3 + 1) (by omega)).trans h1
      rwa [← Nat.add_assoc] at this
    · have := (h.holds (j * 3 + 2) (by omega)).trans h2
      rwa [← Nat.add_assoc] at this
/-- a part of it, at its end -/
theorem OLat.drop {w : World} {g off c : Nat} {a b : List (It Int)} (h : OLat w g off c (a ++ b)) : OLat w g (off + a.length * 3) (c - a.length) b := by
  have h1 := h.le
  rw [List.length_append] at h1
  refine ⟨by omega, by have := h.max; omega, fun j hj => ?_, fun j hj => ?_, h.lt⟩
  · rw [Nat.add_assoc]
    exact h.there _ (by omega)
  · rw [Nat.add_assoc, h.holds _ (by rw [List.length_append]; omega), onCs_append, List.getElem?_append_right (by rw [onCs_len]; omega), onCs_len]
    congr 1; omega
theorem OLat.take {w : World} {g off c : Nat} {a b : List (It Int)} (h : OLat w g off c (a ++ b)) : ∀ j u, (onCs a)[j]? = some u → w.cell? ((⟨g, off, none⟩ : Addr).add j) = some u := by
  intro j u hj
  have hlt : j < a.length * 3 := by
    have := (List.getElem?_eq_some_iff.1 hj).1
    rwa [onCs_len] at this
  rw [Addr.add_lit, h.holds j (by rw [List.length_append]; omega), onCs_append, List.getElem?_append_left (by rw [onCs_len]; exact hlt)]
  exact hj
theorem grown_setCellA (w : World) (a : Addr) (u : Value) : w.grownBy (w.setCell a u) (some a.block) :=
  ⟨rfl, rfl, rfl, by simp [World.setCell], fun k _ hk => Below.heap_setCell _ _ _ _ (fun e => hk (by rw [e]))⟩
theorem grown_setCells (g : Nat) : ∀ (vs : List Value) (o : Nat) (w : World), w.grownBy (w.setCells g o vs) (some g)
  | [], o, w => ⟨rfl, rfl, rfl, Nat.le_refl _, fun _ _ _ => rfl⟩
  | v :: r, o, w => by
    rw [World.setCells]
    have h1 := grown_setCellA w ⟨g, o, none⟩ v
    have h2 := grown_setCells g r (o + 1) (w.setCell ⟨g, o, none⟩ v)
    exact ⟨h2.os.trans h1.os, h2.tape.trans h1.tape, h2.output.trans h1.output, Nat.le_trans h1.size h2.size, fun k hk hn => (h2.block k (Nat.lt_of_lt_of_le hk h1.size) hn).trans (h1.block k hk hn)⟩
/-- 'append(v, new...)' out of whatever source -/
theorem run_appO {w : World} {v xv : Value} {l new : List (It Int)} (h : OL w v l) (ty : TypeId) (hx : Src Try.prog 3 27 xv new.length (onCs new) w) (hlen : l.length + new.length ≤ 1000000) :
    ∃ v' w', (Builtin.append_ #[27, 27] ty #[v, xv]).run Try.prog w = .ok v' w' ∧ OL w' v' (l ++ new) ∧ w.grownBy w' v.ownBlock ∧ (v'.ownBlock = v.ownBlock ∨ ∀ g, v'.ownBlock = some g → w.heap.size ≤ g) := by
  obtain ⟨i0, hi, hz0, hz1, hz2⟩ := info_parts infoO
  have ht := Try.underlying27
  rw [← hz1] at hx
  by_cases hn : new = []
  · subst hn
    obtain ⟨A, c, rfl⟩ := h.form
    refine ⟨_, w, run_append_nothing w _ _ ty _ i0 ht hi A l.length c ?_ xv (by simpa [onCs] using hx), by rw [List.append_nil]; exact h, ⟨rfl, rfl, rfl, Nat.le_refl _, fun _ _ _ => rfl⟩, .inl rfl⟩
    rcases h with ⟨hv, rfl⟩ | ⟨g, off, c', hv, h⟩
    · cases hv; exact Nat.le_refl _
    · cases hv; exact h.le
  have hpos : 0 < new.length := List.length_pos_iff.2 hn
  have grow : ∀ (A : Option Addr) (c : Nat), v = .slice A l.length c → c < l.length + new.length → (Builtin.firstCells i0.size l.length (.slice A l.length c)).run Try.prog w.drew = .ok (onCs l).toArray w.drew →
      ∃ v' w', (Builtin.append_ #[27, 27] ty #[v, xv]).run Try.prog w = .ok v' w' ∧ OL w' v' (l ++ new) ∧ w.grownBy w' v.ownBlock ∧ (v'.ownBlock = v.ownBlock ∨ ∀ g, v'.ownBlock = some g → w.heap.size ≤ g) := by
    intro A c hv hlt hold
    subst hv
    have hcap := grownCap_le_maxLen w (l.length + new.length) c 62 (by unfold maxLen; omega)
    have hge := grownCap_ge w (l.length + new.length) c 62
    have hrun := run_append_grow_src w _ _ ty _ i0 _ ht hi hz0 A l.length c (onCs l) hold xv new.length (onCs new) hx hlt (by omega) (growslice_fits hlt (by rw [hz2]; omega))
    generalize grownCap w (l.length + new.length) c 62 = C at *
    refine ⟨_, _, hrun, .inr ⟨w.heap.size, 0, C, by rw [List.length_append], ⟨by rw [List.length_append]; exact hge, hcap, ?_, ?_, ?_⟩⟩, ?_, .inr ?_⟩
    · intro j hj
      have hb : (w.drew.alloc (.cells ((onCs l ++ onCs new).toArray ++ Builtin.zeroCells (Value.agg #[.string ⟨#[]⟩, .int .i64 0, .int .i64 0]).cells (C - (l.length + new.length))) 62)).heap[w.heap.size]? = some (.cells ((onCs l ++ onCs new).toArray ++ Builtin.zeroCells (Value.agg #[.string ⟨#[]⟩, .int .i64 0, .int .i64 0]).cells (C - (l.length + new.length))) 62 (0, 0)) := heap_alloc_new w.drew _
      rw [cell_of_row _ _ _ _ _ _ hb]
      refine ⟨?_, by simp only [World.frozen?, hb]; simp⟩
      have hsz : j < ((onCs l ++ onCs new).toArray ++ Builtin.zeroCells (Value.agg #[.string ⟨#[]⟩, .int .i64 0, .int .i64 0]).cells (C - (l.length + new.length))).size := by
        simp only [Array.size_append, List.size_toArray, List.length_append, onCs_len, size_zeroCells]
        simp [Value.cells]
        omega
      rw [Nat.zero_add, Array.getElem?_eq_getElem hsz]
      rfl
    · intro j hj
      have hb : (w.drew.alloc (.cells ((onCs l ++ onCs new).toArray ++ Builtin.zeroCells (Value.agg #[.string ⟨#[]⟩, .int .i64 0, .int .i64 0]).cells (C - (l.length + new.length))) 62)).heap[w.heap.size]? = some (.cells ((onCs l ++ onCs new).toArray ++ Builtin.zeroCells (Value.agg #[.string ⟨#[]⟩, .int .i64 0, .int .i64 0]).cells (C - (l.length + new.length))) 62 (0, 0)) := heap_alloc_new w.drew _
      rw [cell_of_row _ _ _ _ _ _ hb, Nat.zero_add, onCs_append]
      rw [List.length_append] at hj
      rw [Array.getElem?_append_left (by simp [onCs_len]; omega)]
      simp
    · simp
    · exact ⟨rfl, rfl, rfl, by simp, fun k hk _ => Below.heap_alloc w.drew _ k hk⟩
    · intro g hg
      have : w.heap.size = g := by simpa [Value.ownBlock] using hg
      omega
  rcases h with ⟨rfl, rfl⟩ | ⟨g, off, c, rfl, h⟩
  · exact grow none 0 rfl (by simpa using hpos) (by rw [run_firstCells_none]; rfl)
  · by_cases hroom : l.length + new.length ≤ c
    · have hth : ∀ j, j < (onCs new).length → (w.cell? ⟨g, off + l.length * 3 + j, none⟩).isSome = true ∧ w.frozen? ⟨g, off + l.length * 3 + j, none⟩ = false := by
        intro j hj
        rw [onCs_len] at hj
        rw [Nat.add_assoc]
        exact h.there _ (by omega)
      have hrun := run_append_room_src w _ _ ty _ i0 ht hi g off l.length c xv new.length (onCs new) hx hroom (by rw [hz1]; exact fun j hj => (hth j hj).1) (by rw [hz1]; exact fun j hj => (hth j hj).2)
      rw [hz1] at hrun
      refine ⟨_, _, hrun, .inr ⟨g, off, c, by rw [List.length_append], ⟨by rw [List.length_append]; exact hroom, h.max, ?_, ?_, Nat.lt_of_lt_of_le h.lt (grown_setCells g _ _ w).size⟩⟩, grown_setCells g _ _ w, .inl rfl⟩
      · intro j hj
        obtain ⟨h1, h2⟩ := h.there j hj
        refine ⟨?_, by rw [World.frozen?_setCells]; exact h2⟩
        by_cases hin : l.length * 3 ≤ j ∧ j < l.length * 3 + (onCs new).length
        · have := World.cell?_setCells_in g (onCs new) (off + l.length * 3) w (fun j hj => (hth j hj).1) (j - l.length * 3) (by omega)
          rw [show off + l.length * 3 + (j - l.length * 3) = off + j from by omega] at this
          rw [this]; rfl
        · rw [World.cell?_setCells_out g _ _ w _ (fun _ _ => by show off + j < _ ∨ _ ≤ off + j; omega)]
          exact h1
      · intro j hj
        rw [List.length_append] at hj
        rw [onCs_append]
        by_cases hin : j < l.length * 3
        · rw [World.cell?_setCells_out g _ _ w _ (fun _ _ => by show off + j < _ ∨ _ ≤ off + j; omega), h.holds j hin, List.getElem?_append_left (by rw [onCs_len]; exact hin)]
        · have hj2 : j - l.length * 3 < (onCs new).length := by rw [onCs_len]; omega
          have := World.cell?_setCells_in g (onCs new) (off + l.length * 3) w (fun j hj => (hth j hj).1) (j - l.length * 3) hj2
          rw [show off + l.length * 3 + (j - l.length * 3) = off + j from by omega] at this
          rw [this, List.getElem?_append_right (by rw [onCs_len]; omega), onCs_len, List.getElem?_eq_getElem hj2]
    · refine grow _ c rfl (by omega) (run_firstCells_some w.drew i0.size l.length ⟨g, off, none⟩ l.length c (onCs l) (by rw [onCs_len, hz1]) ?_)
      intro j u hj
      have hlt : j < l.length * 3 := by
        have := (List.getElem?_eq_some_iff.1 hj).1
        rwa [onCs_len] at this
      rw [Addr.add_lit]
      exact (h.holds j hlt).trans hj
theorem wp_appO {w : World} {o : Oper} {a : Act} {K : Act → World → Prop} {Q : Exit → Act → World → Prop} (s x : Operand)
    (ho : o.op = .call { callee := .builtin .append, args := #[s, x], argTypes := #[27, 27] })
    (v xv : Value) (l new : List (It Int)) (hs : a.eval s = v) (h : OL w v l) (hxv : a.eval x = xv) (hx : Src Try.prog 3 27 xv new.length (onCs new) w) (hlen : l.length + new.length ≤ 1000000)
    (hc : ∀ v' w', Hid (OL w' v' (l ++ new)) → Hid (w.grownBy w' v.ownBlock) → Hid (v'.ownBlock = v.ownBlock ∨ ∀ g, v'.ownBlock = some g → w.heap.size ≤ g) → K (a.put o.dst v') w') : o.wp Try.prog a w K Q := by
  obtain ⟨v', w', hr, h1, h2, h3⟩ := run_appO h o.type hx hlen
  unfold Oper.wp execOp
  simp only [ho, resolve, invoke, builtin, Sem.run_bind, Sem.run_pure, Result.andThen_ok, List.map_toArray, List.map_cons, List.map_nil, hs, hxv, hr]
  exact hc v' w' h1 h2 h3
theorem wpList_appO {w : World} {ops : Array Oper} {rest : List Oper} {o : Oper} {a : Act} {Q : Exit → Act → World → Prop} (hgd : o.guard = none) (s x : Operand)
    (ho : o.op = .call { callee := .builtin .append, args := #[s, x], argTypes := #[27, 27] })
    (v xv : Value) (l new : List (It Int)) (hs : a.eval s = v) (h : OL w v l) (hxv : a.eval x = xv) (hx : Src Try.prog 3 27 xv new.length (onCs new) w) (hlen : l.length + new.length ≤ 1000000)
    (hc : ∀ v' w', Hid (OL w' v' (l ++ new)) → Hid (w.grownBy w' v.ownBlock) → Hid (v'.ownBlock = v.ownBlock ∨ ∀ g, v'.ownBlock = some g → w.heap.size ≤ g) → wpList Try.prog ops Q rest (a.put o.dst v') w') : wpList Try.prog ops Q (o :: rest) a w :=
  wpList_plain hgd fun _ hK => wp_appO s x ho v xv l new hs h hxv hx hlen fun v' w' h1 h2 h3 => hK _ _ (hc v' w' h1 h2 h3)
/-- the document's budget: its block, its list; X: its blocks -/
def RB (w : World) (rb : Nat) (X : Nat → Prop) (n m : Nat) (l : List (It Int)) : Prop :=
  ∃ v, bk w rb #[.int .i64 n, .int .i64 m, v] ∧ OL w v l ∧ v.ownBlock ≠ some rb ∧ X = fun k => k = rb ∨ v.ownBlock = some k
theorem RB.lt {w : World} {rb : Nat} {X : Nat → Prop} {n m : Nat} {l : List (It Int)} (h : RB w rb X n m l) : ∀ k, X k → k < w.heap.size := by
  obtain ⟨v, h1, h2, h3, rfl⟩ := h
  rintro k (rfl | hk)
  · exact h1.lt
  · exact h2.lt k hk
theorem RB.keep {w w' : World} {rb : Nat} {X : Nat → Prop} {n m : Nat} {l : List (It Int)} (h : RB w rb X n m l) (hk : ∀ k, X k → w'.heap[k]? = w.heap[k]?) : RB w' rb X n m l := by
  obtain ⟨v, h1, h2, h3, rfl⟩ := h
  exact ⟨v, h1.keep (hk rb (.inl rfl)), h2.keep (fun g hg => hk g (.inr hg)), h3, rfl⟩
theorem RB.bel {w w' : World} {rb : Nat} {X : Nat → Prop} {n m : Nat} {l : List (It Int)} (h : RB w rb X n m l) (hb : Below w.heap.size w w') : RB w' rb X n m l := h.keep fun k hk => hb.block k (h.lt k hk)
end Go.Proofs.Ytfjdfdobeiblhaa
